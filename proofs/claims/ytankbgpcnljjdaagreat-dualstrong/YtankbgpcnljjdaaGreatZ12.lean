/-
 The walk of package point's Broken, whatever it is handed (written by makers/n5.py). The walks of package point's Activities, Feasible, Value, whatever they are handed (written by makers/n6.py). The walks of package ray's times, free, endless, slope, by values (written by makers/ra1.py). The walks of package ray's slope, by values, of Recedes, Valid, whatever they are handed (written by makers/ra2.py). The walk of package ray's Along, whatever it is handed (written by makers/ra3.py). The walks of law10's num, two and first (written by makers/rf1.py). The walks of law11's num, col, half, best and first (written by makers/du9.py). Lists of lists of numbers; what package dual's Reduced makes, by values; its times (written by makers/du1.py).
-/
import Derived.Test.YtankbgpcnljjdaaGreatZ11
import Derived.Test.YtankbgpcnljjdaaGreatZ9
import Derived.Test.YtankbgpcnljjdaaGreatZ8
import Derived.Test.YtankbgpcnljjdaaGreatZ0
import Derived.Test.YtankbgpcnljjdaaGreatZ6
namespace Go.Proofs.YtankbgpcnljjdaaGreat
open Go.RowKit
theorem tsB_mem {n:Nat}:∀{ts:List (Int × Rat)} {l:Int},tsB n l ts=true→∀t ∈ ts,l<t.1∧t.1<(n:Int)∧t.2≠0
 | [],_,_,t,ht=>by cases ht
 | (z,q) :: r,l,h,t,ht=>by
  simp only [tsB,Bool.and_eq_true,decide_eq_true_eq] at h;obtain ⟨h1,h2,h3,h4⟩:=h;rcases List.mem_cons.1 ht with rfl | ht
  ·exact ⟨h1,h2,h3⟩
  ·have:=tsB_mem h4 t ht;exact ⟨by omega,this.2⟩
theorem tsB_len {n:Nat}:∀{ts:List (Int × Rat)} {l:Int},tsB n l ts=true→l<(n:Int)→(ts.length:Int)≤n-1-l
 | [],l,_,hl=>by simp;omega
 | (z,q) :: r,l,h,hl=>by
  simp only [tsB,Bool.and_eq_true,decide_eq_true_eq] at h;obtain ⟨h1,h2,h3,h4⟩:=h;have:=tsB_len h4 h2;simp only [List.length_cons];omega
def BdOk (li:Int) (lq:Rat) (hi:Int) (hq:Rat):Prop:=(li=0∨(li=-1∨li=1)∧lq=0)∧(hi=0∨(hi=-1∨hi=1)∧hq=0)
theorem bdB_ok {li lq hi hq} (h:bdB li lq hi hq=true):BdOk li lq hi hq:=by
 simp only [bdB,Bool.and_eq_true,Bool.or_eq_true,decide_eq_true_eq] at h;exact ⟨h.1.imp id (fun h=>⟨.inl h.1,h.2⟩),h.2.imp id (fun h=>⟨.inr h.1,h.2⟩)⟩
structure MvP (cs:List CV) (rs:List RV):Prop where
 cl:cs.length≤64
 rl:rs.length≤64
 cb:∀v ∈ cs,BdOk v.li v.lq v.hi v.hq
 rb:∀v ∈ rs,BdOk v.li v.lq v.hi v.hq
 tc:∀v ∈ rs,∀t ∈ v.ts,0≤t.1∧t.1<(cs.length:Int)
 tl:∀v ∈ rs,v.ts.length≤64
theorem mvOk_p {cs rs} (h:mvOk cs rs=true):MvP cs rs:=by
 simp only [mvOk,Bool.and_eq_true,decide_eq_true_eq,List.all_eq_true] at h;obtain ⟨h1,h2,h3,h4,_⟩:=h;refine ⟨h1,h2,fun v hv=>bdB_ok (h3 v hv),fun v hv=>bdB_ok (h4 v hv).1,fun v hv t ht=>?_,fun v hv=>?_⟩
 ·have:=tsB_mem (h4 v hv).2.1 t ht;exact ⟨by omega,this.2.1⟩
 ·have:=tsB_len (h4 v hv).2.1 (by omega);omega
def bcB (cs:List CV) (xs:List Rat) (j:Nat):Bool:=match cs[j]?,xs[j]? with
 | some v,some q=>!(kpsB q v.li v.lq v.hi v.hq)
 | _,_=>false
def brB (rs:List RV) (xs:List Rat) (j:Nat):Bool:=match rs[j]? with
 | some v=>!(kpsB (actQ xs v) v.li v.lq v.hi v.hq)
 | none=>false
def BrAns (w w':World) (e:Ending) (er:Int) (cs:List CV) (rs:List RV) (xs:List Rat):Prop:=Below w.heap.size w w' ∧
 ((er≠0∧e=.returned (.tuple #[.slice none 0 0,.slice none 0 0,.int .i64 er]))∨(er=0∧∃xa xc ya yc,e=.returned (.tuple #[.slice xa (crl (bcB cs xs) cs.length).length xc,.slice ya (crl (brB rs xs) rs.length).length yc,.int .i64 0])∧Il w' xa (crl (bcB cs xs) cs.length)∧Il w' ya (crl (brB rs xs) rs.length)))
theorem en_of {L:Nat} {w:World} {i i':Int} {t:Nm} {q:Rat} (h:NmV L w t q) (hL:L≤4096) (hi:i=i') (hb:i'=0∨(i'=-1∨i'=1)∧q=0):En 4096 w i t.s t.x t.n t.c t.f t.y t.m t.d t.g q:=⟨Rn.mono h hL,by rw [hi];exact hb⟩
set_option maxRecDepth 100000 in
set_option maxHeartbeats 8000000 in
theorem pBroken_v {w:World} {L:Nat} {M:Mo} {off:Rat} {cs:List CV} {rs:List RV} {ao:Option Addr} {k cap:Nat} {X:Nat→Nm} {xs:List Rat} {er:Int} (hW:MoW w M) (hx:Rl w ao k X) (hk:k≤1048576) (he:pckE M k X=er) (hv:er=0→MoV L w M off cs rs∧mvOk cs rs=true∧Rf L w ao xs∧xs.length=k∧k=cs.length) (hL:L≤30) :
  Calls Tryz.prog 52 #[M.val,.slice ao k cap] w fun e w'=>BrAns w w' e er cs rs xs:=by
 have CC:=hid (fun W (hW2:Below w.heap.size w W)=>pcheck_c (cap:=cap) (hW.below hW2) (hx.below hW2) hk);rw [he] at CC;clear hW hx he;obtain ⟨M0,hM0⟩:∃z,M=z:=⟨_,rfl⟩;have HV:=hid hv;clear hv;rw [hM0] at HV CC ⊢;have CA:Hid (er=0→∀W,Below w.heap.size w W→Calls Tryz.prog 77 #[M0.val,.slice ao k cap] W fun e w'=>∃a c,e=.returned (.slice a rs.length c)∧Below W.heap.size W w'∧(rs.length≤c∧c≤9223372036854775807)∧Hid (Rf (KA L) w' a (rs.map (actQ xs)))):=fun h0 W hW2=>by
  obtain ⟨v1,v2,v3,v4,v5⟩:=HV.out h0;have mp:=mvOk_p v2;exact acts_c (v1.below hW2) (v3.below hW2) v4 (fun r hr t ht=>by have:=mp.tc r hr t ht;rw [v5];exact this) mp.rl mp.tl (by omega)
 clear hM0;obtain ⟨⟨s,x,n,c,f,y,m,d,g⟩,ca,ck,cc,C,ra,rk,rc,R⟩:=M0;replace CC:Hid (∀W,Below w.heap.size w W→Calls Tryz.prog 33 #[.agg #[.bool s,.slice x n c,.slice y m d,.slice ca ck cc,.slice ra rk rc],.slice ao k cap] W fun e w'=>e=.returned (.int .i64 er)∧Below W.heap.size W w'):=CC;replace CA:Hid (er=0→∀W,Below w.heap.size w W→Calls Tryz.prog 77 #[.agg #[.bool s,.slice x n c,.slice y m d,.slice ca ck cc,.slice ra rk rc],.slice ao k cap] W fun e w'=>∃a c,e=.returned (.slice a rs.length c)∧Below W.heap.size W w'∧(rs.length≤c∧c≤9223372036854775807)∧Hid (Rf (KA L) w' a (rs.map (actQ xs)))):=CA;show Calls Tryz.prog 52 #[.agg #[.bool s,.slice x n c,.slice y m d,.slice ca ck cc,.slice ra rk rc],.slice ao k cap] w _;have hb:=below_alloc (Below.refl w.heap.size w) (.cells #[.bool s,.slice x n c,.slice y m d,.slice ca ck cc,.slice ra rk rc] 28);have BM:Hid (Bk (w.alloc (.cells #[.bool s,.slice x n c,.slice y m d,.slice ca ck cc,.slice ra rk rc] 28)) w.heap.size [.bool s,.slice x n c,.slice y m d,.slice ca ck cc,.slice ra rk rc] 28):=bk_new w [.bool s,.slice x n c,.slice y m d,.slice ca ck cc,.slice ra rk rc] 28;have HB:=hid hb;clear hb;go_enter Tryz.func52,Tryz.ntmps52;go_wp2_with fail
 generalize w.alloc (.cells #[.bool s,.slice x n c,.slice y m d,.slice ca ck cc,.slice ra rk rc] 28)=w0 at *;refine (CC.out _ HB.out).mono ?_;rintro e w1 ⟨rfl,hb⟩;replace HB:=hid (HB.out.trans (hb.mono HB.out.size));replace BM:=hid (BM.out.below hb)
 clear hb CC;by_cases h0:er=0
 case neg =>
  have h1:(er != 0)=true:=by simpa using h0
  have H0:=hid h0;go_wp2
  go_ret3
  exact ⟨HB.out,.inl ⟨H0.out,rfl⟩⟩
 have CA2:=hid (CA.out h0);obtain ⟨v1,v2,v3,v4,v5⟩:=HV.out h0;have mp:=mvOk_p v2;subst h0;have l64:=mp.cl;have r64:=mp.rl
 have HC:Hid (∀j v,cs[j]?=some v→(∃b o,ca=some ⟨b,o,none⟩∧Cs w b (o+j*12) (C j).vs)∧ColV L w (C j) v):=v1.cls;have HR:Hid (∀j v,rs[j]?=some v→(∃b o,ra=some ⟨b,o,none⟩∧Cs w b (o+j*10) (R j).vs)∧RowV L w (R j) v):=v1.rls;have hck:ck=cs.length:=v1.ck;have hrk:rk=rs.length:=v1.rk;subst hck hrk;subst v5;have HX:=hid v3;have HXL:=hid v4;have MP:=hid mp
 clear v1 v2 v3 v4 mp CA HV;have r3:=BM.out.cell (j:=3) rfl;go_wp2_with fail
 clear r3;go_loopw [8,24] (fun ov t wr=>∃(i:Nat),i≤cs.length∧t=.int .i64 i∧Hid (Below w1.heap.size w1 wr)∧Hid (RowG 3 1 w1.heap.size wr ov (crl (bcB cs xs) i).length (ils (crl (bcB cs xs) i)))) (fun _ t _=>cs.length-(intOf t).toNat)
 case atStart=>exact ⟨0,by omega,rfl,Below.refl _ _,rowG_nil _ _ _ _⟩
 case round =>
  obtain ⟨i,hi,rfl,HB2,HRow⟩:=hrel;by_cases hlt:i<cs.length
  ·obtain ⟨v,hv⟩:∃t,cs[i]?=some t:=⟨_,List.getElem?_eq_getElem (by omega)⟩;have hvm:=List.mem_of_getElem? hv;obtain ⟨⟨b,o,hba,hc⟩,hV⟩:=HC.out i v hv;subst hba;have hbz:=HB.out.trans (HB2.out.mono HB.out.size);obtain ⟨hblo,hbhi⟩:=MP.out.cb v hvm;have e1:=en_of (hV.lq.below hbz) (by omega) hV.li hblo;have e2:=en_of (hV.hq.below hbz) (by omega) hV.hi hbhi;obtain ⟨⟨z,⟨s0,x0,n0,c0,f0,y0,m0,d0,g0⟩,⟨i1,⟨s1,x1,n1,c1,f1,y1,m1,d1,g1⟩⟩,⟨i2,⟨s2,x2,n2,c2,f2,y2,m2,d2,g2⟩⟩⟩,hCi⟩:∃t,C i=t:=⟨_,rfl⟩;rw [hCi] at hc e1 e2;replace e1:En 4096 wr i1 s1 x1 n1 c1 f1 y1 m1 d1 g1 v.lq:=e1;replace e2:En 4096 wr i2 s2 x2 n2 c2 f2 y2 m2 d2 g2 v.hq:=e2;have j1:i1=v.li:=by have:=hV.li;rw [hCi] at this;exact this
   have j2:i2=v.hi:=by have:=hV.hi;rw [hCi] at this;exact this
   replace hc:=Cs.below hc hbz;have q0:wr.cell? ⟨b,o+i*12,none⟩=some (.string z):=hc 0 _ rfl;have q1:wr.cell? ⟨b,o+i*12+1,none⟩=some (.bool s0):=hc 1 _ rfl;have q2:wr.cell? ⟨b,o+i*12+2,none⟩=some (.slice x0 n0 c0):=hc 2 _ rfl;have q3:wr.cell? ⟨b,o+i*12+3,none⟩=some (.slice y0 m0 d0):=hc 3 _ rfl;have q4:wr.cell? ⟨b,o+i*12+4,none⟩=some (.int .i64 i1):=hc 4 _ rfl;have q5:wr.cell? ⟨b,o+i*12+5,none⟩=some (.bool s1):=hc 5 _ rfl;have q6:wr.cell? ⟨b,o+i*12+6,none⟩=some (.slice x1 n1 c1):=hc 6 _ rfl;have q7:wr.cell? ⟨b,o+i*12+7,none⟩=some (.slice y1 m1 d1):=hc 7 _ rfl;have q8:wr.cell? ⟨b,o+i*12+8,none⟩=some (.int .i64 i2):=hc 8 _ rfl;have q9:wr.cell? ⟨b,o+i*12+9,none⟩=some (.bool s2):=hc 9 _ rfl;have q10:wr.cell? ⟨b,o+i*12+10,none⟩=some (.slice x2 n2 c2):=hc 10 _ rfl;have q11:wr.cell? ⟨b,o+i*12+11,none⟩=some (.slice y2 m2 d2):=hc 11 _ rfl;obtain ⟨r,hr⟩:∃t,xs[i]?=some t:=⟨_,List.getElem?_eq_getElem (by have:=HXL.out;omega)⟩;obtain ⟨b',o',⟨ss,sx,sn,sc,sf,sy,sm,sd,sg⟩,hax,⟨p0,p1,p2⟩,hr'⟩:=(HX.out.below hbz) i r hr;subst hax;replace p0:wr.cell? ⟨b',o'+i*3,none⟩=some (.bool ss):=p0;replace p1:wr.cell? ⟨b',o'+i*3+1,none⟩=some (.slice sx sn sc):=p1;replace p2:wr.cell? ⟨b',o'+i*3+2,none⟩=some (.slice sy sm sd):=p2;replace hr':Rn 4096 wr ss sx sn sc sf sy sm sd sg r:=Rn.mono hr' (by omega);have HEQ:Hid (∀{t},(bcB cs xs) i=t→(!t)=kpsB r v.li v.lq v.hi v.hq):=by
    intro t ht;rw [←ht,bcB,hv,hr];simp
   clear hr;have hbt:=below_alloc (Below.refl wr.heap.size wr) (.cells #[.string z,.bool s0,.slice x0 n0 c0,.slice y0 m0 d0,.int .i64 i1,.bool s1,.slice x1 n1 c1,.slice y1 m1 d1,.int .i64 i2,.bool s2,.slice x2 n2 c2,.slice y2 m2 d2] 58);have a4:(wr.alloc (.cells #[.string z,.bool s0,.slice x0 n0 c0,.slice y0 m0 d0,.int .i64 i1,.bool s1,.slice x1 n1 c1,.slice y1 m1 d1,.int .i64 i2,.bool s2,.slice x2 n2 c2,.slice y2 m2 d2] 58)).cell? ⟨wr.heap.size,4,none⟩=some (.int .i64 i1):=by simp [go_sem]
   have a5:(wr.alloc (.cells #[.string z,.bool s0,.slice x0 n0 c0,.slice y0 m0 d0,.int .i64 i1,.bool s1,.slice x1 n1 c1,.slice y1 m1 d1,.int .i64 i2,.bool s2,.slice x2 n2 c2,.slice y2 m2 d2] 58)).cell? ⟨wr.heap.size,5,none⟩=some (.bool s1):=by simp [go_sem]
   have a6:(wr.alloc (.cells #[.string z,.bool s0,.slice x0 n0 c0,.slice y0 m0 d0,.int .i64 i1,.bool s1,.slice x1 n1 c1,.slice y1 m1 d1,.int .i64 i2,.bool s2,.slice x2 n2 c2,.slice y2 m2 d2] 58)).cell? ⟨wr.heap.size,6,none⟩=some (.slice x1 n1 c1):=by simp [go_sem]
   have a7:(wr.alloc (.cells #[.string z,.bool s0,.slice x0 n0 c0,.slice y0 m0 d0,.int .i64 i1,.bool s1,.slice x1 n1 c1,.slice y1 m1 d1,.int .i64 i2,.bool s2,.slice x2 n2 c2,.slice y2 m2 d2] 58)).cell? ⟨wr.heap.size,7,none⟩=some (.slice y1 m1 d1):=by simp [go_sem]
   have a8:(wr.alloc (.cells #[.string z,.bool s0,.slice x0 n0 c0,.slice y0 m0 d0,.int .i64 i1,.bool s1,.slice x1 n1 c1,.slice y1 m1 d1,.int .i64 i2,.bool s2,.slice x2 n2 c2,.slice y2 m2 d2] 58)).cell? ⟨wr.heap.size,8,none⟩=some (.int .i64 i2):=by simp [go_sem]
   have a9:(wr.alloc (.cells #[.string z,.bool s0,.slice x0 n0 c0,.slice y0 m0 d0,.int .i64 i1,.bool s1,.slice x1 n1 c1,.slice y1 m1 d1,.int .i64 i2,.bool s2,.slice x2 n2 c2,.slice y2 m2 d2] 58)).cell? ⟨wr.heap.size,9,none⟩=some (.bool s2):=by simp [go_sem]
   have a10:(wr.alloc (.cells #[.string z,.bool s0,.slice x0 n0 c0,.slice y0 m0 d0,.int .i64 i1,.bool s1,.slice x1 n1 c1,.slice y1 m1 d1,.int .i64 i2,.bool s2,.slice x2 n2 c2,.slice y2 m2 d2] 58)).cell? ⟨wr.heap.size,10,none⟩=some (.slice x2 n2 c2):=by simp [go_sem]
   have a11:(wr.alloc (.cells #[.string z,.bool s0,.slice x0 n0 c0,.slice y0 m0 d0,.int .i64 i1,.bool s1,.slice x1 n1 c1,.slice y1 m1 d1,.int .i64 i2,.bool s2,.slice x2 n2 c2,.slice y2 m2 d2] 58)).cell? ⟨wr.heap.size,11,none⟩=some (.slice y2 m2 d2):=by simp [go_sem]
   obtain ⟨t1,ht1⟩:∃t,(bcB cs xs) i=t:=⟨_,rfl⟩;have HT1:=hid ht1;have CK:Hid (∀W,Below wr.heap.size wr W→Calls Tryz.prog 76 #[.agg #[.bool ss,.slice sx sn sc,.slice sy sm sd],.agg #[.int .i64 i1,.bool s1,.slice x1 n1 c1,.slice y1 m1 d1],.agg #[.int .i64 i2,.bool s2,.slice x2 n2 c2,.slice y2 m2 d2]] W fun e w'=>e=.returned (.bool (!t1))∧Below W.heap.size W w'):=fun W hW2=>by
    have hk9:=keeps_c (hr'.below hW2) (e1.below hW2) (e2.below hW2);rw [j1,j2] at hk9;rw [j1,j2,HEQ.out ht1];exact hk9
   have hln:=crl_len (bcB cs xs) i;have i1':((i:Nat):Int)<((cs.length:Nat):Int):=by omega
   clear hCi hc hV hvm hblo hbhi e1 e2 j1 j2 ht1 hr' HEQ hv;go_upto_region 8 with fail
   clear q0 q1 q2 q3 q4 q5 q6 q7 q8 q9 q10 q11;replace p0:=kCb hbt p0;replace p1:=kCb hbt p1;replace p2:=kCb hbt p2
   have HB3:=hid (HB2.out.trans (hbt.mono HB2.out.size));have HRow3:=hid (HRow.out.below hbt)
   replace CK:=hid (fun W (hW2:Below (wr.alloc (.cells #[.string z,.bool s0,.slice x0 n0 c0,.slice y0 m0 d0,.int .i64 i1,.bool s1,.slice x1 n1 c1,.slice y1 m1 d1,.int .i64 i2,.bool s2,.slice x2 n2 c2,.slice y2 m2 d2] 58)).heap.size (wr.alloc (.cells #[.string z,.bool s0,.slice x0 n0 c0,.slice y0 m0 d0,.int .i64 i1,.bool s1,.slice x1 n1 c1,.slice y1 m1 d1,.int .i64 i2,.bool s2,.slice x2 n2 c2,.slice y2 m2 d2] 58)) W)=>CK.out W (hbt.trans (hW2.mono hbt.size)));clear hbz hbt HB2 HRow;generalize hbx:wr.heap.size=bx at *;generalize wr.alloc (.cells #[.string z,.bool s0,.slice x0 n0 c0,.slice y0 m0 d0,.int .i64 i1,.bool s1,.slice x1 n1 c1,.slice y1 m1 d1,.int .i64 i2,.bool s2,.slice x2 n2 c2,.slice y2 m2 d2] 58)=w5 at *;clear hbx;go_region_held3 (fun w'=>w'.cell? ⟨bx,4,none⟩=some (.int .i64 i1)∧w'.cell? ⟨bx,5,none⟩=some (.bool s1)∧w'.cell? ⟨bx,6,none⟩=some (.slice x1 n1 c1)∧w'.cell? ⟨bx,7,none⟩=some (.slice y1 m1 d1)∧w'.cell? ⟨bx,8,none⟩=some (.int .i64 i2)∧w'.cell? ⟨bx,9,none⟩=some (.bool s2)∧w'.cell? ⟨bx,10,none⟩=some (.slice x2 n2 c2)∧w'.cell? ⟨bx,11,none⟩=some (.slice y2 m2 d2)∧w'.cell? ⟨b',o'+i*3,none⟩=some (.bool ss)∧w'.cell? ⟨b',o'+i*3+1,none⟩=some (.slice sx sn sc)∧w'.cell? ⟨b',o'+i*3+2,none⟩=some (.slice sy sm sd))
    (refine ⟨?_,?_,?_,?_,?_,?_,?_,?_,?_,?_,?_⟩ <;> repeat (with_reducible first | assumption | refine kCd ?_ | refine kCb (by assumption) ?_))
    (first | (go_at_call 76;with_reducible refine (CK.out _ belA).mono ?_;rintro e w6 ⟨rfl,hb6⟩))
   have HB6:=hid (HB3.out.trans ((show Below w5.heap.size w5 w6 from belA).mono HB3.out.size));have HRow6:=hid (HRow3.out.below (show Below w5.heap.size w5 w6 from belA))
   clear hb6 HB3 HRow3 CK p0 p1 p2 a4 a5 a6 a7 a8 a9 a10 a11;cases t1
   ·go_wp2;go_roundw
    case rel=>exact ⟨i+1,by omega,by go_num,HB6.out,by show RowG _ _ _ _ _ _ _;rw [crl_no HT1.out];exact HRow6.out⟩
    case measure=>simp [intOf];omega
   ·have hsz:=HB6.out.size;go_wp2_with (at_builtin;go_must (refine wpList_append_one w6 rfl (.tmp 39) (.tmp 41) 100 rfl w1.heap.size 3 8 1 (.int .i64 0) Tryz.underlying100 Tryz.infoInt rfl (by decide) nzi u8 (crl (bcB cs xs) i).length (ils (crl (bcB cs xs) i)) rfl HRow6.out #[.int .i64 (i:Int)] rfl rfl (onei _) (noti _) ?p1 (by decide) hsz ?_))
    case p1=>omega
    intro g8 cap8 w8 hr8 hk8 hb8 hg8;have HB8:=hid (hb8 w1 HB6.out (Nat.le_refl _));have HR8:Hid (RowG 3 1 w1.heap.size w8 (.slice (some ⟨g8,0,none⟩) ((crl (bcB cs xs) i).length+1) cap8) (crl (bcB cs xs) (i+1)).length (ils (crl (bcB cs xs) (i+1)))):=by
     show RowG _ _ _ _ _ _ _;rw [crl_yes HT1.out];simpa [ils] using hr8
    clear hr8 hk8 hb8 hg8 HRow6 HB6 hsz;go_wp2;go_roundw
    case rel=>exact ⟨i+1,by omega,by go_num,HB8.out,HR8.out⟩
    case measure=>simp [intOf];omega
  ·have i4:¬(((i:Nat):Int)<((cs.length:Nat):Int)):=by omega
   have e9:i=cs.length:=by omega
   obtain ⟨xa,xc,hvs⟩:=HRow.out.slice;have HL2:=HRow.out;rw [hvs] at HL2;have HIL:=hid (rowg_il HL2);rw [e9] at HIL hvs;subst hvs;replace BM:=hid (BM.out.below HB2.out);replace HB:=hid (HB.out.trans (HB2.out.mono HB.out.size));clear HL2 HRow HB2 e9 HX HC;have r0:=BM.out.cell (j:=0) rfl;have r1:=BM.out.cell (j:=1) rfl;have r2:=BM.out.cell (j:=2) rfl;have r3:=BM.out.cell (j:=3) rfl;have r4:=BM.out.cell (j:=4) rfl;go_wp2_with fail
   refine (CA2.out _ HB.out).mono ?_;rintro e w7 ⟨aa,ac,rfl,hb7,hac,HAct⟩;replace HB:=hid (HB.out.trans (hb7.mono HB.out.size));replace BM:=hid (BM.out.below hb7);have HCols:=hid (HIL.out.below hb7)
   clear hb7 HIL r0 r1 r2 r3 r4 CA2;have r4:=BM.out.cell (j:=4) rfl;go_wp2_with fail
   clear r4;go_loopw [9,50] (fun ov t wr=>∃(i:Nat),i≤rs.length∧t=.int .i64 i∧Hid (Below w7.heap.size w7 wr)∧Hid (RowG 3 1 w7.heap.size wr ov (crl (brB rs xs) i).length (ils (crl (brB rs xs) i)))) (fun _ t _=>rs.length-(intOf t).toNat)
   case atStart=>exact ⟨0,by omega,rfl,Below.refl _ _,rowG_nil _ _ _ _⟩
   case round =>
    obtain ⟨i,hi,rfl,HB2,HRow⟩:=hrel;by_cases hlt:i<rs.length
    ·obtain ⟨v,hv⟩:∃t,rs[i]?=some t:=⟨_,List.getElem?_eq_getElem (by omega)⟩;have hvm:=List.mem_of_getElem? hv;obtain ⟨⟨b,o,hba,hc⟩,hV⟩:=HR.out i v hv;subst hba;have hbz:=HB.out.trans (HB2.out.mono HB.out.size);obtain ⟨hblo,hbhi⟩:=MP.out.rb v hvm;have e1:=en_of (hV.lq.below hbz) (by omega) hV.li hblo;have e2:=en_of (hV.hq.below hbz) (by omega) hV.hi hbhi;obtain ⟨⟨z,⟨i1,⟨s1,x1,n1,c1,f1,y1,m1,d1,g1⟩⟩,⟨i2,⟨s2,x2,n2,c2,f2,y2,m2,d2,g2⟩⟩,ta,tk,tc,tcol,tt⟩,hCi⟩:∃t,R i=t:=⟨_,rfl⟩;rw [hCi] at hc e1 e2;replace e1:En 4096 wr i1 s1 x1 n1 c1 f1 y1 m1 d1 g1 v.lq:=e1;replace e2:En 4096 wr i2 s2 x2 n2 c2 f2 y2 m2 d2 g2 v.hq:=e2;have j1:i1=v.li:=by have:=hV.li;rw [hCi] at this;exact this
     have j2:i2=v.hi:=by have:=hV.hi;rw [hCi] at this;exact this
     replace hc:=Cs.below hc hbz;have q0:wr.cell? ⟨b,o+i*10,none⟩=some (.string z):=hc 0 _ rfl;have q1:wr.cell? ⟨b,o+i*10+1,none⟩=some (.int .i64 i1):=hc 1 _ rfl;have q2:wr.cell? ⟨b,o+i*10+2,none⟩=some (.bool s1):=hc 2 _ rfl;have q3:wr.cell? ⟨b,o+i*10+3,none⟩=some (.slice x1 n1 c1):=hc 3 _ rfl;have q4:wr.cell? ⟨b,o+i*10+4,none⟩=some (.slice y1 m1 d1):=hc 4 _ rfl;have q5:wr.cell? ⟨b,o+i*10+5,none⟩=some (.int .i64 i2):=hc 5 _ rfl;have q6:wr.cell? ⟨b,o+i*10+6,none⟩=some (.bool s2):=hc 6 _ rfl;have q7:wr.cell? ⟨b,o+i*10+7,none⟩=some (.slice x2 n2 c2):=hc 7 _ rfl;have q8:wr.cell? ⟨b,o+i*10+8,none⟩=some (.slice y2 m2 d2):=hc 8 _ rfl;have q9:wr.cell? ⟨b,o+i*10+9,none⟩=some (.slice ta tk tc):=hc 9 _ rfl;have hr:(rs.map (actQ xs))[i]?=some (actQ xs v):=by rw [List.getElem?_map,hv];rfl
     obtain ⟨b',o',⟨ss,sx,sn,sc,sf,sy,sm,sd,sg⟩,hax,⟨p0,p1,p2⟩,hr'⟩:=(HAct.out.below HB2.out) i _ hr;subst hax;replace p0:wr.cell? ⟨b',o'+i*3,none⟩=some (.bool ss):=p0;replace p1:wr.cell? ⟨b',o'+i*3+1,none⟩=some (.slice sx sn sc):=p1;replace p2:wr.cell? ⟨b',o'+i*3+2,none⟩=some (.slice sy sm sd):=p2;replace hr':Rn 4096 wr ss sx sn sc sf sy sm sd sg (actQ xs v):=Rn.mono hr' (by unfold KA;omega);have HEQ:Hid (∀{t},(brB rs xs) i=t→(!t)=kpsB (actQ xs v) v.li v.lq v.hi v.hq):=by
      intro t ht;rw [←ht,brB,hv];simp
     clear hr;have hbt:=below_alloc (Below.refl wr.heap.size wr) (.cells #[.string z,.int .i64 i1,.bool s1,.slice x1 n1 c1,.slice y1 m1 d1,.int .i64 i2,.bool s2,.slice x2 n2 c2,.slice y2 m2 d2,.slice ta tk tc] 61);have a1:(wr.alloc (.cells #[.string z,.int .i64 i1,.bool s1,.slice x1 n1 c1,.slice y1 m1 d1,.int .i64 i2,.bool s2,.slice x2 n2 c2,.slice y2 m2 d2,.slice ta tk tc] 61)).cell? ⟨wr.heap.size,1,none⟩=some (.int .i64 i1):=by simp [go_sem]
     have a2:(wr.alloc (.cells #[.string z,.int .i64 i1,.bool s1,.slice x1 n1 c1,.slice y1 m1 d1,.int .i64 i2,.bool s2,.slice x2 n2 c2,.slice y2 m2 d2,.slice ta tk tc] 61)).cell? ⟨wr.heap.size,2,none⟩=some (.bool s1):=by simp [go_sem]
     have a3:(wr.alloc (.cells #[.string z,.int .i64 i1,.bool s1,.slice x1 n1 c1,.slice y1 m1 d1,.int .i64 i2,.bool s2,.slice x2 n2 c2,.slice y2 m2 d2,.slice ta tk tc] 61)).cell? ⟨wr.heap.size,3,none⟩=some (.slice x1 n1 c1):=by simp [go_sem]
     have a4:(wr.alloc (.cells #[.string z,.int .i64 i1,.bool s1,.slice x1 n1 c1,.slice y1 m1 d1,.int .i64 i2,.bool s2,.slice x2 n2 c2,.slice y2 m2 d2,.slice ta tk tc] 61)).cell? ⟨wr.heap.size,4,none⟩=some (.slice y1 m1 d1):=by simp [go_sem]
     have a5:(wr.alloc (.cells #[.string z,.int .i64 i1,.bool s1,.slice x1 n1 c1,.slice y1 m1 d1,.int .i64 i2,.bool s2,.slice x2 n2 c2,.slice y2 m2 d2,.slice ta tk tc] 61)).cell? ⟨wr.heap.size,5,none⟩=some (.int .i64 i2):=by simp [go_sem]
     have a6:(wr.alloc (.cells #[.string z,.int .i64 i1,.bool s1,.slice x1 n1 c1,.slice y1 m1 d1,.int .i64 i2,.bool s2,.slice x2 n2 c2,.slice y2 m2 d2,.slice ta tk tc] 61)).cell? ⟨wr.heap.size,6,none⟩=some (.bool s2):=by simp [go_sem]
     have a7:(wr.alloc (.cells #[.string z,.int .i64 i1,.bool s1,.slice x1 n1 c1,.slice y1 m1 d1,.int .i64 i2,.bool s2,.slice x2 n2 c2,.slice y2 m2 d2,.slice ta tk tc] 61)).cell? ⟨wr.heap.size,7,none⟩=some (.slice x2 n2 c2):=by simp [go_sem]
     have a8:(wr.alloc (.cells #[.string z,.int .i64 i1,.bool s1,.slice x1 n1 c1,.slice y1 m1 d1,.int .i64 i2,.bool s2,.slice x2 n2 c2,.slice y2 m2 d2,.slice ta tk tc] 61)).cell? ⟨wr.heap.size,8,none⟩=some (.slice y2 m2 d2):=by simp [go_sem]
     obtain ⟨t1,ht1⟩:∃t,(brB rs xs) i=t:=⟨_,rfl⟩;have HT1:=hid ht1;have CK:Hid (∀W,Below wr.heap.size wr W→Calls Tryz.prog 76 #[.agg #[.bool ss,.slice sx sn sc,.slice sy sm sd],.agg #[.int .i64 i1,.bool s1,.slice x1 n1 c1,.slice y1 m1 d1],.agg #[.int .i64 i2,.bool s2,.slice x2 n2 c2,.slice y2 m2 d2]] W fun e w'=>e=.returned (.bool (!t1))∧Below W.heap.size W w'):=fun W hW2=>by
      have hk9:=keeps_c (hr'.below hW2) (e1.below hW2) (e2.below hW2);rw [j1,j2] at hk9;rw [j1,j2,HEQ.out ht1];exact hk9
     have hln:=crl_len (brB rs xs) i;have i1':((i:Nat):Int)<((rs.length:Nat):Int):=by omega
     clear hCi hc hV hvm hblo hbhi e1 e2 j1 j2 ht1 hr' HEQ hv;go_upto_region 15 with fail
     clear q0 q1 q2 q3 q4 q5 q6 q7 q8 q9;replace p0:=kCb hbt p0;replace p1:=kCb hbt p1;replace p2:=kCb hbt p2
     have HB3:=hid (HB2.out.trans (hbt.mono HB2.out.size));have HRow3:=hid (HRow.out.below hbt)
     replace CK:=hid (fun W (hW2:Below (wr.alloc (.cells #[.string z,.int .i64 i1,.bool s1,.slice x1 n1 c1,.slice y1 m1 d1,.int .i64 i2,.bool s2,.slice x2 n2 c2,.slice y2 m2 d2,.slice ta tk tc] 61)).heap.size (wr.alloc (.cells #[.string z,.int .i64 i1,.bool s1,.slice x1 n1 c1,.slice y1 m1 d1,.int .i64 i2,.bool s2,.slice x2 n2 c2,.slice y2 m2 d2,.slice ta tk tc] 61)) W)=>CK.out W (hbt.trans (hW2.mono hbt.size)));clear hbz hbt HB2 HRow;generalize hbx:wr.heap.size=bx at *;generalize wr.alloc (.cells #[.string z,.int .i64 i1,.bool s1,.slice x1 n1 c1,.slice y1 m1 d1,.int .i64 i2,.bool s2,.slice x2 n2 c2,.slice y2 m2 d2,.slice ta tk tc] 61)=w5 at *;clear hbx;go_region_held3 (fun w'=>w'.cell? ⟨bx,1,none⟩=some (.int .i64 i1)∧w'.cell? ⟨bx,2,none⟩=some (.bool s1)∧w'.cell? ⟨bx,3,none⟩=some (.slice x1 n1 c1)∧w'.cell? ⟨bx,4,none⟩=some (.slice y1 m1 d1)∧w'.cell? ⟨bx,5,none⟩=some (.int .i64 i2)∧w'.cell? ⟨bx,6,none⟩=some (.bool s2)∧w'.cell? ⟨bx,7,none⟩=some (.slice x2 n2 c2)∧w'.cell? ⟨bx,8,none⟩=some (.slice y2 m2 d2)∧w'.cell? ⟨b',o'+i*3,none⟩=some (.bool ss)∧w'.cell? ⟨b',o'+i*3+1,none⟩=some (.slice sx sn sc)∧w'.cell? ⟨b',o'+i*3+2,none⟩=some (.slice sy sm sd))
      (refine ⟨?_,?_,?_,?_,?_,?_,?_,?_,?_,?_,?_⟩ <;> repeat (with_reducible first | assumption | refine kCd ?_ | refine kCb (by assumption) ?_))
      (first | (go_at_call 76;with_reducible refine (CK.out _ belA).mono ?_;rintro e w6 ⟨rfl,hb6⟩))
     have HB6:=hid (HB3.out.trans ((show Below w5.heap.size w5 w6 from belA).mono HB3.out.size));have HRow6:=hid (HRow3.out.below (show Below w5.heap.size w5 w6 from belA))
     clear hb6 HB3 HRow3 CK p0 p1 p2 a1 a2 a3 a4 a5 a6 a7 a8;cases t1
     ·go_wp2;go_roundw
      case rel=>exact ⟨i+1,by omega,by go_num,HB6.out,by show RowG _ _ _ _ _ _ _;rw [crl_no HT1.out];exact HRow6.out⟩
      case measure=>simp [intOf];omega
     ·have hsz:=HB6.out.size;go_wp2_with (at_builtin;go_must (refine wpList_append_one w6 rfl (.tmp 65) (.tmp 67) 100 rfl w7.heap.size 3 8 1 (.int .i64 0) Tryz.underlying100 Tryz.infoInt rfl (by decide) nzi u9 (crl (brB rs xs) i).length (ils (crl (brB rs xs) i)) rfl HRow6.out #[.int .i64 (i:Int)] rfl rfl (onei _) (noti _) ?p1 (by decide) hsz ?_))
      case p1=>omega
      intro g8 cap8 w8 hr8 hk8 hb8 hg8;have HB8:=hid (hb8 w7 HB6.out (Nat.le_refl _));have HR8:Hid (RowG 3 1 w7.heap.size w8 (.slice (some ⟨g8,0,none⟩) ((crl (brB rs xs) i).length+1) cap8) (crl (brB rs xs) (i+1)).length (ils (crl (brB rs xs) (i+1)))):=by
       show RowG _ _ _ _ _ _ _;rw [crl_yes HT1.out];simpa [ils] using hr8
      clear hr8 hk8 hb8 hg8 HRow6 HB6 hsz;go_wp2;go_roundw
      case rel=>exact ⟨i+1,by omega,by go_num,HB8.out,HR8.out⟩
      case measure=>simp [intOf];omega
    ·have i4:¬(((i:Nat):Int)<((rs.length:Nat):Int)):=by omega
     have e9:i=rs.length:=by omega
     obtain ⟨ya,yc,hvs⟩:=HRow.out.slice;have HL2:=HRow.out;rw [hvs] at HL2;have HIL:=hid (rowg_il HL2);rw [e9] at HIL;have HVS:=hid hvs;rw [e9] at HVS;have HBF:=hid (HB.out.trans (HB2.out.mono HB.out.size));have HCF:=hid (HCols.out.below HB2.out)
     clear hvs HL2 HRow HB2 HAct e9;rw [HVS.out];go_wp2
     go_ret3
     exact ⟨HBF.out,.inr ⟨rfl,xa,xc,ya,yc,rfl,HCF.out,HIL.out⟩⟩
def AcAns (L:Nat) (w w':World) (e:Ending) (er:Int) (rs:List RV) (xs:List Rat):Prop:=Below w.heap.size w w' ∧
 ((er≠0∧e=.returned (.tuple #[.slice none 0 0,.int .i64 er]))∨(er=0∧∃a c,e=.returned (.tuple #[.slice a rs.length c,.int .i64 0])∧(rs.length≤c∧c≤9223372036854775807)∧Rf (KA L) w' a (rs.map (actQ xs))))
def feasB (cs:List CV) (rs:List RV) (xs:List Rat):Bool:=decide ((crl (bcB cs xs) cs.length).length=0) && decide ((crl (brB rs xs) rs.length).length=0)
def costs (cs:List CV) (xs:List Rat):List Rat:=List.zipWith (fun v x=>v.cost*x) cs xs
def valQ (off:Rat) (cs:List CV) (xs:List Rat):Rat:=psum (off :: costs cs xs) 0
def KV (L:Nat):Nat:=4+65*(2*L+1+1)
def VaAns (L:Nat) (w w':World) (e:Ending) (er:Int) (off:Rat) (cs:List CV) (xs:List Rat):Prop:=Below w.heap.size w w' ∧
 ((er≠0∧e=.returned (.tuple #[.agg #[.bool false,.slice none 0 0,.slice none 0 0],.int .i64 er]))∨(er=0∧∃s x n c f y m d g,e=.returned (.tuple #[.agg #[.bool s,.slice x n c,.slice y m d],.int .i64 0])∧Rn (KV L) w' s x n c f y m d g (valQ off cs xs)))
theorem gr_one {K base:Nat} {w:World} {s:Bool} {x:Option Addr} {n c:Nat} {f:Nat→Int} {y:Option Addr} {m d:Nat} {g:Nat→Int} {q:Rat} (h:Rn K w s x n c f y m d g q) (hb:base≤w.heap.size):Gr K base (w.alloc (.cells #[.bool s,.slice x n c,.slice y m d] 24)) (.slice (some ⟨w.heap.size,0,none⟩) 1 1) [q]:=by
 refine ⟨fun _=>⟨s,x,n,c,f,y,m,d,g⟩,⟨rfl,.inr ⟨w.heap.size,1,#[.bool s,.slice x n c,.slice y m d],rfl,hb,heap_alloc_new w _,Nat.le_refl _,by decide,rfl,rfl,nou_list (not3 _ _ _ _ _ _ _)⟩⟩,fun j q' e=>?_⟩;cases j with
 | zero=>cases e;exact h.alloc _
 | succ j=>simp at e
set_option maxRecDepth 100000 in
set_option maxHeartbeats 4000000 in
theorem pActs_v {w:World} {L:Nat} {M:Mo} {off:Rat} {cs:List CV} {rs:List RV} {ao:Option Addr} {k cap:Nat} {X:Nat→Nm} {xs:List Rat} {er:Int} (hW:MoW w M) (hx:Rl w ao k X) (hk:k≤1048576) (he:pckE M k X=er) (hv:er=0→MoV L w M off cs rs∧mvOk cs rs=true∧Rf L w ao xs∧xs.length=k∧k=cs.length) (hL:L≤30) :
  Calls Tryz.prog 54 #[M.val,.slice ao k cap] w fun e w'=>AcAns L w w' e er rs xs:=by
 have CC:=hid (fun W (hW2:Below w.heap.size w W)=>pcheck_c (cap:=cap) (hW.below hW2) (hx.below hW2) hk);rw [he] at CC;clear hW hx he;have HV:=hid hv;clear hv;have CA:Hid (er=0→∀W,Below w.heap.size w W→Calls Tryz.prog 77 #[M.val,.slice ao k cap] W fun e w'=>∃a c,e=.returned (.slice a rs.length c)∧Below W.heap.size W w'∧(rs.length≤c∧c≤9223372036854775807)∧Hid (Rf (KA L) w' a (rs.map (actQ xs)))):=fun h0 W hW2=>by
  obtain ⟨v1,v2,v3,v4,v5⟩:=HV.out h0;have mp:=mvOk_p v2;exact acts_c (v1.below hW2) (v3.below hW2) v4 (fun r hr t ht=>by have:=mp.tc r hr t ht;rw [v5];exact this) mp.rl mp.tl (by omega)
 obtain ⟨⟨s,x,n,c,f,y,m,d,g⟩,ca,ck,cc,C,ra,rk,rc,R⟩:=M;replace CC:Hid (∀W,Below w.heap.size w W→Calls Tryz.prog 33 #[.agg #[.bool s,.slice x n c,.slice y m d,.slice ca ck cc,.slice ra rk rc],.slice ao k cap] W fun e w'=>e=.returned (.int .i64 er)∧Below W.heap.size W w'):=CC;replace CA:Hid (er=0→∀W,Below w.heap.size w W→Calls Tryz.prog 77 #[.agg #[.bool s,.slice x n c,.slice y m d,.slice ca ck cc,.slice ra rk rc],.slice ao k cap] W fun e w'=>∃a c,e=.returned (.slice a rs.length c)∧Below W.heap.size W w'∧(rs.length≤c∧c≤9223372036854775807)∧Hid (Rf (KA L) w' a (rs.map (actQ xs)))):=CA;clear HV;show Calls Tryz.prog 54 #[.agg #[.bool s,.slice x n c,.slice y m d,.slice ca ck cc,.slice ra rk rc],.slice ao k cap] w _;have hb:=below_alloc (Below.refl w.heap.size w) (.cells #[.bool s,.slice x n c,.slice y m d,.slice ca ck cc,.slice ra rk rc] 28);have BM:Hid (Bk (w.alloc (.cells #[.bool s,.slice x n c,.slice y m d,.slice ca ck cc,.slice ra rk rc] 28)) w.heap.size [.bool s,.slice x n c,.slice y m d,.slice ca ck cc,.slice ra rk rc] 28):=bk_new w [.bool s,.slice x n c,.slice y m d,.slice ca ck cc,.slice ra rk rc] 28;have HB:=hid hb;clear hb;go_enter Tryz.func54,Tryz.ntmps54;go_wp2_with fail
 generalize w.alloc (.cells #[.bool s,.slice x n c,.slice y m d,.slice ca ck cc,.slice ra rk rc] 28)=w0 at *;refine (CC.out _ HB.out).mono ?_;rintro e w1 ⟨rfl,hb⟩;replace HB:=hid (HB.out.trans (hb.mono HB.out.size));replace BM:=hid (BM.out.below hb)
 clear hb CC;by_cases h0:er=0
 case neg =>
  have h1:(er != 0)=true:=by simpa using h0
  have H0:=hid h0;go_wp2
  go_ret2
  exact ⟨HB.out,.inl ⟨H0.out,rfl⟩⟩
 have CA2:=hid (CA.out h0);subst h0;clear CA;have r0:=BM.out.cell (j:=0) rfl;have r1:=BM.out.cell (j:=1) rfl;have r2:=BM.out.cell (j:=2) rfl;have r3:=BM.out.cell (j:=3) rfl;have r4:=BM.out.cell (j:=4) rfl;go_wp2_with fail
 refine (CA2.out _ HB.out).mono ?_;rintro e w2 ⟨aa,ac,rfl,hb,hac,HR⟩;replace HB:=hid (HB.out.trans (hb.mono HB.out.size));have HAC:=hid hac;clear hb hac r0 r1 r2 r3 r4 BM CA2;go_wp2
 go_ret2
 exact ⟨HB.out,.inr ⟨rfl,aa,ac,rfl,HAC.out,HR.out⟩⟩
set_option maxRecDepth 100000 in
set_option maxHeartbeats 4000000 in
theorem pFeas_v {w:World} {L:Nat} {M:Mo} {off:Rat} {cs:List CV} {rs:List RV} {ao:Option Addr} {k cap:Nat} {X:Nat→Nm} {xs:List Rat} {er:Int} (hW:MoW w M) (hx:Rl w ao k X) (hk:k≤1048576) (he:pckE M k X=er) (hv:er=0→MoV L w M off cs rs∧mvOk cs rs=true∧Rf L w ao xs∧xs.length=k∧k=cs.length) (hL:L≤30) :
  Calls Tryz.prog 24 #[M.val,.slice ao k cap] w fun e w'=>e=.returned (.tuple #[.bool (decide (er=0) && feasB cs rs xs),.int .i64 er])∧Below w.heap.size w w':=by
 have CB:Hid (∀W,Below w.heap.size w W→Calls Tryz.prog 52 #[M.val,.slice ao k cap] W fun e w'=>BrAns W w' e er cs rs xs):=fun W hW2=>pBroken_v (hW.below hW2) (hx.below hW2) hk he (fun h0=>⟨(hv h0).1.below hW2,(hv h0).2.1,(hv h0).2.2.1.below hW2,(hv h0).2.2.2⟩) hL
 clear hW hx hv he;obtain ⟨⟨s,x,n,c,f,y,m,d,g⟩,ca,ck,cc,C,ra,rk,rc,R⟩:=M;replace CB:Hid (∀W,Below w.heap.size w W→Calls Tryz.prog 52 #[.agg #[.bool s,.slice x n c,.slice y m d,.slice ca ck cc,.slice ra rk rc],.slice ao k cap] W fun e w'=>BrAns W w' e er cs rs xs):=CB;obtain ⟨l1,hl1⟩:∃z,(crl (bcB cs xs) cs.length).length=z:=⟨_,rfl⟩;obtain ⟨l2,hl2⟩:∃z,(crl (brB rs xs) rs.length).length=z:=⟨_,rfl⟩;have HF:Hid (feasB cs rs xs=(decide (l1=0) && decide (l2=0))):=by show _=_;rw [feasB,hl1,hl2]
 unfold BrAns at CB;rw [hl1,hl2] at CB;clear hl1 hl2;show Calls Tryz.prog 24 #[.agg #[.bool s,.slice x n c,.slice y m d,.slice ca ck cc,.slice ra rk rc],.slice ao k cap] w _;have HB:=hid (below_alloc (Below.refl w.heap.size w) (.cells #[.bool s,.slice x n c,.slice y m d,.slice ca ck cc,.slice ra rk rc] 28));go_enter Tryz.func24,Tryz.ntmps24;go_wp2_with fail
 refine (CB.out _ HB.out).mono ?_;rintro e w1 ⟨hb,hans⟩;replace HB:=hid (HB.out.trans (hb.mono HB.out.size));clear hb CB;rcases hans with ⟨h0,rfl⟩ | ⟨h0,xa,xc,ya,yc,rfl,_,_⟩
 ·have h1:(er==0)=false:=by simpa using h0
  have HE:Hid (decide (er=0)=false):=decide_eq_false h0;clear h0;go_wp2
  go_ret2
  exact ⟨by rw [HE.out];rfl,HB.out⟩
 ·subst h0;by_cases c1:l1=0
  ·subst c1;by_cases c2:l2=0
   ·subst c2;go_wp2
    go_ret2
    exact ⟨by rw [HF.out];rfl,HB.out⟩
   ·have c3:(((l2:Nat):Int)==0)=false:=by simp;omega
    have HE:Hid (decide (l2=0)=false):=decide_eq_false c2;go_wp2
    go_ret2
    exact ⟨by rw [HF.out,HE.out];rfl,HB.out⟩
  ·have c3:(((l1:Nat):Int)==0)=false:=by simp;omega
   have HE:Hid (decide (l1=0)=false):=decide_eq_false c1;go_wp2
   go_ret2
   exact ⟨by rw [HF.out,HE.out];rfl,HB.out⟩
set_option maxRecDepth 100000 in
set_option maxHeartbeats 8000000 in
theorem pValue_v {w:World} {L:Nat} {M:Mo} {off:Rat} {cs:List CV} {rs:List RV} {ao:Option Addr} {k cap:Nat} {X:Nat→Nm} {xs:List Rat} {er:Int} (hW:MoW w M) (hx:Rl w ao k X) (hk:k≤1048576) (he:pckE M k X=er) (hv:er=0→MoV L w M off cs rs∧mvOk cs rs=true∧Rf L w ao xs∧xs.length=k∧k=cs.length) (hL:L≤30) :
  Calls Tryz.prog 12 #[M.val,.slice ao k cap] w fun e w'=>VaAns L w w' e er off cs xs:=by
 have CC:=hid (fun W (hW2:Below w.heap.size w W)=>pcheck_c (cap:=cap) (hW.below hW2) (hx.below hW2) hk);rw [he] at CC;clear hW hx he;have HV:=hid hv;clear hv;obtain ⟨⟨s,x,n,c,f,y,m,d,g⟩,ca,ck,cc,C,ra,rk,rc,R⟩:=M;replace CC:Hid (∀W,Below w.heap.size w W→Calls Tryz.prog 33 #[.agg #[.bool s,.slice x n c,.slice y m d,.slice ca ck cc,.slice ra rk rc],.slice ao k cap] W fun e w'=>e=.returned (.int .i64 er)∧Below W.heap.size W w'):=CC;show Calls Tryz.prog 12 #[.agg #[.bool s,.slice x n c,.slice y m d,.slice ca ck cc,.slice ra rk rc],.slice ao k cap] w _;have hb:=below_alloc (below_alloc (Below.refl w.heap.size w) (.cells #[.bool s,.slice x n c,.slice y m d,.slice ca ck cc,.slice ra rk rc] 28)) (.cells #[.bool false,.slice none 0 0,.slice none 0 0] 24);have BM:Hid (Bk ((w.alloc (.cells #[.bool s,.slice x n c,.slice y m d,.slice ca ck cc,.slice ra rk rc] 28)).alloc (.cells #[.bool false,.slice none 0 0,.slice none 0 0] 24)) w.heap.size [.bool s,.slice x n c,.slice y m d,.slice ca ck cc,.slice ra rk rc] 28):=(bk_new w [.bool s,.slice x n c,.slice y m d,.slice ca ck cc,.slice ra rk rc] 28).below (below_alloc (Below.refl _ _) _);have hob:=ob_new (w.alloc (.cells #[.bool s,.slice x n c,.slice y m d,.slice ca ck cc,.slice ra rk rc] 28)) 24;rw [size_alloc1] at hob;have OB:=hid hob;have HB:=hid hb
 clear hb hob;go_enter Tryz.func12,Tryz.ntmps12;have r0:=BM.out.cell (j:=0) rfl;have r1:=BM.out.cell (j:=1) rfl;have r2:=BM.out.cell (j:=2) rfl;have r3:=BM.out.cell (j:=3) rfl;have r4:=BM.out.cell (j:=4) rfl;go_wp2_with fail
 clear r0 r1 r2 r3 r4;generalize ((w.alloc (.cells #[.bool s,.slice x n c,.slice y m d,.slice ca ck cc,.slice ra rk rc] 28)).alloc (.cells #[.bool false,.slice none 0 0,.slice none 0 0] 24))=w0 at *;refine (CC.out _ HB.out).mono ?_;rintro e w1 ⟨rfl,hb⟩;replace HB:=hid (HB.out.trans (hb.mono HB.out.size));replace BM:=hid (BM.out.below hb);replace OB:=hid (OB.out.below hb)
 clear hb CC;by_cases h0:er=0
 case neg =>
  have h1:(er != 0)=true:=by simpa using h0
  have H0:=hid h0;obtain ⟨hz,z0,z1,z2,zf⟩:=OB.out;go_wp2;exact bodyPost_ret (v:=.tuple #[.agg #[.bool false,.slice none 0 0,.slice none 0 0],.int .i64 er]) (by simp [results,Tryz.results12,go_sem,z0,z1,z2]) rfl ⟨below_st HB.out (by omega),.inl ⟨H0.out,rfl⟩⟩
 obtain ⟨v1,v2,v3,v4,v5⟩:=HV.out h0;have mp:=mvOk_p v2;subst h0;have l64:=mp.cl;have HC:Hid (∀j v,cs[j]?=some v→(∃b o,ca=some ⟨b,o,none⟩∧Cs w b (o+j*12) (C j).vs)∧ColV L w (C j) v):=v1.cls;have HO:Hid (Rn L w s x n c f y m d g off):=v1.off;have hck:ck=cs.length:=v1.ck;subst hck;subst v5;have HX:=hid v3;have HXL:=hid v4
 clear v1 v2 v3 v4 mp HV;have HG:=hid (gr_one (K:=2*L+1) (base:=w1.heap.size) ((HO.out.below HB.out).mono (by omega)) (Nat.le_refl _));have hbo:=below_alloc (Below.refl w1.heap.size w1) (.cells #[.bool s,.slice x n c,.slice y m d] 24);have r0:=BM.out.cell (j:=0) rfl;have r1:=BM.out.cell (j:=1) rfl;have r2:=BM.out.cell (j:=2) rfl;have r3:=BM.out.cell (j:=3) rfl;have r4:=BM.out.cell (j:=4) rfl;have r3':=kCb hbo r3;go_wp2_with fail
 clear r0 r1 r2 r3 r3' r4 HO;go_loopw [7,23] (fun ov t wr=>∃(i:Nat),i≤cs.length∧t=.int .i64 i∧Hid (Below w1.heap.size w1 wr)∧Hid (Gr (2*L+1) w1.heap.size wr ov (off :: (costs cs xs).take i))) (fun _ t _=>cs.length-(intOf t).toNat)
 case atStart=>exact ⟨0,by omega,rfl,hbo,HG⟩
 case round =>
  clear HG hbo;obtain ⟨i,hi,rfl,HB2,HG2⟩:=hrel;have hcl:(costs cs xs).length=cs.length:=by unfold costs;rw [List.length_zipWith,HXL.out,Nat.min_self]
  have hgl:(off :: (costs cs xs).take i).length=i+1:=by rw [List.length_cons,List.length_take];omega
  by_cases hlt:i<cs.length
  ·obtain ⟨v,hv⟩:∃t,cs[i]?=some t:=⟨_,List.getElem?_eq_getElem (by omega)⟩;obtain ⟨⟨b,o,hba,hc⟩,hV⟩:=HC.out i v hv;subst hba;have hbz:=HB.out.trans (HB2.out.mono HB.out.size);have hcost:=hV.cost.below hbz;obtain ⟨⟨z,⟨s0,x0,n0,c0,f0,y0,m0,d0,g0⟩,⟨i1,⟨s1,x1,n1,c1,f1,y1,m1,d1,g1⟩⟩,⟨i2,⟨s2,x2,n2,c2,f2,y2,m2,d2,g2⟩⟩⟩,hCi⟩:∃t,C i=t:=⟨_,rfl⟩;rw [hCi] at hc hcost;replace hcost:Rn L wr s0 x0 n0 c0 f0 y0 m0 d0 g0 v.cost:=hcost;replace hc:=Cs.below hc hbz;have q0:wr.cell? ⟨b,o+i*12,none⟩=some (.string z):=hc 0 _ rfl;have q1:wr.cell? ⟨b,o+i*12+1,none⟩=some (.bool s0):=hc 1 _ rfl;have q2:wr.cell? ⟨b,o+i*12+2,none⟩=some (.slice x0 n0 c0):=hc 2 _ rfl;have q3:wr.cell? ⟨b,o+i*12+3,none⟩=some (.slice y0 m0 d0):=hc 3 _ rfl;have q4:wr.cell? ⟨b,o+i*12+4,none⟩=some (.int .i64 i1):=hc 4 _ rfl;have q5:wr.cell? ⟨b,o+i*12+5,none⟩=some (.bool s1):=hc 5 _ rfl;have q6:wr.cell? ⟨b,o+i*12+6,none⟩=some (.slice x1 n1 c1):=hc 6 _ rfl;have q7:wr.cell? ⟨b,o+i*12+7,none⟩=some (.slice y1 m1 d1):=hc 7 _ rfl;have q8:wr.cell? ⟨b,o+i*12+8,none⟩=some (.int .i64 i2):=hc 8 _ rfl;have q9:wr.cell? ⟨b,o+i*12+9,none⟩=some (.bool s2):=hc 9 _ rfl;have q10:wr.cell? ⟨b,o+i*12+10,none⟩=some (.slice x2 n2 c2):=hc 10 _ rfl;have q11:wr.cell? ⟨b,o+i*12+11,none⟩=some (.slice y2 m2 d2):=hc 11 _ rfl;obtain ⟨r,hr⟩:∃t,xs[i]?=some t:=⟨_,List.getElem?_eq_getElem (by have:=HXL.out;omega)⟩;obtain ⟨b',o',⟨ss,sx,sn,sc,sf,sy,sm,sd,sg⟩,hax,⟨p0,p1,p2⟩,hr'⟩:=(HX.out.below hbz) i r hr;subst hax;replace p0:wr.cell? ⟨b',o'+i*3,none⟩=some (.bool ss):=p0;replace p1:wr.cell? ⟨b',o'+i*3+1,none⟩=some (.slice sx sn sc):=p1;replace p2:wr.cell? ⟨b',o'+i*3+2,none⟩=some (.slice sy sm sd):=p2;replace hr':Rn L wr ss sx sn sc sf sy sm sd sg r:=hr';have HCI:Hid ((costs cs xs).take (i+1)=(costs cs xs).take i++[v.cost*r]):=by
    show _=_;rw [List.take_add_one]
    congr 1
    unfold costs;rw [List.getElem?_zipWith,hv,hr];rfl
   have hbt:=below_alloc (Below.refl wr.heap.size wr) (.cells #[.string z,.bool s0,.slice x0 n0 c0,.slice y0 m0 d0,.int .i64 i1,.bool s1,.slice x1 n1 c1,.slice y1 m1 d1,.int .i64 i2,.bool s2,.slice x2 n2 c2,.slice y2 m2 d2] 58);have a1:(wr.alloc (.cells #[.string z,.bool s0,.slice x0 n0 c0,.slice y0 m0 d0,.int .i64 i1,.bool s1,.slice x1 n1 c1,.slice y1 m1 d1,.int .i64 i2,.bool s2,.slice x2 n2 c2,.slice y2 m2 d2] 58)).cell? ⟨wr.heap.size,1,none⟩=some (.bool s0):=by simp [go_sem]
   have a2:(wr.alloc (.cells #[.string z,.bool s0,.slice x0 n0 c0,.slice y0 m0 d0,.int .i64 i1,.bool s1,.slice x1 n1 c1,.slice y1 m1 d1,.int .i64 i2,.bool s2,.slice x2 n2 c2,.slice y2 m2 d2] 58)).cell? ⟨wr.heap.size,2,none⟩=some (.slice x0 n0 c0):=by simp [go_sem]
   have a3:(wr.alloc (.cells #[.string z,.bool s0,.slice x0 n0 c0,.slice y0 m0 d0,.int .i64 i1,.bool s1,.slice x1 n1 c1,.slice y1 m1 d1,.int .i64 i2,.bool s2,.slice x2 n2 c2,.slice y2 m2 d2] 58)).cell? ⟨wr.heap.size,3,none⟩=some (.slice y0 m0 d0):=by simp [go_sem]
   have i1':((i:Nat):Int)<((cs.length:Nat):Int):=by omega
   clear hCi hc hV hv hr;go_upto_region 8 with fail
   clear q0 q1 q2 q3 q4 q5 q6 q7 q8 q9 q10 q11;replace p0:=kCb hbt p0;replace p1:=kCb hbt p1;replace p2:=kCb hbt p2
   have HB3:=hid (HB2.out.trans (hbt.mono HB2.out.size));have HG3:=hid (HG2.out.below hbt);have R1:=hid (hcost.below hbt);have R2:=hid (hr'.below hbt)
   clear hbz hbt HB2 HG2 hcost hr';generalize hbx:wr.heap.size=bx at *;generalize wr.alloc (.cells #[.string z,.bool s0,.slice x0 n0 c0,.slice y0 m0 d0,.int .i64 i1,.bool s1,.slice x1 n1 c1,.slice y1 m1 d1,.int .i64 i2,.bool s2,.slice x2 n2 c2,.slice y2 m2 d2] 58)=w5 at *;clear hbx;refine wp_region_phase (S:=(fun w'=>w'.cell? ⟨bx,1,none⟩=some (.bool s0)∧w'.cell? ⟨bx,2,none⟩=some (.slice x0 n0 c0)∧w'.cell? ⟨bx,3,none⟩=some (.slice y0 m0 d0)∧w'.cell? ⟨b',o'+i*3,none⟩=some (.bool ss)∧w'.cell? ⟨b',o'+i*3+1,none⟩=some (.slice sx sn sc)∧w'.cell? ⟨b',o'+i*3+2,none⟩=some (.slice sy sm sd))) 7 (by kernel_rfl) ⟨kCd a1,kCd a2,kCd a3,kCd p0,kCd p1,kCd p2⟩ (fun hHeld=>?_);refine wpAnyP_skim (i:=0) (v:=?_) rfl (by kernel_rfl) (by kernel_rfl) (by kernel_rfl) (by kernel_rfl) (fun _ _ _ h=>h) (Or.inl ⟨by rfl,?_⟩) (fun _=>by assumption) ?_;rotate_left
   (focus (intro w0 hSw;go_simp <;> with_reducible rfl))
   simp only [List.getElem_toArray,List.getElem_cons_zero,Act.put,List.setIfInBounds_toArray,List.set_cons_zero,List.set_cons_succ];refine wpAnyP_skim (i:=1) (v:=?_) rfl (by kernel_rfl) (by kernel_rfl) (by kernel_rfl) (by kernel_rfl) (fun _ _ _ h=>h) (Or.inl ⟨by rfl,?_⟩) (fun _=>by assumption) ?_;rotate_left
   (focus (intro w0 hSw;go_simp <;> with_reducible rfl))
   simp only [List.getElem_toArray,List.getElem_cons_succ,List.getElem_cons_zero,Act.put,List.setIfInBounds_toArray,List.set_cons_zero,List.set_cons_succ];refine wpAnyP_takeA (i:=2) (v:=?_) rfl (by kernel_rfl) (by kernel_rfl) (by kernel_rfl) (by kernel_rfl) (by kernel_rfl) (by kernel_rfl) (fun _ _ _ h=>h) (Or.inl ⟨by rfl,?_⟩) (by assumption) ?_;rotate_left
   (focus (intro w0 hSw;(try dsimp only at hSw);go_simp <;> with_reducible rfl))
   simp only [List.getElem_toArray,List.getElem_cons_succ,List.getElem_cons_zero,Act.put,List.setIfInBounds_toArray,List.set_cons_zero,List.set_cons_succ];refine wpAnyP_skim (i:=3) (v:=?_) rfl (by kernel_rfl) (by kernel_rfl) (by kernel_rfl) (by kernel_rfl) (fun _ _ _ h=>h) (Or.inl ⟨by rfl,?_⟩) (fun _=>by assumption) ?_;rotate_left
   (focus (intro w0 hSw;go_simp <;> with_reducible rfl))
   simp only [List.getElem_toArray,List.getElem_cons_succ,List.getElem_cons_zero,Act.put,List.setIfInBounds_toArray,List.set_cons_zero,List.set_cons_succ];refine wpAnyP_skim (i:=4) (v:=?_) rfl (by kernel_rfl) (by kernel_rfl) (by kernel_rfl) (by kernel_rfl) (fun _ _ _ h=>h) (Or.inl ⟨by rfl,?_⟩) (fun _=>by assumption) ?_;rotate_left
   (focus (intro w0 hSw;go_simp <;> with_reducible rfl))
   simp only [List.getElem_toArray,List.getElem_cons_succ,List.getElem_cons_zero,Act.put,List.setIfInBounds_toArray,List.set_cons_zero,List.set_cons_succ];refine wpAnyP_skim (i:=5) (v:=?_) rfl (by kernel_rfl) (by kernel_rfl) (by kernel_rfl) (by kernel_rfl) (fun _ _ _ h=>h) (Or.inl ⟨by rfl,?_⟩) (fun _=>by assumption) ?_;rotate_left
   (focus (intro w0 hSw;go_simp <;> with_reducible rfl))
   simp only [List.getElem_toArray,List.getElem_cons_succ,List.getElem_cons_zero,Act.put,List.setIfInBounds_toArray,List.set_cons_zero,List.set_cons_succ];refine wpAnyP_takeA (i:=6) (v:=?_) rfl (by kernel_rfl) (by kernel_rfl) (by kernel_rfl) (by kernel_rfl) (by kernel_rfl) (by kernel_rfl) (fun _ _ _ h=>h) (Or.inl ⟨by rfl,?_⟩) (by assumption) ?_;rotate_left
   (focus (intro w0 hSw;(try dsimp only at hSw);go_simp <;> with_reducible rfl))
   simp only [List.getElem_toArray,List.getElem_cons_succ,List.getElem_cons_zero,Act.put,List.setIfInBounds_toArray,List.set_cons_zero,List.set_cons_succ];refine wpAnyP_ready (rs:=[7]) (by kernel_rfl) (by simp) ?_;refine AllReadyP.cons (o:=_) rfl (fun K hK=>?_) ?_;rotate_left;exact AllReadyP.nil;go_simp
   go_at_call 34
   refine (ptimes_c (L:=L) (kRnd R1.out) (kRnd R2.out) (by omega)).mono ?_;rintro e w6 ⟨s6,x6,n6,c6,f6,y6,m6,d6,g6,rfl,hb6,hq6⟩
   (try go_wp2_with fail)
   refine hK.out _ _ (fun h=>by cases h) (fun _=>?_);clear hK K;try simp only [Act.put,List.setIfInBounds_toArray,List.set_cons_zero,List.set_cons_succ]
   refine wpAnyP_ready (rs:=[8]) (by kernel_rfl) (by simp) ?_;refine AllReadyP.cons (o:=_) rfl (fun K hK=>?_) ?_;rotate_left;exact AllReadyP.nil;go_simp;refine hK.out _ _ (fun h=>by cases h) (fun _=>?_);clear hK K;try simp only [Act.put,List.setIfInBounds_toArray,List.set_cons_zero,List.set_cons_succ]
   refine wpAnyP_ready (rs:=[9]) (by kernel_rfl) (by simp) ?_;refine AllReadyP.cons (o:=_) rfl (fun K hK=>?_) ?_;rotate_left;exact AllReadyP.nil;obtain ⟨T,hrow,hT⟩:=(Gr.below HG3.out (Below.drew (Below.refl w5.heap.size w5))).below hb6;rw [hgl] at hrow;refine step_append_one w6 rfl (.tmp 28) (.tmp 36) 29 rfl w1.heap.size 24 56 3 (.agg #[.bool false,.slice none 0 0,.slice none 0 0]) Tryz.underlying29 Tryz.infoRat rfl (by decide) nz3 u7 (i+1) _ rfl hrow #[.bool s6,.slice x6 n6 c6,.slice y6 m6 d6] rfl rfl (one3 _ _ _ _ _ _ _) (not3 _ _ _ _ _ _ _) (by omega) (by decide) ?hz ?_
   case hz=>exact (HB3.out.drew.trans (hb6.mono HB3.out.drew.size)).size
   intro g8 cap8 w8 hr8 hk8 hb8 hg8;have HB8:Hid (Below w1.heap.size w1 w8):=hb8 w1 (HB3.out.drew.trans (hb6.mono HB3.out.drew.size)) (Nat.le_refl _);have HG8:Hid (Gr (2*L+1) w1.heap.size w8 (.slice (some ⟨g8,0,none⟩) (i+1+1) cap8) (off :: (costs cs xs).take (i+1))):=by
    have hp8:=gr_push (p:=off :: (costs cs xs).take i) hT (by rw [hgl];exact hr8) hk8 hq6;rw [hgl] at hp8;rw [HCI.out];exact hp8
   clear hr8 hk8 hb8 hg8 hrow hT hb6 hq6 HG3 HB3 R1 R2;refine hK.out _ _ (fun h=>by cases h) (fun _=>?_);clear hK K;simp only [List.getElem_toArray,List.getElem_cons_succ,List.getElem_cons_zero,Act.put,List.setIfInBounds_toArray,List.set_cons_zero,List.set_cons_succ];refine wpAnyP_skim (i:=10) (v:=?_) rfl (by kernel_rfl) (by kernel_rfl) (by kernel_rfl) (by kernel_rfl) (fun _ _ _ h=>h) (Or.inl ⟨by rfl,?_⟩) (fun h=>by cases h) ?_;rotate_left
   (focus (intro w0 hSw;go_simp <;> with_reducible rfl))
   simp only [List.getElem_toArray,List.getElem_cons_succ,List.getElem_cons_zero,Act.put,List.setIfInBounds_toArray,List.set_cons_zero,List.set_cons_succ];refine wpAnyP_done (by kernel_rfl) ?_ _;clear hHeld a1 a2 a3 p0 p1 p2;go_wp2;go_roundw
   case rel=>exact ⟨i+1,by omega,by go_num,HB8.out,HG8.out⟩
   case measure=>simp [intOf];omega
  ·have i4:¬(((i:Nat):Int)<((cs.length:Nat):Int)):=by omega
   have e9:i=cs.length:=by omega
   obtain ⟨va,vc,hvs,hvc⟩:=HG2.out.slice;rw [hgl] at hvs;have HG4:=HG2.out;rw [hvs] at HG4;replace HG4:=hid (show Rf (2*L+1) wr va (off :: costs cs xs) by have:=HG4.rf;rw [List.take_of_length_le (by omega)] at this;exact this);subst hvs;have HLen:=hid (show (off :: costs cs xs).length=i+1 by rw [List.length_cons];omega);have hi65:i+1≤65:=by omega
   replace HB:=hid (HB.out.trans (HB2.out.mono HB.out.size));replace OB:=hid (OB.out.below HB2.out)
   clear HG2 HB2 hgl hcl e9 HC HX BM;go_wp2_with fail
   refine (pSum_c (L:=2*L+1) HG4.out HLen.out (by omega) (by omega)).mono ?_;rintro e w6 ⟨s6,x6,n6,c6,f6,y6,m6,d6,g6,rfl,hb6,hq6⟩;replace HB:=hid (HB.out.trans (hb6.mono HB.out.size));replace OB:=hid (OB.out.below hb6)
   have HQ:=hid (show Rn (KV L) w6 s6 x6 n6 c6 f6 y6 m6 d6 g6 (valQ off cs xs) from hq6.mono (by unfold KV;have:(i+1)*(2*L+1+1)≤65*(2*L+1+1):=Nat.mul_le_mul_right _ hi65;omega));clear hb6 hq6 HG4 HLen;obtain ⟨hz,z0,z1,z2,zf⟩:=OB.out;go_wp2;exact bodyPost_ret (v:=.tuple #[.agg #[.bool s6,.slice x6 n6 c6,.slice y6 m6 d6],.int .i64 0]) (by simp [results,Tryz.results12,go_sem,z0,z1,z2]) rfl ⟨below_st HB.out (by omega),.inr ⟨rfl,s6,x6,n6,c6,f6,y6,m6,d6,g6,rfl,OB.out.rn HQ.out⟩⟩
theorem Rn.sg {L w s x n c f y m d g q} (h:Rn L w s x n c f y m d g q):s=decide (q<0):=by
 have h1:=h.num.val;have h2:=h.num.wf;have h5:=vf_nonneg h.num.lm;have hz:=h.q_zero
 cases s
 ·have h3:q.num=vf f n:=by rw [←h1];rfl
  have h4:0≤q:=Rat.num_nonneg.1 (by omega);rw [decide_eq_false (Rat.not_lt.2 h4)]
 ·have hn:n≠0:=fun e=>by subst e;simp [wfB] at h2
  have h3:q.num=- vf f n:=by rw [←h1];rfl
  have h4:q<0:=Rat.not_le.1 (fun e=>by
   have h6:=Rat.num_nonneg.2 e;exact hn (hz.1 (Rat.num_eq_zero.1 (by omega))))
  rw [decide_eq_true h4]
theorem rf_two {K:Nat} {w:World} {T:TypeId} {s:Bool} {x:Option Addr} {n c:Nat} {f:Nat→Int} {y:Option Addr} {m d:Nat} {g:Nat→Int} {q:Rat} {s2:Bool} {x2:Option Addr} {n2 c2:Nat} {f2:Nat→Int} {y2:Option Addr} {m2 d2:Nat} {g2:Nat→Int} {q2:Rat} (h:Rn K w s x n c f y m d g q) (h2:Rn K w s2 x2 n2 c2 f2 y2 m2 d2 g2 q2):Rf K (w.alloc (.cells #[.bool s,.slice x n c,.slice y m d,.bool s2,.slice x2 n2 c2,.slice y2 m2 d2] T)) (some ⟨w.heap.size,0,none⟩) [q,q2]:=fun j q' e=>by
 match j,e with
 | 0,e=>cases e;exact ⟨w.heap.size,0,⟨s,x,n,c,f,y,m,d,g⟩,rfl,⟨by simp [go_sem],by simp [go_sem],by simp [go_sem]⟩,h.alloc _⟩
 | 1,e=>cases e;exact ⟨w.heap.size,0,⟨s2,x2,n2,c2,f2,y2,m2,d2,g2⟩,rfl,⟨by simp [go_sem],by simp [go_sem],by simp [go_sem]⟩,h2.alloc _⟩
set_option maxRecDepth 100000 in
set_option maxHeartbeats 4000000 in
theorem num11_c {w:World} {z:Int} (h0:-1000≤z) (h1:z≤1000):Calls Tryz.prog 20 #[.int .i64 z] w fun e w'=>∃v,e=.returned v∧Below w.heap.size w w'∧GX 8 0 (z:Rat) v w':=by
 have HB:=hid (below_alloc (Below.refl w.heap.size w) (.cells #[.int .i64 0,.bool false,.slice none 0 0,.slice none 0 0] 41));have BR:Hid (Bk (w.alloc (.cells #[.int .i64 0,.bool false,.slice none 0 0,.slice none 0 0] 41)) w.heap.size [.int .i64 0,.bool false,.slice none 0 0,.slice none 0 0] 41):=bk_new w [.int .i64 0,.bool false,.slice none 0 0,.slice none 0 0] 41;go_enter Tryz.func20,Tryz.ntmps20;go_wp2_with fail
 generalize w.alloc (.cells #[.int .i64 0,.bool false,.slice none 0 0,.slice none 0 0] 41)=w0 at *;refine (docOfQ_c (z:=z) (by omega) (by omega)).mono ?_;rintro e w1 ⟨s,x,n,c,f,y,m,d,g,rfl,hb,hr⟩;replace HB:=hid (HB.out.trans (hb.mono HB.out.size));replace BR:=hid (BR.out.below hb)
 obtain ⟨hx1,hx2,hx3⟩:=st_new [.int .i64 0,.bool s,.slice x n c,.slice y m d] BR.out (nou_list (fun u hu q=>by simp at hu;rcases hu with rfl | rfl | rfl | rfl <;> simp)) HB.out (Nat.le_refl _);have l0:=BR.out.cell (j:=0) rfl;have l1:=BR.out.cell (j:=1) rfl;have l2:=BR.out.cell (j:=2) rfl;have l3:=BR.out.cell (j:=3) rfl;have ff:=BR.out.frozen;have HX:Hid (Below w.heap.size w (stl w.heap.size 0 [.int .i64 0,.bool s,.slice x n c,.slice y m d] w1)∧GX 8 0 (z:Rat) (.agg #[.int .i64 0,.bool s,.slice x n c,.slice y m d]) (stl w.heap.size 0 [.int .i64 0,.bool s,.slice x n c,.slice y m d] w1)):=⟨hx1,⟨0,⟨s,x,n,c,f,y,m,d,g⟩⟩,rfl,rfl,(Rn.kp hr hx2).mono (by decide)⟩;clear hx1 hx2 hx3 hb hr HB;go_wp2;exact bodyPost_ret (v:=.agg #[.int .i64 0,.bool s,.slice x n c,.slice y m d]) (by simp [results,Tryz.results20,go_sem,l0,l1,l2,l3]) rfl ⟨_,rfl,HX.out⟩
set_option maxRecDepth 100000 in
set_option maxHeartbeats 4000000 in
theorem col11_c {w:World} {z:ByteArray}:Calls Tryz.prog 40 #[.string z] w fun e w'=>∃v,e=.returned v∧Below w.heap.size w w'∧GC 8 ⟨z,-1,0,0,0,4⟩ v w':=by
 have HB:=hid (below_alloc (Below.refl w.heap.size w) (.cells #[.string ⟨#[]⟩,.bool false,.slice none 0 0,.slice none 0 0,.int .i64 0,.bool false,.slice none 0 0,.slice none 0 0,.int .i64 0,.bool false,.slice none 0 0,.slice none 0 0] 58));have O0:Hid (Bk (w.alloc (.cells #[.string ⟨#[]⟩,.bool false,.slice none 0 0,.slice none 0 0,.int .i64 0,.bool false,.slice none 0 0,.slice none 0 0,.int .i64 0,.bool false,.slice none 0 0,.slice none 0 0] 58)) w.heap.size [.string ⟨#[]⟩,.bool false,.slice none 0 0,.slice none 0 0,.int .i64 0,.bool false,.slice none 0 0,.slice none 0 0,.int .i64 0,.bool false,.slice none 0 0,.slice none 0 0] 58):=bk_new w [.string ⟨#[]⟩,.bool false,.slice none 0 0,.slice none 0 0,.int .i64 0,.bool false,.slice none 0 0,.slice none 0 0,.int .i64 0,.bool false,.slice none 0 0,.slice none 0 0] 58;go_enter Tryz.func40,Tryz.ntmps40;go_wp2_with fail
 generalize w.alloc (.cells #[.string ⟨#[]⟩,.bool false,.slice none 0 0,.slice none 0 0,.int .i64 0,.bool false,.slice none 0 0,.slice none 0 0,.int .i64 0,.bool false,.slice none 0 0,.slice none 0 0] 58)=w0 at *;refine (docOfQ_c (z:=(-1)) (by decide) (by decide)).mono ?_;rintro e w1 ⟨s1,x1,n1,c1,f1,y1,m1,d1,g1,rfl,hb,hr⟩;replace HB:=hid (HB.out.trans (hb.mono HB.out.size));replace O0:=hid (O0.out.below hb)
 have R1:=hid (hr.mono (show 4≤8 by decide));clear hb hr;go_wp2_with fail
 refine (num11_c (z:=0) (by decide) (by decide)).mono ?_;rintro e w2 ⟨v2,rfl,hb,⟨⟨i2,⟨s2,x2,n2,c2,f2,y2,m2,d2,g2⟩⟩,ev,hi2,hv⟩⟩;replace ev:v2=.agg #[.int .i64 i2,.bool s2,.slice x2 n2 c2,.slice y2 m2 d2]:=ev;subst ev;replace HB:=hid (HB.out.trans (hb.mono HB.out.size));replace O0:=hid (O0.out.below hb);replace R1:=hid (R1.out.below hb)
 replace hi2:i2=0:=hi2;subst hi2;have R2:=hid (show Rn 8 w2 s2 x2 n2 c2 f2 y2 m2 d2 g2 (0:Int) from hv);clear hb hv;go_wp2_with fail
 refine (num11_c (z:=4) (by decide) (by decide)).mono ?_;rintro e w3 ⟨v3,rfl,hb,⟨⟨i3,⟨s3,x3,n3,c3,f3,y3,m3,d3,g3⟩⟩,ev,hi3,hv⟩⟩;replace ev:v3=.agg #[.int .i64 i3,.bool s3,.slice x3 n3 c3,.slice y3 m3 d3]:=ev;subst ev;replace HB:=hid (HB.out.trans (hb.mono HB.out.size));replace O0:=hid (O0.out.below hb);replace R1:=hid (R1.out.below hb);replace R2:=hid (R2.out.below hb)
 replace hi3:i3=0:=hi3;subst hi3;have R3:=hid (show Rn 8 w3 s3 x3 n3 c3 f3 y3 m3 d3 g3 (4:Int) from hv);clear hb hv;obtain ⟨hx1,hx2,hx3⟩:=st_new [.string z,.bool s1,.slice x1 n1 c1,.slice y1 m1 d1,.int .i64 0,.bool s2,.slice x2 n2 c2,.slice y2 m2 d2,.int .i64 0,.bool s3,.slice x3 n3 c3,.slice y3 m3 d3] O0.out (nou_list (fun u hu q=>by simp at hu;rcases hu with rfl | rfl | rfl | rfl | rfl | rfl | rfl | rfl | rfl <;> simp)) HB.out (Nat.le_refl _);have l0:=O0.out.cell (j:=0) rfl;have l1:=O0.out.cell (j:=1) rfl;have l2:=O0.out.cell (j:=2) rfl;have l3:=O0.out.cell (j:=3) rfl;have l4:=O0.out.cell (j:=4) rfl;have l5:=O0.out.cell (j:=5) rfl;have l6:=O0.out.cell (j:=6) rfl;have l7:=O0.out.cell (j:=7) rfl;have l8:=O0.out.cell (j:=8) rfl;have l9:=O0.out.cell (j:=9) rfl;have l10:=O0.out.cell (j:=10) rfl;have l11:=O0.out.cell (j:=11) rfl;have ff:=O0.out.frozen;have HX:Hid (Below w.heap.size w (stl w.heap.size 0 [.string z,.bool s1,.slice x1 n1 c1,.slice y1 m1 d1,.int .i64 0,.bool s2,.slice x2 n2 c2,.slice y2 m2 d2,.int .i64 0,.bool s3,.slice x3 n3 c3,.slice y3 m3 d3] w3)∧GC 8 ⟨z,-1,0,0,0,4⟩ (.agg #[.string z,.bool s1,.slice x1 n1 c1,.slice y1 m1 d1,.int .i64 0,.bool s2,.slice x2 n2 c2,.slice y2 m2 d2,.int .i64 0,.bool s3,.slice x3 n3 c3,.slice y3 m3 d3]) (stl w.heap.size 0 [.string z,.bool s1,.slice x1 n1 c1,.slice y1 m1 d1,.int .i64 0,.bool s2,.slice x2 n2 c2,.slice y2 m2 d2,.int .i64 0,.bool s3,.slice x3 n3 c3,.slice y3 m3 d3] w3)):=⟨hx1,⟨⟨z,⟨s1,x1,n1,c1,f1,y1,m1,d1,g1⟩,⟨0,⟨s2,x2,n2,c2,f2,y2,m2,d2,g2⟩⟩,⟨0,⟨s3,x3,n3,c3,f3,y3,m3,d3,g3⟩⟩⟩,rfl,rfl,Rn.kp R1.out hx2,rfl,Rn.kp R2.out hx2,rfl,Rn.kp R3.out hx2⟩⟩;clear hx1 hx2 hx3 HB O0;go_wp2;exact bodyPost_ret (v:=.agg #[.string z,.bool s1,.slice x1 n1 c1,.slice y1 m1 d1,.int .i64 0,.bool s2,.slice x2 n2 c2,.slice y2 m2 d2,.int .i64 0,.bool s3,.slice x3 n3 c3,.slice y3 m3 d3]) (by simp [results,Tryz.results40,go_sem,l0,l1,l2,l3,l4,l5,l6,l7,l8,l9,l10,l11]) rfl ⟨_,rfl,HX.out⟩
theorem mh_lo:Lo 4 (((-1:Int):Rat)/2):=⟨by decide +kernel,by decide +kernel⟩
set_option maxRecDepth 100000 in
set_option maxHeartbeats 4000000 in
theorem half11_c {w:World} {z:Int} (h0:-1000≤z) (h1:z≤1000) (hl:Lo 4 ((z:Rat)/2)):Calls Tryz.prog 16 #[.int .i64 z] w fun e w'=>∃s x n c f y m d g,e=.returned (.agg #[.bool s,.slice x n c,.slice y m d])∧Below w.heap.size w w'∧Hid (Rn 4 w' s x n c f y m d g ((z:Rat)/2)):=by
 have HB:=hid (below_alloc (Below.refl w.heap.size w) (.cells #[.bool false,.slice none 0 0,.slice none 0 0] 24));have O0:Hid (Bk (w.alloc (.cells #[.bool false,.slice none 0 0,.slice none 0 0] 24)) w.heap.size [.bool false,.slice none 0 0,.slice none 0 0] 24):=bk_new w [.bool false,.slice none 0 0,.slice none 0 0] 24;go_enter Tryz.func16,Tryz.ntmps16;go_wp2_with fail
 generalize w.alloc (.cells #[.bool false,.slice none 0 0,.slice none 0 0] 24)=w0 at *;refine (qInt_c (z:=z) (by omega) (by omega)).mono ?_;rintro e w1 ⟨s1,x1,n1,c1,d1,y1,m1,e1,g1,rfl,hb,hn1,hm1,hq⟩;replace HB:=hid (HB.out.trans (hb.mono HB.out.size));replace O0:=hid (O0.out.below hb)
 have Q1:=hid hq;clear hb hq;go_wp2_with fail
 refine (qInt_c (z:=2) (by decide) (by decide)).mono ?_;rintro e w2 ⟨s2,x2,n2,c2,d2,y2,m2,e2,g2,rfl,hb,hn2,hm2,hq⟩;replace HB:=hid (HB.out.trans (hb.mono HB.out.size));replace O0:=hid (O0.out.below hb);replace Q1:=hid (Q1.out.below hb)
 have Q2:=hid hq;clear hb hq;go_wp2_with fail
 refine (qQuo_c Q1.out Q2.out (by omega) (by omega) (by omega) (by omega) (by decide)).mono ?_;rintro e w3 ⟨s3,x3,n3,c3,d3,y3,m3,e3,g3,rfl,hb,hn3,hm3,hq⟩;replace HB:=hid (HB.out.trans (hb.mono HB.out.size));replace O0:=hid (O0.out.below hb);replace Q1:=hid (Q1.out.below hb);replace Q2:=hid (Q2.out.below hb)
 have Q3:=hid hq;clear hb hq;go_wp2_with fail
 refine (qToR_c Q3.out (by omega) (by omega)).mono ?_;rintro e w4 ⟨z4,k4,t4,f4,v4,l4,u4,g4,rfl,hb,hr⟩;replace HB:=hid (HB.out.trans (hb.mono HB.out.size));replace O0:=hid (O0.out.below hb);replace Q1:=hid (Q1.out.below hb);replace Q2:=hid (Q2.out.below hb);replace Q3:=hid (Q3.out.below hb)
 have R4:=hid (hr.out.cut (show Lo 4 ((z:Rat)/((2:Int):Rat)) from hl));clear hb hr Q1 Q2 Q3;obtain ⟨hx1,hx2,hx3⟩:=st_new [.bool s3,.slice z4 k4 t4,.slice v4 l4 u4] O0.out (nou_list (fun u hu q=>by simp at hu;rcases hu with rfl | rfl <;> simp)) HB.out (Nat.le_refl _);have l0:=O0.out.cell (j:=0) rfl;have l1:=O0.out.cell (j:=1) rfl;have l2:=O0.out.cell (j:=2) rfl;have ff:=O0.out.frozen;have HX:Hid (Below w.heap.size w (stl w.heap.size 0 [.bool s3,.slice z4 k4 t4,.slice v4 l4 u4] w4)∧Hid (Rn 4 (stl w.heap.size 0 [.bool s3,.slice z4 k4 t4,.slice v4 l4 u4] w4) s3 z4 k4 t4 f4 v4 l4 u4 g4 ((z:Rat)/2))):=⟨hx1,hid (Rn.kp R4.out hx2)⟩;clear hx1 hx2 hx3 HB O0;go_wp2;exact bodyPost_ret (v:=.agg #[.bool s3,.slice z4 k4 t4,.slice v4 l4 u4]) (by simp [results,Tryz.results16,go_sem,l0,l1,l2]) rfl ⟨_,_,_,_,_,_,_,_,_,rfl,HX.out⟩
theorem nobP {w:World} {B o:Nat} {s:Bool} {x1 x2 x3:Option Addr} {n1 n2 n3 c1 c2 c3:Nat} {t:TypeId} (h:Bk w B [.slice x1 n1 c1,.slice x2 n2 c2,.slice x3 n3 c3] t):w.cell? ⟨B,o,none⟩≠some (.bool s):=fun e=>by
 unfold Bk at h;simp only [World.cell?,h] at e
 match o,e with
 | 0,e=>simp at e
 | 1,e=>simp at e
 | 2,e=>simp at e
 | o+3,e=>simp at e
theorem Rf.kpo {L w w' ao} {B:Nat} {p:List Rat} (h:Rf L w ao p) (hk:Kp w w') (hne:∀k,k≠B→w'.heap[k]?=w.heap[k]?) (hno:∀o s,w.cell? ⟨B,o,none⟩≠some (.bool s)):Rf L w' ao p:=fun j q e=>by
 obtain ⟨b,o,t,h1,h2,h3⟩:=h j q e;have hb:b≠B:=fun e'=>by subst e';exact hno _ _ h2.x0
 have hc:∀i,w'.cell? ⟨b,i,none⟩=w.cell? ⟨b,i,none⟩:=fun i=>by simp only [World.cell?,hne b hb]
 exact ⟨b,o,t,h1,⟨(hc _).trans h2.x0,(hc _).trans h2.x1,(hc _).trans h2.x2⟩,Rn.kp h3 hk⟩
set_option maxRecDepth 100000 in
set_option maxHeartbeats 4000000 in
theorem best11_c {w:World}:Calls Tryz.prog 18 #[] w fun e w'=>∃a b c,e=.returned (.agg #[.slice a 2 2,.slice b 1 1,.slice c 2 2])∧Below w.heap.size w w'∧Hid (Rf 8 w' a [((4:Int):Rat),((1:Int):Rat)]∧Rf 8 w' b [((-1:Int):Rat)/2]∧Rf 8 w' c [((-1:Int):Rat)/2,((0:Int):Rat)]):=by
 have HB:=hid (below_alloc (Below.refl w.heap.size w) (.cells #[.slice none 0 0,.slice none 0 0,.slice none 0 0] 31));have O0:Hid (Bk (w.alloc (.cells #[.slice none 0 0,.slice none 0 0,.slice none 0 0] 31)) w.heap.size [.slice none 0 0,.slice none 0 0,.slice none 0 0] 31):=bk_new w [.slice none 0 0,.slice none 0 0,.slice none 0 0] 31;go_enter Tryz.func18,Tryz.ntmps18;go_wp2_with fail
 generalize w.alloc (.cells #[.slice none 0 0,.slice none 0 0,.slice none 0 0] 31)=w0 at *;refine (docOfQ_c (z:=4) (by decide) (by decide)).mono ?_;rintro e w1 ⟨s1,x1,n1,c1,f1,y1,m1,d1,g1,rfl,hb,hr⟩;replace HB:=hid (HB.out.trans (hb.mono HB.out.size));replace O0:=hid (O0.out.below hb)
 have R1:=hid (hr.mono (show 4≤8 by decide));clear hb hr;go_wp2_with fail
 refine (docOfQ_c (z:=1) (by decide) (by decide)).mono ?_;rintro e w2 ⟨s2,x2,n2,c2,f2,y2,m2,d2,g2,rfl,hb,hr⟩;replace HB:=hid (HB.out.trans (hb.mono HB.out.size));replace O0:=hid (O0.out.below hb);replace R1:=hid (R1.out.below hb)
 have R2:=hid (hr.mono (show 4≤8 by decide));clear hb hr;have hn:=below_alloc (Below.refl w2.heap.size w2) (.cells #[.bool s1,.slice x1 n1 c1,.slice y1 m1 d1,.bool s2,.slice x2 n2 c2,.slice y2 m2 d2] 24);have X1:=hid (show Rf 8 (w2.alloc (.cells #[.bool s1,.slice x1 n1 c1,.slice y1 m1 d1,.bool s2,.slice x2 n2 c2,.slice y2 m2 d2] 24)) (some ⟨w2.heap.size,0,none⟩) [((4:Int):Rat),((1:Int):Rat)] from rf_two (R1.out.mono (by decide)) (R2.out.mono (by decide)));replace HB:=hid (HB.out.trans (hn.mono HB.out.size));replace O0:=hid (O0.out.below hn);replace R1:=hid (R1.out.below hn);replace R2:=hid (R2.out.below hn)
 clear hn;go_wp2_with fail
 generalize w2.alloc (.cells #[.bool s1,.slice x1 n1 c1,.slice y1 m1 d1,.bool s2,.slice x2 n2 c2,.slice y2 m2 d2] 24)=vX1 at *;generalize w2.heap.size=pX1 at *;refine (half11_c (z:=(-1)) (by decide) (by decide) mh_lo).mono ?_;rintro e w3 ⟨s3,x3,n3,c3,f3,y3,m3,d3,g3,rfl,hb,hr⟩;replace HB:=hid (HB.out.trans (hb.mono HB.out.size));replace O0:=hid (O0.out.below hb);replace R1:=hid (R1.out.below hb);replace R2:=hid (R2.out.below hb);replace X1:=hid (X1.out.below hb)
 have R3:=hid hr.out;clear hb hr;have hn:=below_alloc (Below.refl w3.heap.size w3) (.cells #[.bool s3,.slice x3 n3 c3,.slice y3 m3 d3] 24);have X2:=hid (show Rf 8 (w3.alloc (.cells #[.bool s3,.slice x3 n3 c3,.slice y3 m3 d3] 24)) (some ⟨w3.heap.size,0,none⟩) [((-1:Int):Rat)/2] from (gr_one (base:=0) (R3.out.mono (by decide)) (Nat.zero_le _)).rf);replace HB:=hid (HB.out.trans (hn.mono HB.out.size));replace O0:=hid (O0.out.below hn);replace R1:=hid (R1.out.below hn);replace R2:=hid (R2.out.below hn);replace X1:=hid (X1.out.below hn);replace R3:=hid (R3.out.below hn)
 clear hn;go_wp2_with fail
 generalize w3.alloc (.cells #[.bool s3,.slice x3 n3 c3,.slice y3 m3 d3] 24)=vX2 at *;generalize w3.heap.size=pX2 at *;refine (half11_c (z:=(-1)) (by decide) (by decide) mh_lo).mono ?_;rintro e w4 ⟨s4,x4,n4,c4,f4,y4,m4,d4,g4,rfl,hb,hr⟩;replace HB:=hid (HB.out.trans (hb.mono HB.out.size));replace O0:=hid (O0.out.below hb);replace R1:=hid (R1.out.below hb);replace R2:=hid (R2.out.below hb);replace X1:=hid (X1.out.below hb);replace R3:=hid (R3.out.below hb);replace X2:=hid (X2.out.below hb)
 have R4:=hid hr.out;clear hb hr;go_wp2_with fail
 refine (docOfQ_c (z:=0) (by decide) (by decide)).mono ?_;rintro e w5 ⟨s5,x5,n5,c5,f5,y5,m5,d5,g5,rfl,hb,hr⟩;replace HB:=hid (HB.out.trans (hb.mono HB.out.size));replace O0:=hid (O0.out.below hb);replace R1:=hid (R1.out.below hb);replace R2:=hid (R2.out.below hb);replace X1:=hid (X1.out.below hb);replace R3:=hid (R3.out.below hb);replace X2:=hid (X2.out.below hb);replace R4:=hid (R4.out.below hb)
 have R5:=hid (hr.mono (show 4≤8 by decide));clear hb hr;have hn:=below_alloc (Below.refl w5.heap.size w5) (.cells #[.bool s4,.slice x4 n4 c4,.slice y4 m4 d4,.bool s5,.slice x5 n5 c5,.slice y5 m5 d5] 24);have X3:=hid (show Rf 8 (w5.alloc (.cells #[.bool s4,.slice x4 n4 c4,.slice y4 m4 d4,.bool s5,.slice x5 n5 c5,.slice y5 m5 d5] 24)) (some ⟨w5.heap.size,0,none⟩) [((-1:Int):Rat)/2,((0:Int):Rat)] from rf_two (R4.out.mono (by decide)) (R5.out.mono (by decide)));replace HB:=hid (HB.out.trans (hn.mono HB.out.size));replace O0:=hid (O0.out.below hn);replace R1:=hid (R1.out.below hn);replace R2:=hid (R2.out.below hn);replace X1:=hid (X1.out.below hn);replace R3:=hid (R3.out.below hn);replace X2:=hid (X2.out.below hn);replace R4:=hid (R4.out.below hn);replace R5:=hid (R5.out.below hn)
 clear hn R1 R2 R3 R4 R5;obtain ⟨hx1,hx2,hx3⟩:=st_new [.slice (some ⟨pX1,0,none⟩) 2 2,.slice (some ⟨pX2,0,none⟩) 1 1,.slice (some ⟨w5.heap.size,0,none⟩) 2 2] O0.out (nou_list (fun u hu q=>by simp at hu;subst hu;simp)) HB.out (Nat.le_refl _);have l0:=O0.out.cell (j:=0) rfl;have l1:=O0.out.cell (j:=1) rfl;have l2:=O0.out.cell (j:=2) rfl;have ff:=O0.out.frozen;have HX:Hid (Below w.heap.size w (stl w.heap.size 0 [.slice (some ⟨pX1,0,none⟩) 2 2,.slice (some ⟨pX2,0,none⟩) 1 1,.slice (some ⟨w5.heap.size,0,none⟩) 2 2] (w5.alloc (.cells #[.bool s4,.slice x4 n4 c4,.slice y4 m4 d4,.bool s5,.slice x5 n5 c5,.slice y5 m5 d5] 24)))∧Hid (Rf 8 (stl w.heap.size 0 [.slice (some ⟨pX1,0,none⟩) 2 2,.slice (some ⟨pX2,0,none⟩) 1 1,.slice (some ⟨w5.heap.size,0,none⟩) 2 2] (w5.alloc (.cells #[.bool s4,.slice x4 n4 c4,.slice y4 m4 d4,.bool s5,.slice x5 n5 c5,.slice y5 m5 d5] 24))) (some ⟨pX1,0,none⟩) [((4:Int):Rat),((1:Int):Rat)]∧Rf 8 (stl w.heap.size 0 [.slice (some ⟨pX1,0,none⟩) 2 2,.slice (some ⟨pX2,0,none⟩) 1 1,.slice (some ⟨w5.heap.size,0,none⟩) 2 2] (w5.alloc (.cells #[.bool s4,.slice x4 n4 c4,.slice y4 m4 d4,.bool s5,.slice x5 n5 c5,.slice y5 m5 d5] 24))) (some ⟨pX2,0,none⟩) [((-1:Int):Rat)/2]∧Rf 8 (stl w.heap.size 0 [.slice (some ⟨pX1,0,none⟩) 2 2,.slice (some ⟨pX2,0,none⟩) 1 1,.slice (some ⟨w5.heap.size,0,none⟩) 2 2] (w5.alloc (.cells #[.bool s4,.slice x4 n4 c4,.slice y4 m4 d4,.bool s5,.slice x5 n5 c5,.slice y5 m5 d5] 24))) (some ⟨w5.heap.size,0,none⟩) [((-1:Int):Rat)/2,((0:Int):Rat)])):=⟨hx1,hid ⟨X1.out.kpo hx2 hx3 (fun o s=>nobP O0.out),X2.out.kpo hx2 hx3 (fun o s=>nobP O0.out),X3.out.kpo hx2 hx3 (fun o s=>nobP O0.out)⟩⟩;clear hx1 hx2 hx3 HB O0;go_wp2;exact bodyPost_ret (v:=.agg #[.slice (some ⟨pX1,0,none⟩) 2 2,.slice (some ⟨pX2,0,none⟩) 1 1,.slice (some ⟨w5.heap.size,0,none⟩) 2 2]) (by simp [results,Tryz.results18,go_sem,l0,l1,l2]) rfl ⟨_,_,_,rfl,HX.out⟩
def k2C:List CV:=[⟨⟨#[120]⟩,-1,0,0,0,4⟩,⟨⟨#[121]⟩,-1,0,0,0,4⟩]
def k2R:List RV:=[⟨⟨#[114]⟩,-1,0,0,6,[(0,1),(1,2)]⟩]
set_option maxRecDepth 100000 in
set_option maxHeartbeats 8000000 in
theorem first11_c {w:World}:Calls Tryz.prog 15 #[] w fun e w'=>∃M:Mo,e=.returned M.val∧Below w.heap.size w w'∧Hid (MoV 8 w' M 3 k2C k2R):=by
 have HB:=hid (below_alloc (Below.refl w.heap.size w) (.cells #[.bool false,.slice none 0 0,.slice none 0 0,.slice none 0 0,.slice none 0 0] 28));have O0:Hid (Bk (w.alloc (.cells #[.bool false,.slice none 0 0,.slice none 0 0,.slice none 0 0,.slice none 0 0] 28)) w.heap.size [.bool false,.slice none 0 0,.slice none 0 0,.slice none 0 0,.slice none 0 0] 28):=bk_new w [.bool false,.slice none 0 0,.slice none 0 0,.slice none 0 0,.slice none 0 0] 28;go_enter Tryz.func15,Tryz.ntmps15;go_wp2_with fail
 generalize w.alloc (.cells #[.bool false,.slice none 0 0,.slice none 0 0,.slice none 0 0,.slice none 0 0] 28)=w0 at *;refine (docOfQ_c (z:=3) (by decide) (by decide)).mono ?_;rintro e w1 ⟨s1,x1,n1,c1,f1,y1,m1,d1,g1,rfl,hb,hr⟩;replace HB:=hid (HB.out.trans (hb.mono HB.out.size));replace O0:=hid (O0.out.below hb)
 have R1:=hid (hr.mono (show 4≤8 by decide));clear hb hr;go_wp2_with fail
 refine (col11_c (z:=⟨#[120]⟩)).mono ?_;rintro e w2 ⟨v2,rfl,hb,⟨⟨z2,⟨sb2,xb2,nb2,cb2,fb2,yb2,mb2,db2,gb2⟩,⟨ic2,⟨sc2,xc2,nc2,cc2,fc2,yc2,mc2,dc2,gc2⟩⟩,⟨id2,⟨sd2,xd2,nd2,cd2,fd2,yd2,md2,dd2,gd2⟩⟩⟩,ev,hv⟩⟩;replace ev:v2=.agg #[.string z2,.bool sb2,.slice xb2 nb2 cb2,.slice yb2 mb2 db2,.int .i64 ic2,.bool sc2,.slice xc2 nc2 cc2,.slice yc2 mc2 dc2,.int .i64 id2,.bool sd2,.slice xd2 nd2 cd2,.slice yd2 md2 dd2]:=ev;subst ev;replace HB:=hid (HB.out.trans (hb.mono HB.out.size));replace O0:=hid (O0.out.below hb);replace R1:=hid (R1.out.below hb)
 have R2:=hid hv;clear hb hv;go_wp2_with fail
 refine (col11_c (z:=⟨#[121]⟩)).mono ?_;rintro e w3 ⟨v3,rfl,hb,⟨⟨z3,⟨sb3,xb3,nb3,cb3,fb3,yb3,mb3,db3,gb3⟩,⟨ic3,⟨sc3,xc3,nc3,cc3,fc3,yc3,mc3,dc3,gc3⟩⟩,⟨id3,⟨sd3,xd3,nd3,cd3,fd3,yd3,md3,dd3,gd3⟩⟩⟩,ev,hv⟩⟩;replace ev:v3=.agg #[.string z3,.bool sb3,.slice xb3 nb3 cb3,.slice yb3 mb3 db3,.int .i64 ic3,.bool sc3,.slice xc3 nc3 cc3,.slice yc3 mc3 dc3,.int .i64 id3,.bool sd3,.slice xd3 nd3 cd3,.slice yd3 md3 dd3]:=ev;subst ev;replace HB:=hid (HB.out.trans (hb.mono HB.out.size));replace O0:=hid (O0.out.below hb);replace R1:=hid (R1.out.below hb);replace R2:=hid (R2.out.below hb)
 have R3:=hid hv;clear hb hv;have hn:=below_alloc (Below.refl w3.heap.size w3) (.cells #[.string z2,.bool sb2,.slice xb2 nb2 cb2,.slice yb2 mb2 db2,.int .i64 ic2,.bool sc2,.slice xc2 nc2 cc2,.slice yc2 mc2 dc2,.int .i64 id2,.bool sd2,.slice xd2 nd2 cd2,.slice yd2 md2 dd2,.string z3,.bool sb3,.slice xb3 nb3 cb3,.slice yb3 mb3 db3,.int .i64 ic3,.bool sc3,.slice xc3 nc3 cc3,.slice yc3 mc3 dc3,.int .i64 id3,.bool sd3,.slice xd3 nd3 cd3,.slice yd3 md3 dd3] 58);have HC:Hid (Cs (w3.alloc (.cells #[.string z2,.bool sb2,.slice xb2 nb2 cb2,.slice yb2 mb2 db2,.int .i64 ic2,.bool sc2,.slice xc2 nc2 cc2,.slice yc2 mc2 dc2,.int .i64 id2,.bool sd2,.slice xd2 nd2 cd2,.slice yd2 md2 dd2,.string z3,.bool sb3,.slice xb3 nb3 cb3,.slice yb3 mb3 db3,.int .i64 ic3,.bool sc3,.slice xc3 nc3 cc3,.slice yc3 mc3 dc3,.int .i64 id3,.bool sd3,.slice xd3 nd3 cd3,.slice yd3 md3 dd3] 58)) w3.heap.size 0 [.string z2,.bool sb2,.slice xb2 nb2 cb2,.slice yb2 mb2 db2,.int .i64 ic2,.bool sc2,.slice xc2 nc2 cc2,.slice yc2 mc2 dc2,.int .i64 id2,.bool sd2,.slice xd2 nd2 cd2,.slice yd2 md2 dd2]∧Cs (w3.alloc (.cells #[.string z2,.bool sb2,.slice xb2 nb2 cb2,.slice yb2 mb2 db2,.int .i64 ic2,.bool sc2,.slice xc2 nc2 cc2,.slice yc2 mc2 dc2,.int .i64 id2,.bool sd2,.slice xd2 nd2 cd2,.slice yd2 md2 dd2,.string z3,.bool sb3,.slice xb3 nb3 cb3,.slice yb3 mb3 db3,.int .i64 ic3,.bool sc3,.slice xc3 nc3 cc3,.slice yc3 mc3 dc3,.int .i64 id3,.bool sd3,.slice xd3 nd3 cd3,.slice yd3 md3 dd3] 58)) w3.heap.size 12 [.string z3,.bool sb3,.slice xb3 nb3 cb3,.slice yb3 mb3 db3,.int .i64 ic3,.bool sc3,.slice xc3 nc3 cc3,.slice yc3 mc3 dc3,.int .i64 id3,.bool sd3,.slice xd3 nd3 cd3,.slice yd3 md3 dd3]):=cs_app w3 58 [.string z2,.bool sb2,.slice xb2 nb2 cb2,.slice yb2 mb2 db2,.int .i64 ic2,.bool sc2,.slice xc2 nc2 cc2,.slice yc2 mc2 dc2,.int .i64 id2,.bool sd2,.slice xd2 nd2 cd2,.slice yd2 md2 dd2] [.string z3,.bool sb3,.slice xb3 nb3 cb3,.slice yb3 mb3 db3,.int .i64 ic3,.bool sc3,.slice xc3 nc3 cc3,.slice yc3 mc3 dc3,.int .i64 id3,.bool sd3,.slice xd3 nd3 cd3,.slice yd3 md3 dd3];replace HB:=hid (HB.out.trans (hn.mono HB.out.size));replace O0:=hid (O0.out.below hn);replace R1:=hid (R1.out.below hn);replace R2:=hid (R2.out.below hn);replace R3:=hid (R3.out.below hn)
 clear hn;go_wp2_with fail
 generalize hw8:w3.alloc (.cells #[.string z2,.bool sb2,.slice xb2 nb2 cb2,.slice yb2 mb2 db2,.int .i64 ic2,.bool sc2,.slice xc2 nc2 cc2,.slice yc2 mc2 dc2,.int .i64 id2,.bool sd2,.slice xd2 nd2 cd2,.slice yd2 md2 dd2,.string z3,.bool sb3,.slice xb3 nb3 cb3,.slice yb3 mb3 db3,.int .i64 ic3,.bool sc3,.slice xc3 nc3 cc3,.slice yc3 mc3 dc3,.int .i64 id3,.bool sd3,.slice xd3 nd3 cd3,.slice yd3 md3 dd3] 58)=w4 at *;clear hw8;generalize w3.heap.size=bc at *;have HC1:=hid HC.out.1;have HC2:=hid HC.out.2
 clear HC;refine (xLow_c).mono ?_;rintro e w5 ⟨s5,x5,n5,c5,f5,y5,m5,d5,g5,rfl,hb,hF⟩;replace HB:=hid (HB.out.trans (hb.mono HB.out.size));replace O0:=hid (O0.out.below hb);replace R1:=hid (R1.out.below hb);replace R2:=hid (R2.out.below hb);replace R3:=hid (R3.out.below hb);replace HC1:=hid (HC1.out.below hb);replace HC2:=hid (HC2.out.below hb)
 clear hb;go_wp2_with fail
 refine (xTo_c hF.out.2.2 (by have:=hF.out;omega) (by have:=hF.out;omega)).mono ?_;rintro e w6 ⟨x6,n6,c6,f6,y6,m6,d6,g6,rfl,hb,hE⟩;replace HB:=hid (HB.out.trans (hb.mono HB.out.size));replace O0:=hid (O0.out.below hb);replace R1:=hid (R1.out.below hb);replace R2:=hid (R2.out.below hb);replace R3:=hid (R3.out.below hb);replace HC1:=hid (HC1.out.below hb);replace HC2:=hid (HC2.out.below hb)
 have R6:=hid (hE.out.rn.mono (show _≤8 by have:=hF.out;omega));clear hb hE hF;generalize s5=s6 at *;go_wp2_with fail
 refine (num11_c (z:=6) (by decide) (by decide)).mono ?_;rintro e w7 ⟨v7,rfl,hb,⟨⟨i7,⟨s7,x7,n7,c7,f7,y7,m7,d7,g7⟩⟩,ev,hi7,hv⟩⟩;replace ev:v7=.agg #[.int .i64 i7,.bool s7,.slice x7 n7 c7,.slice y7 m7 d7]:=ev;subst ev;replace HB:=hid (HB.out.trans (hb.mono HB.out.size));replace O0:=hid (O0.out.below hb);replace R1:=hid (R1.out.below hb);replace R2:=hid (R2.out.below hb);replace R3:=hid (R3.out.below hb);replace HC1:=hid (HC1.out.below hb);replace HC2:=hid (HC2.out.below hb);replace R6:=hid (R6.out.below hb)
 replace hi7:i7=0:=hi7;subst hi7;have R7:=hid (show Rn 8 w7 s7 x7 n7 c7 f7 y7 m7 d7 g7 (6:Int) from hv);clear hb hv;go_wp2_with fail
 refine (docOfQ_c (z:=1) (by decide) (by decide)).mono ?_;rintro e w8 ⟨s8,x8,n8,c8,f8,y8,m8,d8,g8,rfl,hb,hr⟩;replace HB:=hid (HB.out.trans (hb.mono HB.out.size));replace O0:=hid (O0.out.below hb);replace R1:=hid (R1.out.below hb);replace R2:=hid (R2.out.below hb);replace R3:=hid (R3.out.below hb);replace HC1:=hid (HC1.out.below hb);replace HC2:=hid (HC2.out.below hb);replace R6:=hid (R6.out.below hb);replace R7:=hid (R7.out.below hb)
 have R8:=hid (hr.mono (show 4≤8 by decide));clear hb hr;go_wp2_with fail
 refine (docOfQ_c (z:=2) (by decide) (by decide)).mono ?_;rintro e w9 ⟨s9,x9,n9,c9,f9,y9,m9,d9,g9,rfl,hb,hr⟩;replace HB:=hid (HB.out.trans (hb.mono HB.out.size));replace O0:=hid (O0.out.below hb);replace R1:=hid (R1.out.below hb);replace R2:=hid (R2.out.below hb);replace R3:=hid (R3.out.below hb);replace HC1:=hid (HC1.out.below hb);replace HC2:=hid (HC2.out.below hb);replace R6:=hid (R6.out.below hb);replace R7:=hid (R7.out.below hb);replace R8:=hid (R8.out.below hb)
 have R9:=hid (hr.mono (show 4≤8 by decide));clear hb hr;have hn:=below_alloc (Below.refl w9.heap.size w9) (.cells #[.int .i64 0,.bool s8,.slice x8 n8 c8,.slice y8 m8 d8,.int .i64 1,.bool s9,.slice x9 n9 c9,.slice y9 m9 d9] 63);have HT:Hid (GT [(0,⟨s8,x8,n8,c8,f8,y8,m8,d8,g8⟩),(1,⟨s9,x9,n9,c9,f9,y9,m9,d9,g9⟩)] (.slice (some ⟨w9.heap.size,0,none⟩) 2 2) (w9.alloc (.cells #[.int .i64 0,.bool s8,.slice x8 n8 c8,.slice y8 m8 d8,.int .i64 1,.bool s9,.slice x9 n9 c9,.slice y9 m9 d9] 63))):=gt_new2 w9 63 0 1 ⟨s8,x8,n8,c8,f8,y8,m8,d8,g8⟩ ⟨s9,x9,n9,c9,f9,y9,m9,d9,g9⟩;replace HB:=hid (HB.out.trans (hn.mono HB.out.size));replace O0:=hid (O0.out.below hn);replace R1:=hid (R1.out.below hn);replace R2:=hid (R2.out.below hn);replace R3:=hid (R3.out.below hn);replace HC1:=hid (HC1.out.below hn);replace HC2:=hid (HC2.out.below hn);replace R6:=hid (R6.out.below hn);replace R7:=hid (R7.out.below hn);replace R8:=hid (R8.out.below hn);replace R9:=hid (R9.out.below hn)
 clear hn;have hn:=below_alloc (Below.refl (w9.alloc (.cells #[.int .i64 0,.bool s8,.slice x8 n8 c8,.slice y8 m8 d8,.int .i64 1,.bool s9,.slice x9 n9 c9,.slice y9 m9 d9] 63)).heap.size (w9.alloc (.cells #[.int .i64 0,.bool s8,.slice x8 n8 c8,.slice y8 m8 d8,.int .i64 1,.bool s9,.slice x9 n9 c9,.slice y9 m9 d9] 63))) (.cells #[.string ⟨#[114]⟩,.int .i64 (-1),.bool s6,.slice x6 n6 c6,.slice y6 m6 d6,.int .i64 0,.bool s7,.slice x7 n7 c7,.slice y7 m7 d7,.slice (some ⟨w9.heap.size,0,none⟩) 2 2] 61);have HRs:Hid (Cs ((w9.alloc (.cells #[.int .i64 0,.bool s8,.slice x8 n8 c8,.slice y8 m8 d8,.int .i64 1,.bool s9,.slice x9 n9 c9,.slice y9 m9 d9] 63)).alloc (.cells #[.string ⟨#[114]⟩,.int .i64 (-1),.bool s6,.slice x6 n6 c6,.slice y6 m6 d6,.int .i64 0,.bool s7,.slice x7 n7 c7,.slice y7 m7 d7,.slice (some ⟨w9.heap.size,0,none⟩) 2 2] 61)) (w9.alloc (.cells #[.int .i64 0,.bool s8,.slice x8 n8 c8,.slice y8 m8 d8,.int .i64 1,.bool s9,.slice x9 n9 c9,.slice y9 m9 d9] 63)).heap.size 0 [.string ⟨#[114]⟩,.int .i64 (-1),.bool s6,.slice x6 n6 c6,.slice y6 m6 d6,.int .i64 0,.bool s7,.slice x7 n7 c7,.slice y7 m7 d7,.slice (some ⟨w9.heap.size,0,none⟩) 2 2]):=cs_new (w9.alloc (.cells #[.int .i64 0,.bool s8,.slice x8 n8 c8,.slice y8 m8 d8,.int .i64 1,.bool s9,.slice x9 n9 c9,.slice y9 m9 d9] 63)) 61 [.string ⟨#[114]⟩,.int .i64 (-1),.bool s6,.slice x6 n6 c6,.slice y6 m6 d6,.int .i64 0,.bool s7,.slice x7 n7 c7,.slice y7 m7 d7,.slice (some ⟨w9.heap.size,0,none⟩) 2 2] [.string ⟨#[114]⟩,.int .i64 (-1),.bool s6,.slice x6 n6 c6,.slice y6 m6 d6,.int .i64 0,.bool s7,.slice x7 n7 c7,.slice y7 m7 d7,.slice (some ⟨w9.heap.size,0,none⟩) 2 2] 0 (fun j v e=>by rw [Nat.zero_add];exact e);replace HB:=hid (HB.out.trans (hn.mono HB.out.size));replace O0:=hid (O0.out.below hn);replace R1:=hid (R1.out.below hn);replace R2:=hid (R2.out.below hn);replace R3:=hid (R3.out.below hn);replace HC1:=hid (HC1.out.below hn);replace HC2:=hid (HC2.out.below hn);replace R6:=hid (R6.out.below hn);replace R7:=hid (R7.out.below hn);replace R8:=hid (R8.out.below hn);replace R9:=hid (R9.out.below hn);replace HT:=hid (HT.out.below hn)
 clear hn;rw [size_alloc1] at HRs;have HMo:Hid (MoV 8 ((w9.alloc (.cells #[.int .i64 0,.bool s8,.slice x8 n8 c8,.slice y8 m8 d8,.int .i64 1,.bool s9,.slice x9 n9 c9,.slice y9 m9 d9] 63)).alloc (.cells #[.string ⟨#[114]⟩,.int .i64 (-1),.bool s6,.slice x6 n6 c6,.slice y6 m6 d6,.int .i64 0,.bool s7,.slice x7 n7 c7,.slice y7 m7 d7,.slice (some ⟨w9.heap.size,0,none⟩) 2 2] 61)) ⟨⟨s1,x1,n1,c1,f1,y1,m1,d1,g1⟩,some ⟨bc,0,none⟩,2,2,(fun j=>if j=0 then ⟨z2,⟨sb2,xb2,nb2,cb2,fb2,yb2,mb2,db2,gb2⟩,⟨ic2,⟨sc2,xc2,nc2,cc2,fc2,yc2,mc2,dc2,gc2⟩⟩,⟨id2,⟨sd2,xd2,nd2,cd2,fd2,yd2,md2,dd2,gd2⟩⟩⟩ else ⟨z3,⟨sb3,xb3,nb3,cb3,fb3,yb3,mb3,db3,gb3⟩,⟨ic3,⟨sc3,xc3,nc3,cc3,fc3,yc3,mc3,dc3,gc3⟩⟩,⟨id3,⟨sd3,xd3,nd3,cd3,fd3,yd3,md3,dd3,gd3⟩⟩⟩),some ⟨w9.heap.size+1,0,none⟩,1,1,fun _=>⟨⟨#[114]⟩,⟨-1,⟨s6,x6,n6,c6,f6,y6,m6,d6,g6⟩⟩,⟨0,⟨s7,x7,n7,c7,f7,y7,m7,d7,g7⟩⟩,some ⟨w9.heap.size,0,none⟩,2,2,(fun p=>if p=0 then 0 else 1),(fun p=>if p=0 then ⟨s8,x8,n8,c8,f8,y8,m8,d8,g8⟩ else ⟨s9,x9,n9,c9,f9,y9,m9,d9,g9⟩)⟩⟩ 3 k2C k2R):=by
  refine ⟨R1.out,rfl,rfl,fun j v e=>?_,fun j v e=>?_⟩
  ·match j,e with
   | 0,e=>cases e;exact ⟨⟨_,0,rfl,HC1.out⟩,R2.out⟩
   | 1,e=>cases e;exact ⟨⟨_,0,rfl,HC2.out⟩,R3.out⟩
  ·match j,e with
   | 0,e =>
    cases e
    obtain ⟨bt,et,ht⟩:=HT.out;have et2:w9.heap.size=bt:=by injection et with et;injection et with et;injection et
    subst et2;refine ⟨⟨_,0,rfl,HRs.out⟩,rfl,rfl,R6.out,rfl,R7.out,rfl,fun p z q e=>?_⟩
    match p,e with
    | 0,e=>cases e;exact ⟨rfl,R8.out,_,0,rfl,ht 0 _ _ rfl⟩
    | 1,e=>cases e;exact ⟨rfl,R9.out,_,0,rfl,ht 1 _ _ rfl⟩
 obtain ⟨hk1,hk2⟩:=kp_st5 (v0:=.bool s1) (v1:=.slice x1 n1 c1) (v2:=.slice y1 m1 d1) (v3:=.slice (some ⟨bc,0,none⟩) 2 2) (v4:=.slice (some ⟨w9.heap.size+1,0,none⟩) 1 1) O0.out (nou5 _ _ _ _ _ _ _ _ _ _ _ _ _) rfl;have HM2:=hid (HMo.out.kp hk1 hk2 (noc5 O0.out));have HB2:=hid (below_st5 (u0:=.bool s1) (u1:=.slice x1 n1 c1) (u2:=.slice y1 m1 d1) (u3:=.slice (some ⟨bc,0,none⟩) 2 2) (u4:=.slice (some ⟨w9.heap.size+1,0,none⟩) 1 1) HB.out (Nat.le_refl w.heap.size));have l0:=O0.out.cell (j:=0) rfl;have l1:=O0.out.cell (j:=1) rfl;have l2:=O0.out.cell (j:=2) rfl;have l3:=O0.out.cell (j:=3) rfl;have l4:=O0.out.cell (j:=4) rfl;have ff:=O0.out.frozen;clear hk1 hk2 HMo HB O0 R1 R2 R3 R6 R7 R8 R9 HC1 HC2 HT HRs;go_wp2;exact bodyPost_ret (v:=.agg #[.bool s1,.slice x1 n1 c1,.slice y1 m1 d1,.slice (some ⟨bc,0,none⟩) 2 2,.slice (some ⟨w9.heap.size+1,0,none⟩) 1 1]) (by simp [results,Tryz.results15,go_sem,l0,l1,l2,l3,l4]) rfl ⟨⟨⟨s1,x1,n1,c1,f1,y1,m1,d1,g1⟩,some ⟨bc,0,none⟩,2,2,(fun j=>if j=0 then ⟨z2,⟨sb2,xb2,nb2,cb2,fb2,yb2,mb2,db2,gb2⟩,⟨ic2,⟨sc2,xc2,nc2,cc2,fc2,yc2,mc2,dc2,gc2⟩⟩,⟨id2,⟨sd2,xd2,nd2,cd2,fd2,yd2,md2,dd2,gd2⟩⟩⟩ else ⟨z3,⟨sb3,xb3,nb3,cb3,fb3,yb3,mb3,db3,gb3⟩,⟨ic3,⟨sc3,xc3,nc3,cc3,fc3,yc3,mc3,dc3,gc3⟩⟩,⟨id3,⟨sd3,xd3,nd3,cd3,fd3,yd3,md3,dd3,gd3⟩⟩⟩),some ⟨w9.heap.size+1,0,none⟩,1,1,fun _=>⟨⟨#[114]⟩,⟨-1,⟨s6,x6,n6,c6,f6,y6,m6,d6,g6⟩⟩,⟨0,⟨s7,x7,n7,c7,f7,y7,m7,d7,g7⟩⟩,some ⟨w9.heap.size,0,none⟩,2,2,(fun p=>if p=0 then 0 else 1),(fun p=>if p=0 then ⟨s8,x8,n8,c8,f8,y8,m8,d8,g8⟩ else ⟨s9,x9,n9,c9,f9,y9,m9,d9,g9⟩)⟩⟩,rfl,HB2.out,HM2.out⟩
structure Cr (base:Nat) (w:World) (g ck:Nat) (V:Nat→Value) (E:Nat→List Nm) (X:Nat→Prop):Prop where
 bl:∃cur,w.heap[g]?=some (.cells cur 29 (0,0))∧cur.size=ck∧NoU cur∧∀j,j<ck→cur[j]?=some (V j)
 ge:base≤g
 xg:¬X g
 row:∀j,j<ck→RowG 24 3 base w (V j) (E j).length (rcells (E j))
 ne:∀j,j<ck→(V j).ownBlock≠some g
 nx:∀j,j<ck→∀b,(V j).ownBlock=some b→¬X b
 dj:∀i j,i<ck→j<ck→i≠j→∀b,(V i).ownBlock=some b→(V j).ownBlock≠some b
theorem Cr.lt {base w g ck V E X} (h:Cr base w g ck V E X):g<w.heap.size:=by
 obtain ⟨cur,h1,_⟩:=h.bl;exact (Array.getElem?_eq_some_iff.1 h1).1
theorem Cr.below {base w w' g ck V E X} (h:Cr base w g ck V E X) (hb:Below w.heap.size w w'):Cr base w' g ck V E X:=by
 have hlt:=h.lt;obtain ⟨cur,h1,h2⟩:=h.bl;exact ⟨⟨cur,(hb.block g hlt).trans h1,h2⟩,h.ge,h.xg,fun j hj=>(h.row j hj).below hb,h.ne,h.nx,h.dj⟩
theorem Cr.cell {base w g ck V E X} (h:Cr base w g ck V E X) {j:Nat} (hj:j<ck):w.cell? ⟨g,j,none⟩=some (V j):=by
 obtain ⟨cur,h1,_,_,h2⟩:=h.bl;simp only [World.cell?,h1];simpa using h2 j hj
theorem Cr.unx {base w g ck V E X} (h:Cr base w g ck V E X) (Y:Nat→Prop) (hY:∀b,Y b→w.heap.size≤b):Cr base w g ck V E Y :=
 ⟨h.bl,h.ge,fun hy=>by have:=hY g hy;have:=h.lt;omega,h.row,h.ne,fun j hj b hb hy=>by have:=hY b hy;have:=((h.row j hj).lt b hb).2;omega,h.dj⟩
theorem Cr.congr {base w g ck V E E' X} (h:Cr base w g ck V E X) (he:∀j,j<ck→E j=E' j):Cr base w g ck V E' X :=
 ⟨h.bl,h.ge,h.xg,fun j hj=>by rw [←he j hj];exact h.row j hj,h.ne,h.nx,h.dj⟩
theorem Cr.put {base w w8 g ck V E X} (h : Cr base w g ck V E X) {c : Nat} (hc : c < ck) {g8 cap8 en : Nat} {x : Nm} (hen : (E c).length = en) (hX : ∀ b, X b → b < w.heap.size)
    (hr : RowG 24 3 base w8 (.slice (some ⟨g8, 0, none⟩) (en + 1) cap8) (en + 1) (rcells (E c) ++ rcell x))
    (hg : ∀ k, k < w.heap.size → (V c).ownBlock ≠ some k → w8.heap[k]? = w.heap[k]?) (hl : (V c).ownBlock = some g8 ∨ w.heap.size ≤ g8) :
    Cr base (w8.setCell ⟨g, c, none⟩ (.slice (some ⟨g8, 0, none⟩) (en + 1) cap8)) g ck (putV V c (.slice (some ⟨g8, 0, none⟩) (en + 1) cap8)) (fun j => if j = c then E c ++ [x] else E j) X := by
  subst hen
  have hgl := h.lt
  have hg8 : g8 ≠ g := fun e => by
    rcases hl with h1 | h1
    · exact h.ne c hc (e ▸ h1)
    · omega
  have hset : ∀ k, k ≠ g → (w8.setCell ⟨g, c, none⟩ (.slice (some ⟨g8, 0, none⟩) ((E c).length + 1) cap8)).heap[k]? = w8.heap[k]? := fun k hk => Below.heap_setCell _ _ _ _ hk
  obtain ⟨cur, h1, h2, h3, h4⟩ := h.bl
  have h8 : w8.heap[g]? = some (.cells cur 29 (0, 0)) := (hg g hgl (h.ne c hc)).trans h1
  refine ⟨⟨cur.setIfInBounds c (.slice (some ⟨g8, 0, none⟩) ((E c).length + 1) cap8), ?_, by simpa using h2, ?_, fun j hj => ?_⟩, h.ge, h.xg, fun j hj => ?_, fun j hj => ?_, fun j hj b hb => ?_, fun i j hi hj hij b hb => ?_⟩
  · simp [World.setCell, Array.getElem?_modify, h8]
  · intro i z
    by_cases e : i = c
    · subst e
      rw [Array.getElem?_setIfInBounds_self]; split <;> simp
    · rw [Array.getElem?_setIfInBounds_ne (Ne.symm e)]; exact h3 i z
  · by_cases e : j = c
    · subst e; rw [putV_at]; simp [h2, hj]
    · rw [putV_ne e, Array.getElem?_setIfInBounds_ne (Ne.symm e)]; exact h4 j hj
  · by_cases e : j = c
    · subst e
      rw [putV_at]
      simp only [if_true, List.length_append, List.length_singleton]
      have : rcells (E j ++ [x]) = rcells (E j) ++ rcell x := by simp [rcells]
      rw [this]
      exact hr.of (fun k hk => hset k (fun e => by have : g8 = k := by simpa [Value.ownBlock] using hk
                                                   omega))
    · rw [putV_ne e]
      simp only [e, if_false]
      refine (h.row j hj).of (fun k hk => ?_)
      have hk1 := ((h.row j hj).lt k hk).2
      rw [hset k (fun e2 => h.ne j hj (e2 ▸ hk)), hg k hk1 (fun e2 => h.dj c j hc hj (Ne.symm e) k e2 hk)]
  · by_cases e : j = c
    · subst e; rw [putV_at]; intro e2; exact hg8 (by simpa [Value.ownBlock] using e2)
    · rw [putV_ne e]; exact h.ne j hj
  · by_cases e : j = c
    · subst e
      rw [putV_at] at hb
      have hb' : g8 = b := by simpa [Value.ownBlock] using hb
      intro hx
      rcases hl with h5 | h5
      · exact h.nx j hj b (hb' ▸ h5) hx
      · have := hX b hx; omega
    · rw [putV_ne e] at hb; exact h.nx j hj b hb
  · by_cases e : i = c
    · subst e
      rw [putV_at] at hb
      have hb' : g8 = b := by simpa [Value.ownBlock] using hb
      rw [putV_ne (Ne.symm hij)]
      intro h5
      rcases hl with h6 | h6
      · exact h.dj i j hi hj hij g8 h6 (hb' ▸ h5)
      · have := ((h.row j hj).lt b h5).2; omega
    · rw [putV_ne e] at hb
      by_cases e2 : j = c
      · subst e2
        rw [putV_at]
        intro h5
        have hb' : g8 = b := by simpa [Value.ownBlock] using h5
        rcases hl with h6 | h6
        · exact h.dj i j hi hj hij b hb (hb' ▸ h6)
        · have := ((h.row i hi).lt b hb).2; omega
      · rw [putV_ne e2]; exact h.dj i j hi hj hij b hb
theorem cr_new {base:Nat} {w:World} {g ck:Nat} (hb:base≤g) (h:∃cur,w.heap[g]?=some (.cells cur 29 (0,0))∧cur.size=ck∧NoU cur∧∀j,j<ck→cur[j]?=some (.slice none 0 0)):Cr base w g ck (fun _=>.slice none 0 0) (fun _=>[]) (fun _=>False) :=
 ⟨h,hb,fun h=>h,fun _ _=>rowG_nil _ _ _ _,(fun _ _ h=>nomatch h),(fun _ _ _ h=>nomatch h),(fun _ _ _ _ _ _ h=>nomatch h)⟩
theorem Tryz.infoLr:(Tryz.prog.info? 29).map (fun i=>(i.zero,i.size,i.bytes))=some (some (.slice none 0 0),1,24):=by kernel_rfl
def Lv (L:Nat) (w:World) (E:List Nm) (p:List Rat):Prop:=E.length=p.length∧∀(j:Nat) (t:Nm) (q:Rat),E[j]?=some t→p[j]?=some q→NmV L w t q
theorem Lv.nil (L:Nat) (w:World):Lv L w [] []:=⟨rfl,fun j t q h=>by simp at h⟩
theorem Lv.below {L w w' E p} (h:Lv L w E p) (hb:Below w.heap.size w w'):Lv L w' E p:=⟨h.1,fun j t q a b=>Rn.below (h.2 j t q a b) hb⟩
theorem Lv.kp {L w w' E p} (h:Lv L w E p) (hb:Kp w w'):Lv L w' E p:=⟨h.1,fun j t q a b=>Rn.kp (h.2 j t q a b) hb⟩
theorem Lv.snoc {L w E p t q} (h:Lv L w E p) (hq:NmV L w t q):Lv L w (E++[t]) (p++[q]):=by
 refine ⟨by rw [List.length_append,List.length_append,h.1];rfl,fun j t' q' a b=>?_⟩;by_cases hj:j<E.length
 ·rw [List.getElem?_append_left hj] at a;rw [List.getElem?_append_left (by rw [←h.1];exact hj)] at b;exact h.2 j t' q' a b
 ·rw [List.getElem?_append_right (by omega)] at a;rw [List.getElem?_append_right (by rw [←h.1];omega),←h.1] at b;obtain ⟨k,hk⟩:∃k,j-E.length=k:=⟨_,rfl⟩;rw [hk] at a b;cases k with
  | zero=>cases a;cases b;exact hq
  | succ k=>simp at a
def entQ (y:Rat):List (Int × Rat)→Nat→List Rat
 | [],_=>[]
 | (z,a) :: r,j=>(if z=(j:Int) then [-y*a] else [])++entQ y r j
def centQ:List RV→List Rat→Nat→List Rat
 | v :: rs,y :: ys,j=>entQ y v.ts j++centQ rs ys j
 | _,_,_=>[]
theorem entQ_take {y:Rat}:∀{ts:List (Int × Rat)} {p:Nat} {z:Int} {a:Rat} (j:Nat),ts[p]?=some (z,a)→entQ y (ts.take (p+1)) j=entQ y (ts.take p) j++(if z=(j:Int) then [-y*a] else [])
 | [],p,z,a,j,h=>by simp at h
 | (z',a') :: r,0,z,a,j,h=>by
  have e:z'=z∧a'=a:=by simpa using h
  obtain ⟨rfl,rfl⟩:=e;simp [entQ]
 | (z',a') :: r,p+1,z,a,j,h=>by
  simp only [List.take_succ_cons,entQ];rw [entQ_take (ts:=r) (p:=p) j (by simpa using h),List.append_assoc]
theorem centQ_take:∀{rs:List RV} {ys:List Rat} {i:Nat} {v:RV} {y:Rat} (j:Nat),rs[i]?=some v→ys[i]?=some y→centQ (rs.take (i+1)) (ys.take (i+1)) j=centQ (rs.take i) (ys.take i) j++entQ y v.ts j
 | [],_,_,_,_,_,h,_=>by simp at h
 | _ :: _,[],_,_,_,_,_,h=>by simp at h
 | v' :: rs,y' :: ys,0,v,y,j,h,h2=>by
  have e1:v'=v:=by simpa using h
  have e2:y'=y:=by simpa using h2
  subst e1;subst e2
  simp [centQ]
 | v' :: rs,y' :: ys,i+1,v,y,j,h,h2=>by
  simp only [List.take_succ_cons,centQ];rw [centQ_take (rs:=rs) (ys:=ys) (i:=i) j (by simpa using h) (by simpa using h2),List.append_assoc]
theorem entQ_low {y:Rat} {n j:Nat}:∀{ts:List (Int × Rat)} {z:Int},tsB n z ts=true→(j:Int)≤z→entQ y ts j=[]
 | [],_,_,_=>rfl
 | (z',q) :: r,z,h,hj=>by
  simp only [tsB,Bool.and_eq_true,decide_eq_true_eq] at h;simp only [entQ];rw [if_neg (by omega),entQ_low h.2.2.2 (by omega)];rfl
theorem entQ_len {y:Rat} {n j:Nat}:∀{ts:List (Int × Rat)} {z:Int},tsB n z ts=true→(entQ y ts j).length≤1
 | [],_,_=>by simp [entQ]
 | (z',q) :: r,z,h=>by
  simp only [tsB,Bool.and_eq_true,decide_eq_true_eq] at h;simp only [entQ];by_cases e:z'=(j:Int)
  ·rw [if_pos e,entQ_low h.2.2.2 (by omega)];simp
  ·rw [if_neg e,List.nil_append];exact entQ_len h.2.2.2
theorem centQ_len {n j:Nat}:∀{rs:List RV} {ys:List Rat},(∀v ∈ rs,tsB n (-1) v.ts=true)→(centQ rs ys j).length≤rs.length
 | [],_,_=>by simp [centQ]
 | _ :: _,[],_=>by simp [centQ]
 | v :: rs,y :: ys,h=>by
  have h1:=entQ_len (y:=y) (j:=j) (h v List.mem_cons_self);have h2:=centQ_len (rs:=rs) (ys:=ys) (j:=j) (fun v' hv=>h v' (List.mem_cons_of_mem _ hv));simp only [centQ,List.length_append,List.length_cons];omega
theorem tsB_takeD {n:Nat}:∀{ts:List (Int × Rat)} {z:Int} (i:Nat),tsB n z ts=true→tsB n z (ts.take i)=true
 | [],_,i,_=>by simp [tsB]
 | (y,q) :: r,z,0,_=>rfl
 | (y,q) :: r,z,i+1,h=>by
  simp only [tsB,Bool.and_eq_true,decide_eq_true_eq] at h;simp only [List.take_succ_cons,tsB,Bool.and_eq_true,decide_eq_true_eq];exact ⟨h.1,h.2.1,h.2.2.1,tsB_takeD i h.2.2.2⟩
def redC (rs:List RV) (ys:List Rat):Nat→List CV→List Rat
 | _,[]=>[]
 | j,v :: cs=>psum (centQ rs ys j++[v.cost]) 0 :: redC rs ys (j+1) cs
theorem redC_len (rs:List RV) (ys:List Rat):∀(cs:List CV) (j:Nat),(redC rs ys j cs).length=cs.length
 | [],_=>rfl
 | v :: cs,j=>by simp [redC,redC_len rs ys cs (j+1)]
theorem redC_take (rs:List RV) (ys:List Rat):∀{cs:List CV} {i:Nat} {v:CV} (j:Nat),cs[i]?=some v→redC rs ys j (cs.take (i+1))=redC rs ys j (cs.take i)++[psum (centQ rs ys (j+i)++[v.cost]) 0]
 | [],i,v,j,h=>by simp at h
 | v' :: cs,0,v,j,h=>by
  have e:v'=v:=by simpa using h
  subst e;simp [redC]
 | v' :: cs,i+1,v,j,h=>by
  simp only [List.take_succ_cons,redC];rw [redC_take rs ys (cs:=cs) (i:=i) (j+1) (by simpa using h),show j+(i+1)=j+1+i by omega];rfl
set_option maxRecDepth 100000 in
set_option maxHeartbeats 4000000 in
theorem dtimes_c {L:Nat} {w:World} {sa:Bool} {xa:Option Addr} {na ca:Nat} {fa:Nat→Int} {ya:Option Addr} {ma da:Nat} {ga:Nat→Int} {a:Rat} {sb:Bool} {xb:Option Addr} {nb cb:Nat} {fb:Nat→Int} {yb:Option Addr} {mb db:Nat} {gb:Nat→Int} {b:Rat} (ha:Rn L w sa xa na ca fa ya ma da ga a) (hb:Rn L w sb xb nb cb fb yb mb db gb b) (hL:L≤200000) :
  Calls Tryz.prog 39 #[.agg #[.bool sa,.slice xa na ca,.slice ya ma da],.agg #[.bool sb,.slice xb nb cb,.slice yb mb db]] w fun e w'=>RatAns (2*L+1) w w' e (a*b):=by
 have h1:=((ha.alloc (.cells #[.bool sa,.slice xa na ca,.slice ya ma da] 24)).alloc (.cells #[.bool sb,.slice xb nb cb,.slice yb mb db] 24)).alloc (.cells #[.bool false,.slice none 0 0,.slice none 0 0] 24);have h2:=((hb.alloc (.cells #[.bool sa,.slice xa na ca,.slice ya ma da] 24)).alloc (.cells #[.bool sb,.slice xb nb cb,.slice yb mb db] 24)).alloc (.cells #[.bool false,.slice none 0 0,.slice none 0 0] 24);have h3:=ob_new ((w.alloc (.cells #[.bool sa,.slice xa na ca,.slice ya ma da] 24)).alloc (.cells #[.bool sb,.slice xb nb cb,.slice yb mb db] 24)) 24;rw [size_alloc1,size_alloc1] at h3;have h4:=below_alloc (below_alloc (below_alloc (Below.refl w.heap.size w) (.cells #[.bool sa,.slice xa na ca,.slice ya ma da] 24)) (.cells #[.bool sb,.slice xb nb cb,.slice yb mb db] 24)) (.cells #[.bool false,.slice none 0 0,.slice none 0 0] 24);clear ha hb;go_enter Tryz.func39,Tryz.ntmps39;go_wp2_with fail
 generalize ((w.alloc (.cells #[.bool sa,.slice xa na ca,.slice ya ma da] 24)).alloc (.cells #[.bool sb,.slice xb nb cb,.slice yb mb db] 24)).alloc (.cells #[.bool false,.slice none 0 0,.slice none 0 0] 24)=w1 at *;have OB1:=hid h3;have HW1:=hid h4
 refine (rMul_n h1 h2 hL).mono ?_;clear h1 h2 h3 h4;rintro e w2 ⟨s,x,n,c,f,y,m,d,g,rfl,hb2,hq⟩;have hob:=OB1.out.below hb2;have hbw:=HW1.out.trans (hb2.mono HW1.out.size);obtain ⟨hz,z0,z1,z2,zf⟩:=OB1.out.below hb2;have HQ:=hid hq;have HOB:=hid hob;have HBW:=hid hbw
 clear hq hob hbw hb2 OB1 HW1;go_wp2;exact bodyPost_ret (v:=.agg #[.bool s,.slice x n c,.slice y m d]) (by simp [results,Tryz.results39,go_sem,z0,z1,z2,hz]) rfl ⟨s,x,n,c,f,y,m,d,g,rfl,below_alloc (below_st HBW.out (by omega)) _,(HOB.out.rn HQ.out).alloc _⟩
end Go.Proofs.YtankbgpcnljjdaaGreat
