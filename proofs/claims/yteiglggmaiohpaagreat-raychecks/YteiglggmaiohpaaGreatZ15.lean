/-
 The walks of package ray's times, free, endless, slope, by values (written by makers/ra1.py). The walks of the reference's Keeps of a number between bounds, of goes along a direction (written by makers/re1.py). The walks of package ray's slope, by values, of Recedes, Valid, whatever they are handed (written by makers/ra2.py). The walk of package ray's Along, whatever it is handed (written by makers/ra3.py). The walk of law07's awake (written by makers/f23.py). Ray's calls on values; the walks of law13's one, first, light, of the reference's Twin of a ray, of awake (written by makers/ra4.py). The reference's Same and Sames of lists with the same values.
-/
import Derived.Test.YteiglggmaiohpaaGreatZ14
import Derived.Test.YteiglggmaiohpaaGreatZ13
import Derived.BigQuiet
import Derived.Test.YteiglggmaiohpaaGreatZ0
import Derived.Test.YteiglggmaiohpaaGreatZ10
import Derived.Test.YteiglggmaiohpaaGreatZ9
import Derived.Test.YteiglggmaiohpaaGreatZ8
import Derived.Test.YteiglggmaiohpaaGreatZ6
import Derived.Deep.RegionHeld3
namespace Go.Proofs.YteiglggmaiohpaaGreat
open Go.RowKit
set_option maxRecDepth 100000 in
set_option maxHeartbeats 4000000 in
theorem rtimes_c {L:Nat} {w:World} {sa:Bool} {xa:Option Addr} {na ca:Nat} {fa:Nat→Int} {ya:Option Addr} {ma da:Nat} {ga:Nat→Int} {a:Rat} {sb:Bool} {xb:Option Addr} {nb cb:Nat} {fb:Nat→Int} {yb:Option Addr} {mb db:Nat} {gb:Nat→Int} {b:Rat} (ha:Rn L w sa xa na ca fa ya ma da ga a) (hb:Rn L w sb xb nb cb fb yb mb db gb b) (hL:L≤200000) :
  Calls Tryz.prog 38 #[.agg #[.bool sa,.slice xa na ca,.slice ya ma da],.agg #[.bool sb,.slice xb nb cb,.slice yb mb db]] w fun e w'=>RatAns (2*L+1) w w' e (a*b):=by
 have h1:=((ha.alloc (.cells #[.bool sa,.slice xa na ca,.slice ya ma da] 24)).alloc (.cells #[.bool sb,.slice xb nb cb,.slice yb mb db] 24)).alloc (.cells #[.bool false,.slice none 0 0,.slice none 0 0] 24);have h2:=((hb.alloc (.cells #[.bool sa,.slice xa na ca,.slice ya ma da] 24)).alloc (.cells #[.bool sb,.slice xb nb cb,.slice yb mb db] 24)).alloc (.cells #[.bool false,.slice none 0 0,.slice none 0 0] 24);have h3:=ob_new ((w.alloc (.cells #[.bool sa,.slice xa na ca,.slice ya ma da] 24)).alloc (.cells #[.bool sb,.slice xb nb cb,.slice yb mb db] 24)) 24;rw [size_alloc1,size_alloc1] at h3;have h4:=below_alloc (below_alloc (below_alloc (Below.refl w.heap.size w) (.cells #[.bool sa,.slice xa na ca,.slice ya ma da] 24)) (.cells #[.bool sb,.slice xb nb cb,.slice yb mb db] 24)) (.cells #[.bool false,.slice none 0 0,.slice none 0 0] 24);clear ha hb;go_enter Tryz.func38,Tryz.ntmps38;go_wp2_with fail
 generalize ((w.alloc (.cells #[.bool sa,.slice xa na ca,.slice ya ma da] 24)).alloc (.cells #[.bool sb,.slice xb nb cb,.slice yb mb db] 24)).alloc (.cells #[.bool false,.slice none 0 0,.slice none 0 0] 24)=w1 at *;have OB1:=hid h3;have HW1:=hid h4
 refine (rMul_n h1 h2 hL).mono ?_;clear h1 h2 h3 h4;rintro e w2 ⟨s,x,n,c,f,y,m,d,g,rfl,hb2,hq⟩;have hob:=OB1.out.below hb2;have hbw:=HW1.out.trans (hb2.mono HW1.out.size);obtain ⟨hz,z0,z1,z2,zf⟩:=OB1.out.below hb2;have HQ:=hid hq;have HOB:=hid hob;have HBW:=hid hbw
 clear hq hob hbw hb2 OB1 HW1;go_wp2;exact bodyPost_ret (v:=.agg #[.bool s,.slice x n c,.slice y m d]) (by simp [results,Tryz.results38,go_sem,z0,z1,z2,hz]) rfl ⟨s,x,n,c,f,y,m,d,g,rfl,below_alloc (below_st HBW.out (by omega)) _,(HOB.out.rn HQ.out).alloc _⟩
theorem Rn.sg {L w s x n c f y m d g q} (h:Rn L w s x n c f y m d g q):s=decide (q<0):=by
 have h1:=h.num.val;have h2:=h.num.wf;have h5:=vf_nonneg h.num.lm;have hz:=h.q_zero
 cases s
 ·have h3:q.num=vf f n:=by rw [←h1];rfl
  have h4:0≤q:=Rat.num_nonneg.1 (by omega);rw [decide_eq_false (Rat.not_lt.2 h4)]
 ·have hn:n≠0:=fun e=>by subst e;simp [wfB] at h2
  have h3:q.num=- vf f n:=by rw [←h1];rfl
  have h4:q<0:=Rat.not_le.1 (fun e=>by
   have h6:=Rat.num_nonneg.2 e;exact hn (hz.1 (Rat.num_eq_zero.1 (by omega))))
  rw [decide_eq_true h4]
def frB (q:Rat) (li hi:Int):Bool:=if q=0 then true else if q<0 then decide (li≠0) else decide (hi≠0)
set_option maxRecDepth 100000 in
set_option maxHeartbeats 4000000 in
theorem free_c {w:World} {L:Nat} {s0:Bool} {x0:Option Addr} {n0 c0:Nat} {f0:Nat→Int} {y0:Option Addr} {m0 d0:Nat} {g0:Nat→Int} {q:Rat} {i1:Int} {s1:Bool} {x1:Option Addr} {n1 c1:Nat} {y1:Option Addr} {m1 d1:Nat} {i2:Int} {s2:Bool} {x2:Option Addr} {n2 c2:Nat} {y2:Option Addr} {m2 d2:Nat} (h0:Rn L w s0 x0 n0 c0 f0 y0 m0 d0 g0 q) :
  Calls Tryz.prog 61 #[.agg #[.bool s0,.slice x0 n0 c0,.slice y0 m0 d0],.agg #[.int .i64 i1,.bool s1,.slice x1 n1 c1,.slice y1 m1 d1],.agg #[.int .i64 i2,.bool s2,.slice x2 n2 c2,.slice y2 m2 d2]] w fun e w'=>e=.returned (.bool (frB q i1 i2))∧Below w.heap.size w w':=by
 have HB:=hid (below_alloc (below_alloc (below_alloc (Below.refl w.heap.size w) (.cells #[.bool s0,.slice x0 n0 c0,.slice y0 m0 d0] 24)) (.cells #[.int .i64 i1,.bool s1,.slice x1 n1 c1,.slice y1 m1 d1] 54)) (.cells #[.int .i64 i2,.bool s2,.slice x2 n2 c2,.slice y2 m2 d2] 54));have hz:=h0.q_zero;have hs:=h0.sg
 clear h0;go_enter Tryz.func61,Tryz.ntmps61;by_cases c1:n0=0
 ·have HF:Hid (frB q i1 i2=true):=by show _=_;rw [frB,if_pos (hz.2 c1)]
  subst c1;clear hz hs;go_wp2;go_ret;exact ⟨by rw [HF.out];rfl,HB.out⟩
 ·have e1:(((n0:Nat):Int)==0)=false:=by simp;omega
  have hq:q≠0:=fun e=>c1 (hz.1 e)
  cases s0
  ·have HF:Hid (frB q i1 i2=(i2 != 0)):=by show _=_;rw [frB,if_neg hq,if_neg (by simpa using hs.symm)];(by_cases e:i2=0 <;> simp [e])
   clear hz hs hq;go_wp2;go_ret;exact ⟨by rw [HF.out];rfl,HB.out⟩
  ·have HF:Hid (frB q i1 i2=(i1 != 0)):=by show _=_;rw [frB,if_neg hq,if_pos (by simpa using hs.symm)];(by_cases e:i1=0 <;> simp [e])
   clear hz hs hq;go_wp2;go_ret;exact ⟨by rw [HF.out];rfl,HB.out⟩
def allB (B:Nat→Bool):Nat→Bool
 | 0=>true
 | i+1=>allB B i && B i
theorem allB_iff {B:Nat→Bool}:∀{n:Nat},allB B n=true ↔ ∀j,j<n→B j=true
 | 0=>by simp [allB]
 | n+1=>by
  rw [allB,Bool.and_eq_true,allB_iff];exact ⟨fun ⟨h1,h2⟩ j hj=>(Nat.lt_succ_iff_lt_or_eq.1 hj).elim (h1 j) (fun e=>e ▸ h2),fun h=>⟨fun j hj=>h j (by omega),h n (by omega)⟩⟩
theorem allB_not {B:Nat→Bool} {n j:Nat} (hj:j<n) (h:B j=false):allB B n=false:=by
 cases e:allB B n
 ·rfl
 ·rw [allB_iff.1 e j hj] at h;cases h
def fcB (cs:List CV) (ds:List Rat) (j:Nat):Bool:=match cs[j]?,ds[j]? with
 | some v,some q=>frB q v.li v.hi
 | _,_=>false
def frwB (rs:List RV) (acl:List Rat) (j:Nat):Bool:=match rs[j]?,acl[j]? with
 | some v,some q=>frB q v.li v.hi
 | _,_=>false
def endB (cs:List CV) (rs:List RV) (ds acl:List Rat):Bool:=allB (fcB cs ds) cs.length && allB (frwB rs acl) rs.length
set_option maxRecDepth 100000 in
set_option maxHeartbeats 8000000 in
theorem endless_c {w:World} {L K:Nat} {M:Mo} {off:Rat} {cs:List CV} {rs:List RV} {ao:Option Addr} {k cap:Nat} {ds:List Rat} {aa:Option Addr} {ka capa:Nat} {acl:List Rat} (h:MoV L w M off cs rs) (hx:Rf L w ao ds) (ha:Rf K w aa acl) (hk:ds.length=k) (hkc:k=cs.length) (hka:acl.length=ka) (hkr:ka=rs.length) (hcl:cs.length≤64) (hrl:rs.length≤64) :
  Calls Tryz.prog 30 #[M.val,.slice ao k cap,.slice aa ka capa] w fun e w'=>e=.returned (.bool (endB cs rs ds acl))∧Below w.heap.size w w':=by
 subst hkc hkr;have hck:M.ck=cs.length:=h.ck;have hrk:M.rk=rs.length:=h.rk;have hC:=h.cls;have hR:=h.rls;clear h;obtain ⟨⟨s,x,n,c,f,y,m,d,g⟩,ca,ck,cc,C,ra,rk,rc,R⟩:=M;replace hck:ck=cs.length:=hck;replace hrk:rk=rs.length:=hrk;subst hck hrk;have HC:Hid (∀j v,cs[j]?=some v→(∃b o,ca=some ⟨b,o,none⟩∧Cs w b (o+j*12) (C j).vs)∧ColV L w (C j) v):=hC;have HR:Hid (∀j v,rs[j]?=some v→(∃b o,ra=some ⟨b,o,none⟩∧Cs w b (o+j*10) (R j).vs)∧RowV L w (R j) v):=hR;have HX:=hid hx;have HAct:=hid ha
 clear hC hR hx ha;show Calls Tryz.prog 30 #[.agg #[.bool s,.slice x n c,.slice y m d,.slice ca cs.length cc,.slice ra rs.length rc],.slice ao cs.length cap,.slice aa rs.length capa] w _;have hb:=below_alloc (Below.refl w.heap.size w) (.cells #[.bool s,.slice x n c,.slice y m d,.slice ca cs.length cc,.slice ra rs.length rc] 28);have BM:Hid (Bk (w.alloc (.cells #[.bool s,.slice x n c,.slice y m d,.slice ca cs.length cc,.slice ra rs.length rc] 28)) w.heap.size [.bool s,.slice x n c,.slice y m d,.slice ca cs.length cc,.slice ra rs.length rc] 28):=bk_new w [.bool s,.slice x n c,.slice y m d,.slice ca cs.length cc,.slice ra rs.length rc] 28;have HB:=hid hb;clear hb;go_enter Tryz.func30,Tryz.ntmps30;have r3:=BM.out.cell (j:=3) rfl;go_wp2_with fail
 clear r3;generalize w.alloc (.cells #[.bool s,.slice x n c,.slice y m d,.slice ca cs.length cc,.slice ra rs.length rc] 28)=w1 at *;go_loopw [14] (fun t wr=>∃(i:Nat),i≤cs.length∧t=.int .i64 i∧Hid (Below w1.heap.size w1 wr)∧Hid (allB (fcB cs ds) i=true)) (fun t _=>cs.length-(intOf t).toNat)
 case atStart=>exact ⟨0,by omega,rfl,Below.refl _ _,rfl⟩
 case round =>
  obtain ⟨i,hi,rfl,HB2,HAll⟩:=hrel;by_cases hlt:i<cs.length
  ·obtain ⟨v,hv⟩:∃t,cs[i]?=some t:=⟨_,List.getElem?_eq_getElem (by omega)⟩;obtain ⟨⟨b,o,hba,hc⟩,hV⟩:=HC.out i v hv;subst hba;have hbz:=HB.out.trans (HB2.out.mono HB.out.size);obtain ⟨⟨z,⟨s0,x0,n0,c0,f0,y0,m0,d0,g0⟩,⟨i1,⟨s1,x1,n1,c1,f1,y1,m1,d1,g1⟩⟩,⟨i2,⟨s2,x2,n2,c2,f2,y2,m2,d2,g2⟩⟩⟩,hCi⟩:∃t,C i=t:=⟨_,rfl⟩;rw [hCi] at hc;have j1:i1=v.li:=by have:=hV.li;rw [hCi] at this;exact this
   have j2:i2=v.hi:=by have:=hV.hi;rw [hCi] at this;exact this
   replace hc:=Cs.below hc hbz;have q0:wr.cell? ⟨b,o+i*12,none⟩=some (.string z):=hc 0 _ rfl;have q1:wr.cell? ⟨b,o+i*12+1,none⟩=some (.bool s0):=hc 1 _ rfl;have q2:wr.cell? ⟨b,o+i*12+2,none⟩=some (.slice x0 n0 c0):=hc 2 _ rfl;have q3:wr.cell? ⟨b,o+i*12+3,none⟩=some (.slice y0 m0 d0):=hc 3 _ rfl;have q4:wr.cell? ⟨b,o+i*12+4,none⟩=some (.int .i64 i1):=hc 4 _ rfl;have q5:wr.cell? ⟨b,o+i*12+5,none⟩=some (.bool s1):=hc 5 _ rfl;have q6:wr.cell? ⟨b,o+i*12+6,none⟩=some (.slice x1 n1 c1):=hc 6 _ rfl;have q7:wr.cell? ⟨b,o+i*12+7,none⟩=some (.slice y1 m1 d1):=hc 7 _ rfl;have q8:wr.cell? ⟨b,o+i*12+8,none⟩=some (.int .i64 i2):=hc 8 _ rfl;have q9:wr.cell? ⟨b,o+i*12+9,none⟩=some (.bool s2):=hc 9 _ rfl;have q10:wr.cell? ⟨b,o+i*12+10,none⟩=some (.slice x2 n2 c2):=hc 10 _ rfl;have q11:wr.cell? ⟨b,o+i*12+11,none⟩=some (.slice y2 m2 d2):=hc 11 _ rfl;obtain ⟨r,hr⟩:∃t,ds[i]?=some t:=⟨_,List.getElem?_eq_getElem (by omega)⟩;obtain ⟨b',o',⟨ss,sx,sn,sc,sf,sy,sm,sd,sg⟩,hax,⟨p0,p1,p2⟩,hr'⟩:=(HX.out.below hbz) i r hr;subst hax;replace p0:wr.cell? ⟨b',o'+i*3,none⟩=some (.bool ss):=p0;replace p1:wr.cell? ⟨b',o'+i*3+1,none⟩=some (.slice sx sn sc):=p1;replace p2:wr.cell? ⟨b',o'+i*3+2,none⟩=some (.slice sy sm sd):=p2;replace hr':Rn _ wr ss sx sn sc sf sy sm sd sg r:=hr';have hbt:=below_alloc (Below.refl wr.heap.size wr) (.cells #[.string z,.bool s0,.slice x0 n0 c0,.slice y0 m0 d0,.int .i64 i1,.bool s1,.slice x1 n1 c1,.slice y1 m1 d1,.int .i64 i2,.bool s2,.slice x2 n2 c2,.slice y2 m2 d2] 56);have a4:(wr.alloc (.cells #[.string z,.bool s0,.slice x0 n0 c0,.slice y0 m0 d0,.int .i64 i1,.bool s1,.slice x1 n1 c1,.slice y1 m1 d1,.int .i64 i2,.bool s2,.slice x2 n2 c2,.slice y2 m2 d2] 56)).cell? ⟨wr.heap.size,4,none⟩=some (.int .i64 i1):=by simp [go_sem]
   have a5:(wr.alloc (.cells #[.string z,.bool s0,.slice x0 n0 c0,.slice y0 m0 d0,.int .i64 i1,.bool s1,.slice x1 n1 c1,.slice y1 m1 d1,.int .i64 i2,.bool s2,.slice x2 n2 c2,.slice y2 m2 d2] 56)).cell? ⟨wr.heap.size,5,none⟩=some (.bool s1):=by simp [go_sem]
   have a6:(wr.alloc (.cells #[.string z,.bool s0,.slice x0 n0 c0,.slice y0 m0 d0,.int .i64 i1,.bool s1,.slice x1 n1 c1,.slice y1 m1 d1,.int .i64 i2,.bool s2,.slice x2 n2 c2,.slice y2 m2 d2] 56)).cell? ⟨wr.heap.size,6,none⟩=some (.slice x1 n1 c1):=by simp [go_sem]
   have a7:(wr.alloc (.cells #[.string z,.bool s0,.slice x0 n0 c0,.slice y0 m0 d0,.int .i64 i1,.bool s1,.slice x1 n1 c1,.slice y1 m1 d1,.int .i64 i2,.bool s2,.slice x2 n2 c2,.slice y2 m2 d2] 56)).cell? ⟨wr.heap.size,7,none⟩=some (.slice y1 m1 d1):=by simp [go_sem]
   have a8:(wr.alloc (.cells #[.string z,.bool s0,.slice x0 n0 c0,.slice y0 m0 d0,.int .i64 i1,.bool s1,.slice x1 n1 c1,.slice y1 m1 d1,.int .i64 i2,.bool s2,.slice x2 n2 c2,.slice y2 m2 d2] 56)).cell? ⟨wr.heap.size,8,none⟩=some (.int .i64 i2):=by simp [go_sem]
   have a9:(wr.alloc (.cells #[.string z,.bool s0,.slice x0 n0 c0,.slice y0 m0 d0,.int .i64 i1,.bool s1,.slice x1 n1 c1,.slice y1 m1 d1,.int .i64 i2,.bool s2,.slice x2 n2 c2,.slice y2 m2 d2] 56)).cell? ⟨wr.heap.size,9,none⟩=some (.bool s2):=by simp [go_sem]
   have a10:(wr.alloc (.cells #[.string z,.bool s0,.slice x0 n0 c0,.slice y0 m0 d0,.int .i64 i1,.bool s1,.slice x1 n1 c1,.slice y1 m1 d1,.int .i64 i2,.bool s2,.slice x2 n2 c2,.slice y2 m2 d2] 56)).cell? ⟨wr.heap.size,10,none⟩=some (.slice x2 n2 c2):=by simp [go_sem]
   have a11:(wr.alloc (.cells #[.string z,.bool s0,.slice x0 n0 c0,.slice y0 m0 d0,.int .i64 i1,.bool s1,.slice x1 n1 c1,.slice y1 m1 d1,.int .i64 i2,.bool s2,.slice x2 n2 c2,.slice y2 m2 d2] 56)).cell? ⟨wr.heap.size,11,none⟩=some (.slice y2 m2 d2):=by simp [go_sem]
   obtain ⟨t1,ht1⟩:∃t,(fcB cs ds) i=t:=⟨_,rfl⟩;have HT1:=hid ht1;have CK:Hid (∀W,Below wr.heap.size wr W→Calls Tryz.prog 61 #[.agg #[.bool ss,.slice sx sn sc,.slice sy sm sd],.agg #[.int .i64 i1,.bool s1,.slice x1 n1 c1,.slice y1 m1 d1],.agg #[.int .i64 i2,.bool s2,.slice x2 n2 c2,.slice y2 m2 d2]] W fun e w'=>e=.returned (.bool t1)∧Below W.heap.size W w'):=fun W hW2=>by
    have hk9:=free_c (i1:=i1) (s1:=s1) (x1:=x1) (n1:=n1) (c1:=c1) (y1:=y1) (m1:=m1) (d1:=d1) (i2:=i2) (s2:=s2) (x2:=x2) (n2:=n2) (c2:=c2) (y2:=y2) (m2:=m2) (d2:=d2) (hr'.below hW2);have e9:t1=frB r i1 i2:=by rw [←ht1,fcB,hv,hr,j1,j2]
    rw [e9];exact hk9
   have i1':((i:Nat):Int)<((cs.length:Nat):Int):=by omega
   clear hCi hc hV j1 j2 ht1 hr' hv hr;go_upto_region 4 with fail
   clear q0 q1 q2 q3 q4 q5 q6 q7 q8 q9 q10 q11;replace p0:=kCb hbt p0;replace p1:=kCb hbt p1;replace p2:=kCb hbt p2
   have HB3:=hid (HB2.out.trans (hbt.mono HB2.out.size));replace CK:=hid (fun W (hW2:Below (wr.alloc (.cells #[.string z,.bool s0,.slice x0 n0 c0,.slice y0 m0 d0,.int .i64 i1,.bool s1,.slice x1 n1 c1,.slice y1 m1 d1,.int .i64 i2,.bool s2,.slice x2 n2 c2,.slice y2 m2 d2] 56)).heap.size (wr.alloc (.cells #[.string z,.bool s0,.slice x0 n0 c0,.slice y0 m0 d0,.int .i64 i1,.bool s1,.slice x1 n1 c1,.slice y1 m1 d1,.int .i64 i2,.bool s2,.slice x2 n2 c2,.slice y2 m2 d2] 56)) W)=>CK.out W (hbt.trans (hW2.mono hbt.size)));clear hbz hbt HB2;generalize hbx:wr.heap.size=bx at *;generalize wr.alloc (.cells #[.string z,.bool s0,.slice x0 n0 c0,.slice y0 m0 d0,.int .i64 i1,.bool s1,.slice x1 n1 c1,.slice y1 m1 d1,.int .i64 i2,.bool s2,.slice x2 n2 c2,.slice y2 m2 d2] 56)=w5 at *;clear hbx;go_region_held3 (fun w'=>w'.cell? ⟨bx,4,none⟩=some (.int .i64 i1)∧w'.cell? ⟨bx,5,none⟩=some (.bool s1)∧w'.cell? ⟨bx,6,none⟩=some (.slice x1 n1 c1)∧w'.cell? ⟨bx,7,none⟩=some (.slice y1 m1 d1)∧w'.cell? ⟨bx,8,none⟩=some (.int .i64 i2)∧w'.cell? ⟨bx,9,none⟩=some (.bool s2)∧w'.cell? ⟨bx,10,none⟩=some (.slice x2 n2 c2)∧w'.cell? ⟨bx,11,none⟩=some (.slice y2 m2 d2)∧w'.cell? ⟨b',o'+i*3,none⟩=some (.bool ss)∧w'.cell? ⟨b',o'+i*3+1,none⟩=some (.slice sx sn sc)∧w'.cell? ⟨b',o'+i*3+2,none⟩=some (.slice sy sm sd))
    (refine ⟨?_,?_,?_,?_,?_,?_,?_,?_,?_,?_,?_⟩ <;> repeat (with_reducible first | assumption | refine kCd ?_ | refine kCb (by assumption) ?_))
    (first | (go_at_call 61;with_reducible refine (CK.out _ belA).mono ?_;rintro e w6 ⟨rfl,hb6⟩))
   have HB6:=hid (HB3.out.trans ((show Below w5.heap.size w5 w6 from belA).mono HB3.out.size));clear hb6 HB3 CK p0 p1 p2 a4 a5 a6 a7 a8 a9 a10 a11;cases t1
   ·have HF:Hid (endB cs rs ds acl=false):=by show _=_;rw [endB,allB_not hlt HT1.out];simp
    have HBF:=hid (HB.out.trans (HB6.out.mono HB.out.size));go_wp2;go_ret;exact ⟨by rw [HF.out];rfl,HBF.out⟩
   ·go_wp2;go_roundw
    case rel=>exact ⟨i+1,by omega,by go_num,HB6.out,by show _=_;rw [allB,HAll.out,HT1.out];rfl⟩
    case measure=>simp [intOf];omega
  ·have i4:¬(((i:Nat):Int)<((cs.length:Nat):Int)):=by omega
   have e9:i=cs.length:=by omega
   have HCA:Hid (allB (fcB cs ds) cs.length=true):=by show _=_;rw [←e9];exact HAll.out
   replace BM:=hid (BM.out.below HB2.out);replace HB:=hid (HB.out.trans (HB2.out.mono HB.out.size));clear e9 HB2 HAll HC HX;obtain ⟨w7,hw7⟩:∃z:World,z=wr:=⟨_,rfl⟩;subst hw7;have r4:=BM.out.cell (j:=4) rfl;go_wp2_with fail
   clear r4;go_loopw [33] (fun t wr=>∃(i:Nat),i≤rs.length∧t=.int .i64 i∧Hid (Below w7.heap.size w7 wr)∧Hid (allB (frwB rs acl) i=true)) (fun t _=>rs.length-(intOf t).toNat)
   case atStart=>exact ⟨0,by omega,rfl,Below.refl _ _,rfl⟩
   case round =>
    obtain ⟨i,hi,rfl,HB2,HAll⟩:=hrel;by_cases hlt:i<rs.length
    ·obtain ⟨v,hv⟩:∃t,rs[i]?=some t:=⟨_,List.getElem?_eq_getElem (by omega)⟩;obtain ⟨⟨b,o,hba,hc⟩,hV⟩:=HR.out i v hv;subst hba;have hbz:=HB.out.trans (HB2.out.mono HB.out.size);obtain ⟨⟨z,⟨i1,⟨s1,x1,n1,c1,f1,y1,m1,d1,g1⟩⟩,⟨i2,⟨s2,x2,n2,c2,f2,y2,m2,d2,g2⟩⟩,ta,tk,tc,tcol,tt⟩,hCi⟩:∃t,R i=t:=⟨_,rfl⟩;rw [hCi] at hc;have j1:i1=v.li:=by have:=hV.li;rw [hCi] at this;exact this
     have j2:i2=v.hi:=by have:=hV.hi;rw [hCi] at this;exact this
     replace hc:=Cs.below hc hbz;have q0:wr.cell? ⟨b,o+i*10,none⟩=some (.string z):=hc 0 _ rfl;have q1:wr.cell? ⟨b,o+i*10+1,none⟩=some (.int .i64 i1):=hc 1 _ rfl;have q2:wr.cell? ⟨b,o+i*10+2,none⟩=some (.bool s1):=hc 2 _ rfl;have q3:wr.cell? ⟨b,o+i*10+3,none⟩=some (.slice x1 n1 c1):=hc 3 _ rfl;have q4:wr.cell? ⟨b,o+i*10+4,none⟩=some (.slice y1 m1 d1):=hc 4 _ rfl;have q5:wr.cell? ⟨b,o+i*10+5,none⟩=some (.int .i64 i2):=hc 5 _ rfl;have q6:wr.cell? ⟨b,o+i*10+6,none⟩=some (.bool s2):=hc 6 _ rfl;have q7:wr.cell? ⟨b,o+i*10+7,none⟩=some (.slice x2 n2 c2):=hc 7 _ rfl;have q8:wr.cell? ⟨b,o+i*10+8,none⟩=some (.slice y2 m2 d2):=hc 8 _ rfl;have q9:wr.cell? ⟨b,o+i*10+9,none⟩=some (.slice ta tk tc):=hc 9 _ rfl;obtain ⟨r,hr⟩:∃t,acl[i]?=some t:=⟨_,List.getElem?_eq_getElem (by omega)⟩;obtain ⟨b',o',⟨ss,sx,sn,sc,sf,sy,sm,sd,sg⟩,hax,⟨p0,p1,p2⟩,hr'⟩:=(HAct.out.below hbz) i r hr;subst hax;replace p0:wr.cell? ⟨b',o'+i*3,none⟩=some (.bool ss):=p0;replace p1:wr.cell? ⟨b',o'+i*3+1,none⟩=some (.slice sx sn sc):=p1;replace p2:wr.cell? ⟨b',o'+i*3+2,none⟩=some (.slice sy sm sd):=p2;replace hr':Rn _ wr ss sx sn sc sf sy sm sd sg r:=hr';have hbt:=below_alloc (Below.refl wr.heap.size wr) (.cells #[.string z,.int .i64 i1,.bool s1,.slice x1 n1 c1,.slice y1 m1 d1,.int .i64 i2,.bool s2,.slice x2 n2 c2,.slice y2 m2 d2,.slice ta tk tc] 59);have a1:(wr.alloc (.cells #[.string z,.int .i64 i1,.bool s1,.slice x1 n1 c1,.slice y1 m1 d1,.int .i64 i2,.bool s2,.slice x2 n2 c2,.slice y2 m2 d2,.slice ta tk tc] 59)).cell? ⟨wr.heap.size,1,none⟩=some (.int .i64 i1):=by simp [go_sem]
     have a2:(wr.alloc (.cells #[.string z,.int .i64 i1,.bool s1,.slice x1 n1 c1,.slice y1 m1 d1,.int .i64 i2,.bool s2,.slice x2 n2 c2,.slice y2 m2 d2,.slice ta tk tc] 59)).cell? ⟨wr.heap.size,2,none⟩=some (.bool s1):=by simp [go_sem]
     have a3:(wr.alloc (.cells #[.string z,.int .i64 i1,.bool s1,.slice x1 n1 c1,.slice y1 m1 d1,.int .i64 i2,.bool s2,.slice x2 n2 c2,.slice y2 m2 d2,.slice ta tk tc] 59)).cell? ⟨wr.heap.size,3,none⟩=some (.slice x1 n1 c1):=by simp [go_sem]
     have a4:(wr.alloc (.cells #[.string z,.int .i64 i1,.bool s1,.slice x1 n1 c1,.slice y1 m1 d1,.int .i64 i2,.bool s2,.slice x2 n2 c2,.slice y2 m2 d2,.slice ta tk tc] 59)).cell? ⟨wr.heap.size,4,none⟩=some (.slice y1 m1 d1):=by simp [go_sem]
     have a5:(wr.alloc (.cells #[.string z,.int .i64 i1,.bool s1,.slice x1 n1 c1,.slice y1 m1 d1,.int .i64 i2,.bool s2,.slice x2 n2 c2,.slice y2 m2 d2,.slice ta tk tc] 59)).cell? ⟨wr.heap.size,5,none⟩=some (.int .i64 i2):=by simp [go_sem]
     have a6:(wr.alloc (.cells #[.string z,.int .i64 i1,.bool s1,.slice x1 n1 c1,.slice y1 m1 d1,.int .i64 i2,.bool s2,.slice x2 n2 c2,.slice y2 m2 d2,.slice ta tk tc] 59)).cell? ⟨wr.heap.size,6,none⟩=some (.bool s2):=by simp [go_sem]
     have a7:(wr.alloc (.cells #[.string z,.int .i64 i1,.bool s1,.slice x1 n1 c1,.slice y1 m1 d1,.int .i64 i2,.bool s2,.slice x2 n2 c2,.slice y2 m2 d2,.slice ta tk tc] 59)).cell? ⟨wr.heap.size,7,none⟩=some (.slice x2 n2 c2):=by simp [go_sem]
     have a8:(wr.alloc (.cells #[.string z,.int .i64 i1,.bool s1,.slice x1 n1 c1,.slice y1 m1 d1,.int .i64 i2,.bool s2,.slice x2 n2 c2,.slice y2 m2 d2,.slice ta tk tc] 59)).cell? ⟨wr.heap.size,8,none⟩=some (.slice y2 m2 d2):=by simp [go_sem]
     obtain ⟨t1,ht1⟩:∃t,(frwB rs acl) i=t:=⟨_,rfl⟩;have HT1:=hid ht1;have CK:Hid (∀W,Below wr.heap.size wr W→Calls Tryz.prog 61 #[.agg #[.bool ss,.slice sx sn sc,.slice sy sm sd],.agg #[.int .i64 i1,.bool s1,.slice x1 n1 c1,.slice y1 m1 d1],.agg #[.int .i64 i2,.bool s2,.slice x2 n2 c2,.slice y2 m2 d2]] W fun e w'=>e=.returned (.bool t1)∧Below W.heap.size W w'):=fun W hW2=>by
      have hk9:=free_c (i1:=i1) (s1:=s1) (x1:=x1) (n1:=n1) (c1:=c1) (y1:=y1) (m1:=m1) (d1:=d1) (i2:=i2) (s2:=s2) (x2:=x2) (n2:=n2) (c2:=c2) (y2:=y2) (m2:=m2) (d2:=d2) (hr'.below hW2);have e9:t1=frB r i1 i2:=by rw [←ht1,frwB,hv,hr,j1,j2]
      rw [e9];exact hk9
     have i1':((i:Nat):Int)<((rs.length:Nat):Int):=by omega
     clear hCi hc hV j1 j2 ht1 hr' hv hr;go_upto_region 10 with fail
     clear q0 q1 q2 q3 q4 q5 q6 q7 q8 q9;replace p0:=kCb hbt p0;replace p1:=kCb hbt p1;replace p2:=kCb hbt p2
     have HB3:=hid (HB2.out.trans (hbt.mono HB2.out.size));replace CK:=hid (fun W (hW2:Below (wr.alloc (.cells #[.string z,.int .i64 i1,.bool s1,.slice x1 n1 c1,.slice y1 m1 d1,.int .i64 i2,.bool s2,.slice x2 n2 c2,.slice y2 m2 d2,.slice ta tk tc] 59)).heap.size (wr.alloc (.cells #[.string z,.int .i64 i1,.bool s1,.slice x1 n1 c1,.slice y1 m1 d1,.int .i64 i2,.bool s2,.slice x2 n2 c2,.slice y2 m2 d2,.slice ta tk tc] 59)) W)=>CK.out W (hbt.trans (hW2.mono hbt.size)));clear hbz hbt HB2;generalize hbx:wr.heap.size=bx at *;generalize wr.alloc (.cells #[.string z,.int .i64 i1,.bool s1,.slice x1 n1 c1,.slice y1 m1 d1,.int .i64 i2,.bool s2,.slice x2 n2 c2,.slice y2 m2 d2,.slice ta tk tc] 59)=w5 at *;clear hbx;go_region_held3 (fun w'=>w'.cell? ⟨bx,1,none⟩=some (.int .i64 i1)∧w'.cell? ⟨bx,2,none⟩=some (.bool s1)∧w'.cell? ⟨bx,3,none⟩=some (.slice x1 n1 c1)∧w'.cell? ⟨bx,4,none⟩=some (.slice y1 m1 d1)∧w'.cell? ⟨bx,5,none⟩=some (.int .i64 i2)∧w'.cell? ⟨bx,6,none⟩=some (.bool s2)∧w'.cell? ⟨bx,7,none⟩=some (.slice x2 n2 c2)∧w'.cell? ⟨bx,8,none⟩=some (.slice y2 m2 d2)∧w'.cell? ⟨b',o'+i*3,none⟩=some (.bool ss)∧w'.cell? ⟨b',o'+i*3+1,none⟩=some (.slice sx sn sc)∧w'.cell? ⟨b',o'+i*3+2,none⟩=some (.slice sy sm sd))
      (refine ⟨?_,?_,?_,?_,?_,?_,?_,?_,?_,?_,?_⟩ <;> repeat (with_reducible first | assumption | refine kCd ?_ | refine kCb (by assumption) ?_))
      (first | (go_at_call 61;with_reducible refine (CK.out _ belA).mono ?_;rintro e w6 ⟨rfl,hb6⟩))
     have HB6:=hid (HB3.out.trans ((show Below w5.heap.size w5 w6 from belA).mono HB3.out.size));clear hb6 HB3 CK p0 p1 p2 a1 a2 a3 a4 a5 a6 a7 a8;cases t1
     ·have HF:Hid (endB cs rs ds acl=false):=by show _=_;rw [endB,allB_not hlt HT1.out];simp
      have HBF:=hid (HB.out.trans (HB6.out.mono HB.out.size));go_wp2;go_ret;exact ⟨by rw [HF.out];rfl,HBF.out⟩
     ·go_wp2;go_roundw
      case rel=>exact ⟨i+1,by omega,by go_num,HB6.out,by show _=_;rw [allB,HAll.out,HT1.out];rfl⟩
      case measure=>simp [intOf];omega
    ·have i4:¬(((i:Nat):Int)<((rs.length:Nat):Int)):=by omega
     have e9:i=rs.length:=by omega
     have HF:Hid (endB cs rs ds acl=true):=by show _=_;rw [endB,HCA.out,←e9,HAll.out];rfl
     have HBF:=hid (HB.out.trans (HB2.out.mono HB.out.size));clear e9 HB2 HAll;go_wp2;go_ret;exact ⟨by rw [HF.out];rfl,HBF.out⟩
theorem dsum_psum (xs:List Rat):∀(v:List (Int × Rat)) (acc:Rat),dsum xs v acc=psum (v.map (tprod xs)) acc
 | [],_=>rfl
 | (a,q) :: v,acc=>by
  show dsum xs v (acc+q*xs.getD a.toNat 0)=psum (v.map (tprod xs)) (acc+tprod xs (a,q));exact dsum_psum xs v _
theorem kps_lo {r i:Int} {l q:Rat} (h:EOrd r i l 0 q):decide (r≤0)=decide (i<0∨i=0∧l≤q):=by
 rw [decide_eq_decide];rcases h with ⟨h1,h2⟩ | ⟨h1,h2,h3⟩ | ⟨h1,h2⟩
 ·constructor
  ·intro _;rcases h2 with h2 | ⟨h2,h3⟩
   ·exact .inl h2
   ·exact .inr ⟨h2,by grind⟩
  ·intro _;omega
 ·constructor
  ·intro _;exact .inr ⟨h2,by grind⟩
  ·intro _;omega
 ·constructor
  ·intro _;omega
  ·intro h;rcases h with h | ⟨h,h'⟩
   ·rcases h2 with h2 | ⟨h2,_⟩ <;> omega
   ·rcases h2 with h2 | ⟨_,h2⟩
    ·omega
    ·exact absurd h' (by grind)
theorem kps_hi {r i:Int} {l q:Rat} (h:EOrd r 0 q i l):decide (r≤0)=decide (0<i∨i=0∧q≤l):=by
 rw [decide_eq_decide];rcases h with ⟨h1,h2⟩ | ⟨h1,h2,h3⟩ | ⟨h1,h2⟩
 ·constructor
  ·intro _;rcases h2 with h2 | ⟨h2,h3⟩
   ·exact .inl h2
   ·exact .inr ⟨h2.symm,by grind⟩
  ·intro _;omega
 ·constructor
  ·intro _;exact .inr ⟨h2.symm,by grind⟩
  ·intro _;omega
 ·constructor
  ·intro _;omega
  ·intro h;rcases h with h | ⟨h,h'⟩
   ·rcases h2 with h2 | ⟨h2,_⟩ <;> omega
   ·rcases h2 with h2 | ⟨_,h2⟩
    ·omega
    ·exact absurd h' (by grind)
theorem kps_and {q:Rat} {li:Int} {lq:Rat} {hi:Int} {hq:Rat}:kpsB q li lq hi hq=(decide (li<0∨li=0∧lq≤q) && decide (0<hi∨hi=0∧q≤hq)):=by
 unfold kpsB;rw [Bool.decide_and]
set_option maxRecDepth 100000 in
set_option maxHeartbeats 8000000 in
theorem rKeeps_c {w:World} {K:Nat} {a b:Ex} {t:Nm} {li:Int} {lq:Rat} {hi:Int} {hq q:Rat} (ha:QnT K w a.v lq) (ea:a.i=li) (hb:QnT K w b.v hq) (eb:b.i=hi) (ht:QnT K w t q) (hK:K≤16000) (hbd:(li=0∨(li=-1∨li=1)∧lq=0)∧(hi=0∨(hi=-1∨hi=1)∧hq=0)) :
  Calls Tryz.prog 125 #[a.val,b.val,t.val] w fun e w'=>e=.returned (.bool (kpsB q li lq hi hq))∧Below w.heap.size w w':=by
 obtain ⟨i1,⟨s1,x1,n1,c1,f1,y1,m1,d1,g1⟩⟩:=a;obtain ⟨i2,⟨s2,x2,n2,c2,f2,y2,m2,d2,g2⟩⟩:=b;obtain ⟨s3,x3,n3,c3,f3,y3,m3,d3,g3⟩:=t;replace ea:i1=li:=ea;replace eb:i2=hi:=eb;subst ea;subst eb
 obtain ⟨r1,hr1⟩:∃t,decide (i1<0∨i1=0∧lq≤q)=t:=⟨_,rfl⟩;obtain ⟨r2,hr2⟩:∃t,decide (0<i2∨i2=0∧q≤hq)=t:=⟨_,rfl⟩;rw [kps_and,hr1,hr2];have C1:Hid (∀W (W2:World),Below w.heap.size w W→Fn W 0 s3 x3 n3 f3 y3 m3 g3 q→Calls Tryz.prog 138 #[.agg #[.int .i64 i1,.bool s1,.slice x1 n1 c1,.slice y1 m1 d1],.agg #[.int .i64 0,.bool s3,.slice x3 n3 c3,.slice y3 m3 d3]] W fun e w'=>∃r,e=.returned (.int .i64 r)∧Below W.heap.size W w'∧Hid (decide (r≤0)=r1)):=fun W _ hW hF =>
  (xCmpW_c (c1:=c1) (d1:=d1) (c2:=c3) (d2:=d3) (FnT.of (e:=⟨i1,⟨s1,x1,n1,c1,f1,y1,m1,d1,g1⟩⟩) (ha.below hW) rfl hbd.1) hF (Nat.le_trans ha.1 hK) (Nat.le_trans ha.2.1 hK) (Nat.le_trans ht.1 hK) (Nat.le_trans ht.2.1 hK)).mono (by
   rintro e w' ⟨r,rfl,h1,h2⟩;exact ⟨r,rfl,h1,hid ((kps_lo h2.out).trans hr1)⟩)
 have C2:Hid (∀W (W2:World),Below w.heap.size w W→Fn W 0 s3 x3 n3 f3 y3 m3 g3 q→Calls Tryz.prog 138 #[.agg #[.int .i64 0,.bool s3,.slice x3 n3 c3,.slice y3 m3 d3],.agg #[.int .i64 i2,.bool s2,.slice x2 n2 c2,.slice y2 m2 d2]] W fun e w'=>∃r,e=.returned (.int .i64 r)∧Below W.heap.size W w'∧Hid (decide (r≤0)=r2)):=fun W _ hW hF =>
  (xCmpW_c (c1:=c3) (d1:=d3) (c2:=c2) (d2:=d2) hF (FnT.of (e:=⟨i2,⟨s2,x2,n2,c2,f2,y2,m2,d2,g2⟩⟩) (hb.below hW) rfl hbd.2) (Nat.le_trans ht.1 hK) (Nat.le_trans ht.2.1 hK) (Nat.le_trans hb.1 hK) (Nat.le_trans hb.2.1 hK)).mono (by
   rintro e w' ⟨r,rfl,h1,h2⟩;exact ⟨r,rfl,h1,hid ((kps_hi h2.out).trans hr2)⟩)
 have CN:Hid (∀W,Below w.heap.size w W→Calls Tryz.prog 139 #[.agg #[.bool s3,.slice x3 n3 c3,.slice y3 m3 d3]] W fun e w'=>e=.returned (.agg #[.int .i64 0,.bool s3,.slice x3 n3 c3,.slice y3 m3 d3])∧Below W.heap.size W w'∧Hid (Fn w' 0 s3 x3 n3 f3 y3 m3 g3 q)):=fun W hW=>(xNum_c (c:=c3) (d:=d3) (ht.below hW).2.2).mono (by
   rintro e w' ⟨rfl,h1,h2⟩;exact ⟨rfl,h1,hid h2⟩)
 clear ha hb ht hr1 hr2 hbd;show Calls Tryz.prog 125 #[.agg #[.int .i64 i1,.bool s1,.slice x1 n1 c1,.slice y1 m1 d1],.agg #[.int .i64 i2,.bool s2,.slice x2 n2 c2,.slice y2 m2 d2],.agg #[.bool s3,.slice x3 n3 c3,.slice y3 m3 d3]] w _;have HB:=hid (below_alloc (below_alloc (below_alloc (Below.refl w.heap.size w) (.cells #[.int .i64 i1,.bool s1,.slice x1 n1 c1,.slice y1 m1 d1] 78)) (.cells #[.int .i64 i2,.bool s2,.slice x2 n2 c2,.slice y2 m2 d2] 78)) (.cells #[.bool s3,.slice x3 n3 c3,.slice y3 m3 d3] 76));have BA:Hid (Bk (((w.alloc (.cells #[.int .i64 i1,.bool s1,.slice x1 n1 c1,.slice y1 m1 d1] 78)).alloc (.cells #[.int .i64 i2,.bool s2,.slice x2 n2 c2,.slice y2 m2 d2] 78)).alloc (.cells #[.bool s3,.slice x3 n3 c3,.slice y3 m3 d3] 76)) w.heap.size [.int .i64 i1,.bool s1,.slice x1 n1 c1,.slice y1 m1 d1] 78):=((bk_new w [.int .i64 i1,.bool s1,.slice x1 n1 c1,.slice y1 m1 d1] 78).below (below_alloc (Below.refl _ _) _)).below (below_alloc (Below.refl _ _) _);have BB:Hid (Bk (((w.alloc (.cells #[.int .i64 i1,.bool s1,.slice x1 n1 c1,.slice y1 m1 d1] 78)).alloc (.cells #[.int .i64 i2,.bool s2,.slice x2 n2 c2,.slice y2 m2 d2] 78)).alloc (.cells #[.bool s3,.slice x3 n3 c3,.slice y3 m3 d3] 76)) (w.heap.size+1) [.int .i64 i2,.bool s2,.slice x2 n2 c2,.slice y2 m2 d2] 78):=by
  have:=(bk_new (w.alloc (.cells #[.int .i64 i1,.bool s1,.slice x1 n1 c1,.slice y1 m1 d1] 78)) [.int .i64 i2,.bool s2,.slice x2 n2 c2,.slice y2 m2 d2] 78).below (below_alloc (Below.refl _ _) (.cells #[.bool s3,.slice x3 n3 c3,.slice y3 m3 d3] 76));rw [size_alloc1] at this;exact this
 have BT:Hid (Bk (((w.alloc (.cells #[.int .i64 i1,.bool s1,.slice x1 n1 c1,.slice y1 m1 d1] 78)).alloc (.cells #[.int .i64 i2,.bool s2,.slice x2 n2 c2,.slice y2 m2 d2] 78)).alloc (.cells #[.bool s3,.slice x3 n3 c3,.slice y3 m3 d3] 76)) (w.heap.size+1+1) [.bool s3,.slice x3 n3 c3,.slice y3 m3 d3] 76):=by
  have:=bk_new ((w.alloc (.cells #[.int .i64 i1,.bool s1,.slice x1 n1 c1,.slice y1 m1 d1] 78)).alloc (.cells #[.int .i64 i2,.bool s2,.slice x2 n2 c2,.slice y2 m2 d2] 78)) [.bool s3,.slice x3 n3 c3,.slice y3 m3 d3] 76;rw [size_alloc1,size_alloc1] at this;exact this
 go_enter Tryz.func125,Tryz.ntmps125;go_upto_region 1 with fail
 generalize (((w.alloc (.cells #[.int .i64 i1,.bool s1,.slice x1 n1 c1,.slice y1 m1 d1] 78)).alloc (.cells #[.int .i64 i2,.bool s2,.slice x2 n2 c2,.slice y2 m2 d2] 78)).alloc (.cells #[.bool s3,.slice x3 n3 c3,.slice y3 m3 d3] 76))=v0 at *;replace C1:=hid (fun W (W2:World) (hW:Below v0.heap.size v0 W)=>C1.out W W2 (HB.out.trans (hW.mono HB.out.size)));replace C2:=hid (fun W (W2:World) (hW:Below v0.heap.size v0 W)=>C2.out W W2 (HB.out.trans (hW.mono HB.out.size)));replace CN:=hid (fun W (hW:Below v0.heap.size v0 W)=>CN.out W (HB.out.trans (hW.mono HB.out.size)));have a0:=BA.out.cell (j:=0) rfl;have a1:=BA.out.cell (j:=1) rfl;have a2:=BA.out.cell (j:=2) rfl;have a3:=BA.out.cell (j:=3) rfl;have b0:=BB.out.cell (j:=0) rfl;have b1:=BB.out.cell (j:=1) rfl;have b2:=BB.out.cell (j:=2) rfl;have b3:=BB.out.cell (j:=3) rfl;have t0:=BT.out.cell (j:=0) rfl;have t1:=BT.out.cell (j:=1) rfl;have t2:=BT.out.cell (j:=2) rfl;cases r1
 case false =>
  go_region_with
   (first
    | (go_at_call 139;with_reducible refine (CN.out _ belA).mono ?_;rintro e u1 ⟨rfl,hb1,H1⟩;have B1:=hid (BA.out.below (show Below v0.heap.size v0 u1 from belA));have p0:=B1.out.cell (j:=0) rfl;have p1:=B1.out.cell (j:=1) rfl;have p2:=B1.out.cell (j:=2) rfl;have p3:=B1.out.cell (j:=3) rfl)
    | (go_at_call 138;with_reducible refine (C1.out _ v0 belA (H1.out.below belA)).mono ?_;rintro e u2 ⟨q1,rfl,hb2,H2⟩;have hd2:decide (q1≤0)=false:=H2.out))
  all_goals
   have hb:Below v0.heap.size v0 u2:=belA;replace HB:=hid (HB.out.trans (hb.mono HB.out.size));clear hb;go_wp2;go_ret;exact ⟨by first | rfl | simp,by first | exact HB.out | exact HB.out.drew | exact below_drewN HB.out _⟩
 go_region_held3 (fun w'=>w'.cell? ⟨w.heap.size,0,none⟩=some (.int .i64 i1)∧w'.cell? ⟨w.heap.size,1,none⟩=some (.bool s1)∧w'.cell? ⟨w.heap.size,2,none⟩=some (.slice x1 n1 c1)∧w'.cell? ⟨w.heap.size,3,none⟩=some (.slice y1 m1 d1)∧w'.cell? ⟨w.heap.size+1,0,none⟩=some (.int .i64 i2)∧w'.cell? ⟨w.heap.size+1,1,none⟩=some (.bool s2)∧w'.cell? ⟨w.heap.size+1,2,none⟩=some (.slice x2 n2 c2)∧w'.cell? ⟨w.heap.size+1,3,none⟩=some (.slice y2 m2 d2)∧w'.cell? ⟨w.heap.size+1+1,0,none⟩=some (.bool s3)∧w'.cell? ⟨w.heap.size+1+1,1,none⟩=some (.slice x3 n3 c3)∧w'.cell? ⟨w.heap.size+1+1,2,none⟩=some (.slice y3 m3 d3))
  (refine ⟨?_,?_,?_,?_,?_,?_,?_,?_,?_,?_,?_⟩ <;> repeat (with_reducible first | assumption | refine kCd ?_ | refine kCb (by assumption) ?_))
  (first
   | (have h9:=H2.out;clear h9;go_at_call 139;with_reducible refine (CN.out _ belA).mono ?_;rintro e u4 ⟨rfl,hb4,H4⟩)
   | (go_at_call 139;with_reducible refine (CN.out _ belA).mono ?_;rintro e u1 ⟨rfl,hb1,H1⟩)
   | (have h9:=H4.out;clear h9;go_at_call 138;with_reducible refine (C2.out _ v0 belA (H4.out.below belA)).mono ?_;rintro e u5 ⟨q2,rfl,hb5,H5⟩;have hd5:decide (q2≤0)=r2:=H5.out)
   | (go_at_call 138;with_reducible refine (C1.out _ v0 belA (H1.out.below belA)).mono ?_;rintro e u2 ⟨q1,rfl,hb2,H2⟩;have hd2:decide (q1≤0)=true:=H2.out))
 all_goals
  have hb:Below v0.heap.size v0 u5:=belA;replace HB:=hid (HB.out.trans (hb.mono HB.out.size));clear hb;go_wp2;go_ret;exact ⟨by first | rfl | simp,HB.out⟩
def goB (d:Rat) (li hi:Int):Bool:=!(decide (li=0) && decide (d<0)) && !(decide (hi=0) && decide (0<d))
set_option maxRecDepth 100000 in
set_option maxHeartbeats 8000000 in
theorem goes_c {w:World} {K:Nat} {a b:Ex} {t:Nm} {li hi:Int} {q:Rat} (ea:a.i=li) (eb:b.i=hi) (ht:QnT K w t q) (hK:K≤16000) :
  Calls Tryz.prog 88 #[a.val,b.val,t.val] w fun e w'=>e=.returned (.bool (goB q li hi))∧Below w.heap.size w w':=by
 obtain ⟨i1,⟨s1,x1,n1,c1,f1,y1,m1,d1,g1⟩⟩:=a;obtain ⟨i2,⟨s2,x2,n2,c2,f2,y2,m2,d2,g2⟩⟩:=b;obtain ⟨s3,x3,n3,c3,f3,y3,m3,d3,g3⟩:=t;replace ea:i1=li:=ea;replace eb:i2=hi:=eb;subst ea;subst eb
 have CS:Hid (∀W,Below w.heap.size w W→Calls Tryz.prog 50 #[.agg #[.bool s3,.slice x3 n3 c3,.slice y3 m3 d3]] W fun e w'=>∃c,e=.returned (.int .i64 c)∧Below W.heap.size W w'∧Hid (decide (c<0)=decide (q<0)∧decide (0<c)=decide (0<q))):=fun W hW=>(qSign_c (ht.below hW).2.2 (Nat.le_trans ht.1 (by omega))).mono (by
  rintro e w' ⟨c,rfl,h1,h2⟩;refine ⟨c,rfl,h1,hid ?_⟩;have hp:(0<q.num ↔ 0<q):=by
   have h3:=@Rat.num_nonneg q;constructor
   ·intro h;have h4:=h3.1 (by omega);have h5:q≠0:=fun e=>by rw [e] at h;exact absurd h (by decide)
    grind
   ·intro h;have h4:=h3.2 (by grind);have h5:q.num≠0:=fun e=>by have:=Rat.num_eq_zero.1 e;grind
    omega
  have hn:(q.num<0 ↔ q<0):=by
   have h3:=@Rat.num_nonneg q;constructor
   ·intro h;exact Rat.not_le.1 (fun h4=>by have:=h3.2 h4;omega)
   ·intro h;rcases Int.lt_or_le q.num 0 with h4 | h4
    ·exact h4
    ·exact absurd (h3.1 h4) (Rat.not_le.2 h)
  simp only [decide_eq_decide];rw [←hn,←hp];rcases h2 with ⟨a,b⟩ | ⟨a,b⟩ | ⟨a,b⟩ <;> omega)
 clear ht;show Calls Tryz.prog 88 #[.agg #[.int .i64 i1,.bool s1,.slice x1 n1 c1,.slice y1 m1 d1],.agg #[.int .i64 i2,.bool s2,.slice x2 n2 c2,.slice y2 m2 d2],.agg #[.bool s3,.slice x3 n3 c3,.slice y3 m3 d3]] w _;have HB:=hid (below_alloc (below_alloc (below_alloc (Below.refl w.heap.size w) (.cells #[.int .i64 i1,.bool s1,.slice x1 n1 c1,.slice y1 m1 d1] 78)) (.cells #[.int .i64 i2,.bool s2,.slice x2 n2 c2,.slice y2 m2 d2] 78)) (.cells #[.bool s3,.slice x3 n3 c3,.slice y3 m3 d3] 76));have BA:Hid (Bk (((w.alloc (.cells #[.int .i64 i1,.bool s1,.slice x1 n1 c1,.slice y1 m1 d1] 78)).alloc (.cells #[.int .i64 i2,.bool s2,.slice x2 n2 c2,.slice y2 m2 d2] 78)).alloc (.cells #[.bool s3,.slice x3 n3 c3,.slice y3 m3 d3] 76)) w.heap.size [.int .i64 i1,.bool s1,.slice x1 n1 c1,.slice y1 m1 d1] 78):=((bk_new w [.int .i64 i1,.bool s1,.slice x1 n1 c1,.slice y1 m1 d1] 78).below (below_alloc (Below.refl _ _) _)).below (below_alloc (Below.refl _ _) _);have BB:Hid (Bk (((w.alloc (.cells #[.int .i64 i1,.bool s1,.slice x1 n1 c1,.slice y1 m1 d1] 78)).alloc (.cells #[.int .i64 i2,.bool s2,.slice x2 n2 c2,.slice y2 m2 d2] 78)).alloc (.cells #[.bool s3,.slice x3 n3 c3,.slice y3 m3 d3] 76)) (w.heap.size+1) [.int .i64 i2,.bool s2,.slice x2 n2 c2,.slice y2 m2 d2] 78):=by
  have:=(bk_new (w.alloc (.cells #[.int .i64 i1,.bool s1,.slice x1 n1 c1,.slice y1 m1 d1] 78)) [.int .i64 i2,.bool s2,.slice x2 n2 c2,.slice y2 m2 d2] 78).below (below_alloc (Below.refl _ _) (.cells #[.bool s3,.slice x3 n3 c3,.slice y3 m3 d3] 76));rw [size_alloc1] at this;exact this
 have BT:Hid (Bk (((w.alloc (.cells #[.int .i64 i1,.bool s1,.slice x1 n1 c1,.slice y1 m1 d1] 78)).alloc (.cells #[.int .i64 i2,.bool s2,.slice x2 n2 c2,.slice y2 m2 d2] 78)).alloc (.cells #[.bool s3,.slice x3 n3 c3,.slice y3 m3 d3] 76)) (w.heap.size+1+1) [.bool s3,.slice x3 n3 c3,.slice y3 m3 d3] 76):=by
  have:=bk_new ((w.alloc (.cells #[.int .i64 i1,.bool s1,.slice x1 n1 c1,.slice y1 m1 d1] 78)).alloc (.cells #[.int .i64 i2,.bool s2,.slice x2 n2 c2,.slice y2 m2 d2] 78)) [.bool s3,.slice x3 n3 c3,.slice y3 m3 d3] 76;rw [size_alloc1,size_alloc1] at this;exact this
 go_enter Tryz.func88,Tryz.ntmps88;have a0:=BA.out.cell (j:=0) rfl;have t0:=BT.out.cell (j:=0) rfl;have t1:=BT.out.cell (j:=1) rfl;have t2:=BT.out.cell (j:=2) rfl;have b0:=BB.out.cell (j:=0) rfl;unfold goB;by_cases h1:i1=0
 ·have hd1:decide (i1=0)=true:=decide_eq_true h1;subst h1;go_wp2_with fail
  generalize (((w.alloc (.cells #[.int .i64 0,.bool s1,.slice x1 n1 c1,.slice y1 m1 d1] 78)).alloc (.cells #[.int .i64 i2,.bool s2,.slice x2 n2 c2,.slice y2 m2 d2] 78)).alloc (.cells #[.bool s3,.slice x3 n3 c3,.slice y3 m3 d3] 76))=v0 at *;refine (CS.out _ HB.out).mono ?_;rintro e v1 ⟨c,rfl,hb,HS⟩;obtain ⟨hs1,hs2⟩:=HS.out;have HB1:=hid (HB.out.trans (hb.mono HB.out.size));cases hq1:decide (q<0)
  ·rw [hq1] at hs1;have b0':=kCb hb b0;have t0':=kCb hb t0;have t1':=kCb hb t1;have t2':=kCb hb t2
   clear a0 b0 t0 t1 t2 hb HS;by_cases h2:i2=0
   ·have hd2:decide (i2=0)=true:=decide_eq_true h2;subst h2;go_wp2_with fail
    refine (CS.out _ HB1.out).mono ?_;rintro e v2 ⟨c',rfl,hb,HS⟩;obtain ⟨hs3,hs4⟩:=HS.out;replace HB1:=hid (HB1.out.trans (hb.mono HB1.out.size));clear hb HS;cases hq2:decide (0<q) <;> rw [hq2] at hs4 <;> (go_wp2;go_ret;exact ⟨by first | rfl | simp,HB1.out⟩)
   ·have hd2:decide (i2=0)=false:=decide_eq_false h2;go_wp2;go_ret;exact ⟨by first | rfl | simp [hd2],HB1.out⟩
  ·rw [hq1] at hs1;clear a0 b0 t0 t1 t2 hb HS;go_wp2;go_ret;exact ⟨by first | rfl | simp,HB1.out⟩
 ·have hd1:decide (i1=0)=false:=decide_eq_false h1;by_cases h2:i2=0
  ·have hd2:decide (i2=0)=true:=decide_eq_true h2;subst h2;go_wp2_with fail
   generalize (((w.alloc (.cells #[.int .i64 i1,.bool s1,.slice x1 n1 c1,.slice y1 m1 d1] 78)).alloc (.cells #[.int .i64 0,.bool s2,.slice x2 n2 c2,.slice y2 m2 d2] 78)).alloc (.cells #[.bool s3,.slice x3 n3 c3,.slice y3 m3 d3] 76))=v0 at *;refine (CS.out _ HB.out).mono ?_;rintro e v2 ⟨c',rfl,hb,HS⟩;obtain ⟨hs3,hs4⟩:=HS.out;have HB1:=hid (HB.out.trans (hb.mono HB.out.size));clear hb HS;cases hq2:decide (0<q) <;> rw [hq2] at hs4 <;> (go_wp2;go_ret;exact ⟨by first | rfl | simp [hd1],HB1.out⟩)
  ·have hd2:decide (i2=0)=false:=decide_eq_false h2;go_wp2;go_ret;exact ⟨by first | rfl | simp [hd1,hd2],HB.out⟩
def slpQ (cs:List CV) (ds:List Rat):Rat:=psum (costs cs ds) 0
set_option maxRecDepth 100000 in
set_option maxHeartbeats 8000000 in
theorem slope_c {w:World} {L:Nat} {M:Mo} {off:Rat} {cs:List CV} {rs:List RV} {ao:Option Addr} {k cap:Nat} {xs:List Rat} (h:MoV L w M off cs rs) (hx:Rf L w ao xs) (hk:xs.length=k) (hkc:k=cs.length) (l64:cs.length≤64) (hL:L≤100) :
  Calls Tryz.prog 22 #[M.val,.slice ao k cap] w fun e w'=>RatAns (KA L) w w' e (slpQ cs xs):=by
 subst hkc;have hck:M.ck=cs.length:=h.ck;have hC:=h.cls;clear h;obtain ⟨⟨s,x,n,c,f,y,m,d,g⟩,ca,ck,cc,C,ra,rk,rc,R⟩:=M;replace hck:ck=cs.length:=hck;subst hck;have HC:Hid (∀j v,cs[j]?=some v→(∃b o,ca=some ⟨b,o,none⟩∧Cs w b (o+j*12) (C j).vs)∧ColV L w (C j) v):=hC;have HX:=hid hx;have HXL:=hid hk
 clear hC hx hk;show Calls Tryz.prog 22 #[.agg #[.bool s,.slice x n c,.slice y m d,.slice ca cs.length cc,.slice ra rk rc],.slice ao cs.length cap] w _;have hb:=below_alloc (below_alloc (Below.refl w.heap.size w) (.cells #[.bool s,.slice x n c,.slice y m d,.slice ca cs.length cc,.slice ra rk rc] 28)) (.cells #[.bool false,.slice none 0 0,.slice none 0 0] 24);have BM:Hid (Bk ((w.alloc (.cells #[.bool s,.slice x n c,.slice y m d,.slice ca cs.length cc,.slice ra rk rc] 28)).alloc (.cells #[.bool false,.slice none 0 0,.slice none 0 0] 24)) w.heap.size [.bool s,.slice x n c,.slice y m d,.slice ca cs.length cc,.slice ra rk rc] 28):=(bk_new w [.bool s,.slice x n c,.slice y m d,.slice ca cs.length cc,.slice ra rk rc] 28).below (below_alloc (Below.refl _ _) _);have hob:=ob_new (w.alloc (.cells #[.bool s,.slice x n c,.slice y m d,.slice ca cs.length cc,.slice ra rk rc] 28)) 24;rw [size_alloc1] at hob;have OB:=hid hob;have HB:=hid hb
 clear hb hob;go_enter Tryz.func22,Tryz.ntmps22;have r0:=BM.out.cell (j:=0) rfl;have r1:=BM.out.cell (j:=1) rfl;have r2:=BM.out.cell (j:=2) rfl;have r3:=BM.out.cell (j:=3) rfl;have r4:=BM.out.cell (j:=4) rfl;go_wp2_with fail
 clear r0 r1 r2 r3 r4;generalize ((w.alloc (.cells #[.bool s,.slice x n c,.slice y m d,.slice ca cs.length cc,.slice ra rk rc] 28)).alloc (.cells #[.bool false,.slice none 0 0,.slice none 0 0] 24))=w1 at *;go_loopw [5,11] (fun ov t wr=>∃(i:Nat),i≤cs.length∧t=.int .i64 i∧Hid (Below w1.heap.size w1 wr)∧Hid (Gr (2*L+1) w1.heap.size wr ov ((costs cs xs).take i))) (fun _ t _=>cs.length-(intOf t).toNat)
 case atStart=>exact ⟨0,by omega,rfl,Below.refl _ _,gr_nil _ _ _⟩
 case round =>
  obtain ⟨i,hi,rfl,HB2,HG2⟩:=hrel;have hcl:(costs cs xs).length=cs.length:=by unfold costs;rw [List.length_zipWith,HXL.out,Nat.min_self]
  have hgl:((costs cs xs).take i).length=i:=by rw [List.length_take];omega
  by_cases hlt:i<cs.length
  ·obtain ⟨v,hv⟩:∃t,cs[i]?=some t:=⟨_,List.getElem?_eq_getElem (by omega)⟩;obtain ⟨⟨b,o,hba,hc⟩,hV⟩:=HC.out i v hv;subst hba;have hbz:=HB.out.trans (HB2.out.mono HB.out.size);have hcost:=hV.cost.below hbz;obtain ⟨⟨z,⟨s0,x0,n0,c0,f0,y0,m0,d0,g0⟩,⟨i1,⟨s1,x1,n1,c1,f1,y1,m1,d1,g1⟩⟩,⟨i2,⟨s2,x2,n2,c2,f2,y2,m2,d2,g2⟩⟩⟩,hCi⟩:∃t,C i=t:=⟨_,rfl⟩;rw [hCi] at hc hcost;replace hcost:Rn L wr s0 x0 n0 c0 f0 y0 m0 d0 g0 v.cost:=hcost;replace hc:=Cs.below hc hbz;have q0:wr.cell? ⟨b,o+i*12,none⟩=some (.string z):=hc 0 _ rfl;have q1:wr.cell? ⟨b,o+i*12+1,none⟩=some (.bool s0):=hc 1 _ rfl;have q2:wr.cell? ⟨b,o+i*12+2,none⟩=some (.slice x0 n0 c0):=hc 2 _ rfl;have q3:wr.cell? ⟨b,o+i*12+3,none⟩=some (.slice y0 m0 d0):=hc 3 _ rfl;have q4:wr.cell? ⟨b,o+i*12+4,none⟩=some (.int .i64 i1):=hc 4 _ rfl;have q5:wr.cell? ⟨b,o+i*12+5,none⟩=some (.bool s1):=hc 5 _ rfl;have q6:wr.cell? ⟨b,o+i*12+6,none⟩=some (.slice x1 n1 c1):=hc 6 _ rfl;have q7:wr.cell? ⟨b,o+i*12+7,none⟩=some (.slice y1 m1 d1):=hc 7 _ rfl;have q8:wr.cell? ⟨b,o+i*12+8,none⟩=some (.int .i64 i2):=hc 8 _ rfl;have q9:wr.cell? ⟨b,o+i*12+9,none⟩=some (.bool s2):=hc 9 _ rfl;have q10:wr.cell? ⟨b,o+i*12+10,none⟩=some (.slice x2 n2 c2):=hc 10 _ rfl;have q11:wr.cell? ⟨b,o+i*12+11,none⟩=some (.slice y2 m2 d2):=hc 11 _ rfl;obtain ⟨r,hr⟩:∃t,xs[i]?=some t:=⟨_,List.getElem?_eq_getElem (by have:=HXL.out;omega)⟩;obtain ⟨b',o',⟨ss,sx,sn,sc,sf,sy,sm,sd,sg⟩,hax,⟨p0,p1,p2⟩,hr'⟩:=(HX.out.below hbz) i r hr;subst hax;replace p0:wr.cell? ⟨b',o'+i*3,none⟩=some (.bool ss):=p0;replace p1:wr.cell? ⟨b',o'+i*3+1,none⟩=some (.slice sx sn sc):=p1;replace p2:wr.cell? ⟨b',o'+i*3+2,none⟩=some (.slice sy sm sd):=p2;replace hr':Rn L wr ss sx sn sc sf sy sm sd sg r:=hr';have HCI:Hid ((costs cs xs).take (i+1)=(costs cs xs).take i++[v.cost*r]):=by
    show _=_;rw [List.take_add_one]
    congr 1
    unfold costs;rw [List.getElem?_zipWith,hv,hr];rfl
   have hbt:=below_alloc (Below.refl wr.heap.size wr) (.cells #[.string z,.bool s0,.slice x0 n0 c0,.slice y0 m0 d0,.int .i64 i1,.bool s1,.slice x1 n1 c1,.slice y1 m1 d1,.int .i64 i2,.bool s2,.slice x2 n2 c2,.slice y2 m2 d2] 56);have a1:(wr.alloc (.cells #[.string z,.bool s0,.slice x0 n0 c0,.slice y0 m0 d0,.int .i64 i1,.bool s1,.slice x1 n1 c1,.slice y1 m1 d1,.int .i64 i2,.bool s2,.slice x2 n2 c2,.slice y2 m2 d2] 56)).cell? ⟨wr.heap.size,1,none⟩=some (.bool s0):=by simp [go_sem]
   have a2:(wr.alloc (.cells #[.string z,.bool s0,.slice x0 n0 c0,.slice y0 m0 d0,.int .i64 i1,.bool s1,.slice x1 n1 c1,.slice y1 m1 d1,.int .i64 i2,.bool s2,.slice x2 n2 c2,.slice y2 m2 d2] 56)).cell? ⟨wr.heap.size,2,none⟩=some (.slice x0 n0 c0):=by simp [go_sem]
   have a3:(wr.alloc (.cells #[.string z,.bool s0,.slice x0 n0 c0,.slice y0 m0 d0,.int .i64 i1,.bool s1,.slice x1 n1 c1,.slice y1 m1 d1,.int .i64 i2,.bool s2,.slice x2 n2 c2,.slice y2 m2 d2] 56)).cell? ⟨wr.heap.size,3,none⟩=some (.slice y0 m0 d0):=by simp [go_sem]
   have i1':((i:Nat):Int)<((cs.length:Nat):Int):=by omega
   clear hCi hc hV hv hr;go_upto_region 5 with fail
   clear q0 q1 q2 q3 q4 q5 q6 q7 q8 q9 q10 q11;replace p0:=kCb hbt p0;replace p1:=kCb hbt p1;replace p2:=kCb hbt p2
   have HB3:=hid (HB2.out.trans (hbt.mono HB2.out.size));have HG3:=hid (HG2.out.below hbt);have R1:=hid (hcost.below hbt);have R2:=hid (hr'.below hbt)
   clear hbz hbt HB2 HG2 hcost hr';generalize hbx:wr.heap.size=bx at *;generalize wr.alloc (.cells #[.string z,.bool s0,.slice x0 n0 c0,.slice y0 m0 d0,.int .i64 i1,.bool s1,.slice x1 n1 c1,.slice y1 m1 d1,.int .i64 i2,.bool s2,.slice x2 n2 c2,.slice y2 m2 d2] 56)=w5 at *;clear hbx;refine wp_region_phase (S:=(fun w'=>w'.cell? ⟨bx,1,none⟩=some (.bool s0)∧w'.cell? ⟨bx,2,none⟩=some (.slice x0 n0 c0)∧w'.cell? ⟨bx,3,none⟩=some (.slice y0 m0 d0)∧w'.cell? ⟨b',o'+i*3,none⟩=some (.bool ss)∧w'.cell? ⟨b',o'+i*3+1,none⟩=some (.slice sx sn sc)∧w'.cell? ⟨b',o'+i*3+2,none⟩=some (.slice sy sm sd))) 7 (by kernel_rfl) ⟨kCd a1,kCd a2,kCd a3,kCd p0,kCd p1,kCd p2⟩ (fun hHeld=>?_);refine wpAnyP_skim (i:=0) (v:=?_) rfl (by kernel_rfl) (by kernel_rfl) (by kernel_rfl) (by kernel_rfl) (fun _ _ _ h=>h) (Or.inl ⟨by rfl,?_⟩) (fun _=>by assumption) ?_;rotate_left
   (focus (intro w0 hSw;go_simp <;> with_reducible rfl))
   simp only [List.getElem_toArray,List.getElem_cons_zero,Act.put,List.setIfInBounds_toArray,List.set_cons_zero,List.set_cons_succ];refine wpAnyP_skim (i:=1) (v:=?_) rfl (by kernel_rfl) (by kernel_rfl) (by kernel_rfl) (by kernel_rfl) (fun _ _ _ h=>h) (Or.inl ⟨by rfl,?_⟩) (fun _=>by assumption) ?_;rotate_left
   (focus (intro w0 hSw;go_simp <;> with_reducible rfl))
   simp only [List.getElem_toArray,List.getElem_cons_succ,List.getElem_cons_zero,Act.put,List.setIfInBounds_toArray,List.set_cons_zero,List.set_cons_succ];refine wpAnyP_takeA (i:=2) (v:=?_) rfl (by kernel_rfl) (by kernel_rfl) (by kernel_rfl) (by kernel_rfl) (by kernel_rfl) (by kernel_rfl) (fun _ _ _ h=>h) (Or.inl ⟨by rfl,?_⟩) (by assumption) ?_;rotate_left
   (focus (intro w0 hSw;(try dsimp only at hSw);go_simp <;> with_reducible rfl))
   simp only [List.getElem_toArray,List.getElem_cons_succ,List.getElem_cons_zero,Act.put,List.setIfInBounds_toArray,List.set_cons_zero,List.set_cons_succ];refine wpAnyP_skim (i:=3) (v:=?_) rfl (by kernel_rfl) (by kernel_rfl) (by kernel_rfl) (by kernel_rfl) (fun _ _ _ h=>h) (Or.inl ⟨by rfl,?_⟩) (fun _=>by assumption) ?_;rotate_left
   (focus (intro w0 hSw;go_simp <;> with_reducible rfl))
   simp only [List.getElem_toArray,List.getElem_cons_succ,List.getElem_cons_zero,Act.put,List.setIfInBounds_toArray,List.set_cons_zero,List.set_cons_succ];refine wpAnyP_skim (i:=4) (v:=?_) rfl (by kernel_rfl) (by kernel_rfl) (by kernel_rfl) (by kernel_rfl) (fun _ _ _ h=>h) (Or.inl ⟨by rfl,?_⟩) (fun _=>by assumption) ?_;rotate_left
   (focus (intro w0 hSw;go_simp <;> with_reducible rfl))
   simp only [List.getElem_toArray,List.getElem_cons_succ,List.getElem_cons_zero,Act.put,List.setIfInBounds_toArray,List.set_cons_zero,List.set_cons_succ];refine wpAnyP_skim (i:=5) (v:=?_) rfl (by kernel_rfl) (by kernel_rfl) (by kernel_rfl) (by kernel_rfl) (fun _ _ _ h=>h) (Or.inl ⟨by rfl,?_⟩) (fun _=>by assumption) ?_;rotate_left
   (focus (intro w0 hSw;go_simp <;> with_reducible rfl))
   simp only [List.getElem_toArray,List.getElem_cons_succ,List.getElem_cons_zero,Act.put,List.setIfInBounds_toArray,List.set_cons_zero,List.set_cons_succ];refine wpAnyP_takeA (i:=6) (v:=?_) rfl (by kernel_rfl) (by kernel_rfl) (by kernel_rfl) (by kernel_rfl) (by kernel_rfl) (by kernel_rfl) (fun _ _ _ h=>h) (Or.inl ⟨by rfl,?_⟩) (by assumption) ?_;rotate_left
   (focus (intro w0 hSw;(try dsimp only at hSw);go_simp <;> with_reducible rfl))
   simp only [List.getElem_toArray,List.getElem_cons_succ,List.getElem_cons_zero,Act.put,List.setIfInBounds_toArray,List.set_cons_zero,List.set_cons_succ];refine wpAnyP_ready (rs:=[7]) (by kernel_rfl) (by simp) ?_;refine AllReadyP.cons (o:=_) rfl (fun K hK=>?_) ?_;rotate_left;exact AllReadyP.nil;go_simp
   go_at_call 38
   refine (rtimes_c (L:=L) (kRnd R1.out) (kRnd R2.out) (by omega)).mono ?_;rintro e w6 ⟨s6,x6,n6,c6,f6,y6,m6,d6,g6,rfl,hb6,hq6⟩
   (try go_wp2_with fail)
   refine hK.out _ _ (fun h=>by cases h) (fun _=>?_);clear hK K;try simp only [Act.put,List.setIfInBounds_toArray,List.set_cons_zero,List.set_cons_succ]
   refine wpAnyP_ready (rs:=[8]) (by kernel_rfl) (by simp) ?_;refine AllReadyP.cons (o:=_) rfl (fun K hK=>?_) ?_;rotate_left;exact AllReadyP.nil;go_simp;refine hK.out _ _ (fun h=>by cases h) (fun _=>?_);clear hK K;try simp only [Act.put,List.setIfInBounds_toArray,List.set_cons_zero,List.set_cons_succ]
   refine wpAnyP_ready (rs:=[9]) (by kernel_rfl) (by simp) ?_;refine AllReadyP.cons (o:=_) rfl (fun K hK=>?_) ?_;rotate_left;exact AllReadyP.nil;obtain ⟨T,hrow,hT⟩:=(Gr.below HG3.out (Below.drew (Below.refl w5.heap.size w5))).below hb6;rw [hgl] at hrow;refine step_append_one w6 rfl (.tmp 16) (.tmp 24) 29 rfl w1.heap.size 24 56 3 (.agg #[.bool false,.slice none 0 0,.slice none 0 0]) Tryz.underlying29 Tryz.infoRat rfl (by decide) nz3 u5 i _ rfl hrow #[.bool s6,.slice x6 n6 c6,.slice y6 m6 d6] rfl rfl (one3 _ _ _ _ _ _ _) (not3 _ _ _ _ _ _ _) (by omega) (by decide) ?hz ?_
   case hz=>exact (HB3.out.drew.trans (hb6.mono HB3.out.drew.size)).size
   intro g8 cap8 w8 hr8 hk8 hb8 hg8;have HB8:Hid (Below w1.heap.size w1 w8):=hb8 w1 (HB3.out.drew.trans (hb6.mono HB3.out.drew.size)) (Nat.le_refl _);have HG8:Hid (Gr (2*L+1) w1.heap.size w8 (.slice (some ⟨g8,0,none⟩) (i+1) cap8) ((costs cs xs).take (i+1))):=by
    have hp8:=gr_push (p:=(costs cs xs).take i) hT (by rw [hgl];exact hr8) hk8 hq6;rw [hgl] at hp8;rw [HCI.out];exact hp8
   clear hr8 hk8 hb8 hg8 hrow hT hb6 hq6 HG3 HB3 R1 R2;refine hK.out _ _ (fun h=>by cases h) (fun _=>?_);clear hK K;simp only [List.getElem_toArray,List.getElem_cons_succ,List.getElem_cons_zero,Act.put,List.setIfInBounds_toArray,List.set_cons_zero,List.set_cons_succ];refine wpAnyP_skim (i:=10) (v:=?_) rfl (by kernel_rfl) (by kernel_rfl) (by kernel_rfl) (by kernel_rfl) (fun _ _ _ h=>h) (Or.inl ⟨by rfl,?_⟩) (fun h=>by cases h) ?_;rotate_left
   (focus (intro w0 hSw;go_simp <;> with_reducible rfl))
   simp only [List.getElem_toArray,List.getElem_cons_succ,List.getElem_cons_zero,Act.put,List.setIfInBounds_toArray,List.set_cons_zero,List.set_cons_succ];refine wpAnyP_done (by kernel_rfl) ?_ _;clear hHeld a1 a2 a3 p0 p1 p2;go_wp2;go_roundw
   case rel=>exact ⟨i+1,by omega,by go_num,HB8.out,HG8.out⟩
   case measure=>simp [intOf];omega
  ·have i4:¬(((i:Nat):Int)<((cs.length:Nat):Int)):=by omega
   have e9:i=cs.length:=by omega
   obtain ⟨va,vc,hvs,hvc⟩:=HG2.out.slice;rw [hgl] at hvs;have HG4:=HG2.out;rw [hvs] at HG4;replace HG4:=hid (show Rf (2*L+1) wr va (costs cs xs) by have:=HG4.rf;rw [List.take_of_length_le (by omega)] at this;exact this);subst hvs;have HLen:=hid (show (costs cs xs).length=i by omega);have hi65:i≤64:=by omega
   replace HB:=hid (HB.out.trans (HB2.out.mono HB.out.size));replace OB:=hid (OB.out.below HB2.out)
   clear HG2 HB2 hgl hcl e9 HC HX BM;go_wp2_with fail
   refine (pSum_c (L:=2*L+1) HG4.out HLen.out (by omega) (by omega)).mono ?_;rintro e w6 ⟨s6,x6,n6,c6,f6,y6,m6,d6,g6,rfl,hb6,hq6⟩;replace HB:=hid (HB.out.trans (hb6.mono HB.out.size));replace OB:=hid (OB.out.below hb6)
   have HQ:=hid (show Rn (KA L) w6 s6 x6 n6 c6 f6 y6 m6 d6 g6 (slpQ cs xs) from hq6.mono (by unfold KA;have:i*(2*L+1+1)≤64*(2*L+1+1):=Nat.mul_le_mul_right _ hi65;omega));clear hb6 hq6 HG4 HLen;obtain ⟨hz,z0,z1,z2,zf⟩:=OB.out;go_wp2;exact bodyPost_ret (v:=.agg #[.bool s6,.slice x6 n6 c6,.slice y6 m6 d6]) (by simp [results,Tryz.results22,go_sem,z0,z1,z2]) rfl ⟨s6,x6,n6,c6,f6,y6,m6,d6,g6,rfl,below_st HB.out (by omega),OB.out.rn HQ.out⟩
def recB (e0 er:Int) (cs:List CV) (rs:List RV) (ds:List Rat):Bool:=decide (e0=0) && (decide (er=0) && endB cs rs ds (rs.map (actQ ds)))
set_option maxRecDepth 100000 in
set_option maxHeartbeats 4000000 in
theorem rRec_v {w:World} {L:Nat} {M:Mo} {off:Rat} {cs:List CV} {rs:List RV} {ao:Option Addr} {k cap:Nat} {X:Nat→Nm} {ds:List Rat} {e0 er:Int} (hW:MoW w M) (hx:Rl w ao k X) (hk:k≤1048576) (hc:chkE M=e0) (he:pckE M k X=er) (hv:er=0→MoV L w M off cs rs∧mvOk cs rs=true∧Rf L w ao ds∧ds.length=k∧k=cs.length) (hL:L≤30) :
  Calls Tryz.prog 11 #[M.val,.slice ao k cap] w fun e w'=>e=.returned (.tuple #[.bool (recB e0 er cs rs ds),.int .i64 e0])∧Below w.heap.size w w':=by
 have CC:=hid (fun W (hW2:Below w.heap.size w W)=>check_w (hW.below hW2));rw [hc] at CC;have CA:Hid (∀W,Below w.heap.size w W→Calls Tryz.prog 29 #[M.val,.slice ao k cap] W fun e w'=>AcAns L W w' e er rs ds):=fun W hW2=>pActs_v (hW.below hW2) (hx.below hW2) hk he (fun h0=>⟨(hv h0).1.below hW2,(hv h0).2.1,(hv h0).2.2.1.below hW2,(hv h0).2.2.2⟩) hL
 have CE:Hid (er=0→∀W aa ca,Below w.heap.size w W→Rf (KA L) W aa (rs.map (actQ ds))→Calls Tryz.prog 30 #[M.val,.slice ao k cap,.slice aa rs.length ca] W fun e w'=>e=.returned (.bool (endB cs rs ds (rs.map (actQ ds))))∧Below W.heap.size W w'):=fun h0 W aa ca hW2 ha=>by
  obtain ⟨v1,v2,v3,v4,v5⟩:=hv h0;have mp:=mvOk_p v2;exact endless_c (v1.below hW2) (v3.below hW2) ha v4 v5 (by rw [List.length_map]) rfl mp.cl mp.rl
 clear hW hx hv he hc;obtain ⟨⟨s,x,n,c,f,y,m,d,g⟩,ca,ck,cc,C,ra,rk,rc,R⟩:=M;replace CC:Hid (∀W,Below w.heap.size w W→Calls Tryz.prog 28 #[.agg #[.bool s,.slice x n c,.slice y m d,.slice ca ck cc,.slice ra rk rc]] W fun e w'=>e=.returned (.int .i64 e0)∧Below W.heap.size W w'):=CC;replace CA:Hid (∀W,Below w.heap.size w W→Calls Tryz.prog 29 #[.agg #[.bool s,.slice x n c,.slice y m d,.slice ca ck cc,.slice ra rk rc],.slice ao k cap] W fun e w'=>AcAns L W w' e er rs ds):=CA;replace CE:Hid (er=0→∀W aa ca',Below w.heap.size w W→Rf (KA L) W aa (rs.map (actQ ds))→Calls Tryz.prog 30 #[.agg #[.bool s,.slice x n c,.slice y m d,.slice ca ck cc,.slice ra rk rc],.slice ao k cap,.slice aa rs.length ca'] W fun e w'=>e=.returned (.bool (endB cs rs ds (rs.map (actQ ds))))∧Below W.heap.size W w'):=CE;show Calls Tryz.prog 11 #[.agg #[.bool s,.slice x n c,.slice y m d,.slice ca ck cc,.slice ra rk rc],.slice ao k cap] w _;have hb:=below_alloc (Below.refl w.heap.size w) (.cells #[.bool s,.slice x n c,.slice y m d,.slice ca ck cc,.slice ra rk rc] 28);have BM:Hid (Bk (w.alloc (.cells #[.bool s,.slice x n c,.slice y m d,.slice ca ck cc,.slice ra rk rc] 28)) w.heap.size [.bool s,.slice x n c,.slice y m d,.slice ca ck cc,.slice ra rk rc] 28):=bk_new w [.bool s,.slice x n c,.slice y m d,.slice ca ck cc,.slice ra rk rc] 28;have HB:=hid hb;clear hb;go_enter Tryz.func11,Tryz.ntmps11;go_wp2_with fail
 generalize w.alloc (.cells #[.bool s,.slice x n c,.slice y m d,.slice ca ck cc,.slice ra rk rc] 28)=w0 at *;refine (CC.out _ HB.out).mono ?_;rintro e w1 ⟨rfl,hb⟩;replace HB:=hid (HB.out.trans (hb.mono HB.out.size));replace BM:=hid (BM.out.below hb)
 clear hb CC;by_cases h0:e0=0
 case neg =>
  have h1:(e0 != 0)=true:=by simpa using h0
  have HF:Hid (recB e0 er cs rs ds=false):=by show _=_;rw [recB,decide_eq_false h0];rfl
  clear h0;go_wp2
  go_ret2
  exact ⟨by rw [HF.out];rfl,HB.out⟩
 subst h0;have r0:=BM.out.cell (j:=0) rfl;have r1:=BM.out.cell (j:=1) rfl;have r2:=BM.out.cell (j:=2) rfl;have r3:=BM.out.cell (j:=3) rfl;have r4:=BM.out.cell (j:=4) rfl;go_wp2_with fail
 refine (CA.out _ HB.out).mono ?_;rintro e w2 ⟨hb,hans⟩;replace HB:=hid (HB.out.trans (hb.mono HB.out.size));replace BM:=hid (BM.out.below hb)
 clear hb CA r0 r1 r2 r3 r4;rcases hans with ⟨h0,rfl⟩ | ⟨h0,aa,ac,rfl,hac,hR⟩
 ·have h1:(er==0)=false:=by simpa using h0
  have HF:Hid (recB 0 er cs rs ds=false):=by show _=_;rw [recB,decide_eq_false h0];rfl
  clear h0 CE;go_wp2
  go_ret2
  exact ⟨by rw [HF.out];rfl,HB.out⟩
 ·have CE2:=hid (CE.out h0);subst h0;have HR:=hid hR;clear hR CE hac;have r0:=BM.out.cell (j:=0) rfl;have r1:=BM.out.cell (j:=1) rfl;have r2:=BM.out.cell (j:=2) rfl;have r3:=BM.out.cell (j:=3) rfl;have r4:=BM.out.cell (j:=4) rfl;go_wp2_with fail
  refine (CE2.out _ aa ac HB.out HR.out).mono ?_;rintro e w3 ⟨rfl,hb⟩;replace HB:=hid (HB.out.trans (hb.mono HB.out.size));clear hb CE2 r0 r1 r2 r3 r4 BM;have HF:Hid (recB 0 0 cs rs ds=endB cs rs ds (rs.map (actQ ds))):=by show _=_;simp [recB]
  go_wp2
  go_ret2
  exact ⟨by rw [HF.out];rfl,HB.out⟩
def valB (e0 er ex:Int) (cs:List CV) (rs:List RV) (ds xs:List Rat):Bool:=recB e0 er cs rs ds && (decide (ex=0) && feasB cs rs xs && decide (slpQ cs ds<0))
set_option maxRecDepth 100000 in
set_option maxHeartbeats 4000000 in
theorem rValid_v {w:World} {L:Nat} {M:Mo} {off:Rat} {cs:List CV} {rs:List RV} {ao:Option Addr} {k cap:Nat} {X:Nat→Nm} {ds:List Rat} {e0 er:Int} (hW:MoW w M) (hx:Rl w ao k X) (hk:k≤1048576) (hc:chkE M=e0) (he:pckE M k X=er) (hv:er=0→MoV L w M off cs rs∧mvOk cs rs=true∧Rf L w ao ds∧ds.length=k∧k=cs.length) (hL:L≤30) {ax:Option Addr} {kx capx:Nat} {Y:Nat→Nm} {xs:List Rat} {ex:Int} (hy:Rl w ax kx Y) (hkx:kx≤1048576) (hex:pckE M kx Y=ex) (hvx:ex=0→MoV L w M off cs rs∧mvOk cs rs=true∧Rf L w ax xs∧xs.length=kx∧kx=cs.length) :
  Calls Tryz.prog 7 #[M.val,.agg #[.slice ax kx capx,.slice ao k cap]] w fun e w'=>e=.returned (.tuple #[.bool (valB e0 er ex cs rs ds xs),.int .i64 e0])∧Below w.heap.size w w':=by
 have CR:Hid (∀W,Below w.heap.size w W→Calls Tryz.prog 11 #[M.val,.slice ao k cap] W fun e w'=>e=.returned (.tuple #[.bool (recB e0 er cs rs ds),.int .i64 e0])∧Below W.heap.size W w'):=fun W hW2=>rRec_v (hW.below hW2) (hx.below hW2) hk hc he (fun h0=>⟨(hv h0).1.below hW2,(hv h0).2.1,(hv h0).2.2.1.below hW2,(hv h0).2.2.2⟩) hL
 have CF:Hid (∀W,Below w.heap.size w W→Calls Tryz.prog 21 #[M.val,.slice ax kx capx] W fun e w'=>e=.returned (.tuple #[.bool (decide (ex=0) && feasB cs rs xs),.int .i64 ex])∧Below W.heap.size W w'):=fun W hW2=>pFeas_v (hW.below hW2) (hy.below hW2) hkx hex (fun h0=>⟨(hvx h0).1.below hW2,(hvx h0).2.1,(hvx h0).2.2.1.below hW2,(hvx h0).2.2.2⟩) hL
 have CS:Hid (recB e0 er cs rs ds=true→∀W,Below w.heap.size w W→Calls Tryz.prog 22 #[M.val,.slice ao k cap] W fun e w'=>RatAns (KA L) W w' e (slpQ cs ds)):=fun h0 W hW2=>by
  have h1:er=0:=by simp only [recB,Bool.and_eq_true,decide_eq_true_eq] at h0;exact h0.2.1
  obtain ⟨v1,v2,v3,v4,v5⟩:=hv h1;exact slope_c (v1.below hW2) (v3.below hW2) v4 v5 (mvOk_p v2).cl (by omega)
 have HE0:Hid (recB e0 er cs rs ds=true→e0=0):=fun h0=>by simp only [recB,Bool.and_eq_true,decide_eq_true_eq] at h0;exact h0.1
 clear hW hx hv he hc hy hex hvx;obtain ⟨rb,hrb⟩:∃z,recB e0 er cs rs ds=z:=⟨_,rfl⟩;obtain ⟨fb,hfb⟩:∃z,(decide (ex=0) && feasB cs rs xs)=z:=⟨_,rfl⟩;have HV:Hid (valB e0 er ex cs rs ds xs=(rb && (fb && decide (slpQ cs ds<0)))):=by show _=_;rw [valB,hrb,hfb]
 rw [hrb] at CR CS HE0;rw [hfb] at CF;clear hrb hfb;obtain ⟨⟨s,x,n,c,f,y,m,d,g⟩,ca,ck,cc,C,ra,rk,rc,R⟩:=M;replace CR:Hid (∀W,Below w.heap.size w W→Calls Tryz.prog 11 #[.agg #[.bool s,.slice x n c,.slice y m d,.slice ca ck cc,.slice ra rk rc],.slice ao k cap] W fun e w'=>e=.returned (.tuple #[.bool rb,.int .i64 e0])∧Below W.heap.size W w'):=CR;replace CF:Hid (∀W,Below w.heap.size w W→Calls Tryz.prog 21 #[.agg #[.bool s,.slice x n c,.slice y m d,.slice ca ck cc,.slice ra rk rc],.slice ax kx capx] W fun e w'=>e=.returned (.tuple #[.bool fb,.int .i64 ex])∧Below W.heap.size W w'):=CF;replace CS:Hid (rb=true→∀W,Below w.heap.size w W→Calls Tryz.prog 22 #[.agg #[.bool s,.slice x n c,.slice y m d,.slice ca ck cc,.slice ra rk rc],.slice ao k cap] W fun e w'=>RatAns (KA L) W w' e (slpQ cs ds)):=CS;show Calls Tryz.prog 7 #[.agg #[.bool s,.slice x n c,.slice y m d,.slice ca ck cc,.slice ra rk rc],.agg #[.slice ax kx capx,.slice ao k cap]] w _;have hb:=below_alloc (below_alloc (Below.refl w.heap.size w) (.cells #[.bool s,.slice x n c,.slice y m d,.slice ca ck cc,.slice ra rk rc] 28)) (.cells #[.slice ax kx capx,.slice ao k cap] 31);have BM:Hid (Bk ((w.alloc (.cells #[.bool s,.slice x n c,.slice y m d,.slice ca ck cc,.slice ra rk rc] 28)).alloc (.cells #[.slice ax kx capx,.slice ao k cap] 31)) w.heap.size [.bool s,.slice x n c,.slice y m d,.slice ca ck cc,.slice ra rk rc] 28):=(bk_new w [.bool s,.slice x n c,.slice y m d,.slice ca ck cc,.slice ra rk rc] 28).below (below_alloc (Below.refl _ _) _);have BY:Hid (Bk ((w.alloc (.cells #[.bool s,.slice x n c,.slice y m d,.slice ca ck cc,.slice ra rk rc] 28)).alloc (.cells #[.slice ax kx capx,.slice ao k cap] 31)) (w.heap.size+1) [.slice ax kx capx,.slice ao k cap] 31):=by
  have:=bk_new (w.alloc (.cells #[.bool s,.slice x n c,.slice y m d,.slice ca ck cc,.slice ra rk rc] 28)) [.slice ax kx capx,.slice ao k cap] 31;rw [size_alloc1] at this;exact this
 have HB:=hid hb;clear hb;go_enter Tryz.func7,Tryz.ntmps7;have r0:=BM.out.cell (j:=0) rfl;have r1:=BM.out.cell (j:=1) rfl;have r2:=BM.out.cell (j:=2) rfl;have r3:=BM.out.cell (j:=3) rfl;have r4:=BM.out.cell (j:=4) rfl;have t0:=BY.out.cell (j:=0) rfl;have t1:=BY.out.cell (j:=1) rfl;go_wp2_with fail
 clear r0 r1 r2 r3 r4 t0 t1;generalize (w.alloc (.cells #[.bool s,.slice x n c,.slice y m d,.slice ca ck cc,.slice ra rk rc] 28)).alloc (.cells #[.slice ax kx capx,.slice ao k cap] 31)=w0 at *;refine (CR.out _ HB.out).mono ?_;rintro e w1 ⟨rfl,hb⟩;replace HB:=hid (HB.out.trans (hb.mono HB.out.size));replace BM:=hid (BM.out.below hb);replace BY:=hid (BY.out.below hb)
 clear hb CR;cases rb
 ·go_wp2
  go_ret2
  exact ⟨by rw [HV.out];rfl,HB.out⟩
 have e0z:e0=0:=HE0.out rfl;subst e0z;have r0:=BM.out.cell (j:=0) rfl;have r1:=BM.out.cell (j:=1) rfl;have r2:=BM.out.cell (j:=2) rfl;have r3:=BM.out.cell (j:=3) rfl;have r4:=BM.out.cell (j:=4) rfl;have t0:=BY.out.cell (j:=0) rfl;have t1:=BY.out.cell (j:=1) rfl;go_wp2_with fail
 clear r0 r1 r2 r3 r4 t0 t1;refine (CF.out _ HB.out).mono ?_;rintro e w2 ⟨rfl,hb⟩;replace HB:=hid (HB.out.trans (hb.mono HB.out.size));replace BM:=hid (BM.out.below hb);replace BY:=hid (BY.out.below hb)
 clear hb CF;cases fb
 ·go_wp2
  go_ret2
  exact ⟨by rw [HV.out];rfl,HB.out⟩
 have CS2:=hid (CS.out (by first | rfl | trivial));have r0:=BM.out.cell (j:=0) rfl;have r1:=BM.out.cell (j:=1) rfl;have r2:=BM.out.cell (j:=2) rfl;have r3:=BM.out.cell (j:=3) rfl;have r4:=BM.out.cell (j:=4) rfl;have t0:=BY.out.cell (j:=0) rfl;have t1:=BY.out.cell (j:=1) rfl;go_wp2_with fail
 clear r0 r1 r2 r3 r4 t0 t1;refine (CS2.out _ HB.out).mono ?_;rintro e w3 ⟨s6,x6,n6,c6,f6,y6,m6,d6,g6,rfl,hb,hq⟩;replace HB:=hid (HB.out.trans (hb.mono HB.out.size));have HS:Hid (s6=decide (slpQ cs ds<0)):=hq.sg;clear hb hq CS CS2 BM BY;have hf0:∀(W:World),(Instr.field 24 (.agg #[.bool s6,.slice x6 n6 c6,.slice y6 m6 d6]) 0).run Tryz.prog W=.ok (.bool s6) W:=by intros;kernel_rfl
 go_wp2
 go_ret2
 exact ⟨by rw [HV.out,←HS.out];cases s6 <;> rfl,HB.out⟩
def alE (t:Nm) (kx:Nat) (Y:Nat→Nm) (k:Nat) (X:Nat→Nm):Int:=lsf (tri (pnE 1 (fun _=>t) 1) (pnE kx Y kx) (pnE k X kx)) 3
def alng (xs ds:List Rat) (t:Rat):List Rat:=List.zipWith (fun x d=>0+x+t*d) xs ds
def KL (L:Nat):Nat:=4+2*(2*L+1+1)
def AlAns (L:Nat) (w w':World) (e:Ending) (er:Int) (kx:Nat) (xs ds:List Rat) (t:Rat):Prop:=Below w.heap.size w w' ∧
 ((er≠0∧e=.returned (.tuple #[.slice none 0 0,.int .i64 er]))∨(er=0∧∃a c,e=.returned (.tuple #[.slice a kx c,.int .i64 0])∧(kx≤c∧c≤9223372036854775807)∧Rf (KL L) w' a (alng xs ds t)))
theorem rl_num1 {w:World} {t:Nm} {T:TypeId} (h:NmS w t):Rl (w.alloc (.cells #[.bool t.s,.slice t.x t.n t.c,.slice t.y t.m t.d] T)) (some ⟨w.heap.size,0,none⟩) 1 (fun _=>t):=fun j hj=>by
 obtain rfl:j=0:=by omega
 exact ⟨w.heap.size,0,rfl,⟨by simp [go_sem],by simp [go_sem],by simp [go_sem]⟩,h.below (below_alloc (Below.refl _ _) _)⟩
theorem rf_two {K:Nat} {w:World} {T:TypeId} {s:Bool} {x:Option Addr} {n c:Nat} {f:Nat→Int} {y:Option Addr} {m d:Nat} {g:Nat→Int} {q:Rat} {s2:Bool} {x2:Option Addr} {n2 c2:Nat} {f2:Nat→Int} {y2:Option Addr} {m2 d2:Nat} {g2:Nat→Int} {q2:Rat} (h:Rn K w s x n c f y m d g q) (h2:Rn K w s2 x2 n2 c2 f2 y2 m2 d2 g2 q2):Rf K (w.alloc (.cells #[.bool s,.slice x n c,.slice y m d,.bool s2,.slice x2 n2 c2,.slice y2 m2 d2] T)) (some ⟨w.heap.size,0,none⟩) [q,q2]:=fun j q' e=>by
 match j,e with
 | 0,e=>cases e;exact ⟨w.heap.size,0,⟨s,x,n,c,f,y,m,d,g⟩,rfl,⟨by simp [go_sem],by simp [go_sem],by simp [go_sem]⟩,h.alloc _⟩
 | 1,e=>cases e;exact ⟨w.heap.size,0,⟨s2,x2,n2,c2,f2,y2,m2,d2,g2⟩,rfl,⟨by simp [go_sem],by simp [go_sem],by simp [go_sem]⟩,h2.alloc _⟩
set_option maxRecDepth 100000 in
set_option maxHeartbeats 8000000 in
theorem rAlong_v {w:World} {L:Nat} {ax:Option Addr} {kx capx:Nat} {Y:Nat→Nm} {ao:Option Addr} {k cap:Nat} {X:Nat→Nm} {ts:Bool} {tx:Option Addr} {tn tc:Nat} {tf:Nat→Int} {ty:Option Addr} {tm td:Nat} {tg:Nat→Int} {xs ds:List Rat} {tq:Rat} {er:Int} (hy:Rl w ax kx Y) (hx:Rl w ao k X) (ht:NmS w ⟨ts,tx,tn,tc,tf,ty,tm,td,tg⟩) (hkx:kx≤1000000) (hk:k≤1048576) (he:alE ⟨ts,tx,tn,tc,tf,ty,tm,td,tg⟩ kx Y k X=er) (hv:er=0→Rf L w ax xs∧xs.length=kx∧Rf L w ao ds∧ds.length=k∧k=kx∧Rn L w ts tx tn tc tf ty tm td tg tq) (hL:L≤60) :
  Calls Tryz.prog 16 #[.agg #[.slice ax kx capx,.slice ao k cap],.agg #[.bool ts,.slice tx tn tc,.slice ty tm td]] w fun e w'=>AlAns L w w' e er kx xs ds tq:=by
 have C0:Hid (∀W,Below w.heap.size w W→Calls Tryz.prog 36 #[.slice (some ⟨W.heap.size,0,none⟩) 1 1,.int .i64 1] (W.alloc (.cells #[.bool ts,.slice tx tn tc,.slice ty tm td] 24)) fun e w'=>e=.returned (.int .i64 (pnE 1 (fun _=>⟨ts,tx,tn,tc,tf,ty,tm,td,tg⟩) 1))∧Below (W.alloc (.cells #[.bool ts,.slice tx tn tc,.slice ty tm td] 24)).heap.size (W.alloc (.cells #[.bool ts,.slice tx tn tc,.slice ty tm td] 24)) w'):=fun W hW2=>pNumbers_c (rl_num1 (ht.below hW2)) (by decide)
 have C1:=hid (fun W (hW2:Below w.heap.size w W)=>pNumbers_c (w:=W) (cap:=capx) (z:=(kx:Int)) (hy.below hW2) (by omega));have C2:=hid (fun W (hW2:Below w.heap.size w W)=>pNumbers_c (w:=W) (cap:=cap) (z:=(kx:Int)) (hx.below hW2) hk);have HE:=hid he;unfold alE at he;obtain ⟨e0,he0⟩:∃e,pnE 1 (fun _=>⟨ts,tx,tn,tc,tf,ty,tm,td,tg⟩) 1=e:=⟨_,rfl⟩;rw [he0] at C0 he;clear he0;obtain ⟨e1,he1⟩:∃e,pnE kx Y kx=e:=⟨_,rfl⟩;rw [he1] at C1 he;clear he1;obtain ⟨e2,he2⟩:∃e,pnE k X kx=e:=⟨_,rfl⟩;rw [he2] at C2 he;clear he2;have HE2:=hid he;have HV:=hid hv
 clear he hv hx hy ht;have hb:=below_alloc (below_alloc (Below.refl w.heap.size w) (.cells #[.slice ax kx capx,.slice ao k cap] 31)) (.cells #[.bool ts,.slice tx tn tc,.slice ty tm td] 24);have BY:Hid (Bk ((w.alloc (.cells #[.slice ax kx capx,.slice ao k cap] 31)).alloc (.cells #[.bool ts,.slice tx tn tc,.slice ty tm td] 24)) w.heap.size [.slice ax kx capx,.slice ao k cap] 31):=(bk_new w [.slice ax kx capx,.slice ao k cap] 31).below (below_alloc (Below.refl _ _) _);have BT:Hid (Bk ((w.alloc (.cells #[.slice ax kx capx,.slice ao k cap] 31)).alloc (.cells #[.bool ts,.slice tx tn tc,.slice ty tm td] 24)) (w.heap.size+1) [.bool ts,.slice tx tn tc,.slice ty tm td] 24):=by
  have:=bk_new (w.alloc (.cells #[.slice ax kx capx,.slice ao k cap] 31)) [.bool ts,.slice tx tn tc,.slice ty tm td] 24;rw [size_alloc1] at this;exact this
 have HB:=hid hb;clear hb;go_enter Tryz.func16,Tryz.ntmps16;have t0:=BY.out.cell (j:=0) rfl;go_upto_region 2 with fail
 clear t0;generalize ((w.alloc (.cells #[.slice ax kx capx,.slice ao k cap] 31)).alloc (.cells #[.bool ts,.slice tx tn tc,.slice ty tm td] 24))=w0 at *;have hbd:=Below.drew (Below.refl w0.heap.size w0);replace HB:=hid (HB.out.trans (hbd.mono HB.out.size));replace BY:=hid (BY.out.below hbd);replace BT:=hid (BT.out.below hbd)
 clear hbd;have y0:=BY.out.cell (j:=0) rfl;have y1:=BY.out.cell (j:=1) rfl;have r0:=BT.out.cell (j:=0) rfl;have r1:=BT.out.cell (j:=1) rfl;have r2:=BT.out.cell (j:=2) rfl;refine wp_region_held_drew (S:=(fun w'=>w'.cell? ⟨w.heap.size,0,none⟩=some (.slice ax kx capx)∧w'.cell? ⟨w.heap.size,1,none⟩=some (.slice ao k cap)∧w'.cell? ⟨w.heap.size+1,0,none⟩=some (.bool ts)∧w'.cell? ⟨w.heap.size+1,1,none⟩=some (.slice tx tn tc)∧w'.cell? ⟨w.heap.size+1,2,none⟩=some (.slice ty tm td))) (by kernel_rfl) ?_ (fun hHeld=>?_)
 ·exact ⟨y0,y1,r0,r1,r2⟩
 generalize w0.drew=wd at *;clear y0 y1 r0 r1 r2;refine tkO 0 ?_;simp only [lay_,Act.put];refine tkO 3 ?_;simp only [lay_,Act.put];refine tkO 4 ?_;simp only [lay_,Act.put];refine tkO 5 ?_;simp only [lay_,Act.put];refine tkO 7 ?_;simp only [lay_,Act.put];refine tkO 8 ?_;simp only [lay_,Act.put];refine tkO 9 ?_;simp only [lay_,Act.put];refine wpAnyH_ready (rs:=[1]) (by kernel_rfl) (by simp) ?_;refine AllReadyH.cons (o:=_) rfl (fun K hK=>?_) ?_;rotate_left;exact AllReadyH.nil;go_simp;have hbn:=below_alloc (Below.refl wd.heap.size wd) (.cells #[.bool ts,.slice tx tn tc,.slice ty tm td] 24);refine hK.out _ _ ?_ (fun hHn=>?_)
 ·exact ⟨kCb hbn hHeld.1,kCb hbn hHeld.2.1,kCb hbn hHeld.2.2.1,kCb hbn hHeld.2.2.2.1,kCb hbn hHeld.2.2.2.2⟩
 clear hK K;have HBn:=hid (HB.out.trans (hbn.mono HB.out.size));try simp only [lay_,Act.put]
 refine wpAnyH_ready (rs:=[2]) (by kernel_rfl) (by simp) ?_;refine AllReadyH.cons (o:=_) rfl (fun K hK=>?_) ?_;rotate_left;exact AllReadyH.nil;go_simp
 go_at_call 36
 refine (C0.out _ HB.out).mono ?_;rintro e w3 ⟨rfl,hb3⟩
 (try go_wp2_with fail)
 refine hK.out _ _ ?_ (fun hH3=>?_)
 ·exact ⟨kCb hb3 hHn.1,kCb hb3 hHn.2.1,kCb hb3 hHn.2.2.1,kCb hb3 hHn.2.2.2.1,kCb hb3 hHn.2.2.2.2⟩
 clear hK K;have HB3:=hid (HBn.out.trans (hb3.mono HBn.out.size));try simp only [lay_,Act.put]
 refine wpAnyH_ready (rs:=[6]) (by kernel_rfl) (by simp) ?_;refine AllReadyH.cons (o:=_) rfl (fun K hK=>?_) ?_;rotate_left;exact AllReadyH.nil;go_simp
 go_at_call 36
 refine (C1.out _ HB3.out).mono ?_;rintro e w4 ⟨rfl,hb4⟩
 (try go_wp2_with fail)
 refine hK.out _ _ ?_ (fun hH4=>?_)
 ·exact ⟨kCb hb4 hH3.1,kCb hb4 hH3.2.1,kCb hb4 hH3.2.2.1,kCb hb4 hH3.2.2.2.1,kCb hb4 hH3.2.2.2.2⟩
 clear hK K;have HB4:=hid (HB3.out.trans (hb4.mono HB3.out.size));try simp only [lay_,Act.put]
 refine wpAnyH_ready (rs:=[10]) (by kernel_rfl) (by simp) ?_;refine AllReadyH.cons (o:=_) rfl (fun K hK=>?_) ?_;rotate_left;exact AllReadyH.nil;go_simp
 go_at_call 36
 refine (C2.out _ HB4.out).mono ?_;rintro e w5 ⟨rfl,hb5⟩
 (try go_wp2_with fail)
 refine hK.out _ _ ?_ (fun hH5=>?_)
 ·exact ⟨kCb hb5 hH4.1,kCb hb5 hH4.2.1,kCb hb5 hH4.2.2.1,kCb hb5 hH4.2.2.2.1,kCb hb5 hH4.2.2.2.2⟩
 clear hK K;have HB5:=hid (HB4.out.trans (hb5.mono HB4.out.size));obtain ⟨y0,y1,r0,r1,r2⟩:=id hH5;try simp only [lay_,Act.put]
 refine wpAnyH_ready (rs:=[11]) (by kernel_rfl) (by simp) ?_;refine AllReadyH.cons (o:=_) rfl (fun K hK=>?_) ?_;rotate_left;exact AllReadyH.nil;go_simp;have hbA:=below_alloc (Below.refl w5.heap.size w5) (.cells #[.int .i64 e0,.int .i64 e1,.int .i64 e2] 35);have HEl:=hid (tri_el (w:=w5) (e0:=e0) (e1:=e1) (e2:=e2) (t:=35));have HWA:=hid (HB5.out.trans (hbA.mono HB5.out.size));obtain ⟨gA,hgA⟩:∃z,w5.heap.size=z:=⟨_,rfl⟩;rw [hgA] at HEl ⊢;generalize hwA:w5.alloc (.cells #[.int .i64 e0,.int .i64 e1,.int .i64 e2] 35)=wA at *;clear hwA hgA;refine hK.out _ _ ?_ (fun hHA=>?_)
 ·((try dsimp only);(refine ⟨?_,?_,?_,?_,?_⟩ <;> repeat (with_reducible first | assumption | refine kCb (by assumption) ?_)))
 clear hK K;try simp only [lay_,Act.put]
 refine wpAnyH_ready (rs:=[12]) (by kernel_rfl) (by simp) ?_;refine AllReadyH.cons (o:=_) rfl (fun K hK=>?_) ?_;rotate_left;exact AllReadyH.nil;go_simp
 go_at_call 35
 refine (least_c HEl.out (by decide)).mono ?_;rintro e w9 ⟨rfl,rfl⟩
 (try go_wp2_with fail)
 refine hK.out _ _ ?_ (fun hHB=>?_)
 ·exact hHA
 clear hK K;try simp only [lay_,Act.put]
 refine tkO 13 ?_;simp only [lay_,Act.put];refine wpAnyH_done (by kernel_rfl) ?_ _;simp only [show lsf (tri e0 e1 e2) 3=er from HE2.out];replace BY:=hid (BY.out.below (hbn.trans ((hb3.trans ((hb4.trans (hb5.mono hb4.size)).mono hb3.size)).mono hbn.size)));replace BT:=hid (BT.out.below (hbn.trans ((hb3.trans ((hb4.trans (hb5.mono hb4.size)).mono hb3.size)).mono hbn.size)))
 replace BY:=hid (BY.out.below hbA);replace BT:=hid (BT.out.below hbA)
 replace HB:=hid HWA.out;clear HE2 hHeld hHn hH3 hH4 hH5 hHA hHB hbn hb3 hb4 hb5 hbA y0 y1 r0 r1 r2 HEl C0 C1 C2 HBn HB3 HB4 HB5 HWA;by_cases h0:er=0
 case neg =>
  have h1:(er != 0)=true:=by simpa using h0
  have H0:=hid h0;go_wp2
  go_ret2
  exact ⟨HB.out,.inl ⟨H0.out,rfl⟩⟩
 obtain ⟨v1,v2,v3,v4,v5,v6⟩:=HV.out h0;subst h0;subst v5;have HX:=hid v1;have HXL:=hid v2;have HD:=hid v3;have HDL:=hid v4;have HT:=hid v6
 clear v1 v2 v3 v4 v6 HV;have y0:=BY.out.cell (j:=0) rfl;go_wp2_with fail
 clear y0;obtain ⟨w1,hw1⟩:∃z:World,z=w9:=⟨_,rfl⟩;subst hw1;go_loopw [8,33] (fun ov t wr=>∃(i:Nat),i≤k∧t=.int .i64 i∧Hid (Below w1.heap.size w1 wr)∧Hid (Gr (KL L) w1.heap.size wr ov ((alng xs ds tq).take i))) (fun _ t _=>k-(intOf t).toNat)
 case atStart=>exact ⟨0,by omega,rfl,Below.refl _ _,gr_nil _ _ _⟩
 case round =>
  obtain ⟨i,hi,rfl,HB2,HG2⟩:=hrel;have hcl:(alng xs ds tq).length=k:=by unfold alng;rw [List.length_zipWith,HXL.out,HDL.out,Nat.min_self]
  have hgl:((alng xs ds tq).take i).length=i:=by rw [List.length_take];omega
  by_cases hlt:i<k
  ·obtain ⟨u,hu⟩:∃t,xs[i]?=some t:=⟨_,List.getElem?_eq_getElem (by have:=HXL.out;omega)⟩;obtain ⟨r,hr⟩:∃t,ds[i]?=some t:=⟨_,List.getElem?_eq_getElem (by have:=HDL.out;omega)⟩;have hbz:=HB.out.trans (HB2.out.mono HB.out.size);obtain ⟨b,o,⟨us,ux,un,uc,uf,uy,um,ud,ug⟩,hba,⟨q0,q1,q2⟩,hu'⟩:=(HX.out.below hbz) i u hu;subst hba;obtain ⟨b',o',⟨ss,sx,sn,sc,sf,sy,sm,sd,sg⟩,hax,⟨p0,p1,p2⟩,hr'⟩:=(HD.out.below hbz) i r hr;subst hax;replace q0:wr.cell? ⟨b,o+i*3,none⟩=some (.bool us):=q0;replace q1:wr.cell? ⟨b,o+i*3+1,none⟩=some (.slice ux un uc):=q1;replace q2:wr.cell? ⟨b,o+i*3+2,none⟩=some (.slice uy um ud):=q2;replace p0:wr.cell? ⟨b',o'+i*3,none⟩=some (.bool ss):=p0;replace p1:wr.cell? ⟨b',o'+i*3+1,none⟩=some (.slice sx sn sc):=p1;replace p2:wr.cell? ⟨b',o'+i*3+2,none⟩=some (.slice sy sm sd):=p2;replace hr':Rn L wr ss sx sn sc sf sy sm sd sg r:=hr';replace hu':Rn L wr us ux un uc uf uy um ud ug u:=hu';have ht2:=HT.out.below hbz;have HCI:Hid ((alng xs ds tq).take (i+1)=(alng xs ds tq).take i++[psum [u,tq*r] 0]):=by
    show _=_;rw [List.take_add_one]
    congr 1
    unfold alng;rw [List.getElem?_zipWith,hu,hr];rfl
   have hbt:=below_alloc (Below.refl wr.heap.size wr) (.cells #[.bool us,.slice ux un uc,.slice uy um ud] 24);have a0:(wr.alloc (.cells #[.bool us,.slice ux un uc,.slice uy um ud] 24)).cell? ⟨wr.heap.size,0,none⟩=some (.bool us):=by simp [go_sem]
   have a1:(wr.alloc (.cells #[.bool us,.slice ux un uc,.slice uy um ud] 24)).cell? ⟨wr.heap.size,1,none⟩=some (.slice ux un uc):=by simp [go_sem]
   have a2:(wr.alloc (.cells #[.bool us,.slice ux un uc,.slice uy um ud] 24)).cell? ⟨wr.heap.size,2,none⟩=some (.slice uy um ud):=by simp [go_sem]
   replace BY:=hid (BY.out.below HB2.out);replace BT:=hid (BT.out.below HB2.out)
   have i1':((i:Nat):Int)<((k:Nat):Int):=by omega
   clear hu hr;go_upto_region 9 with fail
   clear q0 q1 q2;replace p0:=kCb hbt p0;replace p1:=kCb hbt p1;replace p2:=kCb hbt p2
   have y1:=kCb hbt (BY.out.cell (j:=1) rfl);have r0:=kCb hbt (BT.out.cell (j:=0) rfl);have r1:=kCb hbt (BT.out.cell (j:=1) rfl);have r2:=kCb hbt (BT.out.cell (j:=2) rfl);have HB3:=hid (HB2.out.trans (hbt.mono HB2.out.size));have HG3:=hid (HG2.out.below hbt);have R0:=hid (hu'.below hbt);have R1:=hid (ht2.below hbt);have R2:=hid (hr'.below hbt)
   clear hbz hbt HB2 HG2 hu' hr' ht2;generalize hbx:wr.heap.size=bx at *;generalize wr.alloc (.cells #[.bool us,.slice ux un uc,.slice uy um ud] 24)=w5 at *;clear hbx;refine wp_region_phase (S:=(fun w'=>w'.cell? ⟨bx,0,none⟩=some (.bool us)∧w'.cell? ⟨bx,1,none⟩=some (.slice ux un uc)∧w'.cell? ⟨bx,2,none⟩=some (.slice uy um ud)∧w'.cell? ⟨w.heap.size+1,0,none⟩=some (.bool ts)∧w'.cell? ⟨w.heap.size+1,1,none⟩=some (.slice tx tn tc)∧w'.cell? ⟨w.heap.size+1,2,none⟩=some (.slice ty tm td)∧w'.cell? ⟨w.heap.size,1,none⟩=some (.slice (some ⟨b',o',none⟩) k cap)∧w'.cell? ⟨b',o'+i*3,none⟩=some (.bool ss)∧w'.cell? ⟨b',o'+i*3+1,none⟩=some (.slice sx sn sc)∧w'.cell? ⟨b',o'+i*3+2,none⟩=some (.slice sy sm sd))) 9 (by kernel_rfl) ⟨kCd a0,kCd a1,kCd a2,kCd r0,kCd r1,kCd r2,kCd y1,kCd p0,kCd p1,kCd p2⟩ (fun hHeld=>?_);refine wpAnyP_skim (i:=0) (v:=?_) rfl (by kernel_rfl) (by kernel_rfl) (by kernel_rfl) (by kernel_rfl) (fun _ _ _ h=>h) (Or.inl ⟨by rfl,?_⟩) (fun _=>by assumption) ?_;rotate_left
   (focus (intro w0 hSw;go_simp <;> with_reducible rfl))
   simp only [lay_,Act.put];refine wpAnyP_takeA (i:=1) (v:=?_) rfl (by kernel_rfl) (by kernel_rfl) (by kernel_rfl) (by kernel_rfl) (by kernel_rfl) (by kernel_rfl) (fun _ _ _ h=>h) (Or.inl ⟨by rfl,?_⟩) (by assumption) ?_;rotate_left
   (focus (intro w0 hSw;(try dsimp only at hSw);go_simp <;> with_reducible rfl))
   simp only [lay_,Act.put];refine wpAnyP_takeA (i:=2) (v:=?_) rfl (by kernel_rfl) (by kernel_rfl) (by kernel_rfl) (by kernel_rfl) (by kernel_rfl) (by kernel_rfl) (fun _ _ _ h=>h) (Or.inl ⟨by rfl,?_⟩) (by assumption) ?_;rotate_left
   (focus (intro w0 hSw;(try dsimp only at hSw);go_simp <;> with_reducible rfl))
   simp only [lay_,Act.put];refine wpAnyP_skim (i:=3) (v:=?_) rfl (by kernel_rfl) (by kernel_rfl) (by kernel_rfl) (by kernel_rfl) (fun _ _ _ h=>h) (Or.inl ⟨by rfl,?_⟩) (fun _=>by assumption) ?_;rotate_left
   (focus (intro w0 hSw;go_simp <;> with_reducible rfl))
   simp only [lay_,Act.put];refine wpAnyP_takeA (i:=4) (v:=?_) rfl (by kernel_rfl) (by kernel_rfl) (by kernel_rfl) (by kernel_rfl) (by kernel_rfl) (by kernel_rfl) (fun _ _ _ h=>h) (Or.inl ⟨by rfl,?_⟩) (by assumption) ?_;rotate_left
   (focus (intro w0 hSw;(try dsimp only at hSw);go_simp <;> with_reducible rfl))
   simp only [lay_,Act.put];refine wpAnyP_skim (i:=5) (v:=?_) rfl (by kernel_rfl) (by kernel_rfl) (by kernel_rfl) (by kernel_rfl) (fun _ _ _ h=>h) (Or.inl ⟨by rfl,?_⟩) (fun _=>by assumption) ?_;rotate_left
   (focus (intro w0 hSw;go_simp <;> with_reducible rfl))
   simp only [lay_,Act.put];refine wpAnyP_skim (i:=6) (v:=?_) rfl (by kernel_rfl) (by kernel_rfl) (by kernel_rfl) (by kernel_rfl) (fun _ _ _ h=>h) (Or.inl ⟨by rfl,?_⟩) (fun _=>by assumption) ?_;rotate_left
   (focus (intro w0 hSw;go_simp <;> with_reducible rfl))
   simp only [lay_,Act.put];refine wpAnyP_takeA (i:=7) (v:=?_) rfl (by kernel_rfl) (by kernel_rfl) (by kernel_rfl) (by kernel_rfl) (by kernel_rfl) (by kernel_rfl) (fun _ _ _ h=>h) (Or.inl ⟨by rfl,?_⟩) (by assumption) ?_;rotate_left
   (focus (intro w0 hSw;(try dsimp only at hSw);go_simp <;> with_reducible rfl))
   simp only [lay_,Act.put];refine wpAnyP_ready (rs:=[8]) (by kernel_rfl) (by simp) ?_;refine AllReadyP.cons (o:=_) rfl (fun K hK=>?_) ?_;rotate_left;exact AllReadyP.nil;go_simp
   go_at_call 38
   refine (rtimes_c (L:=L) (kRnd R1.out) (kRnd R2.out) (by omega)).mono ?_;rintro e w6 ⟨s6,x6,n6,c6,f6,y6,m6,d6,g6,rfl,hb6,hq6⟩
   (try go_wp2_with fail)
   refine hK.out _ _ (fun _=>⟨kCb hb6 hHeld.1,kCb hb6 hHeld.2.1,kCb hb6 hHeld.2.2.1,kCb hb6 hHeld.2.2.2.1,kCb hb6 hHeld.2.2.2.2.1,kCb hb6 hHeld.2.2.2.2.2.1,kCb hb6 hHeld.2.2.2.2.2.2.1,kCb hb6 hHeld.2.2.2.2.2.2.2.1,kCb hb6 hHeld.2.2.2.2.2.2.2.2.1,kCb hb6 hHeld.2.2.2.2.2.2.2.2.2⟩) (fun hH=>?_);replace hHeld:=hH (by kernel_rfl);clear hK K hH;try simp only [lay_,Act.put]
   refine wpAnyP_ready (rs:=[9]) (by kernel_rfl) (by simp) ?_;refine AllReadyP.cons (o:=_) rfl (fun K hK=>?_) ?_;rotate_left;exact AllReadyP.nil;go_simp;have HQ2:=hid (rf_two (T:=24) (((kRnd R0.out).below hb6).mono (show L≤2*L+1 by omega)) hq6);have hbb:=below_alloc (Below.refl w6.heap.size w6) (.cells #[.bool us,.slice ux un uc,.slice uy um ud,.bool s6,.slice x6 n6 c6,.slice y6 m6 d6] 24);refine hK.out _ _ (fun h=>by cases h) (fun _=>?_);clear hK K;try simp only [lay_,Act.put]
   refine wpAnyP_ready (rs:=[10]) (by kernel_rfl) (by simp) ?_;refine AllReadyP.cons (o:=_) rfl (fun K hK=>?_) ?_;rotate_left;exact AllReadyP.nil;go_simp
   go_at_call 37
   refine (pSum_c (L:=2*L+1) (k:=2) HQ2.out rfl (by decide) (by omega)).mono ?_;rintro e w7 ⟨s7,x7,n7,c7,f7,y7,m7,d7,g7,rfl,hb7,hq7⟩
   (try go_wp2_with fail)
   refine hK.out _ _ (fun h=>by cases h) (fun _=>?_);clear hK K;try simp only [lay_,Act.put]
   refine wpAnyP_ready (rs:=[11]) (by kernel_rfl) (by simp) ?_;refine AllReadyP.cons (o:=_) rfl (fun K hK=>?_) ?_;rotate_left;exact AllReadyP.nil;go_simp;refine hK.out _ _ (fun h=>by cases h) (fun _=>?_);clear hK K;try simp only [lay_,Act.put]
   refine wpAnyP_ready (rs:=[12]) (by kernel_rfl) (by simp) ?_;refine AllReadyP.cons (o:=_) rfl (fun K hK=>?_) ?_;rotate_left;exact AllReadyP.nil;have hb57:Below w5.heap.size w5 w7:=((Below.drew (Below.refl w5.heap.size w5)).trans (hb6.mono (Nat.le_refl _))).trans ((hbb.trans (hb7.mono hbb.size)).mono (show w5.heap.size≤w6.heap.size from hb6.size));obtain ⟨T,hrow,hT⟩:=Gr.below HG3.out hb57;rw [hgl] at hrow;refine step_append_one w7 rfl (.tmp 38) (.tmp 49) 29 rfl w1.heap.size 24 56 3 (.agg #[.bool false,.slice none 0 0,.slice none 0 0]) Tryz.underlying29 Tryz.infoRat rfl (by decide) nz3 u8 i _ rfl hrow #[.bool s7,.slice x7 n7 c7,.slice y7 m7 d7] rfl rfl (one3 _ _ _ _ _ _ _) (not3 _ _ _ _ _ _ _) (by omega) (by decide) ?hz ?_
   case hz=>exact (HB3.out.trans (hb57.mono HB3.out.size)).size
   intro g8 cap8 w8 hr8 hk8 hb8 hg8;have HB8:Hid (Below w1.heap.size w1 w8):=hb8 w1 (HB3.out.trans (hb57.mono HB3.out.size)) (Nat.le_refl _);have HG8:Hid (Gr (KL L) w1.heap.size w8 (.slice (some ⟨g8,0,none⟩) (i+1) cap8) ((alng xs ds tq).take (i+1))):=by
    have hp8:=gr_push (p:=(alng xs ds tq).take i) hT (by rw [hgl];exact hr8) hk8 (show Rn (KL L) w7 s7 x7 n7 c7 f7 y7 m7 d7 g7 (psum [u,tq*r] 0) from hq7);rw [hgl] at hp8;rw [HCI.out];exact hp8
   clear hr8 hk8 hb8 hg8 hrow hT hb6 hq6 hb7 hq7 hbb hb57 HQ2 HG3 HB3 R0 R1 R2;refine hK.out _ _ (fun h=>by cases h) (fun _=>?_);clear hK K;simp only [lay_,Act.put];refine wpAnyP_skim (i:=13) (v:=?_) rfl (by kernel_rfl) (by kernel_rfl) (by kernel_rfl) (by kernel_rfl) (fun _ _ _ h=>h) (Or.inl ⟨by rfl,?_⟩) (fun h=>by cases h) ?_;rotate_left
   (focus (intro w0 hSw;go_simp <;> with_reducible rfl))
   simp only [lay_,Act.put];refine wpAnyP_done (by kernel_rfl) ?_ _;clear hHeld a0 a1 a2 r0 r1 r2 y1 p0 p1 p2;go_wp2;go_roundw
   case rel=>exact ⟨i+1,by omega,by go_num,HB8.out,HG8.out⟩
   case measure=>simp [intOf];omega
  ·have i4:¬(((i:Nat):Int)<((k:Nat):Int)):=by omega
   have e9:i=k:=by omega
   obtain ⟨va,vc,hvs,hvc⟩:=HG2.out.slice;rw [hgl] at hvs hvc;have HG4:=HG2.out;rw [hvs] at HG4;replace HG4:=hid (show Rf (KL L) wr va (alng xs ds tq) by have:=HG4.rf;rw [List.take_of_length_le (by omega)] at this;exact this);subst hvs;have HEK:=hid e9;have HVC:=hid hvc
   replace HB:=hid (HB.out.trans (HB2.out.mono HB.out.size));clear HG2 HB2 hgl hcl e9 hvc HX HD BY BT;go_wp2
   go_ret2
   exact ⟨HB.out,.inr ⟨rfl,va,vc,by rw [HEK.out];rfl,by rw [←HEK.out];exact HVC.out,HG4.out⟩⟩
theorem pckE_ok {M:Mo} {k:Nat} {X:Nat→Nm} (h1:chkE M=0) (h2:afB k X=true) (h3:k=M.ck):pckE M k X=0:=by
 unfold pckE;rw [h1,show pnE k X M.ck=0 by unfold pnE;rw [if_pos h2,if_pos (by rw [h3])]];rfl
theorem rRec_q {w:World} {L:Nat} {M:Mo} {off:Rat} {cs:List CV} {rs:List RV} {ao:Option Addr} {k cap:Nat} {ds:List Rat} (h:MoV L w M off cs rs) (ho:mvOk cs rs=true) (hx:Rf L w ao ds) (hk:ds.length=k) (hkc:k=cs.length) (hL:L≤30) :
  Calls Tryz.prog 11 #[M.val,.slice ao k cap] w fun e w'=>e=.returned (.tuple #[.bool (recB 0 0 cs rs ds),.int .i64 0])∧Below w.heap.size w w':=by
 obtain ⟨h1,h2⟩:=h.chk (by omega) ho;obtain ⟨X,h3,h4⟩:=rf_rl hx (by omega);have mp:=mvOk_p ho;rw [hk] at h3 h4;exact rRec_v (fun _ _=>h2) h3 (by have:=mp.cl;omega) h1 (pckE_ok h1 h4 (by rw [h.ck];exact hkc)) (fun _=>⟨h,ho,hx,hk,hkc⟩) hL
theorem rValid_q {w:World} {L:Nat} {M:Mo} {off:Rat} {cs:List CV} {rs:List RV} {ao:Option Addr} {k cap:Nat} {ds:List Rat} {ax:Option Addr} {kx capx:Nat} {xs:List Rat} (h:MoV L w M off cs rs) (ho:mvOk cs rs=true) (hx:Rf L w ao ds) (hk:ds.length=k) (hkc:k=cs.length) (hy:Rf L w ax xs) (hkx:xs.length=kx) (hkxc:kx=cs.length) (hL:L≤30) :
  Calls Tryz.prog 7 #[M.val,.agg #[.slice ax kx capx,.slice ao k cap]] w fun e w'=>e=.returned (.tuple #[.bool (valB 0 0 0 cs rs ds xs),.int .i64 0])∧Below w.heap.size w w':=by
 obtain ⟨h1,h2⟩:=h.chk (by omega) ho;obtain ⟨X,h3,h4⟩:=rf_rl hx (by omega);obtain ⟨Y,h5,h6⟩:=rf_rl hy (by omega);have mp:=mvOk_p ho;rw [hk] at h3 h4;rw [hkx] at h5 h6;exact rValid_v (fun _ _=>h2) h3 (by have:=mp.cl;omega) h1 (pckE_ok h1 h4 (by rw [h.ck];exact hkc)) (fun _=>⟨h,ho,hx,hk,hkc⟩) hL h5 (by have:=mp.cl;omega) (pckE_ok h1 h6 (by rw [h.ck];exact hkxc)) (fun _=>⟨h,ho,hy,hkx,hkxc⟩)
theorem rAlong_q {w:World} {L:Nat} {ax:Option Addr} {kx capx:Nat} {ao:Option Addr} {k cap:Nat} {ts:Bool} {tx:Option Addr} {tn tc:Nat} {tf:Nat→Int} {ty:Option Addr} {tm td:Nat} {tg:Nat→Int} {xs ds:List Rat} {tq:Rat} (hy:Rf L w ax xs) (hkx:xs.length=kx) (hx:Rf L w ao ds) (hk:ds.length=k) (hkk:k=kx) (ht:Rn L w ts tx tn tc tf ty tm td tg tq) (hL:L≤60) (h9:kx≤1000) :
  Calls Tryz.prog 16 #[.agg #[.slice ax kx capx,.slice ao k cap],.agg #[.bool ts,.slice tx tn tc,.slice ty tm td]] w fun e w'=>∃a c,e=.returned (.tuple #[.slice a kx c,.int .i64 0])∧Below w.heap.size w w'∧(kx≤c∧c≤9223372036854775807)∧Hid (Rf (KL L) w' a (alng xs ds tq)):=by
 obtain ⟨X,h3,h4⟩:=rf_rl hx (by omega);obtain ⟨Y,h5,h6⟩:=rf_rl hy (by omega);rw [hk] at h3 h4;rw [hkx] at h5 h6;have hn9:=Rn.nm (t:=⟨ts,tx,tn,tc,tf,ty,tm,td,tg⟩) ht;obtain ⟨h7,h8⟩:=hn9 (by omega);have he:alE ⟨ts,tx,tn,tc,tf,ty,tm,td,tg⟩ kx Y k X=0:=by
  unfold alE;rw [show pnE 1 (fun _=>(⟨ts,tx,tn,tc,tf,ty,tm,td,tg⟩:Nm)) 1=0 by unfold pnE;rw [if_pos (show afB 1 _=true by simp [afB,afr,h8])];rfl,show pnE kx Y kx=0 by unfold pnE;rw [if_pos h6,if_pos rfl],show pnE k X kx=0 by unfold pnE;rw [if_pos h4,if_pos (by rw [hkk])]];rfl
 refine (rAlong_v h5 h3 h7 (by omega) (by omega) he (fun _=>⟨hy,hkx,hx,hk,hkk,ht⟩) hL).mono ?_;rintro e w' ⟨hb,⟨h0,_⟩ | ⟨_,a,c,rfl,hc,hr⟩⟩
 ·exact absurd rfl h0
 ·exact ⟨a,c,rfl,hb,hc,hr⟩
set_option maxRecDepth 100000 in
theorem one13_c {w:World} {z:Int} (h0:-1000≤z) (h1:z≤1000):Calls Tryz.prog 15 #[.int .i64 z] w fun e w'=>∃a,e=.returned (.slice a 1 1)∧Below w.heap.size w w'∧Hid (Rf 4 w' a [(z:Rat)]):=by
 go_enter Tryz.func15,Tryz.ntmps15;go_wp2_with fail
 refine (docOfQ_c (z:=z) (by omega) (by omega)).mono ?_;rintro e w1 ⟨s,x,n,c,f,y,m,d,g,rfl,hb,hr⟩;have HR:=hid (show Rf 4 (w1.alloc (.cells #[.bool s,.slice x n c,.slice y m d] 24)) (some ⟨w1.heap.size,0,none⟩) [(z:Rat)] from (gr_one (base:=0) hr (Nat.zero_le _)).rf);have HB:=hid (below_alloc hb (.cells #[.bool s,.slice x n c,.slice y m d] 24));clear hr hb;go_wp2;go_ret;exact ⟨_,rfl,HB.out,HR.out⟩
def fiC:List CV:=[⟨⟨#[120]⟩,1,-1,0,1,0⟩]
set_option maxRecDepth 100000 in
set_option maxHeartbeats 4000000 in
theorem first13_c {w:World}:Calls Tryz.prog 14 #[] w fun e w'=>∃M:Mo,e=.returned M.val∧Below w.heap.size w w'∧Hid (MoV 8 w' M 0 fiC []):=by
 go_enter Tryz.func14,Tryz.ntmps14;go_wp2_with fail
 have HB:=hid (below_alloc (Below.refl w.heap.size w) (.cells #[.bool false,.slice none 0 0,.slice none 0 0,.slice none 0 0,.slice none 0 0] 28));have O0:Hid (Bk (w.alloc (.cells #[.bool false,.slice none 0 0,.slice none 0 0,.slice none 0 0,.slice none 0 0] 28)) w.heap.size [.bool false,.slice none 0 0,.slice none 0 0,.slice none 0 0,.slice none 0 0] 28):=bk_new w [.bool false,.slice none 0 0,.slice none 0 0,.slice none 0 0,.slice none 0 0] 28;generalize w.alloc (.cells #[.bool false,.slice none 0 0,.slice none 0 0,.slice none 0 0,.slice none 0 0] 28)=w0 at *;refine (docOfQ_c (z:=0) (by decide) (by decide)).mono ?_;rintro e w1 ⟨s1,x1,n1,c1,f1,y1,m1,d1,g1,rfl,hb,hr⟩;replace HB:=hid (HB.out.trans (hb.mono HB.out.size));replace O0:=hid (O0.out.below hb)
 have R1:=hid hr;clear hb hr;go_wp2_with fail
 refine (docOfQ_c (z:=1) (by decide) (by decide)).mono ?_;rintro e w2 ⟨s2,x2,n2,c2,f2,y2,m2,d2,g2,rfl,hb,hr⟩;replace HB:=hid (HB.out.trans (hb.mono HB.out.size));replace O0:=hid (O0.out.below hb);replace R1:=hid (R1.out.below hb)
 have R2:=hid hr;clear hb hr;go_wp2_with fail
 refine (xLow_c).mono ?_;rintro e w3 ⟨s3,x3,n3,c3,f3,y3,m3,d3,g3,rfl,hb,hF⟩;replace HB:=hid (HB.out.trans (hb.mono HB.out.size));replace O0:=hid (O0.out.below hb);replace R1:=hid (R1.out.below hb);replace R2:=hid (R2.out.below hb)
 clear hb;go_wp2_with fail
 refine (xTo_c hF.out.2.2 (by have:=hF.out;omega) (by have:=hF.out;omega)).mono ?_;rintro e w4 ⟨z4,k4,t4,p4,v4,l4,q4,r4,rfl,hb,hE⟩;replace HB:=hid (HB.out.trans (hb.mono HB.out.size));replace O0:=hid (O0.out.below hb);replace R1:=hid (R1.out.below hb);replace R2:=hid (R2.out.below hb)
 have E3:=hid (hE.out.rn.mono (show _≤8 by have:=hF.out;omega));clear hb hE hF;go_wp2_with fail
 refine (xHigh_c).mono ?_;rintro e w5 ⟨s5,x5,n5,c5,f5,y5,m5,d5,g5,rfl,hb,hF⟩;replace HB:=hid (HB.out.trans (hb.mono HB.out.size));replace O0:=hid (O0.out.below hb);replace R1:=hid (R1.out.below hb);replace R2:=hid (R2.out.below hb);replace E3:=hid (E3.out.below hb)
 clear hb;go_wp2_with fail
 refine (xTo_c hF.out.2.2 (by have:=hF.out;omega) (by have:=hF.out;omega)).mono ?_;rintro e w6 ⟨z6,k6,t6,p6,v6,l6,q6,r6,rfl,hb,hE⟩;replace HB:=hid (HB.out.trans (hb.mono HB.out.size));replace O0:=hid (O0.out.below hb);replace R1:=hid (R1.out.below hb);replace R2:=hid (R2.out.below hb);replace E3:=hid (E3.out.below hb)
 have E5:=hid (hE.out.rn.mono (show _≤8 by have:=hF.out;omega));clear hb hE hF
 skip
 have hn:=below_alloc (Below.refl w6.heap.size w6) (.cells #[.string ⟨#[120]⟩,.bool s2,.slice x2 n2 c2,.slice y2 m2 d2,.int .i64 (-1),.bool s3,.slice z4 k4 t4,.slice v4 l4 q4,.int .i64 1,.bool s5,.slice z6 k6 t6,.slice v6 l6 q6] 56);have HCs:Hid (Cs (w6.alloc (.cells #[.string ⟨#[120]⟩,.bool s2,.slice x2 n2 c2,.slice y2 m2 d2,.int .i64 (-1),.bool s3,.slice z4 k4 t4,.slice v4 l4 q4,.int .i64 1,.bool s5,.slice z6 k6 t6,.slice v6 l6 q6] 56)) w6.heap.size 0 [.string ⟨#[120]⟩,.bool s2,.slice x2 n2 c2,.slice y2 m2 d2,.int .i64 (-1),.bool s3,.slice z4 k4 t4,.slice v4 l4 q4,.int .i64 1,.bool s5,.slice z6 k6 t6,.slice v6 l6 q6]):=cs_new w6 56 [.string ⟨#[120]⟩,.bool s2,.slice x2 n2 c2,.slice y2 m2 d2,.int .i64 (-1),.bool s3,.slice z4 k4 t4,.slice v4 l4 q4,.int .i64 1,.bool s5,.slice z6 k6 t6,.slice v6 l6 q6] [.string ⟨#[120]⟩,.bool s2,.slice x2 n2 c2,.slice y2 m2 d2,.int .i64 (-1),.bool s3,.slice z4 k4 t4,.slice v4 l4 q4,.int .i64 1,.bool s5,.slice z6 k6 t6,.slice v6 l6 q6] 0 (fun j v e=>by rw [Nat.zero_add];exact e);replace HB:=hid (HB.out.trans (hn.mono HB.out.size));replace O0:=hid (O0.out.below hn);replace R1:=hid (R1.out.below hn);replace R2:=hid (R2.out.below hn);replace E3:=hid (E3.out.below hn);replace E5:=hid (E5.out.below hn)
 clear hn;have HMo:Hid (MoV 8 (w6.alloc (.cells #[.string ⟨#[120]⟩,.bool s2,.slice x2 n2 c2,.slice y2 m2 d2,.int .i64 (-1),.bool s3,.slice z4 k4 t4,.slice v4 l4 q4,.int .i64 1,.bool s5,.slice z6 k6 t6,.slice v6 l6 q6] 56)) ⟨⟨s1,x1,n1,c1,f1,y1,m1,d1,g1⟩,some ⟨w6.heap.size,0,none⟩,1,1,fun _=>⟨⟨#[120]⟩,⟨s2,x2,n2,c2,f2,y2,m2,d2,g2⟩,⟨-1,⟨s3,z4,k4,t4,p4,v4,l4,q4,r4⟩⟩,⟨1,⟨s5,z6,k6,t6,p6,v6,l6,q6,r6⟩⟩⟩,none,0,0,fun _=>⟨⟨#[]⟩,⟨0,⟨false,none,0,0,fun _=>0,none,0,0,fun _=>0⟩⟩,⟨0,⟨false,none,0,0,fun _=>0,none,0,0,fun _=>0⟩⟩,none,0,0,fun _=>0,fun _=>⟨false,none,0,0,fun _=>0,none,0,0,fun _=>0⟩⟩⟩ 0 fiC []):=by
  refine ⟨R1.out.mono (by decide),rfl,rfl,fun j v e=>?_,fun j v e=>by simp at e⟩
  match j,e with
  | 0,e=>cases e;exact ⟨⟨_,0,rfl,HCs.out⟩,rfl,R2.out.mono (by decide),rfl,E3.out,rfl,E5.out⟩
 obtain ⟨hk1,hk2⟩:=kp_st5 (w:=(w6.alloc (.cells #[.string ⟨#[120]⟩,.bool s2,.slice x2 n2 c2,.slice y2 m2 d2,.int .i64 (-1),.bool s3,.slice z4 k4 t4,.slice v4 l4 q4,.int .i64 1,.bool s5,.slice z6 k6 t6,.slice v6 l6 q6] 56))) (w':=(((((w6.alloc (.cells #[.string ⟨#[120]⟩,.bool s2,.slice x2 n2 c2,.slice y2 m2 d2,.int .i64 (-1),.bool s3,.slice z4 k4 t4,.slice v4 l4 q4,.int .i64 1,.bool s5,.slice z6 k6 t6,.slice v6 l6 q6] 56)).setCell ⟨w.heap.size,0,none⟩ (.bool s1)).setCell ⟨w.heap.size,1,none⟩ (.slice x1 n1 c1)).setCell ⟨w.heap.size,2,none⟩ (.slice y1 m1 d1)).setCell ⟨w.heap.size,3,none⟩ (.slice (some ⟨w6.heap.size,0,none⟩) 1 1)).setCell ⟨w.heap.size,4,none⟩ (.slice none 0 0)) O0.out (nou5 _ _ _ _ _ _ _ _ _ _ _ _ _) rfl;have HM2:=hid (HMo.out.kp hk1 hk2 (noc5 O0.out));have HB2:=hid (below_st5 (u0:=.bool s1) (u1:=.slice x1 n1 c1) (u2:=.slice y1 m1 d1) (u3:=.slice (some ⟨w6.heap.size,0,none⟩) 1 1) (u4:=.slice none 0 0) HB.out (Nat.le_refl w.heap.size));have l0:=O0.out.cell (j:=0) rfl;have l1:=O0.out.cell (j:=1) rfl;have l2:=O0.out.cell (j:=2) rfl;have l3:=O0.out.cell (j:=3) rfl;have l4:=O0.out.cell (j:=4) rfl;have ff:=O0.out.frozen;clear hk1 hk2 HMo HB O0 R1 R2 E3 E5 HCs;go_wp2;exact bodyPost_ret (v:=.agg #[.bool s1,.slice x1 n1 c1,.slice y1 m1 d1,.slice (some ⟨w6.heap.size,0,none⟩) 1 1,.slice none 0 0]) (by simp [results,Tryz.results14,go_sem,l0,l1,l2,l3,l4]) rfl ⟨_,rfl,HB2.out,HM2.out⟩
theorem rSameEq_c {L L' w sa xa na ca fa ya ma da ga sb xb nb cb fb yb mb db gb q} (ha:Rn L w sa xa na ca fa ya ma da ga q) (hb:Rn L' w sb xb nb cb fb yb mb db gb q) (h1:L≤1048576) (h2:L'≤1048576) :
  Calls Tryz.prog 18 #[.agg #[.bool sa,.slice xa na ca,.slice ya ma da],.agg #[.bool sb,.slice xb nb cb,.slice yb mb db]] w fun e w'=>e=.returned (.bool true)∧Below w.heap.size w w':=by
 have l1:=ha.ln;have l2:=ha.ld;have l3:=hb.ln;have l4:=hb.ld
 refine (rSame_c sa xa ya na ca ma da fa ga sb xb yb nb cb mb db fb gb w ha.num.rd ha.den.rd hb.num.rd hb.den.rd (by omega) (by omega) (by omega) (by omega)).mono ?_;rintro e w' ⟨c,rfl,h3,h4⟩;refine ⟨?_,h3⟩;rw [h4.2 ((ha.inj hb).2 rfl)]
end Go.Proofs.YteiglggmaiohpaaGreat
