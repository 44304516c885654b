/-
 The walks of package point's Activities, Feasible, Value, whatever they are handed (written by makers/n6.py). The walks of package ray's times, free, endless, slope, by values (written by makers/ra1.py). The walks of the reference's Keeps of a number between bounds, of goes along a direction (written by makers/re1.py). The walks of package ray's slope, by values, of Recedes, Valid, whatever they are handed (written by makers/ra2.py). The walk of package ray's Along, whatever it is handed (written by makers/ra3.py). The walk of law07's awake (written by makers/f23.py). Ray's calls on values; the walks of law13's one, first, light, of the reference's Twin of a ray, of awake (written by makers/ra4.py). The reference's Same and Sames of lists with the same values. The walk of law13's awake (written by makers/ra5.py). The walk of the law ModelNames (written by makers/f28.py). The walk of law17's awake, and of StackNew (written by makers/o5.py). The walks of the reference's Same of points, of certificates and of bases that are alike; of the calls of a nil stack; of StackNone (written by makers/o6.py). Lists of numbers that are copies; the walk of law17's lists, and what it answers. Twins have the same values; what adds up along directions. The walks of law13's light, of the reference's Twin of a ray (written by makers/ra7.py). Ray's calls on twins of a model and of lists, by what the model and the lists are; the sum of two directions. Along a direction that recedes points stay points, and values move by the slope. Walks of the reference's At of terms, and of DocAt, whatever it is handed. Columns of sums and of lists of numbers, lengths; Dot whatever it is handed. The walk of the reference's Dot. The walks of the reference's Feasible and Recedes of models of its own (written by makers/re2.py).
-/
import Derived.Test.YtbnaikljfhhljaaGreatZ14
import Derived.Test.YtbnaikljfhhljaaGreatZ13
import Derived.BigQuiet
import Derived.Test.YtbnaikljfhhljaaGreatZ0
import Derived.Test.YtbnaikljfhhljaaGreatZ10
import Derived.Test.YtbnaikljfhhljaaGreatZ9
import Derived.Test.YtbnaikljfhhljaaGreatZ8
import Derived.Test.YtbnaikljfhhljaaGreatZ6
import Derived.Deep.RegionHeld3
import Derived.BigRegion
import Derived.Test.YtbnaikljfhhljaaGreatZ12
import Derived.Test.YtbnaikljfhhljaaGreatZ7
import Derived.Test.YtbnaikljfhhljaaGreatZ11
namespace Go.Proofs.YtbnaikljfhhljaaGreat
open Go.RowKit
def AcAns (L:Nat) (w w':World) (e:Ending) (er:Int) (rs:List RV) (xs:List Rat):Prop:=Below w.heap.size w w' ∧
 ((er≠0∧e=.returned (.tuple #[.slice none 0 0,.int .i64 er]))∨(er=0∧∃a c,e=.returned (.tuple #[.slice a rs.length c,.int .i64 0])∧(rs.length≤c∧c≤9223372036854775807)∧Rf (KA L) w' a (rs.map (actQ xs))))
def feasB (cs:List CV) (rs:List RV) (xs:List Rat):Bool:=decide ((crl (bcB cs xs) cs.length).length=0) && decide ((crl (brB rs xs) rs.length).length=0)
def costs (cs:List CV) (xs:List Rat):List Rat:=List.zipWith (fun v x=>v.cost*x) cs xs
def valQ (off:Rat) (cs:List CV) (xs:List Rat):Rat:=psum (off :: costs cs xs) 0
def KV (L:Nat):Nat:=4+65*(2*L+1+1)
def VaAns (L:Nat) (w w':World) (e:Ending) (er:Int) (off:Rat) (cs:List CV) (xs:List Rat):Prop:=Below w.heap.size w w' ∧
 ((er≠0∧e=.returned (.tuple #[.agg #[.bool false,.slice none 0 0,.slice none 0 0],.int .i64 er]))∨(er=0∧∃s x n c f y m d g,e=.returned (.tuple #[.agg #[.bool s,.slice x n c,.slice y m d],.int .i64 0])∧Rn (KV L) w' s x n c f y m d g (valQ off cs xs)))
theorem gr_one {K base:Nat} {w:World} {s:Bool} {x:Option Addr} {n c:Nat} {f:Nat→Int} {y:Option Addr} {m d:Nat} {g:Nat→Int} {q:Rat} (h:Rn K w s x n c f y m d g q) (hb:base≤w.heap.size):Gr K base (w.alloc (.cells #[.bool s,.slice x n c,.slice y m d] 24)) (.slice (some ⟨w.heap.size,0,none⟩) 1 1) [q]:=by
 refine ⟨fun _=>⟨s,x,n,c,f,y,m,d,g⟩,⟨rfl,.inr ⟨w.heap.size,1,#[.bool s,.slice x n c,.slice y m d],rfl,hb,heap_alloc_new w _,Nat.le_refl _,by decide,rfl,rfl,nou_list (not3 _ _ _ _ _ _ _)⟩⟩,fun j q' e=>?_⟩;cases j with
 | zero=>cases e;exact h.alloc _
 | succ j=>simp at e
set_option maxRecDepth 100000 in
set_option maxHeartbeats 4000000 in
theorem pActs_v {w:World} {L:Nat} {M:Mo} {off:Rat} {cs:List CV} {rs:List RV} {ao:Option Addr} {k cap:Nat} {X:Nat→Nm} {xs:List Rat} {er:Int} (hW:MoW w M) (hx:Rl w ao k X) (hk:k≤1048576) (he:pckE M k X=er) (hv:er=0→MoV L w M off cs rs∧mvOk cs rs=true∧Rf L w ao xs∧xs.length=k∧k=cs.length) (hL:L≤30) :
  Calls Tryz.prog 8 #[M.val,.slice ao k cap] w fun e w'=>AcAns L w w' e er rs xs:=by
 have CC:=hid (fun W (hW2:Below w.heap.size w W)=>pcheck_c (cap:=cap) (hW.below hW2) (hx.below hW2) hk);rw [he] at CC;clear hW hx he;have HV:=hid hv;clear hv;have CA:Hid (er=0→∀W,Below w.heap.size w W→Calls Tryz.prog 30 #[M.val,.slice ao k cap] W fun e w'=>∃a c,e=.returned (.slice a rs.length c)∧Below W.heap.size W w'∧(rs.length≤c∧c≤9223372036854775807)∧Hid (Rf (KA L) w' a (rs.map (actQ xs)))):=fun h0 W hW2=>by
  obtain ⟨v1,v2,v3,v4,v5⟩:=HV.out h0;have mp:=mvOk_p v2;exact acts_c (v1.below hW2) (v3.below hW2) v4 (fun r hr t ht=>by have:=mp.tc r hr t ht;rw [v5];exact this) mp.rl mp.tl (by omega)
 obtain ⟨⟨s,x,n,c,f,y,m,d,g⟩,ca,ck,cc,C,ra,rk,rc,R⟩:=M;replace CC:Hid (∀W,Below w.heap.size w W→Calls Tryz.prog 29 #[.agg #[.bool s,.slice x n c,.slice y m d,.slice ca ck cc,.slice ra rk rc],.slice ao k cap] W fun e w'=>e=.returned (.int .i64 er)∧Below W.heap.size W w'):=CC;replace CA:Hid (er=0→∀W,Below w.heap.size w W→Calls Tryz.prog 30 #[.agg #[.bool s,.slice x n c,.slice y m d,.slice ca ck cc,.slice ra rk rc],.slice ao k cap] W fun e w'=>∃a c,e=.returned (.slice a rs.length c)∧Below W.heap.size W w'∧(rs.length≤c∧c≤9223372036854775807)∧Hid (Rf (KA L) w' a (rs.map (actQ xs)))):=CA;clear HV;show Calls Tryz.prog 8 #[.agg #[.bool s,.slice x n c,.slice y m d,.slice ca ck cc,.slice ra rk rc],.slice ao k cap] w _;have hb:=below_alloc (Below.refl w.heap.size w) (.cells #[.bool s,.slice x n c,.slice y m d,.slice ca ck cc,.slice ra rk rc] 28);have BM:Hid (Bk (w.alloc (.cells #[.bool s,.slice x n c,.slice y m d,.slice ca ck cc,.slice ra rk rc] 28)) w.heap.size [.bool s,.slice x n c,.slice y m d,.slice ca ck cc,.slice ra rk rc] 28):=bk_new w [.bool s,.slice x n c,.slice y m d,.slice ca ck cc,.slice ra rk rc] 28;have HB:=hid hb;clear hb;go_enter Tryz.func8,Tryz.ntmps8;go_wp2_with fail
 generalize w.alloc (.cells #[.bool s,.slice x n c,.slice y m d,.slice ca ck cc,.slice ra rk rc] 28)=w0 at *;refine (CC.out _ HB.out).mono ?_;rintro e w1 ⟨rfl,hb⟩;replace HB:=hid (HB.out.trans (hb.mono HB.out.size));replace BM:=hid (BM.out.below hb)
 clear hb CC;by_cases h0:er=0
 case neg =>
  have h1:(er != 0)=true:=by simpa using h0
  have H0:=hid h0;go_wp2
  go_ret2
  exact ⟨HB.out,.inl ⟨H0.out,rfl⟩⟩
 have CA2:=hid (CA.out h0);subst h0;clear CA;have r0:=BM.out.cell (j:=0) rfl;have r1:=BM.out.cell (j:=1) rfl;have r2:=BM.out.cell (j:=2) rfl;have r3:=BM.out.cell (j:=3) rfl;have r4:=BM.out.cell (j:=4) rfl;go_wp2_with fail
 refine (CA2.out _ HB.out).mono ?_;rintro e w2 ⟨aa,ac,rfl,hb,hac,HR⟩;replace HB:=hid (HB.out.trans (hb.mono HB.out.size));have HAC:=hid hac;clear hb hac r0 r1 r2 r3 r4 BM CA2;go_wp2
 go_ret2
 exact ⟨HB.out,.inr ⟨rfl,aa,ac,rfl,HAC.out,HR.out⟩⟩
set_option maxRecDepth 100000 in
set_option maxHeartbeats 4000000 in
theorem pFeas_v {w:World} {L:Nat} {M:Mo} {off:Rat} {cs:List CV} {rs:List RV} {ao:Option Addr} {k cap:Nat} {X:Nat→Nm} {xs:List Rat} {er:Int} (hW:MoW w M) (hx:Rl w ao k X) (hk:k≤1048576) (he:pckE M k X=er) (hv:er=0→MoV L w M off cs rs∧mvOk cs rs=true∧Rf L w ao xs∧xs.length=k∧k=cs.length) (hL:L≤30) :
  Calls Tryz.prog 16 #[M.val,.slice ao k cap] w fun e w'=>e=.returned (.tuple #[.bool (decide (er=0) && feasB cs rs xs),.int .i64 er])∧Below w.heap.size w w':=by
 have CB:Hid (∀W,Below w.heap.size w W→Calls Tryz.prog 18 #[M.val,.slice ao k cap] W fun e w'=>BrAns W w' e er cs rs xs):=fun W hW2=>pBroken_v (hW.below hW2) (hx.below hW2) hk he (fun h0=>⟨(hv h0).1.below hW2,(hv h0).2.1,(hv h0).2.2.1.below hW2,(hv h0).2.2.2⟩) hL
 clear hW hx hv he;obtain ⟨⟨s,x,n,c,f,y,m,d,g⟩,ca,ck,cc,C,ra,rk,rc,R⟩:=M;replace CB:Hid (∀W,Below w.heap.size w W→Calls Tryz.prog 18 #[.agg #[.bool s,.slice x n c,.slice y m d,.slice ca ck cc,.slice ra rk rc],.slice ao k cap] W fun e w'=>BrAns W w' e er cs rs xs):=CB;obtain ⟨l1,hl1⟩:∃z,(crl (bcB cs xs) cs.length).length=z:=⟨_,rfl⟩;obtain ⟨l2,hl2⟩:∃z,(crl (brB rs xs) rs.length).length=z:=⟨_,rfl⟩;have HF:Hid (feasB cs rs xs=(decide (l1=0) && decide (l2=0))):=by show _=_;rw [feasB,hl1,hl2]
 unfold BrAns at CB;rw [hl1,hl2] at CB;clear hl1 hl2;show Calls Tryz.prog 16 #[.agg #[.bool s,.slice x n c,.slice y m d,.slice ca ck cc,.slice ra rk rc],.slice ao k cap] w _;have HB:=hid (below_alloc (Below.refl w.heap.size w) (.cells #[.bool s,.slice x n c,.slice y m d,.slice ca ck cc,.slice ra rk rc] 28));go_enter Tryz.func16,Tryz.ntmps16;go_wp2_with fail
 refine (CB.out _ HB.out).mono ?_;rintro e w1 ⟨hb,hans⟩;replace HB:=hid (HB.out.trans (hb.mono HB.out.size));clear hb CB;rcases hans with ⟨h0,rfl⟩ | ⟨h0,xa,xc,ya,yc,rfl,_,_⟩
 ·have h1:(er==0)=false:=by simpa using h0
  have HE:Hid (decide (er=0)=false):=decide_eq_false h0;clear h0;go_wp2
  go_ret2
  exact ⟨by rw [HE.out];rfl,HB.out⟩
 ·subst h0;by_cases c1:l1=0
  ·subst c1;by_cases c2:l2=0
   ·subst c2;go_wp2
    go_ret2
    exact ⟨by rw [HF.out];rfl,HB.out⟩
   ·have c3:(((l2:Nat):Int)==0)=false:=by simp;omega
    have HE:Hid (decide (l2=0)=false):=decide_eq_false c2;go_wp2
    go_ret2
    exact ⟨by rw [HF.out,HE.out];rfl,HB.out⟩
  ·have c3:(((l1:Nat):Int)==0)=false:=by simp;omega
   have HE:Hid (decide (l1=0)=false):=decide_eq_false c1;go_wp2
   go_ret2
   exact ⟨by rw [HF.out,HE.out];rfl,HB.out⟩
set_option maxRecDepth 100000 in
set_option maxHeartbeats 8000000 in
theorem pValue_v {w:World} {L:Nat} {M:Mo} {off:Rat} {cs:List CV} {rs:List RV} {ao:Option Addr} {k cap:Nat} {X:Nat→Nm} {xs:List Rat} {er:Int} (hW:MoW w M) (hx:Rl w ao k X) (hk:k≤1048576) (he:pckE M k X=er) (hv:er=0→MoV L w M off cs rs∧mvOk cs rs=true∧Rf L w ao xs∧xs.length=k∧k=cs.length) (hL:L≤30) :
  Calls Tryz.prog 13 #[M.val,.slice ao k cap] w fun e w'=>VaAns L w w' e er off cs xs:=by
 have CC:=hid (fun W (hW2:Below w.heap.size w W)=>pcheck_c (cap:=cap) (hW.below hW2) (hx.below hW2) hk);rw [he] at CC;clear hW hx he;have HV:=hid hv;clear hv;obtain ⟨⟨s,x,n,c,f,y,m,d,g⟩,ca,ck,cc,C,ra,rk,rc,R⟩:=M;replace CC:Hid (∀W,Below w.heap.size w W→Calls Tryz.prog 29 #[.agg #[.bool s,.slice x n c,.slice y m d,.slice ca ck cc,.slice ra rk rc],.slice ao k cap] W fun e w'=>e=.returned (.int .i64 er)∧Below W.heap.size W w'):=CC;show Calls Tryz.prog 13 #[.agg #[.bool s,.slice x n c,.slice y m d,.slice ca ck cc,.slice ra rk rc],.slice ao k cap] w _;have hb:=below_alloc (below_alloc (Below.refl w.heap.size w) (.cells #[.bool s,.slice x n c,.slice y m d,.slice ca ck cc,.slice ra rk rc] 28)) (.cells #[.bool false,.slice none 0 0,.slice none 0 0] 24);have BM:Hid (Bk ((w.alloc (.cells #[.bool s,.slice x n c,.slice y m d,.slice ca ck cc,.slice ra rk rc] 28)).alloc (.cells #[.bool false,.slice none 0 0,.slice none 0 0] 24)) w.heap.size [.bool s,.slice x n c,.slice y m d,.slice ca ck cc,.slice ra rk rc] 28):=(bk_new w [.bool s,.slice x n c,.slice y m d,.slice ca ck cc,.slice ra rk rc] 28).below (below_alloc (Below.refl _ _) _);have hob:=ob_new (w.alloc (.cells #[.bool s,.slice x n c,.slice y m d,.slice ca ck cc,.slice ra rk rc] 28)) 24;rw [size_alloc1] at hob;have OB:=hid hob;have HB:=hid hb
 clear hb hob;go_enter Tryz.func13,Tryz.ntmps13;have r0:=BM.out.cell (j:=0) rfl;have r1:=BM.out.cell (j:=1) rfl;have r2:=BM.out.cell (j:=2) rfl;have r3:=BM.out.cell (j:=3) rfl;have r4:=BM.out.cell (j:=4) rfl;go_wp2_with fail
 clear r0 r1 r2 r3 r4;generalize ((w.alloc (.cells #[.bool s,.slice x n c,.slice y m d,.slice ca ck cc,.slice ra rk rc] 28)).alloc (.cells #[.bool false,.slice none 0 0,.slice none 0 0] 24))=w0 at *;refine (CC.out _ HB.out).mono ?_;rintro e w1 ⟨rfl,hb⟩;replace HB:=hid (HB.out.trans (hb.mono HB.out.size));replace BM:=hid (BM.out.below hb);replace OB:=hid (OB.out.below hb)
 clear hb CC;by_cases h0:er=0
 case neg =>
  have h1:(er != 0)=true:=by simpa using h0
  have H0:=hid h0;obtain ⟨hz,z0,z1,z2,zf⟩:=OB.out;go_wp2;exact bodyPost_ret (v:=.tuple #[.agg #[.bool false,.slice none 0 0,.slice none 0 0],.int .i64 er]) (by simp [results,Tryz.results13,go_sem,z0,z1,z2]) rfl ⟨below_st HB.out (by omega),.inl ⟨H0.out,rfl⟩⟩
 obtain ⟨v1,v2,v3,v4,v5⟩:=HV.out h0;have mp:=mvOk_p v2;subst h0;have l64:=mp.cl;have HC:Hid (∀j v,cs[j]?=some v→(∃b o,ca=some ⟨b,o,none⟩∧Cs w b (o+j*12) (C j).vs)∧ColV L w (C j) v):=v1.cls;have HO:Hid (Rn L w s x n c f y m d g off):=v1.off;have hck:ck=cs.length:=v1.ck;subst hck;subst v5;have HX:=hid v3;have HXL:=hid v4
 clear v1 v2 v3 v4 mp HV;have HG:=hid (gr_one (K:=2*L+1) (base:=w1.heap.size) ((HO.out.below HB.out).mono (by omega)) (Nat.le_refl _));have hbo:=below_alloc (Below.refl w1.heap.size w1) (.cells #[.bool s,.slice x n c,.slice y m d] 24);have r0:=BM.out.cell (j:=0) rfl;have r1:=BM.out.cell (j:=1) rfl;have r2:=BM.out.cell (j:=2) rfl;have r3:=BM.out.cell (j:=3) rfl;have r4:=BM.out.cell (j:=4) rfl;have r3':=kCb hbo r3;go_wp2_with fail
 clear r0 r1 r2 r3 r3' r4 HO;go_loopw [7,23] (fun ov t wr=>∃(i:Nat),i≤cs.length∧t=.int .i64 i∧Hid (Below w1.heap.size w1 wr)∧Hid (Gr (2*L+1) w1.heap.size wr ov (off :: (costs cs xs).take i))) (fun _ t _=>cs.length-(intOf t).toNat)
 case atStart=>exact ⟨0,by omega,rfl,hbo,HG⟩
 case round =>
  clear HG hbo;obtain ⟨i,hi,rfl,HB2,HG2⟩:=hrel;have hcl:(costs cs xs).length=cs.length:=by unfold costs;rw [List.length_zipWith,HXL.out,Nat.min_self]
  have hgl:(off :: (costs cs xs).take i).length=i+1:=by rw [List.length_cons,List.length_take];omega
  by_cases hlt:i<cs.length
  ·obtain ⟨v,hv⟩:∃t,cs[i]?=some t:=⟨_,List.getElem?_eq_getElem (by omega)⟩;obtain ⟨⟨b,o,hba,hc⟩,hV⟩:=HC.out i v hv;subst hba;have hbz:=HB.out.trans (HB2.out.mono HB.out.size);have hcost:=hV.cost.below hbz;obtain ⟨⟨z,⟨s0,x0,n0,c0,f0,y0,m0,d0,g0⟩,⟨i1,⟨s1,x1,n1,c1,f1,y1,m1,d1,g1⟩⟩,⟨i2,⟨s2,x2,n2,c2,f2,y2,m2,d2,g2⟩⟩⟩,hCi⟩:∃t,C i=t:=⟨_,rfl⟩;rw [hCi] at hc hcost;replace hcost:Rn L wr s0 x0 n0 c0 f0 y0 m0 d0 g0 v.cost:=hcost;replace hc:=Cs.below hc hbz;have q0:wr.cell? ⟨b,o+i*12,none⟩=some (.string z):=hc 0 _ rfl;have q1:wr.cell? ⟨b,o+i*12+1,none⟩=some (.bool s0):=hc 1 _ rfl;have q2:wr.cell? ⟨b,o+i*12+2,none⟩=some (.slice x0 n0 c0):=hc 2 _ rfl;have q3:wr.cell? ⟨b,o+i*12+3,none⟩=some (.slice y0 m0 d0):=hc 3 _ rfl;have q4:wr.cell? ⟨b,o+i*12+4,none⟩=some (.int .i64 i1):=hc 4 _ rfl;have q5:wr.cell? ⟨b,o+i*12+5,none⟩=some (.bool s1):=hc 5 _ rfl;have q6:wr.cell? ⟨b,o+i*12+6,none⟩=some (.slice x1 n1 c1):=hc 6 _ rfl;have q7:wr.cell? ⟨b,o+i*12+7,none⟩=some (.slice y1 m1 d1):=hc 7 _ rfl;have q8:wr.cell? ⟨b,o+i*12+8,none⟩=some (.int .i64 i2):=hc 8 _ rfl;have q9:wr.cell? ⟨b,o+i*12+9,none⟩=some (.bool s2):=hc 9 _ rfl;have q10:wr.cell? ⟨b,o+i*12+10,none⟩=some (.slice x2 n2 c2):=hc 10 _ rfl;have q11:wr.cell? ⟨b,o+i*12+11,none⟩=some (.slice y2 m2 d2):=hc 11 _ rfl;obtain ⟨r,hr⟩:∃t,xs[i]?=some t:=⟨_,List.getElem?_eq_getElem (by have:=HXL.out;omega)⟩;obtain ⟨b',o',⟨ss,sx,sn,sc,sf,sy,sm,sd,sg⟩,hax,⟨p0,p1,p2⟩,hr'⟩:=(HX.out.below hbz) i r hr;subst hax;replace p0:wr.cell? ⟨b',o'+i*3,none⟩=some (.bool ss):=p0;replace p1:wr.cell? ⟨b',o'+i*3+1,none⟩=some (.slice sx sn sc):=p1;replace p2:wr.cell? ⟨b',o'+i*3+2,none⟩=some (.slice sy sm sd):=p2;replace hr':Rn L wr ss sx sn sc sf sy sm sd sg r:=hr';have HCI:Hid ((costs cs xs).take (i+1)=(costs cs xs).take i++[v.cost*r]):=by
    show _=_;rw [List.take_add_one]
    congr 1
    unfold costs;rw [List.getElem?_zipWith,hv,hr];rfl
   have hbt:=below_alloc (Below.refl wr.heap.size wr) (.cells #[.string z,.bool s0,.slice x0 n0 c0,.slice y0 m0 d0,.int .i64 i1,.bool s1,.slice x1 n1 c1,.slice y1 m1 d1,.int .i64 i2,.bool s2,.slice x2 n2 c2,.slice y2 m2 d2] 83);have a1:(wr.alloc (.cells #[.string z,.bool s0,.slice x0 n0 c0,.slice y0 m0 d0,.int .i64 i1,.bool s1,.slice x1 n1 c1,.slice y1 m1 d1,.int .i64 i2,.bool s2,.slice x2 n2 c2,.slice y2 m2 d2] 83)).cell? ⟨wr.heap.size,1,none⟩=some (.bool s0):=by simp [go_sem]
   have a2:(wr.alloc (.cells #[.string z,.bool s0,.slice x0 n0 c0,.slice y0 m0 d0,.int .i64 i1,.bool s1,.slice x1 n1 c1,.slice y1 m1 d1,.int .i64 i2,.bool s2,.slice x2 n2 c2,.slice y2 m2 d2] 83)).cell? ⟨wr.heap.size,2,none⟩=some (.slice x0 n0 c0):=by simp [go_sem]
   have a3:(wr.alloc (.cells #[.string z,.bool s0,.slice x0 n0 c0,.slice y0 m0 d0,.int .i64 i1,.bool s1,.slice x1 n1 c1,.slice y1 m1 d1,.int .i64 i2,.bool s2,.slice x2 n2 c2,.slice y2 m2 d2] 83)).cell? ⟨wr.heap.size,3,none⟩=some (.slice y0 m0 d0):=by simp [go_sem]
   have i1':((i:Nat):Int)<((cs.length:Nat):Int):=by omega
   clear hCi hc hV hv hr;go_upto_region 8 with fail
   clear q0 q1 q2 q3 q4 q5 q6 q7 q8 q9 q10 q11;replace p0:=kCb hbt p0;replace p1:=kCb hbt p1;replace p2:=kCb hbt p2
   have HB3:=hid (HB2.out.trans (hbt.mono HB2.out.size));have HG3:=hid (HG2.out.below hbt);have R1:=hid (hcost.below hbt);have R2:=hid (hr'.below hbt)
   clear hbz hbt HB2 HG2 hcost hr';generalize hbx:wr.heap.size=bx at *;generalize wr.alloc (.cells #[.string z,.bool s0,.slice x0 n0 c0,.slice y0 m0 d0,.int .i64 i1,.bool s1,.slice x1 n1 c1,.slice y1 m1 d1,.int .i64 i2,.bool s2,.slice x2 n2 c2,.slice y2 m2 d2] 83)=w5 at *;clear hbx;refine wp_region_phase (S:=(fun w'=>w'.cell? ⟨bx,1,none⟩=some (.bool s0)∧w'.cell? ⟨bx,2,none⟩=some (.slice x0 n0 c0)∧w'.cell? ⟨bx,3,none⟩=some (.slice y0 m0 d0)∧w'.cell? ⟨b',o'+i*3,none⟩=some (.bool ss)∧w'.cell? ⟨b',o'+i*3+1,none⟩=some (.slice sx sn sc)∧w'.cell? ⟨b',o'+i*3+2,none⟩=some (.slice sy sm sd))) 7 (by kernel_rfl) ⟨kCd a1,kCd a2,kCd a3,kCd p0,kCd p1,kCd p2⟩ (fun hHeld=>?_);refine wpAnyP_skim (i:=0) (v:=?_) rfl (by kernel_rfl) (by kernel_rfl) (by kernel_rfl) (by kernel_rfl) (fun _ _ _ h=>h) (Or.inl ⟨by rfl,?_⟩) (fun _=>by assumption) ?_;rotate_left
   (focus (intro w0 hSw;go_simp <;> with_reducible rfl))
   simp only [List.getElem_toArray,List.getElem_cons_zero,Act.put,List.setIfInBounds_toArray,List.set_cons_zero,List.set_cons_succ];refine wpAnyP_skim (i:=1) (v:=?_) rfl (by kernel_rfl) (by kernel_rfl) (by kernel_rfl) (by kernel_rfl) (fun _ _ _ h=>h) (Or.inl ⟨by rfl,?_⟩) (fun _=>by assumption) ?_;rotate_left
   (focus (intro w0 hSw;go_simp <;> with_reducible rfl))
   simp only [List.getElem_toArray,List.getElem_cons_succ,List.getElem_cons_zero,Act.put,List.setIfInBounds_toArray,List.set_cons_zero,List.set_cons_succ];refine wpAnyP_takeA (i:=2) (v:=?_) rfl (by kernel_rfl) (by kernel_rfl) (by kernel_rfl) (by kernel_rfl) (by kernel_rfl) (by kernel_rfl) (fun _ _ _ h=>h) (Or.inl ⟨by rfl,?_⟩) (by assumption) ?_;rotate_left
   (focus (intro w0 hSw;(try dsimp only at hSw);go_simp <;> with_reducible rfl))
   simp only [List.getElem_toArray,List.getElem_cons_succ,List.getElem_cons_zero,Act.put,List.setIfInBounds_toArray,List.set_cons_zero,List.set_cons_succ];refine wpAnyP_skim (i:=3) (v:=?_) rfl (by kernel_rfl) (by kernel_rfl) (by kernel_rfl) (by kernel_rfl) (fun _ _ _ h=>h) (Or.inl ⟨by rfl,?_⟩) (fun _=>by assumption) ?_;rotate_left
   (focus (intro w0 hSw;go_simp <;> with_reducible rfl))
   simp only [List.getElem_toArray,List.getElem_cons_succ,List.getElem_cons_zero,Act.put,List.setIfInBounds_toArray,List.set_cons_zero,List.set_cons_succ];refine wpAnyP_skim (i:=4) (v:=?_) rfl (by kernel_rfl) (by kernel_rfl) (by kernel_rfl) (by kernel_rfl) (fun _ _ _ h=>h) (Or.inl ⟨by rfl,?_⟩) (fun _=>by assumption) ?_;rotate_left
   (focus (intro w0 hSw;go_simp <;> with_reducible rfl))
   simp only [List.getElem_toArray,List.getElem_cons_succ,List.getElem_cons_zero,Act.put,List.setIfInBounds_toArray,List.set_cons_zero,List.set_cons_succ];refine wpAnyP_skim (i:=5) (v:=?_) rfl (by kernel_rfl) (by kernel_rfl) (by kernel_rfl) (by kernel_rfl) (fun _ _ _ h=>h) (Or.inl ⟨by rfl,?_⟩) (fun _=>by assumption) ?_;rotate_left
   (focus (intro w0 hSw;go_simp <;> with_reducible rfl))
   simp only [List.getElem_toArray,List.getElem_cons_succ,List.getElem_cons_zero,Act.put,List.setIfInBounds_toArray,List.set_cons_zero,List.set_cons_succ];refine wpAnyP_takeA (i:=6) (v:=?_) rfl (by kernel_rfl) (by kernel_rfl) (by kernel_rfl) (by kernel_rfl) (by kernel_rfl) (by kernel_rfl) (fun _ _ _ h=>h) (Or.inl ⟨by rfl,?_⟩) (by assumption) ?_;rotate_left
   (focus (intro w0 hSw;(try dsimp only at hSw);go_simp <;> with_reducible rfl))
   simp only [List.getElem_toArray,List.getElem_cons_succ,List.getElem_cons_zero,Act.put,List.setIfInBounds_toArray,List.set_cons_zero,List.set_cons_succ];refine wpAnyP_ready (rs:=[7]) (by kernel_rfl) (by simp) ?_;refine AllReadyP.cons (o:=_) rfl (fun K hK=>?_) ?_;rotate_left;exact AllReadyP.nil;go_simp
   go_at_call 38
   refine (ptimes_c (L:=L) (kRnd R1.out) (kRnd R2.out) (by omega)).mono ?_;rintro e w6 ⟨s6,x6,n6,c6,f6,y6,m6,d6,g6,rfl,hb6,hq6⟩
   (try go_wp2_with fail)
   refine hK.out _ _ (fun h=>by cases h) (fun _=>?_);clear hK K;try simp only [Act.put,List.setIfInBounds_toArray,List.set_cons_zero,List.set_cons_succ]
   refine wpAnyP_ready (rs:=[8]) (by kernel_rfl) (by simp) ?_;refine AllReadyP.cons (o:=_) rfl (fun K hK=>?_) ?_;rotate_left;exact AllReadyP.nil;go_simp;refine hK.out _ _ (fun h=>by cases h) (fun _=>?_);clear hK K;try simp only [Act.put,List.setIfInBounds_toArray,List.set_cons_zero,List.set_cons_succ]
   refine wpAnyP_ready (rs:=[9]) (by kernel_rfl) (by simp) ?_;refine AllReadyP.cons (o:=_) rfl (fun K hK=>?_) ?_;rotate_left;exact AllReadyP.nil;obtain ⟨T,hrow,hT⟩:=(Gr.below HG3.out (Below.drew (Below.refl w5.heap.size w5))).below hb6;rw [hgl] at hrow;refine step_append_one w6 rfl (.tmp 28) (.tmp 36) 29 rfl w1.heap.size 24 56 3 (.agg #[.bool false,.slice none 0 0,.slice none 0 0]) Tryz.underlying29 Tryz.infoRat rfl (by decide) nz3 u7 (i+1) _ rfl hrow #[.bool s6,.slice x6 n6 c6,.slice y6 m6 d6] rfl rfl (one3 _ _ _ _ _ _ _) (not3 _ _ _ _ _ _ _) (by omega) (by decide) ?hz ?_
   case hz=>exact (HB3.out.drew.trans (hb6.mono HB3.out.drew.size)).size
   intro g8 cap8 w8 hr8 hk8 hb8 hg8;have HB8:Hid (Below w1.heap.size w1 w8):=hb8 w1 (HB3.out.drew.trans (hb6.mono HB3.out.drew.size)) (Nat.le_refl _);have HG8:Hid (Gr (2*L+1) w1.heap.size w8 (.slice (some ⟨g8,0,none⟩) (i+1+1) cap8) (off :: (costs cs xs).take (i+1))):=by
    have hp8:=gr_push (p:=off :: (costs cs xs).take i) hT (by rw [hgl];exact hr8) hk8 hq6;rw [hgl] at hp8;rw [HCI.out];exact hp8
   clear hr8 hk8 hb8 hg8 hrow hT hb6 hq6 HG3 HB3 R1 R2;refine hK.out _ _ (fun h=>by cases h) (fun _=>?_);clear hK K;simp only [List.getElem_toArray,List.getElem_cons_succ,List.getElem_cons_zero,Act.put,List.setIfInBounds_toArray,List.set_cons_zero,List.set_cons_succ];refine wpAnyP_skim (i:=10) (v:=?_) rfl (by kernel_rfl) (by kernel_rfl) (by kernel_rfl) (by kernel_rfl) (fun _ _ _ h=>h) (Or.inl ⟨by rfl,?_⟩) (fun h=>by cases h) ?_;rotate_left
   (focus (intro w0 hSw;go_simp <;> with_reducible rfl))
   simp only [List.getElem_toArray,List.getElem_cons_succ,List.getElem_cons_zero,Act.put,List.setIfInBounds_toArray,List.set_cons_zero,List.set_cons_succ];refine wpAnyP_done (by kernel_rfl) ?_ _;clear hHeld a1 a2 a3 p0 p1 p2;go_wp2;go_roundw
   case rel=>exact ⟨i+1,by omega,by go_num,HB8.out,HG8.out⟩
   case measure=>simp [intOf];omega
  ·have i4:¬(((i:Nat):Int)<((cs.length:Nat):Int)):=by omega
   have e9:i=cs.length:=by omega
   obtain ⟨va,vc,hvs,hvc⟩:=HG2.out.slice;rw [hgl] at hvs;have HG4:=HG2.out;rw [hvs] at HG4;replace HG4:=hid (show Rf (2*L+1) wr va (off :: costs cs xs) by have:=HG4.rf;rw [List.take_of_length_le (by omega)] at this;exact this);subst hvs;have HLen:=hid (show (off :: costs cs xs).length=i+1 by rw [List.length_cons];omega);have hi65:i+1≤65:=by omega
   replace HB:=hid (HB.out.trans (HB2.out.mono HB.out.size));replace OB:=hid (OB.out.below HB2.out)
   clear HG2 HB2 hgl hcl e9 HC HX BM;go_wp2_with fail
   refine (pSum_c (L:=2*L+1) HG4.out HLen.out (by omega) (by omega)).mono ?_;rintro e w6 ⟨s6,x6,n6,c6,f6,y6,m6,d6,g6,rfl,hb6,hq6⟩;replace HB:=hid (HB.out.trans (hb6.mono HB.out.size));replace OB:=hid (OB.out.below hb6)
   have HQ:=hid (show Rn (KV L) w6 s6 x6 n6 c6 f6 y6 m6 d6 g6 (valQ off cs xs) from hq6.mono (by unfold KV;have:(i+1)*(2*L+1+1)≤65*(2*L+1+1):=Nat.mul_le_mul_right _ hi65;omega));clear hb6 hq6 HG4 HLen;obtain ⟨hz,z0,z1,z2,zf⟩:=OB.out;go_wp2;exact bodyPost_ret (v:=.tuple #[.agg #[.bool s6,.slice x6 n6 c6,.slice y6 m6 d6],.int .i64 0]) (by simp [results,Tryz.results13,go_sem,z0,z1,z2]) rfl ⟨below_st HB.out (by omega),.inr ⟨rfl,s6,x6,n6,c6,f6,y6,m6,d6,g6,rfl,OB.out.rn HQ.out⟩⟩
theorem Rn.sg {L w s x n c f y m d g q} (h:Rn L w s x n c f y m d g q):s=decide (q<0):=by
 have h1:=h.num.val;have h2:=h.num.wf;have h5:=vf_nonneg h.num.lm;have hz:=h.q_zero
 cases s
 ·have h3:q.num=vf f n:=by rw [←h1];rfl
  have h4:0≤q:=Rat.num_nonneg.1 (by omega);rw [decide_eq_false (Rat.not_lt.2 h4)]
 ·have hn:n≠0:=fun e=>by subst e;simp [wfB] at h2
  have h3:q.num=- vf f n:=by rw [←h1];rfl
  have h4:q<0:=Rat.not_le.1 (fun e=>by
   have h6:=Rat.num_nonneg.2 e;exact hn (hz.1 (Rat.num_eq_zero.1 (by omega))))
  rw [decide_eq_true h4]
def allB (B:Nat→Bool):Nat→Bool
 | 0=>true
 | i+1=>allB B i && B i
theorem allB_iff {B:Nat→Bool}:∀{n:Nat},allB B n=true ↔ ∀j,j<n→B j=true
 | 0=>by simp [allB]
 | n+1=>by
  rw [allB,Bool.and_eq_true,allB_iff];exact ⟨fun ⟨h1,h2⟩ j hj=>(Nat.lt_succ_iff_lt_or_eq.1 hj).elim (h1 j) (fun e=>e ▸ h2),fun h=>⟨fun j hj=>h j (by omega),h n (by omega)⟩⟩
theorem dsum_psum (xs:List Rat):∀(v:List (Int × Rat)) (acc:Rat),dsum xs v acc=psum (v.map (tprod xs)) acc
 | [],_=>rfl
 | (a,q) :: v,acc=>by
  show dsum xs v (acc+q*xs.getD a.toNat 0)=psum (v.map (tprod xs)) (acc+tprod xs (a,q));exact dsum_psum xs v _
theorem kps_lo {r i:Int} {l q:Rat} (h:EOrd r i l 0 q):decide (r≤0)=decide (i<0∨i=0∧l≤q):=by
 rw [decide_eq_decide];rcases h with ⟨h1,h2⟩ | ⟨h1,h2,h3⟩ | ⟨h1,h2⟩
 ·constructor
  ·intro _;rcases h2 with h2 | ⟨h2,h3⟩
   ·exact .inl h2
   ·exact .inr ⟨h2,by grind⟩
  ·intro _;omega
 ·constructor
  ·intro _;exact .inr ⟨h2,by grind⟩
  ·intro _;omega
 ·constructor
  ·intro _;omega
  ·intro h;rcases h with h | ⟨h,h'⟩
   ·rcases h2 with h2 | ⟨h2,_⟩ <;> omega
   ·rcases h2 with h2 | ⟨_,h2⟩
    ·omega
    ·exact absurd h' (by grind)
theorem kps_hi {r i:Int} {l q:Rat} (h:EOrd r 0 q i l):decide (r≤0)=decide (0<i∨i=0∧q≤l):=by
 rw [decide_eq_decide];rcases h with ⟨h1,h2⟩ | ⟨h1,h2,h3⟩ | ⟨h1,h2⟩
 ·constructor
  ·intro _;rcases h2 with h2 | ⟨h2,h3⟩
   ·exact .inl h2
   ·exact .inr ⟨h2.symm,by grind⟩
  ·intro _;omega
 ·constructor
  ·intro _;exact .inr ⟨h2.symm,by grind⟩
  ·intro _;omega
 ·constructor
  ·intro _;omega
  ·intro h;rcases h with h | ⟨h,h'⟩
   ·rcases h2 with h2 | ⟨h2,_⟩ <;> omega
   ·rcases h2 with h2 | ⟨_,h2⟩
    ·omega
    ·exact absurd h' (by grind)
theorem kps_and {q:Rat} {li:Int} {lq:Rat} {hi:Int} {hq:Rat}:kpsB q li lq hi hq=(decide (li<0∨li=0∧lq≤q) && decide (0<hi∨hi=0∧q≤hq)):=by
 unfold kpsB;rw [Bool.decide_and]
set_option maxRecDepth 100000 in
set_option maxHeartbeats 8000000 in
theorem rKeeps_c {w:World} {K:Nat} {a b:Ex} {t:Nm} {li:Int} {lq:Rat} {hi:Int} {hq q:Rat} (ha:QnT K w a.v lq) (ea:a.i=li) (hb:QnT K w b.v hq) (eb:b.i=hi) (ht:QnT K w t q) (hK:K≤16000) (hbd:(li=0∨(li=-1∨li=1)∧lq=0)∧(hi=0∨(hi=-1∨hi=1)∧hq=0)) :
  Calls Tryz.prog 22 #[a.val,b.val,t.val] w fun e w'=>e=.returned (.bool (kpsB q li lq hi hq))∧Below w.heap.size w w':=by
 obtain ⟨i1,⟨s1,x1,n1,c1,f1,y1,m1,d1,g1⟩⟩:=a;obtain ⟨i2,⟨s2,x2,n2,c2,f2,y2,m2,d2,g2⟩⟩:=b;obtain ⟨s3,x3,n3,c3,f3,y3,m3,d3,g3⟩:=t;replace ea:i1=li:=ea;replace eb:i2=hi:=eb;subst ea;subst eb
 obtain ⟨r1,hr1⟩:∃t,decide (i1<0∨i1=0∧lq≤q)=t:=⟨_,rfl⟩;obtain ⟨r2,hr2⟩:∃t,decide (0<i2∨i2=0∧q≤hq)=t:=⟨_,rfl⟩;rw [kps_and,hr1,hr2];have C1:Hid (∀W (W2:World),Below w.heap.size w W→Fn W 0 s3 x3 n3 f3 y3 m3 g3 q→Calls Tryz.prog 46 #[.agg #[.int .i64 i1,.bool s1,.slice x1 n1 c1,.slice y1 m1 d1],.agg #[.int .i64 0,.bool s3,.slice x3 n3 c3,.slice y3 m3 d3]] W fun e w'=>∃r,e=.returned (.int .i64 r)∧Below W.heap.size W w'∧Hid (decide (r≤0)=r1)):=fun W _ hW hF =>
  (xCmpW_c (c1:=c1) (d1:=d1) (c2:=c3) (d2:=d3) (FnT.of (e:=⟨i1,⟨s1,x1,n1,c1,f1,y1,m1,d1,g1⟩⟩) (ha.below hW) rfl hbd.1) hF (Nat.le_trans ha.1 hK) (Nat.le_trans ha.2.1 hK) (Nat.le_trans ht.1 hK) (Nat.le_trans ht.2.1 hK)).mono (by
   rintro e w' ⟨r,rfl,h1,h2⟩;exact ⟨r,rfl,h1,hid ((kps_lo h2.out).trans hr1)⟩)
 have C2:Hid (∀W (W2:World),Below w.heap.size w W→Fn W 0 s3 x3 n3 f3 y3 m3 g3 q→Calls Tryz.prog 46 #[.agg #[.int .i64 0,.bool s3,.slice x3 n3 c3,.slice y3 m3 d3],.agg #[.int .i64 i2,.bool s2,.slice x2 n2 c2,.slice y2 m2 d2]] W fun e w'=>∃r,e=.returned (.int .i64 r)∧Below W.heap.size W w'∧Hid (decide (r≤0)=r2)):=fun W _ hW hF =>
  (xCmpW_c (c1:=c3) (d1:=d3) (c2:=c2) (d2:=d2) hF (FnT.of (e:=⟨i2,⟨s2,x2,n2,c2,f2,y2,m2,d2,g2⟩⟩) (hb.below hW) rfl hbd.2) (Nat.le_trans ht.1 hK) (Nat.le_trans ht.2.1 hK) (Nat.le_trans hb.1 hK) (Nat.le_trans hb.2.1 hK)).mono (by
   rintro e w' ⟨r,rfl,h1,h2⟩;exact ⟨r,rfl,h1,hid ((kps_hi h2.out).trans hr2)⟩)
 have CN:Hid (∀W,Below w.heap.size w W→Calls Tryz.prog 47 #[.agg #[.bool s3,.slice x3 n3 c3,.slice y3 m3 d3]] W fun e w'=>e=.returned (.agg #[.int .i64 0,.bool s3,.slice x3 n3 c3,.slice y3 m3 d3])∧Below W.heap.size W w'∧Hid (Fn w' 0 s3 x3 n3 f3 y3 m3 g3 q)):=fun W hW=>(xNum_c (c:=c3) (d:=d3) (ht.below hW).2.2).mono (by
   rintro e w' ⟨rfl,h1,h2⟩;exact ⟨rfl,h1,hid h2⟩)
 clear ha hb ht hr1 hr2 hbd;show Calls Tryz.prog 22 #[.agg #[.int .i64 i1,.bool s1,.slice x1 n1 c1,.slice y1 m1 d1],.agg #[.int .i64 i2,.bool s2,.slice x2 n2 c2,.slice y2 m2 d2],.agg #[.bool s3,.slice x3 n3 c3,.slice y3 m3 d3]] w _;have HB:=hid (below_alloc (below_alloc (below_alloc (Below.refl w.heap.size w) (.cells #[.int .i64 i1,.bool s1,.slice x1 n1 c1,.slice y1 m1 d1] 67)) (.cells #[.int .i64 i2,.bool s2,.slice x2 n2 c2,.slice y2 m2 d2] 67)) (.cells #[.bool s3,.slice x3 n3 c3,.slice y3 m3 d3] 60));have BA:Hid (Bk (((w.alloc (.cells #[.int .i64 i1,.bool s1,.slice x1 n1 c1,.slice y1 m1 d1] 67)).alloc (.cells #[.int .i64 i2,.bool s2,.slice x2 n2 c2,.slice y2 m2 d2] 67)).alloc (.cells #[.bool s3,.slice x3 n3 c3,.slice y3 m3 d3] 60)) w.heap.size [.int .i64 i1,.bool s1,.slice x1 n1 c1,.slice y1 m1 d1] 67):=((bk_new w [.int .i64 i1,.bool s1,.slice x1 n1 c1,.slice y1 m1 d1] 67).below (below_alloc (Below.refl _ _) _)).below (below_alloc (Below.refl _ _) _);have BB:Hid (Bk (((w.alloc (.cells #[.int .i64 i1,.bool s1,.slice x1 n1 c1,.slice y1 m1 d1] 67)).alloc (.cells #[.int .i64 i2,.bool s2,.slice x2 n2 c2,.slice y2 m2 d2] 67)).alloc (.cells #[.bool s3,.slice x3 n3 c3,.slice y3 m3 d3] 60)) (w.heap.size+1) [.int .i64 i2,.bool s2,.slice x2 n2 c2,.slice y2 m2 d2] 67):=by
  have:=(bk_new (w.alloc (.cells #[.int .i64 i1,.bool s1,.slice x1 n1 c1,.slice y1 m1 d1] 67)) [.int .i64 i2,.bool s2,.slice x2 n2 c2,.slice y2 m2 d2] 67).below (below_alloc (Below.refl _ _) (.cells #[.bool s3,.slice x3 n3 c3,.slice y3 m3 d3] 60));rw [size_alloc1] at this;exact this
 have BT:Hid (Bk (((w.alloc (.cells #[.int .i64 i1,.bool s1,.slice x1 n1 c1,.slice y1 m1 d1] 67)).alloc (.cells #[.int .i64 i2,.bool s2,.slice x2 n2 c2,.slice y2 m2 d2] 67)).alloc (.cells #[.bool s3,.slice x3 n3 c3,.slice y3 m3 d3] 60)) (w.heap.size+1+1) [.bool s3,.slice x3 n3 c3,.slice y3 m3 d3] 60):=by
  have:=bk_new ((w.alloc (.cells #[.int .i64 i1,.bool s1,.slice x1 n1 c1,.slice y1 m1 d1] 67)).alloc (.cells #[.int .i64 i2,.bool s2,.slice x2 n2 c2,.slice y2 m2 d2] 67)) [.bool s3,.slice x3 n3 c3,.slice y3 m3 d3] 60;rw [size_alloc1,size_alloc1] at this;exact this
 go_enter Tryz.func22,Tryz.ntmps22;go_upto_region 1 with fail
 generalize (((w.alloc (.cells #[.int .i64 i1,.bool s1,.slice x1 n1 c1,.slice y1 m1 d1] 67)).alloc (.cells #[.int .i64 i2,.bool s2,.slice x2 n2 c2,.slice y2 m2 d2] 67)).alloc (.cells #[.bool s3,.slice x3 n3 c3,.slice y3 m3 d3] 60))=v0 at *;replace C1:=hid (fun W (W2:World) (hW:Below v0.heap.size v0 W)=>C1.out W W2 (HB.out.trans (hW.mono HB.out.size)));replace C2:=hid (fun W (W2:World) (hW:Below v0.heap.size v0 W)=>C2.out W W2 (HB.out.trans (hW.mono HB.out.size)));replace CN:=hid (fun W (hW:Below v0.heap.size v0 W)=>CN.out W (HB.out.trans (hW.mono HB.out.size)));have a0:=BA.out.cell (j:=0) rfl;have a1:=BA.out.cell (j:=1) rfl;have a2:=BA.out.cell (j:=2) rfl;have a3:=BA.out.cell (j:=3) rfl;have b0:=BB.out.cell (j:=0) rfl;have b1:=BB.out.cell (j:=1) rfl;have b2:=BB.out.cell (j:=2) rfl;have b3:=BB.out.cell (j:=3) rfl;have t0:=BT.out.cell (j:=0) rfl;have t1:=BT.out.cell (j:=1) rfl;have t2:=BT.out.cell (j:=2) rfl;cases r1
 case false =>
  go_region_with
   (first
    | (go_at_call 47;with_reducible refine (CN.out _ belA).mono ?_;rintro e u1 ⟨rfl,hb1,H1⟩;have B1:=hid (BA.out.below (show Below v0.heap.size v0 u1 from belA));have p0:=B1.out.cell (j:=0) rfl;have p1:=B1.out.cell (j:=1) rfl;have p2:=B1.out.cell (j:=2) rfl;have p3:=B1.out.cell (j:=3) rfl)
    | (go_at_call 46;with_reducible refine (C1.out _ v0 belA (H1.out.below belA)).mono ?_;rintro e u2 ⟨q1,rfl,hb2,H2⟩;have hd2:decide (q1≤0)=false:=H2.out))
  all_goals
   have hb:Below v0.heap.size v0 u2:=belA;replace HB:=hid (HB.out.trans (hb.mono HB.out.size));clear hb;go_wp2;go_ret;exact ⟨by first | rfl | simp,by first | exact HB.out | exact HB.out.drew | exact below_drewN HB.out _⟩
 go_region_held3 (fun w'=>w'.cell? ⟨w.heap.size,0,none⟩=some (.int .i64 i1)∧w'.cell? ⟨w.heap.size,1,none⟩=some (.bool s1)∧w'.cell? ⟨w.heap.size,2,none⟩=some (.slice x1 n1 c1)∧w'.cell? ⟨w.heap.size,3,none⟩=some (.slice y1 m1 d1)∧w'.cell? ⟨w.heap.size+1,0,none⟩=some (.int .i64 i2)∧w'.cell? ⟨w.heap.size+1,1,none⟩=some (.bool s2)∧w'.cell? ⟨w.heap.size+1,2,none⟩=some (.slice x2 n2 c2)∧w'.cell? ⟨w.heap.size+1,3,none⟩=some (.slice y2 m2 d2)∧w'.cell? ⟨w.heap.size+1+1,0,none⟩=some (.bool s3)∧w'.cell? ⟨w.heap.size+1+1,1,none⟩=some (.slice x3 n3 c3)∧w'.cell? ⟨w.heap.size+1+1,2,none⟩=some (.slice y3 m3 d3))
  (refine ⟨?_,?_,?_,?_,?_,?_,?_,?_,?_,?_,?_⟩ <;> repeat (with_reducible first | assumption | refine kCd ?_ | refine kCb (by assumption) ?_))
  (first
   | (have h9:=H2.out;clear h9;go_at_call 47;with_reducible refine (CN.out _ belA).mono ?_;rintro e u4 ⟨rfl,hb4,H4⟩)
   | (go_at_call 47;with_reducible refine (CN.out _ belA).mono ?_;rintro e u1 ⟨rfl,hb1,H1⟩)
   | (have h9:=H4.out;clear h9;go_at_call 46;with_reducible refine (C2.out _ v0 belA (H4.out.below belA)).mono ?_;rintro e u5 ⟨q2,rfl,hb5,H5⟩;have hd5:decide (q2≤0)=r2:=H5.out)
   | (go_at_call 46;with_reducible refine (C1.out _ v0 belA (H1.out.below belA)).mono ?_;rintro e u2 ⟨q1,rfl,hb2,H2⟩;have hd2:decide (q1≤0)=true:=H2.out))
 all_goals
  have hb:Below v0.heap.size v0 u5:=belA;replace HB:=hid (HB.out.trans (hb.mono HB.out.size));clear hb;go_wp2;go_ret;exact ⟨by first | rfl | simp,HB.out⟩
def slpQ (cs:List CV) (ds:List Rat):Rat:=psum (costs cs ds) 0
theorem rf_two {K:Nat} {w:World} {T:TypeId} {s:Bool} {x:Option Addr} {n c:Nat} {f:Nat→Int} {y:Option Addr} {m d:Nat} {g:Nat→Int} {q:Rat} {s2:Bool} {x2:Option Addr} {n2 c2:Nat} {f2:Nat→Int} {y2:Option Addr} {m2 d2:Nat} {g2:Nat→Int} {q2:Rat} (h:Rn K w s x n c f y m d g q) (h2:Rn K w s2 x2 n2 c2 f2 y2 m2 d2 g2 q2):Rf K (w.alloc (.cells #[.bool s,.slice x n c,.slice y m d,.bool s2,.slice x2 n2 c2,.slice y2 m2 d2] T)) (some ⟨w.heap.size,0,none⟩) [q,q2]:=fun j q' e=>by
 match j,e with
 | 0,e=>cases e;exact ⟨w.heap.size,0,⟨s,x,n,c,f,y,m,d,g⟩,rfl,⟨by simp [go_sem],by simp [go_sem],by simp [go_sem]⟩,h.alloc _⟩
 | 1,e=>cases e;exact ⟨w.heap.size,0,⟨s2,x2,n2,c2,f2,y2,m2,d2,g2⟩,rfl,⟨by simp [go_sem],by simp [go_sem],by simp [go_sem]⟩,h2.alloc _⟩
theorem pckE_ok {M:Mo} {k:Nat} {X:Nat→Nm} (h1:chkE M=0) (h2:afB k X=true) (h3:k=M.ck):pckE M k X=0:=by
 unfold pckE;rw [h1,show pnE k X M.ck=0 by unfold pnE;rw [if_pos h2,if_pos (by rw [h3])]];rfl
theorem rSameEq_c {L L' w sa xa na ca fa ya ma da ga sb xb nb cb fb yb mb db gb q} (ha:Rn L w sa xa na ca fa ya ma da ga q) (hb:Rn L' w sb xb nb cb fb yb mb db gb q) (h1:L≤1048576) (h2:L'≤1048576) :
  Calls Tryz.prog 15 #[.agg #[.bool sa,.slice xa na ca,.slice ya ma da],.agg #[.bool sb,.slice xb nb cb,.slice yb mb db]] w fun e w'=>e=.returned (.bool true)∧Below w.heap.size w w':=by
 have l1:=ha.ln;have l2:=ha.ld;have l3:=hb.ln;have l4:=hb.ld
 refine (rSame_c sa xa ya na ca ma da fa ga sb xb yb nb cb mb db fb gb w ha.num.rd ha.den.rd hb.num.rd hb.den.rd (by omega) (by omega) (by omega) (by omega)).mono ?_;rintro e w' ⟨c,rfl,h3,h4⟩;refine ⟨?_,h3⟩;rw [h4.2 ((ha.inj hb).2 rfl)]
set_option maxRecDepth 100000 in
set_option maxHeartbeats 4000000 in
theorem samesEq_c {w:World} {L L':Nat} {ao bo:Option Addr} {k ca cb:Nat} {p:List Rat} (ha:Rf L w ao p) (hb:Rf L' w bo p) (hk:p.length=k) (hk2:k≤1048576) (h1:L≤1048576) (h2:L'≤1048576) :
  Calls Tryz.prog 12 #[.slice ao k ca,.slice bo k cb] w fun e w'=>e=.returned (.bool true)∧Below w.heap.size w w':=by
 have HA:=hid ha;have HB:=hid hb
 have hkk:(((k:Nat):Int) != ((k:Nat):Int))=false:=by simp
 clear ha hb;go_enter Tryz.func12,Tryz.ntmps12;go_wp2_with fail
 go_loopw [13] (fun t wr=>∃(i:Nat),i≤k∧t=.int .i64 i∧Hid (Below w.heap.size w wr)) (fun t _=>k-(intOf t).toNat)
 case atStart=>exact ⟨0,by omega,rfl,Below.refl _ _⟩
 case round =>
  obtain ⟨i,hi,rfl,HW⟩:=hrel;by_cases hlt:i<k
  ·obtain ⟨q,hq⟩:∃q,p[i]?=some q:=⟨_,List.getElem?_eq_getElem (by omega)⟩;obtain ⟨b,o,⟨ts,tx,tn,tc,tf,ty,tm,td,tg⟩,rfl,hc,hr⟩:=(HA.out.below HW.out) i q hq;obtain ⟨b',o',⟨ss,sx,sn,sc,sf,sy,sm,sd,sg⟩,rfl,hc',hr'⟩:=(HB.out.below HW.out) i q hq;obtain ⟨x0,x1,x2⟩:=hc;obtain ⟨p0,p1,p2⟩:=hc';replace x0:wr.cell? ⟨b,o+i*3,none⟩=some (.bool ts):=x0;replace x1:wr.cell? ⟨b,o+i*3+1,none⟩=some (.slice tx tn tc):=x1;replace x2:wr.cell? ⟨b,o+i*3+2,none⟩=some (.slice ty tm td):=x2;replace p0:wr.cell? ⟨b',o'+i*3,none⟩=some (.bool ss):=p0;replace p1:wr.cell? ⟨b',o'+i*3+1,none⟩=some (.slice sx sn sc):=p1;replace p2:wr.cell? ⟨b',o'+i*3+2,none⟩=some (.slice sy sm sd):=p2;have CS:Hid (∀W,Below wr.heap.size wr W→Calls Tryz.prog 15 #[.agg #[.bool ts,.slice tx tn tc,.slice ty tm td],.agg #[.bool ss,.slice sx sn sc,.slice sy sm sd]] W fun e w'=>e=.returned (.bool true)∧Below W.heap.size W w'):=fun W hW =>
    rSameEq_c (Rn.below hr hW) (Rn.below hr' hW) h1 h2
   have i2:((i:Nat):Int)<((k:Nat):Int):=by omega
   clear hr hr' hq;go_upto_region 6 with fail
   go_region_held3 (fun w'=>w'.cell? ⟨b,o+i*3,none⟩=some (.bool ts)∧w'.cell? ⟨b,o+i*3+1,none⟩=some (.slice tx tn tc)∧w'.cell? ⟨b,o+i*3+2,none⟩=some (.slice ty tm td)∧w'.cell? ⟨b',o'+i*3,none⟩=some (.bool ss)∧w'.cell? ⟨b',o'+i*3+1,none⟩=some (.slice sx sn sc)∧w'.cell? ⟨b',o'+i*3+2,none⟩=some (.slice sy sm sd))
    (refine ⟨?_,?_,?_,?_,?_,?_⟩ <;> repeat (with_reducible first | assumption | refine kCd ?_ | refine kCb (by assumption) ?_))
    ((go_at_call 15;with_reducible refine (CS.out _ (by repeat (with_reducible first | assumption | exact Below.refl _ _ | refine kBdn ?_ | refine Below.drew ?_))).mono ?_;rintro e w5 ⟨rfl,hb5⟩))
   all_goals
    (have HW5:Hid (Below w.heap.size w w5):=hid (HW.out.trans (Below.mono (show Below wr.heap.size wr w5 by repeat (with_reducible first | assumption | exact Below.refl _ _ | refine kBdn ?_ | refine Below.drew ?_ | refine kBb (by assumption) ?_)) HW.out.size))
     clear x0 x1 x2 p0 p1 p2 CS hb5;go_wp2;go_roundw
     case rel=>exact ⟨i+1,by omega,by go_num,(by first | exact HW5.out | exact HW5.out.drew | exact below_drewN HW5.out _)⟩
     case measure=>simp [intOf];omega)
  ·have i2:¬(((i:Nat):Int)<((k:Nat):Int)):=by omega
   go_wp2;go_ret;exact ⟨rfl,HW.out⟩
theorem twin_w {w:World} {M:Mo} {K:Nat} (hX:MoX w M) (hN:MoN M) (hk:M.ck≤64→M.rk≤64→MoK K M) (hK:K≤65536):Calls Tryz.prog 9 #[M.val] w fun e w'=>∃M':Mo,e=.returned M'.val∧Below w.heap.size w w'∧Sm M M'∧MoW w' M'∧MoX w' M'∧(M'.ck≤64→M'.rk≤64→MoK K M') :=
 (mTwin_c hX).mono fun e w' ⟨M',h1,h2,h3,h4⟩=>⟨M',h1,h2,h3,fun a b=>h4.mor (h3.mon hN) (h3.mok (hk (by rw [←h3.ck];exact a) (by rw [←h3.rk];exact b))) hK a b,h4,fun a b=>h3.mok (hk (by rw [←h3.ck];exact a) (by rw [←h3.rk];exact b))⟩
theorem lgM_k {K:Nat} {M:Mo} (h:lgM K M=true):M.ck≤64→M.rk≤64→MoK K M:=fun a b=>lgM_at h a b
theorem MoX.both {w M K} (h:MoX w M) (hn:MoN M) (hk:M.ck≤64→M.rk≤64→MoK K M) (hK:K≤1000):M.ck≤64→M.rk≤64→MoR w M∧MoS M:=fun a b=>⟨h.mor hn (hk a b) (Nat.le_trans hK (by decide)) a b,(hk a b).mos hK⟩
theorem El.below {w w' ao k E} (h:El w ao k E) (hb:Below w.heap.size w w'):El w' ao k E:=fun j hj=>by
 obtain ⟨b,o,e,h1⟩:=h j hj;exact ⟨b,o,e,kCb hb h1⟩
theorem Sn.trans {a b c:Nm} (h:Sn a b) (k:Sn b c):Sn a c:=by
 obtain ⟨h1,h2,h3,h4,h5⟩:=h;obtain ⟨k1,k2,k3,k4,k5⟩:=k;exact ⟨k1.trans h1,k2.trans h2,k3.trans h3,k4.trans h4,k5.trans h5⟩
theorem Sn.nq {t t':Nm} (h:Sn t t'):nq t'=nq t:=by
 obtain ⟨h1,h2,h3,h4,h5⟩:=h;unfold Go.Proofs.YtbnaikljfhhljaaGreat.nq;rw [h1,h2,h3,h4,h5]
theorem Sm.csOf {M M':Mo} (h:Sm M M'):csOf M'=csOf M:=by
 unfold Go.Proofs.YtbnaikljfhhljaaGreat.csOf;rw [h.ck];refine List.map_congr_left (fun j hj=>?_);have p:=h.C j (List.mem_range.1 hj);unfold cvOf;rw [p.nm,p.cost.nq,p.li,p.lo.nq,p.hi,p.hv.nq]
theorem Sm.rsOf {M M':Mo} (h:Sm M M'):rsOf M'=rsOf M:=by
 unfold Go.Proofs.YtbnaikljfhhljaaGreat.rsOf;rw [h.rk];refine List.map_congr_left (fun j hj=>?_);have p:=h.R j (List.mem_range.1 hj);unfold rvOf;rw [p.nm,p.li,p.lo.nq,p.hi,p.hv.nq,p.tk,p.col]
 congr 1
 exact List.map_congr_left (fun q hq=>by rw [(p.T q (List.mem_range.1 hq)).nq])
def psOf (k:Nat) (X:Nat→Nm):List Rat:=(List.range k).map (fun j=>nq (X j))
theorem psOf_len (k:Nat) (X:Nat→Nm):(psOf k X).length=k:=by simp [psOf]
theorem psOf_sn {k:Nat} {X X':Nat→Nm} (h:∀j,j<k→Sn (X j) (X' j)):psOf k X'=psOf k X:=List.map_congr_left (fun j hj=>(h j (List.mem_range.1 hj)).nq)
theorem Rl.rfC {w:World} {ao:Option Addr} {k K:Nat} {X:Nat→Nm} (h:Rl w ao k X) (hf:afB k X=true) (hk:∀j,j<k→(X j).n≤K∧(X j).m≤K):Rf K w ao (psOf k X):=fun j q e=>by
 obtain ⟨hj,rfl⟩:=range_at e;obtain ⟨b,o,h1,h2,h3⟩:=h j hj;exact ⟨b,o,X j,h1,h2,NmS.val h3 (afr_all hf j (by omega) (by omega)) (hk j hj)⟩
theorem psum_acc:∀(p:List Rat) (a:Rat),psum p a=a+psum p 0
 | [],a=>by show a=a+0;grind
 | q :: p,a=>by
  simp only [psum];rw [psum_acc p (a+q),psum_acc p (0+q)]
  grind
theorem psum_cons (q:Rat) (p:List Rat):psum (q :: p) 0=q+psum p 0:=by
 simp only [psum];rw [psum_acc];grind
def lgL (K k:Nat) (X:Nat→Nm):Bool:=decide (k≤300) && nlg K X k 0
theorem MoK.up {K L:Nat} {M:Mo} (h:MoK K M) (hL:K≤L):MoK L M:=by
 have e:∀{a b:Nat},a≤K∧b≤K→a≤L∧b≤L:=fun p=>⟨Nat.le_trans p.1 hL,Nat.le_trans p.2 hL⟩
 exact ⟨e h.off,fun j hj=>⟨e (h.c j hj).1,e (h.c j hj).2.1,e (h.c j hj).2.2⟩,fun j hj=>⟨e (h.r j hj).1,e (h.r j hj).2.1,(h.r j hj).2.2.1,fun p hp=>e ((h.r j hj).2.2.2 p hp)⟩⟩
theorem Rf.cut {K L:Nat} {w:World} {ao:Option Addr} {p:List Rat} (h:Rf K w ao p) (hp:∀q,q ∈ p→Lo L q):Rf L w ao p:=fun j q hj=>by
 obtain ⟨b,o,t,e,h1,h2⟩:=h j q hj;exact ⟨b,o,t,e,h1,h2.cut (hp q (List.mem_of_getElem? hj))⟩
theorem pckE_two {M:Mo} {k:Nat} {X:Nat→Nm} (h:pckE M k X=0):chkE M=0∧afB k X=true∧k=M.ck:=by
 obtain ⟨h1,h2⟩:=two_zero h;refine ⟨h1,?_⟩;unfold pnE at h2;by_cases a:afB k X=true
 ·rw [if_pos a] at h2;by_cases b:k=M.ck
  ·exact ⟨a,b⟩
  ·rw [if_neg (by omega)] at h2;cases h2
 ·rw [if_neg a] at h2;cases h2
theorem csOf_len (M:Mo):(csOf M).length=M.ck:=by simp [csOf]
def Tx (w:World) (ao:Option Addr) (k:Nat) (X X':Nat→Nm):Prop:=Rl w ao k X'∧∀j,j<k→Sn (X j) (X' j)
theorem Tx.below {w w' ao k X X'} (h:Tx w ao k X X') (hb:Below w.heap.size w w'):Tx w' ao k X X':=⟨h.1.below hb,h.2⟩
def Sh (k:Nat) (X:Nat→Nm):Prop:=k≤300∧∀j,j<k→(X j).n≤6∧(X j).m≤6
theorem Tx.val {w ao k X X'} (h:Tx w ao k X X') (hs:Sh k X) (ha:afB k X=true):Rf 6 w ao (psOf k X):=by
 rw [←psOf_sn h.2];refine h.1.rfC ?_ (fun j hj=>by rw [(h.2 j hj).2.1,(h.2 j hj).2.2.2.1];exact hs.2 j hj);exact (afr_sn (fun j _ b=>h.2 j (by omega))).trans ha
theorem crl_nil {B:Nat→Bool}:∀{n:Nat},(crl B n).length=0 ↔ ∀j,j<n→B j=false
 | 0=>⟨fun _ j hj=>by omega,fun _=>rfl⟩
 | n+1=>by
  have ih:=crl_nil (B:=B) (n:=n);cases e:B n with
  | true =>
   rw [crl_yes e];refine ⟨fun h=>by simp at h,fun h=>?_⟩;rw [h n (by omega)] at e;cases e
  | false =>
   rw [crl_no e,ih];refine ⟨fun h j hj=>?_,fun h j hj=>h j (by omega)⟩;by_cases g:j=n
   ·rw [g];exact e
   ·exact h j (by omega)
theorem qZero_c (w:World):Calls Tryz.prog 62 #[] w fun e w'=>QAns 2 w w' e 0:=by
 have h2:=ob_new w 60;have h3:=below_alloc (Below.refl w.heap.size w) (.cells #[.bool false,.slice none 0 0,.slice none 0 0] 60);go_enter Tryz.func62,Tryz.ntmps62;go_wp2_with fail
 generalize w.alloc (.cells #[.bool false,.slice none 0 0,.slice none 0 0] 60)=w1 at *;have OB:=hid h2;have HW:=hid h3
 clear h2 h3;refine (qInt_c (z:=0) (by decide) (by decide)).mono ?_;rintro e w2 ⟨s2,x2,n2,c2,d2,y2,m2,e2,g2,rfl,hb,hl1,hl2,hq⟩;have HB2:=hid hb;have HQ:=hid hq;have L1:=hid hl1;have L2:=hid hl2
 clear hb hq hl1 hl2;obtain ⟨hz,z0,z1,z2,zf⟩:=OB.out.below HB2.out;go_wp2;exact bodyPost_ret (v:=.agg #[.bool s2,.slice x2 n2 c2,.slice y2 m2 e2]) (by simp [results,Tryz.results62,go_sem,z0,z1,z2]) rfl ⟨s2,x2,n2,c2,d2,y2,m2,e2,g2,rfl,below_st (HW.out.trans (HB2.out.mono HW.out.size)) (by omega),L1.out,L2.out,(OB.out.below HB2.out).qn HQ.out⟩
theorem lo_zero {L:Nat} (hL:1≤L):Lo L 0:=by
 have h:=pw_mono hL;have h1:pw 1=18446744073709551616:=by decide
 constructor
 ·show ((0:Nat):Int)<_;omega
 ·show ((1:Nat):Int)<_;omega
theorem Rf.lo {L w ao} {p:List Rat} (h:Rf L w ao p):∀(j:Nat) (q:Rat),p[j]?=some q→Lo L q:=fun j q hj=>by
 obtain ⟨_,_,_,_,_,h2⟩:=h j q hj;exact h2.lo h2.ln h2.ld
theorem Dn.len_pd {w x n d V} {K:Nat} (h:Dn w x n d V) (hv:(V:Int)<pd K):n≤K:=by
 by_cases hn:n≤K
 ·exact hn
 ·have h1:=vd_form_ge h.dg h.fm (by omega);have h2:=pd_mono (show K≤n-1 by omega);have h3:=h.val;omega
theorem Dn.lt_pd {w x n d V} {K:Nat} (h:Dn w x n d V) (hn:n≤K):(V:Int)<pd K:=by
 have h1:=vd_lt h.dg;have h2:=pd_mono hn;have h3:=h.val;omega
theorem Qn.len {w s x n d y m g q} {K:Nat} (h:Qn w s x n d y m g q) (hq:Lo K q):n≤2*K∧m≤2*K :=
 ⟨h.num.dn.len_pd (by rw [pd_two];exact hq.1),h.den.len_pd (by rw [pd_two];exact hq.2)⟩
theorem Qn.lo {w s x n d y m g q} {K:Nat} (h:Qn w s x n d y m g q) (hn:n≤2*K) (hm:m≤2*K):Lo K q :=
 ⟨by rw [←pd_two];exact h.num.dn.lt_pd hn,by rw [←pd_two];exact h.den.lt_pd hm⟩
theorem Sx.qn {w B s x n c y m d u0 u1 u2 s1 x1 n1 d1 y1 m1 g1 q} (S:Sx w B s x n c y m d) (h:Qn w s1 x1 n1 d1 y1 m1 g1 q):Qn (((w.setCell ⟨B,0,none⟩ u0).setCell ⟨B,1,none⟩ u1).setCell ⟨B,2,none⟩ u2) s1 x1 n1 d1 y1 m1 g1 q :=
 ⟨⟨⟨S.rd h.num.dn.rd,h.num.dn.dg,h.num.dn.fm,h.num.dn.val⟩,h.num.sgn,h.num.pos⟩,⟨S.rd h.den.rd,h.den.dg,h.den.fm,h.den.val⟩⟩
set_option maxRecDepth 100000 in
set_option maxHeartbeats 8000000 in
theorem fDot_c {w:World} {L:Nat} {av ax:Option Addr} {k kx cv cx:Nat} {v:List (Int × Rat)} {p:List Rat}
  (hv:Tq (2*L) w av v) (hx:Rqs (2*L) w ax p) (lv:v.length=k) (lp:p.length=kx) (hk:k≤64) (hL:L≤100) (hbel:∀(j:Nat) (a:Int) (q:Rat),v[j]?=some (a,q)→0≤a∧a<kx) :
  Calls Tryz.prog 36 #[.slice av k cv,.slice ax kx cx] w fun e w'=>QAns (2*(4+64*(2*L+2))) w w' e (dsum p v 0):=by
 have TV:=hid hv;have TX:=hid hx;have HBe:=hid hbel
 have h2:=ob_new w 60;have h3:=below_alloc (Below.refl w.heap.size w) (.cells #[.bool false,.slice none 0 0,.slice none 0 0] 60);clear hv hx hbel;go_enter Tryz.func36,Tryz.ntmps36;go_wp2_with fail
 generalize w.alloc (.cells #[.bool false,.slice none 0 0,.slice none 0 0] 60)=w0 at *;have OB0:=hid h2;have HB0:=hid h3
 clear h2 h3;refine (qZero_c _).mono ?_;rintro e w4 ⟨s0,x0,n0,c0,d0,y0,m0,e0,g0,rfl,hb4,hl1,hl2,hq4⟩;have OB4:=hid (OB0.out.below hb4);have HB4:=hid (HB0.out.trans (hb4.mono HB0.out.size));have HQ4:=hid hq4
 clear OB0 HB0 hb4 hq4 hl1 hl2;go_wp2_with fail
 have hSx:Sx (w4.alloc (.cells #[.bool s0,.slice x0 n0 c0,.slice y0 m0 e0] 60)) w4.heap.size s0 x0 n0 c0 y0 m0 e0:=⟨by simp,by simp [go_sem],by simp [go_sem],by simp [go_sem],fun o=>by simp only [World.frozen?,heap_alloc_new w4 (.cells #[.bool s0,.slice x0 n0 c0,.slice y0 m0 e0] 60)];simp⟩;have hal:=below_alloc (Below.refl w4.heap.size w4) (.cells #[.bool s0,.slice x0 n0 c0,.slice y0 m0 e0] 60);have hne:w.heap.size<w4.heap.size:=OB4.out.z;have ST:=hid hSx;have HB5:=hid (HB4.out.trans (hal.mono HB4.out.size));have HQ5:=hid (HQ4.out.below hal);have OB5:=hid (OB4.out.below hal)
 clear hSx hal HB4 HQ4 OB4;generalize w4.alloc (.cells #[.bool s0,.slice x0 n0 c0,.slice y0 m0 e0] 60)=w5' at *;generalize w4.heap.size=B at *;go_loopw [11] (fun t wr=>∃(i:Nat) (acc:Rat) (s:Bool) (x:Option Addr) (n c:Nat) (d:Nat→Int) (y:Option Addr) (m e:Nat) (g:Nat→Int),i≤k∧t=.int .i64 i∧Hid (Below w.heap.size w wr)∧Hid (Sx wr B s x n c y m e)∧Hid (Ob wr w.heap.size)∧Hid (Lo (4+i*(2*L+2)) acc∧Qn wr s x n d y m g acc)∧Hid (dsum p (v.drop i) acc=dsum p v 0)) (fun t _=>k-(intOf t).toNat)
 case atStart=>exact ⟨0,0,s0,x0,n0,c0,d0,y0,m0,e0,g0,by omega,rfl,HB5,ST,OB5,⟨lo_zero (by omega),HQ5.out⟩,rfl⟩
 case round =>
  clear HB5 HQ5 OB5 ST;obtain ⟨i,acc,s,x,n,c,d,y,m,e,g,hi,rfl,HB,HS,HO,HQ,HE⟩:=hrel;by_cases hlt:i<k
  ·obtain ⟨⟨a,q⟩,haq⟩:∃t,v[i]?=some t:=⟨_,List.getElem?_eq_getElem (by omega)⟩;obtain ⟨ha0,ha1⟩:=HBe.out i a q haq;obtain ⟨an,rfl⟩:=Int.eq_ofNat_of_zero_le ha0;obtain ⟨b,o,⟨ts,tx,tn,tc,tf,ty,tm,td,tg⟩,hav,hc,hr⟩:=(TV.out.below HB.out) i an q haq;obtain ⟨r,hr2⟩:∃r,p[an]?=some r:=⟨_,List.getElem?_eq_getElem (by omega)⟩;obtain ⟨b0,o0,_,hax0,hc0,_⟩:=TX.out an r hr2;have hb0:=World.block_lt_of_cell? w _ hc0.x0;obtain ⟨b',o',⟨ss,sx,sn,sc,sf,sy,sm,sd,sg⟩,hax,hc',hr'⟩:=(TX.out.below HB.out) an r hr2;have nB2:B≠b':=by
    rw [hax0] at hax;have:b0=b':=by simpa using congrArg (fun a=>(a.map Addr.block)) hax
    have hb1:b0<w.heap.size:=hb0;omega
   clear hc0 hb0 hax0;have hav2:=hav;have hax2:=hax
   subst hav2;subst hax2
   obtain ⟨x0',x1',x2',x3'⟩:=hc;obtain ⟨p0,p1,p2⟩:=hc';replace x0':wr.cell? ⟨b,o+i*4,none⟩=some (.int .i64 an):=x0';replace x1':wr.cell? ⟨b,o+i*4+1,none⟩=some (.bool ts):=x1';replace x2':wr.cell? ⟨b,o+i*4+2,none⟩=some (.slice tx tn tc):=x2';replace x3':wr.cell? ⟨b,o+i*4+3,none⟩=some (.slice ty tm td):=x3';replace p0:wr.cell? ⟨b',o'+an*3,none⟩=some (.bool ss):=p0;replace p1:wr.cell? ⟨b',o'+an*3+1,none⟩=some (.slice sx sn sc):=p1;replace p2:wr.cell? ⟨b',o'+an*3+2,none⟩=some (.slice sy sm sd):=p2;have HR1:Hid (tn≤2*L∧tm≤2*L∧Qn wr ts tx tn tf ty tm tg q):=hr;have HR2:Hid (sn≤2*L∧sm≤2*L∧Qn wr ss sx sn sf sy sm sg r):=hr';have i2:((i:Nat):Int)<((k:Nat):Int):=by omega
   have i3:((an:Nat):Int)<((kx:Nat):Int):=by omega
   have HD:Hid (dsum p (v.drop (i+1)) (acc+q*r)=dsum p v 0):=by
    show _=_;have e1:v.drop i=((an:Int),q) :: v.drop (i+1):=by
     have hl:i<v.length:=by omega
     have:v[i]=((an:Int),q):=by rw [List.getElem?_eq_getElem hl] at haq;exact Option.some.inj haq
     rw [←this];exact List.drop_eq_getElem_cons hl
    rw [←HE.out,e1];show _=dsum p _ (acc+q*p.getD (an:Int).toNat 0);rw [Int.toNat_natCast,List.getD_eq_getElem?_getD,hr2];rfl
   have nB1:B≠wr.heap.size:=by have:=HS.out.z;omega
   clear hr hr' haq hr2 hav hax HE;go_upto_region 5 with fail
   have hb5:=below_alloc (Below.refl wr.heap.size wr) (.cells #[.int .i64 an,.bool ts,.slice tx tn tc,.slice ty tm td] 122);have a0:(wr.alloc (.cells #[.int .i64 an,.bool ts,.slice tx tn tc,.slice ty tm td] 122)).cell? ⟨wr.heap.size,0,none⟩=some (.int .i64 an):=by simp [go_sem]
   have a1:(wr.alloc (.cells #[.int .i64 an,.bool ts,.slice tx tn tc,.slice ty tm td] 122)).cell? ⟨wr.heap.size,1,none⟩=some (.bool ts):=by simp [go_sem]
   have a2:(wr.alloc (.cells #[.int .i64 an,.bool ts,.slice tx tn tc,.slice ty tm td] 122)).cell? ⟨wr.heap.size,2,none⟩=some (.slice tx tn tc):=by simp [go_sem]
   have a3:(wr.alloc (.cells #[.int .i64 an,.bool ts,.slice tx tn tc,.slice ty tm td] 122)).cell? ⟨wr.heap.size,3,none⟩=some (.slice ty tm td):=by simp [go_sem]
   replace p0:=kCb hb5 p0;replace p1:=kCb hb5 p1;replace p2:=kCb hb5 p2
   replace HS:=hid (HS.out.below hb5);replace HO:=hid (HO.out.below hb5);replace HQ:=hid (And.intro HQ.out.1 (HQ.out.2.below hb5));replace HR1:=hid (And.intro HR1.out.1 (And.intro HR1.out.2.1 (HR1.out.2.2.below hb5)));replace HR2:=hid (And.intro HR2.out.1 (And.intro HR2.out.2.1 (HR2.out.2.2.below hb5)))
   replace HB:=hid (HB.out.trans (hb5.mono HB.out.size));clear x0' x1' x2' x3' hb5;generalize wr.alloc (.cells #[.int .i64 an,.bool ts,.slice tx tn tc,.slice ty tm td] 122)=w5 at *;obtain ⟨sz,u0,u1,u2,uf⟩:=HS.out;have hKi:4+i*(2*L+2)≤4+64*(2*L+2):=by
    have h1:i*(2*L+2)≤64*(2*L+2):=Nat.mul_le_mul_right _ (by omega);omega
   obtain ⟨hq1,hq2⟩:=HQ.out.2.len HQ.out.1;have CM:Hid (∀W,Below w5.heap.size w5 W→Calls Tryz.prog 64 #[.agg #[.bool ts,.slice tx tn tc,.slice ty tm td],.agg #[.bool ss,.slice sx sn sc,.slice sy sm sd]] W fun e w'=>∃s x n c d y m e' g,e=.returned (.agg #[.bool s,.slice x n c,.slice y m e'])∧Below W.heap.size W w'∧Hid (Lo (2*L+1) (q*r)∧Qn w' s x n d y m g (q*r))):=fun W hW =>
    (qMul_c (HR1.out.2.2.below hW) (HR2.out.2.2.below hW) (Nat.le_trans HR1.out.1 (by omega)) (Nat.le_trans HR1.out.2.1 (by omega)) (Nat.le_trans HR2.out.1 (by omega)) (Nat.le_trans HR2.out.2.1 (by omega))).mono (fun _ _ ⟨s,x,n,c,d,y,m,c',g,h1,h2,h3,h4,h5⟩=>⟨s,x,n,c,d,y,m,c',g,h1,h2,Lo.mono (lo_mul (HR1.out.2.2.lo HR1.out.1 HR1.out.2.1) (HR2.out.2.2.lo HR2.out.1 HR2.out.2.1)) (by omega),h5⟩)
   have CA:Hid (∀(W:World) (s1:Bool) (x1:Option Addr) (n1 c1:Nat) (d1:Nat→Int) (y1:Option Addr) (m1 e1:Nat) (g1:Nat→Int),Below w5.heap.size w5 W→Lo (2*L+1) (q*r)∧Qn W s1 x1 n1 d1 y1 m1 g1 (q*r)→Calls Tryz.prog 63 #[.agg #[.bool s,.slice x n c,.slice y m e],.agg #[.bool s1,.slice x1 n1 c1,.slice y1 m1 e1]] W fun e w'=>∃s x n c d y m e' g,e=.returned (.agg #[.bool s,.slice x n c,.slice y m e'])∧Below W.heap.size W w'∧Hid (Lo (4+(i+1)*(2*L+2)) (acc+q*r)∧Qn w' s x n d y m g (acc+q*r))):=fun W s1 x1 n1 c1 d1 y1 m1 e1 g1 hW hh=>by
    obtain ⟨k1,k2⟩:=hh.2.len hh.1;refine (qAdd_c (HQ.out.2.below hW) hh.2 (by omega) (by omega) (by omega) (by omega)).mono (fun _ _ ⟨s,x,n,c,d,y,m,c',g,h1,h2,h3,h4,h5⟩=>⟨s,x,n,c,d,y,m,c',g,h1,h2,Lo.mono (lo_add HQ.out.1 hh.1) ?_,h5⟩);rw [Nat.add_mul];omega
   clear hq1 hq2;refine wp_region_held_drew (S:=fun w'=>w'.cell? ⟨wr.heap.size,0,none⟩=some (.int .i64 an)∧w'.cell? ⟨wr.heap.size,1,none⟩=some (.bool ts)∧w'.cell? ⟨wr.heap.size,2,none⟩=some (.slice tx tn tc)∧w'.cell? ⟨wr.heap.size,3,none⟩=some (.slice ty tm td)∧w'.cell? ⟨b',o'+an*3,none⟩=some (.bool ss)∧w'.cell? ⟨b',o'+an*3+1,none⟩=some (.slice sx sn sc)∧w'.cell? ⟨b',o'+an*3+2,none⟩=some (.slice sy sm sd)) (by kernel_rfl) ?_ (fun hHeld=>?_)
   ·(refine ⟨?_,?_,?_,?_,?_,?_,?_⟩ <;> repeat (with_reducible first | assumption | refine kCd ?_))
   refine tkO 1 ?_;simp only [lay_,Act.put];refine tkO 2 ?_;simp only [lay_,Act.put];refine tkO 3 ?_;simp only [lay_,Act.put];refine tkO 4 ?_;simp only [lay_,Act.put];refine tkO 5 ?_;simp only [lay_,Act.put];refine tkO 6 ?_;simp only [lay_,Act.put];refine tkO 7 ?_;simp only [lay_,Act.put];refine wpAnyH_ready (rs:=[0,8]) (by kernel_rfl) (by simp) ?_;refine AllReadyH.cons (o:=_) rfl (fun K hK=>?_) ?_
   ·go_simp;refine hK.out _ _ ?_ (fun hHeld2=>?_)
    ·((try dsimp only);(refine ⟨?_,?_,?_,?_,?_,?_,?_⟩ <;> repeat (with_reducible first | assumption | refine kCd ?_)))
    clear hK K;try simp only [lay_,Act.put]
    refine wpAnyH_ready (rs:=[8]) (by kernel_rfl) (by simp) ?_;refine AllReadyH.cons (o:=_) rfl (fun K hK=>?_) ?_;rotate_left;exact AllReadyH.nil;go_simp
    go_at_call 64
    with_reducible refine (CM.out _ belB).mono ?_
    rintro e w6 ⟨s8,x8,n8,c8,d8,y8,m8,e8,g8,rfl,hb6,H8⟩;have B6:Below w5.heap.size w5 w6:=belB;have S6:=HS.out.below B6;obtain ⟨_,v0,v1,v2,vf6⟩:=id S6
    (try go_wp2_with fail)
    refine hK.out _ _ ?_ (fun hHeld3=>?_)
    ·((try dsimp only);(refine ⟨?_,?_,?_,?_,?_,?_,?_⟩ <;> repeat (with_reducible first | assumption | refine kCb B6 ?_)))
    clear hK K;try simp only [lay_,Act.put]
    refine wpAnyH_ready (rs:=[9]) (by kernel_rfl) (by simp) ?_;refine AllReadyH.cons (o:=_) rfl (fun K hK=>?_) ?_;rotate_left;exact AllReadyH.nil;go_simp
    go_at_call 63
    with_reducible refine (CA.out _ s8 x8 n8 c8 d8 y8 m8 e8 g8 belB ⟨H8.out.1,H8.out.2⟩).mono ?_
    rintro e w7 ⟨s9,x9,n9,c9,d9,y9,m9,e9,g9,rfl,hb7,H9⟩;have B7:Below w5.heap.size w5 w7:=belB;have S7:=HS.out.below B7;have O7:=HO.out.below B7;obtain ⟨_,t0,t1,t2,tf7⟩:=id S7
    (try go_wp2_with fail)
    refine hK.out _ _ ?_ (fun hHeld4=>?_)
    ·((try dsimp only);(refine ⟨?_,?_,?_,?_,?_,?_,?_⟩ <;> repeat (with_reducible first | assumption | refine kCb B7 ?_)))
    clear hK K;try simp only [lay_,Act.put]
    refine wpAnyH_ready (rs:=[10]) (by kernel_rfl) (by simp) ?_;refine AllReadyH.cons (o:=_) rfl (fun K hK=>?_) ?_;rotate_left;exact AllReadyH.nil;go_simp;refine hK.out _ _ ?_ (fun hHeld9=>?_)
    ·((try dsimp only);(refine ⟨?_,?_,?_,?_,?_,?_,?_⟩ <;> repeat (with_reducible first | assumption | refine kCs (by simp only [ne_eq];omega) ?_ | refine kCb B7 ?_)))
    clear hK K;try simp only [lay_,Act.put]
    refine wpAnyH_done (by kernel_rfl) ?_ _;have R1:=hid (And.intro (S7.st (s1:=s9) (x1:=x9) (n1:=n9) (c1:=c9) (y1:=y9) (m1:=m9) (d1:=e9)) (And.intro (S7.qn (u0:=.bool s9) (u1:=.slice x9 n9 c9) (u2:=.slice y9 m9 e9) H9.out.2) (And.intro (O7.far3 (u0:=.bool s9) (u1:=.slice x9 n9 c9) (u2:=.slice y9 m9 e9) (show B≠w.heap.size by omega)) (below_st (B:=B) (u0:=.bool s9) (u1:=.slice x9 n9 c9) (u2:=.slice y9 m9 e9) (HB.out.trans (B7.mono HB.out.size)) (by omega)))));have L9:=hid H9.out.1;clear hHeld a0 a1 a2 a3 p0 p1 p2 u0 u1 u2 uf t0 t1 t2 tf7 CM CA S7 O7 B7 H8 H9 HS HO HQ HR1 HR2 HB;generalize ((w7.setCell ⟨B,0,none⟩ (.bool s9)).setCell ⟨B,1,none⟩ (.slice x9 n9 c9)).setCell ⟨B,2,none⟩ (.slice y9 m9 e9)=w9 at *;go_wp2;go_roundw
    case rel=>exact ⟨i+1,acc+q*r,s9,x9,n9,c9,d9,y9,m9,e9,g9,by omega,by go_num,R1.out.2.2.2,R1.out.1,R1.out.2.2.1,⟨L9.out,R1.out.2.1⟩,HD.out⟩
    case measure=>simp [intOf];omega
   refine AllReadyH.cons (o:=_) rfl (fun K hK=>?_) ?_
   ·go_simp
    go_at_call 64
    with_reducible refine (CM.out _ belB).mono ?_
    rintro e w6 ⟨s8,x8,n8,c8,d8,y8,m8,e8,g8,rfl,hb6,H8⟩;have B6:Below w5.heap.size w5 w6:=belB;have S6:=HS.out.below B6;obtain ⟨_,v0,v1,v2,vf6⟩:=id S6
    (try go_wp2_with fail)
    refine hK.out _ _ ?_ (fun hHeld3=>?_)
    ·((try dsimp only);(refine ⟨?_,?_,?_,?_,?_,?_,?_⟩ <;> repeat (with_reducible first | assumption | refine kCb B6 ?_)))
    clear hK K;try simp only [lay_,Act.put]
    refine wpAnyH_ready (rs:=[0]) (by kernel_rfl) (by simp) ?_;refine AllReadyH.cons (o:=_) rfl (fun K hK=>?_) ?_;rotate_left;exact AllReadyH.nil;go_simp;refine hK.out _ _ ?_ (fun hHeld2=>?_)
    ·((try dsimp only);(refine ⟨?_,?_,?_,?_,?_,?_,?_⟩ <;> repeat (with_reducible first | assumption | refine kCb B6 ?_)))
    clear hK K;try simp only [lay_,Act.put]
    refine wpAnyH_ready (rs:=[9]) (by kernel_rfl) (by simp) ?_;refine AllReadyH.cons (o:=_) rfl (fun K hK=>?_) ?_;rotate_left;exact AllReadyH.nil;go_simp
    go_at_call 63
    with_reducible refine (CA.out _ s8 x8 n8 c8 d8 y8 m8 e8 g8 belB ⟨H8.out.1,H8.out.2⟩).mono ?_
    rintro e w7 ⟨s9,x9,n9,c9,d9,y9,m9,e9,g9,rfl,hb7,H9⟩;have B7:Below w5.heap.size w5 w7:=belB;have S7:=HS.out.below B7;have O7:=HO.out.below B7;obtain ⟨_,t0,t1,t2,tf7⟩:=id S7
    (try go_wp2_with fail)
    refine hK.out _ _ ?_ (fun hHeld4=>?_)
    ·((try dsimp only);(refine ⟨?_,?_,?_,?_,?_,?_,?_⟩ <;> repeat (with_reducible first | assumption | refine kCb B7 ?_)))
    clear hK K;try simp only [lay_,Act.put]
    refine wpAnyH_ready (rs:=[10]) (by kernel_rfl) (by simp) ?_;refine AllReadyH.cons (o:=_) rfl (fun K hK=>?_) ?_;rotate_left;exact AllReadyH.nil;go_simp;refine hK.out _ _ ?_ (fun hHeld9=>?_)
    ·((try dsimp only);(refine ⟨?_,?_,?_,?_,?_,?_,?_⟩ <;> repeat (with_reducible first | assumption | refine kCs (by simp only [ne_eq];omega) ?_ | refine kCb B7 ?_)))
    clear hK K;try simp only [lay_,Act.put]
    refine wpAnyH_done (by kernel_rfl) ?_ _;have R1:=hid (And.intro (S7.st (s1:=s9) (x1:=x9) (n1:=n9) (c1:=c9) (y1:=y9) (m1:=m9) (d1:=e9)) (And.intro (S7.qn (u0:=.bool s9) (u1:=.slice x9 n9 c9) (u2:=.slice y9 m9 e9) H9.out.2) (And.intro (O7.far3 (u0:=.bool s9) (u1:=.slice x9 n9 c9) (u2:=.slice y9 m9 e9) (show B≠w.heap.size by omega)) (below_st (B:=B) (u0:=.bool s9) (u1:=.slice x9 n9 c9) (u2:=.slice y9 m9 e9) (HB.out.trans (B7.mono HB.out.size)) (by omega)))));have L9:=hid H9.out.1;clear hHeld a0 a1 a2 a3 p0 p1 p2 u0 u1 u2 uf t0 t1 t2 tf7 CM CA S7 O7 B7 H8 H9 HS HO HQ HR1 HR2 HB;generalize ((w7.setCell ⟨B,0,none⟩ (.bool s9)).setCell ⟨B,1,none⟩ (.slice x9 n9 c9)).setCell ⟨B,2,none⟩ (.slice y9 m9 e9)=w9 at *;go_wp2;go_roundw
    case rel=>exact ⟨i+1,acc+q*r,s9,x9,n9,c9,d9,y9,m9,e9,g9,by omega,by go_num,R1.out.2.2.2,R1.out.1,R1.out.2.2.1,⟨L9.out,R1.out.2.1⟩,HD.out⟩
    case measure=>simp [intOf];omega
   exact AllReadyH.nil
  ·have e1:i=k:=by omega
   have HF:Hid (acc=dsum p v 0):=by
    show _=_;rw [←HE.out,e1,←lv,List.drop_length];rfl
   have i2:¬(((i:Nat):Int)<((k:Nat):Int)):=by omega
   have hKi:4+i*(2*L+2)≤4+64*(2*L+2):=by
    have h1:i*(2*L+2)≤64*(2*L+2):=Nat.mul_le_mul_right _ (by omega);omega
   obtain ⟨hq1,hq2⟩:=HQ.out.2.len HQ.out.1;obtain ⟨sz,u0,u1,u2,uf⟩:=HS.out;obtain ⟨hz,z0,z1,z2,zf⟩:=HO.out;clear e1 HE;go_wp2;exact bodyPost_ret (v:=.agg #[.bool s,.slice x n c,.slice y m e]) (by simp [results,Tryz.results36,go_sem,z0,z1,z2]) rfl ⟨s,x,n,c,d,y,m,e,g,rfl,below_st HB.out (by omega),by omega,by omega,by rw [←HF.out];exact HO.out.qn HQ.out.2⟩
def KE (L:Nat):Nat:=2*(4+64*(2*L+2))
theorem qnt_up {K K' w t q} (h:QnT K w t q) (hk:K≤K'):QnT K' w t q:=⟨Nat.le_trans h.1 hk,Nat.le_trans h.2.1 hk,h.2.2⟩
theorem feasB_all (cs:List CV) (rs:List RV) (xs:List Rat):feasB cs rs xs=(allB (fun j=>!(bcB cs xs j)) cs.length && allB (fun j=>!(brB rs xs j)) rs.length):=by
 rw [Bool.eq_iff_iff];simp only [feasB,Bool.and_eq_true,decide_eq_true_eq,crl_nil,allB_iff,Bool.not_eq_true']
theorem allB_no {B:Nat→Bool} {n j:Nat} (h:j<n) (hj:B j=false):allB B n=false:=by
 cases e:allB B n
 ·rfl
 ·have:=allB_iff.1 e j h;rw [hj] at this;cases this
set_option maxRecDepth 100000 in
set_option maxHeartbeats 8000000 in
theorem rFeas_c {w:World} {L:Nat} {M:Mo} {off:Rat} {cs:List CV} {rs:List RV} {ax:Option Addr} {k cap:Nat} {xs:List Rat} (h:MqV (2*L) w M off cs rs) (hx:Rqs (2*L) w ax xs) (hk:xs.length=k) (hkc:k=cs.length) (hm:MvP cs rs) (hL:L≤60) :
  Calls Tryz.prog 42 #[M.val,.slice ax k cap] w fun e w'=>e=.returned (.bool (allB (fun j=>!(bcB cs xs j)) cs.length && allB (fun j=>!(brB rs xs j)) rs.length))∧Below w.heap.size w w':=by
 have hP:=hid hm;obtain ⟨⟨s,x,n,c,f,y,m,d,g⟩,ca,ck,cc,C,ra,rk,rc,R⟩:=M;have hck:ck=cs.length:=h.ck;have hrk:rk=rs.length:=h.rk;subst hck;subst hrk;have HC:Hid (∀j v,cs[j]?=some v→(∃b o,ca=some ⟨b,o,none⟩∧Cs w b (o+j*12) (C j).vs)∧QcV (2*L) w (C j) v):=h.cls;have HR:Hid (∀j v,rs[j]?=some v→(∃b o,ra=some ⟨b,o,none⟩∧Cs w b (o+j*10) (R j).vs)∧QrV (2*L) w (R j) v):=h.rls;have HX:=hid hx;clear h hx;subst hkc;have hcl:=hP.out.cl;have hrl:=hP.out.rl;have HB0:=hid (below_alloc (Below.refl w.heap.size w) (.cells #[.bool s,.slice x n c,.slice y m d,.slice ca cs.length cc,.slice ra rs.length rc] 64));have BM:Hid (Bk (w.alloc (.cells #[.bool s,.slice x n c,.slice y m d,.slice ca cs.length cc,.slice ra rs.length rc] 64)) w.heap.size [.bool s,.slice x n c,.slice y m d,.slice ca cs.length cc,.slice ra rs.length rc] 64):=bk_new w [.bool s,.slice x n c,.slice y m d,.slice ca cs.length cc,.slice ra rs.length rc] 64;obtain ⟨pc,hpc⟩:∃t,(fun j=>!(bcB cs xs j))=t:=⟨_,rfl⟩;obtain ⟨pr,hpr⟩:∃t,(fun j=>!(brB rs xs j))=t:=⟨_,rfl⟩;rw [hpc,hpr];have HPC:=hid hpc;have HPR:=hid hpr
 clear hpc hpr;show Calls Tryz.prog 42 #[.agg #[.bool s,.slice x n c,.slice y m d,.slice ca cs.length cc,.slice ra rs.length rc],.slice ax cs.length cap] w _;have r3:=BM.out.cell (j:=3) rfl;go_enter Tryz.func42,Tryz.ntmps42;go_wp2_with fail
 clear r3;generalize (w.alloc (.cells #[.bool s,.slice x n c,.slice y m d,.slice ca cs.length cc,.slice ra rs.length rc] 64))=w0 at *;go_loopw [12] (fun t wr=>∃(i:Nat),i≤cs.length∧t=.int .i64 i∧Hid (Below w0.heap.size w0 wr)∧Hid (∀j,j<i→pc j=true)) (fun t _=>cs.length-(intOf t).toNat)
 case atStart=>exact ⟨0,by omega,rfl,Below.refl _ _,fun j hj=>by omega⟩
 case round =>
  obtain ⟨i,hi,rfl,HB,HT⟩:=hrel;by_cases hlt:i<cs.length
  ·obtain ⟨v,hv⟩:∃v,cs[i]?=some v:=⟨_,List.getElem?_eq_getElem hlt⟩;obtain ⟨q,hq⟩:∃t,xs[i]?=some t:=⟨_,List.getElem?_eq_getElem (by omega)⟩;have hbw:=HB0.out.trans (HB.out.mono HB0.out.size);obtain ⟨⟨b,o,hca,hc0⟩,hn⟩:=HC.out i v hv;subst hca;have hc:=hc0.below hbw;replace hn:=hn.below hbw;obtain ⟨b',o',⟨s3,x3,n3,c3,f3,y3,m3,d3,g3⟩,hax,hcx,hqx⟩:=(HX.out.below hbw) i q hq;subst hax;have hbd:=hP.out.cb v (List.mem_of_getElem? hv);obtain ⟨t1,ht1⟩:∃t,pc i=t:=⟨_,rfl⟩;have CA:=hid (fun W (hW:Below wr.heap.size wr W)=>rKeeps_c (K:=2*L) (w:=W) (hn.lq.below hW) hn.li (hn.hq.below hW) hn.hi (hqx.below hW) (by omega) hbd);rw [show kpsB q v.li v.lq v.hi v.hq=t1 from by rw [←ht1,←HPC.out];simp only [bcB,hv,hq,Bool.not_not]] at CA;obtain ⟨⟨z,⟨s0,x0,n0,c0,f0,y0,m0,d0,g0⟩,⟨i1,⟨s1,x1,n1,c1,f1,y1,m1,d1,g1⟩⟩,⟨i2,⟨s2,x2,n2,c2,f2,y2,m2,d2,g2⟩⟩⟩,hCi⟩:∃t,C i=t:=⟨_,rfl⟩;rw [hCi] at hc CA;replace CA:Hid (∀W,Below wr.heap.size wr W→Calls Tryz.prog 22 #[.agg #[.int .i64 i1,.bool s1,.slice x1 n1 c1,.slice y1 m1 d1],.agg #[.int .i64 i2,.bool s2,.slice x2 n2 c2,.slice y2 m2 d2],.agg #[.bool s3,.slice x3 n3 c3,.slice y3 m3 d3]] W fun e w2=>e=.returned (.bool t1)∧Below W.heap.size W w2):=CA;have q0:wr.cell? ⟨b,o+i*12,none⟩=some (.string z):=hc 0 _ rfl;have q1:wr.cell? ⟨b,o+i*12+1,none⟩=some (.bool s0):=hc 1 _ rfl;have q2:wr.cell? ⟨b,o+i*12+2,none⟩=some (.slice x0 n0 c0):=hc 2 _ rfl;have q3:wr.cell? ⟨b,o+i*12+3,none⟩=some (.slice y0 m0 d0):=hc 3 _ rfl;have q4:wr.cell? ⟨b,o+i*12+4,none⟩=some (.int .i64 i1):=hc 4 _ rfl;have q5:wr.cell? ⟨b,o+i*12+5,none⟩=some (.bool s1):=hc 5 _ rfl;have q6:wr.cell? ⟨b,o+i*12+6,none⟩=some (.slice x1 n1 c1):=hc 6 _ rfl;have q7:wr.cell? ⟨b,o+i*12+7,none⟩=some (.slice y1 m1 d1):=hc 7 _ rfl;have q8:wr.cell? ⟨b,o+i*12+8,none⟩=some (.int .i64 i2):=hc 8 _ rfl;have q9:wr.cell? ⟨b,o+i*12+9,none⟩=some (.bool s2):=hc 9 _ rfl;have q10:wr.cell? ⟨b,o+i*12+10,none⟩=some (.slice x2 n2 c2):=hc 10 _ rfl;have q11:wr.cell? ⟨b,o+i*12+11,none⟩=some (.slice y2 m2 d2):=hc 11 _ rfl;obtain ⟨p0,p1,p2⟩:=hcx;replace p0:wr.cell? ⟨b',o'+i*3,none⟩=some (.bool s3):=p0;replace p1:wr.cell? ⟨b',o'+i*3+1,none⟩=some (.slice x3 n3 c3):=p1;replace p2:wr.cell? ⟨b',o'+i*3+2,none⟩=some (.slice y3 m3 d3):=p2;have hbt:=below_alloc (Below.refl wr.heap.size wr) (.cells #[.string z,.bool s0,.slice x0 n0 c0,.slice y0 m0 d0,.int .i64 i1,.bool s1,.slice x1 n1 c1,.slice y1 m1 d1,.int .i64 i2,.bool s2,.slice x2 n2 c2,.slice y2 m2 d2] 69);have BC:Bk (wr.alloc (.cells #[.string z,.bool s0,.slice x0 n0 c0,.slice y0 m0 d0,.int .i64 i1,.bool s1,.slice x1 n1 c1,.slice y1 m1 d1,.int .i64 i2,.bool s2,.slice x2 n2 c2,.slice y2 m2 d2] 69)) wr.heap.size [.string z,.bool s0,.slice x0 n0 c0,.slice y0 m0 d0,.int .i64 i1,.bool s1,.slice x1 n1 c1,.slice y1 m1 d1,.int .i64 i2,.bool s2,.slice x2 n2 c2,.slice y2 m2 d2] 69:=bk_new wr [.string z,.bool s0,.slice x0 n0 c0,.slice y0 m0 d0,.int .i64 i1,.bool s1,.slice x1 n1 c1,.slice y1 m1 d1,.int .i64 i2,.bool s2,.slice x2 n2 c2,.slice y2 m2 d2] 69;have HT1:=hid ht1;have i1':((i:Nat):Int)<((cs.length:Nat):Int):=by omega
   clear hCi hc hc0 hn ht1 hv hq hqx hbd hbw;go_upto_region 4 with fail
   clear q0 q1 q2 q3 q4 q5 q6 q7 q8 q9 q10 q11;replace p0:=kCb hbt p0;replace p1:=kCb hbt p1;replace p2:=kCb hbt p2
   have a4:=BC.cell (j:=4) rfl;have a5:=BC.cell (j:=5) rfl;have a6:=BC.cell (j:=6) rfl;have a7:=BC.cell (j:=7) rfl;have a8:=BC.cell (j:=8) rfl;have a9:=BC.cell (j:=9) rfl;have a10:=BC.cell (j:=10) rfl;have a11:=BC.cell (j:=11) rfl;replace CA:=hid (fun W (hW:Below (wr.alloc (.cells #[.string z,.bool s0,.slice x0 n0 c0,.slice y0 m0 d0,.int .i64 i1,.bool s1,.slice x1 n1 c1,.slice y1 m1 d1,.int .i64 i2,.bool s2,.slice x2 n2 c2,.slice y2 m2 d2] 69)).heap.size (wr.alloc (.cells #[.string z,.bool s0,.slice x0 n0 c0,.slice y0 m0 d0,.int .i64 i1,.bool s1,.slice x1 n1 c1,.slice y1 m1 d1,.int .i64 i2,.bool s2,.slice x2 n2 c2,.slice y2 m2 d2] 69)) W)=>CA.out W (hbt.trans (hW.mono hbt.size)));replace HB:=hid (HB.out.trans (hbt.mono HB.out.size));clear hbt BC;generalize hbx:wr.heap.size=bx at *;generalize wr.alloc (.cells #[.string z,.bool s0,.slice x0 n0 c0,.slice y0 m0 d0,.int .i64 i1,.bool s1,.slice x1 n1 c1,.slice y1 m1 d1,.int .i64 i2,.bool s2,.slice x2 n2 c2,.slice y2 m2 d2] 69)=w5 at *;clear hbx;refine wp_region_held_drew (S:=(fun w'=>w'.cell? ⟨bx,4,none⟩=some (.int .i64 i1)∧w'.cell? ⟨bx,5,none⟩=some (.bool s1)∧w'.cell? ⟨bx,6,none⟩=some (.slice x1 n1 c1)∧w'.cell? ⟨bx,7,none⟩=some (.slice y1 m1 d1)∧w'.cell? ⟨bx,8,none⟩=some (.int .i64 i2)∧w'.cell? ⟨bx,9,none⟩=some (.bool s2)∧w'.cell? ⟨bx,10,none⟩=some (.slice x2 n2 c2)∧w'.cell? ⟨bx,11,none⟩=some (.slice y2 m2 d2)∧w'.cell? ⟨b',o'+i*3,none⟩=some (.bool s3)∧w'.cell? ⟨b',o'+i*3+1,none⟩=some (.slice x3 n3 c3)∧w'.cell? ⟨b',o'+i*3+2,none⟩=some (.slice y3 m3 d3))) (by kernel_rfl) ?_ (fun hHeld=>?_)
   ·(refine ⟨?_,?_,?_,?_,?_,?_,?_,?_,?_,?_,?_⟩ <;> repeat (with_reducible first | assumption | refine kCd ?_))
   refine tkO 0 ?_;simp only [lay_,Act.put];refine tkO 1 ?_;simp only [lay_,Act.put];refine tkO 2 ?_;simp only [lay_,Act.put];refine tkO 3 ?_;simp only [lay_,Act.put];refine tkO 4 ?_;simp only [lay_,Act.put];refine tkO 5 ?_;simp only [lay_,Act.put];refine tkO 6 ?_;simp only [lay_,Act.put];refine tkO 7 ?_;simp only [lay_,Act.put];refine wpAnyH_ready (rs:=[8]) (by kernel_rfl) (by simp) ?_;refine AllReadyH.cons (o:=_) rfl (fun K hK=>?_) ?_;rotate_left;exact AllReadyH.nil;go_simp
   go_at_call 22
   refine (CA.out _ (Below.drew (Below.refl _ _))).mono ?_;rintro e w6 ⟨rfl,hb6⟩
   (try go_wp2_with fail)
   refine hK.out _ _ ?_ (fun hH=>?_)
   ·((try dsimp only);(refine ⟨?_,?_,?_,?_,?_,?_,?_,?_,?_,?_,?_⟩ <;> repeat (with_reducible first | assumption | refine kCb (by assumption) ?_ | refine kCd ?_)))
   clear hK K;try simp only [lay_,Act.put]
   refine tkO 9 ?_;simp only [lay_,Act.put];refine wpAnyH_done (by kernel_rfl) ?_ _;replace HB:=hid (HB.out.drew.trans (hb6.mono HB.out.drew.size));clear hHeld hH hb6 CA p0 p1 p2 a4 a5 a6 a7 a8 a9 a10 a11;cases t1
   ·have HF:Hid (allB pc cs.length=false):=allB_no hlt HT1.out;clear HT1 HT;go_wp2;go_ret;exact ⟨by rw [HF.out];rfl,HB0.out.trans (HB.out.mono HB0.out.size)⟩
   ·have HT2:Hid (∀j,j<i+1→pc j=true):=fun j hj=>by
     by_cases e:j=i
     ·rw [e];exact HT1.out
     ·exact HT.out j (by omega)
    clear HT1 HT;go_wp2;go_roundw
    case rel=>exact ⟨i+1,by omega,by go_num,HB.out,HT2.out⟩
    case measure=>simp [intOf];omega
  ·have e1:i=cs.length:=by omega
   have i4':¬(((i:Nat):Int)<((cs.length:Nat):Int)):=by omega
   rw [e1] at HT;have HAC:Hid (allB pc cs.length=true):=allB_iff.2 HT.out;have r4:=(BM.out.below HB.out).cell (j:=4) rfl;have HW:=hid HB.out;clear e1 HT HB;go_wp2_with fail
   clear r4 i4' hi;generalize wr=w1 at *;go_loopw [31] (fun t wr=>∃(i:Nat),i≤rs.length∧t=.int .i64 i∧Hid (Below w1.heap.size w1 wr)∧Hid (∀j,j<i→pr j=true)) (fun t _=>rs.length-(intOf t).toNat)
   case atStart=>exact ⟨0,by omega,rfl,Below.refl _ _,fun j hj=>by omega⟩
   case round =>
    obtain ⟨i,hi,rfl,HB,HT⟩:=hrel;by_cases hlt:i<rs.length
    ·obtain ⟨v,hv⟩:∃v,rs[i]?=some v:=⟨_,List.getElem?_eq_getElem hlt⟩;have hbw:=(HB0.out.trans (HW.out.mono HB0.out.size)).trans (HB.out.mono (Nat.le_trans HB0.out.size HW.out.size));obtain ⟨⟨b,o,hra,hc0⟩,hn⟩:=HR.out i v hv;subst hra;have hc:=hc0.below hbw;replace hn:=hn.below hbw;have hvm:=List.mem_of_getElem? hv;have hbd:=hP.out.rb v hvm;obtain ⟨t1,ht1⟩:∃t,pr i=t:=⟨_,rfl⟩;have CA:Hid (∀(t:Nm) W,Below wr.heap.size wr W→QnT (KE L) W t (dsum xs v.ts 0)→Calls Tryz.prog 22 #[(R i).lo.val,(R i).hi.val,t.val] W fun e w2=>e=.returned (.bool t1)∧Below W.heap.size W w2):=fun t W hW ht=>by
      have:=rKeeps_c (K:=KE L) (w:=W) (qnt_up (hn.lq.below hW) (by unfold KE;omega)) hn.li (qnt_up (hn.hq.below hW) (by unfold KE;omega)) hn.hi ht (by unfold KE;omega) hbd;rw [show kpsB (dsum xs v.ts 0) v.li v.lq v.hi v.hq=t1 from by rw [←ht1,←HPR.out];simp only [brB,hv,Bool.not_not,actQ,dsum_psum]] at this;exact this
     have CD:Hid (∀W,Below wr.heap.size wr W→Calls Tryz.prog 36 #[.slice (R i).ta (R i).tk (R i).tc,.slice ax cs.length cap] W fun e w2=>QAns (KE L) W w2 e (dsum xs v.ts 0)):=fun W hW=>fDot_c (L:=L) (hn.tl.below hW) ((HX.out.below hbw).below hW) hn.tk.symm hk (by rw [hn.tk];exact hP.out.tl v hvm) (by omega) (fun j a q e=>hP.out.tc v hvm (a,q) (List.mem_of_getElem? e))
     obtain ⟨⟨z,⟨i1,⟨s1,x1,n1,c1,f1,y1,m1,d1,g1⟩⟩,⟨i2,⟨s2,x2,n2,c2,f2,y2,m2,d2,g2⟩⟩,ta,tk,tc,tcol,tt⟩,hCi⟩:∃t,R i=t:=⟨_,rfl⟩;rw [hCi] at hc CA CD;replace CA:Hid (∀(t:Nm) W,Below wr.heap.size wr W→QnT (KE L) W t (dsum xs v.ts 0)→Calls Tryz.prog 22 #[.agg #[.int .i64 i1,.bool s1,.slice x1 n1 c1,.slice y1 m1 d1],.agg #[.int .i64 i2,.bool s2,.slice x2 n2 c2,.slice y2 m2 d2],t.val] W fun e w2=>e=.returned (.bool t1)∧Below W.heap.size W w2):=CA;replace CD:Hid (∀W,Below wr.heap.size wr W→Calls Tryz.prog 36 #[.slice ta tk tc,.slice ax cs.length cap] W fun e w2=>QAns (KE L) W w2 e (dsum xs v.ts 0)):=CD;have q0:wr.cell? ⟨b,o+i*10,none⟩=some (.string z):=hc 0 _ rfl;have q1:wr.cell? ⟨b,o+i*10+1,none⟩=some (.int .i64 i1):=hc 1 _ rfl;have q2:wr.cell? ⟨b,o+i*10+2,none⟩=some (.bool s1):=hc 2 _ rfl;have q3:wr.cell? ⟨b,o+i*10+3,none⟩=some (.slice x1 n1 c1):=hc 3 _ rfl;have q4:wr.cell? ⟨b,o+i*10+4,none⟩=some (.slice y1 m1 d1):=hc 4 _ rfl;have q5:wr.cell? ⟨b,o+i*10+5,none⟩=some (.int .i64 i2):=hc 5 _ rfl;have q6:wr.cell? ⟨b,o+i*10+6,none⟩=some (.bool s2):=hc 6 _ rfl;have q7:wr.cell? ⟨b,o+i*10+7,none⟩=some (.slice x2 n2 c2):=hc 7 _ rfl;have q8:wr.cell? ⟨b,o+i*10+8,none⟩=some (.slice y2 m2 d2):=hc 8 _ rfl;have q9:wr.cell? ⟨b,o+i*10+9,none⟩=some (.slice ta tk tc):=hc 9 _ rfl;have hbt:=below_alloc (Below.refl wr.heap.size wr) (.cells #[.string z,.int .i64 i1,.bool s1,.slice x1 n1 c1,.slice y1 m1 d1,.int .i64 i2,.bool s2,.slice x2 n2 c2,.slice y2 m2 d2,.slice ta tk tc] 75);have BC:Bk (wr.alloc (.cells #[.string z,.int .i64 i1,.bool s1,.slice x1 n1 c1,.slice y1 m1 d1,.int .i64 i2,.bool s2,.slice x2 n2 c2,.slice y2 m2 d2,.slice ta tk tc] 75)) wr.heap.size [.string z,.int .i64 i1,.bool s1,.slice x1 n1 c1,.slice y1 m1 d1,.int .i64 i2,.bool s2,.slice x2 n2 c2,.slice y2 m2 d2,.slice ta tk tc] 75:=bk_new wr [.string z,.int .i64 i1,.bool s1,.slice x1 n1 c1,.slice y1 m1 d1,.int .i64 i2,.bool s2,.slice x2 n2 c2,.slice y2 m2 d2,.slice ta tk tc] 75;have HT1:=hid ht1;have i1':((i:Nat):Int)<((rs.length:Nat):Int):=by omega
     clear hCi hc hc0 hn ht1 hv hvm hbd hbw;go_upto_region 10 with fail
     clear q0 q1 q2 q3 q4 q5 q6 q7 q8 q9;have a1:=BC.cell (j:=1) rfl;have a2:=BC.cell (j:=2) rfl;have a3:=BC.cell (j:=3) rfl;have a4:=BC.cell (j:=4) rfl;have a5:=BC.cell (j:=5) rfl;have a6:=BC.cell (j:=6) rfl;have a7:=BC.cell (j:=7) rfl;have a8:=BC.cell (j:=8) rfl;have a9:=BC.cell (j:=9) rfl;replace CA:=hid (fun (t:Nm) W (hW:Below (wr.alloc (.cells #[.string z,.int .i64 i1,.bool s1,.slice x1 n1 c1,.slice y1 m1 d1,.int .i64 i2,.bool s2,.slice x2 n2 c2,.slice y2 m2 d2,.slice ta tk tc] 75)).heap.size (wr.alloc (.cells #[.string z,.int .i64 i1,.bool s1,.slice x1 n1 c1,.slice y1 m1 d1,.int .i64 i2,.bool s2,.slice x2 n2 c2,.slice y2 m2 d2,.slice ta tk tc] 75)) W)=>CA.out t W (hbt.trans (hW.mono hbt.size)));replace CD:=hid (fun W (hW:Below (wr.alloc (.cells #[.string z,.int .i64 i1,.bool s1,.slice x1 n1 c1,.slice y1 m1 d1,.int .i64 i2,.bool s2,.slice x2 n2 c2,.slice y2 m2 d2,.slice ta tk tc] 75)).heap.size (wr.alloc (.cells #[.string z,.int .i64 i1,.bool s1,.slice x1 n1 c1,.slice y1 m1 d1,.int .i64 i2,.bool s2,.slice x2 n2 c2,.slice y2 m2 d2,.slice ta tk tc] 75)) W)=>CD.out W (hbt.trans (hW.mono hbt.size)));replace HB:=hid (HB.out.trans (hbt.mono HB.out.size));clear hbt BC;generalize hbx:wr.heap.size=bx at *;generalize wr.alloc (.cells #[.string z,.int .i64 i1,.bool s1,.slice x1 n1 c1,.slice y1 m1 d1,.int .i64 i2,.bool s2,.slice x2 n2 c2,.slice y2 m2 d2,.slice ta tk tc] 75)=w5 at *;clear hbx;refine wp_region_held_drew (S:=(fun w'=>w'.cell? ⟨bx,1,none⟩=some (.int .i64 i1)∧w'.cell? ⟨bx,2,none⟩=some (.bool s1)∧w'.cell? ⟨bx,3,none⟩=some (.slice x1 n1 c1)∧w'.cell? ⟨bx,4,none⟩=some (.slice y1 m1 d1)∧w'.cell? ⟨bx,5,none⟩=some (.int .i64 i2)∧w'.cell? ⟨bx,6,none⟩=some (.bool s2)∧w'.cell? ⟨bx,7,none⟩=some (.slice x2 n2 c2)∧w'.cell? ⟨bx,8,none⟩=some (.slice y2 m2 d2)∧w'.cell? ⟨bx,9,none⟩=some (.slice ta tk tc))) (by kernel_rfl) ?_ (fun hHeld=>?_)
     ·(refine ⟨?_,?_,?_,?_,?_,?_,?_,?_,?_⟩ <;> repeat (with_reducible first | assumption | refine kCd ?_))
     refine tkO 0 ?_;simp only [lay_,Act.put];refine tkO 1 ?_;simp only [lay_,Act.put];refine tkO 2 ?_;simp only [lay_,Act.put];refine tkO 3 ?_;simp only [lay_,Act.put];refine tkO 4 ?_;simp only [lay_,Act.put];refine tkO 5 ?_;simp only [lay_,Act.put];refine tkO 6 ?_;simp only [lay_,Act.put];refine wpAnyH_ready (rs:=[7]) (by kernel_rfl) (by simp) ?_;refine AllReadyH.cons (o:=_) rfl (fun K hK=>?_) ?_;rotate_left;exact AllReadyH.nil;go_simp
     go_at_call 36
     refine (CD.out _ (Below.drew (Below.refl _ _))).mono ?_;rintro e w6 ⟨s4,x4,n4,c4,f4,y4,m4,d4,g4,rfl,hb6,hq1,hq2,hq⟩
     (try go_wp2_with fail)
     refine hK.out _ _ ?_ (fun hH6=>?_)
     ·((try dsimp only);(refine ⟨?_,?_,?_,?_,?_,?_,?_,?_,?_⟩ <;> repeat (with_reducible first | assumption | refine kCb (by assumption) ?_ | refine kCd ?_)))
     clear hK K;try simp only [lay_,Act.put]
     refine wpAnyH_ready (rs:=[8]) (by kernel_rfl) (by simp) ?_;refine AllReadyH.cons (o:=_) rfl (fun K hK=>?_) ?_;rotate_left;exact AllReadyH.nil;go_simp
     go_at_call 22
     refine (CA.out ⟨s4,x4,n4,c4,f4,y4,m4,d4,g4⟩ w6 belB ⟨hq1,hq2,hq⟩).mono ?_;rintro e w7 ⟨rfl,hb7⟩
     (try go_wp2_with fail)
     refine hK.out _ _ ?_ (fun hH7=>?_)
     ·((try dsimp only);(refine ⟨?_,?_,?_,?_,?_,?_,?_,?_,?_⟩ <;> repeat (with_reducible first | assumption | refine kCb (by assumption) ?_ | refine kCd ?_)))
     clear hK K;try simp only [lay_,Act.put]
     refine tkO 9 ?_;simp only [lay_,Act.put];refine wpAnyH_done (by kernel_rfl) ?_ _;replace HB:=hid (HB.out.drew.trans (hb6.mono HB.out.drew.size));replace HB:=hid (HB.out.trans (hb7.mono HB.out.size));clear hHeld hH6 hH7 hb6 hb7 hq1 hq2 hq CA CD a1 a2 a3 a4 a5 a6 a7 a8 a9;cases t1
     ·have HF:Hid (allB pr rs.length=false):=allB_no hlt HT1.out;clear HT1 HT;go_wp2;go_ret;exact ⟨by rw [HF.out,Bool.and_false];rfl,(HB0.out.trans (HW.out.mono HB0.out.size)).trans (HB.out.mono (Nat.le_trans HB0.out.size HW.out.size))⟩
     ·have HT2:Hid (∀j,j<i+1→pr j=true):=fun j hj=>by
       by_cases e:j=i
       ·rw [e];exact HT1.out
       ·exact HT.out j (by omega)
      clear HT1 HT;go_wp2;go_roundw
      case rel=>exact ⟨i+1,by omega,by go_num,HB.out,HT2.out⟩
      case measure=>simp [intOf];omega
    ·have e1:i=rs.length:=by omega
     have i4':¬(((i:Nat):Int)<((rs.length:Nat):Int)):=by omega
     rw [e1] at HT;have HAR:Hid (allB pr rs.length=true):=allB_iff.2 HT.out;clear e1 HT;go_wp2;go_ret;exact ⟨by rw [HAC.out,HAR.out];rfl,(HB0.out.trans (HW.out.mono HB0.out.size)).trans (HB.out.mono (Nat.le_trans HB0.out.size HW.out.size))⟩
end Go.Proofs.YtbnaikljfhhljaaGreat
