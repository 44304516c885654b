/-
 The walks of package point's Activities, Feasible, Value, whatever they are handed (written by makers/n6.py). The walks of package ray's times, free, endless, slope, by values (written by makers/ra1.py). The walks of the reference's Keeps of a number between bounds, of goes along a direction (written by makers/re1.py). The walks of package ray's slope, by values, of Recedes, Valid, whatever they are handed (written by makers/ra2.py). The walk of package ray's Along, whatever it is handed (written by makers/ra3.py). The walk of law07's awake (written by makers/f23.py). Ray's calls on values; the walks of law13's one, first, light, of the reference's Twin of a ray, of awake (written by makers/ra4.py). The reference's Same and Sames of lists with the same values. The walk of law13's awake (written by makers/ra5.py). The walk of the law ModelNames (written by makers/f28.py). The walk of law17's awake, and of StackNew (written by makers/o5.py). The walks of the reference's Same of points, of certificates and of bases that are alike; of the calls of a nil stack; of StackNone (written by makers/o6.py). Lists of numbers that are copies; the walk of law17's lists, and what it answers. Twins have the same values; what adds up along directions. The walks of law13's light, of the reference's Twin of a ray (written by makers/ra7.py). Ray's calls on twins of a model and of lists, by what the model and the lists are; the sum of two directions. Along a direction that recedes points stay points, and values move by the slope. Walks of the reference's At of terms, and of DocAt, whatever it is handed. Columns of sums and of lists of numbers, lengths; Dot whatever it is handed. The walk of the reference's Dot. The walks of the reference's Feasible and Recedes of models of its own (written by makers/re2.py). The walk of the reference's Costs (written by makers/re3.py). Point's calls on twins, and on what lies along a direction. Calls on twins whose numbers are of at most K limbs, by what they are twins of. The walks of law07's ints and of the law ModelChecks (written by makers/f34.py). The walks of the reference's check, DocFeasible and Is of a point, of Rec and DocRecedes (written by makers/re4.py). The walks of law10's num, two and first (written by makers/rf1.py). The walk of law10's awake (written by makers/rf2.py).
-/
import Derived.Test.YtbnaikljfhhljaaGreatZ13
import Derived.Test.YtbnaikljfhhljaaGreatZ12
import Derived.BigQuiet
import Derived.Test.YtbnaikljfhhljaaGreatZ10
import Derived.Test.YtbnaikljfhhljaaGreatZ9
import Derived.Test.YtbnaikljfhhljaaGreatZ8
import Derived.Test.YtbnaikljfhhljaaGreatZ6
import Derived.Deep.RegionHeld3
import Derived.BigRegion
import Derived.Test.YtbnaikljfhhljaaGreatZ11
import Derived.Test.YtbnaikljfhhljaaGreatZ7
namespace Go.Proofs.YtbnaikljfhhljaaGreat
open Go.RowKit
def AcAns (L:Nat) (w w':World) (e:Ending) (er:Int) (rs:List RV) (xs:List Rat):Prop:=Below w.heap.size w w' ∧
 ((er ≠ 0 ∧ e=.returned (.tuple #[.slice none 0 0,.int .i64 er])) ∨ (er=0 ∧ ∃ a c,e=.returned (.tuple #[.slice a rs.length c,.int .i64 0]) ∧ (rs.length ≤ c ∧ c ≤ 9223372036854775807) ∧ Rf (KA L) w' a (rs.map (actQ xs))))
def feasB (cs:List CV) (rs:List RV) (xs:List Rat):Bool:=decide ((crl (bcB cs xs) cs.length).length=0) && decide ((crl (brB rs xs) rs.length).length=0)
def costs (cs:List CV) (xs:List Rat):List Rat:=List.zipWith (fun v x=>v.cost * x) cs xs
def valQ (off:Rat) (cs:List CV) (xs:List Rat):Rat:=psum (off :: costs cs xs) 0
def KV (L:Nat):Nat:=4 + 65 * (2 * L + 1 + 1)
def VaAns (L:Nat) (w w':World) (e:Ending) (er:Int) (off:Rat) (cs:List CV) (xs:List Rat):Prop:=Below w.heap.size w w' ∧
 ((er ≠ 0 ∧ e=.returned (.tuple #[.agg #[.bool false,.slice none 0 0,.slice none 0 0],.int .i64 er])) ∨ (er=0 ∧ ∃ s x n c f y m d g,e=.returned (.tuple #[.agg #[.bool s,.slice x n c,.slice y m d],.int .i64 0]) ∧ Rn (KV L) w' s x n c f y m d g (valQ off cs xs)))
theorem gr_one {K base:Nat} {w:World} {s:Bool} {x:Option Addr} {n c:Nat} {f:Nat → Int} {y:Option Addr} {m d:Nat} {g:Nat → Int} {q:Rat} (h:Rn K w s x n c f y m d g q) (hb:base ≤ w.heap.size):Gr K base (w.alloc (.cells #[.bool s,.slice x n c,.slice y m d] 24)) (.slice (some ⟨w.heap.size,0,none⟩) 1 1) [q]:=by
 refine ⟨fun _=>⟨s,x,n,c,f,y,m,d,g⟩,⟨rfl,.inr ⟨w.heap.size,1,#[.bool s,.slice x n c,.slice y m d],rfl,hb,heap_alloc_new w _,Nat.le_refl _,by decide,rfl,rfl,nou_list (not3 _ _ _ _ _ _ _)⟩⟩,fun j q' e=>?_⟩
 cases j with
 | zero=>cases e;exact h.alloc _
 | succ j=>simp at e
set_option maxRecDepth 100000 in
set_option maxHeartbeats 4000000 in
theorem pActs_v {w:World} {L:Nat} {M:Mo} {off:Rat} {cs:List CV} {rs:List RV} {ao:Option Addr} {k cap:Nat} {X:Nat → Nm} {xs:List Rat} {er:Int} (hW:MoW w M) (hx:Rl w ao k X) (hk:k ≤ 1048576) (he:pckE M k X=er) (hv:er=0 → MoV L w M off cs rs ∧ mvOk cs rs=true ∧ Rf L w ao xs ∧ xs.length=k ∧ k=cs.length) (hL:L ≤ 30) :
  Calls Tryz.prog 8 #[M.val,.slice ao k cap] w fun e w'=>AcAns L w w' e er rs xs:=by
 have CC:=hid (fun W (hW2:Below w.heap.size w W)=>pcheck_c (cap:=cap) (hW.below hW2) (hx.below hW2) hk)
 rw [he] at CC
 clear hW hx he
 have HV:=hid hv
 clear hv
 have CA:Hid (er=0 → ∀ W,Below w.heap.size w W → Calls Tryz.prog 30 #[M.val,.slice ao k cap] W fun e w'=>∃ a c,e=.returned (.slice a rs.length c) ∧ Below W.heap.size W w' ∧ (rs.length ≤ c ∧ c ≤ 9223372036854775807) ∧ Hid (Rf (KA L) w' a (rs.map (actQ xs)))):=fun h0 W hW2=>by
  obtain ⟨v1,v2,v3,v4,v5⟩:=HV.out h0
  have mp:=mvOk_p v2
  exact acts_c (v1.below hW2) (v3.below hW2) v4 (fun r hr t ht=>by have:=mp.tc r hr t ht;rw [v5];exact this) mp.rl mp.tl (by omega)
 obtain ⟨⟨s,x,n,c,f,y,m,d,g⟩,ca,ck,cc,C,ra,rk,rc,R⟩:=M
 replace CC:Hid (∀ W,Below w.heap.size w W → Calls Tryz.prog 29 #[.agg #[.bool s,.slice x n c,.slice y m d,.slice ca ck cc,.slice ra rk rc],.slice ao k cap] W fun e w'=>e=.returned (.int .i64 er) ∧ Below W.heap.size W w'):=CC
 replace CA:Hid (er=0 → ∀ W,Below w.heap.size w W → Calls Tryz.prog 30 #[.agg #[.bool s,.slice x n c,.slice y m d,.slice ca ck cc,.slice ra rk rc],.slice ao k cap] W fun e w'=>∃ a c,e=.returned (.slice a rs.length c) ∧ Below W.heap.size W w' ∧ (rs.length ≤ c ∧ c ≤ 9223372036854775807) ∧ Hid (Rf (KA L) w' a (rs.map (actQ xs)))):=CA
 clear HV
 show Calls Tryz.prog 8 #[.agg #[.bool s,.slice x n c,.slice y m d,.slice ca ck cc,.slice ra rk rc],.slice ao k cap] w _
 have hb:=below_alloc (Below.refl w.heap.size w) (.cells #[.bool s,.slice x n c,.slice y m d,.slice ca ck cc,.slice ra rk rc] 28)
 have BM:Hid (Bk (w.alloc (.cells #[.bool s,.slice x n c,.slice y m d,.slice ca ck cc,.slice ra rk rc] 28)) w.heap.size [.bool s,.slice x n c,.slice y m d,.slice ca ck cc,.slice ra rk rc] 28):=bk_new w [.bool s,.slice x n c,.slice y m d,.slice ca ck cc,.slice ra rk rc] 28
 have HB:=hid hb
 clear hb
 go_enter Tryz.func8,Tryz.ntmps8
 go_wp2_with fail
 generalize w.alloc (.cells #[.bool s,.slice x n c,.slice y m d,.slice ca ck cc,.slice ra rk rc] 28)=w0 at *
 refine (CC.out _ HB.out).mono ?_
 rintro e w1 ⟨rfl,hb⟩
 replace HB:=hid (HB.out.trans (hb.mono HB.out.size));replace BM:=hid (BM.out.below hb)
 clear hb CC
 by_cases h0:er=0
 case neg =>
  have h1:(er != 0)=true:=by simpa using h0
  have H0:=hid h0
  go_wp2
  go_ret2
  exact ⟨HB.out,.inl ⟨H0.out,rfl⟩⟩
 have CA2:=hid (CA.out h0)
 subst h0
 clear CA
 have r0:=BM.out.cell (j:=0) rfl
 have r1:=BM.out.cell (j:=1) rfl
 have r2:=BM.out.cell (j:=2) rfl
 have r3:=BM.out.cell (j:=3) rfl
 have r4:=BM.out.cell (j:=4) rfl
 go_wp2_with fail
 refine (CA2.out _ HB.out).mono ?_
 rintro e w2 ⟨aa,ac,rfl,hb,hac,HR⟩
 replace HB:=hid (HB.out.trans (hb.mono HB.out.size))
 have HAC:=hid hac
 clear hb hac r0 r1 r2 r3 r4 BM CA2
 go_wp2
 go_ret2
 exact ⟨HB.out,.inr ⟨rfl,aa,ac,rfl,HAC.out,HR.out⟩⟩
set_option maxRecDepth 100000 in
set_option maxHeartbeats 4000000 in
theorem pFeas_v {w:World} {L:Nat} {M:Mo} {off:Rat} {cs:List CV} {rs:List RV} {ao:Option Addr} {k cap:Nat} {X:Nat → Nm} {xs:List Rat} {er:Int} (hW:MoW w M) (hx:Rl w ao k X) (hk:k ≤ 1048576) (he:pckE M k X=er) (hv:er=0 → MoV L w M off cs rs ∧ mvOk cs rs=true ∧ Rf L w ao xs ∧ xs.length=k ∧ k=cs.length) (hL:L ≤ 30) :
  Calls Tryz.prog 16 #[M.val,.slice ao k cap] w fun e w'=>e=.returned (.tuple #[.bool (decide (er=0) && feasB cs rs xs),.int .i64 er]) ∧ Below w.heap.size w w':=by
 have CB:Hid (∀ W,Below w.heap.size w W → Calls Tryz.prog 18 #[M.val,.slice ao k cap] W fun e w'=>BrAns W w' e er cs rs xs):=fun W hW2=>pBroken_v (hW.below hW2) (hx.below hW2) hk he (fun h0=>⟨(hv h0).1.below hW2,(hv h0).2.1,(hv h0).2.2.1.below hW2,(hv h0).2.2.2⟩) hL
 clear hW hx hv he
 obtain ⟨⟨s,x,n,c,f,y,m,d,g⟩,ca,ck,cc,C,ra,rk,rc,R⟩:=M
 replace CB:Hid (∀ W,Below w.heap.size w W → Calls Tryz.prog 18 #[.agg #[.bool s,.slice x n c,.slice y m d,.slice ca ck cc,.slice ra rk rc],.slice ao k cap] W fun e w'=>BrAns W w' e er cs rs xs):=CB
 obtain ⟨l1,hl1⟩:∃ z,(crl (bcB cs xs) cs.length).length=z:=⟨_,rfl⟩
 obtain ⟨l2,hl2⟩:∃ z,(crl (brB rs xs) rs.length).length=z:=⟨_,rfl⟩
 have HF:Hid (feasB cs rs xs=(decide (l1=0) && decide (l2=0))):=by show _=_;rw [feasB,hl1,hl2]
 unfold BrAns at CB
 rw [hl1,hl2] at CB
 clear hl1 hl2
 show Calls Tryz.prog 16 #[.agg #[.bool s,.slice x n c,.slice y m d,.slice ca ck cc,.slice ra rk rc],.slice ao k cap] w _
 have HB:=hid (below_alloc (Below.refl w.heap.size w) (.cells #[.bool s,.slice x n c,.slice y m d,.slice ca ck cc,.slice ra rk rc] 28))
 go_enter Tryz.func16,Tryz.ntmps16
 go_wp2_with fail
 refine (CB.out _ HB.out).mono ?_
 rintro e w1 ⟨hb,hans⟩
 replace HB:=hid (HB.out.trans (hb.mono HB.out.size))
 clear hb CB
 rcases hans with ⟨h0,rfl⟩ | ⟨h0,xa,xc,ya,yc,rfl,_,_⟩
 ·have h1:(er == 0)=false:=by simpa using h0
  have HE:Hid (decide (er=0)=false):=decide_eq_false h0
  clear h0
  go_wp2
  go_ret2
  exact ⟨by rw [HE.out];rfl,HB.out⟩
 ·subst h0
  by_cases c1:l1=0
  ·subst c1
   by_cases c2:l2=0
   ·subst c2
    go_wp2
    go_ret2
    exact ⟨by rw [HF.out];rfl,HB.out⟩
   ·have c3:(((l2:Nat):Int) == 0)=false:=by simp;omega
    have HE:Hid (decide (l2=0)=false):=decide_eq_false c2
    go_wp2
    go_ret2
    exact ⟨by rw [HF.out,HE.out];rfl,HB.out⟩
  ·have c3:(((l1:Nat):Int) == 0)=false:=by simp;omega
   have HE:Hid (decide (l1=0)=false):=decide_eq_false c1
   go_wp2
   go_ret2
   exact ⟨by rw [HF.out,HE.out];rfl,HB.out⟩
set_option maxRecDepth 100000 in
set_option maxHeartbeats 8000000 in
theorem pValue_v {w:World} {L:Nat} {M:Mo} {off:Rat} {cs:List CV} {rs:List RV} {ao:Option Addr} {k cap:Nat} {X:Nat → Nm} {xs:List Rat} {er:Int} (hW:MoW w M) (hx:Rl w ao k X) (hk:k ≤ 1048576) (he:pckE M k X=er) (hv:er=0 → MoV L w M off cs rs ∧ mvOk cs rs=true ∧ Rf L w ao xs ∧ xs.length=k ∧ k=cs.length) (hL:L ≤ 30) :
  Calls Tryz.prog 13 #[M.val,.slice ao k cap] w fun e w'=>VaAns L w w' e er off cs xs:=by
 have CC:=hid (fun W (hW2:Below w.heap.size w W)=>pcheck_c (cap:=cap) (hW.below hW2) (hx.below hW2) hk)
 rw [he] at CC
 clear hW hx he
 have HV:=hid hv
 clear hv
 obtain ⟨⟨s,x,n,c,f,y,m,d,g⟩,ca,ck,cc,C,ra,rk,rc,R⟩:=M
 replace CC:Hid (∀ W,Below w.heap.size w W → Calls Tryz.prog 29 #[.agg #[.bool s,.slice x n c,.slice y m d,.slice ca ck cc,.slice ra rk rc],.slice ao k cap] W fun e w'=>e=.returned (.int .i64 er) ∧ Below W.heap.size W w'):=CC
 show Calls Tryz.prog 13 #[.agg #[.bool s,.slice x n c,.slice y m d,.slice ca ck cc,.slice ra rk rc],.slice ao k cap] w _
 have hb:=below_alloc (below_alloc (Below.refl w.heap.size w) (.cells #[.bool s,.slice x n c,.slice y m d,.slice ca ck cc,.slice ra rk rc] 28)) (.cells #[.bool false,.slice none 0 0,.slice none 0 0] 24)
 have BM:Hid (Bk ((w.alloc (.cells #[.bool s,.slice x n c,.slice y m d,.slice ca ck cc,.slice ra rk rc] 28)).alloc (.cells #[.bool false,.slice none 0 0,.slice none 0 0] 24)) w.heap.size [.bool s,.slice x n c,.slice y m d,.slice ca ck cc,.slice ra rk rc] 28):=(bk_new w [.bool s,.slice x n c,.slice y m d,.slice ca ck cc,.slice ra rk rc] 28).below (below_alloc (Below.refl _ _) _)
 have hob:=ob_new (w.alloc (.cells #[.bool s,.slice x n c,.slice y m d,.slice ca ck cc,.slice ra rk rc] 28)) 24
 rw [size_alloc1] at hob
 have OB:=hid hob;have HB:=hid hb
 clear hb hob
 go_enter Tryz.func13,Tryz.ntmps13
 have r0:=BM.out.cell (j:=0) rfl
 have r1:=BM.out.cell (j:=1) rfl
 have r2:=BM.out.cell (j:=2) rfl
 have r3:=BM.out.cell (j:=3) rfl
 have r4:=BM.out.cell (j:=4) rfl
 go_wp2_with fail
 clear r0 r1 r2 r3 r4
 generalize ((w.alloc (.cells #[.bool s,.slice x n c,.slice y m d,.slice ca ck cc,.slice ra rk rc] 28)).alloc (.cells #[.bool false,.slice none 0 0,.slice none 0 0] 24))=w0 at *
 refine (CC.out _ HB.out).mono ?_
 rintro e w1 ⟨rfl,hb⟩
 replace HB:=hid (HB.out.trans (hb.mono HB.out.size));replace BM:=hid (BM.out.below hb);replace OB:=hid (OB.out.below hb)
 clear hb CC
 by_cases h0:er=0
 case neg =>
  have h1:(er != 0)=true:=by simpa using h0
  have H0:=hid h0
  obtain ⟨hz,z0,z1,z2,zf⟩:=OB.out
  go_wp2
  exact bodyPost_ret (v:=.tuple #[.agg #[.bool false,.slice none 0 0,.slice none 0 0],.int .i64 er]) (by simp [results,Tryz.results13,go_sem,z0,z1,z2]) rfl ⟨below_st HB.out (by omega),.inl ⟨H0.out,rfl⟩⟩
 obtain ⟨v1,v2,v3,v4,v5⟩:=HV.out h0
 have mp:=mvOk_p v2
 subst h0
 have l64:=mp.cl
 have HC:Hid (∀ j v,cs[j]?=some v → (∃ b o,ca=some ⟨b,o,none⟩ ∧ Cs w b (o + j * 12) (C j).vs) ∧ ColV L w (C j) v):=v1.cls
 have HO:Hid (Rn L w s x n c f y m d g off):=v1.off
 have hck:ck=cs.length:=v1.ck
 subst hck
 subst v5
 have HX:=hid v3;have HXL:=hid v4
 clear v1 v2 v3 v4 mp HV
 have HG:=hid (gr_one (K:=2 * L + 1) (base:=w1.heap.size) ((HO.out.below HB.out).mono (by omega)) (Nat.le_refl _))
 have hbo:=below_alloc (Below.refl w1.heap.size w1) (.cells #[.bool s,.slice x n c,.slice y m d] 24)
 have r0:=BM.out.cell (j:=0) rfl
 have r1:=BM.out.cell (j:=1) rfl
 have r2:=BM.out.cell (j:=2) rfl
 have r3:=BM.out.cell (j:=3) rfl
 have r4:=BM.out.cell (j:=4) rfl
 have r3':=kCb hbo r3
 go_wp2_with fail
 clear r0 r1 r2 r3 r3' r4 HO
 go_loopw [7,23] (fun ov t wr=>∃ (i:Nat),i ≤ cs.length ∧ t=.int .i64 i ∧ Hid (Below w1.heap.size w1 wr) ∧ Hid (Gr (2 * L + 1) w1.heap.size wr ov (off :: (costs cs xs).take i))) (fun _ t _=>cs.length - (intOf t).toNat)
 case atStart=>exact ⟨0,by omega,rfl,hbo,HG⟩
 case round =>
  clear HG hbo
  obtain ⟨i,hi,rfl,HB2,HG2⟩:=hrel
  have hcl:(costs cs xs).length=cs.length:=by unfold costs;rw [List.length_zipWith,HXL.out,Nat.min_self]
  have hgl:(off :: (costs cs xs).take i).length=i + 1:=by rw [List.length_cons,List.length_take];omega
  by_cases hlt:i < cs.length
  ·obtain ⟨v,hv⟩:∃ t,cs[i]?=some t:=⟨_,List.getElem?_eq_getElem (by omega)⟩
   obtain ⟨⟨b,o,hba,hc⟩,hV⟩:=HC.out i v hv
   subst hba
   have hbz:=HB.out.trans (HB2.out.mono HB.out.size)
   have hcost:=hV.cost.below hbz
   obtain ⟨⟨z,⟨s0,x0,n0,c0,f0,y0,m0,d0,g0⟩,⟨i1,⟨s1,x1,n1,c1,f1,y1,m1,d1,g1⟩⟩,⟨i2,⟨s2,x2,n2,c2,f2,y2,m2,d2,g2⟩⟩⟩,hCi⟩:∃ t,C i=t:=⟨_,rfl⟩
   rw [hCi] at hc hcost
   replace hcost:Rn L wr s0 x0 n0 c0 f0 y0 m0 d0 g0 v.cost:=hcost
   replace hc:=Cs.below hc hbz
   have q0:wr.cell? ⟨b,o + i * 12,none⟩=some (.string z):=hc 0 _ rfl
   have q1:wr.cell? ⟨b,o + i * 12 + 1,none⟩=some (.bool s0):=hc 1 _ rfl
   have q2:wr.cell? ⟨b,o + i * 12 + 2,none⟩=some (.slice x0 n0 c0):=hc 2 _ rfl
   have q3:wr.cell? ⟨b,o + i * 12 + 3,none⟩=some (.slice y0 m0 d0):=hc 3 _ rfl
   have q4:wr.cell? ⟨b,o + i * 12 + 4,none⟩=some (.int .i64 i1):=hc 4 _ rfl
   have q5:wr.cell? ⟨b,o + i * 12 + 5,none⟩=some (.bool s1):=hc 5 _ rfl
   have q6:wr.cell? ⟨b,o + i * 12 + 6,none⟩=some (.slice x1 n1 c1):=hc 6 _ rfl
   have q7:wr.cell? ⟨b,o + i * 12 + 7,none⟩=some (.slice y1 m1 d1):=hc 7 _ rfl
   have q8:wr.cell? ⟨b,o + i * 12 + 8,none⟩=some (.int .i64 i2):=hc 8 _ rfl
   have q9:wr.cell? ⟨b,o + i * 12 + 9,none⟩=some (.bool s2):=hc 9 _ rfl
   have q10:wr.cell? ⟨b,o + i * 12 + 10,none⟩=some (.slice x2 n2 c2):=hc 10 _ rfl
   have q11:wr.cell? ⟨b,o + i * 12 + 11,none⟩=some (.slice y2 m2 d2):=hc 11 _ rfl
   obtain ⟨r,hr⟩:∃ t,xs[i]?=some t:=⟨_,List.getElem?_eq_getElem (by have:=HXL.out;omega)⟩
   obtain ⟨b',o',⟨ss,sx,sn,sc,sf,sy,sm,sd,sg⟩,hax,⟨p0,p1,p2⟩,hr'⟩:=(HX.out.below hbz) i r hr
   subst hax
   replace p0:wr.cell? ⟨b',o' + i * 3,none⟩=some (.bool ss):=p0
   replace p1:wr.cell? ⟨b',o' + i * 3 + 1,none⟩=some (.slice sx sn sc):=p1
   replace p2:wr.cell? ⟨b',o' + i * 3 + 2,none⟩=some (.slice sy sm sd):=p2
   replace hr':Rn L wr ss sx sn sc sf sy sm sd sg r:=hr'
   have HCI:Hid ((costs cs xs).take (i + 1)=(costs cs xs).take i ++ [v.cost * r]):=by
    show _=_
    rw [List.take_add_one]
    congr 1
    unfold costs
    rw [List.getElem?_zipWith,hv,hr];rfl
   have hbt:=below_alloc (Below.refl wr.heap.size wr) (.cells #[.string z,.bool s0,.slice x0 n0 c0,.slice y0 m0 d0,.int .i64 i1,.bool s1,.slice x1 n1 c1,.slice y1 m1 d1,.int .i64 i2,.bool s2,.slice x2 n2 c2,.slice y2 m2 d2] 83)
   have a1:(wr.alloc (.cells #[.string z,.bool s0,.slice x0 n0 c0,.slice y0 m0 d0,.int .i64 i1,.bool s1,.slice x1 n1 c1,.slice y1 m1 d1,.int .i64 i2,.bool s2,.slice x2 n2 c2,.slice y2 m2 d2] 83)).cell? ⟨wr.heap.size,1,none⟩=some (.bool s0):=by simp [go_sem]
   have a2:(wr.alloc (.cells #[.string z,.bool s0,.slice x0 n0 c0,.slice y0 m0 d0,.int .i64 i1,.bool s1,.slice x1 n1 c1,.slice y1 m1 d1,.int .i64 i2,.bool s2,.slice x2 n2 c2,.slice y2 m2 d2] 83)).cell? ⟨wr.heap.size,2,none⟩=some (.slice x0 n0 c0):=by simp [go_sem]
   have a3:(wr.alloc (.cells #[.string z,.bool s0,.slice x0 n0 c0,.slice y0 m0 d0,.int .i64 i1,.bool s1,.slice x1 n1 c1,.slice y1 m1 d1,.int .i64 i2,.bool s2,.slice x2 n2 c2,.slice y2 m2 d2] 83)).cell? ⟨wr.heap.size,3,none⟩=some (.slice y0 m0 d0):=by simp [go_sem]
   have i1':((i:Nat):Int) < ((cs.length:Nat):Int):=by omega
   clear hCi hc hV hv hr
   go_upto_region 8 with fail
   clear q0 q1 q2 q3 q4 q5 q6 q7 q8 q9 q10 q11
   replace p0:=kCb hbt p0;replace p1:=kCb hbt p1;replace p2:=kCb hbt p2
   have HB3:=hid (HB2.out.trans (hbt.mono HB2.out.size));have HG3:=hid (HG2.out.below hbt);have R1:=hid (hcost.below hbt);have R2:=hid (hr'.below hbt)
   clear hbz hbt HB2 HG2 hcost hr'
   generalize hbx:wr.heap.size=bx at *
   generalize wr.alloc (.cells #[.string z,.bool s0,.slice x0 n0 c0,.slice y0 m0 d0,.int .i64 i1,.bool s1,.slice x1 n1 c1,.slice y1 m1 d1,.int .i64 i2,.bool s2,.slice x2 n2 c2,.slice y2 m2 d2] 83)=w5 at *
   clear hbx
   refine wp_region_phase (S:=(fun w'=>w'.cell? ⟨bx,1,none⟩=some (.bool s0) ∧ w'.cell? ⟨bx,2,none⟩=some (.slice x0 n0 c0) ∧ w'.cell? ⟨bx,3,none⟩=some (.slice y0 m0 d0) ∧ w'.cell? ⟨b',o' + i * 3,none⟩=some (.bool ss) ∧ w'.cell? ⟨b',o' + i * 3 + 1,none⟩=some (.slice sx sn sc) ∧ w'.cell? ⟨b',o' + i * 3 + 2,none⟩=some (.slice sy sm sd))) 7 (by kernel_rfl) ⟨kCd a1,kCd a2,kCd a3,kCd p0,kCd p1,kCd p2⟩ (fun hHeld=>?_)
   refine wpAnyP_skim (i:=0) (v:=?_) rfl (by kernel_rfl) (by kernel_rfl) (by kernel_rfl) (by kernel_rfl) (fun _ _ _ h=>h) (Or.inl ⟨by rfl,?_⟩) (fun _=>by assumption) ?_
   rotate_left
   (focus (intro w0 hSw;go_simp <;> with_reducible rfl))
   simp only [List.getElem_toArray,List.getElem_cons_zero,Act.put,List.setIfInBounds_toArray,List.set_cons_zero,List.set_cons_succ]
   refine wpAnyP_skim (i:=1) (v:=?_) rfl (by kernel_rfl) (by kernel_rfl) (by kernel_rfl) (by kernel_rfl) (fun _ _ _ h=>h) (Or.inl ⟨by rfl,?_⟩) (fun _=>by assumption) ?_
   rotate_left
   (focus (intro w0 hSw;go_simp <;> with_reducible rfl))
   simp only [List.getElem_toArray,List.getElem_cons_succ,List.getElem_cons_zero,Act.put,List.setIfInBounds_toArray,List.set_cons_zero,List.set_cons_succ]
   refine wpAnyP_takeA (i:=2) (v:=?_) rfl (by kernel_rfl) (by kernel_rfl) (by kernel_rfl) (by kernel_rfl) (by kernel_rfl) (by kernel_rfl) (fun _ _ _ h=>h) (Or.inl ⟨by rfl,?_⟩) (by assumption) ?_
   rotate_left
   (focus (intro w0 hSw;(try dsimp only at hSw);go_simp <;> with_reducible rfl))
   simp only [List.getElem_toArray,List.getElem_cons_succ,List.getElem_cons_zero,Act.put,List.setIfInBounds_toArray,List.set_cons_zero,List.set_cons_succ]
   refine wpAnyP_skim (i:=3) (v:=?_) rfl (by kernel_rfl) (by kernel_rfl) (by kernel_rfl) (by kernel_rfl) (fun _ _ _ h=>h) (Or.inl ⟨by rfl,?_⟩) (fun _=>by assumption) ?_
   rotate_left
   (focus (intro w0 hSw;go_simp <;> with_reducible rfl))
   simp only [List.getElem_toArray,List.getElem_cons_succ,List.getElem_cons_zero,Act.put,List.setIfInBounds_toArray,List.set_cons_zero,List.set_cons_succ]
   refine wpAnyP_skim (i:=4) (v:=?_) rfl (by kernel_rfl) (by kernel_rfl) (by kernel_rfl) (by kernel_rfl) (fun _ _ _ h=>h) (Or.inl ⟨by rfl,?_⟩) (fun _=>by assumption) ?_
   rotate_left
   (focus (intro w0 hSw;go_simp <;> with_reducible rfl))
   simp only [List.getElem_toArray,List.getElem_cons_succ,List.getElem_cons_zero,Act.put,List.setIfInBounds_toArray,List.set_cons_zero,List.set_cons_succ]
   refine wpAnyP_skim (i:=5) (v:=?_) rfl (by kernel_rfl) (by kernel_rfl) (by kernel_rfl) (by kernel_rfl) (fun _ _ _ h=>h) (Or.inl ⟨by rfl,?_⟩) (fun _=>by assumption) ?_
   rotate_left
   (focus (intro w0 hSw;go_simp <;> with_reducible rfl))
   simp only [List.getElem_toArray,List.getElem_cons_succ,List.getElem_cons_zero,Act.put,List.setIfInBounds_toArray,List.set_cons_zero,List.set_cons_succ]
   refine wpAnyP_takeA (i:=6) (v:=?_) rfl (by kernel_rfl) (by kernel_rfl) (by kernel_rfl) (by kernel_rfl) (by kernel_rfl) (by kernel_rfl) (fun _ _ _ h=>h) (Or.inl ⟨by rfl,?_⟩) (by assumption) ?_
   rotate_left
   (focus (intro w0 hSw;(try dsimp only at hSw);go_simp <;> with_reducible rfl))
   simp only [List.getElem_toArray,List.getElem_cons_succ,List.getElem_cons_zero,Act.put,List.setIfInBounds_toArray,List.set_cons_zero,List.set_cons_succ]
   refine wpAnyP_ready (rs:=[7]) (by kernel_rfl) (by simp) ?_
   refine AllReadyP.cons (o:=_) rfl (fun K hK=>?_) ?_
   rotate_left
   exact AllReadyP.nil
   go_simp
   go_at_call 38
   refine (ptimes_c (L:=L) (kRnd R1.out) (kRnd R2.out) (by omega)).mono ?_
   rintro e w6 ⟨s6,x6,n6,c6,f6,y6,m6,d6,g6,rfl,hb6,hq6⟩
   (try go_wp2_with fail)
   refine hK.out _ _ (fun h=>by cases h) (fun _=>?_)
   clear hK K
   try simp only [Act.put,List.setIfInBounds_toArray,List.set_cons_zero,List.set_cons_succ]
   refine wpAnyP_ready (rs:=[8]) (by kernel_rfl) (by simp) ?_
   refine AllReadyP.cons (o:=_) rfl (fun K hK=>?_) ?_
   rotate_left
   exact AllReadyP.nil
   go_simp
   refine hK.out _ _ (fun h=>by cases h) (fun _=>?_)
   clear hK K
   try simp only [Act.put,List.setIfInBounds_toArray,List.set_cons_zero,List.set_cons_succ]
   refine wpAnyP_ready (rs:=[9]) (by kernel_rfl) (by simp) ?_
   refine AllReadyP.cons (o:=_) rfl (fun K hK=>?_) ?_
   rotate_left
   exact AllReadyP.nil
   obtain ⟨T,hrow,hT⟩:=(Gr.below HG3.out (Below.drew (Below.refl w5.heap.size w5))).below hb6
   rw [hgl] at hrow
   refine step_append_one w6 rfl (.tmp 28) (.tmp 36) 29 rfl w1.heap.size 24 56 3 (.agg #[.bool false,.slice none 0 0,.slice none 0 0]) Tryz.underlying29 Tryz.infoRat rfl (by decide) nz3 u7 (i + 1) _ rfl hrow #[.bool s6,.slice x6 n6 c6,.slice y6 m6 d6] rfl rfl (one3 _ _ _ _ _ _ _) (not3 _ _ _ _ _ _ _) (by omega) (by decide) ?hz ?_
   case hz=>exact (HB3.out.drew.trans (hb6.mono HB3.out.drew.size)).size
   intro g8 cap8 w8 hr8 hk8 hb8 hg8
   have HB8:Hid (Below w1.heap.size w1 w8):=hb8 w1 (HB3.out.drew.trans (hb6.mono HB3.out.drew.size)) (Nat.le_refl _)
   have HG8:Hid (Gr (2 * L + 1) w1.heap.size w8 (.slice (some ⟨g8,0,none⟩) (i + 1 + 1) cap8) (off :: (costs cs xs).take (i + 1))):=by
    have hp8:=gr_push (p:=off :: (costs cs xs).take i) hT (by rw [hgl];exact hr8) hk8 hq6
    rw [hgl] at hp8
    rw [HCI.out];exact hp8
   clear hr8 hk8 hb8 hg8 hrow hT hb6 hq6 HG3 HB3 R1 R2
   refine hK.out _ _ (fun h=>by cases h) (fun _=>?_)
   clear hK K
   simp only [List.getElem_toArray,List.getElem_cons_succ,List.getElem_cons_zero,Act.put,List.setIfInBounds_toArray,List.set_cons_zero,List.set_cons_succ]
   refine wpAnyP_skim (i:=10) (v:=?_) rfl (by kernel_rfl) (by kernel_rfl) (by kernel_rfl) (by kernel_rfl) (fun _ _ _ h=>h) (Or.inl ⟨by rfl,?_⟩) (fun h=>by cases h) ?_
   rotate_left
   (focus (intro w0 hSw;go_simp <;> with_reducible rfl))
   simp only [List.getElem_toArray,List.getElem_cons_succ,List.getElem_cons_zero,Act.put,List.setIfInBounds_toArray,List.set_cons_zero,List.set_cons_succ]
   refine wpAnyP_done (by kernel_rfl) ?_ _
   clear hHeld a1 a2 a3 p0 p1 p2
   go_wp2
   go_roundw
   case rel=>exact ⟨i + 1,by omega,by go_num,HB8.out,HG8.out⟩
   case measure=>simp [intOf];omega
  ·have i4:¬ (((i:Nat):Int) < ((cs.length:Nat):Int)):=by omega
   have e9:i=cs.length:=by omega
   obtain ⟨va,vc,hvs,hvc⟩:=HG2.out.slice
   rw [hgl] at hvs
   have HG4:=HG2.out
   rw [hvs] at HG4
   replace HG4:=hid (show Rf (2 * L + 1) wr va (off :: costs cs xs) by have:=HG4.rf;rw [List.take_of_length_le (by omega)] at this;exact this)
   subst hvs
   have HLen:=hid (show (off :: costs cs xs).length=i + 1 by rw [List.length_cons];omega)
   have hi65:i + 1 ≤ 65:=by omega
   replace HB:=hid (HB.out.trans (HB2.out.mono HB.out.size));replace OB:=hid (OB.out.below HB2.out)
   clear HG2 HB2 hgl hcl e9 HC HX BM
   go_wp2_with fail
   refine (pSum_c (L:=2 * L + 1) HG4.out HLen.out (by omega) (by omega)).mono ?_
   rintro e w6 ⟨s6,x6,n6,c6,f6,y6,m6,d6,g6,rfl,hb6,hq6⟩
   replace HB:=hid (HB.out.trans (hb6.mono HB.out.size));replace OB:=hid (OB.out.below hb6)
   have HQ:=hid (show Rn (KV L) w6 s6 x6 n6 c6 f6 y6 m6 d6 g6 (valQ off cs xs) from hq6.mono (by unfold KV;have:(i + 1) * (2 * L + 1 + 1) ≤ 65 * (2 * L + 1 + 1):=Nat.mul_le_mul_right _ hi65;omega))
   clear hb6 hq6 HG4 HLen
   obtain ⟨hz,z0,z1,z2,zf⟩:=OB.out
   go_wp2
   exact bodyPost_ret (v:=.tuple #[.agg #[.bool s6,.slice x6 n6 c6,.slice y6 m6 d6],.int .i64 0]) (by simp [results,Tryz.results13,go_sem,z0,z1,z2]) rfl ⟨below_st HB.out (by omega),.inr ⟨rfl,s6,x6,n6,c6,f6,y6,m6,d6,g6,rfl,OB.out.rn HQ.out⟩⟩
theorem Rn.sg {L w s x n c f y m d g q} (h:Rn L w s x n c f y m d g q):s=decide (q < 0):=by
 have h1:=h.num.val;have h2:=h.num.wf;have h5:=vf_nonneg h.num.lm;have hz:=h.q_zero
 cases s
 ·have h3:q.num=vf f n:=by rw [← h1];rfl
  have h4:0 ≤ q:=Rat.num_nonneg.1 (by omega)
  rw [decide_eq_false (Rat.not_lt.2 h4)]
 ·have hn:n ≠ 0:=fun e=>by subst e;simp [wfB] at h2
  have h3:q.num=- vf f n:=by rw [← h1];rfl
  have h4:q < 0:=Rat.not_le.1 (fun e=>by
   have h6:=Rat.num_nonneg.2 e
   exact hn (hz.1 (Rat.num_eq_zero.1 (by omega))))
  rw [decide_eq_true h4]
theorem kps_lo {r i:Int} {l q:Rat} (h:EOrd r i l 0 q):decide (r ≤ 0)=decide (i < 0 ∨ i=0 ∧ l ≤ q):=by
 rw [decide_eq_decide]
 rcases h with ⟨h1,h2⟩ | ⟨h1,h2,h3⟩ | ⟨h1,h2⟩
 ·constructor
  ·intro _
   rcases h2 with h2 | ⟨h2,h3⟩
   ·exact .inl h2
   ·exact .inr ⟨h2,by grind⟩
  ·intro _;omega
 ·constructor
  ·intro _;exact .inr ⟨h2,by grind⟩
  ·intro _;omega
 ·constructor
  ·intro _;omega
  ·intro h
   rcases h with h | ⟨h,h'⟩
   ·rcases h2 with h2 | ⟨h2,_⟩ <;> omega
   ·rcases h2 with h2 | ⟨_,h2⟩
    ·omega
    ·exact absurd h' (by grind)
theorem kps_hi {r i:Int} {l q:Rat} (h:EOrd r 0 q i l):decide (r ≤ 0)=decide (0 < i ∨ i=0 ∧ q ≤ l):=by
 rw [decide_eq_decide]
 rcases h with ⟨h1,h2⟩ | ⟨h1,h2,h3⟩ | ⟨h1,h2⟩
 ·constructor
  ·intro _
   rcases h2 with h2 | ⟨h2,h3⟩
   ·exact .inl h2
   ·exact .inr ⟨h2.symm,by grind⟩
  ·intro _;omega
 ·constructor
  ·intro _;exact .inr ⟨h2.symm,by grind⟩
  ·intro _;omega
 ·constructor
  ·intro _;omega
  ·intro h
   rcases h with h | ⟨h,h'⟩
   ·rcases h2 with h2 | ⟨h2,_⟩ <;> omega
   ·rcases h2 with h2 | ⟨_,h2⟩
    ·omega
    ·exact absurd h' (by grind)
theorem kps_and {q:Rat} {li:Int} {lq:Rat} {hi:Int} {hq:Rat}:kpsB q li lq hi hq=(decide (li < 0 ∨ li=0 ∧ lq ≤ q) && decide (0 < hi ∨ hi=0 ∧ q ≤ hq)):=by
 unfold kpsB;rw [Bool.decide_and]
set_option maxRecDepth 100000 in
set_option maxHeartbeats 8000000 in
theorem rKeeps_c {w:World} {K:Nat} {a b:Ex} {t:Nm} {li:Int} {lq:Rat} {hi:Int} {hq q:Rat} (ha:QnT K w a.v lq) (ea:a.i=li) (hb:QnT K w b.v hq) (eb:b.i=hi) (ht:QnT K w t q) (hK:K ≤ 16000) (hbd:(li=0 ∨ (li=-1 ∨ li=1) ∧ lq=0) ∧ (hi=0 ∨ (hi=-1 ∨ hi=1) ∧ hq=0)) :
  Calls Tryz.prog 22 #[a.val,b.val,t.val] w fun e w'=>e=.returned (.bool (kpsB q li lq hi hq)) ∧ Below w.heap.size w w':=by
 obtain ⟨i1,⟨s1,x1,n1,c1,f1,y1,m1,d1,g1⟩⟩:=a
 obtain ⟨i2,⟨s2,x2,n2,c2,f2,y2,m2,d2,g2⟩⟩:=b
 obtain ⟨s3,x3,n3,c3,f3,y3,m3,d3,g3⟩:=t
 replace ea:i1=li:=ea
 replace eb:i2=hi:=eb
 subst ea;subst eb
 obtain ⟨r1,hr1⟩:∃ t,decide (i1 < 0 ∨ i1=0 ∧ lq ≤ q)=t:=⟨_,rfl⟩
 obtain ⟨r2,hr2⟩:∃ t,decide (0 < i2 ∨ i2=0 ∧ q ≤ hq)=t:=⟨_,rfl⟩
 rw [kps_and,hr1,hr2]
 have C1:Hid (∀ W (W2:World),Below w.heap.size w W → Fn W 0 s3 x3 n3 f3 y3 m3 g3 q → Calls Tryz.prog 46 #[.agg #[.int .i64 i1,.bool s1,.slice x1 n1 c1,.slice y1 m1 d1],.agg #[.int .i64 0,.bool s3,.slice x3 n3 c3,.slice y3 m3 d3]] W fun e w'=>∃ r,e=.returned (.int .i64 r) ∧ Below W.heap.size W w' ∧ Hid (decide (r ≤ 0)=r1)):=fun W _ hW hF =>
  (xCmpW_c (c1:=c1) (d1:=d1) (c2:=c3) (d2:=d3) (FnT.of (e:=⟨i1,⟨s1,x1,n1,c1,f1,y1,m1,d1,g1⟩⟩) (ha.below hW) rfl hbd.1) hF (Nat.le_trans ha.1 hK) (Nat.le_trans ha.2.1 hK) (Nat.le_trans ht.1 hK) (Nat.le_trans ht.2.1 hK)).mono (by
   rintro e w' ⟨r,rfl,h1,h2⟩
   exact ⟨r,rfl,h1,hid ((kps_lo h2.out).trans hr1)⟩)
 have C2:Hid (∀ W (W2:World),Below w.heap.size w W → Fn W 0 s3 x3 n3 f3 y3 m3 g3 q → Calls Tryz.prog 46 #[.agg #[.int .i64 0,.bool s3,.slice x3 n3 c3,.slice y3 m3 d3],.agg #[.int .i64 i2,.bool s2,.slice x2 n2 c2,.slice y2 m2 d2]] W fun e w'=>∃ r,e=.returned (.int .i64 r) ∧ Below W.heap.size W w' ∧ Hid (decide (r ≤ 0)=r2)):=fun W _ hW hF =>
  (xCmpW_c (c1:=c3) (d1:=d3) (c2:=c2) (d2:=d2) hF (FnT.of (e:=⟨i2,⟨s2,x2,n2,c2,f2,y2,m2,d2,g2⟩⟩) (hb.below hW) rfl hbd.2) (Nat.le_trans ht.1 hK) (Nat.le_trans ht.2.1 hK) (Nat.le_trans hb.1 hK) (Nat.le_trans hb.2.1 hK)).mono (by
   rintro e w' ⟨r,rfl,h1,h2⟩
   exact ⟨r,rfl,h1,hid ((kps_hi h2.out).trans hr2)⟩)
 have CN:Hid (∀ W,Below w.heap.size w W → Calls Tryz.prog 47 #[.agg #[.bool s3,.slice x3 n3 c3,.slice y3 m3 d3]] W fun e w'=>e=.returned (.agg #[.int .i64 0,.bool s3,.slice x3 n3 c3,.slice y3 m3 d3]) ∧ Below W.heap.size W w' ∧ Hid (Fn w' 0 s3 x3 n3 f3 y3 m3 g3 q)):=fun W hW=>(xNum_c (c:=c3) (d:=d3) (ht.below hW).2.2).mono (by
   rintro e w' ⟨rfl,h1,h2⟩
   exact ⟨rfl,h1,hid h2⟩)
 clear ha hb ht hr1 hr2 hbd
 show Calls Tryz.prog 22 #[.agg #[.int .i64 i1,.bool s1,.slice x1 n1 c1,.slice y1 m1 d1],.agg #[.int .i64 i2,.bool s2,.slice x2 n2 c2,.slice y2 m2 d2],.agg #[.bool s3,.slice x3 n3 c3,.slice y3 m3 d3]] w _
 have HB:=hid (below_alloc (below_alloc (below_alloc (Below.refl w.heap.size w) (.cells #[.int .i64 i1,.bool s1,.slice x1 n1 c1,.slice y1 m1 d1] 67)) (.cells #[.int .i64 i2,.bool s2,.slice x2 n2 c2,.slice y2 m2 d2] 67)) (.cells #[.bool s3,.slice x3 n3 c3,.slice y3 m3 d3] 60))
 have BA:Hid (Bk (((w.alloc (.cells #[.int .i64 i1,.bool s1,.slice x1 n1 c1,.slice y1 m1 d1] 67)).alloc (.cells #[.int .i64 i2,.bool s2,.slice x2 n2 c2,.slice y2 m2 d2] 67)).alloc (.cells #[.bool s3,.slice x3 n3 c3,.slice y3 m3 d3] 60)) w.heap.size [.int .i64 i1,.bool s1,.slice x1 n1 c1,.slice y1 m1 d1] 67):=((bk_new w [.int .i64 i1,.bool s1,.slice x1 n1 c1,.slice y1 m1 d1] 67).below (below_alloc (Below.refl _ _) _)).below (below_alloc (Below.refl _ _) _)
 have BB:Hid (Bk (((w.alloc (.cells #[.int .i64 i1,.bool s1,.slice x1 n1 c1,.slice y1 m1 d1] 67)).alloc (.cells #[.int .i64 i2,.bool s2,.slice x2 n2 c2,.slice y2 m2 d2] 67)).alloc (.cells #[.bool s3,.slice x3 n3 c3,.slice y3 m3 d3] 60)) (w.heap.size + 1) [.int .i64 i2,.bool s2,.slice x2 n2 c2,.slice y2 m2 d2] 67):=by
  have:=(bk_new (w.alloc (.cells #[.int .i64 i1,.bool s1,.slice x1 n1 c1,.slice y1 m1 d1] 67)) [.int .i64 i2,.bool s2,.slice x2 n2 c2,.slice y2 m2 d2] 67).below (below_alloc (Below.refl _ _) (.cells #[.bool s3,.slice x3 n3 c3,.slice y3 m3 d3] 60))
  rw [size_alloc1] at this;exact this
 have BT:Hid (Bk (((w.alloc (.cells #[.int .i64 i1,.bool s1,.slice x1 n1 c1,.slice y1 m1 d1] 67)).alloc (.cells #[.int .i64 i2,.bool s2,.slice x2 n2 c2,.slice y2 m2 d2] 67)).alloc (.cells #[.bool s3,.slice x3 n3 c3,.slice y3 m3 d3] 60)) (w.heap.size + 1 + 1) [.bool s3,.slice x3 n3 c3,.slice y3 m3 d3] 60):=by
  have:=bk_new ((w.alloc (.cells #[.int .i64 i1,.bool s1,.slice x1 n1 c1,.slice y1 m1 d1] 67)).alloc (.cells #[.int .i64 i2,.bool s2,.slice x2 n2 c2,.slice y2 m2 d2] 67)) [.bool s3,.slice x3 n3 c3,.slice y3 m3 d3] 60
  rw [size_alloc1,size_alloc1] at this;exact this
 go_enter Tryz.func22,Tryz.ntmps22
 go_upto_region 1 with fail
 generalize (((w.alloc (.cells #[.int .i64 i1,.bool s1,.slice x1 n1 c1,.slice y1 m1 d1] 67)).alloc (.cells #[.int .i64 i2,.bool s2,.slice x2 n2 c2,.slice y2 m2 d2] 67)).alloc (.cells #[.bool s3,.slice x3 n3 c3,.slice y3 m3 d3] 60))=v0 at *
 replace C1:=hid (fun W (W2:World) (hW:Below v0.heap.size v0 W)=>C1.out W W2 (HB.out.trans (hW.mono HB.out.size)))
 replace C2:=hid (fun W (W2:World) (hW:Below v0.heap.size v0 W)=>C2.out W W2 (HB.out.trans (hW.mono HB.out.size)))
 replace CN:=hid (fun W (hW:Below v0.heap.size v0 W)=>CN.out W (HB.out.trans (hW.mono HB.out.size)))
 have a0:=BA.out.cell (j:=0) rfl
 have a1:=BA.out.cell (j:=1) rfl
 have a2:=BA.out.cell (j:=2) rfl
 have a3:=BA.out.cell (j:=3) rfl
 have b0:=BB.out.cell (j:=0) rfl
 have b1:=BB.out.cell (j:=1) rfl
 have b2:=BB.out.cell (j:=2) rfl
 have b3:=BB.out.cell (j:=3) rfl
 have t0:=BT.out.cell (j:=0) rfl
 have t1:=BT.out.cell (j:=1) rfl
 have t2:=BT.out.cell (j:=2) rfl
 cases r1
 case false =>
  go_region_with
   (first
    | (go_at_call 47;with_reducible refine (CN.out _ (by repeat (with_reducible first | assumption | exact Below.refl _ _ | refine Below.drew ?_ | refine kBa ?_ | refine kBb (by assumption) ?_))).mono ?_;rintro e u1 ⟨rfl,hb1,H1⟩;have B1:=hid (BA.out.below (show Below v0.heap.size v0 u1 from (by repeat (with_reducible first | assumption | exact Below.refl _ _ | refine Below.drew ?_ | refine kBa ?_ | refine kBb (by assumption) ?_))));have p0:=B1.out.cell (j:=0) rfl;have p1:=B1.out.cell (j:=1) rfl;have p2:=B1.out.cell (j:=2) rfl;have p3:=B1.out.cell (j:=3) rfl)
    | (go_at_call 46;with_reducible refine (C1.out _ v0 (by repeat (with_reducible first | assumption | exact Below.refl _ _ | refine Below.drew ?_ | refine kBa ?_ | refine kBb (by assumption) ?_)) (H1.out.below (by repeat (with_reducible first | assumption | exact Below.refl _ _ | refine Below.drew ?_ | refine kBa ?_ | refine kBb (by assumption) ?_)))).mono ?_;rintro e u2 ⟨q1,rfl,hb2,H2⟩;have hd2:decide (q1 ≤ 0)=false:=H2.out))
  all_goals
   have hb:Below v0.heap.size v0 u2:=(by repeat (with_reducible first | assumption | exact Below.refl _ _ | refine Below.drew ?_ | refine kBa ?_ | refine kBb (by assumption) ?_))
   replace HB:=hid (HB.out.trans (hb.mono HB.out.size))
   clear hb
   go_wp2
   go_ret
   exact ⟨by first | rfl | simp,by first | exact HB.out | exact HB.out.drew | exact below_drewN HB.out _⟩
 go_region_held3 (fun w'=>w'.cell? ⟨w.heap.size,0,none⟩=some (.int .i64 i1) ∧ w'.cell? ⟨w.heap.size,1,none⟩=some (.bool s1) ∧ w'.cell? ⟨w.heap.size,2,none⟩=some (.slice x1 n1 c1) ∧ w'.cell? ⟨w.heap.size,3,none⟩=some (.slice y1 m1 d1) ∧ w'.cell? ⟨w.heap.size + 1,0,none⟩=some (.int .i64 i2) ∧ w'.cell? ⟨w.heap.size + 1,1,none⟩=some (.bool s2) ∧ w'.cell? ⟨w.heap.size + 1,2,none⟩=some (.slice x2 n2 c2) ∧ w'.cell? ⟨w.heap.size + 1,3,none⟩=some (.slice y2 m2 d2) ∧ w'.cell? ⟨w.heap.size + 1 + 1,0,none⟩=some (.bool s3) ∧ w'.cell? ⟨w.heap.size + 1 + 1,1,none⟩=some (.slice x3 n3 c3) ∧ w'.cell? ⟨w.heap.size + 1 + 1,2,none⟩=some (.slice y3 m3 d3))
  (refine ⟨?_,?_,?_,?_,?_,?_,?_,?_,?_,?_,?_⟩ <;> repeat (with_reducible first | assumption | refine kCd ?_ | refine kCb (by assumption) ?_))
  (first
   | (have h9:=H2.out;clear h9;go_at_call 47;with_reducible refine (CN.out _ (by repeat (with_reducible first | assumption | exact Below.refl _ _ | refine Below.drew ?_ | refine kBa ?_ | refine kBb (by assumption) ?_))).mono ?_;rintro e u4 ⟨rfl,hb4,H4⟩)
   | (go_at_call 47;with_reducible refine (CN.out _ (by repeat (with_reducible first | assumption | exact Below.refl _ _ | refine Below.drew ?_ | refine kBa ?_ | refine kBb (by assumption) ?_))).mono ?_;rintro e u1 ⟨rfl,hb1,H1⟩)
   | (have h9:=H4.out;clear h9;go_at_call 46;with_reducible refine (C2.out _ v0 (by repeat (with_reducible first | assumption | exact Below.refl _ _ | refine Below.drew ?_ | refine kBa ?_ | refine kBb (by assumption) ?_)) (H4.out.below (by repeat (with_reducible first | assumption | exact Below.refl _ _ | refine Below.drew ?_ | refine kBa ?_ | refine kBb (by assumption) ?_)))).mono ?_;rintro e u5 ⟨q2,rfl,hb5,H5⟩;have hd5:decide (q2 ≤ 0)=r2:=H5.out)
   | (go_at_call 46;with_reducible refine (C1.out _ v0 (by repeat (with_reducible first | assumption | exact Below.refl _ _ | refine Below.drew ?_ | refine kBa ?_ | refine kBb (by assumption) ?_)) (H1.out.below (by repeat (with_reducible first | assumption | exact Below.refl _ _ | refine Below.drew ?_ | refine kBa ?_ | refine kBb (by assumption) ?_)))).mono ?_;rintro e u2 ⟨q1,rfl,hb2,H2⟩;have hd2:decide (q1 ≤ 0)=true:=H2.out))
 all_goals
  have hb:Below v0.heap.size v0 u5:=(by repeat (with_reducible first | assumption | exact Below.refl _ _ | refine Below.drew ?_ | refine kBa ?_ | refine kBb (by assumption) ?_))
  replace HB:=hid (HB.out.trans (hb.mono HB.out.size))
  clear hb
  go_wp2
  go_ret
  exact ⟨by first | rfl | simp,HB.out⟩
theorem rf_two {K:Nat} {w:World} {T:TypeId} {s:Bool} {x:Option Addr} {n c:Nat} {f:Nat → Int} {y:Option Addr} {m d:Nat} {g:Nat → Int} {q:Rat} {s2:Bool} {x2:Option Addr} {n2 c2:Nat} {f2:Nat → Int} {y2:Option Addr} {m2 d2:Nat} {g2:Nat → Int} {q2:Rat} (h:Rn K w s x n c f y m d g q) (h2:Rn K w s2 x2 n2 c2 f2 y2 m2 d2 g2 q2):Rf K (w.alloc (.cells #[.bool s,.slice x n c,.slice y m d,.bool s2,.slice x2 n2 c2,.slice y2 m2 d2] T)) (some ⟨w.heap.size,0,none⟩) [q,q2]:=fun j q' e=>by
 match j,e with
 | 0,e=>cases e;exact ⟨w.heap.size,0,⟨s,x,n,c,f,y,m,d,g⟩,rfl,⟨by simp [go_sem],by simp [go_sem],by simp [go_sem]⟩,h.alloc _⟩
 | 1,e=>cases e;exact ⟨w.heap.size,0,⟨s2,x2,n2,c2,f2,y2,m2,d2,g2⟩,rfl,⟨by simp [go_sem],by simp [go_sem],by simp [go_sem]⟩,h2.alloc _⟩
theorem pckE_ok {M:Mo} {k:Nat} {X:Nat → Nm} (h1:chkE M=0) (h2:afB k X=true) (h3:k=M.ck):pckE M k X=0:=by
 unfold pckE
 rw [h1,show pnE k X M.ck=0 by unfold pnE;rw [if_pos h2,if_pos (by rw [h3])]]
 rfl
theorem rSameEq_c {L L' w sa xa na ca fa ya ma da ga sb xb nb cb fb yb mb db gb q} (ha:Rn L w sa xa na ca fa ya ma da ga q) (hb:Rn L' w sb xb nb cb fb yb mb db gb q) (h1:L ≤ 1048576) (h2:L' ≤ 1048576) :
  Calls Tryz.prog 15 #[.agg #[.bool sa,.slice xa na ca,.slice ya ma da],.agg #[.bool sb,.slice xb nb cb,.slice yb mb db]] w fun e w'=>e=.returned (.bool true) ∧ Below w.heap.size w w':=by
 have l1:=ha.ln;have l2:=ha.ld;have l3:=hb.ln;have l4:=hb.ld
 refine (rSame_c sa xa ya na ca ma da fa ga sb xb yb nb cb mb db fb gb w ha.num.rd ha.den.rd hb.num.rd hb.den.rd (by omega) (by omega) (by omega) (by omega)).mono ?_
 rintro e w' ⟨c,rfl,h3,h4⟩
 refine ⟨?_,h3⟩
 rw [h4.2 ((ha.inj hb).2 rfl)]
theorem twin_w {w:World} {M:Mo} {K:Nat} (hX:MoX w M) (hN:MoN M) (hk:M.ck ≤ 64 → M.rk ≤ 64 → MoK K M) (hK:K ≤ 65536):Calls Tryz.prog 9 #[M.val] w fun e w'=>∃ M':Mo,e=.returned M'.val ∧ Below w.heap.size w w' ∧ Sm M M' ∧ MoW w' M' ∧ MoX w' M' ∧ (M'.ck ≤ 64 → M'.rk ≤ 64 → MoK K M') :=
 (mTwin_c hX).mono fun e w' ⟨M',h1,h2,h3,h4⟩=>⟨M',h1,h2,h3,fun a b=>h4.mor (h3.mon hN) (h3.mok (hk (by rw [← h3.ck];exact a) (by rw [← h3.rk];exact b))) hK a b,h4,fun a b=>h3.mok (hk (by rw [← h3.ck];exact a) (by rw [← h3.rk];exact b))⟩
theorem lgM_k {K:Nat} {M:Mo} (h:lgM K M=true):M.ck ≤ 64 → M.rk ≤ 64 → MoK K M:=fun a b=>lgM_at h a b
theorem El.below {w w' ao k E} (h:El w ao k E) (hb:Below w.heap.size w w'):El w' ao k E:=fun j hj=>by
 obtain ⟨b,o,e,h1⟩:=h j hj
 exact ⟨b,o,e,kCb hb h1⟩
theorem Sn.trans {a b c:Nm} (h:Sn a b) (k:Sn b c):Sn a c:=by
 obtain ⟨h1,h2,h3,h4,h5⟩:=h
 obtain ⟨k1,k2,k3,k4,k5⟩:=k
 exact ⟨k1.trans h1,k2.trans h2,k3.trans h3,k4.trans h4,k5.trans h5⟩
theorem Sn.nq {t t':Nm} (h:Sn t t'):nq t'=nq t:=by
 obtain ⟨h1,h2,h3,h4,h5⟩:=h
 unfold Go.Proofs.YtbnaikljfhhljaaGreat.nq
 rw [h1,h2,h3,h4,h5]
theorem Sm.csOf {M M':Mo} (h:Sm M M'):csOf M'=csOf M:=by
 unfold Go.Proofs.YtbnaikljfhhljaaGreat.csOf
 rw [h.ck]
 refine List.map_congr_left (fun j hj=>?_)
 have p:=h.C j (List.mem_range.1 hj)
 unfold cvOf
 rw [p.nm,p.cost.nq,p.li,p.lo.nq,p.hi,p.hv.nq]
theorem Sm.rsOf {M M':Mo} (h:Sm M M'):rsOf M'=rsOf M:=by
 unfold Go.Proofs.YtbnaikljfhhljaaGreat.rsOf
 rw [h.rk]
 refine List.map_congr_left (fun j hj=>?_)
 have p:=h.R j (List.mem_range.1 hj)
 unfold rvOf
 rw [p.nm,p.li,p.lo.nq,p.hi,p.hv.nq,p.tk,p.col]
 congr 1
 exact List.map_congr_left (fun q hq=>by rw [(p.T q (List.mem_range.1 hq)).nq])
def psOf (k:Nat) (X:Nat → Nm):List Rat:=(List.range k).map (fun j=>nq (X j))
theorem psOf_len (k:Nat) (X:Nat → Nm):(psOf k X).length=k:=by simp [psOf]
theorem psOf_sn {k:Nat} {X X':Nat → Nm} (h:∀ j,j < k → Sn (X j) (X' j)):psOf k X'=psOf k X:=List.map_congr_left (fun j hj=>(h j (List.mem_range.1 hj)).nq)
theorem Rl.rfC {w:World} {ao:Option Addr} {k K:Nat} {X:Nat → Nm} (h:Rl w ao k X) (hf:afB k X=true) (hk:∀ j,j < k → (X j).n ≤ K ∧ (X j).m ≤ K):Rf K w ao (psOf k X):=fun j q e=>by
 obtain ⟨hj,rfl⟩:=range_at e
 obtain ⟨b,o,h1,h2,h3⟩:=h j hj
 exact ⟨b,o,X j,h1,h2,NmS.val h3 (afr_all hf j (by omega) (by omega)) (hk j hj)⟩
def lgL (K k:Nat) (X:Nat → Nm):Bool:=decide (k ≤ 300) && nlg K X k 0
theorem MoK.up {K L:Nat} {M:Mo} (h:MoK K M) (hL:K ≤ L):MoK L M:=by
 have e:∀ {a b:Nat},a ≤ K ∧ b ≤ K → a ≤ L ∧ b ≤ L:=fun p=>⟨Nat.le_trans p.1 hL,Nat.le_trans p.2 hL⟩
 exact ⟨e h.off,fun j hj=>⟨e (h.c j hj).1,e (h.c j hj).2.1,e (h.c j hj).2.2⟩,fun j hj=>⟨e (h.r j hj).1,e (h.r j hj).2.1,(h.r j hj).2.2.1,fun p hp=>e ((h.r j hj).2.2.2 p hp)⟩⟩
theorem Rf.cut {K L:Nat} {w:World} {ao:Option Addr} {p:List Rat} (h:Rf K w ao p) (hp:∀ q,q ∈ p → Lo L q):Rf L w ao p:=fun j q hj=>by
 obtain ⟨b,o,t,e,h1,h2⟩:=h j q hj
 exact ⟨b,o,t,e,h1,h2.cut (hp q (List.mem_of_getElem? hj))⟩
theorem pckE_two {M:Mo} {k:Nat} {X:Nat → Nm} (h:pckE M k X=0):chkE M=0 ∧ afB k X=true ∧ k=M.ck:=by
 obtain ⟨h1,h2⟩:=two_zero h
 refine ⟨h1,?_⟩
 unfold pnE at h2
 by_cases a:afB k X=true
 ·rw [if_pos a] at h2
  by_cases b:k=M.ck
  ·exact ⟨a,b⟩
  ·rw [if_neg (by omega)] at h2;cases h2
 ·rw [if_neg a] at h2;cases h2
theorem csOf_len (M:Mo):(csOf M).length=M.ck:=by simp [csOf]
def Tx (w:World) (ao:Option Addr) (k:Nat) (X X':Nat → Nm):Prop:=Rl w ao k X' ∧ ∀ j,j < k → Sn (X j) (X' j)
theorem Tx.below {w w' ao k X X'} (h:Tx w ao k X X') (hb:Below w.heap.size w w'):Tx w' ao k X X':=⟨h.1.below hb,h.2⟩
def Sh (k:Nat) (X:Nat → Nm):Prop:=k ≤ 300 ∧ ∀ j,j < k → (X j).n ≤ 6 ∧ (X j).m ≤ 6
theorem Tx.val {w ao k X X'} (h:Tx w ao k X X') (hs:Sh k X) (ha:afB k X=true):Rf 6 w ao (psOf k X):=by
 rw [← psOf_sn h.2]
 refine h.1.rfC ?_ (fun j hj=>by rw [(h.2 j hj).2.1,(h.2 j hj).2.2.2.1];exact hs.2 j hj)
 exact (afr_sn (fun j _ b=>h.2 j (by omega))).trans ha
theorem Rf.lo {L w ao} {p:List Rat} (h:Rf L w ao p):∀ (j:Nat) (q:Rat),p[j]?=some q → Lo L q:=fun j q hj=>by
 obtain ⟨_,_,_,_,_,h2⟩:=h j q hj
 exact h2.lo h2.ln h2.ld
theorem Dn.len_pd {w x n d V} {K:Nat} (h:Dn w x n d V) (hv:(V:Int) < pd K):n ≤ K:=by
 by_cases hn:n ≤ K
 ·exact hn
 ·have h1:=vd_form_ge h.dg h.fm (by omega)
  have h2:=pd_mono (show K ≤ n - 1 by omega)
  have h3:=h.val
  omega
theorem Dn.lt_pd {w x n d V} {K:Nat} (h:Dn w x n d V) (hn:n ≤ K):(V:Int) < pd K:=by
 have h1:=vd_lt h.dg
 have h2:=pd_mono hn
 have h3:=h.val
 omega
theorem Qn.len {w s x n d y m g q} {K:Nat} (h:Qn w s x n d y m g q) (hq:Lo K q):n ≤ 2 * K ∧ m ≤ 2 * K :=
 ⟨h.num.dn.len_pd (by rw [pd_two];exact hq.1),h.den.len_pd (by rw [pd_two];exact hq.2)⟩
theorem Qn.lo {w s x n d y m g q} {K:Nat} (h:Qn w s x n d y m g q) (hn:n ≤ 2 * K) (hm:m ≤ 2 * K):Lo K q :=
 ⟨by rw [← pd_two];exact h.num.dn.lt_pd hn,by rw [← pd_two];exact h.den.lt_pd hm⟩
theorem Sx.qn {w B s x n c y m d u0 u1 u2 s1 x1 n1 d1 y1 m1 g1 q} (S:Sx w B s x n c y m d) (h:Qn w s1 x1 n1 d1 y1 m1 g1 q):Qn (((w.setCell ⟨B,0,none⟩ u0).setCell ⟨B,1,none⟩ u1).setCell ⟨B,2,none⟩ u2) s1 x1 n1 d1 y1 m1 g1 q :=
 ⟨⟨⟨S.rd h.num.dn.rd,h.num.dn.dg,h.num.dn.fm,h.num.dn.val⟩,h.num.sgn,h.num.pos⟩,⟨S.rd h.den.rd,h.den.dg,h.den.fm,h.den.val⟩⟩
theorem qnt_up {K K' w t q} (h:QnT K w t q) (hk:K ≤ K'):QnT K' w t q:=⟨Nat.le_trans h.1 hk,Nat.le_trans h.2.1 hk,h.2.2⟩
def ShK (K k:Nat) (X:Nat → Nm):Prop:=k ≤ 300 ∧ ∀ j,j < k → (X j).n ≤ K ∧ (X j).m ≤ K
theorem lgL_shK {K k:Nat} {X:Nat → Nm} (h:lgL K k X=true):ShK K k X:=by
 simp only [lgL,Bool.and_eq_true,decide_eq_true_eq] at h
 exact ⟨h.1,fun j hj=>nlg_all h.2 j (by omega) (by omega)⟩
def TmK (K:Nat) (w:World) (M M':Mo):Prop:=Sm M M' ∧ MoW w M' ∧ MoX w M' ∧ (M'.ck ≤ 64 → M'.rk ≤ 64 → MoK K M')
theorem TmK.below {K w w' M M'} (h:TmK K w M M') (hb:Below w.heap.size w w'):TmK K w' M M':=⟨h.1,h.2.1.below hb,h.2.2.1.below hb,h.2.2.2⟩
theorem TmK.valL {K w M M'} (L:Nat) (hL:K ≤ L) (hK:K ≤ 100) (h:TmK K w M M') (hN:MoN M) (he:chkE M=0):MoV L w M' (nq M.off) (csOf M) (rsOf M) ∧ mvOk (csOf M) (rsOf M)=true:=by
 obtain ⟨s,hw,hx,hk⟩:=h
 have he':chkE M'=0:=s.chk.trans he
 obtain ⟨l1,l2,_⟩:=chkE_ok he'
 have k6:=hk l1 l2
 have:=(hx.mor (s.mon hN) k6 (by omega) l1 l2).movC (k6.up hL) he'
 rw [s.csOf,s.rsOf,s.off.nq] at this
 exact this
theorem Tx.valK {K w ao k X X'} (h:Tx w ao k X X') (hs:ShK K k X) (ha:afB k X=true):Rf K w ao (psOf k X):=by
 rw [← psOf_sn h.2]
 refine h.1.rfC ?_ (fun j hj=>by rw [(h.2 j hj).2.1,(h.2 j hj).2.2.2.1];exact hs.2 j hj)
 exact (afr_sn (fun j _ b=>h.2 j (by omega))).trans ha
theorem pckE_twK {K w ao k X X' M M'} (h:TmK K w M M') (hx:Tx w ao k X X'):pckE M' k X'=pckE M k X:=by
 unfold pckE
 rw [h.1.chk,h.1.ck]
 unfold pnE
 rw [show afB k X'=afB k X from afr_sn (fun j _ b=>hx.2 j (by omega))]
theorem tw_hvK {K w ao k X X' M M'} (L:Nat) (hL:K ≤ L) (hK:K ≤ 100) (h:TmK K w M M') (hN:MoN M) (hx:Tx w ao k X X') (hs:ShK K k X) (he:pckE M k X=0):MoV L w M' (nq M.off) (csOf M) (rsOf M) ∧ mvOk (csOf M) (rsOf M)=true ∧ Rf L w ao (psOf k X) ∧ (psOf k X).length=k ∧ k=(csOf M).length:=by
 obtain ⟨h1,h2,h3⟩:=pckE_two he
 obtain ⟨a,b⟩:=h.valL L hL hK hN h1
 exact ⟨a,b,(hx.valK hs h2).mono hL,psOf_len _ _,by rw [csOf_len];exact h3⟩
theorem twinTmK_c {K:Nat} {w:World} {M:Mo} (hX:MoX w M) (hN:MoN M) (hk:M.ck ≤ 64 → M.rk ≤ 64 → MoK K M) (hK:K ≤ 100):Calls Tryz.prog 9 #[M.val] w fun e w'=>∃ (vm:Value) (M':Mo),e=.returned vm ∧ Below w.heap.size w w' ∧ Hid (vm=M'.val ∧ TmK K w' M M') :=
 (twin_w (K:=K) hX hN hk (by omega)).mono fun e w' ⟨M',h1,h2,h3,h4,h5,h6⟩=>⟨M'.val,M',h1,h2,hid ⟨rfl,h3,h4,h5,h6⟩⟩
theorem twinsTxK_c {K:Nat} {w:World} {ao:Option Addr} {k cap:Nat} {X:Nat → Nm} (h:Rl w ao k X) (hs:ShK K k X) (hK:K ≤ 100):Calls Tryz.prog 10 #[.slice ao k cap] w fun e w'=>∃ (a:Option Addr) (c:Nat) (X':Nat → Nm),e=.returned (.slice a k c) ∧ Below w.heap.size w w' ∧ (k ≤ c ∧ c ≤ 9223372036854775807) ∧ Hid (Tx w' a k X X') :=
 (twins_c h (by have:=hs.1;omega) (fun j hj=>by have:=hs.2 j hj;omega)).mono fun e w' ⟨a,c,X',h1,h2,h3,h4⟩=>⟨a,c,X',h1,h2,h3,hid h4.out⟩
theorem feasTwK_c {w:World} {M M':Mo} {ao:Option Addr} {k cap:Nat} {X X':Nat → Nm} (h:TmK 8 w M M') (hN:MoN M) (hx:Tx w ao k X X') (hs:ShK 8 k X) :
  Calls Tryz.prog 16 #[M'.val,.slice ao k cap] w fun e w'=>e=.returned (.tuple #[.bool (decide (pckE M k X=0) && feasB (csOf M) (rsOf M) (psOf k X)),.int .i64 (pckE M k X)]) ∧ Below w.heap.size w w' :=
 pFeas_v h.2.1 hx.1 (by have:=hs.1;omega) (pckE_twK h hx) (fun he=>tw_hvK 8 (by decide) (by decide) h hN hx hs he) (by decide)
theorem actsTwK_c {w:World} {M M':Mo} {ao:Option Addr} {k cap:Nat} {X X':Nat → Nm} (h:TmK 8 w M M') (hN:MoN M) (hx:Tx w ao k X X') (hs:ShK 8 k X) :
  Calls Tryz.prog 8 #[M'.val,.slice ao k cap] w fun e w'=>AcAns 8 w w' e (pckE M k X) (rsOf M) (psOf k X) :=
 pActs_v h.2.1 hx.1 (by have:=hs.1;omega) (pckE_twK h hx) (fun he=>tw_hvK 8 (by decide) (by decide) h hN hx hs he) (by decide)
theorem brokenTwK_c {w:World} {M M':Mo} {ao:Option Addr} {k cap:Nat} {X X':Nat → Nm} (h:TmK 8 w M M') (hN:MoN M) (hx:Tx w ao k X X') (hs:ShK 8 k X) :
  Calls Tryz.prog 18 #[M'.val,.slice ao k cap] w fun e w'=>BrAns w w' e (pckE M k X) (csOf M) (rsOf M) (psOf k X) :=
 pBroken_v h.2.1 hx.1 (by have:=hs.1;omega) (pckE_twK h hx) (fun he=>tw_hvK 8 (by decide) (by decide) h hN hx hs he) (by decide)
theorem nq_congr {t t':Nm} (h:Sn t t'):nq t'=nq t:=by
 obtain ⟨h1,h2,h3,h4,h5⟩:=h
 unfold nq
 rw [h1,h2,h3,h4,h5]
theorem Sm.crl {M M':Mo} (h:Sm M M'):crl (ccB M'.C) M'.ck=crl (ccB M.C) M.ck ∧ crl (rcB M'.R) M'.rk=crl (rcB M.R) M.rk:=by
 refine ⟨?_,?_⟩
 ·rw [crl_congr (B':=ccB M.C) (fun j hj=>?_),h.ck]
  rw [h.ck] at hj
  have p:=h.C j hj
  unfold ccB abvB
  rw [p.li,p.hi,nq_congr p.lo,nq_congr p.hv]
 ·rw [crl_congr (B':=rcB M.R) (fun j hj=>?_),h.rk]
  rw [h.rk] at hj
  have p:=h.R j hj
  unfold rcB abvB
  rw [p.li,p.hi,nq_congr p.lo,nq_congr p.hv]
structure In8 (w:World) (M:Mo):Prop where
 x:MoX w M
 n:MoN M
 c:MoC M
 k:M.ck ≤ 64 → M.rk ≤ 64 → MoK 8 M
theorem In8.below {w w' M} (h:In8 w M) (hb:Below w.heap.size w w'):In8 w' M:=⟨h.x.below hb,h.n,h.c,h.k⟩
theorem In8.val {w M} (h:In8 w M) (he:chkE M=0):MoV 8 w M (nq M.off) (csOf M) (rsOf M) ∧ mvOk (csOf M) (rsOf M)=true:=by
 obtain ⟨l1,l2,_⟩:=chkE_ok he
 exact (h.x.mor h.n (h.k l1 l2) (by decide) l1 l2).movC (h.k l1 l2) he
theorem from8_c {w:World} {M:Mo} (h:In8 w M) (he:chkE M=0):Calls Tryz.prog 21 #[M.val] w fun e w'=>∃ M':Mo,e=.returned M'.val ∧ Below w.heap.size w w' ∧ Hid (MqV (2 * 8) w' M' (nq M.off) (csOf M) (rsOf M)) :=
 (mFrom_c (h.val he).1 (by decide) (h.val he).2).mono (by
  rintro e w' ⟨M',h1,h2,h3⟩
  exact ⟨M',h1,h2,hid h3⟩)
def GN (K:Nat) (q:Rat) (v:Value) (w:World):Prop:=∃ t:Nm,v=t.val ∧ NmV K w t q
def GTm (K:Nat) (z:Int) (q:Rat) (v:Value) (w:World):Prop:=∃ t:Nm,v=.agg #[.int .i64 z,.bool t.s,.slice t.x t.n t.c,.slice t.y t.m t.d] ∧ NmV K w t q
def GT2 (K:Nat) (z0:Int) (q0:Rat) (z1:Int) (q1:Rat) (v:Value) (w:World):Prop:=∃ b,∃ t0 t1:Nm,v=.slice (some ⟨b,0,none⟩) 2 2 ∧ (∀ p z t,[(z0,t0),(z1,t1)][p]?=some (z,t) → C4 w b (0 + p * 4) (.int .i64 z) (.bool t.s) (.slice t.x t.n t.c) (.slice t.y t.m t.d)) ∧ NmV K w t0 q0 ∧ NmV K w t1 q1
def GR1 (L:Nat) (c0:RV) (v:Value) (w:World):Prop:=∃ b x0,v=.slice (some ⟨b,0,none⟩) 1 1 ∧ Cs w b 0 x0.vs ∧ RowV L w x0 c0
theorem GN.below {K q v w w'} (h:GN K q v w) (hb:Below w.heap.size w w'):GN K q v w':=by obtain ⟨t,h1,h2⟩:=h;exact ⟨t,h1,Rn.below h2 hb⟩
theorem GTm.below {K z q v w w'} (h:GTm K z q v w) (hb:Below w.heap.size w w'):GTm K z q v w':=by obtain ⟨t,h1,h2⟩:=h;exact ⟨t,h1,Rn.below h2 hb⟩
theorem GT2.below {K z0 q0 z1 q1 v w w'} (h:GT2 K z0 q0 z1 q1 v w) (hb:Below w.heap.size w w'):GT2 K z0 q0 z1 q1 v w':=by obtain ⟨b,t0,t1,h1,h2,h3,h4⟩:=h;exact ⟨b,t0,t1,h1,fun p z t e=>(h2 p z t e).below hb,Rn.below h3 hb,Rn.below h4 hb⟩
theorem GR1.below {L c0 v w w'} (h:GR1 L c0 v w) (hb:Below w.heap.size w w'):GR1 L c0 v w':=by obtain ⟨b,x0,h1,h2,h3⟩:=h;exact ⟨b,x0,h1,h2.below hb,h3.below hb⟩
def f0C:List CV:=[⟨⟨#[120]⟩,3,0,0,1,0⟩,⟨⟨#[121]⟩,0,-1,0,1,0⟩]
def f0R:List RV:=[⟨⟨#[114]⟩,0,1,0,5,[(0,1),(1,2)]⟩]
set_option maxRecDepth 100000 in
set_option maxHeartbeats 4000000 in
theorem num10_c {w:World} {z:Int} (h0:-1000 ≤ z) (h1:z ≤ 1000):Calls Tryz.prog 51 #[.int .i64 z] w fun e w'=>∃ v,e=.returned v ∧ Below w.heap.size w w' ∧ GX 8 0 (z:Rat) v w':=by
 have HB:=hid (below_alloc (Below.refl w.heap.size w) (.cells #[.int .i64 0,.bool false,.slice none 0 0,.slice none 0 0] 81))
 have BR:Hid (Bk (w.alloc (.cells #[.int .i64 0,.bool false,.slice none 0 0,.slice none 0 0] 81)) w.heap.size [.int .i64 0,.bool false,.slice none 0 0,.slice none 0 0] 81):=bk_new w [.int .i64 0,.bool false,.slice none 0 0,.slice none 0 0] 81
 go_enter Tryz.func51,Tryz.ntmps51
 go_wp2_with fail
 generalize w.alloc (.cells #[.int .i64 0,.bool false,.slice none 0 0,.slice none 0 0] 81)=w0 at *
 refine (docOfQ_c (z:=z) (by omega) (by omega)).mono ?_
 rintro e w1 ⟨s,x,n,c,f,y,m,d,g,rfl,hb,hr⟩
 replace HB:=hid (HB.out.trans (hb.mono HB.out.size));replace BR:=hid (BR.out.below hb)
 obtain ⟨hx1,hx2,hx3⟩:=st_new [.int .i64 0,.bool s,.slice x n c,.slice y m d] BR.out (nou_list (fun u hu q=>by simp at hu;rcases hu with rfl | rfl | rfl | rfl <;> simp)) HB.out (Nat.le_refl _)
 have l0:=BR.out.cell (j:=0) rfl
 have l1:=BR.out.cell (j:=1) rfl
 have l2:=BR.out.cell (j:=2) rfl
 have l3:=BR.out.cell (j:=3) rfl
 have ff:=BR.out.frozen
 have HX:Hid (Below w.heap.size w (stl w.heap.size 0 [.int .i64 0,.bool s,.slice x n c,.slice y m d] w1) ∧ GX 8 0 (z:Rat) (.agg #[.int .i64 0,.bool s,.slice x n c,.slice y m d]) (stl w.heap.size 0 [.int .i64 0,.bool s,.slice x n c,.slice y m d] w1)):=⟨hx1,⟨0,⟨s,x,n,c,f,y,m,d,g⟩⟩,rfl,rfl,(Rn.kp hr hx2).mono (by decide)⟩
 clear hx1 hx2 hx3 hb hr HB
 go_wp2
 exact bodyPost_ret (v:=.agg #[.int .i64 0,.bool s,.slice x n c,.slice y m d]) (by simp [results,Tryz.results51,go_sem,l0,l1,l2,l3]) rfl ⟨_,rfl,HX.out⟩
set_option maxRecDepth 100000 in
set_option maxHeartbeats 4000000 in
theorem two10_c {w:World} {a b:Int} (h0:-1000 ≤ a) (h1:a ≤ 1000) (h2:-1000 ≤ b) (h3:b ≤ 1000):Calls Tryz.prog 26 #[.int .i64 a,.int .i64 b] w fun e w'=>∃ ad,e=.returned (.slice ad 2 2) ∧ Below w.heap.size w w' ∧ Hid (Rf 8 w' ad [(a:Rat),(b:Rat)]):=by
 go_enter Tryz.func26,Tryz.ntmps26
 go_wp2_with fail
 refine (docOfQ_c (z:=a) (by omega) (by omega)).mono ?_
 rintro e w1 ⟨s1,x1,n1,c1,f1,y1,m1,d1,g1,rfl,hb1,hr1⟩
 have HR1:=hid hr1;have HB1:=hid hb1
 clear hr1 hb1
 go_wp2_with fail
 refine (docOfQ_c (z:=b) (by omega) (by omega)).mono ?_
 rintro e w2 ⟨s2,x2,n2,c2,f2,y2,m2,d2,g2,rfl,hb2,hr2⟩
 have HR:=hid (show Rf 8 (w2.alloc (.cells #[.bool s1,.slice x1 n1 c1,.slice y1 m1 d1,.bool s2,.slice x2 n2 c2,.slice y2 m2 d2] 24)) (some ⟨w2.heap.size,0,none⟩) [(a:Rat),(b:Rat)] from rf_two ((HR1.out.below hb2).mono (by decide)) (hr2.mono (by decide)))
 have HB:=hid (below_alloc (HB1.out.trans (hb2.mono HB1.out.size)) (.cells #[.bool s1,.slice x1 n1 c1,.slice y1 m1 d1,.bool s2,.slice x2 n2 c2,.slice y2 m2 d2] 24))
 clear HR1 HB1 hb2 hr2
 go_wp2
 go_ret
 exact ⟨_,rfl,HB.out,HR.out⟩
set_option maxRecDepth 100000 in
set_option maxHeartbeats 8000000 in
theorem first10_c {w:World}:Calls Tryz.prog 25 #[] w fun e w'=>∃ M:Mo,e=.returned M.val ∧ Below w.heap.size w w' ∧ Hid (MoV 8 w' M 1 f0C f0R):=by
 generalize hP:(fun (e:Ending) (w':World)=>∃ M:Mo,e=.returned M.val ∧ Below w.heap.size w w' ∧ Hid (MoV 8 w' M 1 f0C f0R))=P
 have HA:Hid (∀ w' (M:Mo),Below w.heap.size w w' → MoV 8 w' M 1 f0C f0R → P (.returned M.val) w'):=by subst hP;exact fun w' M h1 h2=>⟨M,rfl,h1,h2⟩
 clear hP
 have HB:=hid (below_alloc (Below.refl w.heap.size w) (.cells #[.bool false,.slice none 0 0,.slice none 0 0,.slice none 0 0,.slice none 0 0] 28))
 have O0:Hid (Bk (w.alloc (.cells #[.bool false,.slice none 0 0,.slice none 0 0,.slice none 0 0,.slice none 0 0] 28)) w.heap.size [.bool false,.slice none 0 0,.slice none 0 0,.slice none 0 0,.slice none 0 0] 28):=bk_new w [.bool false,.slice none 0 0,.slice none 0 0,.slice none 0 0,.slice none 0 0] 28
 go_enter Tryz.func25,Tryz.ntmps25
 go_wp2_with fail
 generalize w.alloc (.cells #[.bool false,.slice none 0 0,.slice none 0 0,.slice none 0 0,.slice none 0 0] 28)=w0 at *
 refine (xHigh_c).mono ?_
 rintro e w1 ⟨s1,x1,n1,c1,f1,y1,m1,d1,g1,rfl,hb,hF⟩
 replace HB:=hid (HB.out.trans (hb.mono HB.out.size));replace O0:=hid (O0.out.below hb)
 clear hb
 go_wp2_with fail
 refine (xTo_c hF.out.2.2 (by have:=hF.out;omega) (by have:=hF.out;omega)).mono ?_
 rintro e w2 ⟨xi,ni,ci,fi,yi,mi,di,gi,rfl,hb,hE⟩
 replace HB:=hid (HB.out.trans (hb.mono HB.out.size));replace O0:=hid (O0.out.below hb)
 have HI:=hid (hE.out.rn.mono (show _ ≤ 8 by have:=hF.out;omega))
 clear hb hE hF
 generalize s1=si at *
 go_upto_region 2 with fail
 have hb4:=below_alloc (Below.refl w2.heap.size w2) (.cells #[.int .i64 1,.bool si,.slice xi ni ci,.slice yi mi di] 81)
 have B1:Hid (Bk (w2.alloc (.cells #[.int .i64 1,.bool si,.slice xi ni ci,.slice yi mi di] 81)) w2.heap.size [.int .i64 1,.bool si,.slice xi ni ci,.slice yi mi di] 81):=bk_new w2 [.int .i64 1,.bool si,.slice xi ni ci,.slice yi mi di] 81
 have hop:=O0.out.lt
 replace O0:=hid (O0.out.below hb4);replace HB:=hid (HB.out.trans (hb4.mono HB.out.size));replace HI:=hid (Rn.below HI.out hb4)
 generalize w2.alloc (.cells #[.int .i64 1,.bool si,.slice xi ni ci,.slice yi mi di] 81)=w4 at *
 generalize w2.heap.size=p1 at *
 clear hb4
 have hbd:=Below.drew (Below.refl w4.heap.size w4)
 replace B1:=hid (B1.out.below hbd);replace O0:=hid (O0.out.below hbd);replace HI:=hid (Rn.below HI.out hbd);replace HB:=hid (HB.out.trans (hbd.mono HB.out.size))
 clear hbd
 refine wp_region_held_drew (S:=(fun w'=>w'.cell? ⟨p1,0,none⟩=some (.int .i64 1) ∧ w'.cell? ⟨p1,1,none⟩=some (.bool si) ∧ w'.cell? ⟨p1,2,none⟩=some (.slice xi ni ci) ∧ w'.cell? ⟨p1,3,none⟩=some (.slice yi mi di))) (by kernel_rfl) ?_ (fun hHeld=>?_)
 ·exact ⟨B1.out.cell (j:=0) rfl,B1.out.cell (j:=1) rfl,B1.out.cell (j:=2) rfl,B1.out.cell (j:=3) rfl⟩
 generalize hwd:w4.drew=wd at *
 clear hwd
 refine wpAnyH_take (i:=3) (v:=?_) rfl (by kernel_rfl) (by kernel_rfl) (by kernel_rfl) (fun _ _ _ h=>h) (Or.inl ⟨by rfl,?_⟩) (by assumption) ?_
 rotate_left
 (focus (intro w0 hSw;(try dsimp only at hSw);go_simp <;> with_reducible rfl))
 simp only [List.getElem_toArray,List.getElem_cons_succ,List.getElem_cons_zero,Act.put,List.setIfInBounds_toArray,List.set_cons_zero,List.set_cons_succ]
 refine wpAnyH_take (i:=8) (v:=?_) rfl (by kernel_rfl) (by kernel_rfl) (by kernel_rfl) (fun _ _ _ h=>h) (Or.inl ⟨by rfl,?_⟩) (by assumption) ?_
 rotate_left
 (focus (intro w0 hSw;(try dsimp only at hSw);go_simp <;> with_reducible rfl))
 simp only [List.getElem_toArray,List.getElem_cons_succ,List.getElem_cons_zero,Act.put,List.setIfInBounds_toArray,List.set_cons_zero,List.set_cons_succ]
 refine (show wpAnyH _ _ _ _ _ (19 + 1) _ _ _ from wpAnyH_flow (fun j v w=>match j with | 0=>GN 8 1 v w | 1=>GN 8 3 v w | 2=>GX 8 0 0 v w | 4=>GC 8 ⟨⟨#[120]⟩,3,0,0,1,0⟩ v w | 5=>GN 8 0 v w | 6=>GF (-1) v w | 7=>GX 8 (-1) 0 v w | 9=>GC 8 ⟨⟨#[121]⟩,0,-1,0,1,0⟩ v w | 10=>GCs 8 ⟨⟨#[120]⟩,3,0,0,1,0⟩ ⟨⟨#[121]⟩,0,-1,0,1,0⟩ v w | 11=>GX 8 0 1 v w | 12=>GX 8 0 5 v w | 13=>GN 8 1 v w | 14=>GTm 8 0 1 v w | 15=>GN 8 2 v w | 16=>GTm 8 1 2 v w | 17=>GT2 8 0 1 1 2 v w | 18=>GR 8 ⟨⟨#[114]⟩,0,1,0,5,[(0,1),(1,2)]⟩ v w | 19=>GR1 8 ⟨⟨#[114]⟩,0,1,0,5,[(0,1),(1,2)]⟩ v w | 20=>GM 8 1 f0C f0R v w | _=>True) [(0,4),(1,5),(2,6),(4,8),(5,9),(6,10),(7,11),(9,13),(10,14),(11,15),(12,16),(13,17),(14,18),(15,19),(16,20),(17,21),(18,22),(19,23),(20,24)] [0,1,2,4,5,6,7,9,10,11,12,13,14,15,16,17,18,19,20] [21] _ _ _ 1 ?k1 ?k4 ?k2 ?k3 ?k5 ?k6 ?k8)
 case k1=>kernel_rfl
 case k4=>kernel_rfl
 case k2=>exact fun w w' h hb=>⟨kCb hb h.1,kCb hb h.2.1,kCb hb h.2.2.1,kCb hb h.2.2.2⟩
 case k3 =>
  intro j v w w' h hb
  split at h <;> first | exact GX.below h hb | exact GF.below h hb | exact GC.below h hb | exact GCs.below h hb | exact GN.below h hb | exact GTm.below h hb | exact GT2.below h hb | exact GR.below h hb | exact GR1.below h hb | exact GM.below h hb | exact h | trivial
 case k8=>exact hHeld
 case k5 =>
  intro i hi
  simp only [List.mem_cons,List.not_mem_nil,or_false] at hi
  rcases hi with rfl | rfl | rfl | rfl | rfl | rfl | rfl | rfl | rfl | rfl | rfl | rfl | rfl | rfl | rfl | rfl | rfl | rfl | rfl
  ·refine ⟨_,rfl,fun u w5 hS hb5 hd K hK=>?_⟩
   simp only [fill,List.foldl_cons,List.foldl_nil,Act.put,List.setIfInBounds_toArray,List.set_cons_zero,List.set_cons_succ] at hK ⊢
   go_simp
   go_at_call 27
   refine (docOfQ_c (z:=1) (by decide) (by decide)).mono ?_
   rintro e w6 ⟨s6,x6,n6,c6,f6,y6,m6,d6,g6,rfl,hb6,hr⟩
   (try go_wp2_with fail)
   exact hK.out _ _ hb6 ⟨⟨s6,x6,n6,c6,f6,y6,m6,d6,g6⟩,rfl,hr.mono (by decide)⟩
  ·refine ⟨_,rfl,fun u w5 hS hb5 hd K hK=>?_⟩
   simp only [fill,List.foldl_cons,List.foldl_nil,Act.put,List.setIfInBounds_toArray,List.set_cons_zero,List.set_cons_succ] at hK ⊢
   go_simp
   go_at_call 27
   refine (docOfQ_c (z:=3) (by decide) (by decide)).mono ?_
   rintro e w6 ⟨s6,x6,n6,c6,f6,y6,m6,d6,g6,rfl,hb6,hr⟩
   (try go_wp2_with fail)
   exact hK.out _ _ hb6 ⟨⟨s6,x6,n6,c6,f6,y6,m6,d6,g6⟩,rfl,hr.mono (by decide)⟩
  ·refine ⟨_,rfl,fun u w5 hS hb5 hd K hK=>?_⟩
   simp only [fill,List.foldl_cons,List.foldl_nil,Act.put,List.setIfInBounds_toArray,List.set_cons_zero,List.set_cons_succ] at hK ⊢
   go_simp
   go_at_call 51
   refine (num10_c (z:=0) (by decide) (by decide)).mono ?_
   rintro e w6 ⟨v6,rfl,hb6,hr⟩
   (try go_wp2_with fail)
   exact hK.out _ _ hb6 hr
  ·refine ⟨_,rfl,fun u w5 hS hb5 hd K hK=>?_⟩
   have h1:GN 8 3 (u 1) w5:=hd 1 (by kernel_rfl) (by kernel_rfl)
   obtain ⟨⟨sa1,xa1,na1,ca1,fa1,ya1,ma1,da1,ga1⟩,e1,v1⟩:=h1
   replace e1:u 1=.agg #[.bool sa1,.slice xa1 na1 ca1,.slice ya1 ma1 da1]:=e1
   have h2:GX 8 0 0 (u 2) w5:=hd 2 (by kernel_rfl) (by kernel_rfl)
   obtain ⟨⟨i2,⟨sa2,xa2,na2,ca2,fa2,ya2,ma2,da2,ga2⟩⟩,e2,hi2,v2⟩:=h2
   replace e2:u 2=.agg #[.int .i64 i2,.bool sa2,.slice xa2 na2 ca2,.slice ya2 ma2 da2]:=e2
   simp only [fill,List.foldl_cons,List.foldl_nil,Act.put,List.setIfInBounds_toArray,List.set_cons_zero,List.set_cons_succ] at hK ⊢
   simp only [e1,e2] at hK ⊢
   go_simp
   exact hK.out _ _ (Below.refl _ _) ⟨⟨⟨#[120]⟩,⟨sa1,xa1,na1,ca1,fa1,ya1,ma1,da1,ga1⟩,⟨i2,⟨sa2,xa2,na2,ca2,fa2,ya2,ma2,da2,ga2⟩⟩,⟨1,⟨si,xi,ni,ci,fi,yi,mi,di,gi⟩⟩⟩,rfl,rfl,v1,hi2,v2,rfl,Rn.below HI.out hb5⟩
  ·refine ⟨_,rfl,fun u w5 hS hb5 hd K hK=>?_⟩
   simp only [fill,List.foldl_cons,List.foldl_nil,Act.put,List.setIfInBounds_toArray,List.set_cons_zero,List.set_cons_succ] at hK ⊢
   go_simp
   go_at_call 27
   refine (docOfQ_c (z:=0) (by decide) (by decide)).mono ?_
   rintro e w6 ⟨s6,x6,n6,c6,f6,y6,m6,d6,g6,rfl,hb6,hr⟩
   (try go_wp2_with fail)
   exact hK.out _ _ hb6 ⟨⟨s6,x6,n6,c6,f6,y6,m6,d6,g6⟩,rfl,hr.mono (by decide)⟩
  ·refine ⟨_,rfl,fun u w5 hS hb5 hd K hK=>?_⟩
   simp only [fill,List.foldl_cons,List.foldl_nil,Act.put,List.setIfInBounds_toArray,List.set_cons_zero,List.set_cons_succ] at hK ⊢
   go_simp
   go_at_call 52
   refine xLow_c.mono ?_
   rintro e w6 ⟨s6,x6,n6,c6,d6,y6,m6,e6,g6,rfl,hb6,hF⟩
   (try go_wp2_with fail)
   exact hK.out _ _ hb6 ⟨s6,x6,n6,c6,d6,y6,m6,e6,g6,rfl,hF.out⟩
  ·refine ⟨_,rfl,fun u w5 hS hb5 hd K hK=>?_⟩
   have h6:GF (-1) (u 6) w5:=hd 6 (by kernel_rfl) (by kernel_rfl)
   obtain ⟨s6,x6,n6,c6,d6,y6,m6,e6,g6,e8,l1,l2,hF⟩:=h6
   simp only [fill,List.foldl_cons,List.foldl_nil,Act.put,List.setIfInBounds_toArray,List.set_cons_zero,List.set_cons_succ] at hK ⊢
   simp only [e8] at hK ⊢
   go_simp
   go_at_call 49
   refine (xTo_c hF (by omega) (by omega)).mono ?_
   rintro e w6 ⟨z7,k7,c7,f7,y7,k8,c8,f8,rfl,hb6,hE⟩
   (try go_wp2_with fail)
   exact hK.out _ _ hb6 ⟨⟨-1,⟨s6,z7,k7,c7,f7,y7,k8,c8,f8⟩⟩,rfl,rfl,hE.out.rn.mono (by omega)⟩
  ·refine ⟨_,rfl,fun u w5 hS hb5 hd K hK=>?_⟩
   have h5:GN 8 0 (u 5) w5:=hd 5 (by kernel_rfl) (by kernel_rfl)
   obtain ⟨⟨sa5,xa5,na5,ca5,fa5,ya5,ma5,da5,ga5⟩,e5,v5⟩:=h5
   replace e5:u 5=.agg #[.bool sa5,.slice xa5 na5 ca5,.slice ya5 ma5 da5]:=e5
   have h7:GX 8 (-1) 0 (u 7) w5:=hd 7 (by kernel_rfl) (by kernel_rfl)
   obtain ⟨⟨i7,⟨sa7,xa7,na7,ca7,fa7,ya7,ma7,da7,ga7⟩⟩,e7,hi7,v7⟩:=h7
   replace e7:u 7=.agg #[.int .i64 i7,.bool sa7,.slice xa7 na7 ca7,.slice ya7 ma7 da7]:=e7
   simp only [fill,List.foldl_cons,List.foldl_nil,Act.put,List.setIfInBounds_toArray,List.set_cons_zero,List.set_cons_succ] at hK ⊢
   simp only [e5,e7] at hK ⊢
   go_simp
   exact hK.out _ _ (Below.refl _ _) ⟨⟨⟨#[121]⟩,⟨sa5,xa5,na5,ca5,fa5,ya5,ma5,da5,ga5⟩,⟨i7,⟨sa7,xa7,na7,ca7,fa7,ya7,ma7,da7,ga7⟩⟩,⟨1,⟨si,xi,ni,ci,fi,yi,mi,di,gi⟩⟩⟩,rfl,rfl,v5,hi7,v7,rfl,Rn.below HI.out hb5⟩
  ·refine ⟨_,rfl,fun u w5 hS hb5 hd K hK=>?_⟩
   have h4:GC 8 ⟨⟨#[120]⟩,3,0,0,1,0⟩ (u 4) w5:=hd 4 (by kernel_rfl) (by kernel_rfl)
   obtain ⟨⟨z4,⟨sb4,xb4,nb4,cb4,fb4,yb4,mb4,db4,gb4⟩,⟨ic4,⟨sc4,xc4,nc4,cc4,fc4,yc4,mc4,dc4,gc4⟩⟩,⟨id4,⟨sd4,xd4,nd4,cd4,fd4,yd4,md4,dd4,gd4⟩⟩⟩,e4,v4⟩:=h4
   replace e4:u 4=.agg #[.string z4,.bool sb4,.slice xb4 nb4 cb4,.slice yb4 mb4 db4,.int .i64 ic4,.bool sc4,.slice xc4 nc4 cc4,.slice yc4 mc4 dc4,.int .i64 id4,.bool sd4,.slice xd4 nd4 cd4,.slice yd4 md4 dd4]:=e4
   have h9:GC 8 ⟨⟨#[121]⟩,0,-1,0,1,0⟩ (u 9) w5:=hd 9 (by kernel_rfl) (by kernel_rfl)
   obtain ⟨⟨z9,⟨sb9,xb9,nb9,cb9,fb9,yb9,mb9,db9,gb9⟩,⟨ic9,⟨sc9,xc9,nc9,cc9,fc9,yc9,mc9,dc9,gc9⟩⟩,⟨id9,⟨sd9,xd9,nd9,cd9,fd9,yd9,md9,dd9,gd9⟩⟩⟩,e9,v9⟩:=h9
   replace e9:u 9=.agg #[.string z9,.bool sb9,.slice xb9 nb9 cb9,.slice yb9 mb9 db9,.int .i64 ic9,.bool sc9,.slice xc9 nc9 cc9,.slice yc9 mc9 dc9,.int .i64 id9,.bool sd9,.slice xd9 nd9 cd9,.slice yd9 md9 dd9]:=e9
   simp only [fill,List.foldl_cons,List.foldl_nil,Act.put,List.setIfInBounds_toArray,List.set_cons_zero,List.set_cons_succ] at hK ⊢
   simp only [e4,e9] at hK ⊢
   go_simp
   have hn:=below_alloc (Below.refl w5.heap.size w5) (.cells (([.string z4,.bool sb4,.slice xb4 nb4 cb4,.slice yb4 mb4 db4,.int .i64 ic4,.bool sc4,.slice xc4 nc4 cc4,.slice yc4 mc4 dc4,.int .i64 id4,.bool sd4,.slice xd4 nd4 cd4,.slice yd4 md4 dd4]:List Value) ++ ([.string z9,.bool sb9,.slice xb9 nb9 cb9,.slice yb9 mb9 db9,.int .i64 ic9,.bool sc9,.slice xc9 nc9 cc9,.slice yc9 mc9 dc9,.int .i64 id9,.bool sd9,.slice xd9 nd9 cd9,.slice yd9 md9 dd9]:List Value)).toArray 83)
   have hx:=cs_app w5 83 [.string z4,.bool sb4,.slice xb4 nb4 cb4,.slice yb4 mb4 db4,.int .i64 ic4,.bool sc4,.slice xc4 nc4 cc4,.slice yc4 mc4 dc4,.int .i64 id4,.bool sd4,.slice xd4 nd4 cd4,.slice yd4 md4 dd4] [.string z9,.bool sb9,.slice xb9 nb9 cb9,.slice yb9 mb9 db9,.int .i64 ic9,.bool sc9,.slice xc9 nc9 cc9,.slice yc9 mc9 dc9,.int .i64 id9,.bool sd9,.slice xd9 nd9 cd9,.slice yd9 md9 dd9]
   exact hK.out _ _ hn ⟨w5.heap.size,⟨z4,⟨sb4,xb4,nb4,cb4,fb4,yb4,mb4,db4,gb4⟩,⟨ic4,⟨sc4,xc4,nc4,cc4,fc4,yc4,mc4,dc4,gc4⟩⟩,⟨id4,⟨sd4,xd4,nd4,cd4,fd4,yd4,md4,dd4,gd4⟩⟩⟩,⟨z9,⟨sb9,xb9,nb9,cb9,fb9,yb9,mb9,db9,gb9⟩,⟨ic9,⟨sc9,xc9,nc9,cc9,fc9,yc9,mc9,dc9,gc9⟩⟩,⟨id9,⟨sd9,xd9,nd9,cd9,fd9,yd9,md9,dd9,gd9⟩⟩⟩,rfl,hx.1,hx.2,v4.below hn,v9.below hn⟩
  ·refine ⟨_,rfl,fun u w5 hS hb5 hd K hK=>?_⟩
   simp only [fill,List.foldl_cons,List.foldl_nil,Act.put,List.setIfInBounds_toArray,List.set_cons_zero,List.set_cons_succ] at hK ⊢
   go_simp
   go_at_call 51
   refine (num10_c (z:=1) (by decide) (by decide)).mono ?_
   rintro e w6 ⟨v6,rfl,hb6,hr⟩
   (try go_wp2_with fail)
   exact hK.out _ _ hb6 hr
  ·refine ⟨_,rfl,fun u w5 hS hb5 hd K hK=>?_⟩
   simp only [fill,List.foldl_cons,List.foldl_nil,Act.put,List.setIfInBounds_toArray,List.set_cons_zero,List.set_cons_succ] at hK ⊢
   go_simp
   go_at_call 51
   refine (num10_c (z:=5) (by decide) (by decide)).mono ?_
   rintro e w6 ⟨v6,rfl,hb6,hr⟩
   (try go_wp2_with fail)
   exact hK.out _ _ hb6 hr
  ·refine ⟨_,rfl,fun u w5 hS hb5 hd K hK=>?_⟩
   simp only [fill,List.foldl_cons,List.foldl_nil,Act.put,List.setIfInBounds_toArray,List.set_cons_zero,List.set_cons_succ] at hK ⊢
   go_simp
   go_at_call 27
   refine (docOfQ_c (z:=1) (by decide) (by decide)).mono ?_
   rintro e w6 ⟨s6,x6,n6,c6,f6,y6,m6,d6,g6,rfl,hb6,hr⟩
   (try go_wp2_with fail)
   exact hK.out _ _ hb6 ⟨⟨s6,x6,n6,c6,f6,y6,m6,d6,g6⟩,rfl,hr.mono (by decide)⟩
  ·refine ⟨_,rfl,fun u w5 hS hb5 hd K hK=>?_⟩
   have h13:GN 8 1 (u 13) w5:=hd 13 (by kernel_rfl) (by kernel_rfl)
   obtain ⟨⟨sa13,xa13,na13,ca13,fa13,ya13,ma13,da13,ga13⟩,e13,v13⟩:=h13
   replace e13:u 13=.agg #[.bool sa13,.slice xa13 na13 ca13,.slice ya13 ma13 da13]:=e13
   simp only [fill,List.foldl_cons,List.foldl_nil,Act.put,List.setIfInBounds_toArray,List.set_cons_zero,List.set_cons_succ] at hK ⊢
   simp only [e13] at hK ⊢
   go_simp
   exact hK.out _ _ (Below.refl _ _) ⟨⟨sa13,xa13,na13,ca13,fa13,ya13,ma13,da13,ga13⟩,rfl,v13⟩
  ·refine ⟨_,rfl,fun u w5 hS hb5 hd K hK=>?_⟩
   simp only [fill,List.foldl_cons,List.foldl_nil,Act.put,List.setIfInBounds_toArray,List.set_cons_zero,List.set_cons_succ] at hK ⊢
   go_simp
   go_at_call 27
   refine (docOfQ_c (z:=2) (by decide) (by decide)).mono ?_
   rintro e w6 ⟨s6,x6,n6,c6,f6,y6,m6,d6,g6,rfl,hb6,hr⟩
   (try go_wp2_with fail)
   exact hK.out _ _ hb6 ⟨⟨s6,x6,n6,c6,f6,y6,m6,d6,g6⟩,rfl,hr.mono (by decide)⟩
  ·refine ⟨_,rfl,fun u w5 hS hb5 hd K hK=>?_⟩
   have h15:GN 8 2 (u 15) w5:=hd 15 (by kernel_rfl) (by kernel_rfl)
   obtain ⟨⟨sa15,xa15,na15,ca15,fa15,ya15,ma15,da15,ga15⟩,e15,v15⟩:=h15
   replace e15:u 15=.agg #[.bool sa15,.slice xa15 na15 ca15,.slice ya15 ma15 da15]:=e15
   simp only [fill,List.foldl_cons,List.foldl_nil,Act.put,List.setIfInBounds_toArray,List.set_cons_zero,List.set_cons_succ] at hK ⊢
   simp only [e15] at hK ⊢
   go_simp
   exact hK.out _ _ (Below.refl _ _) ⟨⟨sa15,xa15,na15,ca15,fa15,ya15,ma15,da15,ga15⟩,rfl,v15⟩
  ·refine ⟨_,rfl,fun u w5 hS hb5 hd K hK=>?_⟩
   have h14:GTm 8 0 1 (u 14) w5:=hd 14 (by kernel_rfl) (by kernel_rfl)
   obtain ⟨⟨sa14,xa14,na14,ca14,fa14,ya14,ma14,da14,ga14⟩,e14,v14⟩:=h14
   replace e14:u 14=.agg #[.int .i64 0,.bool sa14,.slice xa14 na14 ca14,.slice ya14 ma14 da14]:=e14
   have h16:GTm 8 1 2 (u 16) w5:=hd 16 (by kernel_rfl) (by kernel_rfl)
   obtain ⟨⟨sa16,xa16,na16,ca16,fa16,ya16,ma16,da16,ga16⟩,e16,v16⟩:=h16
   replace e16:u 16=.agg #[.int .i64 1,.bool sa16,.slice xa16 na16 ca16,.slice ya16 ma16 da16]:=e16
   simp only [fill,List.foldl_cons,List.foldl_nil,Act.put,List.setIfInBounds_toArray,List.set_cons_zero,List.set_cons_succ] at hK ⊢
   simp only [e14,e16] at hK ⊢
   go_simp
   have hn:=below_alloc (Below.refl w5.heap.size w5) (.cells (tvs 0 ⟨sa14,xa14,na14,ca14,fa14,ya14,ma14,da14,ga14⟩ ++ tvs 1 ⟨sa16,xa16,na16,ca16,fa16,ya16,ma16,da16,ga16⟩).toArray 88)
   obtain ⟨b9,e9,h9⟩:=gt_new2 w5 88 0 1 ⟨sa14,xa14,na14,ca14,fa14,ya14,ma14,da14,ga14⟩ ⟨sa16,xa16,na16,ca16,fa16,ya16,ma16,da16,ga16⟩
   replace e9:Value.slice (some ⟨w5.heap.size,0,none⟩) 2 2=.slice (some ⟨b9,0,none⟩) 2 2:=e9
   have hbb:w5.heap.size=b9:=by injection e9 with e9;injection e9 with e9;injection e9
   subst hbb
   exact hK.out _ _ hn ⟨w5.heap.size,⟨sa14,xa14,na14,ca14,fa14,ya14,ma14,da14,ga14⟩,⟨sa16,xa16,na16,ca16,fa16,ya16,ma16,da16,ga16⟩,rfl,h9,Rn.below v14 hn,Rn.below v16 hn⟩
  ·refine ⟨_,rfl,fun u w5 hS hb5 hd K hK=>?_⟩
   have h11:GX 8 0 1 (u 11) w5:=hd 11 (by kernel_rfl) (by kernel_rfl)
   obtain ⟨⟨i11,⟨sa11,xa11,na11,ca11,fa11,ya11,ma11,da11,ga11⟩⟩,e11,hi11,v11⟩:=h11
   replace e11:u 11=.agg #[.int .i64 i11,.bool sa11,.slice xa11 na11 ca11,.slice ya11 ma11 da11]:=e11
   have h12:GX 8 0 5 (u 12) w5:=hd 12 (by kernel_rfl) (by kernel_rfl)
   obtain ⟨⟨i12,⟨sa12,xa12,na12,ca12,fa12,ya12,ma12,da12,ga12⟩⟩,e12,hi12,v12⟩:=h12
   replace e12:u 12=.agg #[.int .i64 i12,.bool sa12,.slice xa12 na12 ca12,.slice ya12 ma12 da12]:=e12
   have h17:GT2 8 0 1 1 2 (u 17) w5:=hd 17 (by kernel_rfl) (by kernel_rfl)
   obtain ⟨bt,t0,t1,et,ht,hv0,hv1⟩:=h17
   simp only [fill,List.foldl_cons,List.foldl_nil,Act.put,List.setIfInBounds_toArray,List.set_cons_zero,List.set_cons_succ] at hK ⊢
   simp only [e11,e12,et] at hK ⊢
   go_simp
   have hR:RowV 8 w5 ⟨⟨#[114]⟩,⟨i11,⟨sa11,xa11,na11,ca11,fa11,ya11,ma11,da11,ga11⟩⟩,⟨i12,⟨sa12,xa12,na12,ca12,fa12,ya12,ma12,da12,ga12⟩⟩,some ⟨bt,0,none⟩,2,2,(fun p=>if p=0 then 0 else 1),(fun p=>if p=0 then t0 else t1)⟩ ⟨⟨#[114]⟩,0,1,0,5,[(0,1),(1,2)]⟩:=by
    refine ⟨rfl,hi11,v11,hi12,v12,rfl,fun p z q e=>?_⟩
    match p,e with
    | 0,e=>cases e;exact ⟨rfl,hv0,bt,0,rfl,ht 0 _ _ rfl⟩
    | 1,e=>cases e;exact ⟨rfl,hv1,bt,0,rfl,ht 1 _ _ rfl⟩
   exact hK.out _ _ (Below.refl _ _) ⟨_,rfl,hR⟩
  ·refine ⟨_,rfl,fun u w5 hS hb5 hd K hK=>?_⟩
   have h18:GR 8 ⟨⟨#[114]⟩,0,1,0,5,[(0,1),(1,2)]⟩ (u 18) w5:=hd 18 (by kernel_rfl) (by kernel_rfl)
   obtain ⟨⟨z18,⟨ic18,⟨sc18,xc18,nc18,cc18,fc18,yc18,mc18,dc18,gc18⟩⟩,⟨id18,⟨sd18,xd18,nd18,cd18,fd18,yd18,md18,dd18,gd18⟩⟩,ta18,tk18,tc18,tcol18,tt18⟩,e18,v18⟩:=h18
   replace e18:u 18=.agg #[.string z18,.int .i64 ic18,.bool sc18,.slice xc18 nc18 cc18,.slice yc18 mc18 dc18,.int .i64 id18,.bool sd18,.slice xd18 nd18 cd18,.slice yd18 md18 dd18,.slice ta18 tk18 tc18]:=e18
   simp only [fill,List.foldl_cons,List.foldl_nil,Act.put,List.setIfInBounds_toArray,List.set_cons_zero,List.set_cons_succ] at hK ⊢
   simp only [e18] at hK ⊢
   go_simp
   have hn:=below_alloc (Below.refl w5.heap.size w5) (.cells ([.string z18,.int .i64 ic18,.bool sc18,.slice xc18 nc18 cc18,.slice yc18 mc18 dc18,.int .i64 id18,.bool sd18,.slice xd18 nd18 cd18,.slice yd18 md18 dd18,.slice ta18 tk18 tc18]:List Value).toArray 86)
   have hx:=cs_new w5 86 [.string z18,.int .i64 ic18,.bool sc18,.slice xc18 nc18 cc18,.slice yc18 mc18 dc18,.int .i64 id18,.bool sd18,.slice xd18 nd18 cd18,.slice yd18 md18 dd18,.slice ta18 tk18 tc18] [.string z18,.int .i64 ic18,.bool sc18,.slice xc18 nc18 cc18,.slice yc18 mc18 dc18,.int .i64 id18,.bool sd18,.slice xd18 nd18 cd18,.slice yd18 md18 dd18,.slice ta18 tk18 tc18] 0 (fun j v e=>by rw [Nat.zero_add];exact e)
   exact hK.out _ _ hn ⟨w5.heap.size,⟨z18,⟨ic18,⟨sc18,xc18,nc18,cc18,fc18,yc18,mc18,dc18,gc18⟩⟩,⟨id18,⟨sd18,xd18,nd18,cd18,fd18,yd18,md18,dd18,gd18⟩⟩,ta18,tk18,tc18,tcol18,tt18⟩,rfl,hx,v18.below hn⟩
  ·refine ⟨_,rfl,fun u w5 hS hb5 hd K hK=>?_⟩
   have h0:GN 8 1 (u 0) w5:=hd 0 (by kernel_rfl) (by kernel_rfl)
   obtain ⟨⟨sa0,xa0,na0,ca0,fa0,ya0,ma0,da0,ga0⟩,e0,v0⟩:=h0
   replace e0:u 0=.agg #[.bool sa0,.slice xa0 na0 ca0,.slice ya0 ma0 da0]:=e0
   have h10:GCs 8 ⟨⟨#[120]⟩,3,0,0,1,0⟩ ⟨⟨#[121]⟩,0,-1,0,1,0⟩ (u 10) w5:=hd 10 (by kernel_rfl) (by kernel_rfl)
   obtain ⟨b13,l0,l1,e13,q0,q1,k0,k1⟩:=h10
   have h19:GR1 8 ⟨⟨#[114]⟩,0,1,0,5,[(0,1),(1,2)]⟩ (u 19) w5:=hd 19 (by kernel_rfl) (by kernel_rfl)
   obtain ⟨b32,r0,e32,q2,k2⟩:=h19
   simp only [fill,List.foldl_cons,List.foldl_nil,Act.put,List.setIfInBounds_toArray,List.set_cons_zero,List.set_cons_succ] at hK ⊢
   simp only [e0,e13,e32] at hK ⊢
   go_simp
   have hM:MoV 8 w5 ⟨⟨sa0,xa0,na0,ca0,fa0,ya0,ma0,da0,ga0⟩,some ⟨b13,0,none⟩,2,2,(fun j=>if j=0 then l0 else l1),some ⟨b32,0,none⟩,1,1,(fun _=>r0)⟩ 1 f0C f0R:=by
    refine ⟨v0,rfl,rfl,fun j v e=>?_,fun j v e=>?_⟩
    ·match j,e with
     | 0,e=>cases e;exact ⟨⟨b13,0,rfl,q0⟩,k0⟩
     | 1,e=>cases e;exact ⟨⟨b13,0,rfl,q1⟩,k1⟩
    ·match j,e with
     | 0,e=>cases e;exact ⟨⟨b32,0,rfl,q2⟩,k2⟩
   exact hK.out _ _ (Below.refl _ _) ⟨_,rfl,hM⟩
 case k6 =>
  intro u w5 hS5 hb5 hg
  have h33:GM 8 1 f0C f0R (u 20) w5:=hg 20 (by simp)
  obtain ⟨⟨⟨sm,xm,nm,cm,fm,ym,mm,dm,gm⟩,ca,ck,cc,C,ra,rk,rc,R⟩,e33,hM⟩:=h33
  replace e33:u 20=.agg #[.bool sm,.slice xm nm cm,.slice ym mm dm,.slice ca ck cc,.slice ra rk rc]:=e33
  have HM:=hid hM
  have O5:=O0.out.below hb5
  have o0:=O5.cell (j:=0) rfl
  have o1:=O5.cell (j:=1) rfl
  have o2:=O5.cell (j:=2) rfl
  have o3:=O5.cell (j:=3) rfl
  have o4:=O5.cell (j:=4) rfl
  have of:=O5.frozen
  have HO5:=hid O5
  have HB5:=hid (HB.out.trans (hb5.mono HB.out.size))
  obtain ⟨t0,t1,t2,t3⟩:=id hS5
  clear hg hM O5
  simp only [fill,List.foldl_cons,List.foldl_nil,Act.put,List.setIfInBounds_toArray,List.set_cons_zero,List.set_cons_succ]
  simp only [e33]
  refine wpAnyH_ready (rs:=[21]) (by kernel_rfl) (by simp) ?_
  refine AllReadyH.cons (o:=_) rfl (fun K hK=>?_) ?_
  rotate_left
  exact AllReadyH.nil
  go_simp
  refine hK.out _ _ ?_ (fun hH9=>?_)
  ·((try dsimp only);(refine ⟨?_,?_,?_,?_⟩ <;> repeat (with_reducible first | assumption | refine kCs (by simp only [ne_eq];omega) ?_)))
  clear hK K
  try simp only [Act.put]
  refine wpAnyH_done (by kernel_rfl) ?_ _
  obtain ⟨hk9,hn9⟩:=kp_st5 (v0:=.bool sm) (v1:=.slice xm nm cm) (v2:=.slice ym mm dm) (v3:=.slice ca ck cc) (v4:=.slice ra rk rc) HO5.out (nou5 _ _ _ _ _ _ _ _ _ _ _ _ _) rfl
  have HM9:=hid (HM.out.kp hk9 hn9 (noc5 HO5.out))
  have HB9:=hid (below_st5 (u0:=.bool sm) (u1:=.slice xm nm cm) (u2:=.slice ym mm dm) (u3:=.slice ca ck cc) (u4:=.slice ra rk rc) HB5.out (Nat.le_refl _))
  clear hk9 hn9 hH9
  go_wp2
  exact bodyPost_ret (v:=.agg #[.bool sm,.slice xm nm cm,.slice ym mm dm,.slice ca ck cc,.slice ra rk rc]) (by simp [results,Tryz.results25,go_sem,o0,o1,o2,o3,o4]) rfl (HA.out _ ⟨⟨sm,xm,nm,cm,fm,ym,mm,dm,gm⟩,ca,ck,cc,C,ra,rk,rc,R⟩ HB9.out HM9.out)
theorem pActs_q {w:World} {L:Nat} {M:Mo} {off:Rat} {cs:List CV} {rs:List RV} {ao:Option Addr} {k cap:Nat} {xs:List Rat} (h:MoV L w M off cs rs) (ho:mvOk cs rs=true) (hx:Rf L w ao xs) (hk:xs.length=k) (hkc:k=cs.length) (hL:L ≤ 30) :
  Calls Tryz.prog 8 #[M.val,.slice ao k cap] w fun e w'=>AcAns L w w' e 0 rs xs:=by
 obtain ⟨h1,h2⟩:=h.chk (by omega) ho
 obtain ⟨S,h3,h4⟩:=rf_rl hx (by omega)
 have mp:=mvOk_p ho
 rw [hk] at h3 h4
 exact pActs_v (fun _ _=>h2) h3 (by have:=mp.cl;omega) (pckE_ok h1 h4 (by rw [h.ck];exact hkc)) (fun _=>⟨h,ho,hx,hk,hkc⟩) hL
theorem pValue_q {w:World} {L:Nat} {M:Mo} {off:Rat} {cs:List CV} {rs:List RV} {ao:Option Addr} {k cap:Nat} {xs:List Rat} (h:MoV L w M off cs rs) (ho:mvOk cs rs=true) (hx:Rf L w ao xs) (hk:xs.length=k) (hkc:k=cs.length) (hL:L ≤ 30) :
  Calls Tryz.prog 13 #[M.val,.slice ao k cap] w fun e w'=>VaAns L w w' e 0 off cs xs:=by
 obtain ⟨h1,h2⟩:=h.chk (by omega) ho
 obtain ⟨S,h3,h4⟩:=rf_rl hx (by omega)
 have mp:=mvOk_p ho
 rw [hk] at h3 h4
 exact pValue_v (fun _ _=>h2) h3 (by have:=mp.cl;omega) (pckE_ok h1 h4 (by rw [h.ck];exact hkc)) (fun _=>⟨h,ho,hx,hk,hkc⟩) hL
theorem pFeas_q {w:World} {L:Nat} {M:Mo} {off:Rat} {cs:List CV} {rs:List RV} {ao:Option Addr} {k cap:Nat} {xs:List Rat} (h:MoV L w M off cs rs) (ho:mvOk cs rs=true) (hx:Rf L w ao xs) (hk:xs.length=k) (hkc:k=cs.length) (hL:L ≤ 30) :
  Calls Tryz.prog 16 #[M.val,.slice ao k cap] w fun e w'=>e=.returned (.tuple #[.bool (decide ((0:Int)=0) && feasB cs rs xs),.int .i64 0]) ∧ Below w.heap.size w w':=by
 obtain ⟨h1,h2⟩:=h.chk (by omega) ho
 obtain ⟨S,h3,h4⟩:=rf_rl hx (by omega)
 have mp:=mvOk_p ho
 rw [hk] at h3 h4
 exact pFeas_v (fun _ _=>h2) h3 (by have:=mp.cl;omega) (pckE_ok h1 h4 (by rw [h.ck];exact hkc)) (fun _=>⟨h,ho,hx,hk,hkc⟩) hL
theorem pBroken_q {w:World} {L:Nat} {M:Mo} {off:Rat} {cs:List CV} {rs:List RV} {ao:Option Addr} {k cap:Nat} {xs:List Rat} (h:MoV L w M off cs rs) (ho:mvOk cs rs=true) (hx:Rf L w ao xs) (hk:xs.length=k) (hkc:k=cs.length) (hL:L ≤ 30) :
  Calls Tryz.prog 18 #[M.val,.slice ao k cap] w fun e w'=>BrAns w w' e 0 cs rs xs:=by
 obtain ⟨h1,h2⟩:=h.chk (by omega) ho
 obtain ⟨S,h3,h4⟩:=rf_rl hx (by omega)
 have mp:=mvOk_p ho
 rw [hk] at h3 h4
 exact pBroken_v (fun _ _=>h2) h3 (by have:=mp.cl;omega) (pckE_ok h1 h4 (by rw [h.ck];exact hkc)) (fun _=>⟨h,ho,hx,hk,hkc⟩) hL
theorem f0_ok:mvOk f0C f0R=true:=by decide +kernel
theorem f0_act:f0R.map (actQ [((1:Int):Rat),((1:Int):Rat)])=[((3:Int):Rat)]:=by decide +kernel
theorem f0_val:valQ 1 f0C [((1:Int):Rat),((1:Int):Rat)]=((4:Int):Rat):=by decide +kernel
theorem f0_fe:feasB f0C f0R [((1:Int):Rat),((1:Int):Rat)]=true:=by decide +kernel
theorem f0_bc:(crl (bcB f0C [((-1:Int):Rat),((0:Int):Rat)]) f0C.length).length=1:=by decide +kernel
theorem f0_br:(crl (brB f0R [((-1:Int):Rat),((0:Int):Rat)]) f0R.length).length=1:=by decide +kernel
set_option maxRecDepth 100000 in
set_option maxHeartbeats 8000000 in
theorem awake10_c (w:World):Calls Tryz.prog 5 #[] w fun e w'=>e=.returned (.bool true) ∧ Below w.heap.size w w':=by
 have HB:=hid (Below.refl w.heap.size w)
 go_enter Tryz.func5,Tryz.ntmps5
 go_wp2_with fail
 refine first10_c.mono ?_
 rintro e v1 ⟨⟨⟨sm,xm,nm,cm,fm,ym,mm,dm,gm⟩,cam,ckm,ccm,Cm,ram,rkm,rcm,Rm⟩,rfl,hb,HM⟩
 replace HB:=hid (HB.out.trans (hb.mono HB.out.size))
 clear hb
 go_wp2_with fail
 refine (two10_c (a:=1) (b:=1) (by decide) (by decide) (by decide) (by decide)).mono ?_
 rintro e v2 ⟨ax,rfl,hb,HX⟩
 replace HB:=hid (HB.out.trans (hb.mono HB.out.size));replace HM:=hid (HM.out.below hb)
 clear hb
 go_wp2_with fail
 refine (pActs_q (L:=8) HM.out f0_ok HX.out rfl rfl (by decide)).mono ?_
 rintro e w1 ⟨hb,⟨h9,_⟩ | ⟨_,a1,c1,rfl,hc1,hr1⟩⟩
 ·exact absurd rfl h9
 rw [f0_act] at hr1
 rw [show f0R.length=1 from rfl]
 have HA:=hid hr1
 replace HB:=hid (HB.out.trans (hb.mono HB.out.size))
 clear hb hr1 hc1 HM HX
 go_wp2_with fail
 refine first10_c.mono ?_
 rintro e v3 ⟨⟨⟨sm,xm,nm,cm,fm,ym,mm,dm,gm⟩,cam,ckm,ccm,Cm,ram,rkm,rcm,Rm⟩,rfl,hb,HM⟩
 replace HB:=hid (HB.out.trans (hb.mono HB.out.size));replace HA:=hid (HA.out.below hb)
 clear hb
 go_wp2_with fail
 refine (two10_c (a:=1) (b:=1) (by decide) (by decide) (by decide) (by decide)).mono ?_
 rintro e v4 ⟨ax,rfl,hb,HX⟩
 replace HB:=hid (HB.out.trans (hb.mono HB.out.size));replace HM:=hid (HM.out.below hb);replace HA:=hid (HA.out.below hb)
 clear hb
 go_wp2_with fail
 refine (pValue_q (L:=8) HM.out f0_ok HX.out rfl rfl (by decide)).mono ?_
 rintro e w2 ⟨hb,⟨h9,_⟩ | ⟨_,s2,x2,n2,c2,f2,y2,m2,d2,g2,rfl,hr2⟩⟩
 ·exact absurd rfl h9
 rw [f0_val] at hr2
 replace HB:=hid (HB.out.trans (hb.mono HB.out.size));replace HA:=hid (HA.out.below hb)
 have hbn:=below_alloc (Below.refl w2.heap.size w2) (.cells #[.bool s2,.slice x2 n2 c2,.slice y2 m2 d2] 24)
 have BV:Hid (Bk (w2.alloc (.cells #[.bool s2,.slice x2 n2 c2,.slice y2 m2 d2] 24)) w2.heap.size [.bool s2,.slice x2 n2 c2,.slice y2 m2 d2] 24):=bk_new w2 [.bool s2,.slice x2 n2 c2,.slice y2 m2 d2] 24
 have HV:=hid (hr2.below hbn)
 replace HB:=hid (HB.out.trans (hbn.mono HB.out.size));replace HA:=hid (HA.out.below hbn)
 clear hb hbn hr2 HM HX
 go_wp2_with fail
 generalize w2.alloc (.cells #[.bool s2,.slice x2 n2 c2,.slice y2 m2 d2] 24)=w3 at *
 generalize w2.heap.size=bv at *
 refine first10_c.mono ?_
 rintro e v5 ⟨⟨⟨sm,xm,nm,cm,fm,ym,mm,dm,gm⟩,cam,ckm,ccm,Cm,ram,rkm,rcm,Rm⟩,rfl,hb,HM⟩
 replace HB:=hid (HB.out.trans (hb.mono HB.out.size));replace HA:=hid (HA.out.below hb);replace HV:=hid (HV.out.below hb);replace BV:=hid (BV.out.below hb)
 clear hb
 go_wp2_with fail
 refine (two10_c (a:=1) (b:=1) (by decide) (by decide) (by decide) (by decide)).mono ?_
 rintro e v6 ⟨ax,rfl,hb,HX⟩
 replace HB:=hid (HB.out.trans (hb.mono HB.out.size));replace HM:=hid (HM.out.below hb);replace HA:=hid (HA.out.below hb);replace HV:=hid (HV.out.below hb);replace BV:=hid (BV.out.below hb)
 clear hb
 go_wp2_with fail
 refine (pFeas_q (L:=8) HM.out f0_ok HX.out rfl rfl (by decide)).mono ?_
 rintro e w4 ⟨rfl,hb⟩
 rw [f0_fe]
 replace HB:=hid (HB.out.trans (hb.mono HB.out.size));replace HA:=hid (HA.out.below hb);replace HV:=hid (HV.out.below hb);replace BV:=hid (BV.out.below hb)
 clear hb HM HX
 go_wp2_with fail
 refine first10_c.mono ?_
 rintro e v7 ⟨⟨⟨sm,xm,nm,cm,fm,ym,mm,dm,gm⟩,cam,ckm,ccm,Cm,ram,rkm,rcm,Rm⟩,rfl,hb,HM⟩
 replace HB:=hid (HB.out.trans (hb.mono HB.out.size));replace HA:=hid (HA.out.below hb);replace HV:=hid (HV.out.below hb);replace BV:=hid (BV.out.below hb)
 clear hb
 go_wp2_with fail
 refine (two10_c (a:=-1) (b:=0) (by decide) (by decide) (by decide) (by decide)).mono ?_
 rintro e v8 ⟨ax,rfl,hb,HX⟩
 replace HB:=hid (HB.out.trans (hb.mono HB.out.size));replace HM:=hid (HM.out.below hb);replace HA:=hid (HA.out.below hb);replace HV:=hid (HV.out.below hb);replace BV:=hid (BV.out.below hb)
 clear hb
 go_wp2_with fail
 refine (pBroken_q (L:=8) HM.out f0_ok HX.out rfl rfl (by decide)).mono ?_
 rintro e w5 ⟨hb,⟨h9,_⟩ | ⟨_,xa,xc,ya,yc,rfl,_,_⟩⟩
 ·exact absurd rfl h9
 rw [f0_bc,f0_br]
 replace HB:=hid (HB.out.trans (hb.mono HB.out.size));replace HA:=hid (HA.out.below hb);replace HV:=hid (HV.out.below hb);replace BV:=hid (BV.out.below hb)
 clear hb HM HX
 obtain ⟨b,o,⟨s,x,n,c,f,y,m,d,g⟩,hb1,⟨p0,p1,p2⟩,hr⟩:=HA.out 0 _ rfl
 subst hb1
 replace p0:w5.cell? ⟨b,o,none⟩=some (.bool s):=p0
 replace p1:w5.cell? ⟨b,o + 1,none⟩=some (.slice x n c):=p1
 replace p2:w5.cell? ⟨b,o + 2,none⟩=some (.slice y m d):=p2
 have HR:Hid (Rn (KA 8) w5 s x n c f y m d g ((3:Int):Rat)):=hr
 clear hr HA
 have k0:=BV.out.cell (j:=0) rfl
 have k1:=BV.out.cell (j:=1) rfl
 have k2:=BV.out.cell (j:=2) rfl
 go_upto_region 5 with fail
 have CD:=hid (fun W=>docOfQ_c (w:=W) (z:=3) (by decide) (by decide))
 have CE:=hid (fun W=>docOfQ_c (w:=W) (z:=4) (by decide) (by decide))
 unfold RatAns at CD CE
 have CS:Hid (∀ W s2 x2 n2 c2 f2 y2 m2 d2 g2,Below w5.heap.size w5 W → Rn 4 W s2 x2 n2 c2 f2 y2 m2 d2 g2 ((3:Int):Rat) → Calls Tryz.prog 15 #[.agg #[.bool s,.slice x n c,.slice y m d],.agg #[.bool s2,.slice x2 n2 c2,.slice y2 m2 d2]] W fun e w'=>e=.returned (.bool true) ∧ Below W.heap.size W w'):=fun W s2 x2 n2 c2 f2 y2 m2 d2 g2 hW h2=>rSameEq_c (HR.out.below hW) h2 (by decide) (by decide)
 have CT:Hid (∀ W s3 x3 n3 c3 f3 y3 m3 d3 g3,Below w5.heap.size w5 W → Rn 4 W s3 x3 n3 c3 f3 y3 m3 d3 g3 ((4:Int):Rat) → Calls Tryz.prog 15 #[.agg #[.bool s2,.slice x2 n2 c2,.slice y2 m2 d2],.agg #[.bool s3,.slice x3 n3 c3,.slice y3 m3 d3]] W fun e w'=>e=.returned (.bool true) ∧ Below W.heap.size W w'):=fun W s3 x3 n3 c3 f3 y3 m3 d3 g3 hW h2=>rSameEq_c (HV.out.below hW) h2 (by decide) (by decide)
 go_region_held3 (fun w'=>w'.cell? ⟨b,o,none⟩=some (.bool s) ∧ w'.cell? ⟨b,o + 1,none⟩=some (.slice x n c) ∧ w'.cell? ⟨b,o + 2,none⟩=some (.slice y m d) ∧ w'.cell? ⟨bv,0,none⟩=some (.bool s2) ∧ w'.cell? ⟨bv,1,none⟩=some (.slice x2 n2 c2) ∧ w'.cell? ⟨bv,2,none⟩=some (.slice y2 m2 d2))
  (refine ⟨?_,?_,?_,?_,?_,?_⟩ <;> repeat (with_reducible first | assumption | refine kCd ?_ | refine kCb (by assumption) ?_))
  (first
   | (have h9:=H5.out;clear h9;go_at_call 27;with_reducible refine (CE.out _).mono ?_;rintro e w8 ⟨s8,x8,n8,c8,f8,y8,m8,d8,g8,rfl,hb8,H8⟩;replace H8:=hid H8)
   | (go_at_call 27;with_reducible refine (CD.out _).mono ?_;rintro e w6 ⟨s6,x6,n6,c6,f6,y6,m6,d6,g6,rfl,hb6,H6⟩;replace H6:=hid H6)
   | (have h9:=H8.out;clear h9;go_at_call 15;with_reducible refine (CT.out _ s8 x8 n8 c8 f8 y8 m8 d8 g8 (by repeat (with_reducible first | assumption | exact Below.refl _ _ | refine Below.drew ?_ | refine kBa ?_ | refine kBb (by assumption) ?_)) (H8.out.below (by repeat (with_reducible first | assumption | exact Below.refl _ _ | refine Below.drew ?_ | refine kBa ?_ | refine kBb (by assumption) ?_)))).mono ?_;rintro e w9 ⟨rfl,hb9⟩)
   | (go_at_call 15;with_reducible refine (CS.out _ s6 x6 n6 c6 f6 y6 m6 d6 g6 (by repeat (with_reducible first | assumption | exact Below.refl _ _ | refine Below.drew ?_ | refine kBa ?_ | refine kBb (by assumption) ?_)) (H6.out.below (by repeat (with_reducible first | assumption | exact Below.refl _ _ | refine Below.drew ?_ | refine kBa ?_ | refine kBb (by assumption) ?_)))).mono ?_;rintro e w7 ⟨rfl,hb7⟩;have H5:=hid True.intro))
 all_goals
  have HB9:=hid (HB.out.trans ((show Below w5.heap.size w5 w9 from (by repeat (with_reducible first | assumption | exact Below.refl _ _ | refine Below.drew ?_ | refine kBa ?_ | refine kBb (by assumption) ?_))).mono HB.out.size))
  clear p0 p1 p2 k0 k1 k2 CD CS CE CT HR
  go_wp2
  go_ret
  exact ⟨by first | rfl | simp,HB9.out⟩
end Go.Proofs.YtbnaikljfhhljaaGreat
