/-
 The walk of package model's names (written by makers/f5.py). The walk of package model's allBelow (written by makers/f6.py). The walk of package model's Check, whatever it is handed (written by makers/f7.py). The walks of slices.Index of texts, of package model's place, Col and Row (written by makers/f8.py). Walks of the document's reference for ext: Twin, From, To, Num, Low, High, Same, Form, Cmp, Max, Min. Walks of ext: allForm, Cmp, Max, Min, whatever they are handed. The number that a number in memory is; the walk of package model's above. Lists of places in memory; the walk of package model's Crossed (written by makers/f10.py). The walks of slices.Equal of limbs, and of package model's sameRat, sameExt, sameTerm. The walks of package model's sameExt, sameTerm, sameCol, sameRow, and of slices.EqualFunc with them (written by makers/f12.py). The walks of slices.EqualFunc of terms, columns and rows, and of package model's sameRow (written by makers/f13.py). The walks of Least, of package model and of the reference. The walks of package model's Least and Equal (written by makers/f14.py). The walks of the reference's Name, bounds and Least (written by makers/f16.py). The statements' looks at how long the numbers of lists are (light, Lights).
-/
import Derived.Test.YtdbbncamlaiajaaGreatZ8
import Derived.BigQuiet
import Derived.Test.YtdbbncamlaiajaaGreatZ7
import Derived.Test.YtdbbncamlaiajaaGreatZ6
import Derived.Test.YtdbbncamlaiajaaGreatZ0
import Derived.Deep.RegionHeld3
namespace Go.Proofs.YtdbbncamlaiajaaGreat
open Go.RowKit
theorem Tryz.infoStr:(Tryz.prog.info? 9).map (fun i=>(i.zero,i.size,i.bytes))=some (some (.string .empty),1,16):=by kernel_rfl
theorem one1 (s:ByteArray):∀u ∈ (#[Value.string s]:Array Value).toList,u.oneCell'=true:=by
 intro u hu;simp at hu;subst hu;rfl
theorem not1 (s:ByteArray):∀u ∈ (#[Value.string s]:Array Value).toList,∀q,u≠.int .u64 q:=by
 intro u hu q;simp at hu;subst hu;simp
theorem nz1:NoU (Value.string .empty).cells:=nou_list (l:=[Value.string .empty]) (not1 .empty)
def sls (S:Nat→ByteArray) (i:Nat):List Value:=(List.range i).map fun j=>Value.string (S j)
theorem sls_succ (S:Nat→ByteArray) (i:Nat):sls S (i+1)=sls S i++[.string (S i)]:=by
 unfold sls;rw [List.range_succ,List.map_append,List.map_singleton]
theorem rowg_sl {e:TypeId} {base i:Nat} {w:World} {ao:Option Addr} {cap:Nat} {S:Nat→ByteArray} (h:RowG e 1 base w (.slice ao i cap) i (sls S i)) (hs:∀j,j<i→(S j).size≤9223372036854775807):Sl w ao i S:=fun j hj=>by
 rcases h.2 with ⟨hv,h0⟩ | ⟨g,cap',cur,hv,_⟩
 ·omega
 ·cases hv
  refine ⟨g,0,rfl,?_,hs j hj⟩;rw [Nat.zero_add];exact h.cells (by simp [sls,hj])
def NmsAns (w w':World) (e:Ending) (M:Mo):Prop:=∃xa xc ya yc,e=.returned (.tuple #[.slice xa M.ck xc,.slice ya M.rk yc])∧Below w.heap.size w w'∧Sl w' xa M.ck (fun j=>(M.C j).nm)∧Sl w' ya M.rk (fun j=>(M.R j).nm)
set_option maxRecDepth 100000 in
set_option maxHeartbeats 4000000 in
theorem names_c {w:World} {M:Mo} (h:MoR w M) (hc64:M.ck≤1000) (hr64:M.rk≤1000):Calls Tryz.prog 58 #[M.val] w fun r w'=>NmsAns w w' r M:=by
 obtain ⟨⟨s,x,n,c,f,y,m,d,g⟩,ca,ck,cc,C,ra,rk,rc,R⟩:=M;obtain ⟨ho,hC,hR,hck,hrk⟩:=h;replace hck:ck≤1000:=hc64;replace hrk:rk≤1000:=hr64;have HC:Hid (Cls w ca ck C):=hC;have HRL:Hid (Rls w ra rk R):=hR;have HCN:=hid (show ∀j,j<ck→(C j).nm.size≤9223372036854775807 from fun j hj=>by obtain ⟨_,_,_,_,h2⟩:=hC j hj;exact h2.nm);have HRN:=hid (show ∀j,j<rk→(R j).nm.size≤9223372036854775807 from fun j hj=>by obtain ⟨_,_,_,_,h2⟩:=hR j hj;exact h2.nm);clear ho hC hR hc64 hr64;show Calls Tryz.prog 58 #[.agg #[.bool s,.slice x n c,.slice y m d,.slice ca ck cc,.slice ra rk rc]] w _;go_enter Tryz.func58,Tryz.ntmps58;go_wp2_with fail
 have HB1:=hid (below_alloc (Below.refl w.heap.size w) (.cells #[.bool s,.slice x n c,.slice y m d,.slice ca ck cc,.slice ra rk rc] 28));have HK4:=hid (show (w.alloc (.cells #[.bool s,.slice x n c,.slice y m d,.slice ca ck cc,.slice ra rk rc] 28)).cell? ⟨w.heap.size,4,none⟩=some (.slice ra rk rc) from by simp [go_sem]);obtain ⟨w1,hw1⟩:∃z,w.alloc (.cells #[.bool s,.slice x n c,.slice y m d,.slice ca ck cc,.slice ra rk rc] 28)=z:=⟨_,rfl⟩;rw [hw1] at HB1 HK4 ⊢;clear hw1;go_loopw [2,11] (fun ov t wr=>∃(i:Nat),i≤ck∧t=.int .i64 i∧Hid (Below w1.heap.size w1 wr)∧Hid (RowG 9 1 w1.heap.size wr ov i (sls (fun j=>(C j).nm) i))) (fun _ t _=>ck-(intOf t).toNat)
 case atStart=>exact ⟨0,by omega,rfl,Below.refl _ _,rowG_nil _ _ _ _⟩
 case round =>
  obtain ⟨i,hi,rfl,HB,HRow⟩:=hrel;by_cases hlt:i<ck
  ·obtain ⟨b,o,rfl,hc,hn⟩:=(HC.out.below (HB1.out.trans (HB.out.mono HB1.out.size))) i hlt;obtain ⟨⟨z,⟨s0,x0,n0,c0,f0,y0,m0,d0,g0⟩,⟨i1,⟨s1,x1,n1,c1,f1,y1,m1,d1,g1⟩⟩,⟨i2,⟨s2,x2,n2,c2,f2,y2,m2,d2,g2⟩⟩⟩,hCi⟩:∃t,C i=t:=⟨_,rfl⟩;rw [hCi] at hc;have q0:wr.cell? ⟨b,o+i*12,none⟩=some (.string z):=hc 0 _ rfl;have q1:wr.cell? ⟨b,o+i*12+1,none⟩=some (.bool s0):=hc 1 _ rfl;have q2:wr.cell? ⟨b,o+i*12+2,none⟩=some (.slice x0 n0 c0):=hc 2 _ rfl;have q3:wr.cell? ⟨b,o+i*12+3,none⟩=some (.slice y0 m0 d0):=hc 3 _ rfl;have q4:wr.cell? ⟨b,o+i*12+4,none⟩=some (.int .i64 i1):=hc 4 _ rfl;have q5:wr.cell? ⟨b,o+i*12+5,none⟩=some (.bool s1):=hc 5 _ rfl;have q6:wr.cell? ⟨b,o+i*12+6,none⟩=some (.slice x1 n1 c1):=hc 6 _ rfl;have q7:wr.cell? ⟨b,o+i*12+7,none⟩=some (.slice y1 m1 d1):=hc 7 _ rfl;have q8:wr.cell? ⟨b,o+i*12+8,none⟩=some (.int .i64 i2):=hc 8 _ rfl;have q9:wr.cell? ⟨b,o+i*12+9,none⟩=some (.bool s2):=hc 9 _ rfl;have q10:wr.cell? ⟨b,o+i*12+10,none⟩=some (.slice x2 n2 c2):=hc 10 _ rfl;have q11:wr.cell? ⟨b,o+i*12+11,none⟩=some (.slice y2 m2 d2):=hc 11 _ rfl;have HZ:=hid (show (C i).nm=z from by rw [hCi]);have i1':((i:Nat):Int)<((ck:Nat):Int):=by omega
   have hb5:=below_alloc (Below.refl wr.heap.size wr) (.cells #[.string z,.bool s0,.slice x0 n0 c0,.slice y0 m0 d0,.int .i64 i1,.bool s1,.slice x1 n1 c1,.slice y1 m1 d1,.int .i64 i2,.bool s2,.slice x2 n2 c2,.slice y2 m2 d2] 65);have HRow5:=hid (HRow.out.below hb5);have HB5:=hid (HB.out.trans (hb5.mono HB.out.size))
   have k0:(wr.alloc (.cells #[.string z,.bool s0,.slice x0 n0 c0,.slice y0 m0 d0,.int .i64 i1,.bool s1,.slice x1 n1 c1,.slice y1 m1 d1,.int .i64 i2,.bool s2,.slice x2 n2 c2,.slice y2 m2 d2] 65)).cell? ⟨wr.heap.size,0,none⟩=some (.string z):=by simp [go_sem]
   clear hCi hc hn hb5;go_upto_region 4 with fail
   clear q0 q1 q2 q3 q4 q5 q6 q7 q8 q9 q10 q11 HB HRow;generalize wr.alloc (.cells #[.string z,.bool s0,.slice x0 n0 c0,.slice y0 m0 d0,.int .i64 i1,.bool s1,.slice x1 n1 c1,.slice y1 m1 d1,.int .i64 i2,.bool s2,.slice x2 n2 c2,.slice y2 m2 d2] 65)=w6 at *;have hsz:=HB5.out.size;go_wp2_with (at_builtin;go_must (refine wpList_append_one w6 rfl (.tmp 15) (.tmp 18) 115 rfl w1.heap.size 9 16 1 (.string .empty) Tryz.underlying115 Tryz.infoStr rfl (by decide) nz1 u2 i (sls (fun j=>(C j).nm) i) rfl HRow5.out #[.string z] rfl rfl (one1 _) (not1 _) ?p1 (by decide) hsz ?_))
   case p1=>omega
   intro g8 cap8 w8 hr8 hk8 hb8 hg8;have HB8:=hid (hb8 w1 HB5.out (Nat.le_refl _));have HR8:Hid (RowG 9 1 w1.heap.size w8 (.slice (some ⟨g8,0,none⟩) (i+1) cap8) (i+1) (sls (fun j=>(C j).nm) (i+1))):=by
    show RowG _ _ _ _ _ _ _;rw [sls_succ,HZ.out];exact hr8
   clear hr8 hk8 hb8 hg8 HRow5 HB5 hsz k0;go_wp2;go_roundw
   case rel=>exact ⟨i+1,by omega,by go_num,HB8.out,HR8.out⟩
   case measure=>simp [intOf];omega
  ·have e1:i=ck:=by omega
   have i2:¬(((i:Nat):Int)<((ck:Nat):Int)):=by omega
   rw [e1] at HRow;obtain ⟨xa,xc,rfl⟩:=HRow.out.slice;have k4:=kCb HB.out HK4.out;have HB5:=hid (HB1.out.trans (HB.out.mono HB1.out.size));have HSX:=hid (rowg_sl HRow.out HCN.out);clear e1 HB HC HK4 HB1 HRow;generalize wr=wa at *;go_wp2_with fail
   go_loopw [3,24] (fun ov t wr=>∃(i:Nat),i≤rk∧t=.int .i64 i∧Hid (Below wa.heap.size wa wr)∧Hid (RowG 9 1 wa.heap.size wr ov i (sls (fun j=>(R j).nm) i))) (fun _ t _=>rk-(intOf t).toNat)
   case atStart=>exact ⟨0,by omega,rfl,Below.refl _ _,rowG_nil _ _ _ _⟩
   case round =>
    obtain ⟨i,hi,rfl,HB,HRow⟩:=hrel;by_cases hlt:i<rk
    ·obtain ⟨b,o,rfl,hc,hn⟩:=(HRL.out.below (HB5.out.trans (HB.out.mono HB5.out.size))) i hlt;obtain ⟨⟨z,⟨i1,⟨s1,x1,n1,c1,f1,y1,m1,d1,g1⟩⟩,⟨i2,⟨s2,x2,n2,c2,f2,y2,m2,d2,g2⟩⟩,ta,tk,tc,tcol,tt⟩,hCi⟩:∃t,R i=t:=⟨_,rfl⟩;rw [hCi] at hc;have q0:wr.cell? ⟨b,o+i*10,none⟩=some (.string z):=hc 0 _ rfl;have q1:wr.cell? ⟨b,o+i*10+1,none⟩=some (.int .i64 i1):=hc 1 _ rfl;have q2:wr.cell? ⟨b,o+i*10+2,none⟩=some (.bool s1):=hc 2 _ rfl;have q3:wr.cell? ⟨b,o+i*10+3,none⟩=some (.slice x1 n1 c1):=hc 3 _ rfl;have q4:wr.cell? ⟨b,o+i*10+4,none⟩=some (.slice y1 m1 d1):=hc 4 _ rfl;have q5:wr.cell? ⟨b,o+i*10+5,none⟩=some (.int .i64 i2):=hc 5 _ rfl;have q6:wr.cell? ⟨b,o+i*10+6,none⟩=some (.bool s2):=hc 6 _ rfl;have q7:wr.cell? ⟨b,o+i*10+7,none⟩=some (.slice x2 n2 c2):=hc 7 _ rfl;have q8:wr.cell? ⟨b,o+i*10+8,none⟩=some (.slice y2 m2 d2):=hc 8 _ rfl;have q9:wr.cell? ⟨b,o+i*10+9,none⟩=some (.slice ta tk tc):=hc 9 _ rfl;have HZ:=hid (show (R i).nm=z from by rw [hCi]);have i1':((i:Nat):Int)<((rk:Nat):Int):=by omega
     have hb5:=below_alloc (Below.refl wr.heap.size wr) (.cells #[.string z,.int .i64 i1,.bool s1,.slice x1 n1 c1,.slice y1 m1 d1,.int .i64 i2,.bool s2,.slice x2 n2 c2,.slice y2 m2 d2,.slice ta tk tc] 68);have HRow5:=hid (HRow.out.below hb5);have HB6:=hid (HB.out.trans (hb5.mono HB.out.size))
     have k0:(wr.alloc (.cells #[.string z,.int .i64 i1,.bool s1,.slice x1 n1 c1,.slice y1 m1 d1,.int .i64 i2,.bool s2,.slice x2 n2 c2,.slice y2 m2 d2,.slice ta tk tc] 68)).cell? ⟨wr.heap.size,0,none⟩=some (.string z):=by simp [go_sem]
     clear hCi hc hn hb5;go_upto_region 9 with fail
     clear q0 q1 q2 q3 q4 q5 q6 q7 q8 q9 HB HRow;generalize wr.alloc (.cells #[.string z,.int .i64 i1,.bool s1,.slice x1 n1 c1,.slice y1 m1 d1,.int .i64 i2,.bool s2,.slice x2 n2 c2,.slice y2 m2 d2,.slice ta tk tc] 68)=w6 at *;have hsz:=HB6.out.size;go_wp2_with (at_builtin;go_must (refine wpList_append_one w6 rfl (.tmp 28) (.tmp 31) 115 rfl wa.heap.size 9 16 1 (.string .empty) Tryz.underlying115 Tryz.infoStr rfl (by decide) nz1 u3 i (sls (fun j=>(R j).nm) i) rfl HRow5.out #[.string z] rfl rfl (one1 _) (not1 _) ?p1 (by decide) hsz ?_))
     case p1=>omega
     intro g8 cap8 w8 hr8 hk8 hb8 hg8;have HB8:=hid (hb8 wa HB6.out (Nat.le_refl _));have HR8:Hid (RowG 9 1 wa.heap.size w8 (.slice (some ⟨g8,0,none⟩) (i+1) cap8) (i+1) (sls (fun j=>(R j).nm) (i+1))):=by
      show RowG _ _ _ _ _ _ _;rw [sls_succ,HZ.out];exact hr8
     clear hr8 hk8 hb8 hg8 HRow5 HB6 hsz k0;go_wp2;go_roundw
     case rel=>exact ⟨i+1,by omega,by go_num,HB8.out,HR8.out⟩
     case measure=>simp [intOf];omega
    ·have e1:i=rk:=by omega
     have i2:¬(((i:Nat):Int)<((rk:Nat):Int)):=by omega
     rw [e1] at HRow;obtain ⟨ya,yc,rfl⟩:=HRow.out.slice;have HB6:=hid (HB5.out.trans (HB.out.mono HB5.out.size));have HSY:=hid (rowg_sl HRow.out HRN.out);have HSX2:=hid (HSX.out.below HB.out);clear e1 HB HRow HSX;go_wp2
     go_ret2
     exact ⟨xa,xc,ya,yc,rfl,HB6.out,HSX2.out,HSY.out⟩
def lastB (k:Nat) (r:Lr):Bool:=decide (r.tk=0) || decide (r.col (r.tk-1)<(k:Int))
def alB (k:Nat) (R:Nat→Lr):Nat→Nat→Bool
 | 0,_=>true
 | r+1,i=>lastB k (R i) && alB k R r (i+1)
set_option maxRecDepth 100000 in
set_option maxHeartbeats 4000000 in
theorem mBelow_c {w:World} {M:Mo} (h:MoR w M):Calls Tryz.prog 62 #[M.val] w fun r w'=>r=.returned (.bool (alB M.ck M.R M.rk 0))∧Below w.heap.size w w':=by
 obtain ⟨⟨s,x,n,c,f,y,m,d,g⟩,ca,ck,cc,C,ra,rk,rc,R⟩:=M;obtain ⟨ho,hC,hR,hck,hrk⟩:=h;replace hck:ck≤1048576:=hck;replace hrk:rk≤1048576:=hrk;have HRL:Hid (Rls w ra rk R):=hR;clear ho hC hR;show Calls Tryz.prog 62 #[.agg #[.bool s,.slice x n c,.slice y m d,.slice ca ck cc,.slice ra rk rc]] w fun r w'=>r=.returned (.bool (alB ck R rk 0))∧Below w.heap.size w w'
 obtain ⟨ans,hans⟩:∃z,alB ck R rk 0=z:=⟨_,rfl⟩;rw [hans];have HF:=hid hans;clear hans;go_enter Tryz.func62,Tryz.ntmps62;go_wp2_with fail
 have HB1:=hid (below_alloc (Below.refl w.heap.size w) (.cells #[.bool s,.slice x n c,.slice y m d,.slice ca ck cc,.slice ra rk rc] 28));have HK3:=hid (show (w.alloc (.cells #[.bool s,.slice x n c,.slice y m d,.slice ca ck cc,.slice ra rk rc] 28)).cell? ⟨w.heap.size,3,none⟩=some (.slice ca ck cc) from by simp [go_sem]);obtain ⟨w1,hw1⟩:∃z,w.alloc (.cells #[.bool s,.slice x n c,.slice y m d,.slice ca ck cc,.slice ra rk rc] 28)=z:=⟨_,rfl⟩;rw [hw1] at HB1 HK3 ⊢;clear hw1;go_loopw [9] (fun t wr=>∃(i:Nat),i≤rk∧t=.int .i64 i∧Hid (Below w1.heap.size w1 wr)∧Hid (ans=alB ck R (rk-i) i)) (fun t _=>rk-(intOf t).toNat)
 case atStart=>exact ⟨0,by omega,rfl,Below.refl _ _,HF.out.symm⟩
 case round =>
  obtain ⟨i,hi,rfl,HB,HI⟩:=hrel;by_cases hlt:i<rk
  ·obtain ⟨b,o,rfl,hc,hn⟩:=(HRL.out.below (HB1.out.trans (HB.out.mono HB1.out.size))) i hlt;obtain ⟨r,hr⟩:∃r,rk-i=r+1:=⟨rk-i-1,by omega⟩;have hT:ans=(lastB ck (R i) && alB ck R r (i+1)):=by rw [HI.out,hr];rfl
   have hr2:rk-(i+1)=r:=by omega
   obtain ⟨⟨z,⟨i1,⟨s1,x1,n1,c1,f1,y1,m1,d1,g1⟩⟩,⟨i2,⟨s2,x2,n2,c2,f2,y2,m2,d2,g2⟩⟩,ta,tk,tc,tcol,tt⟩,hCi⟩:∃t,R i=t:=⟨_,rfl⟩;rw [hCi] at hc hT hn;have hTl:Tl wr ta tk tcol tt:=hn.tl;have htk:tk≤1048576:=hn.tk;have q0:wr.cell? ⟨b,o+i*10,none⟩=some (.string z):=hc 0 _ rfl;have q1:wr.cell? ⟨b,o+i*10+1,none⟩=some (.int .i64 i1):=hc 1 _ rfl;have q2:wr.cell? ⟨b,o+i*10+2,none⟩=some (.bool s1):=hc 2 _ rfl;have q3:wr.cell? ⟨b,o+i*10+3,none⟩=some (.slice x1 n1 c1):=hc 3 _ rfl;have q4:wr.cell? ⟨b,o+i*10+4,none⟩=some (.slice y1 m1 d1):=hc 4 _ rfl;have q5:wr.cell? ⟨b,o+i*10+5,none⟩=some (.int .i64 i2):=hc 5 _ rfl;have q6:wr.cell? ⟨b,o+i*10+6,none⟩=some (.bool s2):=hc 6 _ rfl;have q7:wr.cell? ⟨b,o+i*10+7,none⟩=some (.slice x2 n2 c2):=hc 7 _ rfl;have q8:wr.cell? ⟨b,o+i*10+8,none⟩=some (.slice y2 m2 d2):=hc 8 _ rfl;have q9:wr.cell? ⟨b,o+i*10+9,none⟩=some (.slice ta tk tc):=hc 9 _ rfl;have HT:=hid hT;have HR:=hid hr2
   have i1':((i:Nat):Int)<((rk:Nat):Int):=by omega
   have hb5:=below_alloc (Below.refl wr.heap.size wr) (.cells #[.string z,.int .i64 i1,.bool s1,.slice x1 n1 c1,.slice y1 m1 d1,.int .i64 i2,.bool s2,.slice x2 n2 c2,.slice y2 m2 d2,.slice ta tk tc] 68);have HB5:=hid (HB.out.trans (hb5.mono HB.out.size));have HTL:=hid (hTl.below hb5);have k9:(wr.alloc (.cells #[.string z,.int .i64 i1,.bool s1,.slice x1 n1 c1,.slice y1 m1 d1,.int .i64 i2,.bool s2,.slice x2 n2 c2,.slice y2 m2 d2,.slice ta tk tc] 68)).cell? ⟨wr.heap.size,9,none⟩=some (.slice ta tk tc):=by simp [go_sem]
   have k3:=kCb HB5.out HK3.out;clear hCi hc hn hb5 hT hr2 hr hTl;go_upto_region 4 with fail
   clear q0 q1 q2 q3 q4 q5 q6 q7 q8 q9 HB HI;generalize wr.alloc (.cells #[.string z,.int .i64 i1,.bool s1,.slice x1 n1 c1,.slice y1 m1 d1,.int .i64 i2,.bool s2,.slice x2 n2 c2,.slice y2 m2 d2,.slice ta tk tc] 68)=w6 at *;rcases Nat.eq_zero_or_pos tk with h0 | h0
   ·subst h0;have HL:=hid (show lastB ck ⟨z,⟨i1,⟨s1,x1,n1,c1,f1,y1,m1,d1,g1⟩⟩,⟨i2,⟨s2,x2,n2,c2,f2,y2,m2,d2,g2⟩⟩,ta,0,tc,tcol,tt⟩=true from by simp [lastB]);go_upto_region 5 with fail
    have k9':w6.drew.cell? ⟨wr.heap.size,9,none⟩=some (.slice ta 0 tc):=k9;have k3':w6.drew.cell? ⟨w.heap.size,3,none⟩=some (.slice ca ck cc):=k3
    go_quiet (fail)
    go_wp2;go_roundw
    case rel =>
     refine ⟨i+1,by omega,by go_num,⟨HB5.out.os,HB5.out.tape,HB5.out.output,HB5.out.size,HB5.out.block⟩,?_⟩;show _=_;rw [HT.out,HL.out,HR.out];rfl
    case measure=>simp [intOf];omega
   ·obtain ⟨j,rfl⟩:∃j,tk=j+1:=⟨tk-1,by omega⟩;obtain ⟨tb,tq,rfl,⟨t0,_,_,_⟩,_⟩:=HTL.out j (by omega);obtain ⟨v,hv⟩:∃v,tcol j=v:=⟨_,rfl⟩;rw [hv] at t0;have hg0:decide ((((j+1:Nat):Int)) > 0)=true:=by simp
    have hsub:((j+1:Nat):Int)-1=((j:Nat):Int):=by omega
    by_cases hvk:v<(ck:Int)
    ·have HL:=hid (show lastB ck ⟨z,⟨i1,⟨s1,x1,n1,c1,f1,y1,m1,d1,g1⟩⟩,⟨i2,⟨s2,x2,n2,c2,f2,y2,m2,d2,g2⟩⟩,some ⟨tb,tq,none⟩,j+1,tc,tcol,tt⟩=true from by simp [lastB,hv,hvk]);have hd:decide (v ≥ (ck:Int))=false:=by simp;omega
     go_upto_region 5 with fail
     have k9':w6.drew.cell? ⟨wr.heap.size,9,none⟩=some (.slice (some ⟨tb,tq,none⟩) (j+1) tc):=k9;have k3':w6.drew.cell? ⟨w.heap.size,3,none⟩=some (.slice ca ck cc):=k3;have t0':w6.drew.cell? ⟨tb,tq+j*4,none⟩=some (.int .i64 v):=t0
     go_quiet (fail)
     go_wp2;go_roundw
     case rel =>
      refine ⟨i+1,by omega,by go_num,⟨HB5.out.os,HB5.out.tape,HB5.out.output,HB5.out.size,HB5.out.block⟩,?_⟩;show _=_;rw [HT.out,HL.out,HR.out];rfl
     case measure=>simp [intOf];omega
    ·have HL:=hid (show lastB ck ⟨z,⟨i1,⟨s1,x1,n1,c1,f1,y1,m1,d1,g1⟩⟩,⟨i2,⟨s2,x2,n2,c2,f2,y2,m2,d2,g2⟩⟩,some ⟨tb,tq,none⟩,j+1,tc,tcol,tt⟩=false from by simp [lastB,hv];omega);have hd:decide (v ≥ (ck:Int))=true:=by simp;omega
     go_upto_region 5 with fail
     have k9':w6.drew.cell? ⟨wr.heap.size,9,none⟩=some (.slice (some ⟨tb,tq,none⟩) (j+1) tc):=k9;have k3':w6.drew.cell? ⟨w.heap.size,3,none⟩=some (.slice ca ck cc):=k3;have t0':w6.drew.cell? ⟨tb,tq+j*4,none⟩=some (.int .i64 v):=t0
     go_quiet (fail)
     go_wp2;go_ret;have HB7:=HB1.out.trans (HB5.out.mono HB1.out.size);refine ⟨?_,⟨HB7.os,HB7.tape,HB7.output,HB7.size,HB7.block⟩⟩;rw [HT.out,HL.out];rfl
  ·have e1:i=rk:=by omega
   have HE:Hid (ans=true):=by show _=_;rw [HI.out,e1,Nat.sub_self];rfl
   have i2:¬(((i:Nat):Int)<((rk:Nat):Int)):=by omega
   have HB5:=hid (HB1.out.trans (HB.out.mono HB1.out.size));clear e1 HI HB;go_wp2;go_ret;refine ⟨?_,HB5.out⟩;rw [HE.out];rfl
def chkV (l t1 t2 t3 t4 t5 t6:Bool):Int:=if l then 2 else if !t1 then 3 else if !(t2 && t3) then 5 else if t4 || t5 then 6 else if !t6 then 7 else 0
def chkE (M:Mo):Int:=chkV (decide (64<M.ck) || decide (64<M.rk)) (moF M) (nms (fun j=>(M.C j).nm) M.ck 0) (nms (fun j=>(M.R j).nm) M.rk 0) (twr (fun j=>(M.C j).nm) M.ck 0) (twr (fun j=>(M.R j).nm) M.rk 0) (alB M.ck M.R M.rk 0)
set_option maxRecDepth 100000 in
set_option maxHeartbeats 4000000 in
theorem check_c {w:World} {M:Mo} (h:MoR w M):Calls Tryz.prog 28 #[M.val] w fun r w'=>r=.returned (.int .i64 (chkE M))∧Below w.heap.size w w':=by
 have hck:=h.ck;have hrk:=h.rk
 have CN:=hid (fun w' (hw:Below w.heap.size w w') (h1:M.ck≤1000) (h2:M.rk≤1000)=>names_c (w:=w') (h.below hw) h1 h2);have CI:=hid (fun w' (hw:Below w.heap.size w w')=>inForm_c (w:=w') (h.below hw));have CL:=hid (fun w' (hw:Below w.heap.size w w')=>mBelow_c (w:=w') (h.below hw));obtain ⟨t1,ht1⟩:∃z,moF M=z:=⟨_,rfl⟩;obtain ⟨S,hS⟩:∃S:Nat→ByteArray,(fun j=>(M.C j).nm)=S:=⟨_,rfl⟩;obtain ⟨Z,hZ⟩:∃S:Nat→ByteArray,(fun j=>(M.R j).nm)=S:=⟨_,rfl⟩;obtain ⟨t2,ht2⟩:∃z,nms S M.ck 0=z:=⟨_,rfl⟩;obtain ⟨t3,ht3⟩:∃z,nms Z M.rk 0=z:=⟨_,rfl⟩;obtain ⟨t4,ht4⟩:∃z,twr S M.ck 0=z:=⟨_,rfl⟩;obtain ⟨t5,ht5⟩:∃z,twr Z M.rk 0=z:=⟨_,rfl⟩;obtain ⟨t6,ht6⟩:∃z,alB M.ck M.R M.rk 0=z:=⟨_,rfl⟩;obtain ⟨ans,hans⟩:∃z,chkE M=z:=⟨_,rfl⟩;have hA:ans=chkV (decide (64<M.ck) || decide (64<M.rk)) t1 t2 t3 t4 t5 t6:=by rw [←hans,chkE,hS,hZ,ht1,ht2,ht3,ht4,ht5,ht6]
 rw [hans];unfold NmsAns at CN;rw [ht1] at CI;rw [ht6] at CL;rw [hS,hZ] at CN;clear hans ht1 ht6 hS hZ h;obtain ⟨⟨s,x,n,c,f,y,m,d,g⟩,ca,ck,cc,C,ra,rk,rc,R⟩:=M;replace hck:ck≤1048576:=hck;replace hrk:rk≤1048576:=hrk;have HA:Hid (ans=chkV (decide (64<ck) || decide (64<rk)) t1 t2 t3 t4 t5 t6):=hA;have H2:Hid (nms S ck 0=t2):=ht2;have H3:Hid (nms Z rk 0=t3):=ht3;have H4:Hid (twr S ck 0=t4):=ht4;have H5:Hid (twr Z rk 0=t5):=ht5;replace CN:Hid (∀w',Below w.heap.size w w'→ck≤1000→rk≤1000→Calls Tryz.prog 58 #[.agg #[.bool s,.slice x n c,.slice y m d,.slice ca ck cc,.slice ra rk rc]] w' fun e w2=>∃xa xc ya yc,e=.returned (.tuple #[.slice xa ck xc,.slice ya rk yc])∧Below w'.heap.size w' w2∧Sl w2 xa ck S∧Sl w2 ya rk Z):=CN;replace CI:Hid (∀w',Below w.heap.size w w'→Calls Tryz.prog 59 #[.agg #[.bool s,.slice x n c,.slice y m d,.slice ca ck cc,.slice ra rk rc]] w' fun e w2=>e=.returned (.bool t1)∧Below w'.heap.size w' w2):=CI;replace CL:Hid (∀w',Below w.heap.size w w'→Calls Tryz.prog 62 #[.agg #[.bool s,.slice x n c,.slice y m d,.slice ca ck cc,.slice ra rk rc]] w' fun e w2=>e=.returned (.bool t6)∧Below w'.heap.size w' w2):=CL;clear hA ht2 ht3 ht4 ht5;show Calls Tryz.prog 28 #[.agg #[.bool s,.slice x n c,.slice y m d,.slice ca ck cc,.slice ra rk rc]] w _;by_cases h1:64<ck
 ·have HV:Hid (ans=2):=by show _=_;rw [HA.out];simp [chkV,h1]
  have e1:(ck:Int) > 64:=by omega
  clear HA h1;go_enter Tryz.func28,Tryz.ntmps28;go_wp2;go_ret;refine ⟨?_,below_alloc (Below.refl _ _) _⟩;rw [HV.out];rfl
 by_cases h2:64<rk
 ·have HV:Hid (ans=2):=by show _=_;rw [HA.out];simp [chkV,h2]
  have e1:¬(ck:Int) > 64:=by omega
  have e2:(rk:Int) > 64:=by omega
  clear HA h1 h2;go_enter Tryz.func28,Tryz.ntmps28;go_wp2;go_ret;refine ⟨?_,below_alloc (Below.refl _ _) _⟩;rw [HV.out];rfl
 have HV:Hid (ans=chkV false t1 t2 t3 t4 t5 t6):=by show _=_;rw [HA.out];simp [h1,h2]
 have e1:¬(ck:Int) > 64:=by omega
 have e2:¬(rk:Int) > 64:=by omega
 have l1:ck≤1000:=by omega
 have l2:rk≤1000:=by omega
 clear HA h1 h2;go_enter Tryz.func28,Tryz.ntmps28;go_wp2_with fail
 have HB:=hid (below_alloc (Below.refl w.heap.size w) (.cells #[.bool s,.slice x n c,.slice y m d,.slice ca ck cc,.slice ra rk rc] 28));refine (CN.out _ HB.out l1 l2).mono ?_;rintro r w1 ⟨xa,xc,ya,yc,rfl,hb1,hSX,hSY⟩;have k0:=kCb hb1 (a:=⟨w.heap.size,0,none⟩) (v:=.bool s) (by simp [go_sem]);have k1:=kCb hb1 (a:=⟨w.heap.size,1,none⟩) (v:=.slice x n c) (by simp [go_sem]);have k2:=kCb hb1 (a:=⟨w.heap.size,2,none⟩) (v:=.slice y m d) (by simp [go_sem]);have k3:=kCb hb1 (a:=⟨w.heap.size,3,none⟩) (v:=.slice ca ck cc) (by simp [go_sem]);have k4:=kCb hb1 (a:=⟨w.heap.size,4,none⟩) (v:=.slice ra rk rc) (by simp [go_sem]);have HX:=hid hSX;have HY:=hid hSY
 have HB1:=hid (HB.out.trans (hb1.mono HB.out.size));clear hb1 HB CN hSX hSY;go_wp2_with fail
 refine (CI.out _ HB1.out).mono ?_;rintro r w2 ⟨rfl,hb2⟩;replace HX:=hid (HX.out.below hb2);replace HY:=hid (HY.out.below hb2)
 replace k0:=kCb hb2 k0;replace k1:=kCb hb2 k1;replace k2:=kCb hb2 k2;replace k3:=kCb hb2 k3;replace k4:=kCb hb2 k4
 have HB2:=hid (HB1.out.trans (hb2.mono HB1.out.size));clear hb2 HB1 CI;cases t1
 ·go_wp2;go_ret;refine ⟨?_,HB2.out⟩;rw [HV.out];rfl
 have CA:=hid (allNames_c (cap:=xc) HX.out (by omega));rw [H2.out] at CA;go_wp2_with fail
 refine CA.out.mono ?_;rintro r w2' ⟨rfl,rfl⟩;cases t2
 ·go_wp2;go_ret;refine ⟨?_,HB2.out⟩;rw [HV.out];rfl
 have CA2:=hid (allNames_c (cap:=yc) HY.out (by omega));rw [H3.out] at CA2;go_wp2_with fail
 refine CA2.out.mono ?_;rintro r w2' ⟨rfl,rfl⟩;cases t3
 ·go_wp2;go_ret;refine ⟨?_,HB2.out⟩;rw [HV.out];rfl
 have CT:=hid (anyTwice_c (cap:=xc) HX.out (by omega));rw [H4.out] at CT;go_wp2_with fail
 refine CT.out.mono ?_;rintro r w3 ⟨rfl,hb3⟩;replace HY:=hid (HY.out.below hb3);replace k0:=kCb hb3 k0;replace k1:=kCb hb3 k1;replace k2:=kCb hb3 k2;replace k3:=kCb hb3 k3;replace k4:=kCb hb3 k4
 have HB3:=hid (HB2.out.trans (hb3.mono HB2.out.size));clear hb3 HX CA CA2 CT;cases t4
 case true =>
  go_wp2;go_ret;refine ⟨?_,HB3.out⟩;rw [HV.out];rfl
 have CT:=hid (anyTwice_c (cap:=yc) HY.out (by omega));rw [H5.out] at CT;go_wp2_with fail
 refine CT.out.mono ?_;rintro r w4 ⟨rfl,hb4⟩;replace k0:=kCb hb4 k0;replace k1:=kCb hb4 k1;replace k2:=kCb hb4 k2;replace k3:=kCb hb4 k3;replace k4:=kCb hb4 k4
 have HB4:=hid (HB3.out.trans (hb4.mono HB3.out.size));clear hb4 HY CT HB2 HB3;cases t5
 case true =>
  go_wp2;go_ret;refine ⟨?_,HB4.out⟩;rw [HV.out];rfl
 go_wp2_with fail
 refine (CL.out _ HB4.out).mono ?_;rintro r w5 ⟨rfl,hb5⟩;have HB5:=hid (HB4.out.trans (hb5.mono HB4.out.size));clear hb5 HB4 k0 k1 k2 k3 k4;cases t6
 ·go_wp2;go_ret;refine ⟨?_,HB5.out⟩;rw [HV.out];rfl
 ·go_wp2;go_ret;refine ⟨?_,HB5.out⟩;rw [HV.out];rfl
set_option maxRecDepth 100000 in
set_option maxHeartbeats 4000000 in
theorem checkL_c {w:World} {M:Mo} (h:64<M.ck∨64<M.rk):Calls Tryz.prog 28 #[M.val] w fun r w'=>r=.returned (.int .i64 2)∧Below w.heap.size w w':=by
 obtain ⟨⟨s,x,n,c,f,y,m,d,g⟩,ca,ck,cc,C,ra,rk,rc,R⟩:=M;replace h:64<ck∨64<rk:=h;show Calls Tryz.prog 28 #[.agg #[.bool s,.slice x n c,.slice y m d,.slice ca ck cc,.slice ra rk rc]] w _;by_cases h1:64<ck
 ·have e1:(ck:Int) > 64:=by omega
  clear h1 h;go_enter Tryz.func28,Tryz.ntmps28;go_wp2;go_ret;exact ⟨rfl,below_alloc (Below.refl _ _) _⟩
 ·have e1:¬(ck:Int) > 64:=by omega
  have e2:(rk:Int) > 64:=by omega
  clear h1 h;go_enter Tryz.func28,Tryz.ntmps28;go_wp2;go_ret;exact ⟨rfl,below_alloc (Below.refl _ _) _⟩
def MoW (w:World) (M:Mo):Prop:=M.ck≤64→M.rk≤64→MoR w M
theorem MoW.below {w w' M} (h:MoW w M) (hb:Below w.heap.size w w'):MoW w' M:=fun h1 h2=>(h h1 h2).below hb
theorem check_w {w:World} {M:Mo} (h:MoW w M):Calls Tryz.prog 28 #[M.val] w fun r w'=>r=.returned (.int .i64 (chkE M))∧Below w.heap.size w w':=by
 by_cases h1:64<M.ck∨64<M.rk
 ·have e:chkE M=2:=by
   have:(decide (64<M.ck) || decide (64<M.rk))=true:=by simpa using h1
   rw [chkE,this];rfl
  rw [e];exact checkL_c h1
 ·exact check_c (h (by omega) (by omega))
theorem chkE_ok {M:Mo} (h:chkE M=0):M.ck≤64∧M.rk≤64∧moF M=true∧nms (fun j=>(M.C j).nm) M.ck 0=true∧nms (fun j=>(M.R j).nm) M.rk 0=true∧twr (fun j=>(M.C j).nm) M.ck 0=false∧twr (fun j=>(M.R j).nm) M.rk 0=false∧alB M.ck M.R M.rk 0=true:=by
 unfold chkE chkV at h
 split at h
 ·cases h
 ·rename_i h0
  split at h
  ·cases h
  ·rename_i h1
   split at h
   ·cases h
   ·rename_i h2
    split at h
    ·cases h
    ·rename_i h3
     split at h
     ·cases h
     ·rename_i h4;simp at h0 h1 h2 h3 h4;exact ⟨h0.1,h0.2,h1,h2.1,h2.2,h3.1,h3.2,h4⟩
theorem str_ne {z y:ByteArray} (h:¬z=y):(z.toList==y.toList)=false:=by
 rw [Go.ByteArray.toList_eq,Go.ByteArray.toList_eq];refine beq_eq_false_iff_ne.2 fun e=>h (ByteArray.ext (Array.toList_inj.1 e))
def idx (S:Nat→ByteArray) (z:ByteArray):Nat→Nat→Int
 | 0,_=>-1
 | r+1,i=>if z=S i then (i:Int) else idx S z r (i+1)
def plc (p:Int):Int × Int:=if p<0 then (0,9) else (p,0)
def atRow (M:Mo) (z:ByteArray):Int × Int:=if chkE M=0 then plc (idx (fun j=>(M.R j).nm) z M.rk 0) else (0,chkE M)
def atCol (M:Mo) (z:ByteArray):Int × Int:=if chkE M=0 then plc (idx (fun j=>(M.C j).nm) z M.ck 0) else (0,chkE M)
structure Fn (w:World) (i:Int) (s:Bool) (x:Option Addr) (n:Nat) (d:Nat→Int) (y:Option Addr) (m:Nat) (g:Nat→Int) (q:Rat):Prop where
 qn:Qn w s x n d y m g q
 inf:i=0∨(i=-1∨i=1)∧q=0
theorem Fn.below {w w' i s x n d y m g q} (h:Fn w i s x n d y m g q) (hb:Below w.heap.size w w'):Fn w' i s x n d y m g q:=⟨h.qn.below hb,h.inf⟩
theorem Fn.alloc {w i s x n d y m g q} (h:Fn w i s x n d y m g q) (o:Obj):Fn (w.alloc o) i s x n d y m g q:=⟨h.qn.alloc o,h.inf⟩
set_option maxRecDepth 100000 in
set_option maxHeartbeats 4000000 in
theorem xTwin_c {w:World} {i:Int} {s:Bool} {x:Option Addr} {n c:Nat} {f:Nat→Int} {y:Option Addr} {m d:Nat} {g:Nat→Int} (h:Rw w x n c f y m d g) (hn:n≤17592186044416) (hm:m≤17592186044416) :
  Calls Tryz.prog 34 #[.agg #[.int .i64 i,.bool s,.slice x n c,.slice y m d]] w fun e w'=>∃z c' z2 c2,e=.returned (.agg #[.int .i64 i,.bool s,.slice z n c',.slice z2 m c2])∧Below w.heap.size w w'∧Rw w' z n c' f z2 m c2 g:=by
 have h1:=(bx4_at w (.int .i64 i) (.bool s) (.slice x n c) (.slice y m d) 42).alloc (.cells #[.int .i64 0,.bool false,.slice none 0 0,.slice none 0 0] 42);have h2:=ob4_new (w.alloc (.cells #[.int .i64 i,.bool s,.slice x n c,.slice y m d] 42)) 42;rw [size_alloc1] at h2;have h3:=below_alloc (below_alloc (Below.refl w.heap.size w) (.cells #[.int .i64 i,.bool s,.slice x n c,.slice y m d] 42)) (.cells #[.int .i64 0,.bool false,.slice none 0 0,.slice none 0 0] 42);have h4:=h.below h3;clear h;go_enter Tryz.func34,Tryz.ntmps34;go_wp2_with fail
 generalize (w.alloc (.cells #[.int .i64 i,.bool s,.slice x n c,.slice y m d] 42)).alloc (.cells #[.int .i64 0,.bool false,.slice none 0 0,.slice none 0 0] 42)=w1 at *;have HN:=hid h4;have OB:=hid h2;have HW:=hid h3
 obtain ⟨z,x0,x1,x2,x3⟩:=h1;obtain ⟨hz,z0,z1,z2,z3,zf⟩:=h2;clear h3 h4;have C1:Hid (∀W,Below w1.heap.size w1 W→Calls Tryz.prog 33 #[.agg #[.bool s,.slice x n c,.slice y m d]] W fun e w'=>∃z c' z2 c2,e=.returned (.agg #[.bool s,.slice z n c',.slice z2 m c2])∧Below W.heap.size W w'∧Hid (Rw w' z n c' f z2 m c2 g)):=fun W hW=>qTwin_c (HN.out.below hW) hn hm
 go_region_held3 (fun w'=>w'.cell? ⟨w.heap.size,0,none⟩=some (.int .i64 i)∧w'.cell? ⟨w.heap.size,1,none⟩=some (.bool s)∧w'.cell? ⟨w.heap.size,2,none⟩=some (.slice x n c)∧w'.cell? ⟨w.heap.size,3,none⟩=some (.slice y m d)∧(w'.cell? ⟨w.heap.size+1,0,none⟩).isSome=true∧(w'.cell? ⟨w.heap.size+1,1,none⟩).isSome=true∧(w'.cell? ⟨w.heap.size+1,2,none⟩).isSome=true∧(w'.cell? ⟨w.heap.size+1,3,none⟩).isSome=true∧w'.frozen? ⟨w.heap.size+1,0,none⟩=false∧w'.frozen? ⟨w.heap.size+1,1,none⟩=false∧w'.frozen? ⟨w.heap.size+1,2,none⟩=false∧w'.frozen? ⟨w.heap.size+1,3,none⟩=false)
  (refine ⟨?_,?_,?_,?_,?_,?_,?_,?_,?_,?_,?_,?_⟩ <;> repeat (with_reducible first | assumption | exact zf _ | exact tf _ | exact kI0 z0 | exact kI0 z1 | exact kI0 z2 | exact kI0 z3 | exact kI0 t0 | exact kI0 t1 | exact kI0 t2 | exact kI0 t3 | refine kCd ?_ | refine kId ?_ | refine kFd ?_ | refine kCs (by simp only [ne_eq];omega) ?_ | refine kIs ?_ | refine kFs ?_ | refine kCb (by assumption) ?_ | refine kIb (by assumption) ?_))
  (first | (go_at_call 33;with_reducible refine (C1.out _ belB).mono ?_;rintro e v5 ⟨z5,c5,y5,d5,rfl,hb5,H5⟩;have Tt:Ob4 v5 (w.heap.size+1):=(by repeat (with_reducible first | exact OB.out | refine Ob4.drew ?_ | refine kO4b (by assumption) ?_));obtain ⟨_,t0,t1,t2,t3,tf⟩:=id Tt))
 all_goals
  have hb:Below w1.heap.size w1 v5:=belB;go_wp2;exact bodyPost_ret (v:=.agg #[.int .i64 i,.bool s,.slice z5 n c5,.slice y5 m d5]) (by simp [results,Tryz.results34,go_sem,t0,t1,t2,t3]) rfl ⟨z5,c5,y5,d5,rfl,below_st4 (HW.out.trans (hb.mono HW.out.size)) (by omega),Tt.rw H5.out⟩
set_option maxRecDepth 100000 in
set_option maxHeartbeats 4000000 in
theorem xFrom_c {L:Nat} {w:World} {i:Int} {s:Bool} {x:Option Addr} {n c:Nat} {f:Nat→Int} {y:Option Addr} {m d:Nat} {g:Nat→Int} {q:Rat} (h:En L w i s x n c f y m d g q) (hL:L≤150000) :
  Calls Tryz.prog 75 #[.agg #[.int .i64 i,.bool s,.slice x n c,.slice y m d]] w fun e w'=>∃s x n c d y m c' g,e=.returned (.agg #[.int .i64 i,.bool s,.slice x n c,.slice y m c'])∧Below w.heap.size w w'∧Hid (n≤2*L∧m≤2*L∧Fn w' i s x n d y m g q):=by
 have h1:=(bx4_at w (.int .i64 i) (.bool s) (.slice x n c) (.slice y m d) 42).alloc (.cells #[.int .i64 0,.bool false,.slice none 0 0,.slice none 0 0] 103);have h2:=ob4_new (w.alloc (.cells #[.int .i64 i,.bool s,.slice x n c,.slice y m d] 42)) 103;rw [size_alloc1] at h2;have h3:=below_alloc (below_alloc (Below.refl w.heap.size w) (.cells #[.int .i64 i,.bool s,.slice x n c,.slice y m d] 42)) (.cells #[.int .i64 0,.bool false,.slice none 0 0,.slice none 0 0] 103);have h4:=h.below h3;clear h;go_enter Tryz.func75,Tryz.ntmps75;go_wp2_with fail
 generalize (w.alloc (.cells #[.int .i64 i,.bool s,.slice x n c,.slice y m d] 42)).alloc (.cells #[.int .i64 0,.bool false,.slice none 0 0,.slice none 0 0] 103)=w1 at *;have HN:=hid h4;have OB:=hid h2;have HW:=hid h3
 obtain ⟨z,x0,x1,x2,x3⟩:=h1;obtain ⟨hz,z0,z1,z2,z3,zf⟩:=h2;clear h3 h4;have C1:Hid (∀W,Below w1.heap.size w1 W→Calls Tryz.prog 74 #[.agg #[.bool s,.slice x n c,.slice y m d]] W fun e w'=>∃s x n c d y m c' g,e=.returned (.agg #[.bool s,.slice x n c,.slice y m c'])∧Below W.heap.size W w'∧Hid (n≤2*L∧m≤2*L∧Qn w' s x n d y m g q)):=fun W hW=>qFrom_c (HN.out.below hW).rn (Nat.le_trans hL (by decide))
 go_region_held3 (fun w'=>w'.cell? ⟨w.heap.size,0,none⟩=some (.int .i64 i)∧w'.cell? ⟨w.heap.size,1,none⟩=some (.bool s)∧w'.cell? ⟨w.heap.size,2,none⟩=some (.slice x n c)∧w'.cell? ⟨w.heap.size,3,none⟩=some (.slice y m d)∧(w'.cell? ⟨w.heap.size+1,0,none⟩).isSome=true∧(w'.cell? ⟨w.heap.size+1,1,none⟩).isSome=true∧(w'.cell? ⟨w.heap.size+1,2,none⟩).isSome=true∧(w'.cell? ⟨w.heap.size+1,3,none⟩).isSome=true∧w'.frozen? ⟨w.heap.size+1,0,none⟩=false∧w'.frozen? ⟨w.heap.size+1,1,none⟩=false∧w'.frozen? ⟨w.heap.size+1,2,none⟩=false∧w'.frozen? ⟨w.heap.size+1,3,none⟩=false)
  (refine ⟨?_,?_,?_,?_,?_,?_,?_,?_,?_,?_,?_,?_⟩ <;> repeat (with_reducible first | assumption | exact zf _ | exact tf _ | exact kI0 z0 | exact kI0 z1 | exact kI0 z2 | exact kI0 z3 | exact kI0 t0 | exact kI0 t1 | exact kI0 t2 | exact kI0 t3 | refine kCd ?_ | refine kId ?_ | refine kFd ?_ | refine kCs (by simp only [ne_eq];omega) ?_ | refine kIs ?_ | refine kFs ?_ | refine kCb (by assumption) ?_ | refine kIb (by assumption) ?_))
  (first | (go_at_call 74;with_reducible refine (C1.out _ belB).mono ?_;rintro e v5 ⟨s5,x5,n5,c5,d5,y5,m5,e5,g5,rfl,hb5,H5⟩;have Tt:Ob4 v5 (w.heap.size+1):=(by repeat (with_reducible first | exact OB.out | refine Ob4.drew ?_ | refine kO4b (by assumption) ?_));obtain ⟨_,t0,t1,t2,t3,tf⟩:=id Tt))
 all_goals
  have hb:Below w1.heap.size w1 v5:=belB;go_wp2;exact bodyPost_ret (v:=.agg #[.int .i64 i,.bool s5,.slice x5 n5 c5,.slice y5 m5 e5]) (by simp [results,Tryz.results75,go_sem,t0,t1,t2,t3]) rfl ⟨s5,x5,n5,c5,d5,y5,m5,e5,g5,rfl,below_st4 (HW.out.trans (hb.mono HW.out.size)) (by omega),H5.out.1,H5.out.2.1,⟨Tt.qn H5.out.2.2,HN.out.inf⟩⟩
set_option maxRecDepth 100000 in
set_option maxHeartbeats 4000000 in
theorem xTo_c {w:World} {i:Int} {s:Bool} {x:Option Addr} {n c:Nat} {f:Nat→Int} {y:Option Addr} {m d:Nat} {g:Nat→Int} {q:Rat} (h:Fn w i s x n f y m g q) (hn:n≤4096) (hm:m≤4096) :
  Calls Tryz.prog 44 #[.agg #[.int .i64 i,.bool s,.slice x n c,.slice y m d]] w fun e w'=>∃z k c' f z2 k2 c2 f2,e=.returned (.agg #[.int .i64 i,.bool s,.slice z k c',.slice z2 k2 c2])∧Below w.heap.size w w'∧Hid (En (n+m) w' i s z k c' f z2 k2 c2 f2 q):=by
 have h1:=(bx4_at w (.int .i64 i) (.bool s) (.slice x n c) (.slice y m d) 103).alloc (.cells #[.int .i64 0,.bool false,.slice none 0 0,.slice none 0 0] 42);have h2:=ob4_new (w.alloc (.cells #[.int .i64 i,.bool s,.slice x n c,.slice y m d] 103)) 42;rw [size_alloc1] at h2;have h3:=below_alloc (below_alloc (Below.refl w.heap.size w) (.cells #[.int .i64 i,.bool s,.slice x n c,.slice y m d] 103)) (.cells #[.int .i64 0,.bool false,.slice none 0 0,.slice none 0 0] 42);have h4:=h.below h3;clear h;go_enter Tryz.func44,Tryz.ntmps44;go_wp2_with fail
 generalize (w.alloc (.cells #[.int .i64 i,.bool s,.slice x n c,.slice y m d] 103)).alloc (.cells #[.int .i64 0,.bool false,.slice none 0 0,.slice none 0 0] 42)=w1 at *;have HN:=hid h4;have OB:=hid h2;have HW:=hid h3
 obtain ⟨z,x0,x1,x2,x3⟩:=h1;obtain ⟨hz,z0,z1,z2,z3,zf⟩:=h2;clear h3 h4;have C1:Hid (∀W,Below w1.heap.size w1 W→Calls Tryz.prog 54 #[.agg #[.bool s,.slice x n c,.slice y m d]] W fun e w'=>∃z k c' f z2 k2 c2 f2,e=.returned (.agg #[.bool s,.slice z k c',.slice z2 k2 c2])∧Below W.heap.size W w'∧Hid (Rn (n+m) w' s z k c' f z2 k2 c2 f2 q)):=fun W hW=>qToR_c (HN.out.below hW).qn (Nat.le_trans hn (by decide)) (Nat.le_trans hm (by decide))
 go_region_held3 (fun w'=>w'.cell? ⟨w.heap.size,0,none⟩=some (.int .i64 i)∧w'.cell? ⟨w.heap.size,1,none⟩=some (.bool s)∧w'.cell? ⟨w.heap.size,2,none⟩=some (.slice x n c)∧w'.cell? ⟨w.heap.size,3,none⟩=some (.slice y m d)∧(w'.cell? ⟨w.heap.size+1,0,none⟩).isSome=true∧(w'.cell? ⟨w.heap.size+1,1,none⟩).isSome=true∧(w'.cell? ⟨w.heap.size+1,2,none⟩).isSome=true∧(w'.cell? ⟨w.heap.size+1,3,none⟩).isSome=true∧w'.frozen? ⟨w.heap.size+1,0,none⟩=false∧w'.frozen? ⟨w.heap.size+1,1,none⟩=false∧w'.frozen? ⟨w.heap.size+1,2,none⟩=false∧w'.frozen? ⟨w.heap.size+1,3,none⟩=false)
  (refine ⟨?_,?_,?_,?_,?_,?_,?_,?_,?_,?_,?_,?_⟩ <;> repeat (with_reducible first | assumption | exact zf _ | exact tf _ | exact kI0 z0 | exact kI0 z1 | exact kI0 z2 | exact kI0 z3 | exact kI0 t0 | exact kI0 t1 | exact kI0 t2 | exact kI0 t3 | refine kCd ?_ | refine kId ?_ | refine kFd ?_ | refine kCs (by simp only [ne_eq];omega) ?_ | refine kIs ?_ | refine kFs ?_ | refine kCb (by assumption) ?_ | refine kIb (by assumption) ?_))
  (first | (go_at_call 54;with_reducible refine (C1.out _ belB).mono ?_;rintro e v5 ⟨z5,k5,c5,f5,y5,m5,d5,g5,rfl,hb5,H5⟩;have Tt:Ob4 v5 (w.heap.size+1):=(by repeat (with_reducible first | exact OB.out | refine Ob4.drew ?_ | refine kO4b (by assumption) ?_));obtain ⟨_,t0,t1,t2,t3,tf⟩:=id Tt))
 all_goals
  have hb:Below w1.heap.size w1 v5:=belB;go_wp2;exact bodyPost_ret (v:=.agg #[.int .i64 i,.bool s,.slice z5 k5 c5,.slice y5 m5 d5]) (by simp [results,Tryz.results44,go_sem,t0,t1,t2,t3]) rfl ⟨z5,k5,c5,f5,y5,m5,d5,g5,rfl,below_st4 (HW.out.trans (hb.mono HW.out.size)) (by omega),⟨Tt.rn H5.out,HN.out.inf⟩⟩
set_option maxRecDepth 100000 in
set_option maxHeartbeats 4000000 in
theorem qZero4_c {w:World}:Calls Tryz.prog 81 #[] w fun e w'=>∃s x n c d y m c' g,e=.returned (.agg #[.bool s,.slice x n c,.slice y m c'])∧Below w.heap.size w w'∧Hid (n≤2∧m≤2∧Qn w' s x n d y m g 0):=by
 have h2:=ob_new w 89;have h3:=below_alloc (Below.refl w.heap.size w) (.cells #[.bool false,.slice none 0 0,.slice none 0 0] 89);go_enter Tryz.func81,Tryz.ntmps81;go_wp2_with fail
 generalize w.alloc (.cells #[.bool false,.slice none 0 0,.slice none 0 0] 89)=w1 at *;have OB:=hid h2;have HW:=hid h3
 clear h2 h3;refine (qInt_c (z:=0) (by decide) (by decide)).mono ?_;rintro e w2 ⟨s2,x2,n2,c2,d2,y2,m2,e2,g2,rfl,hb,hl1,hl2,hq⟩;have HB:=hid (HW.out.trans (hb.mono HW.out.size));have OB2:=hid (OB.out.below hb);have HQ:=hid hq
 clear hb hq;obtain ⟨hz,z0,z1,z2,zf⟩:=OB2.out;go_wp2;exact bodyPost_ret (v:=.agg #[.bool s2,.slice x2 n2 c2,.slice y2 m2 e2]) (by simp [results,Tryz.results81,go_sem,z0,z1,z2]) rfl ⟨s2,x2,n2,c2,d2,y2,m2,e2,g2,rfl,below_st HB.out (Nat.le_refl _),hl1,hl2,OB2.out.qn HQ.out⟩
set_option maxRecDepth 100000 in
set_option maxHeartbeats 4000000 in
theorem xLow_c {w:World}:Calls Tryz.prog 45 #[] w fun e w'=>∃s x n c d y m c' g,e=.returned (.agg #[.int .i64 (-1),.bool s,.slice x n c,.slice y m c'])∧Below w.heap.size w w'∧Hid (n≤2∧m≤2∧Fn w' (-1) s x n d y m g 0):=by
 have h2:=ob4_new w 103;have h3:=below_alloc (Below.refl w.heap.size w) (.cells #[.int .i64 0,.bool false,.slice none 0 0,.slice none 0 0] 103);go_enter Tryz.func45,Tryz.ntmps45;go_wp2_with fail
 generalize w.alloc (.cells #[.int .i64 0,.bool false,.slice none 0 0,.slice none 0 0] 103)=w1 at *;have OB:=hid h2;have HW:=hid h3
 clear h2 h3;refine qZero4_c.mono ?_;rintro e w2 ⟨s2,x2,n2,c2,d2,y2,m2,e2,g2,rfl,hb,H2⟩;have HB:=hid (HW.out.trans (hb.mono HW.out.size));have OB2:=hid (OB.out.below hb)
 clear hb;obtain ⟨hz,z0,z1,z2,z3,zf⟩:=OB2.out;go_wp2;exact bodyPost_ret (v:=.agg #[.int .i64 (-1),.bool s2,.slice x2 n2 c2,.slice y2 m2 e2]) (by simp [results,Tryz.results45,go_sem,z0,z1,z2,z3]) rfl ⟨s2,x2,n2,c2,d2,y2,m2,e2,g2,rfl,below_st4 HB.out (Nat.le_refl _),H2.out.1,H2.out.2.1,⟨OB2.out.qn H2.out.2.2,.inr ⟨by decide,rfl⟩⟩⟩
set_option maxRecDepth 100000 in
set_option maxHeartbeats 4000000 in
theorem xNum_c {w:World} {s:Bool} {x:Option Addr} {n c:Nat} {f:Nat→Int} {y:Option Addr} {m d:Nat} {g:Nat→Int} {q:Rat} (h:Qn w s x n f y m g q):Calls Tryz.prog 46 #[.agg #[.bool s,.slice x n c,.slice y m d]] w fun e w'=>e=.returned (.agg #[.int .i64 0,.bool s,.slice x n c,.slice y m d])∧Below w.heap.size w w'∧Fn w' 0 s x n f y m g q:=by
 have h1:=(bx3_at w (.bool s) (.slice x n c) (.slice y m d) 89).alloc (.cells #[.int .i64 0,.bool false,.slice none 0 0,.slice none 0 0] 103);have h2:=ob4_new (w.alloc (.cells #[.bool s,.slice x n c,.slice y m d] 89)) 103;rw [size_alloc1] at h2;have h3:=below_alloc (below_alloc (Below.refl w.heap.size w) (.cells #[.bool s,.slice x n c,.slice y m d] 89)) (.cells #[.int .i64 0,.bool false,.slice none 0 0,.slice none 0 0] 103);have HN:=hid (h.below h3);clear h;go_enter Tryz.func46,Tryz.ntmps46;go_upto_region 1 with fail
 generalize (w.alloc (.cells #[.bool s,.slice x n c,.slice y m d] 89)).alloc (.cells #[.int .i64 0,.bool false,.slice none 0 0,.slice none 0 0] 103)=w1 at *;have OB:=hid h2;have HW:=hid h3
 obtain ⟨z,x0,x1,x2⟩:=h1;obtain ⟨hz,z0,z1,z2,z3,zf⟩:=h2;clear h3;go_wp2;exact bodyPost_ret (v:=.agg #[.int .i64 0,.bool s,.slice x n c,.slice y m d]) (by simp [results,Tryz.results46,go_sem,z0,z1,z2,z3]) rfl ⟨rfl,below_st4 HW.out (by omega),⟨OB.out.qn HN.out,.inl rfl⟩⟩
set_option maxRecDepth 100000 in
set_option maxHeartbeats 4000000 in
theorem xSame_of {w:World} {i:Int} {s1:Bool} {x1:Option Addr} {n1 c1:Nat} {y1:Option Addr} {m1 d1:Nat} {s2:Bool} {x2:Option Addr} {n2 c2:Nat} {y2:Option Addr} {m2 d2:Nat} (hS:∀W,Below w.heap.size w W→Calls Tryz.prog 24 #[.agg #[.bool s1,.slice x1 n1 c1,.slice y1 m1 d1],.agg #[.bool s2,.slice x2 n2 c2,.slice y2 m2 d2]] W fun e w'=>e=.returned (.bool true)∧Below W.heap.size W w') :
  Calls Tryz.prog 15 #[.agg #[.int .i64 i,.bool s1,.slice x1 n1 c1,.slice y1 m1 d1],.agg #[.int .i64 i,.bool s2,.slice x2 n2 c2,.slice y2 m2 d2]] w fun e w'=>e=.returned (.bool true)∧Below w.heap.size w w':=by
 have h1:=(bx4_at w (.int .i64 i) (.bool s1) (.slice x1 n1 c1) (.slice y1 m1 d1) 42).alloc (.cells #[.int .i64 i,.bool s2,.slice x2 n2 c2,.slice y2 m2 d2] 42);have h2:=bx4_at (w.alloc (.cells #[.int .i64 i,.bool s1,.slice x1 n1 c1,.slice y1 m1 d1] 42)) (.int .i64 i) (.bool s2) (.slice x2 n2 c2) (.slice y2 m2 d2) 42;rw [size_alloc1] at h2;have h3:=below_alloc (below_alloc (Below.refl w.heap.size w) (.cells #[.int .i64 i,.bool s1,.slice x1 n1 c1,.slice y1 m1 d1] 42)) (.cells #[.int .i64 i,.bool s2,.slice x2 n2 c2,.slice y2 m2 d2] 42);have HS:=hid (hS _ h3);have hii:(i==i)=true:=by simp
 clear hS;go_enter Tryz.func15,Tryz.ntmps15;go_upto_region 1 with fail
 generalize (w.alloc (.cells #[.int .i64 i,.bool s1,.slice x1 n1 c1,.slice y1 m1 d1] 42)).alloc (.cells #[.int .i64 i,.bool s2,.slice x2 n2 c2,.slice y2 m2 d2] 42)=w1 at *;have HW:=hid h3;obtain ⟨za,a0,a1,a2,a3⟩:=h1;obtain ⟨zb,b0,b1,b2,b3⟩:=h2;clear h3;go_wp2_with fail
 refine HS.out.mono ?_;rintro e w2 ⟨rfl,hb⟩;have HB:=hid (HW.out.trans (hb.mono HW.out.size));clear hb;go_wp2;go_ret;exact ⟨rfl,HB.out⟩
theorem zero_rf {w:World} {L:Nat} {s s':Bool} {n n' m m':Nat} {f f' g g':Nat→Int} {x':Option Addr} {c':Nat} {y':Option Addr} {d':Nat} (hlg:Lm g m) (hz:Rn L w s' x' n' c' f' y' m' d' g' 0):(s=s'∧Alk n n' f f'∧Alk m m' g g') ↔ (rfB s f n g m && decide (n=0))=true:=by
 have hn':n'=0:=hz.q_zero.1 rfl;have hs':s'=false:=by
  cases s'
  ·rfl
  ·have:=sgn_of_wfB hz.num.wf rfl;omega
 have hden:vf g' m'=1:=hz.den.nv;have hone:=one_iff hz.den.lm hz.den.fm hz.den.nv;have hm':=hone.1 rfl;constructor
 ·rintro ⟨rfl,⟨h1,_⟩,h2,h3⟩;have e1:n=0:=by omega
  have e2:m=1:=by omega
  subst e1 e2;have e3:g 0=1:=by rw [h3 0 (by omega)];exact hm'.2
  have v1:vf g 1=1:=by simp [vf,pw,e3]
  have v0:vf f 0=0:=rfl;have w1:wfB s f 0=true:=(wfB_iff _ _ _).2 ⟨.inl rfl,fun h=>by rw [hs'] at h;cases h⟩;have w2:fmB g 1=true:=(fmB_iff _ _).2 (.inr (by show g 0≠0;omega));simp [rfB,w1,w2,v1,v0]
 ·intro h;simp only [Bool.and_eq_true,decide_eq_true_eq] at h;obtain ⟨h1,rfl⟩:=h;simp only [rfB,Bool.and_eq_true,decide_eq_true_eq] at h1;obtain ⟨k1,k2,k3,k4⟩:=h1;have hs:s=false:=by
   cases s
   ·rfl
   ·have:=sgn_of_wfB k1 rfl;omega
  have hv:vf g m=1:=by
   have v0:vf f 0=0:=rfl;rw [v0] at k4;have h2:(vf g m).toNat=1:=by simpa using k4
   omega
  obtain ⟨e1,e2⟩:=(one_iff hlg ((fmB_iff g m).1 k2) hv).1 rfl;subst e1;refine ⟨by rw [hs,hs'],⟨by omega,fun j hj=>by omega⟩,⟨by omega,fun j hj=>?_⟩⟩;have:j=0:=by omega
  subst this;rw [e2];exact hm'.2.symm
set_option maxRecDepth 100000 in
set_option maxHeartbeats 4000000 in
theorem xForm_c {w:World} {i:Int} {s:Bool} {x:Option Addr} {n c:Nat} {f:Nat→Int} {y:Option Addr} {m d:Nat} {g:Nat→Int} (h:Rw w x n c f y m d g) (hn:n≤1000) (hm:m≤1000) :
  Calls Tryz.prog 125 #[.agg #[.int .i64 i,.bool s,.slice x n c,.slice y m d]] w fun e w'=>e=.returned (.bool (efB i s f n g m))∧Below w.heap.size w w':=by
 have HR:=hid (h.alloc (.cells #[.int .i64 i,.bool s,.slice x n c,.slice y m d] 42));have BX:=hid (bx4_at w (.int .i64 i) (.bool s) (.slice x n c) (.slice y m d) 42);have HW:=hid (below_alloc (Below.refl w.heap.size w) (.cells #[.int .i64 i,.bool s,.slice x n c,.slice y m d] 42));have C1:Hid (∀W,Below (w.alloc (.cells #[.int .i64 i,.bool s,.slice x n c,.slice y m d] 42)).heap.size (w.alloc (.cells #[.int .i64 i,.bool s,.slice x n c,.slice y m d] 42)) W→Calls Tryz.prog 87 #[.agg #[.bool s,.slice x n c,.slice y m d]] W fun e w'=>e=.returned (.bool (rfB s f n g m))∧Below W.heap.size W w'):=fun W hW=>qForm_c (HR.out.below hW) hn hm
 have CZ:Hid (∀W:World,Calls Tryz.prog 81 #[] W fun e w'=>∃s x n c d y m c' g,e=.returned (.agg #[.bool s,.slice x n c,.slice y m c'])∧Below W.heap.size W w'∧Hid (n≤2∧m≤2∧Qn w' s x n d y m g 0)):=fun W=>qZero4_c
 have CT:Hid (∀(W:World) (s:Bool) (x:Option Addr) (n c:Nat) (d:Nat→Int) (y:Option Addr) (m e:Nat) (g:Nat→Int),n≤2→m≤2→Qn W s x n d y m g 0→Calls Tryz.prog 54 #[.agg #[.bool s,.slice x n c,.slice y m e]] W fun en w'=>∃z k c' f z2 k2 c2 f2,en=.returned (.agg #[.bool s,.slice z k c',.slice z2 k2 c2])∧Below W.heap.size W w'∧Hid (Rn 4 w' s z k c' f z2 k2 c2 f2 0)):=fun W s x n c d y m e g h1 h2 h3=>(qToR_c h3 (by omega) (by omega)).mono (fun _ _ ⟨z,k,c',f,z2,k2,c2,f2,k1,k3,k4⟩=>⟨z,k,c',f,z2,k2,c2,f2,k1,k3,k4.out.mono (by omega)⟩)
 have CS:Hid (∀(W:World) (s':Bool) (x':Option Addr) (n' c':Nat) (f':Nat→Int) (y':Option Addr) (m' d':Nat) (g':Nat→Int),Below (w.alloc (.cells #[.int .i64 i,.bool s,.slice x n c,.slice y m d] 42)).heap.size (w.alloc (.cells #[.int .i64 i,.bool s,.slice x n c,.slice y m d] 42)) W→Rn 4 W s' x' n' c' f' y' m' d' g' 0→Calls Tryz.prog 24 #[.agg #[.bool s,.slice x n c,.slice y m d],.agg #[.bool s',.slice x' n' c',.slice y' m' d']] W fun e w'=>e=.returned (.bool (rfB s f n g m && decide (n=0)))∧Below W.heap.size W w'):=fun W s' x' n' c' f' y' m' d' g' hW hz=>by
  have hr:=HR.out.below hW;have b1:=hz.ln;have b2:=hz.ld
  refine (rSame_c s x y n c m d f g s' x' y' n' c' m' d' f' g' W hr.rx hr.ry hz.num.rd hz.den.rd (by omega) (by omega) (by omega) (by omega)).mono ?_;rintro e w' ⟨b,rfl,h1,h2⟩;have:b=(rfB s f n g m && decide (n=0)):=Bool.eq_iff_iff.2 (h2.trans (zero_rf hr.ly hz));rw [this];exact ⟨rfl,h1⟩
 clear h;by_cases h0:i=0
 ·subst h0;rw [show efB 0 s f n g m=rfB s f n g m by simp [efB]];clear CZ CT CS;go_enter Tryz.func125,Tryz.ntmps125;go_upto_region 1 with fail
  generalize w.alloc (.cells #[.int .i64 0,.bool s,.slice x n c,.slice y m d] 42)=w1 at *;obtain ⟨z,x0,x1,x2,x3⟩:=BX.out;go_wp2_with fail
  refine (C1.out _ (Below.refl _ _)).mono ?_;rintro e w2 ⟨rfl,hb⟩;have HB:=hid (HW.out.trans (hb.mono HW.out.size));clear hb;go_wp2;go_ret;exact ⟨rfl,HB.out⟩
 have e0:(i==0)=false:=by simp;exact h0
 by_cases h1:i=-1∨i=1
 ·have hef:efB i s f n g m=(rfB s f n g m && decide (n=0)):=by
   rcases h1 with rfl | rfl <;> simp [efB]
  rw [hef];clear hef h0 C1;generalize (rfB s f n g m && decide (n=0))=p at *;rcases h1 with rfl | rfl
  all_goals
   go_enter Tryz.func125,Tryz.ntmps125;go_upto_region 1 with fail
   generalize w.alloc _=w1 at *;obtain ⟨z,x0,x1,x2,x3⟩:=BX.out;go_wp2_with fail
   go_region_held3 (fun w'=>w'.cell? ⟨w.heap.size,1,none⟩=some (.bool s)∧w'.cell? ⟨w.heap.size,2,none⟩=some (.slice x n c)∧w'.cell? ⟨w.heap.size,3,none⟩=some (.slice y m d))
    (refine ⟨?_,?_,?_⟩ <;> repeat (with_reducible first | assumption | refine kCd ?_ | refine kCb (by assumption) ?_))
    (first
     | (go_at_call 81;with_reducible refine (CZ.out _).mono ?_;rintro e v5 ⟨s5,x5,n5,c5,d5,y5,m5,e5,g5,rfl,hb5,H5⟩)
     | (go_at_call 54;with_reducible refine (CT.out _ s5 x5 n5 c5 d5 y5 m5 e5 g5 H5.out.1 H5.out.2.1 (by repeat (with_reducible first | exact H5.out.2.2 | refine kQd ?_ | refine kQb (by assumption) ?_))).mono ?_;rintro e v6 ⟨x6,n6,c6,f6,y6,m6,d6,g6,rfl,hb6,H6⟩)
     | (go_at_call 24;with_reducible refine (CS.out _ s5 x6 n6 c6 f6 y6 m6 d6 g6 belB (by repeat (with_reducible first | exact H6.out | refine kRnd ?_ | refine kRnb (by assumption) ?_))).mono ?_;rintro e v7 ⟨rfl,hb7⟩))
   all_goals
    have hb:Below w1.heap.size w1 v7:=belB;have HB:=hid (HW.out.trans (hb.mono HW.out.size));clear hb;go_wp2;go_ret;exact ⟨rfl,HB.out⟩
 ·have e1:(i == -1)=false:=by simp;omega
  have e2:(i==1)=false:=by simp;omega
  have hef:efB i s f n g m=false:=by
   simp [efB];omega
  rw [hef];clear hef h0 h1 C1 CZ CT CS;go_enter Tryz.func125,Tryz.ntmps125;go_upto_region 1 with fail
  generalize w.alloc (.cells #[.int .i64 i,.bool s,.slice x n c,.slice y m d] 42)=w1 at *;obtain ⟨z,x0,x1,x2,x3⟩:=BX.out;go_wp2;go_ret;exact ⟨rfl,HW.out⟩
set_option maxRecDepth 100000 in
set_option maxHeartbeats 4000000 in
theorem xCmpV_c {w:World} {i1:Int} {s1:Bool} {x1:Option Addr} {n1 c1:Nat} {f1:Nat→Int} {y1:Option Addr} {m1 d1:Nat} {g1:Nat→Int} {i2:Int} {s2:Bool} {x2:Option Addr} {n2 c2:Nat} {f2:Nat→Int} {y2:Option Addr} {m2 d2:Nat} {g2:Nat→Int} {qa qb:Rat} (ha:Fn w i1 s1 x1 n1 f1 y1 m1 g1 qa) (hb:Fn w i2 s2 x2 n2 f2 y2 m2 g2 qb) (hn1:n1+m2≤250000) (hm1:n2+m1≤250000) (hn2:m1+m2≤250000) :
  Calls Tryz.prog 162 #[.agg #[.int .i64 i1,.bool s1,.slice x1 n1 c1,.slice y1 m1 d1],.agg #[.int .i64 i2,.bool s2,.slice x2 n2 c2,.slice y2 m2 d2]] w fun e w'=>∃r,e=.returned (.int .i64 r)∧Below w.heap.size w w'∧Hid (EOrd r i1 qa i2 qb):=by
 have h1:=(bx4_at w (.int .i64 i1) (.bool s1) (.slice x1 n1 c1) (.slice y1 m1 d1) 103).alloc (.cells #[.int .i64 i2,.bool s2,.slice x2 n2 c2,.slice y2 m2 d2] 103);have h2:=bx4_at (w.alloc (.cells #[.int .i64 i1,.bool s1,.slice x1 n1 c1,.slice y1 m1 d1] 103)) (.int .i64 i2) (.bool s2) (.slice x2 n2 c2) (.slice y2 m2 d2) 103;rw [size_alloc1] at h2;have h3:=below_alloc (below_alloc (Below.refl w.heap.size w) (.cells #[.int .i64 i1,.bool s1,.slice x1 n1 c1,.slice y1 m1 d1] 103)) (.cells #[.int .i64 i2,.bool s2,.slice x2 n2 c2,.slice y2 m2 d2] 103);have HA:=hid (ha.below h3);have HB:=hid (hb.below h3)
 clear ha hb;rcases Int.lt_trichotomy i1 i2 with hlt | heq | hgt
 ·have hd1:decide (i1<i2)=true:=decide_eq_true hlt;have HL:=hid hlt;clear hlt;go_enter Tryz.func162,Tryz.ntmps162;go_upto_region 1 with fail
  generalize (w.alloc (.cells #[.int .i64 i1,.bool s1,.slice x1 n1 c1,.slice y1 m1 d1] 103)).alloc (.cells #[.int .i64 i2,.bool s2,.slice x2 n2 c2,.slice y2 m2 d2] 103)=w1 at *;have HW:=hid h3;obtain ⟨za,a0,a1,a2,a3⟩:=h1;obtain ⟨zb,b0,b1,b2,b3⟩:=h2;clear h3;go_wp2;go_ret;exact ⟨-1,rfl,HW.out,.inl ⟨rfl,.inl HL.out⟩⟩
 ·subst heq;have hd1:decide (i1<i1)=false:=decide_eq_false (by omega);by_cases h0:i1=0
  ·subst h0;go_enter Tryz.func162,Tryz.ntmps162;go_upto_region 1 with fail
   generalize (w.alloc (.cells #[.int .i64 0,.bool s1,.slice x1 n1 c1,.slice y1 m1 d1] 103)).alloc (.cells #[.int .i64 0,.bool s2,.slice x2 n2 c2,.slice y2 m2 d2] 103)=w1 at *;have HW:=hid h3;obtain ⟨za,a0,a1,a2,a3⟩:=h1;obtain ⟨zb,b0,b1,b2,b3⟩:=h2;clear h3;go_wp2_with fail
   refine (qCmpW_c HA.out.qn HB.out.qn (by omega) (by omega) (by omega)).mono ?_;rintro e w2 ⟨r,rfl,hb,hr⟩;have HBl:=hid (HW.out.trans (hb.mono HW.out.size));have HRr:=hid hr
   clear hb hr;go_wp2;go_ret;refine ⟨r,rfl,HBl.out,?_⟩;rcases HRr.out with ⟨k1,k2⟩ | ⟨k1,k2⟩ | ⟨k1,k2⟩
   ·exact .inl ⟨k1,.inr ⟨rfl,k2⟩⟩
   ·exact .inr (.inl ⟨k1,rfl,k2⟩)
   ·exact .inr (.inr ⟨k1,.inr ⟨rfl,k2⟩⟩)
  ·have e0:(i1 != 0)=true:=by simp;exact h0
   have HQ:Hid (qa=qb):=by
    have k1:=HA.out.inf;have k2:=HB.out.inf
    show qa=qb;rcases k1 with k1 | k1
    ·exact absurd k1 h0
    ·rcases k2 with k2 | k2
     ·exact absurd k2 h0
     ·rw [k1.2,k2.2]
   clear h0;go_enter Tryz.func162,Tryz.ntmps162;go_upto_region 1 with fail
   generalize (w.alloc (.cells #[.int .i64 i1,.bool s1,.slice x1 n1 c1,.slice y1 m1 d1] 103)).alloc (.cells #[.int .i64 i1,.bool s2,.slice x2 n2 c2,.slice y2 m2 d2] 103)=w1 at *;have HW:=hid h3;obtain ⟨za,a0,a1,a2,a3⟩:=h1;obtain ⟨zb,b0,b1,b2,b3⟩:=h2;clear h3;go_wp2;go_ret;exact ⟨0,rfl,HW.out,.inr (.inl ⟨rfl,rfl,HQ.out⟩)⟩
 ·have hd1:decide (i1<i2)=false:=decide_eq_false (by omega);have hd2:decide (i2<i1)=true:=decide_eq_true hgt;have HL:=hid hgt;clear hgt;go_enter Tryz.func162,Tryz.ntmps162;go_upto_region 1 with fail
  generalize (w.alloc (.cells #[.int .i64 i1,.bool s1,.slice x1 n1 c1,.slice y1 m1 d1] 103)).alloc (.cells #[.int .i64 i2,.bool s2,.slice x2 n2 c2,.slice y2 m2 d2] 103)=w1 at *;have HW:=hid h3;obtain ⟨za,a0,a1,a2,a3⟩:=h1;obtain ⟨zb,b0,b1,b2,b3⟩:=h2;clear h3;go_wp2;go_ret;exact ⟨1,rfl,HW.out,.inr (.inr ⟨rfl,.inl HL.out⟩)⟩
theorem xCmpW_c {w:World} {i1:Int} {s1:Bool} {x1:Option Addr} {n1 c1:Nat} {f1:Nat→Int} {y1:Option Addr} {m1 d1:Nat} {g1:Nat→Int} {i2:Int} {s2:Bool} {x2:Option Addr} {n2 c2:Nat} {f2:Nat→Int} {y2:Option Addr} {m2 d2:Nat} {g2:Nat→Int} {qa qb:Rat} (ha:Fn w i1 s1 x1 n1 f1 y1 m1 g1 qa) (hb:Fn w i2 s2 x2 n2 f2 y2 m2 g2 qb) (hn1:n1≤16000) (hm1:m1≤16000) (hn2:n2≤16000) (hm2:m2≤16000) :
  Calls Tryz.prog 162 #[.agg #[.int .i64 i1,.bool s1,.slice x1 n1 c1,.slice y1 m1 d1],.agg #[.int .i64 i2,.bool s2,.slice x2 n2 c2,.slice y2 m2 d2]] w fun e w'=>∃r,e=.returned (.int .i64 r)∧Below w.heap.size w w'∧Hid (EOrd r i1 qa i2 qb):=xCmpV_c ha hb (by omega) (by omega) (by omega)
structure Li2 (w:World) (B:Nat) (a0 a1 a2 a3 b0 b1 b2 b3:Value):Prop where
 z:B<w.heap.size
 x0:w.cell? ⟨B,0,none⟩=some a0
 x1:w.cell? ⟨B,1,none⟩=some a1
 x2:w.cell? ⟨B,2,none⟩=some a2
 x3:w.cell? ⟨B,3,none⟩=some a3
 y0:w.cell? ⟨B,4,none⟩=some b0
 y1:w.cell? ⟨B,5,none⟩=some b1
 y2:w.cell? ⟨B,6,none⟩=some b2
 y3:w.cell? ⟨B,7,none⟩=some b3
theorem Li2.below {w w' B a0 a1 a2 a3 b0 b1 b2 b3} (h:Li2 w B a0 a1 a2 a3 b0 b1 b2 b3) (hb:Below w.heap.size w w'):Li2 w' B a0 a1 a2 a3 b0 b1 b2 b3:=⟨Nat.lt_of_lt_of_le h.z hb.size,kCb hb h.x0,kCb hb h.x1,kCb hb h.x2,kCb hb h.x3,kCb hb h.y0,kCb hb h.y1,kCb hb h.y2,kCb hb h.y3⟩
theorem li2_at (w:World) (a0 a1 a2 a3 b0 b1 b2 b3:Value) (t:TypeId):Li2 (w.alloc (.cells #[a0,a1,a2,a3,b0,b1,b2,b3] t)) w.heap.size a0 a1 a2 a3 b0 b1 b2 b3:=⟨by simp,by simp [go_sem],by simp [go_sem],by simp [go_sem],by simp [go_sem],by simp [go_sem],by simp [go_sem],by simp [go_sem],by simp [go_sem]⟩
set_option maxRecDepth 100000 in
set_option maxHeartbeats 4000000 in
theorem allForm2_c {w:World} {i1:Int} {s1:Bool} {x1:Option Addr} {n1 c1:Nat} {f1:Nat→Int} {y1:Option Addr} {m1 d1:Nat} {g1:Nat→Int} {i2:Int} {s2:Bool} {x2:Option Addr} {n2 c2:Nat} {f2:Nat→Int} {y2:Option Addr} {m2 d2:Nat} {g2:Nat→Int} {B:Nat} (hB:Li2 w B (.int .i64 i1) (.bool s1) (.slice x1 n1 c1) (.slice y1 m1 d1) (.int .i64 i2) (.bool s2) (.slice x2 n2 c2) (.slice y2 m2 d2)) (h1:Rw w x1 n1 c1 f1 y1 m1 d1 g1) (h2:Rw w x2 n2 c2 f2 y2 m2 d2 g2) (hn1:n1≤4096) (hm1:m1≤4096) (hn2:n2≤4096) (hm2:m2≤4096) :
  Calls Tryz.prog 114 #[.slice (some ⟨B,0,none⟩) 2 2] w fun e w'=>e=.returned (.bool (efB i1 s1 f1 n1 g1 m1 && efB i2 s2 f2 n2 g2 m2))∧Below w.heap.size w w':=by
 have HB:=hid hB;have HR1:=hid h1;have HR2:=hid h2
 obtain ⟨p,hp⟩:∃p,efB i1 s1 f1 n1 g1 m1=p:=⟨_,rfl⟩;obtain ⟨q,hq⟩:∃p,efB i2 s2 f2 n2 g2 m2=p:=⟨_,rfl⟩;have HP:=hid hp;have HQ:=hid hq
 rw [hp,hq];clear hB h1 h2 hp hq;go_enter Tryz.func114,Tryz.ntmps114;go_wp2;go_loopw [7] (fun t wr=>∃k:Nat,k≤2∧t=.int .i64 k∧Hid (Below w.heap.size w wr∧(0<k→p=true)∧(1<k→q=true))) (fun t _=>2-(intOf t).toNat)
 case atStart=>exact ⟨0,by omega,rfl,Below.refl _ _,fun h=>by omega,fun h=>by omega⟩
 case round =>
  obtain ⟨k,hk,rfl,HI⟩:=hrel;have HBr:=hid HI.out.1;rcases (show k=0∨k=1∨k=2 by omega) with rfl | rfl | rfl
  ·obtain ⟨z,e0,e1,e2,e3,_,_,_,_⟩:=HB.out.below HBr.out;have c1:=eForm_c (i:=i1) (s:=s1) ((HR1.out.below HBr.out).alloc (.cells #[.int .i64 i1,.bool s1,.slice x1 n1 c1,.slice y1 m1 d1] 42)) hn1 hm1;rw [HP.out] at c1;have C1:=hid c1;clear c1;cases p
   ·go_wp2_with fail
    refine C1.out.mono ?_;rintro e w2 ⟨rfl,hb⟩;have HW:=hid ((below_alloc HBr.out _).trans (hb.mono (below_alloc HBr.out _).size));clear hb;go_wp2;go_ret;exact ⟨rfl,HW.out⟩
   ·go_wp2_with fail
    refine C1.out.mono ?_;rintro e w2 ⟨rfl,hb⟩;have HW:=hid ((below_alloc HBr.out _).trans (hb.mono (below_alloc HBr.out _).size));clear hb;go_wp2;go_roundw
    case rel=>exact ⟨1,by omega,by go_num,HW.out,by simp,by simp⟩
    case measure=>simp [intOf]
  ·obtain ⟨z,_,_,_,_,e0,e1,e2,e3⟩:=HB.out.below HBr.out;have hpt:=HI.out.2.1 (by omega);subst hpt;have c1:=eForm_c (i:=i2) (s:=s2) ((HR2.out.below HBr.out).alloc (.cells #[.int .i64 i2,.bool s2,.slice x2 n2 c2,.slice y2 m2 d2] 42)) hn2 hm2;rw [HQ.out] at c1;have C1:=hid c1;clear c1;cases q
   ·go_wp2_with fail
    refine C1.out.mono ?_;rintro e w2 ⟨rfl,hb⟩;have HW:=hid ((below_alloc HBr.out _).trans (hb.mono (below_alloc HBr.out _).size));clear hb;go_wp2;go_ret;exact ⟨rfl,HW.out⟩
   ·go_wp2_with fail
    refine C1.out.mono ?_;rintro e w2 ⟨rfl,hb⟩;have HW:=hid ((below_alloc HBr.out _).trans (hb.mono (below_alloc HBr.out _).size));clear hb;go_wp2;go_roundw
    case rel=>exact ⟨2,by omega,by go_num,HW.out,by simp,by simp⟩
    case measure=>simp [intOf]
  ·have hpt:=HI.out.2.1 (by omega);have hqt:=HI.out.2.2 (by omega);subst hpt hqt;go_wp2;go_ret;exact ⟨rfl,HBr.out⟩
def OC (p:Bool) (i:Int) (a:Rat) (j:Int) (b:Rat) (r er:Int):Prop:=p=false∧er=3∧r=0∨p=true∧er=0∧EOrd r i a j b
def nq (t:Nm):Rat:=mkRat (wv t.s t.f t.n) (wv false t.g t.m).toNat
theorem Rn.nq {L w q} {t:Nm} (h:Rn L w t.s t.x t.n t.c t.f t.y t.m t.d t.g q):nq t=q:=by
 unfold Go.Proofs.YtdbbncamlaiajaaGreat.nq;rw [h.num.val,h.den.val,Int.toNat_natCast,Rat.mkRat_self]
def abvB (a b:Ex):Bool:=decide (b.i<a.i) || (decide (a.i=b.i) && decide (nq b.v<nq a.v))
theorem NmS.en {w:World} {e:Ex} (h:NmS w e.v) (hf:exF e=true) (hn:e.v.n≤100) (hm:e.v.m≤100):En 100 w e.i e.v.s e.v.x e.v.n e.v.c e.v.f e.v.y e.v.m e.v.d e.v.g (nq e.v):=by
 obtain ⟨q,hq⟩:=h.1.en hf hn hm;rw [hq.rn.nq];exact hq
theorem Tryz.infoInt:(Tryz.prog.info? 3).map (fun i=>(i.zero,i.size,i.bytes))=some (some (.int .i64 0),1,8):=by kernel_rfl
theorem onei (s:Int):∀u ∈ (#[Value.int .i64 s]:Array Value).toList,u.oneCell'=true:=by
 intro u hu;simp at hu;subst hu;rfl
theorem noti (s:Int):∀u ∈ (#[Value.int .i64 s]:Array Value).toList,∀q,u≠.int .u64 q:=by
 intro u hu q;simp at hu;subst hu;simp
theorem nzi:NoU (Value.int .i64 0).cells:=nou_list (l:=[Value.int .i64 0]) (noti 0)
def Il (w:World) (ao:Option Addr) (l:List Int):Prop:=∀j v,l[j]?=some v→∃b o,ao=some ⟨b,o,none⟩∧w.cell? ⟨b,o+j,none⟩=some (.int .i64 v)
theorem Il.below {w w' ao l} (h:Il w ao l) (hb:Below w.heap.size w w'):Il w' ao l:=fun j v e=>by
 obtain ⟨b,o,e1,h1⟩:=h j v e;exact ⟨b,o,e1,kCb hb h1⟩
def ils (l:List Int):List Value:=l.map (Value.int .i64)
theorem rowg_il {e:TypeId} {base:Nat} {w:World} {ao:Option Addr} {cap:Nat} {l:List Int} (h:RowG e 1 base w (.slice ao l.length cap) l.length (ils l)):Il w ao l:=fun j v hj=>by
 have hlt:j<l.length:=(List.getElem?_eq_some_iff.1 hj).1;rcases h.2 with ⟨hv,h0⟩ | ⟨g,cap',cur,hv,_⟩
 ·omega
 ·cases hv
  refine ⟨g,0,rfl,?_⟩;rw [Nat.zero_add];exact h.cells (by simp [ils,hj])
def crl (B:Nat→Bool):Nat→List Int
 | 0=>[]
 | i+1=>crl B i++(if B i then [(i:Int)] else [])
theorem crl_len (B:Nat→Bool):∀i,(crl B i).length≤i
 | 0=>Nat.le_refl _
 | i+1=>by
  have:=crl_len B i;unfold crl;rw [List.length_append]
  split <;> simp <;> omega
theorem crl_yes {B:Nat→Bool} {i:Nat} (h:B i=true):crl B (i+1)=crl B i++[(i:Int)]:=by simp [crl,h]
theorem crl_no {B:Nat→Bool} {i:Nat} (h:B i=false):crl B (i+1)=crl B i:=by simp [crl,h]
def ccB (C:Nat→Lc) (j:Nat):Bool:=abvB (C j).lo (C j).hi
def rcB (R:Nat→Lr) (j:Nat):Bool:=abvB (R j).lo (R j).hi
theorem clsB_at {C:Nat→Lc}:∀{r i:Nat},clsB C r i=true→∀j,i≤j→j<i+r→nfB (C j).cost=true∧abB (C j).lo (C j).hi=true
 | 0,i,_,j,h1,h2=>by omega
 | r+1,i,h,j,h1,h2=>by
  simp only [clsB,Bool.and_eq_true] at h;by_cases e:j=i
  ·subst e;exact ⟨h.1,h.2.1⟩
  ·exact clsB_at h.2.2 j (by omega) (by omega)
theorem rlsB_at {R:Nat→Lr}:∀{r i:Nat},rlsB R r i=true→∀j,i≤j→j<i+r→abB (R j).lo (R j).hi=true∧tfB (R j).tk (R j).col (R j).T=true
 | 0,i,_,j,h1,h2=>by omega
 | r+1,i,h,j,h1,h2=>by
  simp only [rlsB,Bool.and_eq_true] at h;by_cases e:j=i
  ·subst e;exact ⟨h.1,h.2.1⟩
  ·exact rlsB_at h.2.2 j (by omega) (by omega)
theorem abB_ok {a b:Ex} (h:abB a b=true):exF a=true∧exF b=true∧a.i≠1∧b.i ≠ -1:=by
 simp only [abB,Bool.and_eq_true,decide_eq_true_eq] at h;exact ⟨h.1,h.2.1,h.2.2.1,h.2.2.2⟩
def eqs (f g:Nat→Int):Nat→Nat→Bool
 | 0,_=>true
 | r+1,i=>decide (f i=g i) && eqs f g r (i+1)
def eqlB (n m:Nat) (f g:Nat→Int):Bool:=decide (n=m) && eqs f g n 0
def sqB (a b:Nm):Bool:=decide (a.s=b.s) && (eqlB a.n b.n a.f b.f && eqlB a.m b.m a.g b.g)
set_option maxRecDepth 100000 in
set_option maxHeartbeats 2000000 in
theorem equalU_c {w:World} {x y:Option Addr} {n m c d:Nat} {f g:Nat→Int} (hx:Rd .u64 w x n f) (hy:Rd .u64 w y m g) (hn:n≤1048576) (hm:m≤1048576) :
  Calls Tryz.prog 84 #[.slice x n c,.slice y m d] w fun e w'=>e=.returned (.bool (eqlB n m f g))∧Below w.heap.size w w':=by
 have HX:=hid hx;have HY:=hid hy
 clear hx hy;by_cases hnm:n=m
 case neg =>
  have HE:=hid (show eqlB n m f g=false from by simp [eqlB,hnm]);have e1:((n:Int) != (m:Int))=true:=by simp;omega
  clear hnm;go_enter Tryz.func84,Tryz.ntmps84;go_wp2;go_ret;refine ⟨?_,Below.refl _ _⟩;rw [HE.out];rfl
 subst hnm;have HE:=hid (show eqlB n n f g=eqs f g n 0 from by simp [eqlB]);have e1:((n:Int) != (n:Int))=false:=by simp
 go_enter Tryz.func84,Tryz.ntmps84;go_wp2_with fail
 go_loopw [13] (fun t wr=>∃(i:Nat),i≤n∧t=.int .i64 i∧Hid (Below w.heap.size w wr)∧Hid (eqlB n n f g=eqs f g (n-i) i)) (fun t _=>n-(intOf t).toNat)
 case atStart=>exact ⟨0,by omega,rfl,Below.refl _ _,HE.out⟩
 case round =>
  obtain ⟨i,hi,rfl,HB,HI⟩:=hrel;by_cases hlt:i<n
  ·obtain ⟨b,o,rfl,hc⟩:=(HX.out.below HB.out (Nat.le_refl _)) i hlt;obtain ⟨b2,o2,rfl,hc2⟩:=(HY.out.below HB.out (Nat.le_refl _)) i hlt;obtain ⟨r,hr⟩:∃r,n-i=r+1:=⟨n-i-1,by omega⟩;have hT:eqlB n n f g=(decide (f i=g i) && eqs f g r (i+1)):=by rw [HI.out,hr];rfl
   have hr2:n-(i+1)=r:=by omega
   obtain ⟨u,hu⟩:∃u,f i=u:=⟨_,rfl⟩;obtain ⟨v,hv⟩:∃v,g i=v:=⟨_,rfl⟩;rw [hu,hv] at hT;rw [hu] at hc;rw [hv] at hc2;have HT:=hid hT;have HR:=hid hr2
   have i1:((i:Nat):Int)<((n:Nat):Int):=by omega
   clear hT hr2 hr hu hv;by_cases huv:u=v
   ·subst huv;have e2:(u != u)=false:=by simp
    go_upto_region 6 with fail
    have k1:wr.drew.cell? ⟨b,o+i,none⟩=some (.int .u64 u):=hc;have k2:wr.drew.cell? ⟨b2,o2+i,none⟩=some (.int .u64 u):=hc2
    go_quiet (fail)
    go_wp2;go_roundw
    case rel =>
     refine ⟨i+1,by omega,by go_num,(below_drewN HB.out _),?_⟩;show _=_;rw [HT.out,HR.out];simp
    case measure=>simp [intOf];omega
   ·have e2:(u != v)=true:=by simp [huv]
    go_upto_region 6 with fail
    have k1:wr.drew.cell? ⟨b,o+i,none⟩=some (.int .u64 u):=hc;have k2:wr.drew.cell? ⟨b2,o2+i,none⟩=some (.int .u64 v):=hc2
    go_quiet (fail)
    go_wp2;go_ret;refine ⟨?_,(below_drewN HB.out _)⟩;rw [HT.out];simp [huv]
  ·have e1:i=n:=by omega
   have HE:Hid (eqlB n n f g=true):=by show _=_;rw [HI.out,e1,Nat.sub_self];rfl
   have i2:¬(((i:Nat):Int)<((n:Nat):Int)):=by omega
   clear e1 HI;go_wp2;go_ret;refine ⟨?_,HB.out⟩;rw [HE.out];rfl
def Lc.val (c:Lc):Value:=.agg c.vs.toArray
def eqf {α:Type} (e:α→α→Bool) (X Y:Nat→α):Nat→Nat→Bool
 | 0,_=>true
 | r+1,i=>e (X i) (Y i) && eqf e X Y r (i+1)
def eqfB {α:Type} (e:α→α→Bool) (n m:Nat) (X Y:Nat→α):Bool:=decide (n=m) && eqf e X Y n 0
def Ex.vs (e:Ex):List Value:=[.int .i64 e.i,.bool e.v.s,.slice e.v.x e.v.n e.v.c,.slice e.v.y e.v.m e.v.d]
def Lr.val (c:Lr):Value:=.agg c.vs.toArray
def lstep (l e:Int):Int:=if l=0∨e≠0∧e<l then e else l
def lsf (E:Nat→Int):Nat→Int
 | 0=>0
 | i+1=>lstep (lsf E i) (E i)
def El (w:World) (ao:Option Addr) (k:Nat) (E:Nat→Int):Prop:=∀j,j<k→∃b o,ao=some ⟨b,o,none⟩∧w.cell? ⟨b,o+j,none⟩=some (.int .i64 (E j))
set_option maxRecDepth 100000 in
set_option maxHeartbeats 2000000 in
theorem least_c {w:World} {ao:Option Addr} {k cap:Nat} {E:Nat→Int} (h:El w ao k E) (hk:k≤1048576) :
  Calls Tryz.prog 27 #[.slice ao k cap] w fun e w'=>e=.returned (.int .i64 (lsf E k))∧w'=w:=by
 have H:=hid h;clear h;go_enter Tryz.func27,Tryz.ntmps27;go_wp2_with fail
 go_loopw [3,8] (fun l t wr=>∃(i:Nat) (v:Int),i≤k∧t=.int .i64 i∧l=.int .i64 v∧wr=w∧Hid (lsf E i=v)) (fun _ t _=>k-(intOf t).toNat)
 case atStart=>exact ⟨0,0,by omega,rfl,rfl,rfl,rfl⟩
 case round =>
  obtain ⟨i,v,hi,rfl,rfl,rfl,HI⟩:=hrel;by_cases hlt:i<k
  ·obtain ⟨b,o,rfl,hc⟩:=H.out i hlt;obtain ⟨e,he⟩:∃e,E i=e:=⟨_,rfl⟩;have hT:lsf E (i+1)=lstep v e:=by show lstep (lsf E i) (E i)=_;rw [HI.out,he]
   rw [he] at hc;have i1:((i:Nat):Int)<((k:Nat):Int):=by omega
   clear he;by_cases h0:v=0
   ·subst h0;have HT:=hid (show lsf E (i+1)=e from by rw [hT];simp [lstep]);clear hT;go_wp2;go_roundw
    case rel=>exact ⟨i+1,e,by omega,by go_num,rfl,trivial,HT.out⟩
    case measure=>simp [intOf];omega
   ·have e0:(v==0)=false:=by simpa using h0
    by_cases h1:e=0
    ·subst h1;have HT:=hid (show lsf E (i+1)=v from by rw [hT];simp [lstep,h0]);clear hT;go_wp2;go_roundw
     case rel=>exact ⟨i+1,v,by omega,by go_num,rfl,trivial,HT.out⟩
     case measure=>simp [intOf];omega
    ·have e2:(e != 0)=true:=by simp [h1]
     by_cases h2:e<v
     ·have HT:=hid (show lsf E (i+1)=e from by rw [hT];simp [lstep,h1,h2]);clear hT;go_wp2;go_roundw
      case rel=>exact ⟨i+1,e,by omega,by go_num,rfl,trivial,HT.out⟩
      case measure=>simp [intOf];omega
     ·have HT:=hid (show lsf E (i+1)=v from by rw [hT];simp [lstep,h0,h2]);clear hT;go_wp2;go_roundw
      case rel=>exact ⟨i+1,v,by omega,by go_num,rfl,trivial,HT.out⟩
      case measure=>simp [intOf];omega
  ·have e1:i=k:=by omega
   have i2:¬(((i:Nat):Int)<((k:Nat):Int)):=by omega
   rw [e1] at HI;clear e1;go_wp2;go_ret;refine ⟨?_,rfl⟩;rw [HI.out];rfl
set_option maxRecDepth 100000 in
set_option maxHeartbeats 2000000 in
theorem fLeast_c {w:World} {ao:Option Addr} {k cap:Nat} {E:Nat→Int} (h:El w ao k E) (hk:k≤1048576) :
  Calls Tryz.prog 71 #[.slice ao k cap] w fun e w'=>e=.returned (.int .i64 (lsf E k))∧w'=w:=by
 have H:=hid h;clear h;go_enter Tryz.func71,Tryz.ntmps71;go_wp2_with fail
 go_loopw [3,8] (fun l t wr=>∃(i:Nat) (v:Int),i≤k∧t=.int .i64 i∧l=.int .i64 v∧wr=w∧Hid (lsf E i=v)) (fun _ t _=>k-(intOf t).toNat)
 case atStart=>exact ⟨0,0,by omega,rfl,rfl,rfl,rfl⟩
 case round =>
  obtain ⟨i,v,hi,rfl,rfl,rfl,HI⟩:=hrel;by_cases hlt:i<k
  ·obtain ⟨b,o,rfl,hc⟩:=H.out i hlt;obtain ⟨e,he⟩:∃e,E i=e:=⟨_,rfl⟩;have hT:lsf E (i+1)=lstep v e:=by show lstep (lsf E i) (E i)=_;rw [HI.out,he]
   rw [he] at hc;have i1:((i:Nat):Int)<((k:Nat):Int):=by omega
   clear he;by_cases h0:v=0
   ·subst h0;have HT:=hid (show lsf E (i+1)=e from by rw [hT];simp [lstep]);clear hT;by_cases h9:e=0
    ·subst h9;go_wp2;go_roundw
     case rel=>exact ⟨i+1,0,by omega,by go_num,rfl,trivial,HT.out⟩
     case measure=>simp [intOf];omega
    ·have e9:(e != 0)=true:=by simp [h9]
     go_wp2;go_roundw
     case rel=>exact ⟨i+1,e,by omega,by go_num,rfl,trivial,HT.out⟩
     case measure=>simp [intOf];omega
   ·have e0:(v==0)=false:=by simpa using h0
    by_cases h1:e=0
    ·subst h1;have HT:=hid (show lsf E (i+1)=v from by rw [hT];simp [lstep,h0]);clear hT;go_wp2;go_roundw
     case rel=>exact ⟨i+1,v,by omega,by go_num,rfl,trivial,HT.out⟩
     case measure=>simp [intOf];omega
    ·have e2:(e != 0)=true:=by simp [h1]
     by_cases h2:e<v
     ·have HT:=hid (show lsf E (i+1)=e from by rw [hT];simp [lstep,h1,h2]);clear hT;go_wp2;go_roundw
      case rel=>exact ⟨i+1,e,by omega,by go_num,rfl,trivial,HT.out⟩
      case measure=>simp [intOf];omega
     ·have HT:=hid (show lsf E (i+1)=v from by rw [hT];simp [lstep,h0,h2]);clear hT;go_wp2;go_roundw
      case rel=>exact ⟨i+1,v,by omega,by go_num,rfl,trivial,HT.out⟩
      case measure=>simp [intOf];omega
  ·have e1:i=k:=by omega
   have i2:¬(((i:Nat):Int)<((k:Nat):Int)):=by omega
   rw [e1] at HI;clear e1;go_wp2;go_ret;refine ⟨?_,rfl⟩;rw [HI.out];rfl
def two (a b:Int) (j:Nat):Int:=if j=0 then a else b
theorem two_el {w:World} {a b:Int} {t:TypeId}:El (w.alloc (.cells #[.int .i64 a,.int .i64 b] t)) (some ⟨w.heap.size,0,none⟩) 2 (two a b):=fun j hj=>by
 refine ⟨_,0,rfl,?_⟩
 match j,hj with
 | 0,_=>simp [go_sem,two]
 | 1,_=>simp [go_sem,two]
theorem two_zero {a b:Int} (h:lsf (two a b) 2=0):a=0∧b=0:=by
 have h':lstep (lstep 0 a) b=0:=h;have e:lstep 0 a=a:=by simp [lstep]
 rw [e] at h';unfold lstep at h'
 split at h' <;> omega
set_option maxRecDepth 100000 in
set_option maxHeartbeats 4000000 in
theorem fName_c {w:World} {s:ByteArray} (hs:s.size≤9223372036854775807):Calls Tryz.prog 89 #[.string s] w fun e w'=>e=.returned (.bool (isNm s))∧w'=w:=by
 by_cases h1:1≤s.size
 case neg =>
  have HL:Hid (isNm s=false):=by show _=_;simp [isNm,h1]
  have e0:(s.size:Int)<1:=by omega
  clear h1;go_enter Tryz.func89,Tryz.ntmps89;go_wp2;go_ret;refine ⟨?_,rfl⟩;rw [HL.out];rfl
 by_cases h2:s.size≤16
 case neg =>
  have HL:Hid (isNm s=false):=by show _=_;simp [isNm,h2]
  have e0:¬(s.size:Int)<1:=by omega
  have e1:(s.size:Int) > 16:=by omega
  clear h1 h2;go_enter Tryz.func89,Tryz.ntmps89;go_wp2;go_ret;refine ⟨?_,rfl⟩;rw [HL.out];rfl
 have h0:0<s.size:=by omega
 obtain ⟨x,hx⟩:∃x:Int,((s[0]'h0).toNat:Int)=x:=⟨_,rfl⟩;have hb0:bt s 0=x:=by rw [←hx];simp [bt,h0]
 have e0:¬(s.size:Int)<1:=by omega
 have e1:¬(s.size:Int) > 16:=by omega
 by_cases ha:x<97
 ·have HL:Hid (isNm s=false):=by show _=_;simp [isNm,hb0,lett];omega
  clear h1 h2 hb0;go_enter Tryz.func89,Tryz.ntmps89;go_wp2;go_ret;refine ⟨?_,rfl⟩;rw [HL.out];rfl
 by_cases hz:x > 122
 ·have HL:Hid (isNm s=false):=by show _=_;simp [isNm,hb0,lett];omega
  clear h1 h2 hb0;go_enter Tryz.func89,Tryz.ntmps89;go_wp2;go_ret;refine ⟨?_,rfl⟩;rw [HL.out];rfl
 have HL:Hid (isNm s=nchs s s.size 0):=by
  have:lett x=true:=by simp [lett];omega
  show _=_;simp [isNm,hb0,this,h1,h2]
 clear h1 h2 hb0;go_enter Tryz.func89,Tryz.ntmps89;go_wp2_with fail
 go_loopw [3] (fun t wr=>∃(i:Nat),i≤s.size∧t=.int .i64 i∧wr=w∧Hid (isNm s=nchs s (s.size-i) i)) (fun t _=>s.size-(intOf t).toNat)
 case atStart=>exact ⟨0,by omega,rfl,rfl,HL.out⟩
 case round =>
  obtain ⟨i,hi,rfl,rfl,HI⟩:=hrel;by_cases hlt:i<s.size
  ·obtain ⟨z,hz'⟩:∃z:Int,((s[i]'hlt).toNat:Int)=z:=⟨_,rfl⟩;have hbi:bt s i=z:=by rw [←hz'];simp [bt,hlt]
   obtain ⟨r,hr⟩:∃r,s.size-i=r+1:=⟨s.size-i-1,by omega⟩;have hT:isNm s=(nchr z && nchs s r (i+1)):=by rw [HI.out,hr];show (nchr (bt s i) && _)=_;rw [hbi]
   have hr2:s.size-(i+1)=r:=by omega
   have HT:=hid hT;have HR:=hid hr2
   have i1:((i:Nat):Int)<((s.size:Nat):Int):=by omega
   clear hT hr2 hr hbi;by_cases c1:z ≥ 97
   ·by_cases c2:z≤122
    ·have HN:Hid (nchr z=true):=by show _=_;simp [nchr,lett];omega
     go_wp2;go_roundw
     case rel =>
      refine ⟨i+1,by omega,by go_num,trivial,?_⟩;show _=_;rw [HT.out,HN.out,HR.out];rfl
     case measure=>simp [intOf];omega
    ·have HN:Hid (nchr z=false):=by show _=_;simp [nchr,lett,digt];omega
     have c3:z ≥ 48:=by omega
     have c4:¬z≤57:=by omega
     have c5:(z==95)=false:=by simp;omega
     go_wp2;go_ret;refine ⟨?_,rfl⟩;rw [HT.out,HN.out];rfl
   ·by_cases c3:z ≥ 48
    ·by_cases c4:z≤57
     ·have HN:Hid (nchr z=true):=by show _=_;simp [nchr,digt];omega
      go_wp2;go_roundw
      case rel =>
       refine ⟨i+1,by omega,by go_num,trivial,?_⟩;show _=_;rw [HT.out,HN.out,HR.out];rfl
      case measure=>simp [intOf];omega
     ·by_cases c5:z=95
      ·subst c5;have HN:Hid (nchr 95=true):=rfl;go_wp2;go_roundw
       case rel =>
        refine ⟨i+1,by omega,by go_num,trivial,?_⟩;show _=_;rw [HT.out,HN.out,HR.out];rfl
       case measure=>simp [intOf];omega
      ·have HN:Hid (nchr z=false):=by show _=_;simp [nchr,lett,digt];omega
       have c6:(z==95)=false:=by simp [c5]
       go_wp2;go_ret;refine ⟨?_,rfl⟩;rw [HT.out,HN.out];rfl
    ·have HN:Hid (nchr z=false):=by show _=_;simp [nchr,lett,digt];omega
     have c5:(z==95)=false:=by simp;omega
     go_wp2;go_ret;refine ⟨?_,rfl⟩;rw [HT.out,HN.out];rfl
  ·have e1:i=s.size:=by omega
   have HE:Hid (isNm s=true):=by show _=_;rw [HI.out,e1,Nat.sub_self];rfl
   have i2:¬(((i:Nat):Int)<((s.size:Nat):Int)):=by omega
   clear e1 HI;go_wp2;go_ret;refine ⟨?_,rfl⟩;rw [HE.out];rfl
theorem xForm_x {w:World} {e:Ex} (h:NmS w e.v) (l:e.v.n≤1000∧e.v.m≤1000):Calls Tryz.prog 125 #[e.val] w fun r w'=>r=.returned (.bool (exF e))∧Below w.heap.size w w' :=
 xForm_c (i:=e.i) (s:=e.v.s) h.1 l.1 l.2
theorem exF_inf {e:Ex} (h:exF e=true):e.i=0∨e.i=-1∨e.i=1:=by
 simp only [exF,efB,Bool.and_eq_true,Bool.or_eq_true,decide_eq_true_eq] at h;rcases h.2 with h | ⟨h | h,_⟩ <;> omega
set_option maxRecDepth 100000 in
set_option maxHeartbeats 2000000 in
theorem fBounds_c {w:World} {a b:Ex} (ha:NmS w a.v) (hb:NmS w b.v) (la:a.v.n≤1000∧a.v.m≤1000) (lb:b.v.n≤1000∧b.v.m≤1000):Calls Tryz.prog 88 #[a.val,b.val] w fun r w'=>r=.returned (.bool (abB a b))∧Below w.heap.size w w':=by
 have CA:=hid (fun w' (hw:Below w.heap.size w w')=>xForm_x (w:=w') (ha.below hw) la);have CB:=hid (fun w' (hw:Below w.heap.size w w')=>xForm_x (w:=w') (hb.below hw) lb);obtain ⟨fa,hfa⟩:∃x,exF a=x:=⟨_,rfl⟩;obtain ⟨fb,hfb⟩:∃x,exF b=x:=⟨_,rfl⟩;have hR:abB a b=(fa && (fb && (decide (a.i≠1) && decide (b.i ≠ -1)))):=by simp only [abB,hfa,hfb]
 rw [hfa] at CA;rw [hfb] at CB;have HR:=hid hR;have HIa:=hid (show fa=true→a.i=0∨a.i=-1∨a.i=1 from fun h=>exF_inf (hfa.trans h));have HIb:=hid (show fb=true→b.i=0∨b.i=-1∨b.i=1 from fun h=>exF_inf (hfb.trans h));clear hR hfa hfb ha hb la lb;obtain ⟨i,⟨s,x,n,c,f,y,m,d,g⟩⟩:=a;obtain ⟨j,⟨s2,x2,n2,c2,f2,y2,m2,d2,g2⟩⟩:=b;replace CA:Hid (∀w' (hw:Below w.heap.size w w'),Calls Tryz.prog 125 #[.agg #[.int .i64 i,.bool s,.slice x n c,.slice y m d]] w' fun r w2=>r=.returned (.bool fa)∧Below w'.heap.size w' w2):=CA;replace CB:Hid (∀w' (hw:Below w.heap.size w w'),Calls Tryz.prog 125 #[.agg #[.int .i64 j,.bool s2,.slice x2 n2 c2,.slice y2 m2 d2]] w' fun r w2=>r=.returned (.bool fb)∧Below w'.heap.size w' w2):=CB;replace HR:Hid (abB ⟨i,⟨s,x,n,c,f,y,m,d,g⟩⟩ ⟨j,⟨s2,x2,n2,c2,f2,y2,m2,d2,g2⟩⟩=(fa && (fb && (decide (i≠1) && decide (j ≠ -1))))):=HR;replace HIa:Hid (fa=true→i=0∨i=-1∨i=1):=HIa;replace HIb:Hid (fb=true→j=0∨j=-1∨j=1):=HIb;show Calls Tryz.prog 88 #[.agg #[.int .i64 i,.bool s,.slice x n c,.slice y m d],.agg #[.int .i64 j,.bool s2,.slice x2 n2 c2,.slice y2 m2 d2]] w _;go_enter Tryz.func88,Tryz.ntmps88;go_wp2_with fail
 have HB0:=hid (below_alloc (below_alloc (Below.refl w.heap.size w) (.cells #[.int .i64 i,.bool s,.slice x n c,.slice y m d] 42)) (.cells #[.int .i64 j,.bool s2,.slice x2 n2 c2,.slice y2 m2 d2] 42));refine (CA.out _ HB0.out).mono ?_;rintro r w1 ⟨rfl,hb1⟩;have x0:=kCb hb1 (a:=⟨w.heap.size,0,none⟩) (v:=.int .i64 i) (by simp [go_sem]);have b1:=bx4_new hb1;obtain ⟨_,y0,y1,y2',y3⟩:=b1;replace y0:w1.cell? ⟨w.heap.size+1,0,none⟩=some (.int .i64 j):=by simpa using y0
 replace y1:w1.cell? ⟨w.heap.size+1,1,none⟩=some (.bool s2):=by simpa using y1
 replace y2':w1.cell? ⟨w.heap.size+1,2,none⟩=some (.slice x2 n2 c2):=by simpa using y2'
 replace y3:w1.cell? ⟨w.heap.size+1,3,none⟩=some (.slice y2 m2 d2):=by simpa using y3
 have HB1:=hid (HB0.out.trans (hb1.mono HB0.out.size));clear hb1 HB0;cases fa
 ·go_wp2;go_ret;refine ⟨?_,HB1.out⟩;rw [HR.out];rfl
 ·go_wp2_with fail
  refine (CB.out _ HB1.out).mono ?_;rintro r w2 ⟨rfl,hb2⟩;have z0:=kCb hb2 x0;have u0:=kCb hb2 y0;have HB2:=hid (HB1.out.trans (hb2.mono HB1.out.size));clear hb2 HB1 x0 y0 y1 y2' y3;cases fb
  ·go_wp2;go_ret;refine ⟨?_,HB2.out⟩;rw [HR.out];rfl
  ·have hi:=HIa.out (by first | exact rfl | exact trivial);have hj:=HIb.out (by first | exact rfl | exact trivial);clear HIa HIb;by_cases h1:i≤0
   ·have HI:=hid (show decide (i≠1)=true from by simp;omega);by_cases h2:j ≥ 0
    ·have HJ:=hid (show decide (j ≠ -1)=true from by simp;omega);clear hi hj;go_wp2;go_ret;refine ⟨?_,HB2.out⟩;rw [HR.out,HI.out,HJ.out];simp
    ·have HJ:=hid (show decide (j ≠ -1)=false from by simp;omega);clear hi hj;go_wp2;go_ret;refine ⟨?_,HB2.out⟩;rw [HR.out,HI.out,HJ.out];simp [show ¬(0≤j) by omega]
   ·have HI:=hid (show decide (i≠1)=false from by simp;omega);clear hi hj;go_wp2;go_ret;refine ⟨?_,HB2.out⟩;rw [HR.out,HI.out];rfl
theorem rLightK_c (K:Nat) (s:Bool) (x y:Option Addr) (n c m d:Nat) (w:World) :
  Calls Tryz.prog 26 #[.agg #[.bool s,.slice x n c,.slice y m d],.int .i64 K] w fun e w'=>e=.returned (.bool (lg n m K))∧Below w.heap.size w w':=by
 by_cases h1:n≤K
 ·have d1:decide ((n:Int)≤(K:Int))=true:=by simp;omega
  by_cases h2:m≤K
  ·have d2:decide ((m:Int)≤(K:Int))=true:=by simp;omega
   rw [show lg n m K=true by simp [lg,h1,h2]];go_enter Tryz.func26,Tryz.ntmps26;go_wp2;go_ret;exact ⟨rfl,below_alloc (Below.refl _ _) _⟩
  ·have d2:decide ((m:Int)≤(K:Int))=false:=by simp;omega
   rw [show lg n m K=false by simp [lg,h2]];go_enter Tryz.func26,Tryz.ntmps26;go_wp2;go_ret;exact ⟨rfl,below_alloc (Below.refl _ _) _⟩
 ·have d1:decide ((n:Int)≤(K:Int))=false:=by simp;omega
  rw [show lg n m K=false by simp [lg,h1]];go_enter Tryz.func26,Tryz.ntmps26;go_wp2;go_ret;exact ⟨rfl,below_alloc (Below.refl _ _) _⟩
def Tr (w:World) (ao:Option Addr) (k:Nat) (col:Nat→Int) (T:Nat→Nm):Prop :=
 ∀j,j<k→∃b o,ao=some ⟨b,o,none⟩∧C4 w b (o+j*4) (.int .i64 (col j)) (.bool (T j).s) (.slice (T j).x (T j).n (T j).c) (.slice (T j).y (T j).m (T j).d)∧Rw w (T j).x (T j).n (T j).c (T j).f (T j).y (T j).m (T j).d (T j).g
def Rr (w:World) (ao:Option Addr) (k:Nat) (X:Nat→Nm):Prop :=
 ∀j,j<k→∃b o,ao=some ⟨b,o,none⟩∧C3 w b (o+j*3) (.bool (X j).s) (.slice (X j).x (X j).n (X j).c) (.slice (X j).y (X j).m (X j).d)∧Rw w (X j).x (X j).n (X j).c (X j).f (X j).y (X j).m (X j).d (X j).g
theorem Tr.below {w w' ao k col T} (h:Tr w ao k col T) (hb:Below w.heap.size w w'):Tr w' ao k col T:=fun j hj=>by
 obtain ⟨b,o,e,h1,h2⟩:=h j hj;exact ⟨b,o,e,h1.below hb,h2.below hb⟩
theorem Rr.below {w w' ao k X} (h:Rr w ao k X) (hb:Below w.heap.size w w'):Rr w' ao k X:=fun j hj=>by
 obtain ⟨b,o,e,h1,h2⟩:=h j hj;exact ⟨b,o,e,h1.below hb,h2.below hb⟩
def nlg (K:Nat) (X:Nat→Nm):Nat→Nat→Bool
 | 0,_=>true
 | r+1,i=>lg (X i).n (X i).m K && nlg K X r (i+1)
theorem nlg_all {K:Nat} {X:Nat→Nm}:∀{r i:Nat},nlg K X r i=true→∀j,i≤j→j<i+r→(X j).n≤K∧(X j).m≤K:=by
 intro r
 induction r with
 | zero=>intro i _ j h1 h2;omega
 | succ r ih =>
  intro i h j hj hj2;simp only [nlg,lg,Bool.and_eq_true,decide_eq_true_eq] at h;by_cases e:j=i
  ·subst e;exact h.1
  ·exact ih h.2 j (by omega) (by omega)
theorem Tr.tl {w ao k col T} {K:Nat} (h:Tr w ao k col T) (hl:nlg K T k 0=true) (hK:K≤65536):Tl w ao k col T:=fun j hj=>by
 obtain ⟨b,o,e,h1,h2⟩:=h j hj;obtain ⟨h3,h4⟩:=nlg_all hl j (by omega) (by omega);exact ⟨b,o,e,h1,h2,by omega,by omega⟩
theorem Rr.rl {w ao k X} {K:Nat} (h:Rr w ao k X) (hl:nlg K X k 0=true) (hK:K≤65536):Rl w ao k X:=fun j hj=>by
 obtain ⟨b,o,e,h1,h2⟩:=h j hj;obtain ⟨h3,h4⟩:=nlg_all hl j (by omega) (by omega);exact ⟨b,o,e,h1,h2,by omega,by omega⟩
set_option maxRecDepth 100000 in
set_option maxHeartbeats 4000000 in
theorem rLights_c {w:World} {ao:Option Addr} {k cap:Nat} {X:Nat→Nm} (K:Nat) (h:Rr w ao k X) (hk:k≤9223372036854775807) :
  Calls Tryz.prog 7 #[.slice ao k cap,.int .i64 K] w fun e w'=>e=.returned (.bool (decide (k≤300) && nlg K X k 0))∧Below w.heap.size w w':=by
 have H:=hid h;clear h;by_cases h300:k≤300
 ·have i0:¬((300:Int)<((k:Nat):Int)):=by omega
  rw [show (decide (k≤300) && nlg K X k 0)=nlg K X k 0 by simp [h300]];go_enter Tryz.func7,Tryz.ntmps7;go_wp2_with fail
  go_loopw [12] (fun t wr=>∃(i:Nat),i≤k∧t=.int .i64 i∧Hid (Below w.heap.size w wr)∧Hid (nlg K X k 0=nlg K X (k-i) i)) (fun t _=>k-(intOf t).toNat)
  case atStart=>exact ⟨0,by omega,rfl,Below.refl _ _,rfl⟩
  case round =>
   obtain ⟨i,hi,rfl,HB,HT⟩:=hrel;by_cases hlt:i<k
   ·obtain ⟨b,o,rfl,hc,hn⟩:=(H.out.below HB.out) i hlt;obtain ⟨r,hr⟩:∃r,k-i=r+1:=⟨k-i-1,by omega⟩;have hT:nlg K X k 0=(lg (X i).n (X i).m K && nlg K X r (i+1)):=by rw [HT.out,hr];rfl
    have hr2:k-(i+1)=r:=by omega
    obtain ⟨⟨s,x,n,c,f,y,m,d,g⟩,hTi⟩:∃t,X i=t:=⟨_,rfl⟩;rw [hTi] at hc hn hT;obtain ⟨x0,x1,x2⟩:=hc;replace x0:wr.cell? ⟨b,o+i*3,none⟩=some (.bool s):=x0;replace x1:wr.cell? ⟨b,o+i*3+1,none⟩=some (.slice x n c):=x1;replace x2:wr.cell? ⟨b,o+i*3+2,none⟩=some (.slice y m d):=x2;have HTi:=hid hT;have HR2:=hid hr2
    have i1:((i:Nat):Int)<((k:Nat):Int):=by omega
    clear hT hr2 hTi hr hn;go_wp2_with fail
    refine (rLightK_c K s x y n c m d _).mono ?_;rintro e w1 ⟨rfl,hb1⟩;obtain ⟨_,_,_,_,hb2⟩:=box3 hb1;have HB2:=hid (HB.out.trans (hb2.mono HB.out.size));clear hb1 hb2;cases hf:lg n m K
    ·have HF:=hid hf;clear hf;go_wp2;go_ret;refine ⟨?_,HB2.out⟩;rw [HTi.out];show _=Ending.returned (.bool (lg n m K && _));rw [HF.out];rfl
    ·have HF:=hid hf;clear hf;go_wp2;go_roundw
     case rel =>
      refine ⟨i+1,by omega,by go_num,HB2.out,?_⟩;show _=_;rw [HTi.out,HR2.out];show (lg n m K && _)=_;rw [HF.out];rfl
     case measure=>simp [intOf];omega
   ·have e1:i=k:=by omega
    have HTe:Hid (nlg K X k 0=true):=by
     show _=_;rw [HT.out,e1,Nat.sub_self];rfl
    have i2:¬(((i:Nat):Int)<((k:Nat):Int)):=by omega
    clear e1 HT;go_wp2;go_ret;refine ⟨?_,HB.out⟩;rw [HTe.out];rfl
 ·have i0:(300:Int)<((k:Nat):Int):=by omega
  rw [show (decide (k≤300) && nlg K X k 0)=false by simp [h300]];go_enter Tryz.func7,Tryz.ntmps7;go_wp2;go_ret;exact ⟨rfl,Below.refl _ _⟩
end Go.Proofs.YtdbbncamlaiajaaGreat
