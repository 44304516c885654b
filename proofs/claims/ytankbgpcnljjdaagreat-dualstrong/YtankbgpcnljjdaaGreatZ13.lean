/-
 The walk of package dual's Reduced, whatever it is handed (written by makers/du2.py). ext.Scale of numbers of any length; the walks of package dual's side, share (written by makers/du3.py). point.Sum of longer numbers; the walk of package dual's sum (written by makers/du4.py).
-/
import Derived.Test.YtankbgpcnljjdaaGreatZ12
import Derived.Test.YtankbgpcnljjdaaGreatZ11
namespace Go.Proofs.YtankbgpcnljjdaaGreat
open Go.RowKit
def dckE (M:Mo) (k:Nat) (X:Nat→Nm):Int:=lsf (two (chkE M) (pnE k X M.rk)) 2
def RdAns (L:Nat) (w w':World) (e:Ending) (er:Int) (cs:List CV) (rs:List RV) (ys:List Rat):Prop:=Below w.heap.size w w' ∧
 ((er≠0∧e=.returned (.tuple #[.slice none 0 0,.int .i64 er]))∨(er=0∧∃a c,e=.returned (.tuple #[.slice a cs.length c,.int .i64 0])∧(cs.length≤c∧c≤9223372036854775807)∧Rf (KV L) w' a (redC rs ys 0 cs)))
structure Ct (base:Nat) (w:World) (g ck i:Nat) (V:Nat→Value) (E:Nat→List Nm):Prop where
 cell:∀j,i≤j→j<ck→w.cell? ⟨g,j,none⟩=some (V j)
 row:∀j,i≤j→j<ck→RowG 24 3 base w (V j) (E j).length (rcells (E j))
theorem Cr.ct {base w g ck V E X} (h:Cr base w g ck V E X):Ct base w g ck 0 V E:=⟨fun _ _ hj=>h.cell hj,fun j _ hj=>h.row j hj⟩
theorem Ct.below {base w w' g ck i V E} (h:Ct base w g ck i V E) (hb:Below w.heap.size w w'):Ct base w' g ck i V E:=⟨fun j a b=>kCb hb (h.cell j a b),fun j a b=>(h.row j a b).below hb⟩
theorem Ct.of {base w w' g ck i i' V E} (h:Ct base w g ck i V E) (hi:i≤i') (hg:w'.heap[g]?=w.heap[g]?) (hb:∀j,i'≤j→j<ck→∀b,(V j).ownBlock=some b→w'.heap[b]?=w.heap[b]?):Ct base w' g ck i' V E :=
 ⟨fun j a b=>(World.cell?_of_block (a:=⟨g,j,none⟩) hg).trans (h.cell j (by omega) b),fun j a b=>(h.row j (by omega) b).of (hb j a b)⟩
theorem Gr.of {K base w w' v p} (h:Gr K base w v p) (hb:∀b,v.ownBlock=some b→w'.heap[b]?=w.heap[b]?) (hk:Kp w w'):Gr K base w' v p:=by
 obtain ⟨T,h1,h2⟩:=h;exact ⟨T,h1.of hb,fun j q e=>Rn.kp (h2 j q e) hk⟩
theorem Gr.own {K base w v p} (h:Gr K base w v p):∀b,v.ownBlock=some b→base≤b∧b<w.heap.size:=by
 obtain ⟨T,h1,h2⟩:=h;exact h1.lt
theorem rls_of (E:List Nm) (t:Nm):E=rls E.length (fun j=>E.getD j t):=by
 apply List.ext_getElem?;intro j;by_cases hj:j<E.length
 ·rw [rls_get hj,List.getD_eq_getElem?_getD,List.getElem?_eq_getElem hj];rfl
 ·rw [List.getElem?_eq_none (by omega),List.getElem?_eq_none (by simp [rls];omega)]
theorem rowg_rf {L base w ao n cap E p} (h:RowG 24 3 base w (.slice ao n cap) E.length (rcells E)) (hv:Lv L w E p) (hn:n=E.length):Rf L w ao p:=fun j q hj=>by
 subst hn;have hl:j<E.length:=by rw [hv.1];exact (List.getElem?_eq_some_iff.1 hj).1
 have t0:Nm:=⟨false,none,0,0,fun _=>0,none,0,0,fun _=>0⟩;rw [show rcells E=rcells (rls E.length (fun j=>E.getD j t0)) by rw [←rls_of]] at h;obtain ⟨b,e,hc⟩:=rowg_c3 h hl;refine ⟨b,0,E.getD j t0,e,hc,hv.2 j _ q ?_ hj⟩;rw [List.getD_eq_getElem?_getD,List.getElem?_eq_getElem hl];rfl
set_option maxRecDepth 100000 in
set_option maxHeartbeats 8000000 in
theorem dReduced_v {w:World} {L:Nat} {M:Mo} {off:Rat} {cs:List CV} {rs:List RV} {ao:Option Addr} {k cap:Nat} {X:Nat→Nm} {ys:List Rat} {er:Int} (hW:MoW w M) (hx:Rl w ao k X) (hk:k≤1048576) (he:dckE M k X=er) (hv:er=0→MoV L w M off cs rs∧mvOk cs rs=true∧Rf L w ao ys∧ys.length=k∧k=rs.length) (hL:L≤30) :
  Calls Tryz.prog 14 #[M.val,.slice ao k cap] w fun e w'=>RdAns L w w' e er cs rs ys:=by
 have CC:=hid (fun W (hW2:Below w.heap.size w W)=>check_w (hW.below hW2));have CN:=hid (fun W (hW2:Below w.heap.size w W)=>pNumbers_c (w:=W) (cap:=cap) (z:=(M.rk:Int)) (hx.below hW2) hk);have HE:=hid he;unfold dckE at he;obtain ⟨e0,he0⟩:∃e,chkE M=e:=⟨_,rfl⟩;rw [he0] at CC he;obtain ⟨e1,he1⟩:∃e,pnE k X M.rk=e:=⟨_,rfl⟩;rw [he1] at CN he;have HE2:=hid he;have HV:=hid hv
 clear hW hx he0 he1 he hv;obtain ⟨⟨s,x,n,c,f,y,m,d,g⟩,ca,ck,cc,C,ra,rk,rc,R⟩:=M;replace CC:Hid (∀W,Below w.heap.size w W→Calls Tryz.prog 23 #[.agg #[.bool s,.slice x n c,.slice y m d,.slice ca ck cc,.slice ra rk rc]] W fun r w'=>r=.returned (.int .i64 e0)∧Below W.heap.size W w'):=CC;replace CN:Hid (∀W,Below w.heap.size w W→Calls Tryz.prog 37 #[.slice ao k cap,.int .i64 (rk:Int)] W fun e w'=>e=.returned (.int .i64 e1)∧Below W.heap.size W w'):=CN;show Calls Tryz.prog 14 #[.agg #[.bool s,.slice x n c,.slice y m d,.slice ca ck cc,.slice ra rk rc],.slice ao k cap] w _;have hb:=below_alloc (Below.refl w.heap.size w) (.cells #[.bool s,.slice x n c,.slice y m d,.slice ca ck cc,.slice ra rk rc] 28);have r0:(w.alloc (.cells #[.bool s,.slice x n c,.slice y m d,.slice ca ck cc,.slice ra rk rc] 28)).drew.cell? ⟨w.heap.size,0,none⟩=some (.bool s):=kCd (by simp [go_sem]);have r1:(w.alloc (.cells #[.bool s,.slice x n c,.slice y m d,.slice ca ck cc,.slice ra rk rc] 28)).drew.cell? ⟨w.heap.size,1,none⟩=some (.slice x n c):=kCd (by simp [go_sem]);have r2:(w.alloc (.cells #[.bool s,.slice x n c,.slice y m d,.slice ca ck cc,.slice ra rk rc] 28)).drew.cell? ⟨w.heap.size,2,none⟩=some (.slice y m d):=kCd (by simp [go_sem]);have r3:(w.alloc (.cells #[.bool s,.slice x n c,.slice y m d,.slice ca ck cc,.slice ra rk rc] 28)).drew.cell? ⟨w.heap.size,3,none⟩=some (.slice ca ck cc):=kCd (by simp [go_sem]);have r4:(w.alloc (.cells #[.bool s,.slice x n c,.slice y m d,.slice ca ck cc,.slice ra rk rc] 28)).drew.cell? ⟨w.heap.size,4,none⟩=some (.slice ra rk rc):=kCd (by simp [go_sem]);have HB:=hid (Below.drew hb);have hsz0:w.heap.size<(w.alloc (.cells #[.bool s,.slice x n c,.slice y m d,.slice ca ck cc,.slice ra rk rc] 28)).drew.heap.size:=by show w.heap.size<(w.alloc _).heap.size;simp
 clear hb;go_enter Tryz.func14,Tryz.ntmps14;go_upto_region 1 with fail
 refine wp_region_held_drew (S:=(fun w'=>w'.cell? ⟨w.heap.size,0,none⟩=some (.bool s)∧w'.cell? ⟨w.heap.size,1,none⟩=some (.slice x n c)∧w'.cell? ⟨w.heap.size,2,none⟩=some (.slice y m d)∧w'.cell? ⟨w.heap.size,3,none⟩=some (.slice ca ck cc)∧w'.cell? ⟨w.heap.size,4,none⟩=some (.slice ra rk rc))) (by kernel_rfl) ?_ (fun hHeld=>?_)
 ·exact ⟨r0,r1,r2,r3,r4⟩
 generalize (w.alloc (.cells #[.bool s,.slice x n c,.slice y m d,.slice ca ck cc,.slice ra rk rc] 28)).drew=wd at *;clear r0 r1 r2 r3 r4;refine tkO 0 ?_;simp only [lay_,Act.put];refine tkO 2 ?_;simp only [lay_,Act.put];refine tkO 3 ?_;simp only [lay_,Act.put];refine tkO 4 ?_;simp only [lay_,Act.put];refine tkO 5 ?_;simp only [lay_,Act.put];refine wpAnyH_ready (rs:=[1]) (by kernel_rfl) (by simp) ?_;refine AllReadyH.cons (o:=_) rfl (fun K hK=>?_) ?_;rotate_left;exact AllReadyH.nil;go_simp
 go_at_call 23
 refine (CC.out _ HB.out).mono ?_;rintro e w4 ⟨rfl,hb4⟩
 (try go_wp2_with fail)
 refine hK.out _ _ ?_ (fun hH4=>?_)
 ·exact ⟨kCb hb4 hHeld.1,kCb hb4 hHeld.2.1,kCb hb4 hHeld.2.2.1,kCb hb4 hHeld.2.2.2.1,kCb hb4 hHeld.2.2.2.2⟩
 clear hK K;have HB4:=hid (HB.out.trans (hb4.mono HB.out.size));try simp only [lay_,Act.put]
 refine wpAnyH_ready (rs:=[6]) (by kernel_rfl) (by simp) ?_;refine AllReadyH.cons (o:=_) rfl (fun K hK=>?_) ?_;rotate_left;exact AllReadyH.nil;go_simp
 go_at_call 37
 refine (CN.out _ HB4.out).mono ?_;rintro e w5 ⟨rfl,hb5⟩
 (try go_wp2_with fail)
 refine hK.out _ _ ?_ (fun hH5=>?_)
 ·exact ⟨kCb hb5 hH4.1,kCb hb5 hH4.2.1,kCb hb5 hH4.2.2.1,kCb hb5 hH4.2.2.2.1,kCb hb5 hH4.2.2.2.2⟩
 clear hK K;have HB5:=hid (HB4.out.trans (hb5.mono HB4.out.size));obtain ⟨r0,r1,r2,r3,r4⟩:=id hH5;try simp only [lay_,Act.put]
 refine wpAnyH_ready (rs:=[7]) (by kernel_rfl) (by simp) ?_;refine AllReadyH.cons (o:=_) rfl (fun K hK=>?_) ?_;rotate_left;exact AllReadyH.nil;go_simp;have hbA:=below_alloc (Below.refl w5.heap.size w5) (.cells #[.int .i64 e0,.int .i64 e1] 35);have HEl:=hid (two_el (w:=w5) (a:=e0) (b:=e1) (t:=35));have HWA:=hid (HB5.out.trans (hbA.mono HB5.out.size));obtain ⟨gA,hgA⟩:∃z,w5.heap.size=z:=⟨_,rfl⟩;rw [hgA] at HEl ⊢;generalize hwA:w5.alloc (.cells #[.int .i64 e0,.int .i64 e1] 35)=wA at *;clear hwA hgA;refine hK.out _ _ ?_ (fun hHA=>?_)
 ·((try dsimp only);(refine ⟨?_,?_,?_,?_,?_⟩ <;> repeat (with_reducible first | assumption | refine kCb (by assumption) ?_)))
 clear hK K;try simp only [lay_,Act.put]
 refine wpAnyH_ready (rs:=[8]) (by kernel_rfl) (by simp) ?_;refine AllReadyH.cons (o:=_) rfl (fun K hK=>?_) ?_;rotate_left;exact AllReadyH.nil;go_simp
 go_at_call 36
 refine (least_c HEl.out (by decide)).mono ?_;rintro e w9 ⟨rfl,rfl⟩
 (try go_wp2_with fail)
 refine hK.out _ _ ?_ (fun hHB=>?_)
 ·exact hHA
 clear hK K;try simp only [lay_,Act.put]
 refine tkO 9 ?_;simp only [lay_,Act.put];refine wpAnyH_done (by kernel_rfl) ?_ _;simp only [show lsf (two e0 e1) 2=er from HE2.out];obtain ⟨r0,r1,r2,r3,r4⟩:=id hHB;have hszA:w.heap.size<w9.heap.size:=by have h1:=hb4.size;have h2:=hb5.size;have h3:=hbA.size;omega
 have HBA:=hid HWA.out;clear HE2 hHeld hH4 hH5 hHA hHB hb4 hb5 hbA HEl CC CN HB HB4 HB5 HWA hsz0;by_cases h0:er=0
 case neg =>
  have h1:(er != 0)=true:=by simpa using h0
  have H0:=hid h0;clear r0 r1 r2 r3 r4;go_wp2
  go_ret2
  exact ⟨HBA.out,.inl ⟨H0.out,rfl⟩⟩
 obtain ⟨v1,v2,v3,v4,v5⟩:=HV.out h0;have mp:=mvOk_p v2;have ht:∀v ∈ rs,tsB cs.length (-1) v.ts=true:=by
  simp only [mvOk,Bool.and_eq_true,decide_eq_true_eq,List.all_eq_true] at v2;obtain ⟨_,_,_,h4,_⟩:=v2;exact fun v hv=>(h4 v hv).2.1
 subst h0;have l64:=mp.cl;have r64:=mp.rl
 have HC:Hid (∀j v,cs[j]?=some v→(∃b o,ca=some ⟨b,o,none⟩∧Cs w b (o+j*12) (C j).vs)∧ColV L w (C j) v):=v1.cls;have HR:Hid (∀j v,rs[j]?=some v→(∃b o,ra=some ⟨b,o,none⟩∧Cs w b (o+j*10) (R j).vs)∧RowV L w (R j) v):=v1.rls;have hck:ck=cs.length:=v1.ck;have hrk:rk=rs.length:=v1.rk;subst hck;subst hrk
 subst v5;have HY:=hid v3;have HYL:=hid v4;have HTB:Hid (∀v ∈ rs,tsB cs.length (-1) v.ts=true):=ht;have HTL:=hid mp.tl
 clear v1 v2 v3 v4 mp ht HV HE hk;go_wp2_with (at_make;refine wpList_make_co _ rfl (.tmp 31) (.tmp 31) 80 rfl 29 24 Tryz.underlying80 Tryz.infoLr .i64 .i64 cs.length cs.length cs.length rfl rfl rfl rfl (by omega) (by unfold maxLen;omega) ?_;intro w3 hk3 hb3;have k43:=kCb hb3 r4)
 have HK3:Hid (w9.cell? ⟨w.heap.size,3,none⟩=some (.slice ca cs.length cc)):=hid r3;have HCo:=hid (cr_new (base:=w9.heap.size) (Nat.le_refl _) hk3);have HB3:=hid hb3;clear hk3 r0 r1 r2 r3 r4;go_wp2_with fail
 clear k43 hb3;go_loopw [36] (fun t wr=>∃(i:Nat) (V:Nat→Value) (E:Nat→List Nm),i≤rs.length∧t=.int .i64 i∧Hid (Below w9.heap.size w9 wr)∧Hid (Cr w9.heap.size wr w9.heap.size cs.length V E (fun b=>False))∧Hid (∀j,j<cs.length→Lv (2*L+1) wr (E j) (centQ (rs.take i) (ys.take i) j))) (fun t _=>rs.length-(intOf t).toNat)
 case atStart=>exact ⟨0,_,_,by omega,rfl,HB3.out,HCo.out,fun j hj=>Lv.nil _ _⟩
 case round =>
  clear HB3 HCo;obtain ⟨i,V,E,hi,rfl,HB,HC2,HL⟩:=hrel;by_cases hlt:i<rs.length
  ·obtain ⟨v,hv⟩:∃t,rs[i]?=some t:=⟨_,List.getElem?_eq_getElem (by omega)⟩;have hvm:=List.mem_of_getElem? hv;obtain ⟨yq,hyq⟩:∃t,ys[i]?=some t:=⟨_,List.getElem?_eq_getElem (by have:=HYL.out;omega)⟩;have hbw:=HBA.out.trans (HB.out.mono HBA.out.size);obtain ⟨⟨b,o,hra,hc⟩,hRV⟩:=HR.out i v hv;subst hra;obtain ⟨⟨z,⟨i1,⟨s1,x1,n1,c1,f1,y1,m1,d1,g1⟩⟩,⟨i2,⟨s2,x2,n2,c2,f2,y2,m2,d2,g2⟩⟩,ta,tk,tc,tcol,tt⟩,hCi⟩:∃t,R i=t:=⟨_,rfl⟩;rw [hCi] at hc hRV;have htk2:tk=v.ts.length:=hRV.tk;subst htk2;replace hc:=Cs.below hc hbw;have q0:wr.cell? ⟨b,o+i*10,none⟩=some (.string z):=hc 0 _ rfl;have q1:wr.cell? ⟨b,o+i*10+1,none⟩=some (.int .i64 i1):=hc 1 _ rfl;have q2:wr.cell? ⟨b,o+i*10+2,none⟩=some (.bool s1):=hc 2 _ rfl;have q3:wr.cell? ⟨b,o+i*10+3,none⟩=some (.slice x1 n1 c1):=hc 3 _ rfl;have q4:wr.cell? ⟨b,o+i*10+4,none⟩=some (.slice y1 m1 d1):=hc 4 _ rfl;have q5:wr.cell? ⟨b,o+i*10+5,none⟩=some (.int .i64 i2):=hc 5 _ rfl;have q6:wr.cell? ⟨b,o+i*10+6,none⟩=some (.bool s2):=hc 6 _ rfl;have q7:wr.cell? ⟨b,o+i*10+7,none⟩=some (.slice x2 n2 c2):=hc 7 _ rfl;have q8:wr.cell? ⟨b,o+i*10+8,none⟩=some (.slice y2 m2 d2):=hc 8 _ rfl;have q9:wr.cell? ⟨b,o+i*10+9,none⟩=some (.slice ta v.ts.length tc):=hc 9 _ rfl;obtain ⟨b',o',⟨ss,sx,sn,sc,sf,sy,sm,sd,sg⟩,hax,⟨p0,p1,p2⟩,hr'⟩:=(HY.out.below hbw) i yq hyq;subst hax;replace p0:wr.cell? ⟨b',o'+i*3,none⟩=some (.bool ss):=p0;replace p1:wr.cell? ⟨b',o'+i*3+1,none⟩=some (.slice sx sn sc):=p1;replace p2:wr.cell? ⟨b',o'+i*3+2,none⟩=some (.slice sy sm sd):=p2;replace hr':Rn L wr ss sx sn sc sf sy sm sd sg yq:=hr';have hb1:=below_alloc (Below.refl wr.heap.size wr) (.cells #[.string z,.int .i64 i1,.bool s1,.slice x1 n1 c1,.slice y1 m1 d1,.int .i64 i2,.bool s2,.slice x2 n2 c2,.slice y2 m2 d2,.slice ta v.ts.length tc] 61);have b9:(wr.alloc (.cells #[.string z,.int .i64 i1,.bool s1,.slice x1 n1 c1,.slice y1 m1 d1,.int .i64 i2,.bool s2,.slice x2 n2 c2,.slice y2 m2 d2,.slice ta v.ts.length tc] 61)).cell? ⟨wr.heap.size,9,none⟩=some (.slice ta v.ts.length tc):=by simp [go_sem]
   replace p0:=kCb hb1 p0;replace p1:=kCb hb1 p1;replace p2:=kCb hb1 p2
   replace hr':=hr'.below hb1;have HTS:Hid (∀p z q,v.ts[p]?=some (z,q)→tcol p=z∧NmV L w (tt p) q∧∃b o,ta=some ⟨b,o,none⟩∧C4 w b (o+p*4) (.int .i64 (tcol p)) (.bool (tt p).s) (.slice (tt p).x (tt p).n (tt p).c) (.slice (tt p).y (tt p).m (tt p).d)):=hRV.tl;have htk3:=HTL.out v hvm;have HT2:=hid (HTB.out v hvm);have HV:=hid hv;have HYQ:=hid hyq
   have HB1:=hid (HB.out.trans (hb1.mono HB.out.size));have HC1:=hid (HC2.out.below hb1);have HL1:Hid (∀j,j<cs.length→Lv (2*L+1) (wr.alloc (.cells #[.string z,.int .i64 i1,.bool s1,.slice x1 n1 c1,.slice y1 m1 d1,.int .i64 i2,.bool s2,.slice x2 n2 c2,.slice y2 m2 d2,.slice ta v.ts.length tc] 61)) (E j) (centQ (rs.take i) (ys.take i) j)):=hid (fun j hj=>(HL.out j hj).below hb1)
   have i1':((i:Nat):Int)<((rs.length:Nat):Int):=by omega
   have hlw:wr.heap.size<(wr.alloc (.cells #[.string z,.int .i64 i1,.bool s1,.slice x1 n1 c1,.slice y1 m1 d1,.int .i64 i2,.bool s2,.slice x2 n2 c2,.slice y2 m2 d2,.slice ta v.ts.length tc] 61)).heap.size:=by simp
   clear hCi hc hRV hbw hv hyq hvm HB HC2 HL;have HR':=hid hr';clear hr';go_wp2_with fail
   clear q0 q1 q2 q3 q4 q5 q6 q7 q8 q9;generalize (wr.alloc (.cells #[.string z,.int .i64 i1,.bool s1,.slice x1 n1 c1,.slice y1 m1 d1,.int .i64 i2,.bool s2,.slice x2 n2 c2,.slice y2 m2 d2,.slice ta v.ts.length tc] 61))=wI at *;clear hb1;generalize wr.heap.size=rb at *;refine (rNeg_n HR'.out (by omega)).mono ?_;rintro e w4 ⟨s6,x6,n6,c6,f6,y6,m6,d6,g6,rfl,hb4,hq6⟩;have hal:=below_alloc (Below.refl w4.heap.size w4) (.cells #[.bool s6,.slice x6 n6 c6,.slice y6 m6 d6] 24);have hb5:=hb4.trans (hal.mono hb4.size);replace b9:=kCb hb5 b9;go_wp2_with fail
   have BK:=hid (bk_new w4 [.bool s6,.slice x6 n6 c6,.slice y6 m6 d6] 24);replace BK:Hid (Bk (w4.alloc (.cells #[.bool s6,.slice x6 n6 c6,.slice y6 m6 d6] 24)) w4.heap.size [.bool s6,.slice x6 n6 c6,.slice y6 m6 d6] 24):=BK;have HN:=hid (hq6.below hal);have HB5:=hid (HB1.out.trans (hb5.mono HB1.out.size));have HC5:=hid (((HC1.out.below hb4).unx (fun b=>b=w4.heap.size) (fun b e=>Nat.le_of_eq e.symm)).below hal);have HL5:Hid (∀j,j<cs.length→Lv (2*L+1) (w4.alloc (.cells #[.bool s6,.slice x6 n6 c6,.slice y6 m6 d6] 24)) (E j) (centQ (rs.take i) (ys.take i) j)):=hid (fun j hj=>(HL1.out j hj).below hb5);clear hb4 hq6 hal hb5 b9 p0 p1 p2 hlw HR' HB1 HC1 HL1;generalize w4.alloc (.cells #[.bool s6,.slice x6 n6 c6,.slice y6 m6 d6] 24)=w5 at *;generalize w4.heap.size=xb at *;go_loopw [52] (fun t wz=>∃(p:Nat) (V:Nat→Value) (E:Nat→List Nm),p≤v.ts.length∧t=.int .i64 p∧Hid (Below w9.heap.size w9 wz)∧Hid (Cr w9.heap.size wz w9.heap.size cs.length V E (fun b=>b=xb))∧Hid (Bk wz xb [.bool s6,.slice x6 n6 c6,.slice y6 m6 d6] 24)∧Hid (Rn L wz s6 x6 n6 c6 f6 y6 m6 d6 g6 (-yq))∧Hid (∀j,j<cs.length→Lv (2*L+1) wz (E j) (centQ (rs.take i) (ys.take i) j++entQ yq (v.ts.take p) j))) (fun t _=>v.ts.length-(intOf t).toNat)
   case atStart=>exact ⟨0,_,_,by omega,rfl,HB5.out,HC5.out,BK.out,HN.out,fun j hj=>by rw [List.take_zero];simpa only [entQ,List.append_nil] using HL5.out j hj⟩
   case round =>
    clear HB5 HC5 BK HN HL5;obtain ⟨p,V,E,hp,rfl,HB,HC2,BK,HN,HL⟩:=hrel;by_cases hlp:p<v.ts.length
    ·obtain ⟨⟨tz,tq⟩,htv⟩:∃t,v.ts[p]?=some t:=⟨_,List.getElem?_eq_getElem (by omega)⟩;obtain ⟨h1,h2,b2,o2,hta,h4⟩:=HTS.out p tz tq htv;obtain ⟨hz0,hz1,_⟩:=tsB_mem HT2.out _ (List.mem_of_getElem? htv);replace hz0:(-1:Int)<tz:=hz0;replace hz1:tz<(cs.length:Int):=hz1;obtain ⟨zn,rfl⟩:=Int.eq_ofNat_of_zero_le (show 0≤tz by omega);have hzn:zn<cs.length:=by omega
     subst hta;have hbz:=HBA.out.trans (HB.out.mono HBA.out.size);obtain ⟨⟨ts,tx,tn,tc2,tf,ty,tm,td,tg⟩,hTp⟩:∃t,tt p=t:=⟨_,rfl⟩;rw [hTp,h1] at h4;rw [hTp] at h2;obtain ⟨x0,x1,x2,x3⟩:=h4.below hbz;replace x0:wr.cell? ⟨b2,o2+p*4,none⟩=some (.int .i64 zn):=x0;replace x1:wr.cell? ⟨b2,o2+p*4+1,none⟩=some (.bool ts):=x1;replace x2:wr.cell? ⟨b2,o2+p*4+2,none⟩=some (.slice tx tn tc2):=x2;replace x3:wr.cell? ⟨b2,o2+p*4+3,none⟩=some (.slice ty tm td):=x3;have h2r:Rn L w ts tx tn tc2 tf ty tm td tg tq:=h2;have hbt:=below_alloc (Below.refl wr.heap.size wr) (.cells #[.int .i64 zn,.bool ts,.slice tx tn tc2,.slice ty tm td] 63);have a0:((wr.alloc (.cells #[.int .i64 zn,.bool ts,.slice tx tn tc2,.slice ty tm td] 63))).cell? ⟨wr.heap.size,0,none⟩=some (.int .i64 zn):=by simp [go_sem]
     have a1:((wr.alloc (.cells #[.int .i64 zn,.bool ts,.slice tx tn tc2,.slice ty tm td] 63))).cell? ⟨wr.heap.size,1,none⟩=some (.bool ts):=by simp [go_sem]
     have a2:((wr.alloc (.cells #[.int .i64 zn,.bool ts,.slice tx tn tc2,.slice ty tm td] 63))).cell? ⟨wr.heap.size,2,none⟩=some (.slice tx tn tc2):=by simp [go_sem]
     have a3:((wr.alloc (.cells #[.int .i64 zn,.bool ts,.slice tx tn tc2,.slice ty tm td] 63))).cell? ⟨wr.heap.size,3,none⟩=some (.slice ty tm td):=by simp [go_sem]
     have i2':((p:Nat):Int)<((v.ts.length:Nat):Int):=by omega
     have i3':((zn:Nat):Int)<((cs.length:Nat):Int):=by omega
     have HTV:=hid htv;have hva:∀b,(V zn).ownBlock=some b→b<wr.heap.size:=fun b e=>((HC2.out.row zn hzn).lt b e).2
     have hxz:=BK.out.lt;have hlz:wr.heap.size<(wr.alloc (.cells #[.int .i64 zn,.bool ts,.slice tx tn tc2,.slice ty tm td] 63)).heap.size:=by simp
     clear htv hz0 hz1 h1 h2 h4 hTp;go_upto_region 12 with fail
     clear x0 x1 x2 x3;have HB5:=hid (HB.out.trans (hbt.mono HB.out.size));have HC5:=hid (HC2.out.below hbt);have BK5:=hid (BK.out.below hbt);have R1:=hid (HN.out.below hbt);have R2:=hid ((h2r.below hbz).below hbt);have HL5:Hid (∀j,j<cs.length→Lv (2*L+1) (wr.alloc (.cells #[.int .i64 zn,.bool ts,.slice tx tn tc2,.slice ty tm td] 63)) (E j) (centQ (rs.take i) (ys.take i) j++entQ yq (v.ts.take p) j)):=hid (fun j hj=>(HL.out j hj).below hbt)
     clear hbz hbt h2r HB HC2 BK HN HL;generalize wr.heap.size=bx at *;generalize (wr.alloc (.cells #[.int .i64 zn,.bool ts,.slice tx tn tc2,.slice ty tm td] 63))=w5 at *;have o0:=HC5.out.cell hzn;have v0:=BK5.out.cell (j:=0) rfl;have v1:=BK5.out.cell (j:=1) rfl;have v2:=BK5.out.cell (j:=2) rfl;refine wp_region_phase (S:=(fun w'=>w'.cell? ⟨bx,0,none⟩=some (.int .i64 zn)∧w'.cell? ⟨bx,1,none⟩=some (.bool ts)∧w'.cell? ⟨bx,2,none⟩=some (.slice tx tn tc2)∧w'.cell? ⟨bx,3,none⟩=some (.slice ty tm td)∧w'.cell? ⟨xb,0,none⟩=some (.bool s6)∧w'.cell? ⟨xb,1,none⟩=some (.slice x6 n6 c6)∧w'.cell? ⟨xb,2,none⟩=some (.slice y6 m6 d6)∧w'.cell? ⟨w9.heap.size,zn,none⟩=some (V zn))) 15 (by kernel_rfl) ⟨kCd a0,kCd a1,kCd a2,kCd a3,kCd v0,kCd v1,kCd v2,kCd o0⟩ (fun hHeld=>?_);have hbd:=Below.drew (Below.refl w5.heap.size w5);replace HB5:=hid (HB5.out.trans (hbd.mono HB5.out.size));replace HC5:=hid (HC5.out.below hbd);replace BK5:=hid (BK5.out.below hbd);replace R1:=hid (R1.out.below hbd);replace R2:=hid (R2.out.below hbd);replace HL5:Hid (∀j,j<cs.length→Lv (2*L+1) w5.drew (E j) (centQ (rs.take i) (ys.take i) j++entQ yq (v.ts.take p) j)):=hid (fun j hj=>(HL5.out j hj).below hbd)
     replace hlz:bx<w5.drew.heap.size:=hlz;clear hbd a0 a1 a2 a3 v0 v1 v2 o0;generalize w5.drew=wd at *;refine wpAnyP_skim (i:=0) (v:=?_) rfl (by kernel_rfl) (by kernel_rfl) (by kernel_rfl) (by kernel_rfl) (fun _ _ _ h=>h) (Or.inl ⟨by rfl,?_⟩) (fun _=>by assumption) ?_;rotate_left
     (focus (intro w0 hSw;go_simp <;> with_reducible rfl))
     simp only [List.getElem_toArray,List.getElem_cons_zero,Act.put,List.setIfInBounds_toArray,List.set_cons_zero,List.set_cons_succ];refine wpAnyP_skim (i:=1) (v:=?_) rfl (by kernel_rfl) (by kernel_rfl) (by kernel_rfl) (by kernel_rfl) (fun _ _ _ h=>h) (Or.inl ⟨by rfl,?_⟩) (fun _=>by assumption) ?_;rotate_left
     (focus (intro w0 hSw;go_simp <;> with_reducible rfl))
     simp only [List.getElem_toArray,List.getElem_cons_succ,List.getElem_cons_zero,Act.put,List.setIfInBounds_toArray,List.set_cons_zero,List.set_cons_succ];refine wpAnyP_takeA (i:=2) (v:=?_) rfl (by kernel_rfl) (by kernel_rfl) (by kernel_rfl) (by kernel_rfl) (by kernel_rfl) (by kernel_rfl) (fun _ _ _ h=>h) (Or.inl ⟨by rfl,?_⟩) (by assumption) ?_;rotate_left
     (focus (intro w0 hSw;(try dsimp only at hSw);go_simp <;> with_reducible rfl))
     simp only [List.getElem_toArray,List.getElem_cons_succ,List.getElem_cons_zero,Act.put,List.setIfInBounds_toArray,List.set_cons_zero,List.set_cons_succ];refine wpAnyP_skim (i:=3) (v:=?_) rfl (by kernel_rfl) (by kernel_rfl) (by kernel_rfl) (by kernel_rfl) (fun _ _ _ h=>h) (Or.inl ⟨by rfl,?_⟩) (fun _=>by assumption) ?_;rotate_left
     (focus (intro w0 hSw;go_simp <;> with_reducible rfl))
     simp only [List.getElem_toArray,List.getElem_cons_succ,List.getElem_cons_zero,Act.put,List.setIfInBounds_toArray,List.set_cons_zero,List.set_cons_succ];refine wpAnyP_skim (i:=4) (v:=?_) rfl (by kernel_rfl) (by kernel_rfl) (by kernel_rfl) (by kernel_rfl) (fun _ _ _ h=>h) (Or.inl ⟨by rfl,?_⟩) (fun _=>by assumption) ?_;rotate_left
     (focus (intro w0 hSw;go_simp <;> with_reducible rfl))
     simp only [List.getElem_toArray,List.getElem_cons_succ,List.getElem_cons_zero,Act.put,List.setIfInBounds_toArray,List.set_cons_zero,List.set_cons_succ];refine wpAnyP_takeA (i:=5) (v:=?_) rfl (by kernel_rfl) (by kernel_rfl) (by kernel_rfl) (by kernel_rfl) (by kernel_rfl) (by kernel_rfl) (fun _ _ _ h=>h) (Or.inl ⟨by rfl,?_⟩) (by assumption) ?_;rotate_left
     (focus (intro w0 hSw;(try dsimp only at hSw);go_simp <;> with_reducible rfl))
     simp only [List.getElem_toArray,List.getElem_cons_succ,List.getElem_cons_zero,Act.put,List.setIfInBounds_toArray,List.set_cons_zero,List.set_cons_succ];refine wpAnyP_skim (i:=6) (v:=?_) rfl (by kernel_rfl) (by kernel_rfl) (by kernel_rfl) (by kernel_rfl) (fun _ _ _ h=>h) (Or.inl ⟨by rfl,?_⟩) (fun _=>by assumption) ?_;rotate_left
     (focus (intro w0 hSw;go_simp <;> with_reducible rfl))
     simp only [List.getElem_toArray,List.getElem_cons_succ,List.getElem_cons_zero,Act.put,List.setIfInBounds_toArray,List.set_cons_zero,List.set_cons_succ];refine wpAnyP_takeA (i:=7) (v:=?_) rfl (by kernel_rfl) (by kernel_rfl) (by kernel_rfl) (by kernel_rfl) (by kernel_rfl) (by kernel_rfl) (fun _ _ _ h=>h) (Or.inl ⟨by rfl,?_⟩) (by assumption) ?_;rotate_left
     (focus (intro w0 hSw;(try dsimp only at hSw);go_simp <;> with_reducible rfl))
     simp only [List.getElem_toArray,List.getElem_cons_succ,List.getElem_cons_zero,Act.put,List.setIfInBounds_toArray,List.set_cons_zero,List.set_cons_succ];refine wpAnyP_takeA (i:=8) (v:=?_) rfl (by kernel_rfl) (by kernel_rfl) (by kernel_rfl) (by kernel_rfl) (by kernel_rfl) (by kernel_rfl) (fun _ _ _ h=>h) (Or.inl ⟨by rfl,?_⟩) (by assumption) ?_;rotate_left
     (focus (intro w0 hSw;(try dsimp only at hSw);go_simp <;> with_reducible rfl))
     simp only [List.getElem_toArray,List.getElem_cons_succ,List.getElem_cons_zero,Act.put,List.setIfInBounds_toArray,List.set_cons_zero,List.set_cons_succ];refine wpAnyP_skim (i:=9) (v:=?_) rfl (by kernel_rfl) (by kernel_rfl) (by kernel_rfl) (by kernel_rfl) (fun _ _ _ h=>h) (Or.inl ⟨by rfl,?_⟩) (fun _=>by assumption) ?_;rotate_left
     (focus (intro w0 hSw;go_simp <;> with_reducible rfl))
     simp only [List.getElem_toArray,List.getElem_cons_succ,List.getElem_cons_zero,Act.put,List.setIfInBounds_toArray,List.set_cons_zero,List.set_cons_succ];refine wpAnyP_takeA (i:=10) (v:=?_) rfl (by kernel_rfl) (by kernel_rfl) (by kernel_rfl) (by kernel_rfl) (by kernel_rfl) (by kernel_rfl) (fun _ _ _ h=>h) (Or.inl ⟨by rfl,?_⟩) (by assumption) ?_;rotate_left
     (focus (intro w0 hSw;(try dsimp only at hSw);go_simp <;> with_reducible rfl))
     simp only [List.getElem_toArray,List.getElem_cons_succ,List.getElem_cons_zero,Act.put,List.setIfInBounds_toArray,List.set_cons_zero,List.set_cons_succ];refine wpAnyP_ready (rs:=[11]) (by kernel_rfl) (by simp) ?_;refine AllReadyP.cons (o:=_) rfl (fun K hK=>?_) ?_;rotate_left;exact AllReadyP.nil;go_simp
     go_at_call 39
     refine (dtimes_c (L:=L) R1.out R2.out (by omega)).mono ?_;rintro e w6 ⟨s7,x7,n7,c7,f7,y7,m7,d7,g7,rfl,hb6,hq7⟩
     (try go_wp2_with fail)
     have yy0:=kCb hb6 (hHeld.1);have yy1:=kCb hb6 (hHeld.2.1);have yy2:=kCb hb6 (hHeld.2.2.1);have yy3:=kCb hb6 (hHeld.2.2.2.1);have yy4:=kCb hb6 (hHeld.2.2.2.2.1);have yy5:=kCb hb6 (hHeld.2.2.2.2.2.1);have yy6:=kCb hb6 (hHeld.2.2.2.2.2.2.1);have yy7:=kCb hb6 (hHeld.2.2.2.2.2.2.2);refine hK.out _ _ (fun _=>⟨yy0,yy1,yy2,yy3,yy4,yy5,yy6,yy7⟩) (fun hS6=>?_);clear hK K hS6;try simp only [lay_,Act.put]
     replace HB5:=hid (HB5.out.trans (hb6.mono HB5.out.size));replace HC5:=hid (HC5.out.below hb6);replace BK5:=hid (BK5.out.below hb6);replace R1:=hid (R1.out.below hb6);replace HL5:Hid (∀j,j<cs.length→Lv (2*L+1) w6 (E j) (centQ (rs.take i) (ys.take i) j++entQ yq (v.ts.take p) j)):=hid (fun j hj=>(HL5.out j hj).below hb6)
     replace hlz:bx<w6.heap.size:=Nat.lt_of_lt_of_le hlz hb6.size;have HQ7:=hid hq7;clear hb6 hq7 R2 hHeld;refine wpAnyP_ready (rs:=[12]) (by kernel_rfl) (by simp) ?_;refine AllReadyP.cons (o:=_) rfl (fun K hK=>?_) ?_;rotate_left;exact AllReadyP.nil;go_simp;refine hK.out _ _ (fun _=>⟨kCa yy0,kCa yy1,kCa yy2,kCa yy3,kCa yy4,kCa yy5,kCa yy6,kCa yy7⟩) (fun hS7=>?_);clear hK K hS7;try simp only [lay_,Act.put]
     refine wpAnyP_ready (rs:=[13]) (by kernel_rfl) (by simp) ?_;refine AllReadyP.cons (o:=_) rfl (fun K hK=>?_) ?_;rotate_left;exact AllReadyP.nil;have hrow:=HC5.out.row zn hzn;have hen:(E zn).length≤65:=by
      rw [(HL5.out zn hzn).1,List.length_append];have h1:=centQ_len (n:=cs.length) (j:=zn) (rs:=rs.take i) (ys:=ys.take i) (fun v hv=>HTB.out v (List.mem_of_mem_take hv));have h2:=entQ_len (y:=yq) (j:=zn) (tsB_takeD p HT2.out);rw [List.length_take] at h1;omega
     have hsz6:w9.heap.size≤w6.heap.size:=HB5.out.size;refine step_append_oneW w6 rfl (.tmp 63) (.tmp 68) 29 rfl w9.heap.size 24 56 3 (.agg #[.bool false,.slice none 0 0,.slice none 0 0]) Tryz.underlying29 Tryz.infoRat rfl (by decide) nz3 (V zn) (E zn).length _ rfl hrow #[.bool s7,.slice x7 n7 c7,.slice y7 m7 d7] rfl rfl (one3 _ _ _ _ _ _ _) (not3 _ _ _ _ _ _ _) ?p1 ?p2 hsz6 ?_
     case p1=>omega
     case p2=>omega
     intro g8 cap8 w8 hr8 hk8 hb8 hg8 hl8;have hBx:=hg8 bx hlz (fun e=>absurd (hva _ e) (Nat.lt_irrefl _));have hXb:=hg8 xb BK5.out.lt (fun e=>HC5.out.nx zn hzn xb e rfl);have hO8:=hg8 w9.heap.size HC5.out.lt (HC5.out.ne zn hzn);have uu0:=(World.cell?_of_block (a:=⟨bx,0,none⟩) hBx).trans yy0;have uu1:=(World.cell?_of_block (a:=⟨bx,1,none⟩) hBx).trans yy1;have uu2:=(World.cell?_of_block (a:=⟨bx,2,none⟩) hBx).trans yy2;have uu3:=(World.cell?_of_block (a:=⟨bx,3,none⟩) hBx).trans yy3;have uu4:=(World.cell?_of_block (a:=⟨xb,0,none⟩) hXb).trans yy4;have uu5:=(World.cell?_of_block (a:=⟨xb,1,none⟩) hXb).trans yy5;have uu6:=(World.cell?_of_block (a:=⟨xb,2,none⟩) hXb).trans yy6;have uu7:=(World.cell?_of_block (a:=⟨w9.heap.size,zn,none⟩) hO8).trans yy7;have ff:w8.frozen? ⟨w9.heap.size,zn,none⟩=false:=by obtain ⟨cur,h1,_⟩:=HC5.out.bl;simp [World.frozen?,hO8,h1]
     refine hK.out _ _ (fun _=>⟨uu0,uu1,uu2,uu3,uu4,uu5,uu6,uu7⟩) (fun hS8=>?_);clear hK K hS8;try simp only [lay_,Act.put]
     refine wpAnyP_ready (rs:=[14]) (by kernel_rfl) (by simp) ?_;refine AllReadyP.cons (o:=_) rfl (fun K hK=>?_) ?_;rotate_left;exact AllReadyP.nil;go_simp;refine hK.out _ _ (fun _=>⟨uu0,uu1,uu2,uu3,uu4,uu5,uu6,uu7⟩) (fun hS9=>?_);clear hK K hS9;try simp only [lay_,Act.put]
     refine wpAnyP_ready (rs:=[15]) (by kernel_rfl) (by simp) ?_;refine AllReadyP.cons (o:=_) rfl (fun K hK=>?_) ?_;rotate_left;exact AllReadyP.nil;go_simp;refine hK.out _ _ (fun h=>by cases h) (fun _=>?_);clear hK K;try simp only [Act.put,List.setIfInBounds_toArray,List.set_cons_zero,List.set_cons_succ]
     refine wpAnyP_done (by kernel_rfl) ?_ _;have HB9:=hid (below_turned (hb8 w9 HB5.out (Nat.le_refl _)) (Nat.le_trans hsz6 hk8.size) ((Turned.refl w9.heap.size (w9.heap.size+1) w8).set (x:=⟨w9.heap.size,zn,none⟩) HC5.out.ge (by simp) (.slice (some ⟨g8,0,none⟩) ((E zn).length+1) cap8)) (Nat.le_refl _));have hkp:Kp w6 (w8.setCell ⟨w9.heap.size,zn,none⟩ (.slice (some ⟨g8,0,none⟩) ((E zn).length+1) cap8)):=by
      obtain ⟨cur,h1,_,h2,_⟩:=HC5.out.bl;exact hk8.set (x:=⟨w9.heap.size,zn,none⟩) (hO8.trans h1) h2 _
     have HC9:=hid (HC5.out.put hzn (cap8:=cap8) (x:=⟨s7,x7,n7,c7,f7,y7,m7,d7,g7⟩) rfl (fun b e=>by rw [e];exact BK5.out.lt) hr8 hg8 hl8);have BK9:=hid (BK5.out.of (w':=w8.setCell ⟨w9.heap.size,zn,none⟩ (.slice (some ⟨g8,0,none⟩) ((E zn).length+1) cap8)) (by rw [Below.heap_setCell _ _ _ _ (fun e=>HC5.out.xg e.symm)];exact hXb));have HN9:=hid (Rn.kp R1.out hkp);have HL9:Hid (∀j,j<cs.length→Lv (2*L+1) (w8.setCell ⟨w9.heap.size,zn,none⟩ (.slice (some ⟨g8,0,none⟩) ((E zn).length+1) cap8)) (if j=zn then E zn++[⟨s7,x7,n7,c7,f7,y7,m7,d7,g7⟩] else E j) (centQ (rs.take i) (ys.take i) j++entQ yq (v.ts.take (p+1)) j)):=fun j hj=>by
      rw [entQ_take j HTV.out,←List.append_assoc];by_cases e:j=zn
      ·subst e;rw [if_pos rfl,if_pos rfl];exact ((HL5.out j hj).kp hkp).snoc (Rn.kp HQ7.out hkp)
      ·rw [if_neg e,if_neg (fun h=>e (by omega)),List.append_nil];exact (HL5.out j hj).kp hkp
     clear hr8 hk8 hb8 hg8 hl8 hBx hXb hO8 ff hkp hrow HC5 HB5 BK5 R1 HQ7 HL5 hsz6 uu0 yy0 uu1 yy1 uu2 yy2 uu3 yy3 uu4 yy4 uu5 yy5 uu6 yy6 uu7 yy7;go_wp2;go_roundw
     case rel=>exact ⟨p+1,_,_,by omega,by go_num,HB9.out,HC9.out,BK9.out,HN9.out,HL9.out⟩
     case measure=>simp [intOf];omega
    ·have e1:p=v.ts.length:=by omega
     have i4':¬(((p:Nat):Int)<((v.ts.length:Nat):Int)):=by omega
     have HC7:=hid (HC2.out.unx (fun _=>False) (fun b h=>h.elim));have HL7:Hid (∀j,j<cs.length→Lv (2*L+1) wr (E j) (centQ (rs.take (i+1)) (ys.take (i+1)) j)):=fun j hj=>by
      have h:=HL.out j hj;rw [List.take_of_length_le (show v.ts.length≤p by omega)] at h;rw [centQ_take j HV.out HYQ.out];exact h
     clear HC2 HL BK HN HTS e1;go_wp2;go_roundw
     case rel=>exact ⟨i+1,_,_,by omega,by go_num,HB.out,HC7.out,HL7.out⟩
     case measure=>simp [intOf];omega
  ·have e1:i=rs.length:=by omega
   have i4':¬(((i:Nat):Int)<((rs.length:Nat):Int)):=by omega
   have HL7:Hid (∀j,j<cs.length→Lv (2*L+1) wr (E j) (centQ rs ys j)):=fun j hj=>by
    have h:=HL.out j hj;rw [List.take_of_length_le (show rs.length≤i by omega),List.take_of_length_le (by have:=HYL.out;omega)] at h;exact h
   have HV0:Hid (∀j,j<cs.length→∀b,(V j).ownBlock=some b→b<wr.heap.size):=fun j hj b e=>((HC2.out.row j hj).lt b e).2
   have HNE:=hid HC2.out.ne;have HDJ:=hid HC2.out.dj;have hgl:=HC2.out.lt;have HCT:=hid HC2.out.ct;have k3:=kCb HB.out HK3.out
   clear HL e1 HC2;go_wp2_with fail
   clear k3;generalize hw2:wr=w2 at *;clear hw2;go_loopw [14,76] (fun zv t wz=>∃(i:Nat),i≤cs.length∧t=.int .i64 i∧Hid (Below w9.heap.size w9 wz)∧Hid (w2.heap.size≤wz.heap.size)∧Hid (Ct w9.heap.size wz w9.heap.size cs.length i V E)∧Hid (∀j,j<cs.length→Lv (2*L+1) wz (E j) (centQ rs ys j))∧Hid (Gr (KV L) w2.heap.size wz zv (redC rs ys 0 (cs.take i)))) (fun _ t _=>cs.length-(intOf t).toNat)
   case atStart=>exact ⟨0,by omega,rfl,HB.out,Nat.le_refl _,HCT.out,HL7.out,gr_nil _ _ _⟩
   case round =>
    clear HB HCT HL7;obtain ⟨i,hi,rfl,HB,HW2,HCT,HL,HG⟩:=hrel;have hgl2:(redC rs ys 0 (cs.take i)).length=i:=by rw [redC_len,List.length_take];omega
    by_cases hlt:i<cs.length
    ·obtain ⟨v,hv⟩:∃t,cs[i]?=some t:=⟨_,List.getElem?_eq_getElem (by omega)⟩;have hbw:=HBA.out.trans (HB.out.mono HBA.out.size);obtain ⟨⟨b,o,hca,hc⟩,hV⟩:=HC.out i v hv;subst hca;have hcost:=hV.cost.below hbw;obtain ⟨⟨z,⟨s0,x0,n0,c0,f0,y0,m0,d0,g0⟩,⟨i1,⟨s1,x1,n1,c1,f1,y1,m1,d1,g1⟩⟩,⟨i2,⟨s2,x2,n2,c2,f2,y2,m2,d2,g2⟩⟩⟩,hCi⟩:∃t,C i=t:=⟨_,rfl⟩;rw [hCi] at hc hcost;replace hcost:Rn L wr s0 x0 n0 c0 f0 y0 m0 d0 g0 v.cost:=hcost;replace hc:=Cs.below hc hbw;have q0:wr.cell? ⟨b,o+i*12,none⟩=some (.string z):=hc 0 _ rfl;have q1:wr.cell? ⟨b,o+i*12+1,none⟩=some (.bool s0):=hc 1 _ rfl;have q2:wr.cell? ⟨b,o+i*12+2,none⟩=some (.slice x0 n0 c0):=hc 2 _ rfl;have q3:wr.cell? ⟨b,o+i*12+3,none⟩=some (.slice y0 m0 d0):=hc 3 _ rfl;have q4:wr.cell? ⟨b,o+i*12+4,none⟩=some (.int .i64 i1):=hc 4 _ rfl;have q5:wr.cell? ⟨b,o+i*12+5,none⟩=some (.bool s1):=hc 5 _ rfl;have q6:wr.cell? ⟨b,o+i*12+6,none⟩=some (.slice x1 n1 c1):=hc 6 _ rfl;have q7:wr.cell? ⟨b,o+i*12+7,none⟩=some (.slice y1 m1 d1):=hc 7 _ rfl;have q8:wr.cell? ⟨b,o+i*12+8,none⟩=some (.int .i64 i2):=hc 8 _ rfl;have q9:wr.cell? ⟨b,o+i*12+9,none⟩=some (.bool s2):=hc 9 _ rfl;have q10:wr.cell? ⟨b,o+i*12+10,none⟩=some (.slice x2 n2 c2):=hc 10 _ rfl;have q11:wr.cell? ⟨b,o+i*12+11,none⟩=some (.slice y2 m2 d2):=hc 11 _ rfl;have hbt:=below_alloc (Below.refl wr.heap.size wr) (.cells #[.string z,.bool s0,.slice x0 n0 c0,.slice y0 m0 d0,.int .i64 i1,.bool s1,.slice x1 n1 c1,.slice y1 m1 d1,.int .i64 i2,.bool s2,.slice x2 n2 c2,.slice y2 m2 d2] 58);have a1:(wr.alloc (.cells #[.string z,.bool s0,.slice x0 n0 c0,.slice y0 m0 d0,.int .i64 i1,.bool s1,.slice x1 n1 c1,.slice y1 m1 d1,.int .i64 i2,.bool s2,.slice x2 n2 c2,.slice y2 m2 d2] 58)).cell? ⟨wr.heap.size,1,none⟩=some (.bool s0):=by simp [go_sem]
     have a2:(wr.alloc (.cells #[.string z,.bool s0,.slice x0 n0 c0,.slice y0 m0 d0,.int .i64 i1,.bool s1,.slice x1 n1 c1,.slice y1 m1 d1,.int .i64 i2,.bool s2,.slice x2 n2 c2,.slice y2 m2 d2] 58)).cell? ⟨wr.heap.size,2,none⟩=some (.slice x0 n0 c0):=by simp [go_sem]
     have a3:(wr.alloc (.cells #[.string z,.bool s0,.slice x0 n0 c0,.slice y0 m0 d0,.int .i64 i1,.bool s1,.slice x1 n1 c1,.slice y1 m1 d1,.int .i64 i2,.bool s2,.slice x2 n2 c2,.slice y2 m2 d2] 58)).cell? ⟨wr.heap.size,3,none⟩=some (.slice y0 m0 d0):=by simp [go_sem]
     have i1':((i:Nat):Int)<((cs.length:Nat):Int):=by omega
     have HV2:=hid hv;clear hCi hc hV hv hbw;go_upto_region 19 with fail
     clear q0 q1 q2 q3 q4 q5 q6 q7 q8 q9 q10 q11;have HB5:=hid (HB.out.trans (hbt.mono HB.out.size));have HC5:=hid (HCT.out.below hbt);have HG5:=hid (HG.out.below hbt);have R2:=hid (hcost.below hbt);have HW5:=hid (Nat.le_trans HW2.out hbt.size)
     have HL5:Hid (∀j,j<cs.length→Lv (2*L+1) (wr.alloc (.cells #[.string z,.bool s0,.slice x0 n0 c0,.slice y0 m0 d0,.int .i64 i1,.bool s1,.slice x1 n1 c1,.slice y1 m1 d1,.int .i64 i2,.bool s2,.slice x2 n2 c2,.slice y2 m2 d2] 58)) (E j) (centQ rs ys j)):=hid (fun j hj=>(HL.out j hj).below hbt);clear hbt hcost HB HCT HG HW2 HL;generalize wr.heap.size=bx at *;generalize (wr.alloc (.cells #[.string z,.bool s0,.slice x0 n0 c0,.slice y0 m0 d0,.int .i64 i1,.bool s1,.slice x1 n1 c1,.slice y1 m1 d1,.int .i64 i2,.bool s2,.slice x2 n2 c2,.slice y2 m2 d2] 58))=w5 at *;have o0:=HC5.out.cell i (Nat.le_refl _) hlt;have i3':=i1';refine wp_region_phase (S:=(fun w'=>w'.cell? ⟨bx,1,none⟩=some (.bool s0)∧w'.cell? ⟨bx,2,none⟩=some (.slice x0 n0 c0)∧w'.cell? ⟨bx,3,none⟩=some (.slice y0 m0 d0)∧w'.cell? ⟨w9.heap.size,i,none⟩=some (V i))) 8 (by kernel_rfl) ⟨kCd a1,kCd a2,kCd a3,kCd o0⟩ (fun hHeld=>?_);have hbd:=Below.drew (Below.refl w5.heap.size w5);replace HB5:=hid (HB5.out.trans (hbd.mono HB5.out.size));replace HC5:=hid (HC5.out.below hbd);replace HG5:=hid (HG5.out.below hbd);replace R2:=hid (R2.out.below hbd);replace HW5:=hid (Nat.le_trans HW5.out hbd.size);replace HL5:Hid (∀j,j<cs.length→Lv (2*L+1) w5.drew (E j) (centQ rs ys j)):=hid (fun j hj=>(HL5.out j hj).below hbd)
     clear hbd a1 a2 a3 o0;generalize w5.drew=wd at *;refine wpAnyP_skim (i:=0) (v:=?_) rfl (by kernel_rfl) (by kernel_rfl) (by kernel_rfl) (by kernel_rfl) (fun _ _ _ h=>h) (Or.inl ⟨by rfl,?_⟩) (fun _=>by assumption) ?_;rotate_left
     (focus (intro w0 hSw;go_simp <;> with_reducible rfl))
     simp only [List.getElem_toArray,List.getElem_cons_zero,Act.put,List.setIfInBounds_toArray,List.set_cons_zero,List.set_cons_succ];refine wpAnyP_skim (i:=1) (v:=?_) rfl (by kernel_rfl) (by kernel_rfl) (by kernel_rfl) (by kernel_rfl) (fun _ _ _ h=>h) (Or.inl ⟨by rfl,?_⟩) (fun _=>by assumption) ?_;rotate_left
     (focus (intro w0 hSw;go_simp <;> with_reducible rfl))
     simp only [List.getElem_toArray,List.getElem_cons_succ,List.getElem_cons_zero,Act.put,List.setIfInBounds_toArray,List.set_cons_zero,List.set_cons_succ];refine wpAnyP_skim (i:=2) (v:=?_) rfl (by kernel_rfl) (by kernel_rfl) (by kernel_rfl) (by kernel_rfl) (fun _ _ _ h=>h) (Or.inl ⟨by rfl,?_⟩) (fun _=>by assumption) ?_;rotate_left
     (focus (intro w0 hSw;go_simp <;> with_reducible rfl))
     simp only [List.getElem_toArray,List.getElem_cons_succ,List.getElem_cons_zero,Act.put,List.setIfInBounds_toArray,List.set_cons_zero,List.set_cons_succ];refine wpAnyP_skim (i:=3) (v:=?_) rfl (by kernel_rfl) (by kernel_rfl) (by kernel_rfl) (by kernel_rfl) (fun _ _ _ h=>h) (Or.inl ⟨by rfl,?_⟩) (fun _=>by assumption) ?_;rotate_left
     (focus (intro w0 hSw;go_simp <;> with_reducible rfl))
     simp only [List.getElem_toArray,List.getElem_cons_succ,List.getElem_cons_zero,Act.put,List.setIfInBounds_toArray,List.set_cons_zero,List.set_cons_succ];refine wpAnyP_takeA (i:=4) (v:=?_) rfl (by kernel_rfl) (by kernel_rfl) (by kernel_rfl) (by kernel_rfl) (by kernel_rfl) (by kernel_rfl) (fun _ _ _ h=>h) (Or.inl ⟨by rfl,?_⟩) (by assumption) ?_;rotate_left
     (focus (intro w0 hSw;(try dsimp only at hSw);go_simp <;> with_reducible rfl))
     simp only [List.getElem_toArray,List.getElem_cons_succ,List.getElem_cons_zero,Act.put,List.setIfInBounds_toArray,List.set_cons_zero,List.set_cons_succ];refine wpAnyP_skim (i:=5) (v:=?_) rfl (by kernel_rfl) (by kernel_rfl) (by kernel_rfl) (by kernel_rfl) (fun _ _ _ h=>h) (Or.inl ⟨by rfl,?_⟩) (fun _=>by assumption) ?_;rotate_left
     (focus (intro w0 hSw;go_simp <;> with_reducible rfl))
     simp only [List.getElem_toArray,List.getElem_cons_succ,List.getElem_cons_zero,Act.put,List.setIfInBounds_toArray,List.set_cons_zero,List.set_cons_succ];refine wpAnyP_takeA (i:=6) (v:=?_) rfl (by kernel_rfl) (by kernel_rfl) (by kernel_rfl) (by kernel_rfl) (by kernel_rfl) (by kernel_rfl) (fun _ _ _ h=>h) (Or.inl ⟨by rfl,?_⟩) (by assumption) ?_;rotate_left
     (focus (intro w0 hSw;(try dsimp only at hSw);go_simp <;> with_reducible rfl))
     simp only [List.getElem_toArray,List.getElem_cons_succ,List.getElem_cons_zero,Act.put,List.setIfInBounds_toArray,List.set_cons_zero,List.set_cons_succ];refine wpAnyP_ready (rs:=[7]) (by kernel_rfl) (by simp) ?_;refine AllReadyP.cons (o:=_) rfl (fun K hK=>?_) ?_;rotate_left;exact AllReadyP.nil;go_simp;refine hK.out _ _ (fun _=>⟨kCa (hHeld.1),kCa (hHeld.2.1),kCa (hHeld.2.2.1),kCa (hHeld.2.2.2)⟩) (fun hS7=>?_);clear hK K hS7;try simp only [lay_,Act.put]
     refine wpAnyP_ready (rs:=[8]) (by kernel_rfl) (by simp) ?_;refine AllReadyP.cons (o:=_) rfl (fun K hK=>?_) ?_;rotate_left;exact AllReadyP.nil;have hrow:=HC5.out.row i (Nat.le_refl _) hlt;have hen:(E i).length≤64:=by
      rw [(HL5.out i hlt).1];have h1:=centQ_len (n:=cs.length) (j:=i) (rs:=rs) (ys:=ys) HTB.out;omega
     have hsz5:w9.heap.size≤wd.heap.size:=HB5.out.size;refine step_append_oneW wd rfl (.tmp 85) (.tmp 88) 29 rfl w9.heap.size 24 56 3 (.agg #[.bool false,.slice none 0 0,.slice none 0 0]) Tryz.underlying29 Tryz.infoRat rfl (by decide) nz3 (V i) (E i).length _ rfl hrow #[.bool s0,.slice x0 n0 c0,.slice y0 m0 d0] rfl rfl (one3 _ _ _ _ _ _ _) (not3 _ _ _ _ _ _ _) ?p1 ?p2 hsz5 ?_
     case p1=>omega
     case p2=>omega
     intro g8 cap8 w8 hr8 hk8 hb8 hg8 hl8;have HB8:=hid (hb8 w9 HB5.out (Nat.le_refl _));have hzo:=HG5.out.own;have HG8:=hid (HG5.out.of (w':=w8) (fun b e=>hg8 b (hzo b e).2 (fun e2=>by have h1:=HV0.out i hlt b e2;have h2:=(hzo b e).1;omega)) hk8);have HC8:=hid (HC5.out.of (w':=w8) (Nat.le_succ i) (hg8 w9.heap.size (Nat.lt_of_lt_of_le hgl HW5.out) (HNE.out i hlt)) (fun j h1 h2 b e=>hg8 b (Nat.lt_of_lt_of_le (HV0.out j h2 b e) HW5.out) (fun e2=>HDJ.out i j hlt h2 (by omega) b e2 e)));have HL8:Hid (∀j,j<cs.length→Lv (2*L+1) w8 (E j) (centQ rs ys j)):=fun j hj=>(HL5.out j hj).kp hk8
     have R8:Rn (2*L+1) w8 s0 x0 n0 c0 f0 y0 m0 d0 g0 v.cost:=(Rn.kp R2.out hk8).mono (by omega);have HP8:=hid (rowg_rf (ao:=some ⟨g8,0,none⟩) (n:=(E i).length+1) (cap:=cap8) (E:=E i++[⟨s0,x0,n0,c0,f0,y0,m0,d0,g0⟩]) (by rw [List.length_append,List.length_singleton,show rcells (E i++[⟨s0,x0,n0,c0,f0,y0,m0,d0,g0⟩])=rcells (E i)++rcell ⟨s0,x0,n0,c0,f0,y0,m0,d0,g0⟩ by simp [rcells]];exact hr8) (Lv.snoc (t:=⟨s0,x0,n0,c0,f0,y0,m0,d0,g0⟩) (q:=v.cost) (HL8.out i hlt) R8) (by simp));have HLE:=hid (HL8.out i hlt).1;have HW8:=hid (Nat.le_trans HW5.out hk8.size);clear hr8 hk8 hb8 hg8 hl8 hrow R8 R2 HB5 HC5 HG5 HL5 hsz5 hzo HW5 hHeld;refine hK.out _ _ (fun h=>by cases h) (fun _=>?_);clear hK K;try simp only [Act.put,List.setIfInBounds_toArray]
     refine wpAnyP_ready (rs:=[9]) (by kernel_rfl) (by simp) ?_;refine AllReadyP.cons (o:=_) rfl (fun K hK=>?_) ?_;rotate_left;exact AllReadyP.nil;go_simp
     go_at_call 35
     refine (pSum_c (L:=2*L+1) HP8.out (by rw [List.length_append,←HLE.out];rfl) (by omega) (by omega)).mono ?_;rintro e w7 ⟨s7,x7,n7,c7,f7,y7,m7,d7,g7,rfl,hb7,hq7⟩
     (try go_wp2_with fail)
     have HQ7:=hid (show Rn (KV L) w7 s7 x7 n7 c7 f7 y7 m7 d7 g7 (psum (centQ rs ys i++[v.cost]) 0) from hq7.mono (by unfold KV;have:((E i).length+1)*(2*L+1+1)≤65*(2*L+1+1):=Nat.mul_le_mul_right _ (by omega);omega));replace HB8:=hid (HB8.out.trans (hb7.mono HB8.out.size));replace HC8:=hid (HC8.out.below hb7);replace HG8:=hid (HG8.out.below hb7);replace HL8:Hid (∀j,j<cs.length→Lv (2*L+1) w7 (E j) (centQ rs ys j)):=hid (fun j hj=>(HL8.out j hj).below hb7);replace HW8:=hid (Nat.le_trans HW8.out hb7.size)
     clear hb7 hq7 HP8 HLE hen;refine hK.out _ _ (fun h=>by cases h) (fun _=>?_);clear hK K;try simp only [Act.put,List.setIfInBounds_toArray,List.set_cons_zero,List.set_cons_succ]
     refine wpAnyP_ready (rs:=[10]) (by kernel_rfl) (by simp) ?_;refine AllReadyP.cons (o:=_) rfl (fun K hK=>?_) ?_;rotate_left;exact AllReadyP.nil;go_simp;refine hK.out _ _ (fun h=>by cases h) (fun _=>?_);clear hK K;try simp only [Act.put,List.setIfInBounds_toArray,List.set_cons_zero,List.set_cons_succ]
     refine wpAnyP_ready (rs:=[11]) (by kernel_rfl) (by simp) ?_;refine AllReadyP.cons (o:=_) rfl (fun K hK=>?_) ?_;rotate_left;exact AllReadyP.nil;have hzo:=HG8.out.own;obtain ⟨T,hrow,hT⟩:=HG8.out;rw [hgl2] at hrow;have hsz8:w2.heap.size≤w7.heap.size:=HW8.out;refine step_append_oneW w7 rfl (.tmp 81) (.tmp 91) 29 rfl w2.heap.size 24 56 3 (.agg #[.bool false,.slice none 0 0,.slice none 0 0]) Tryz.underlying29 Tryz.infoRat rfl (by decide) nz3 u14 i _ rfl hrow #[.bool s7,.slice x7 n7 c7,.slice y7 m7 d7] rfl rfl (one3 _ _ _ _ _ _ _) (not3 _ _ _ _ _ _ _) ?p3 ?p4 hsz8 ?_
     case p3=>omega
     case p4=>omega
     intro g10 cap10 w10 hr10 hk10 hb10 hg10 hl10;have HB10:=hid (hb10 w9 HB8.out (Nat.le_of_lt hgl));have HC10:=hid (HC8.out.of (w':=w10) (Nat.le_refl _) (hg10 w9.heap.size (Nat.lt_of_lt_of_le hgl HW8.out) (fun e=>by have:=(hzo _ e).1;omega)) (fun j h1 h2 b e=>hg10 b (Nat.lt_of_lt_of_le (HV0.out j h2 b e) HW8.out) (fun e2=>by have h3:=HV0.out j h2 b e;have h4:=(hzo b e2).1;omega)));have HL10:Hid (∀j,j<cs.length→Lv (2*L+1) w10 (E j) (centQ rs ys j)):=fun j hj=>(HL8.out j hj).kp hk10
     have HG10:Hid (Gr (KV L) w2.heap.size w10 (.slice (some ⟨g10,0,none⟩) (i+1) cap10) (redC rs ys 0 (cs.take (i+1)))):=by
      have hp8:=gr_push hT (by rw [hgl2];exact hr10) hk10 HQ7.out;rw [hgl2] at hp8;rw [redC_take rs ys 0 HV2.out,Nat.zero_add];exact hp8
     have HW10:=hid (Nat.le_trans HW8.out hk10.size);clear hr10 hk10 hb10 hg10 hl10 hrow hT hzo HB8 HC8 HG8 HL8 HW8 HQ7 hsz8;refine hK.out _ _ (fun h=>by cases h) (fun _=>?_);clear hK K;try simp only [Act.put,List.setIfInBounds_toArray]
     refine wpAnyP_skim (i:=12) (v:=?_) rfl (by kernel_rfl) (by kernel_rfl) (by kernel_rfl) (by kernel_rfl) (fun _ _ _ h=>h) (Or.inl ⟨by rfl,?_⟩) (fun h=>by cases h) ?_;rotate_left
     (focus (intro w0 hSw;go_simp <;> with_reducible rfl))
     simp only [List.getElem_toArray,List.getElem_cons_succ,List.getElem_cons_zero,Act.put,List.setIfInBounds_toArray,List.set_cons_zero,List.set_cons_succ];refine wpAnyP_done (by kernel_rfl) ?_ _;go_wp2;go_roundw
     case rel=>exact ⟨i+1,by omega,by go_num,HB10.out,HW10.out,HC10.out,HL10.out,HG10.out⟩
     case measure=>simp [intOf];omega
    ·have e1:i=cs.length:=by omega
     have i4':¬(((i:Nat):Int)<((cs.length:Nat):Int)):=by omega
     obtain ⟨va,vc,hvs,hvc⟩:=HG.out.slice;rw [hgl2] at hvs hvc;have HG4:=HG.out;rw [hvs,List.take_of_length_le (show cs.length≤i by omega)] at HG4;replace HG4:=hid (show Rf (KV L) wr va (redC rs ys 0 cs) from HG4.rf);subst hvs;have HE:=hid (show cs.length=i by omega);have HV4:=hid hvc;clear HG e1 hvc HL HCT;go_wp2
     go_ret2
     exact ⟨HBA.out.trans (HB.out.mono HBA.out.size),.inr ⟨rfl,va,vc,by rw [HE.out];rfl,by rw [HE.out];exact HV4.out,HG4.out⟩⟩
def OXL (K:Nat) (k:Int) (P:Int→Rat→Prop) (w':World) (i:Int) (s:Bool) (x:Option Addr) (n c:Nat) (f:Nat→Int) (y:Option Addr) (m d:Nat) (g:Nat→Int) (er:Int):Prop :=
 er=k∧(k≠0∧(i=0∧n=0∧m=0∧s=false)∨k=0∧∃q,P i q∧En K w' i s x n c f y m d g q)
def MResL (K:Nat) (k:Int) (P:Int→Rat→Prop) (w w':World) (e:Ending):Prop:=∃i s x n c f y m d g er,e=.returned (.tuple #[.agg #[.int .i64 i,.bool s,.slice x n c,.slice y m d],.int .i64 er])∧Below w.heap.size w w'∧Hid (OXL K k P w' i s x n c f y m d g er)
set_option maxRecDepth 100000 in
set_option maxHeartbeats 4000000 in
theorem eScale_l {w:World} {L:Nat} {i:Int} {s:Bool} {x:Option Addr} {n c:Nat} {f:Nat→Int} {y:Option Addr} {m d:Nat} {g:Nat→Int} {s2:Bool} {x2:Option Addr} {n2 c2:Nat} {f2:Nat→Int} {y2:Option Addr} {m2 d2:Nat} {g2:Nat→Int} {p1 p2:Bool} {q r:Rat} (hL4:4≤L) (hL:L≤4096) (h1:Rw w x n c f y m d g) (h2:Rw w x2 n2 c2 f2 y2 m2 d2 g2) (hn:n≤4096) (hm:m≤4096) (hn2:n2≤4096) (hm2:m2≤4096) (hp1:efB i s f n g m=p1) (hp2:rfB s2 f2 n2 g2 m2=p2) (hq1:p1=true→En L w i s x n c f y m d g q) (hq2:p2=true→Rn L w s2 x2 n2 c2 f2 y2 m2 d2 g2 r) :
  Calls Tryz.prog 59 #[.agg #[.int .i64 i,.bool s,.slice x n c,.slice y m d],.agg #[.bool s2,.slice x2 n2 c2,.slice y2 m2 d2]] w fun e w'=>MResL (2*L+1) (ks (p1 && p2) n2) (PScale i q r s2) w w' e:=by
 have k1:=((bx4_at w (.int .i64 i) (.bool s) (.slice x n c) (.slice y m d) 41).alloc (.cells #[.bool s2,.slice x2 n2 c2,.slice y2 m2 d2] 24)).alloc (.cells #[.int .i64 0,.bool false,.slice none 0 0,.slice none 0 0] 41);have k2:=(bx3_at (w.alloc (.cells #[.int .i64 i,.bool s,.slice x n c,.slice y m d] 41)) (.bool s2) (.slice x2 n2 c2) (.slice y2 m2 d2) 24).alloc (.cells #[.int .i64 0,.bool false,.slice none 0 0,.slice none 0 0] 41);rw [size_alloc1] at k2;have k5:=ob4_new ((w.alloc (.cells #[.int .i64 i,.bool s,.slice x n c,.slice y m d] 41)).alloc (.cells #[.bool s2,.slice x2 n2 c2,.slice y2 m2 d2] 24)) 41;rw [size_alloc1,size_alloc1] at k5;have k3:=below_alloc (below_alloc (below_alloc (Below.refl w.heap.size w) (.cells #[.int .i64 i,.bool s,.slice x n c,.slice y m d] 41)) (.cells #[.bool s2,.slice x2 n2 c2,.slice y2 m2 d2] 24)) (.cells #[.int .i64 0,.bool false,.slice none 0 0,.slice none 0 0] 41);have HR1:=hid (h1.below k3);have HR2:=hid (h2.below k3);have HP1:=hid hp1;have HP2:=hid hp2;have HQ1:=hid (fun k=>(hq1 k).below k3);have HQ2:=hid (fun k=>(hq2 k).below k3)
 clear h1 h2 hp1 hp2 hq1 hq2;go_enter Tryz.func59,Tryz.ntmps59;go_upto_region 1 with fail
 generalize ((w.alloc (.cells #[.int .i64 i,.bool s,.slice x n c,.slice y m d] 41)).alloc (.cells #[.bool s2,.slice x2 n2 c2,.slice y2 m2 d2] 24)).alloc (.cells #[.int .i64 0,.bool false,.slice none 0 0,.slice none 0 0] 41)=w1 at *;have HW:=hid k3;have OB:=hid k5;have BA:=hid k1;have BB:=hid k2
 clear k1 k2 k3 k5;obtain ⟨pp,hpp⟩:∃pp,(p1 && p2)=pp:=⟨_,rfl⟩;have HPP:=hid hpp;have CN:Hid (∀W:World,Calls Tryz.prog 81 #[.agg #[.bool s2,.slice x2 n2 c2,.slice y2 m2 d2]] W fun e w'=>e=.returned (.agg #[.int .i64 0,.bool s2,.slice x2 n2 c2,.slice y2 m2 d2])∧Below W.heap.size W w'):=fun W=>enumber_c
 have CAF:Hid (∀(W:World) (B:Nat),Li2 W B (.int .i64 i) (.bool s) (.slice x n c) (.slice y m d) (.int .i64 0) (.bool s2) (.slice x2 n2 c2) (.slice y2 m2 d2)→Below w1.heap.size w1 W→Calls Tryz.prog 80 #[.slice (some ⟨B,0,none⟩) 2 2] W fun e w'=>e=.returned (.bool pp)∧Below W.heap.size W w'):=fun W B hB hW=>by
  have:=allForm2_c hB (HR1.out.below hW) (HR2.out.below hW) (by omega) (by omega) (by omega) (by omega);rw [ef0,HP1.out,HP2.out,HPP.out] at this;exact this
 clear hpp;go_cut [8] from 9 to 14 (fun u wx=>∃(wy:World),wy=wx∧u=.bool (!pp)∧Below w1.heap.size w1 wy)
 case first =>
  obtain ⟨za,a0,a1,a2,a3⟩:=BA.out;obtain ⟨zb,b0,b1,b2⟩:=BB.out;go_region_held3 (fun w'=>w'.cell? ⟨w.heap.size,0,none⟩=some (.int .i64 i)∧w'.cell? ⟨w.heap.size,1,none⟩=some (.bool s)∧w'.cell? ⟨w.heap.size,2,none⟩=some (.slice x n c)∧w'.cell? ⟨w.heap.size,3,none⟩=some (.slice y m d)∧w'.cell? ⟨w.heap.size+1,0,none⟩=some (.bool s2)∧w'.cell? ⟨w.heap.size+1,1,none⟩=some (.slice x2 n2 c2)∧w'.cell? ⟨w.heap.size+1,2,none⟩=some (.slice y2 m2 d2))
   (refine ⟨?_,?_,?_,?_,?_,?_,?_⟩ <;> repeat (with_reducible first | assumption | refine kCd ?_ | refine kCa ?_ | refine kCb (by assumption) ?_))
   (first
    | (go_at_call 81;with_reducible refine (CN.out _).mono ?_;rintro e v5 ⟨rfl,hb5⟩)
    | (go_at_call 80;with_reducible refine (CAF.out _ _ (by repeat (with_reducible first | exact li2_at _ _ _ _ _ _ _ _ _ _ | refine kLid ?_)) belA).mono ?_;rintro e v6 ⟨rfl,hb6⟩))
  all_goals
   go_wp2_with fail
   go_meet
   exact ⟨_,rfl,rfl,belA⟩
 case rest =>
  obtain ⟨w3,rfl,rfl,hb⟩:=hcut;have HB3:=hid hb;have HB:=hid (HW.out.trans (HB3.out.mono HW.out.size));have OB3:=hid (OB.out.below HB3.out);clear hb CN CAF;cases pp
  ·obtain ⟨hz,z0,z1,z2,z3,zf⟩:=OB3.out;go_wp2;exact bodyPost_ret (v:=.tuple #[.agg #[.int .i64 0,.bool false,.slice none 0 0,.slice none 0 0],.int .i64 3]) (by simp [results,Tryz.results59,go_sem,z0,z1,z2,z3]) rfl ⟨0,false,none,0,0,fun _=>0,none,0,0,fun _=>0,3,rfl,below_st4 HB.out (by omega),by rw [HPP.out];rfl,.inl ⟨by rw [HPP.out];exact (by decide:(3:Int)≠0),rfl,rfl,rfl,rfl⟩⟩
  have hpq:p1=true∧p2=true:=by simpa using HPP.out
  have E3:=hid ((HQ1.out hpq.1).below HB3.out);have S3:=hid ((HQ2.out hpq.2).below HB3.out)
  have hi3:i=0∨(i=-1∨i=1)∧q=0:=E3.out.inf;clear hpq;obtain ⟨za,a0,a1,a2,a3⟩:=BA.out.below HB3.out;obtain ⟨zb,b0,b1,b2⟩:=BB.out.below HB3.out;go_wp2_with fail
  refine eIsZero_c.mono ?_;rintro e w7 ⟨rfl,hb⟩;have HB7:=hid (HB.out.trans (hb.mono HB.out.size));have HB37:=hid (HB3.out.trans (hb.mono HB3.out.size));have OB7:=hid (OB3.out.below hb);have E7:=hid (E3.out.below hb);have S7:=hid (S3.out.below hb)
  clear hb za a0 a1 a2 a3 zb b0 b1 b2 HB OB3 E3 S3;by_cases hz2:n2=0
  ·rw [decide_eq_true hz2];have HK:Hid (ks (p1 && p2) n2=4):=by show ks (p1 && p2) n2=4;rw [HPP.out,ks,if_pos rfl,if_pos hz2]
   clear hz2;obtain ⟨hz,z0,z1,z2,z3,zf⟩:=OB7.out;go_wp2;exact bodyPost_ret (v:=.tuple #[.agg #[.int .i64 0,.bool false,.slice none 0 0,.slice none 0 0],.int .i64 4]) (by simp [results,Tryz.results59,go_sem,z0,z1,z2,z3]) rfl ⟨0,false,none,0,0,fun _=>0,none,0,0,fun _=>0,4,rfl,below_st4 HB7.out (by omega),HK.out.symm,.inl ⟨by rw [HK.out];decide,rfl,rfl,rfl,rfl⟩⟩
  rw [decide_eq_false hz2];have HK:Hid (ks (p1 && p2) n2=0):=by show ks (p1 && p2) n2=0;rw [HPP.out,ks,if_pos rfl,if_neg hz2]
  clear hz2;obtain ⟨za,a0,a1,a2,a3⟩:=BA.out.below HB37.out;obtain ⟨zb,b0,b1,b2⟩:=BB.out.below HB37.out;rcases hi3 with rfl | ⟨hi,hq0⟩
  ·go_wp2_with fail
   refine (rMul_n E7.out.rn S7.out (by omega)).mono ?_;rintro e w4 ⟨s4,x4,n4,c4,f4,y4,m4,d4,g4,rfl,hb,hr⟩;have HB4:=hid (below_alloc (HB7.out.trans (hb.mono HB7.out.size)) (.cells #[.bool s4,.slice x4 n4 c4,.slice y4 m4 d4] 24));have OB4:=hid ((OB7.out.below hb).alloc (.cells #[.bool s4,.slice x4 n4 c4,.slice y4 m4 d4] 24));have R4:=hid (hr.alloc (.cells #[.bool s4,.slice x4 n4 c4,.slice y4 m4 d4] 24));have BX4:=hid (bx3_at w4 (.bool s4) (.slice x4 n4 c4) (.slice y4 m4 d4) 24)
   clear hb hr za a0 a1 a2 a3 zb b0 b1 b2;obtain ⟨zx,x0,x1,x2'⟩:=BX4.out;go_wp2_with fail
   generalize w4.alloc (.cells #[.bool s4,.slice x4 n4 c4,.slice y4 m4 d4] 24)=w5 at *;generalize w4.heap.size=b5 at *;refine enumber_c.mono ?_;rintro e w6 ⟨rfl,hb⟩;have HB6:=hid (HB4.out.trans (hb.mono HB4.out.size));have OB6:=hid (OB4.out.below hb);have R6:=hid (R4.out.below hb)
   clear hb zx x0 x1 x2';obtain ⟨hz,z0,z1,z2,z3,zf⟩:=OB6.out;go_wp2;exact bodyPost_ret (v:=.tuple #[.agg #[.int .i64 0,.bool s4,.slice x4 n4 c4,.slice y4 m4 d4],.int .i64 0]) (by simp [results,Tryz.results59,go_sem,z0,z1,z2,z3]) rfl ⟨0,s4,x4,n4,c4,f4,y4,m4,d4,g4,0,rfl,below_st4 HB6.out (by omega),HK.out.symm,.inr ⟨HK.out,q*r,⟨by cases s2 <;> rfl,rfl⟩,⟨OB6.out.rn (R6.out.mono (by omega)),.inl rfl⟩⟩⟩
  have HQ0:Hid ((0:Rat)=q*r):=by show (0:Rat)=q*r;rw [hq0,Rat.zero_mul]
  clear hq0;rcases hi with rfl | rfl <;> cases s2
  all_goals
   go_wp2_with fail
   refine eInf_c.mono ?_;rintro e w4 ⟨s4,x4,n4,c4,f4,y4,m4,d4,g4,rfl,hb,hr⟩;have HB4:=hid (HB7.out.trans (hb.mono HB7.out.size));have OB4:=hid (OB7.out.below hb);have R4:=hid hr
   clear hb hr za a0 a1 a2 a3 zb b0 b1 b2;obtain ⟨hz,z0,z1,z2,z3,zf⟩:=OB4.out;go_wp2;first
    | exact bodyPost_ret (v:=.tuple #[.agg #[.int .i64 1,.bool s4,.slice x4 n4 c4,.slice y4 m4 d4],.int .i64 0]) (by simp [results,Tryz.results59,go_sem,z0,z1,z2,z3]) rfl ⟨1,s4,x4,n4,c4,f4,y4,m4,d4,g4,0,rfl,below_st4 HB4.out (by omega),HK.out.symm,.inr ⟨HK.out,0,⟨rfl,HQ0.out⟩,⟨OB4.out.rn (R4.out.mono (by omega)),.inr ⟨by decide,rfl⟩⟩⟩⟩
    | exact bodyPost_ret (v:=.tuple #[.agg #[.int .i64 (-1),.bool s4,.slice x4 n4 c4,.slice y4 m4 d4],.int .i64 0]) (by simp [results,Tryz.results59,go_sem,z0,z1,z2,z3]) rfl ⟨-1,s4,x4,n4,c4,f4,y4,m4,d4,g4,0,rfl,below_st4 HB4.out (by omega),HK.out.symm,.inr ⟨HK.out,0,⟨rfl,HQ0.out⟩,⟨OB4.out.rn (R4.out.mono (by omega)),.inr ⟨by decide,rfl⟩⟩⟩⟩
def ScAns (L:Nat) (w w':World) (e:Ending) (i:Int) (q:Rat):Prop:=∃s x n c f y m d g,e=.returned (.tuple #[.agg #[.int .i64 i,.bool s,.slice x n c,.slice y m d],.int .i64 0])∧Below w.heap.size w w'∧En L w' i s x n c f y m d g q
theorem eScale_v {w:World} {L:Nat} {i:Int} {s:Bool} {x:Option Addr} {n c:Nat} {f:Nat→Int} {y:Option Addr} {m d:Nat} {g:Nat→Int} {s2:Bool} {x2:Option Addr} {n2 c2:Nat} {f2:Nat→Int} {y2:Option Addr} {m2 d2:Nat} {g2:Nat→Int} {q r:Rat} (h1:En L w i s x n c f y m d g q) (h2:Rn L w s2 x2 n2 c2 f2 y2 m2 d2 g2 r) (hr:n2≠0) (hL4:4≤L) (hL:L≤4096) :
  Calls Tryz.prog 59 #[.agg #[.int .i64 i,.bool s,.slice x n c,.slice y m d],.agg #[.bool s2,.slice x2 n2 c2,.slice y2 m2 d2]] w fun e w'=>ScAns (2*L+1) w w' e (if s2 then -i else i) (q*r):=by
 refine (eScale_l hL4 hL h1.rn.rw h2.rw (Nat.le_trans h1.rn.ln hL) (Nat.le_trans h1.rn.ld hL) (Nat.le_trans h2.ln hL) (Nat.le_trans h2.ld hL) h1.ef h2.rf (fun _=>h1) (fun _=>h2)).mono ?_;rintro e w' ⟨i',s',x',n',c',f',y',m',d',g',er,rfl,hb,ho⟩;obtain ⟨e1,e2 | ⟨_,q',⟨e4,e5⟩,e6⟩⟩:=ho.out
 ·exact absurd (by simp [ks,hr]) e2.1
 ·have e7:er=0:=by rw [e1];simp [ks,hr]
  subst e7;subst e4;subst e5
  exact ⟨s',x',n',c',f',y',m',d',g',rfl,hb,e6⟩
def SdAns (w w':World) (e:Ending) (n:Nat) (s:Bool) (lo hi:Value):Prop:=Below w.heap.size w w' ∧
 ((n=0∧e=.returned (.tuple #[.agg #[.int .i64 0,.bool false,.slice none 0 0,.slice none 0 0],.bool false]))∨(n≠0∧s=true∧e=.returned (.tuple #[hi,.bool true]))∨(n≠0∧s=false∧e=.returned (.tuple #[lo,.bool true])))
set_option maxRecDepth 100000 in
set_option maxHeartbeats 4000000 in
theorem dSide_c {w:World} {s:Bool} {x:Option Addr} {n c:Nat} {y:Option Addr} {m d:Nat} {i1:Int} {s1:Bool} {x1:Option Addr} {n1 c1:Nat} {y1:Option Addr} {m1 d1:Nat} {i2:Int} {s2:Bool} {x2:Option Addr} {n2 c2:Nat} {y2:Option Addr} {m2 d2:Nat} :
  Calls Tryz.prog 57 #[.agg #[.bool s,.slice x n c,.slice y m d],.agg #[.int .i64 i1,.bool s1,.slice x1 n1 c1,.slice y1 m1 d1],.agg #[.int .i64 i2,.bool s2,.slice x2 n2 c2,.slice y2 m2 d2]] w fun e w'=>SdAns w w' e n s (.agg #[.int .i64 i1,.bool s1,.slice x1 n1 c1,.slice y1 m1 d1]) (.agg #[.int .i64 i2,.bool s2,.slice x2 n2 c2,.slice y2 m2 d2]):=by
 have hb:=below_alloc (below_alloc (below_alloc (below_alloc (Below.refl w.heap.size w) (.cells #[.bool s,.slice x n c,.slice y m d] 24)) (.cells #[.int .i64 i1,.bool s1,.slice x1 n1 c1,.slice y1 m1 d1] 41)) (.cells #[.int .i64 i2,.bool s2,.slice x2 n2 c2,.slice y2 m2 d2] 41)) (.cells #[.int .i64 0,.bool false,.slice none 0 0,.slice none 0 0] 41);have BY:Bk ((((w.alloc (.cells #[.bool s,.slice x n c,.slice y m d] 24)).alloc (.cells #[.int .i64 i1,.bool s1,.slice x1 n1 c1,.slice y1 m1 d1] 41)).alloc (.cells #[.int .i64 i2,.bool s2,.slice x2 n2 c2,.slice y2 m2 d2] 41)).alloc (.cells #[.int .i64 0,.bool false,.slice none 0 0,.slice none 0 0] 41)) w.heap.size [.bool s,.slice x n c,.slice y m d] 24:=(((bk_new w [.bool s,.slice x n c,.slice y m d] 24).below (below_alloc (Below.refl _ _) _)).below (below_alloc (Below.refl _ _) _)).below (below_alloc (Below.refl _ _) _);have BL:Bk ((((w.alloc (.cells #[.bool s,.slice x n c,.slice y m d] 24)).alloc (.cells #[.int .i64 i1,.bool s1,.slice x1 n1 c1,.slice y1 m1 d1] 41)).alloc (.cells #[.int .i64 i2,.bool s2,.slice x2 n2 c2,.slice y2 m2 d2] 41)).alloc (.cells #[.int .i64 0,.bool false,.slice none 0 0,.slice none 0 0] 41)) (w.heap.size+1) [.int .i64 i1,.bool s1,.slice x1 n1 c1,.slice y1 m1 d1] 41:=by
  have:=((bk_new (w.alloc (.cells #[.bool s,.slice x n c,.slice y m d] 24)) [.int .i64 i1,.bool s1,.slice x1 n1 c1,.slice y1 m1 d1] 41).below (below_alloc (Below.refl _ _) (.cells #[.int .i64 i2,.bool s2,.slice x2 n2 c2,.slice y2 m2 d2] 41))).below (below_alloc (Below.refl _ _) (.cells #[.int .i64 0,.bool false,.slice none 0 0,.slice none 0 0] 41));rw [size_alloc1] at this;exact this
 have BH:Bk ((((w.alloc (.cells #[.bool s,.slice x n c,.slice y m d] 24)).alloc (.cells #[.int .i64 i1,.bool s1,.slice x1 n1 c1,.slice y1 m1 d1] 41)).alloc (.cells #[.int .i64 i2,.bool s2,.slice x2 n2 c2,.slice y2 m2 d2] 41)).alloc (.cells #[.int .i64 0,.bool false,.slice none 0 0,.slice none 0 0] 41)) (w.heap.size+2) [.int .i64 i2,.bool s2,.slice x2 n2 c2,.slice y2 m2 d2] 41:=by
  have:=(bk_new ((w.alloc (.cells #[.bool s,.slice x n c,.slice y m d] 24)).alloc (.cells #[.int .i64 i1,.bool s1,.slice x1 n1 c1,.slice y1 m1 d1] 41)) [.int .i64 i2,.bool s2,.slice x2 n2 c2,.slice y2 m2 d2] 41).below (below_alloc (Below.refl _ _) (.cells #[.int .i64 0,.bool false,.slice none 0 0,.slice none 0 0] 41));rw [size_alloc1,size_alloc1] at this;exact this
 have OB:Ob4 ((((w.alloc (.cells #[.bool s,.slice x n c,.slice y m d] 24)).alloc (.cells #[.int .i64 i1,.bool s1,.slice x1 n1 c1,.slice y1 m1 d1] 41)).alloc (.cells #[.int .i64 i2,.bool s2,.slice x2 n2 c2,.slice y2 m2 d2] 41)).alloc (.cells #[.int .i64 0,.bool false,.slice none 0 0,.slice none 0 0] 41)) (w.heap.size+3):=by
  have:=ob4_new (((w.alloc (.cells #[.bool s,.slice x n c,.slice y m d] 24)).alloc (.cells #[.int .i64 i1,.bool s1,.slice x1 n1 c1,.slice y1 m1 d1] 41)).alloc (.cells #[.int .i64 i2,.bool s2,.slice x2 n2 c2,.slice y2 m2 d2] 41)) 41;rw [size_alloc1,size_alloc1,size_alloc1] at this;exact this
 go_enter Tryz.func57,Tryz.ntmps57;go_upto_region 1 with fail
 generalize ((((w.alloc (.cells #[.bool s,.slice x n c,.slice y m d] 24)).alloc (.cells #[.int .i64 i1,.bool s1,.slice x1 n1 c1,.slice y1 m1 d1] 41)).alloc (.cells #[.int .i64 i2,.bool s2,.slice x2 n2 c2,.slice y2 m2 d2] 41)).alloc (.cells #[.int .i64 0,.bool false,.slice none 0 0,.slice none 0 0] 41))=w1 at *;have r0:=BY.cell (j:=0) rfl;have r1:=BY.cell (j:=1) rfl;have l0:=BL.cell (j:=0) rfl;have l1:=BL.cell (j:=1) rfl;have l2:=BL.cell (j:=2) rfl;have l3:=BL.cell (j:=3) rfl;have u0:=BH.cell (j:=0) rfl;have u1:=BH.cell (j:=1) rfl;have u2:=BH.cell (j:=2) rfl;have u3:=BH.cell (j:=3) rfl;obtain ⟨hz,z0,z1,z2,z3,zf⟩:=OB;have HB:=hid hb;clear hb BY BL BH;by_cases hn:n=0
 ·subst hn;go_wp2;exact bodyPost_ret (v:=.tuple #[.agg #[.int .i64 0,.bool false,.slice none 0 0,.slice none 0 0],.bool false]) (by simp [results,Tryz.results57,go_sem,z0,z1,z2,z3]) rfl ⟨below_st4 HB.out (by omega),.inl ⟨rfl,rfl⟩⟩
 ·have HN:=hid hn;have hn2:((n:Nat):Int)≠0:=by omega
  clear hn;cases s
  ·go_wp2;exact bodyPost_ret (v:=.tuple #[.agg #[.int .i64 i1,.bool s1,.slice x1 n1 c1,.slice y1 m1 d1],.bool true]) (by simp [results,Tryz.results57,go_sem,z0,z1,z2,z3]) rfl ⟨below_st4 HB.out (by omega),.inr (.inr ⟨HN.out,rfl,rfl⟩)⟩
  ·go_wp2;exact bodyPost_ret (v:=.tuple #[.agg #[.int .i64 i2,.bool s2,.slice x2 n2 c2,.slice y2 m2 d2],.bool true]) (by simp [results,Tryz.results57,go_sem,z0,z1,z2,z3]) rfl ⟨below_st4 HB.out (by omega),.inr (.inl ⟨HN.out,rfl,rfl⟩)⟩
def shI (y:Rat) (i1 i2:Int):Int:=if y=0 then 0 else if y<0 then -i2 else i1
def shQ (y q1 q2:Rat):Rat:=if y=0 then 0 else if y<0 then q2*y else q1*y
def ExAns (L:Nat) (w w':World) (e:Ending) (i:Int) (q:Rat):Prop:=∃s x n c f y m d g,e=.returned (.agg #[.int .i64 i,.bool s,.slice x n c,.slice y m d])∧Below w.heap.size w w'∧En L w' i s x n c f y m d g q
set_option maxRecDepth 100000 in
set_option maxHeartbeats 4000000 in
theorem dShare_v {w:World} {L:Nat} {s:Bool} {x:Option Addr} {n c:Nat} {f:Nat→Int} {y:Option Addr} {m d:Nat} {g:Nat→Int} {i1:Int} {s1:Bool} {x1:Option Addr} {n1 c1:Nat} {f1:Nat→Int} {y1:Option Addr} {m1 d1:Nat} {g1:Nat→Int} {i2:Int} {s2:Bool} {x2:Option Addr} {n2 c2:Nat} {f2:Nat→Int} {y2:Option Addr} {m2 d2:Nat} {g2:Nat→Int} {q q1 q2:Rat} (h:Rn L w s x n c f y m d g q) (h1:En L w i1 s1 x1 n1 c1 f1 y1 m1 d1 g1 q1) (h2:En L w i2 s2 x2 n2 c2 f2 y2 m2 d2 g2 q2) (hL4:4≤L) (hL:L≤4096) :
  Calls Tryz.prog 31 #[.agg #[.bool s,.slice x n c,.slice y m d],.agg #[.int .i64 i1,.bool s1,.slice x1 n1 c1,.slice y1 m1 d1],.agg #[.int .i64 i2,.bool s2,.slice x2 n2 c2,.slice y2 m2 d2]] w fun e w'=>ExAns (2*L+1) w w' e (shI q i1 i2) (shQ q q1 q2):=by
 have hb:=below_alloc (below_alloc (below_alloc (below_alloc (Below.refl w.heap.size w) (.cells #[.bool s,.slice x n c,.slice y m d] 24)) (.cells #[.int .i64 i1,.bool s1,.slice x1 n1 c1,.slice y1 m1 d1] 41)) (.cells #[.int .i64 i2,.bool s2,.slice x2 n2 c2,.slice y2 m2 d2] 41)) (.cells #[.int .i64 0,.bool false,.slice none 0 0,.slice none 0 0] 41);have BY:Bk ((((w.alloc (.cells #[.bool s,.slice x n c,.slice y m d] 24)).alloc (.cells #[.int .i64 i1,.bool s1,.slice x1 n1 c1,.slice y1 m1 d1] 41)).alloc (.cells #[.int .i64 i2,.bool s2,.slice x2 n2 c2,.slice y2 m2 d2] 41)).alloc (.cells #[.int .i64 0,.bool false,.slice none 0 0,.slice none 0 0] 41)) w.heap.size [.bool s,.slice x n c,.slice y m d] 24:=(((bk_new w [.bool s,.slice x n c,.slice y m d] 24).below (below_alloc (Below.refl _ _) _)).below (below_alloc (Below.refl _ _) _)).below (below_alloc (Below.refl _ _) _);have BL:Bk ((((w.alloc (.cells #[.bool s,.slice x n c,.slice y m d] 24)).alloc (.cells #[.int .i64 i1,.bool s1,.slice x1 n1 c1,.slice y1 m1 d1] 41)).alloc (.cells #[.int .i64 i2,.bool s2,.slice x2 n2 c2,.slice y2 m2 d2] 41)).alloc (.cells #[.int .i64 0,.bool false,.slice none 0 0,.slice none 0 0] 41)) (w.heap.size+1) [.int .i64 i1,.bool s1,.slice x1 n1 c1,.slice y1 m1 d1] 41:=by
  have:=((bk_new (w.alloc (.cells #[.bool s,.slice x n c,.slice y m d] 24)) [.int .i64 i1,.bool s1,.slice x1 n1 c1,.slice y1 m1 d1] 41).below (below_alloc (Below.refl _ _) (.cells #[.int .i64 i2,.bool s2,.slice x2 n2 c2,.slice y2 m2 d2] 41))).below (below_alloc (Below.refl _ _) (.cells #[.int .i64 0,.bool false,.slice none 0 0,.slice none 0 0] 41));rw [size_alloc1] at this;exact this
 have BH:Bk ((((w.alloc (.cells #[.bool s,.slice x n c,.slice y m d] 24)).alloc (.cells #[.int .i64 i1,.bool s1,.slice x1 n1 c1,.slice y1 m1 d1] 41)).alloc (.cells #[.int .i64 i2,.bool s2,.slice x2 n2 c2,.slice y2 m2 d2] 41)).alloc (.cells #[.int .i64 0,.bool false,.slice none 0 0,.slice none 0 0] 41)) (w.heap.size+2) [.int .i64 i2,.bool s2,.slice x2 n2 c2,.slice y2 m2 d2] 41:=by
  have:=(bk_new ((w.alloc (.cells #[.bool s,.slice x n c,.slice y m d] 24)).alloc (.cells #[.int .i64 i1,.bool s1,.slice x1 n1 c1,.slice y1 m1 d1] 41)) [.int .i64 i2,.bool s2,.slice x2 n2 c2,.slice y2 m2 d2] 41).below (below_alloc (Below.refl _ _) (.cells #[.int .i64 0,.bool false,.slice none 0 0,.slice none 0 0] 41));rw [size_alloc1,size_alloc1] at this;exact this
 have OB:Ob4 ((((w.alloc (.cells #[.bool s,.slice x n c,.slice y m d] 24)).alloc (.cells #[.int .i64 i1,.bool s1,.slice x1 n1 c1,.slice y1 m1 d1] 41)).alloc (.cells #[.int .i64 i2,.bool s2,.slice x2 n2 c2,.slice y2 m2 d2] 41)).alloc (.cells #[.int .i64 0,.bool false,.slice none 0 0,.slice none 0 0] 41)) (w.heap.size+3):=by
  have:=ob4_new (((w.alloc (.cells #[.bool s,.slice x n c,.slice y m d] 24)).alloc (.cells #[.int .i64 i1,.bool s1,.slice x1 n1 c1,.slice y1 m1 d1] 41)).alloc (.cells #[.int .i64 i2,.bool s2,.slice x2 n2 c2,.slice y2 m2 d2] 41)) 41;rw [size_alloc1,size_alloc1,size_alloc1] at this;exact this
 have HY:=hid (h.below hb);have H1:=hid (h1.below hb);have H2:=hid (h2.below hb)
 have HQ0:=hid h.q_zero;have HSN:=hid h.sg
 clear h h1 h2;go_enter Tryz.func31,Tryz.ntmps31;go_upto_region 1 with fail
 generalize ((((w.alloc (.cells #[.bool s,.slice x n c,.slice y m d] 24)).alloc (.cells #[.int .i64 i1,.bool s1,.slice x1 n1 c1,.slice y1 m1 d1] 41)).alloc (.cells #[.int .i64 i2,.bool s2,.slice x2 n2 c2,.slice y2 m2 d2] 41)).alloc (.cells #[.int .i64 0,.bool false,.slice none 0 0,.slice none 0 0] 41))=w1 at *;have r0:=BY.cell (j:=0) rfl;have r1:=BY.cell (j:=1) rfl;have r2:=BY.cell (j:=2) rfl;have l0:=BL.cell (j:=0) rfl;have l1:=BL.cell (j:=1) rfl;have l2:=BL.cell (j:=2) rfl;have l3:=BL.cell (j:=3) rfl;have k0:=BH.cell (j:=0) rfl;have k1:=BH.cell (j:=1) rfl;have k2:=BH.cell (j:=2) rfl;have k3:=BH.cell (j:=3) rfl;have HB:=hid hb;replace OB:=hid OB
 clear hb;go_wp2_with fail
 clear r0 r1 r2 l0 k0 l1 k1 l2 k2 l3 k3;refine dSide_c.mono ?_;rintro e w2 ⟨hb2,⟨hn,rfl⟩ | ⟨hn,hs,rfl⟩ | ⟨hn,hs,rfl⟩⟩
 ·have HI2:Hid (shI q i1 i2=0∧shQ q q1 q2=0):=by
   have h0:=HQ0.out.2 hn;exact ⟨by rw [shI,if_pos h0],by rw [shQ,if_pos h0]⟩
  have hal:=below_alloc (Below.refl w2.heap.size w2) (.cells #[.int .i64 0,.bool false,.slice none 0 0,.slice none 0 0] 41);have hb3:=hb2.trans (hal.mono hb2.size);replace OB:=hid (OB.out.below hb3);replace HB:=hid (HB.out.trans (hb3.mono HB.out.size))
  clear hb2 hal hb3 hn;go_wp2_with fail
  refine (rOf0_c _).mono ?_;rintro e w4 ⟨s4,x4,n4,c4,f4,y4,m4,d4,g4,rfl,hb4,he4⟩;replace he4:=hid he4;replace OB:=hid (OB.out.below hb4);replace HB:=hid (HB.out.trans (hb4.mono HB.out.size))
  clear hb4;obtain ⟨hz,z0,z1,z2,z3,zf⟩:=OB.out;go_wp2;exact bodyPost_ret (v:=.agg #[.int .i64 0,.bool s4,.slice x4 n4 c4,.slice y4 m4 d4]) (by simp [results,Tryz.results31,go_sem,z0,z1,z2,z3]) rfl ⟨s4,x4,n4,c4,f4,y4,m4,d4,g4,by rw [HI2.out.1],below_st4 HB.out (by omega),by rw [HI2.out.1,HI2.out.2];exact ⟨OB.out.rn (he4.out.mono (by omega)),.inl rfl⟩⟩
 ·have HN:=hid hn;have HSG:Hid (shI q i1 i2=-i2∧shQ q q1 q2=q2*q):=by
   have h0:q≠0:=fun e=>hn (HQ0.out.1 e)
   have h1:q<0:=by have h9:=HSN.out;rw [hs] at h9;exact of_decide_eq_true h9.symm
   exact ⟨by rw [shI,if_neg h0,if_pos h1],by rw [shQ,if_neg h0,if_pos h1]⟩
  subst hs;clear hn;have n0:=HN.out;have hal:=below_alloc (Below.refl w2.heap.size w2) (.cells #[.int .i64 i2,.bool s2,.slice x2 n2 c2,.slice y2 m2 d2] 41);have hb3:=hb2.trans (hal.mono hb2.size);have BY3:=BY.below hb3;have t0:=BY3.cell (j:=0) rfl;have t1:=BY3.cell (j:=1) rfl;have t2:=BY3.cell (j:=2) rfl;replace OB:=hid (OB.out.below hb3);replace HB:=hid (HB.out.trans (hb3.mono HB.out.size));have R:=hid (HY.out.below hb3);have E:=hid (H2.out.below hb3)
  have HI2:=hid (show shI q i1 i2=-i2∧shQ q q1 q2=q2*q from HSG.out);clear hb2 hal hb3 BY3 HSG;go_wp2_with fail
  clear t0 t1 t2;refine (eScale_v E.out R.out n0 hL4 hL).mono ?_;rintro e w4 ⟨s4,x4,n4,c4,f4,y4,m4,d4,g4,rfl,hb4,he4⟩;replace he4:=hid he4;have hal:=below_alloc (Below.refl w4.heap.size w4) (.cells #[.int .i64 (-i2),.bool s4,.slice x4 n4 c4,.slice y4 m4 d4] 41);have hb5:=hb4.trans (hal.mono hb4.size);replace OB:=hid (OB.out.below hb5);replace HB:=hid (HB.out.trans (hb5.mono HB.out.size));replace he4:=hid (he4.out.below hal)
  clear hb4 hal hb5;obtain ⟨hz,z0,z1,z2,z3,zf⟩:=OB.out;go_wp2;exact bodyPost_ret (v:=.agg #[.int .i64 (-i2),.bool s4,.slice x4 n4 c4,.slice y4 m4 d4]) (by simp [results,Tryz.results31,go_sem,z0,z1,z2,z3]) rfl ⟨s4,x4,n4,c4,f4,y4,m4,d4,g4,by rw [HI2.out.1],below_st4 HB.out (by omega),by rw [HI2.out.1,HI2.out.2];exact ⟨OB.out.rn he4.out.rn,he4.out.inf⟩⟩
 ·have HN:=hid hn;have HSG:Hid (shI q i1 i2=i1∧shQ q q1 q2=q1*q):=by
   have h0:q≠0:=fun e=>hn (HQ0.out.1 e)
   have h1:¬q<0:=by have h9:=HSN.out;rw [hs] at h9;exact of_decide_eq_false h9.symm
   exact ⟨by rw [shI,if_neg h0,if_neg h1],by rw [shQ,if_neg h0,if_neg h1]⟩
  subst hs;clear hn;have n0:=HN.out;have hal:=below_alloc (Below.refl w2.heap.size w2) (.cells #[.int .i64 i1,.bool s1,.slice x1 n1 c1,.slice y1 m1 d1] 41);have hb3:=hb2.trans (hal.mono hb2.size);have BY3:=BY.below hb3;have t0:=BY3.cell (j:=0) rfl;have t1:=BY3.cell (j:=1) rfl;have t2:=BY3.cell (j:=2) rfl;replace OB:=hid (OB.out.below hb3);replace HB:=hid (HB.out.trans (hb3.mono HB.out.size));have R:=hid (HY.out.below hb3);have E:=hid (H1.out.below hb3)
  have HI2:=hid (show shI q i1 i2=i1∧shQ q q1 q2=q1*q from HSG.out);clear hb2 hal hb3 BY3 HSG;go_wp2_with fail
  clear t0 t1 t2;refine (eScale_v E.out R.out n0 hL4 hL).mono ?_;rintro e w4 ⟨s4,x4,n4,c4,f4,y4,m4,d4,g4,rfl,hb4,he4⟩;replace he4:=hid he4;have hal:=below_alloc (Below.refl w4.heap.size w4) (.cells #[.int .i64 i1,.bool s4,.slice x4 n4 c4,.slice y4 m4 d4] 41);have hb5:=hb4.trans (hal.mono hb4.size);replace OB:=hid (OB.out.below hb5);replace HB:=hid (HB.out.trans (hb5.mono HB.out.size));replace he4:=hid (he4.out.below hal)
  clear hb4 hal hb5;obtain ⟨hz,z0,z1,z2,z3,zf⟩:=OB.out;go_wp2;exact bodyPost_ret (v:=.agg #[.int .i64 i1,.bool s4,.slice x4 n4 c4,.slice y4 m4 d4]) (by simp [results,Tryz.results31,go_sem,z0,z1,z2,z3]) rfl ⟨s4,x4,n4,c4,f4,y4,m4,d4,g4,by rw [HI2.out.1],below_st4 HB.out (by omega),by rw [HI2.out.1,HI2.out.2];exact ⟨OB.out.rn he4.out.rn,he4.out.inf⟩⟩
set_option maxRecDepth 100000 in
set_option maxHeartbeats 4000000 in
theorem pSum_l {w : World} {L : Nat} {ao : Option Addr} {k cap : Nat} {p : List Rat} (h : Rf L w ao p) (hk : p.length = k) (hkL : 4 + k * (L + 1) ≤ 199000) (hL : L ≤ 199000) (hk2 : k ≤ 1000000) :
    Calls Tryz.prog 35 #[.slice ao k cap] w fun e w' => RatAns (4 + k * (L + 1)) w w' e (psum p 0) := by
  have H := hid h
  have h2 := ob_new w 24
  have h3 := below_alloc (Below.refl w.heap.size w) (.cells #[.bool false, .slice none 0 0, .slice none 0 0] 24)
  clear h
  go_enter Tryz.func35, Tryz.ntmps35
  go_wp2_with fail
  generalize w.alloc (.cells #[.bool false, .slice none 0 0, .slice none 0 0] 24) = w0 at *
  refine (rOf_c (z := 0) (by omega) (by omega)).mono ?_
  rintro e w4 ⟨s0, x0, n0, c0, f0, y0, m0, d0, g0, rfl, hb4, hq4⟩
  have OB4 := hid (h2.below hb4); have HB4 := hid (h3.trans (hb4.mono h3.size)); have HQ4 := hid hq4
  clear h2 h3 hb4 hq4
  go_wp2_with fail
  have hSx : Sx (w4.alloc (.cells #[.bool s0, .slice x0 n0 c0, .slice y0 m0 d0] 24)) w4.heap.size s0 x0 n0 c0 y0 m0 d0 := ⟨by simp, by simp [go_sem], by simp [go_sem], by simp [go_sem], fun o => by simp only [World.frozen?, heap_alloc_new w4 (.cells #[.bool s0, .slice x0 n0 c0, .slice y0 m0 d0] 24)]; simp⟩
  have hal := below_alloc (Below.refl w4.heap.size w4) (.cells #[.bool s0, .slice x0 n0 c0, .slice y0 m0 d0] 24)
  have hne : w.heap.size < w4.heap.size := OB4.out.z
  have ST := hid hSx; have HB5 := hid (HB4.out.trans (hal.mono HB4.out.size)); have HQ5 := hid (HQ4.out.below hal); have OB5 := hid (OB4.out.below hal)
  clear hSx hal HB4 HQ4 OB4
  go_loopw [9] (fun t wr => ∃ (i : Nat) (acc : Rat) (s : Bool) (x : Option Addr) (n c : Nat) (f : Nat → Int) (y : Option Addr) (m d : Nat) (g : Nat → Int), i ≤ k ∧ t = .int .i64 i ∧ Hid (Below w.heap.size w wr) ∧ Hid (Sx wr w4.heap.size s x n c y m d) ∧ Hid (Ob wr w.heap.size) ∧ Hid (Rn (4 + i * (L + 1)) wr s x n c f y m d g acc) ∧ Hid (psum (p.drop i) acc = psum p 0)) (fun t _ => k - (intOf t).toNat)
  case atStart => exact ⟨0, 0, s0, x0, n0, c0, f0, y0, m0, d0, g0, by omega, rfl, HB5, ST, OB5, (by show Rn _ _ _ _ _ _ _ _ _ _ _ _; exact HQ5.out.mono (by omega)), rfl⟩
  case round =>
    clear HB5 HQ5 OB5 ST
    obtain ⟨i, acc, s, x, n, c, f, y, m, d, g, hi, rfl, HB, HS, HO, HQ, HE⟩ := hrel
    by_cases hlt : i < k
    · obtain ⟨q, haq⟩ : ∃ t, p[i]? = some t := ⟨_, List.getElem?_eq_getElem (by omega)⟩
      obtain ⟨b, o, ⟨ts, tx, tn, tc, tf, ty, tm, td, tg⟩, hav, hc, hr⟩ := (H.out.below HB.out) i q haq
      have hav2 := hav
      subst hav2
      obtain ⟨x0, x1, x2⟩ := hc
      replace x0 : wr.cell? ⟨b, o + i * 3, none⟩ = some (.bool ts) := x0
      replace x1 : wr.cell? ⟨b, o + i * 3 + 1, none⟩ = some (.slice tx tn tc) := x1
      replace x2 : wr.cell? ⟨b, o + i * 3 + 2, none⟩ = some (.slice ty tm td) := x2
      have HD : Hid (psum (p.drop (i + 1)) (acc + q) = psum p 0) := by
        show _ = _
        have e1 : p.drop i = q :: p.drop (i + 1) := by
          have hl : i < p.length := by omega
          have : p[i] = q := by rw [List.getElem?_eq_getElem hl] at haq; exact Option.some.inj haq
          rw [← this]; exact List.drop_eq_getElem_cons hl
        rw [← HE.out, e1]; rfl
      have hb5 := below_alloc (Below.refl wr.heap.size wr) (.cells #[.bool ts, .slice tx tn tc, .slice ty tm td] 24)
      have HR1 : Hid (Rn L (wr.alloc (.cells #[.bool ts, .slice tx tn tc, .slice ty tm td] 24)) ts tx tn tc tf ty tm td tg q) := Rn.below hr hb5
      replace HS := hid (HS.out.below hb5); replace HO := hid (HO.out.below hb5); replace HQ := hid (HQ.out.below hb5); replace HB := hid (HB.out.trans (hb5.mono HB.out.size))
      have i2 : ((i : Nat) : Int) < ((k : Nat) : Int) := by omega
      obtain ⟨sz, u0, u1, u2, uf⟩ := HS.out
      clear hr haq hav HE hb5
      go_wp2_with fail
      clear sz u0 u1 u2 uf x0 x1 x2
      generalize wr.alloc (.cells #[.bool ts, .slice tx tn tc, .slice ty tm td] 24) = w5 at *
      have hKi : 4 + i * (L + 1) ≤ 199000 := by have : i * (L + 1) ≤ k * (L + 1) := Nat.mul_le_mul_right _ hi
                                                omega
      refine (rAdd_n (L := 199000) (HQ.out.mono hKi) (HR1.out.mono (by omega)) (by omega)).mono ?_
      rintro e w6 ⟨s6, x6, n6, c6, f6, y6, m6, d6, g6, rfl, hb6, hq6⟩
      have S6 := HS.out.below hb6
      have R1 := hid (rd1_mk (HB.out.trans (hb6.mono HB.out.size)) S6 (HO.out.below hb6) (hq6.cut (K := 4 + (i + 1) * (L + 1)) ((lo_add (HQ.out.lo HQ.out.ln HQ.out.ld) (HR1.out.lo HR1.out.ln HR1.out.ld)).mono (by rw [Nat.add_mul]; omega))) hne)
      obtain ⟨sz, u0, u1, u2, uf⟩ := S6
      clear HS HO HQ HR1 HB hb6 hq6 hKi
      go_wp2
      go_roundw
      case rel => exact ⟨i + 1, acc + q, s6, x6, n6, c6, f6, y6, m6, d6, g6, by omega, by go_num, R1.out.bel, R1.out.sx, R1.out.ob, R1.out.rn, HD.out⟩
      case measure => simp [intOf]; omega
    · have e1 : i = k := by omega
      have HF : Hid (acc = psum p 0) := by
        show _ = _
        rw [← HE.out, e1, ← hk, List.drop_length]; rfl
      have i2 : ¬ (((i : Nat) : Int) < ((k : Nat) : Int)) := by omega
      obtain ⟨sz, u0, u1, u2, uf⟩ := HS.out
      obtain ⟨hz, z0, z1, z2, zf⟩ := HO.out
      have HKK : Hid (i = k) := e1
      clear e1 HE
      go_wp2
      exact bodyPost_ret (v := .agg #[.bool s, .slice x n c, .slice y m d]) (by simp [results, Tryz.results35, go_sem, z0, z1, z2]) rfl ⟨s, x, n, c, f, y, m, d, g, rfl, below_st HB.out (by omega), by rw [← HF.out, ← HKK.out]; exact HO.out.rn HQ.out⟩
def smI (p:List (Int × Rat)):Int:=if p.any (fun t=>decide (t.1≠0)) then -1 else 0
def smQ (p:List (Int × Rat)):Rat:=if p.any (fun t=>decide (t.1≠0)) then 0 else psum (p.map (·.2)) 0
theorem sm_at {p:List (Int × Rat)} {i:Nat} {a:Int} {q:Rat} (h:p[i]?=some (a,q)) (ha:a≠0):smI p=-1∧smQ p=0:=by
 have h1:p.any (fun t=>decide (t.1≠0))=true:=List.any_eq_true.2 ⟨(a,q),List.mem_of_getElem? h,by simpa using ha⟩;exact ⟨by rw [smI,if_pos h1],by rw [smQ,if_pos h1]⟩
theorem sm_all {p:List (Int × Rat)} (h:∀t ∈ p,t.1=0):smI p=0∧smQ p=psum (p.map (·.2)) 0:=by
 have h1:p.any (fun t=>decide (t.1≠0))=false:=List.any_eq_false.2 (fun t ht=>by simpa using h t ht);exact ⟨by rw [smI,h1];rfl,by rw [smQ,h1];rfl⟩
theorem take_zero_snoc {p:List (Int × Rat)} {i:Nat} {q:Rat} (h:∀t ∈ p.take i,t.1=0) (hi:p[i]?=some (0,q)):∀t ∈ p.take (i+1),t.1=0:=fun t ht=>by
 rw [List.take_add_one,hi] at ht;rcases List.mem_append.1 ht with h1 | h1
 ·exact h t h1
 ·simp at h1;rw [h1]
set_option maxRecDepth 100000 in
set_option maxHeartbeats 4000000 in
theorem dSum_v {w:World} {L:Nat} {ao:Option Addr} {k cap:Nat} {p:List (Int × Rat)} (h:Tf L w ao p) (hk:p.length=k) (hkL:4+k*(L+1)≤199000) (hL:L≤199000) (hk2:k≤1000000) :
  Calls Tryz.prog 32 #[.slice ao k cap] w fun e w'=>ExAns (4+k*(L+1)) w w' e (smI p) (smQ p):=by
 have H:=hid h;have h2:=ob4_new w 41;have h3:=below_alloc (Below.refl w.heap.size w) (.cells #[.int .i64 0,.bool false,.slice none 0 0,.slice none 0 0] 41);have h4:w.heap.size<(w.alloc (.cells #[.int .i64 0,.bool false,.slice none 0 0,.slice none 0 0] 41)).heap.size:=by simp
 clear h;go_enter Tryz.func32,Tryz.ntmps32;go_wp2_with fail
 generalize w.alloc (.cells #[.int .i64 0,.bool false,.slice none 0 0,.slice none 0 0] 41)=w1 at *;have OB:=hid h2;have HB0:=hid h3
 clear h2 h3;go_loopw [3,8] (fun ov t wr=>∃(i:Nat),i≤k∧t=.int .i64 i∧Hid (Below w1.heap.size w1 wr)∧Hid (Gr L w1.heap.size wr ov ((p.take i).map (·.2)))∧Hid (∀t ∈ p.take i,t.1=0)) (fun _ t _=>k-(intOf t).toNat)
 case atStart=>exact ⟨0,by omega,rfl,Below.refl _ _,gr_nil _ _ _,fun t ht=>by simp at ht⟩
 case round =>
  obtain ⟨i,hi,rfl,HB,HG,HZ⟩:=hrel;have hgl:((p.take i).map (·.2)).length=i:=by rw [List.length_map,List.length_take];omega
  by_cases hlt:i<k
  ·obtain ⟨⟨a,q⟩,haq⟩:∃t,p[i]?=some t:=⟨_,List.getElem?_eq_getElem (by omega)⟩;have hbw:=HB0.out.trans (HB.out.mono HB0.out.size);obtain ⟨b,o,⟨ts,tx,tn,tc,tf,ty,tm,td,tg⟩,hav,hc,hr⟩:=(H.out.below hbw) i a q haq;have hav2:=hav;subst hav2;obtain ⟨x0,x1,x2,x3⟩:=hc;replace x0:wr.cell? ⟨b,o+i*4,none⟩=some (.int .i64 a):=x0;replace x1:wr.cell? ⟨b,o+i*4+1,none⟩=some (.bool ts):=x1;replace x2:wr.cell? ⟨b,o+i*4+2,none⟩=some (.slice tx tn tc):=x2;replace x3:wr.cell? ⟨b,o+i*4+3,none⟩=some (.slice ty tm td):=x3;have hb5:=below_alloc (Below.refl wr.heap.size wr) (.cells #[.int .i64 a,.bool ts,.slice tx tn tc,.slice ty tm td] 41);have a0:(wr.alloc (.cells #[.int .i64 a,.bool ts,.slice tx tn tc,.slice ty tm td] 41)).cell? ⟨wr.heap.size,0,none⟩=some (.int .i64 a):=by simp [go_sem]
   have a1:(wr.alloc (.cells #[.int .i64 a,.bool ts,.slice tx tn tc,.slice ty tm td] 41)).cell? ⟨wr.heap.size,1,none⟩=some (.bool ts):=by simp [go_sem]
   have a2:(wr.alloc (.cells #[.int .i64 a,.bool ts,.slice tx tn tc,.slice ty tm td] 41)).cell? ⟨wr.heap.size,2,none⟩=some (.slice tx tn tc):=by simp [go_sem]
   have a3:(wr.alloc (.cells #[.int .i64 a,.bool ts,.slice tx tn tc,.slice ty tm td] 41)).cell? ⟨wr.heap.size,3,none⟩=some (.slice ty tm td):=by simp [go_sem]
   replace hr:=hid (show Rn L (wr.alloc (.cells #[.int .i64 a,.bool ts,.slice tx tn tc,.slice ty tm td] 41)) ts tx tn tc tf ty tm td tg q from Rn.below hr hb5);have i2:((i:Nat):Int)<((k:Nat):Int):=by omega
   have HAQ:=hid haq;have hb5s:=hb5.size;clear haq hav hbw;go_upto_region 5 with fail
   clear x0 x1 x2 x3;replace HB:=hid (HB.out.trans (hb5.mono HB.out.size));replace HG:=hid (HG.out.below hb5)
   clear hb5 hb5s;generalize wr.heap.size=bx at *;generalize (wr.alloc (.cells #[.int .i64 a,.bool ts,.slice tx tn tc,.slice ty tm td] 41))=w5 at *;by_cases ha:a=0
   ·subst ha;obtain ⟨T,hrow,hT⟩:=HG.out;rw [hgl] at hrow;have hsz:=HB.out.size;go_wp2_with (at_builtin;go_must (refine wpList_append_one w5 rfl (.tmp 16) (.tmp 19) 29 rfl w1.heap.size 24 56 3 (.agg #[.bool false,.slice none 0 0,.slice none 0 0]) Tryz.underlying29 Tryz.infoRat rfl (by decide) nz3 u3 i _ rfl hrow #[.bool ts,.slice tx tn tc,.slice ty tm td] rfl rfl (one3 _ _ _ _ _ _ _) (not3 _ _ _ _ _ _ _) ?p1 (by decide) hsz ?_))
    case p1=>omega
    intro g8 cap8 w8 hr8 hk8 hb8 hg8;have HB8:=hid (hb8 w1 HB.out (Nat.le_refl _));have HG8:Hid (Gr L w1.heap.size w8 (.slice (some ⟨g8,0,none⟩) (i+1) cap8) ((p.take (i+1)).map (·.2))):=by
     have hp8:=gr_push hT (by rw [hgl];exact hr8) hk8 hr.out;rw [hgl] at hp8;rw [List.take_add_one,HAQ.out,List.map_append];exact hp8
    have HZ8:=hid (take_zero_snoc HZ.out HAQ.out);clear hr8 hk8 hb8 hg8 hrow hT HG HB HZ hr hsz a0 a1 a2 a3;go_wp2;go_roundw
    case rel=>exact ⟨i+1,by omega,by go_num,HB8.out,HG8.out,HZ8.out⟩
    case measure=>simp [intOf];omega
   ·have HI:=hid (sm_at HAQ.out ha);clear HZ HG;go_wp2_with fail
    refine eLow_c.mono ?_;rintro e w6 ⟨s4,x4,n4,c4,f4,y4,m4,d4,g4,rfl,hb6,hq6⟩;have HB6:=hid (HB.out.trans (hb6.mono HB.out.size));have HQ6:=hid hq6;have HO6:=hid (OB.out.below HB6.out);obtain ⟨hz,z0,z1,z2,z3,zf⟩:=HO6.out;clear hb6 hq6 HB a0 a1 a2 a3;go_wp2;exact bodyPost_ret (v:=.agg #[.int .i64 (-1),.bool s4,.slice x4 n4 c4,.slice y4 m4 d4]) (by simp [results,Tryz.results32,go_sem,z0,z1,z2,z3]) rfl ⟨s4,x4,n4,c4,f4,y4,m4,d4,g4,by rw [HI.out.1],below_st4 (HB0.out.trans (HB6.out.mono HB0.out.size)) (by omega),by rw [HI.out.1,HI.out.2];exact ⟨HO6.out.rn (HQ6.out.rn.mono (by omega)),.inr ⟨by decide,rfl⟩⟩⟩
  ·have e1:i=k:=by omega
   have i4':¬(((i:Nat):Int)<((k:Nat):Int)):=by omega
   obtain ⟨va,vc,hvs,hvc⟩:=HG.out.slice;rw [hgl] at hvs;have HG4:=HG.out;rw [hvs] at HG4;replace HG4:=hid (show Rf L wr va (p.map (·.2)) by have:=HG4.rf;rw [List.take_of_length_le (by omega)] at this;exact this);subst hvs;have HI:=hid (sm_all (p:=p) (fun t ht=>HZ.out t (by rw [List.take_of_length_le (by omega)];exact ht)));clear HG HZ hvc;go_wp2_with fail
   refine (pSum_l (L:=L) HG4.out (by rw [List.length_map];omega) hkL hL (by omega)).mono ?_;rintro e w6 ⟨s4,x4,n4,c4,f4,y4,m4,d4,g4,rfl,hb6,hq6⟩;have HB6:=hid (HB.out.trans (hb6.mono HB.out.size));have HQ6:=hid hq6;have HO6:=hid (OB.out.below HB6.out);obtain ⟨hz,z0,z1,z2,z3,zf⟩:=HO6.out;clear hb6 hq6 HB HG4;go_wp2;exact bodyPost_ret (v:=.agg #[.int .i64 0,.bool s4,.slice x4 n4 c4,.slice y4 m4 d4]) (by simp [results,Tryz.results32,go_sem,z0,z1,z2,z3]) rfl ⟨s4,x4,n4,c4,f4,y4,m4,d4,g4,by rw [HI.out.1],below_st4 (HB0.out.trans (HB6.out.mono HB0.out.size)) (by omega),by rw [HI.out.1,HI.out.2];exact ⟨HO6.out.rn HQ6.out,.inl rfl⟩⟩
end Go.Proofs.YtankbgpcnljjdaaGreat
