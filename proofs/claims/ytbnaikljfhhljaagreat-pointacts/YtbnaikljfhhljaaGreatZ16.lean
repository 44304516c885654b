/-
 The walk of the reference's Costs (written by makers/re3.py). Point's calls on twins, and on what lies along a direction. Calls on twins whose numbers are of at most K limbs, by what they are twins of. The walks of law07's ints and of the law ModelChecks (written by makers/f34.py). The walks of the reference's check, DocFeasible and Is of a point, of Rec and DocRecedes (written by makers/re4.py). The walks of the reference's Value and DocValue (written by makers/rk1.py). The walk of the reference's DocActivities (written by makers/rk2.py). The walk of the reference's DocBroken (written by makers/rk3.py).
-/
import Derived.Test.YtbnaikljfhhljaaGreatZ0
import Derived.Test.YtbnaikljfhhljaaGreatZ15
import Derived.Test.YtbnaikljfhhljaaGreatZ13
import Derived.BigQuiet
namespace Go.Proofs.YtbnaikljfhhljaaGreat
open Go.RowKit
theorem costs_drop {cs:List CV} {xs:List Rat} {i:Nat} {v:CV} {q:Rat} (h1:cs[i]?=some v) (h2:xs[i]?=some q):(costs cs xs).drop i=v.cost*q :: (costs cs xs).drop (i+1):=by
 have h:(costs cs xs)[i]?=some (v.cost*q):=by
  unfold costs;rw [List.getElem?_zipWith,h1,h2]
 obtain ⟨hl,he⟩:=List.getElem?_eq_some_iff.1 h;rw [List.drop_eq_getElem_cons hl,he]
set_option maxRecDepth 100000 in
set_option maxHeartbeats 8000000 in
theorem rCosts_c {w:World} {L:Nat} {M:Mo} {off:Rat} {cs:List CV} {rs:List RV} {ax:Option Addr} {k cx:Nat} {xs:List Rat} (h:MqV (2*L) w M off cs rs) (hx:Rqs (2*L) w ax xs) (hk:xs.length=k) (hkc:k=cs.length) (hm:MvP cs rs) (hL:L≤60) :
  Calls Tryz.prog 68 #[M.val,.slice ax k cx] w fun e w'=>QAns (KE L) w w' e (slpQ cs xs):=by
 obtain ⟨⟨so,xo,no,co,fo,yo,mo,dd,gg⟩,ca,ck,cc,C,ra,rk,rc,R⟩:=M;have hck:ck=cs.length:=h.ck;subst hck;have HC:Hid (∀j v,cs[j]?=some v→(∃b o,ca=some ⟨b,o,none⟩∧Cs w b (o+j*12) (C j).vs)∧QcV (2*L) w (C j) v):=h.cls;have TX:=hid hx;have hcl:=hm.cl;clear h hx hm;subst hkc;show Calls Tryz.prog 68 #[.agg #[.bool so,.slice xo no co,.slice yo mo dd,.slice ca cs.length cc,.slice ra rk rc],.slice ax cs.length cx] w _;have h2:Ob ((w.alloc (.cells #[.bool so,.slice xo no co,.slice yo mo dd,.slice ca cs.length cc,.slice ra rk rc] 64)).alloc (.cells #[.bool false,.slice none 0 0,.slice none 0 0] 60)) (w.heap.size+1):=by
  have:=ob_new (w.alloc (.cells #[.bool so,.slice xo no co,.slice yo mo dd,.slice ca cs.length cc,.slice ra rk rc] 64)) 60;rw [size_alloc1] at this;exact this
 have h3:=below_alloc (below_alloc (Below.refl w.heap.size w) (.cells #[.bool so,.slice xo no co,.slice yo mo dd,.slice ca cs.length cc,.slice ra rk rc] 64)) (.cells #[.bool false,.slice none 0 0,.slice none 0 0] 60);have BM:Hid (Bk ((w.alloc (.cells #[.bool so,.slice xo no co,.slice yo mo dd,.slice ca cs.length cc,.slice ra rk rc] 64)).alloc (.cells #[.bool false,.slice none 0 0,.slice none 0 0] 60)) w.heap.size [.bool so,.slice xo no co,.slice yo mo dd,.slice ca cs.length cc,.slice ra rk rc] 64):=(bk_new w [.bool so,.slice xo no co,.slice yo mo dd,.slice ca cs.length cc,.slice ra rk rc] 64).below (below_alloc (Below.refl _ _) _);go_enter Tryz.func68,Tryz.ntmps68;go_wp2_with fail
 generalize ((w.alloc (.cells #[.bool so,.slice xo no co,.slice yo mo dd,.slice ca cs.length cc,.slice ra rk rc] 64)).alloc (.cells #[.bool false,.slice none 0 0,.slice none 0 0] 60))=w0 at *;have OB0:=hid h2;have HB0:=hid h3
 clear h2 h3;refine (qZero_c _).mono ?_;rintro e w4 ⟨s0,x0,n0,c0,d0,y0,m0,e0,g0,rfl,hb4,hl1,hl2,hq4⟩;have OB4:=hid (OB0.out.below hb4);have HB4:=hid (HB0.out.trans (hb4.mono HB0.out.size));have HQ4:=hid hq4
 replace BM:=hid (BM.out.below hb4);clear OB0 HB0 hb4 hq4 hl1 hl2;have hSx:Sx (w4.alloc (.cells #[.bool s0,.slice x0 n0 c0,.slice y0 m0 e0] 60)) w4.heap.size s0 x0 n0 c0 y0 m0 e0:=⟨by simp,by simp [go_sem],by simp [go_sem],by simp [go_sem],fun o=>by simp only [World.frozen?,heap_alloc_new w4 (.cells #[.bool s0,.slice x0 n0 c0,.slice y0 m0 e0] 60)];simp⟩;have hal:=below_alloc (Below.refl w4.heap.size w4) (.cells #[.bool s0,.slice x0 n0 c0,.slice y0 m0 e0] 60);have r3:=(BM.out.below hal).cell (j:=3) rfl;go_wp2_with fail
 clear r3;have hne:w.heap.size+1<w4.heap.size:=OB4.out.z;have ST:=hid hSx;have HB5:=hid (HB4.out.trans (hal.mono HB4.out.size));have HQ5:=hid (HQ4.out.below hal);have OB5:=hid (OB4.out.below hal)
 clear hSx hal HB4 HQ4 OB4 BM;generalize w4.alloc (.cells #[.bool s0,.slice x0 n0 c0,.slice y0 m0 e0] 60)=w5' at *;generalize w4.heap.size=B at *;go_loopw [12] (fun t wr=>∃(i:Nat) (acc:Rat) (s:Bool) (x:Option Addr) (n c:Nat) (d:Nat→Int) (y:Option Addr) (m e:Nat) (g:Nat→Int),i≤cs.length∧t=.int .i64 i∧Hid (Below w.heap.size w wr)∧Hid (Sx wr B s x n c y m e)∧Hid (Ob wr (w.heap.size+1))∧Hid (Lo (4+i*(2*L+2)) acc∧Qn wr s x n d y m g acc)∧Hid (psum ((costs cs xs).drop i) acc=slpQ cs xs)) (fun t _=>cs.length-(intOf t).toNat)
 case atStart=>exact ⟨0,0,s0,x0,n0,c0,d0,y0,m0,e0,g0,by omega,rfl,HB5,ST,OB5,⟨lo_zero (by omega),HQ5.out⟩,rfl⟩
 case round =>
  clear HB5 HQ5 OB5 ST;obtain ⟨i,acc,s,x,n,c,d,y,m,e,g,hi,rfl,HB,HS,HO,HQ,HE⟩:=hrel;by_cases hlt:i<cs.length
  ·obtain ⟨v,haq⟩:∃t,cs[i]?=some t:=⟨_,List.getElem?_eq_getElem hlt⟩;obtain ⟨⟨b,o,hca,hcc⟩,hr⟩:=HC.out i v haq;subst hca;replace hcc:=hcc.below HB.out;replace hr:=(hr.below HB.out).cost;obtain ⟨r,hr2⟩:∃r,xs[i]?=some r:=⟨_,List.getElem?_eq_getElem (by omega)⟩;obtain ⟨b0,o0,_,hax0,hc0,_⟩:=TX.out i r hr2;have hb0:=World.block_lt_of_cell? w _ hc0.x0;obtain ⟨b',o',⟨ss,sx,sn,sc,sf,sy,sm,sd,sg⟩,hax,hc',hr'⟩:=(TX.out.below HB.out) i r hr2;have nB2:B≠b':=by
    rw [hax0] at hax;have:b0=b':=by simpa using congrArg (fun a=>(a.map Addr.block)) hax
    have hb1:b0<w.heap.size:=hb0;omega
   clear hc0 hb0 hax0;have hax2:=hax;subst hax2;obtain ⟨p0,p1,p2⟩:=hc';replace p0:wr.cell? ⟨b',o'+i*3,none⟩=some (.bool ss):=p0;replace p1:wr.cell? ⟨b',o'+i*3+1,none⟩=some (.slice sx sn sc):=p1;replace p2:wr.cell? ⟨b',o'+i*3+2,none⟩=some (.slice sy sm sd):=p2;obtain ⟨⟨z,⟨ts,tx,tn,tc,tf,ty,tm,td,tg⟩,⟨i1,⟨s1,x1,n1,c1,f1,y1,m1,d1,g1⟩⟩,⟨i2,⟨s2,x2,n2,c2,f2,y2,m2,d2,g2⟩⟩⟩,hCi⟩:∃t,C i=t:=⟨_,rfl⟩;rw [hCi] at hcc hr;have q0:wr.cell? ⟨b,o+i*12,none⟩=some (.string z):=hcc 0 _ rfl;have q1:wr.cell? ⟨b,o+i*12+1,none⟩=some (.bool ts):=hcc 1 _ rfl;have q2:wr.cell? ⟨b,o+i*12+2,none⟩=some (.slice tx tn tc):=hcc 2 _ rfl;have q3:wr.cell? ⟨b,o+i*12+3,none⟩=some (.slice ty tm td):=hcc 3 _ rfl;have q4:wr.cell? ⟨b,o+i*12+4,none⟩=some (.int .i64 i1):=hcc 4 _ rfl;have q5:wr.cell? ⟨b,o+i*12+5,none⟩=some (.bool s1):=hcc 5 _ rfl;have q6:wr.cell? ⟨b,o+i*12+6,none⟩=some (.slice x1 n1 c1):=hcc 6 _ rfl;have q7:wr.cell? ⟨b,o+i*12+7,none⟩=some (.slice y1 m1 d1):=hcc 7 _ rfl;have q8:wr.cell? ⟨b,o+i*12+8,none⟩=some (.int .i64 i2):=hcc 8 _ rfl;have q9:wr.cell? ⟨b,o+i*12+9,none⟩=some (.bool s2):=hcc 9 _ rfl;have q10:wr.cell? ⟨b,o+i*12+10,none⟩=some (.slice x2 n2 c2):=hcc 10 _ rfl;have q11:wr.cell? ⟨b,o+i*12+11,none⟩=some (.slice y2 m2 d2):=hcc 11 _ rfl;obtain ⟨q,hq⟩:∃t,v.cost=t:=⟨_,rfl⟩;rw [hq] at hr;have HR1:Hid (tn≤2*L∧tm≤2*L∧Qn wr ts tx tn tf ty tm tg q):=hr;have HR2:Hid (sn≤2*L∧sm≤2*L∧Qn wr ss sx sn sf sy sm sg r):=hr';have i1':((i:Nat):Int)<((cs.length:Nat):Int):=by omega
   have HD:Hid (psum ((costs cs xs).drop (i+1)) (acc+q*r)=slpQ cs xs):=by
    show _=_;rw [←HE.out,costs_drop haq hr2,hq];rfl
   have nB1:B≠wr.heap.size:=by have:=HS.out.z;omega
   clear hr hr' haq hr2 hax HE hcc hCi hq;go_upto_region 5 with fail
   have hb5:=below_alloc (Below.refl wr.heap.size wr) (.cells #[.string z,.bool ts,.slice tx tn tc,.slice ty tm td,.int .i64 i1,.bool s1,.slice x1 n1 c1,.slice y1 m1 d1,.int .i64 i2,.bool s2,.slice x2 n2 c2,.slice y2 m2 d2] 69);have BC:Bk (wr.alloc (.cells #[.string z,.bool ts,.slice tx tn tc,.slice ty tm td,.int .i64 i1,.bool s1,.slice x1 n1 c1,.slice y1 m1 d1,.int .i64 i2,.bool s2,.slice x2 n2 c2,.slice y2 m2 d2] 69)) wr.heap.size [.string z,.bool ts,.slice tx tn tc,.slice ty tm td,.int .i64 i1,.bool s1,.slice x1 n1 c1,.slice y1 m1 d1,.int .i64 i2,.bool s2,.slice x2 n2 c2,.slice y2 m2 d2] 69:=bk_new wr [.string z,.bool ts,.slice tx tn tc,.slice ty tm td,.int .i64 i1,.bool s1,.slice x1 n1 c1,.slice y1 m1 d1,.int .i64 i2,.bool s2,.slice x2 n2 c2,.slice y2 m2 d2] 69;have a1:=BC.cell (j:=1) rfl;have a2:=BC.cell (j:=2) rfl;have a3:=BC.cell (j:=3) rfl;replace p0:=kCb hb5 p0;replace p1:=kCb hb5 p1;replace p2:=kCb hb5 p2
   replace HS:=hid (HS.out.below hb5);replace HO:=hid (HO.out.below hb5);replace HQ:=hid (And.intro HQ.out.1 (HQ.out.2.below hb5));replace HR1:=hid (And.intro HR1.out.1 (And.intro HR1.out.2.1 (HR1.out.2.2.below hb5)));replace HR2:=hid (And.intro HR2.out.1 (And.intro HR2.out.2.1 (HR2.out.2.2.below hb5)))
   replace HB:=hid (HB.out.trans (hb5.mono HB.out.size));clear q0 q1 q2 q3 q4 q5 q6 q7 q8 q9 q10 q11 hb5 BC;generalize wr.alloc (.cells #[.string z,.bool ts,.slice tx tn tc,.slice ty tm td,.int .i64 i1,.bool s1,.slice x1 n1 c1,.slice y1 m1 d1,.int .i64 i2,.bool s2,.slice x2 n2 c2,.slice y2 m2 d2] 69)=w5 at *;obtain ⟨sz,u0,u1,u2,uf⟩:=HS.out;have hKi:4+i*(2*L+2)≤4+64*(2*L+2):=by
    have h1:i*(2*L+2)≤64*(2*L+2):=Nat.mul_le_mul_right _ (by omega);omega
   obtain ⟨hq1,hq2⟩:=HQ.out.2.len HQ.out.1;have CM:Hid (∀W,Below w5.heap.size w5 W→Calls Tryz.prog 64 #[.agg #[.bool ts,.slice tx tn tc,.slice ty tm td],.agg #[.bool ss,.slice sx sn sc,.slice sy sm sd]] W fun e w'=>∃s x n c d y m e' g,e=.returned (.agg #[.bool s,.slice x n c,.slice y m e'])∧Below W.heap.size W w'∧Hid (Lo (2*L+1) (q*r)∧Qn w' s x n d y m g (q*r))):=fun W hW =>
    (qMul_c (HR1.out.2.2.below hW) (HR2.out.2.2.below hW) (Nat.le_trans HR1.out.1 (by omega)) (Nat.le_trans HR1.out.2.1 (by omega)) (Nat.le_trans HR2.out.1 (by omega)) (Nat.le_trans HR2.out.2.1 (by omega))).mono (fun _ _ ⟨s,x,n,c,d,y,m,c',g,h1,h2,h3,h4,h5⟩=>⟨s,x,n,c,d,y,m,c',g,h1,h2,Lo.mono (lo_mul (HR1.out.2.2.lo HR1.out.1 HR1.out.2.1) (HR2.out.2.2.lo HR2.out.1 HR2.out.2.1)) (by omega),h5⟩)
   have CA:Hid (∀(W:World) (s1:Bool) (x1:Option Addr) (n1 c1:Nat) (d1:Nat→Int) (y1:Option Addr) (m1 e1:Nat) (g1:Nat→Int),Below w5.heap.size w5 W→Lo (2*L+1) (q*r)∧Qn W s1 x1 n1 d1 y1 m1 g1 (q*r)→Calls Tryz.prog 63 #[.agg #[.bool s,.slice x n c,.slice y m e],.agg #[.bool s1,.slice x1 n1 c1,.slice y1 m1 e1]] W fun e w'=>∃s x n c d y m e' g,e=.returned (.agg #[.bool s,.slice x n c,.slice y m e'])∧Below W.heap.size W w'∧Hid (Lo (4+(i+1)*(2*L+2)) (acc+q*r)∧Qn w' s x n d y m g (acc+q*r))):=fun W s1 x1 n1 c1 d1 y1 m1 e1 g1 hW hh=>by
    obtain ⟨k1,k2⟩:=hh.2.len hh.1;refine (qAdd_c (HQ.out.2.below hW) hh.2 (by omega) (by omega) (by omega) (by omega)).mono (fun _ _ ⟨s,x,n,c,d,y,m,c',g,h1,h2,h3,h4,h5⟩=>⟨s,x,n,c,d,y,m,c',g,h1,h2,Lo.mono (lo_add HQ.out.1 hh.1) ?_,h5⟩);rw [Nat.add_mul];omega
   clear hq1 hq2;refine wp_region_held_drew (S:=fun w'=>w'.cell? ⟨wr.heap.size,1,none⟩=some (.bool ts)∧w'.cell? ⟨wr.heap.size,2,none⟩=some (.slice tx tn tc)∧w'.cell? ⟨wr.heap.size,3,none⟩=some (.slice ty tm td)∧w'.cell? ⟨b',o'+i*3,none⟩=some (.bool ss)∧w'.cell? ⟨b',o'+i*3+1,none⟩=some (.slice sx sn sc)∧w'.cell? ⟨b',o'+i*3+2,none⟩=some (.slice sy sm sd)) (by kernel_rfl) ?_ (fun hHeld=>?_)
   ·(refine ⟨?_,?_,?_,?_,?_,?_⟩ <;> repeat (with_reducible first | assumption | refine kCd ?_))
   refine tkO 1 ?_;simp only [lay_,Act.put];refine tkO 2 ?_;simp only [lay_,Act.put];refine tkO 3 ?_;simp only [lay_,Act.put];refine tkO 4 ?_;simp only [lay_,Act.put];refine tkO 5 ?_;simp only [lay_,Act.put];refine tkO 6 ?_;simp only [lay_,Act.put];refine wpAnyH_ready (rs:=[0,7]) (by kernel_rfl) (by simp) ?_;refine AllReadyH.cons (o:=_) rfl (fun K hK=>?_) ?_
   ·go_simp;refine hK.out _ _ ?_ (fun hHeld2=>?_)
    ·((try dsimp only);(refine ⟨?_,?_,?_,?_,?_,?_⟩ <;> repeat (with_reducible first | assumption | refine kCd ?_)))
    clear hK K;try simp only [lay_,Act.put]
    refine wpAnyH_ready (rs:=[7]) (by kernel_rfl) (by simp) ?_;refine AllReadyH.cons (o:=_) rfl (fun K hK=>?_) ?_;rotate_left;exact AllReadyH.nil;go_simp
    go_at_call 64
    with_reducible refine (CM.out _ belB).mono ?_
    rintro e w6 ⟨s8,x8,n8,c8,d8,y8,m8,e8,g8,rfl,hb6,H8⟩;have B6:Below w5.heap.size w5 w6:=belB;have S6:=HS.out.below B6;obtain ⟨_,v0,v1,v2,vf6⟩:=id S6
    (try go_wp2_with fail)
    refine hK.out _ _ ?_ (fun hHeld3=>?_)
    ·((try dsimp only);(refine ⟨?_,?_,?_,?_,?_,?_⟩ <;> repeat (with_reducible first | assumption | refine kCb B6 ?_)))
    clear hK K;try simp only [lay_,Act.put]
    refine wpAnyH_ready (rs:=[8]) (by kernel_rfl) (by simp) ?_;refine AllReadyH.cons (o:=_) rfl (fun K hK=>?_) ?_;rotate_left;exact AllReadyH.nil;go_simp
    go_at_call 63
    with_reducible refine (CA.out _ s8 x8 n8 c8 d8 y8 m8 e8 g8 belB ⟨H8.out.1,H8.out.2⟩).mono ?_
    rintro e w7 ⟨s9,x9,n9,c9,d9,y9,m9,e9,g9,rfl,hb7,H9⟩;have B7:Below w5.heap.size w5 w7:=belB;have S7:=HS.out.below B7;have O7:=HO.out.below B7;obtain ⟨_,t0,t1,t2,tf7⟩:=id S7
    (try go_wp2_with fail)
    refine hK.out _ _ ?_ (fun hHeld4=>?_)
    ·((try dsimp only);(refine ⟨?_,?_,?_,?_,?_,?_⟩ <;> repeat (with_reducible first | assumption | refine kCb B7 ?_)))
    clear hK K;try simp only [lay_,Act.put]
    refine wpAnyH_ready (rs:=[9]) (by kernel_rfl) (by simp) ?_;refine AllReadyH.cons (o:=_) rfl (fun K hK=>?_) ?_;rotate_left;exact AllReadyH.nil;go_simp;refine hK.out _ _ ?_ (fun hHeld9=>?_)
    ·((try dsimp only);(refine ⟨?_,?_,?_,?_,?_,?_⟩ <;> repeat (with_reducible first | assumption | refine kCs (by simp only [ne_eq];omega) ?_ | refine kCb B7 ?_)))
    clear hK K;try simp only [lay_,Act.put]
    refine wpAnyH_done (by kernel_rfl) ?_ _;have R1:=hid (And.intro (S7.st (s1:=s9) (x1:=x9) (n1:=n9) (c1:=c9) (y1:=y9) (m1:=m9) (d1:=e9)) (And.intro (S7.qn (u0:=.bool s9) (u1:=.slice x9 n9 c9) (u2:=.slice y9 m9 e9) H9.out.2) (And.intro (O7.far3 (u0:=.bool s9) (u1:=.slice x9 n9 c9) (u2:=.slice y9 m9 e9) (show B≠w.heap.size+1 by omega)) (below_st (B:=B) (u0:=.bool s9) (u1:=.slice x9 n9 c9) (u2:=.slice y9 m9 e9) (HB.out.trans (B7.mono HB.out.size)) (by omega)))));have L9:=hid H9.out.1;clear hHeld a1 a2 a3 p0 p1 p2 u0 u1 u2 uf t0 t1 t2 tf7 CM CA S7 O7 B7 H8 H9 HS HO HQ HR1 HR2 HB;generalize ((w7.setCell ⟨B,0,none⟩ (.bool s9)).setCell ⟨B,1,none⟩ (.slice x9 n9 c9)).setCell ⟨B,2,none⟩ (.slice y9 m9 e9)=w9 at *;go_wp2;go_roundw
    case rel=>exact ⟨i+1,acc+q*r,s9,x9,n9,c9,d9,y9,m9,e9,g9,by omega,by go_num,R1.out.2.2.2,R1.out.1,R1.out.2.2.1,⟨L9.out,R1.out.2.1⟩,HD.out⟩
    case measure=>simp [intOf];omega
   refine AllReadyH.cons (o:=_) rfl (fun K hK=>?_) ?_
   ·go_simp
    go_at_call 64
    with_reducible refine (CM.out _ belB).mono ?_
    rintro e w6 ⟨s8,x8,n8,c8,d8,y8,m8,e8,g8,rfl,hb6,H8⟩;have B6:Below w5.heap.size w5 w6:=belB;have S6:=HS.out.below B6;obtain ⟨_,v0,v1,v2,vf6⟩:=id S6
    (try go_wp2_with fail)
    refine hK.out _ _ ?_ (fun hHeld3=>?_)
    ·((try dsimp only);(refine ⟨?_,?_,?_,?_,?_,?_⟩ <;> repeat (with_reducible first | assumption | refine kCb B6 ?_)))
    clear hK K;try simp only [lay_,Act.put]
    refine wpAnyH_ready (rs:=[0]) (by kernel_rfl) (by simp) ?_;refine AllReadyH.cons (o:=_) rfl (fun K hK=>?_) ?_;rotate_left;exact AllReadyH.nil;go_simp;refine hK.out _ _ ?_ (fun hHeld2=>?_)
    ·((try dsimp only);(refine ⟨?_,?_,?_,?_,?_,?_⟩ <;> repeat (with_reducible first | assumption | refine kCb B6 ?_)))
    clear hK K;try simp only [lay_,Act.put]
    refine wpAnyH_ready (rs:=[8]) (by kernel_rfl) (by simp) ?_;refine AllReadyH.cons (o:=_) rfl (fun K hK=>?_) ?_;rotate_left;exact AllReadyH.nil;go_simp
    go_at_call 63
    with_reducible refine (CA.out _ s8 x8 n8 c8 d8 y8 m8 e8 g8 belB ⟨H8.out.1,H8.out.2⟩).mono ?_
    rintro e w7 ⟨s9,x9,n9,c9,d9,y9,m9,e9,g9,rfl,hb7,H9⟩;have B7:Below w5.heap.size w5 w7:=belB;have S7:=HS.out.below B7;have O7:=HO.out.below B7;obtain ⟨_,t0,t1,t2,tf7⟩:=id S7
    (try go_wp2_with fail)
    refine hK.out _ _ ?_ (fun hHeld4=>?_)
    ·((try dsimp only);(refine ⟨?_,?_,?_,?_,?_,?_⟩ <;> repeat (with_reducible first | assumption | refine kCb B7 ?_)))
    clear hK K;try simp only [lay_,Act.put]
    refine wpAnyH_ready (rs:=[9]) (by kernel_rfl) (by simp) ?_;refine AllReadyH.cons (o:=_) rfl (fun K hK=>?_) ?_;rotate_left;exact AllReadyH.nil;go_simp;refine hK.out _ _ ?_ (fun hHeld9=>?_)
    ·((try dsimp only);(refine ⟨?_,?_,?_,?_,?_,?_⟩ <;> repeat (with_reducible first | assumption | refine kCs (by simp only [ne_eq];omega) ?_ | refine kCb B7 ?_)))
    clear hK K;try simp only [lay_,Act.put]
    refine wpAnyH_done (by kernel_rfl) ?_ _;have R1:=hid (And.intro (S7.st (s1:=s9) (x1:=x9) (n1:=n9) (c1:=c9) (y1:=y9) (m1:=m9) (d1:=e9)) (And.intro (S7.qn (u0:=.bool s9) (u1:=.slice x9 n9 c9) (u2:=.slice y9 m9 e9) H9.out.2) (And.intro (O7.far3 (u0:=.bool s9) (u1:=.slice x9 n9 c9) (u2:=.slice y9 m9 e9) (show B≠w.heap.size+1 by omega)) (below_st (B:=B) (u0:=.bool s9) (u1:=.slice x9 n9 c9) (u2:=.slice y9 m9 e9) (HB.out.trans (B7.mono HB.out.size)) (by omega)))));have L9:=hid H9.out.1;clear hHeld a1 a2 a3 p0 p1 p2 u0 u1 u2 uf t0 t1 t2 tf7 CM CA S7 O7 B7 H8 H9 HS HO HQ HR1 HR2 HB;generalize ((w7.setCell ⟨B,0,none⟩ (.bool s9)).setCell ⟨B,1,none⟩ (.slice x9 n9 c9)).setCell ⟨B,2,none⟩ (.slice y9 m9 e9)=w9 at *;go_wp2;go_roundw
    case rel=>exact ⟨i+1,acc+q*r,s9,x9,n9,c9,d9,y9,m9,e9,g9,by omega,by go_num,R1.out.2.2.2,R1.out.1,R1.out.2.2.1,⟨L9.out,R1.out.2.1⟩,HD.out⟩
    case measure=>simp [intOf];omega
   exact AllReadyH.nil
  ·have e1:i=cs.length:=by omega
   have HF:Hid (acc=slpQ cs xs):=by
    show _=_;rw [←HE.out,e1,List.drop_of_length_le (by unfold costs;rw [List.length_zipWith];omega)];rfl
   have i2':¬(((i:Nat):Int)<((cs.length:Nat):Int)):=by omega
   have hKi:4+i*(2*L+2)≤4+64*(2*L+2):=by
    have h1:i*(2*L+2)≤64*(2*L+2):=Nat.mul_le_mul_right _ (by omega);omega
   obtain ⟨hq1,hq2⟩:=HQ.out.2.len HQ.out.1;obtain ⟨sz,u0,u1,u2,uf⟩:=HS.out;obtain ⟨hz,z0,z1,z2,zf⟩:=HO.out;clear e1 HE;go_wp2;exact bodyPost_ret (v:=.agg #[.bool s,.slice x n c,.slice y m e]) (by simp [results,Tryz.results68,go_sem,z0,z1,z2]) rfl ⟨s,x,n,c,d,y,m,e,g,rfl,below_st HB.out (by omega),by unfold KE;omega,by unfold KE;omega,by rw [←HF.out];exact HO.out.qn HQ.out.2⟩
def ShK (K k:Nat) (X:Nat→Nm):Prop:=k≤300∧∀j,j<k→(X j).n≤K∧(X j).m≤K
theorem lgL_shK {K k:Nat} {X:Nat→Nm} (h:lgL K k X=true):ShK K k X:=by
 simp only [lgL,Bool.and_eq_true,decide_eq_true_eq] at h;exact ⟨h.1,fun j hj=>nlg_all h.2 j (by omega) (by omega)⟩
def TmK (K:Nat) (w:World) (M M':Mo):Prop:=Sm M M'∧MoW w M'∧MoX w M'∧(M'.ck≤64→M'.rk≤64→MoK K M')
theorem TmK.below {K w w' M M'} (h:TmK K w M M') (hb:Below w.heap.size w w'):TmK K w' M M':=⟨h.1,h.2.1.below hb,h.2.2.1.below hb,h.2.2.2⟩
theorem TmK.valL {K w M M'} (L:Nat) (hL:K≤L) (hK:K≤100) (h:TmK K w M M') (hN:MoN M) (he:chkE M=0):MoV L w M' (nq M.off) (csOf M) (rsOf M)∧mvOk (csOf M) (rsOf M)=true:=by
 obtain ⟨s,hw,hx,hk⟩:=h;have he':chkE M'=0:=s.chk.trans he;obtain ⟨l1,l2,_⟩:=chkE_ok he';have k6:=hk l1 l2;have:=(hx.mor (s.mon hN) k6 (by omega) l1 l2).movC (k6.up hL) he';rw [s.csOf,s.rsOf,s.off.nq] at this;exact this
theorem Tx.valK {K w ao k X X'} (h:Tx w ao k X X') (hs:ShK K k X) (ha:afB k X=true):Rf K w ao (psOf k X):=by
 rw [←psOf_sn h.2];refine h.1.rfC ?_ (fun j hj=>by rw [(h.2 j hj).2.1,(h.2 j hj).2.2.2.1];exact hs.2 j hj);exact (afr_sn (fun j _ b=>h.2 j (by omega))).trans ha
theorem pckE_twK {K w ao k X X' M M'} (h:TmK K w M M') (hx:Tx w ao k X X'):pckE M' k X'=pckE M k X:=by
 unfold pckE;rw [h.1.chk,h.1.ck];unfold pnE;rw [show afB k X'=afB k X from afr_sn (fun j _ b=>hx.2 j (by omega))]
theorem tw_hvK {K w ao k X X' M M'} (L:Nat) (hL:K≤L) (hK:K≤100) (h:TmK K w M M') (hN:MoN M) (hx:Tx w ao k X X') (hs:ShK K k X) (he:pckE M k X=0):MoV L w M' (nq M.off) (csOf M) (rsOf M)∧mvOk (csOf M) (rsOf M)=true∧Rf L w ao (psOf k X)∧(psOf k X).length=k∧k=(csOf M).length:=by
 obtain ⟨h1,h2,h3⟩:=pckE_two he;obtain ⟨a,b⟩:=h.valL L hL hK hN h1;exact ⟨a,b,(hx.valK hs h2).mono hL,psOf_len _ _,by rw [csOf_len];exact h3⟩
theorem twinTmK_c {K:Nat} {w:World} {M:Mo} (hX:MoX w M) (hN:MoN M) (hk:M.ck≤64→M.rk≤64→MoK K M) (hK:K≤100):Calls Tryz.prog 9 #[M.val] w fun e w'=>∃(vm:Value) (M':Mo),e=.returned vm∧Below w.heap.size w w'∧Hid (vm=M'.val∧TmK K w' M M') :=
 (twin_w (K:=K) hX hN hk (by omega)).mono fun e w' ⟨M',h1,h2,h3,h4,h5,h6⟩=>⟨M'.val,M',h1,h2,hid ⟨rfl,h3,h4,h5,h6⟩⟩
theorem twinsTxK_c {K:Nat} {w:World} {ao:Option Addr} {k cap:Nat} {X:Nat→Nm} (h:Rl w ao k X) (hs:ShK K k X) (hK:K≤100):Calls Tryz.prog 10 #[.slice ao k cap] w fun e w'=>∃(a:Option Addr) (c:Nat) (X':Nat→Nm),e=.returned (.slice a k c)∧Below w.heap.size w w'∧(k≤c∧c≤9223372036854775807)∧Hid (Tx w' a k X X') :=
 (twins_c h (by have:=hs.1;omega) (fun j hj=>by have:=hs.2 j hj;omega)).mono fun e w' ⟨a,c,X',h1,h2,h3,h4⟩=>⟨a,c,X',h1,h2,h3,hid h4.out⟩
theorem feasTwK_c {w:World} {M M':Mo} {ao:Option Addr} {k cap:Nat} {X X':Nat→Nm} (h:TmK 8 w M M') (hN:MoN M) (hx:Tx w ao k X X') (hs:ShK 8 k X) :
  Calls Tryz.prog 16 #[M'.val,.slice ao k cap] w fun e w'=>e=.returned (.tuple #[.bool (decide (pckE M k X=0) && feasB (csOf M) (rsOf M) (psOf k X)),.int .i64 (pckE M k X)])∧Below w.heap.size w w' :=
 pFeas_v h.2.1 hx.1 (by have:=hs.1;omega) (pckE_twK h hx) (fun he=>tw_hvK 8 (by decide) (by decide) h hN hx hs he) (by decide)
theorem valueTwK_c {w:World} {M M':Mo} {ao:Option Addr} {k cap:Nat} {X X':Nat→Nm} (h:TmK 8 w M M') (hN:MoN M) (hx:Tx w ao k X X') (hs:ShK 8 k X) :
  Calls Tryz.prog 13 #[M'.val,.slice ao k cap] w fun e w'=>VaAns 8 w w' e (pckE M k X) (nq M.off) (csOf M) (psOf k X) :=
 pValue_v h.2.1 hx.1 (by have:=hs.1;omega) (pckE_twK h hx) (fun he=>tw_hvK 8 (by decide) (by decide) h hN hx hs he) (by decide)
theorem actsTwK_c {w:World} {M M':Mo} {ao:Option Addr} {k cap:Nat} {X X':Nat→Nm} (h:TmK 8 w M M') (hN:MoN M) (hx:Tx w ao k X X') (hs:ShK 8 k X) :
  Calls Tryz.prog 8 #[M'.val,.slice ao k cap] w fun e w'=>AcAns 8 w w' e (pckE M k X) (rsOf M) (psOf k X) :=
 pActs_v h.2.1 hx.1 (by have:=hs.1;omega) (pckE_twK h hx) (fun he=>tw_hvK 8 (by decide) (by decide) h hN hx hs he) (by decide)
theorem brokenTwK_c {w:World} {M M':Mo} {ao:Option Addr} {k cap:Nat} {X X':Nat→Nm} (h:TmK 8 w M M') (hN:MoN M) (hx:Tx w ao k X X') (hs:ShK 8 k X) :
  Calls Tryz.prog 18 #[M'.val,.slice ao k cap] w fun e w'=>BrAns w w' e (pckE M k X) (csOf M) (rsOf M) (psOf k X) :=
 pBroken_v h.2.1 hx.1 (by have:=hs.1;omega) (pckE_twK h hx) (fun he=>tw_hvK 8 (by decide) (by decide) h hN hx hs he) (by decide)
theorem nq_congr {t t':Nm} (h:Sn t t'):nq t'=nq t:=by
 obtain ⟨h1,h2,h3,h4,h5⟩:=h;unfold nq;rw [h1,h2,h3,h4,h5]
theorem Sm.crl {M M':Mo} (h:Sm M M'):crl (ccB M'.C) M'.ck=crl (ccB M.C) M.ck∧crl (rcB M'.R) M'.rk=crl (rcB M.R) M.rk:=by
 refine ⟨?_,?_⟩
 ·rw [crl_congr (B':=ccB M.C) (fun j hj=>?_),h.ck];rw [h.ck] at hj;have p:=h.C j hj;unfold ccB abvB;rw [p.li,p.hi,nq_congr p.lo,nq_congr p.hv]
 ·rw [crl_congr (B':=rcB M.R) (fun j hj=>?_),h.rk];rw [h.rk] at hj;have p:=h.R j hj;unfold rcB abvB;rw [p.li,p.hi,nq_congr p.lo,nq_congr p.hv]
structure In8 (w:World) (M:Mo):Prop where
 x:MoX w M
 n:MoN M
 c:MoC M
 k:M.ck≤64→M.rk≤64→MoK 8 M
theorem In8.below {w w' M} (h:In8 w M) (hb:Below w.heap.size w w'):In8 w' M:=⟨h.x.below hb,h.n,h.c,h.k⟩
theorem In8.val {w M} (h:In8 w M) (he:chkE M=0):MoV 8 w M (nq M.off) (csOf M) (rsOf M)∧mvOk (csOf M) (rsOf M)=true:=by
 obtain ⟨l1,l2,_⟩:=chkE_ok he;exact (h.x.mor h.n (h.k l1 l2) (by decide) l1 l2).movC (h.k l1 l2) he
theorem lsf_two (a b:Int):lsf (two a b) 2=lstep a b:=by
 simp [lsf,two,lstep]
theorem lstep_37 (e:Int):lstep (lstep e 3) 7=lstep e 3:=by
 unfold lstep;split <;> split <;> omega
theorem froms8_c {w:World} {ao:Option Addr} {k cap:Nat} {X:Nat→Nm} (hx:Rl w ao k X) (hs:ShK 8 k X) (ha:afB k X=true):Calls Tryz.prog 37 #[.slice ao k cap] w fun e w'=>∃aw cw,e=.returned (.slice aw k cw)∧Below w.heap.size w w'∧Hid (Rqs (2*8) w' aw (psOf k X)) :=
 (froms_c (L:=8) (p:=psOf k X) hx (by have:=hs.1;omega) (by decide) (psOf_len _ _) (fun j hj=>by
  obtain ⟨b,o,_,_,hn⟩:=hx j hj;exact ⟨nq (X j),range_get hj,NmS.val (K:=8) hn (afr_all ha j (by omega) (by omega)) (hs.2 j hj)⟩)).mono (by
   rintro e w' ⟨aw,cw,rfl,h1,_,h3⟩;exact ⟨aw,cw,rfl,h1,hid h3.out⟩)
theorem from8_c {w:World} {M:Mo} (h:In8 w M) (he:chkE M=0):Calls Tryz.prog 21 #[M.val] w fun e w'=>∃M':Mo,e=.returned M'.val∧Below w.heap.size w w'∧Hid (MqV (2*8) w' M' (nq M.off) (csOf M) (rsOf M)) :=
 (mFrom_c (h.val he).1 (by decide) (h.val he).2).mono (by
  rintro e w' ⟨M',h1,h2,h3⟩;exact ⟨M',h1,h2,hid h3⟩)
set_option maxRecDepth 100000 in
set_option maxHeartbeats 4000000 in
theorem rCheck_c {w:World} {M:Mo} {ao:Option Addr} {k cap:Nat} {X:Nat→Nm} (hI:In8 w M) (hx:Rl w ao k X) (hs:ShK 8 k X) :
  Calls Tryz.prog 34 #[M.val,.slice ao k cap] w fun e w'=>e=.returned (.int .i64 (pckE M k X))∧Below w.heap.size w w':=by
 have CC:=hid (fun W (hW:Below w.heap.size w W)=>docCheck_w (w:=W) ((hI.x.below hW).both hI.n hI.k (by decide)) hI.c);have CF:=hid (fun W (hW:Below w.heap.size w W)=>forms_c (w:=W) (cap:=cap) (hx.below hW) (by have:=hs.1;omega) (fun j hj=>by have:=hs.2 j hj;omega));obtain ⟨ec,hec⟩:∃e,chkE M=e:=⟨_,rfl⟩;obtain ⟨bf,hbf⟩:∃e,afB k X=e:=⟨_,rfl⟩;unfold pckE pnE;rw [hec] at CC ⊢;rw [hbf] at CF ⊢;clear hI hx hs hec hbf;obtain ⟨⟨s,x,n,c,f,y,m,d,g⟩,ca,ck,cc,C,ra,rk,rc,R⟩:=M;replace CC:Hid (∀W,Below w.heap.size w W→Calls Tryz.prog 58 #[.agg #[.bool s,.slice x n c,.slice y m d,.slice ca ck cc,.slice ra rk rc]] W fun e w'=>e=.returned (.int .i64 ec)∧Below W.heap.size W w'):=CC;show Calls Tryz.prog 34 #[.agg #[.bool s,.slice x n c,.slice y m d,.slice ca ck cc,.slice ra rk rc],.slice ao k cap] w fun e w'=>e=.returned (.int .i64 (lsf (two ec (if bf=true then (if (k:Int)=(ck:Int) then 0 else 7) else 3)) 2))∧Below w.heap.size w w'
 rw [lsf_two];obtain ⟨er,her⟩:∃e,lstep ec (if bf=true then (if (k:Int)=(ck:Int) then 0 else 7) else 3)=e:=⟨_,rfl⟩;rw [her];have HE:=hid her;clear her;have HB:=hid (below_alloc (Below.refl w.heap.size w) (.cells #[.bool s,.slice x n c,.slice y m d,.slice ca ck cc,.slice ra rk rc] 28));have BM:Hid (Bk (w.alloc (.cells #[.bool s,.slice x n c,.slice y m d,.slice ca ck cc,.slice ra rk rc] 28)) w.heap.size [.bool s,.slice x n c,.slice y m d,.slice ca ck cc,.slice ra rk rc] 28):=bk_new w [.bool s,.slice x n c,.slice y m d,.slice ca ck cc,.slice ra rk rc] 28;go_enter Tryz.func34,Tryz.ntmps34;have r0:=BM.out.cell (j:=0) rfl;have r1:=BM.out.cell (j:=1) rfl;have r2:=BM.out.cell (j:=2) rfl;have r3:=BM.out.cell (j:=3) rfl;have r4:=BM.out.cell (j:=4) rfl;go_wp2_with fail
 clear r0 r1 r2 r3 r4;generalize (w.alloc (.cells #[.bool s,.slice x n c,.slice y m d,.slice ca ck cc,.slice ra rk rc] 28))=v0 at *;refine (CC.out _ HB.out).mono ?_;rintro e v1 ⟨rfl,hb⟩;replace HB:=hid (HB.out.trans (hb.mono HB.out.size));replace BM:=hid (BM.out.below hb)
 clear hb;go_wp2_with fail
 refine (CF.out _ HB.out).mono ?_;rintro e v2 ⟨rfl,hb⟩;replace HB:=hid (HB.out.trans (hb.mono HB.out.size));replace BM:=hid (BM.out.below hb)
 clear hb;clear CC CF;cases bf
 ·have h0:lstep ec 3=er:=HE.out;have hb:=below_alloc (Below.refl v2.heap.size v2) (.cells #[.int .i64 ec,.int .i64 3] 3);go_wp2_with fail
  refine (fLeast_c two_el (by decide)).mono ?_;rintro e w5 ⟨rfl,rfl⟩;replace HB:=hid (HB.out.trans (hb.mono HB.out.size));replace BM:=hid (BM.out.below hb)
  clear hb;generalize v2.alloc (.cells #[.int .i64 ec,.int .i64 3] 3)=v2' at *;rw [lsf_two,h0];have r3:=BM.out.cell (j:=3) rfl;by_cases hk:((k:Nat):Int)=((ck:Nat):Int)
  ·have hk':(((k:Nat):Int) != ((ck:Nat):Int))=false:=by simp [hk]
   go_wp2;go_ret;exact ⟨rfl,HB.out⟩
  ·have hk':(((k:Nat):Int) != ((ck:Nat):Int))=true:=by simpa using hk
   have h1:lstep er 7=er:=by rw [←h0];exact lstep_37 ec
   have hb:=below_alloc (Below.refl v2'.heap.size v2') (.cells #[.int .i64 er,.int .i64 7] 3);go_wp2_with fail
   refine (fLeast_c two_el (by decide)).mono ?_;rintro e w5 ⟨rfl,rfl⟩;replace HB:=hid (HB.out.trans (hb.mono HB.out.size));replace BM:=hid (BM.out.below hb)
   clear hb;generalize v2'.alloc (.cells #[.int .i64 er,.int .i64 7] 3)=v2'' at *;rw [lsf_two,h1];go_wp2;go_ret;exact ⟨rfl,HB.out⟩
 ·have h0:lstep ec (if (k:Int)=(ck:Int) then 0 else 7)=er:=HE.out;have r3:=BM.out.cell (j:=3) rfl;by_cases hk:((k:Nat):Int)=((ck:Nat):Int)
  ·have hk':(((k:Nat):Int) != ((ck:Nat):Int))=false:=by simp [hk]
   have h9:lstep ec 0=ec:=by unfold lstep;split <;> omega
   rw [if_pos hk,h9] at h0;subst h0;clear h9;go_wp2;go_ret;exact ⟨rfl,HB.out⟩
  ·have hk':(((k:Nat):Int) != ((ck:Nat):Int))=true:=by simpa using hk
   rw [if_neg hk] at h0;have hb:=below_alloc (Below.refl v2.heap.size v2) (.cells #[.int .i64 ec,.int .i64 7] 3);go_wp2_with fail
   refine (fLeast_c two_el (by decide)).mono ?_;rintro e w5 ⟨rfl,rfl⟩;replace HB:=hid (HB.out.trans (hb.mono HB.out.size));replace BM:=hid (BM.out.below hb)
   clear hb;generalize v2.alloc (.cells #[.int .i64 ec,.int .i64 7] 3)=v2' at *;rw [lsf_two,h0];go_wp2;go_ret;exact ⟨rfl,HB.out⟩
def feM (M:Mo) (k:Nat) (X:Nat→Nm):Bool:=decide (pckE M k X=0) && feasB (csOf M) (rsOf M) (psOf k X)
set_option maxRecDepth 100000 in
set_option maxHeartbeats 4000000 in
theorem docFeas_c {w:World} {M:Mo} {ao:Option Addr} {k cap:Nat} {X:Nat→Nm} (hI:In8 w M) (hx:Rl w ao k X) (hs:ShK 8 k X) :
  Calls Tryz.prog 17 #[M.val,.slice ao k cap] w fun e w'=>e=.returned (.tuple #[.bool (feM M k X),.int .i64 (pckE M k X)])∧Below w.heap.size w w':=by
 have CC:=hid (fun W (hW:Below w.heap.size w W)=>rCheck_c (cap:=cap) (hI.below hW) (hx.below hW) hs);obtain ⟨er,her⟩:∃e,pckE M k X=e:=⟨_,rfl⟩;have CX:=hid (fun (h0:er=0) W (hW:Below w.heap.size w W)=>froms8_c (cap:=cap) (hx.below hW) hs (pckE_two (her.trans h0)).2.1);have CM:=hid (fun (h0:er=0) W (hW:Below w.heap.size w W)=>from8_c (hI.below hW) (pckE_two (her.trans h0)).1);obtain ⟨fe,hfe⟩:∃e,feasB (csOf M) (rsOf M) (psOf k X)=e:=⟨_,rfl⟩;have CF:Hid (er=0→∀W (M':Mo) a c,MqV (2*8) W M' (nq M.off) (csOf M) (rsOf M)→Rqs (2*8) W a (psOf k X)→Calls Tryz.prog 42 #[M'.val,.slice a k c] W fun e w'=>e=.returned (.bool fe)∧Below W.heap.size W w'):=fun h0 W M' a c h1 h2=>by
  have h3:=pckE_two (her.trans h0);have:=rFeas_c (cap:=c) h1 h2 (psOf_len _ _) (by rw [csOf_len];exact h3.2.2) (mvOk_p (hI.val h3.1).2) (by decide);rw [←feasB_all,hfe] at this;exact this
 unfold feM;rw [her,hfe];rw [her] at CC;obtain ⟨cs,hcs⟩:∃e,csOf M=e:=⟨_,rfl⟩;obtain ⟨rs,hrs⟩:∃e,rsOf M=e:=⟨_,rfl⟩;obtain ⟨of,hof⟩:∃e,nq M.off=e:=⟨_,rfl⟩;rw [hcs,hrs,hof] at CF;simp only [hcs,hrs,hof] at CM;clear hI hx hs her hfe hcs hrs hof;obtain ⟨⟨s,x,n,c,f,y,m,d,g⟩,ca,ck,cc,C,ra,rk,rc,R⟩:=M;replace CC:Hid (∀W,Below w.heap.size w W→Calls Tryz.prog 34 #[.agg #[.bool s,.slice x n c,.slice y m d,.slice ca ck cc,.slice ra rk rc],.slice ao k cap] W fun e w'=>e=.returned (.int .i64 er)∧Below W.heap.size W w'):=CC;replace CM:Hid (er=0→∀W,Below w.heap.size w W→Calls Tryz.prog 21 #[.agg #[.bool s,.slice x n c,.slice y m d,.slice ca ck cc,.slice ra rk rc]] W fun e w'=>∃M':Mo,e=.returned M'.val∧Below W.heap.size W w'∧Hid (MqV (2*8) w' M' of cs rs)):=CM;show Calls Tryz.prog 17 #[.agg #[.bool s,.slice x n c,.slice y m d,.slice ca ck cc,.slice ra rk rc],.slice ao k cap] w _;have HB:=hid (below_alloc (Below.refl w.heap.size w) (.cells #[.bool s,.slice x n c,.slice y m d,.slice ca ck cc,.slice ra rk rc] 28));have BM:Hid (Bk (w.alloc (.cells #[.bool s,.slice x n c,.slice y m d,.slice ca ck cc,.slice ra rk rc] 28)) w.heap.size [.bool s,.slice x n c,.slice y m d,.slice ca ck cc,.slice ra rk rc] 28):=bk_new w [.bool s,.slice x n c,.slice y m d,.slice ca ck cc,.slice ra rk rc] 28;go_enter Tryz.func17,Tryz.ntmps17;have r0:=BM.out.cell (j:=0) rfl;have r1:=BM.out.cell (j:=1) rfl;have r2:=BM.out.cell (j:=2) rfl;have r3:=BM.out.cell (j:=3) rfl;have r4:=BM.out.cell (j:=4) rfl;go_wp2_with fail
 clear r0 r1 r2 r3 r4;generalize (w.alloc (.cells #[.bool s,.slice x n c,.slice y m d,.slice ca ck cc,.slice ra rk rc] 28))=v0 at *;refine (CC.out _ HB.out).mono ?_;rintro e v1 ⟨rfl,hb⟩;replace HB:=hid (HB.out.trans (hb.mono HB.out.size));replace BM:=hid (BM.out.below hb)
 clear hb;clear CC;by_cases h0:er=0
 case neg =>
  have h1:(er != 0)=true:=by simpa using h0
  have h2:decide (er=0)=false:=decide_eq_false h0;clear CX CM CF h0;go_wp2
  go_ret2
  exact ⟨by rw [h2];rfl,HB.out⟩
 subst h0;have r0:=BM.out.cell (j:=0) rfl;have r1:=BM.out.cell (j:=1) rfl;have r2:=BM.out.cell (j:=2) rfl;have r3:=BM.out.cell (j:=3) rfl;have r4:=BM.out.cell (j:=4) rfl;go_wp2_with fail
 clear r0 r1 r2 r3 r4;refine (CM.out (by first | rfl | trivial) _ HB.out).mono ?_;rintro e v2 ⟨M',rfl,hb,HM⟩;replace HB:=hid (HB.out.trans (hb.mono HB.out.size));replace BM:=hid (BM.out.below hb)
 clear hb;go_wp2_with fail
 refine (CX.out (by first | rfl | trivial) _ HB.out).mono ?_;rintro e v3 ⟨a3,c3,rfl,hb,H3⟩;replace HM:=hid (HM.out.below hb);replace HB:=hid (HB.out.trans (hb.mono HB.out.size));replace BM:=hid (BM.out.below hb)
 clear hb;go_wp2_with fail
 refine (CF.out (by first | rfl | trivial) _ M' a3 c3 HM.out H3.out).mono ?_;rintro e v4 ⟨rfl,hb⟩;replace HB:=hid (HB.out.trans (hb.mono HB.out.size));replace BM:=hid (BM.out.below hb)
 clear hb;clear CM CX CF HM H3;go_wp2
 go_ret2
 exact ⟨by simp,HB.out⟩
theorem valQ_add (off:Rat) (cs:List CV) (xs:List Rat):valQ off cs xs=off+slpQ cs xs:=by
 unfold valQ slpQ;rw [psum_cons]
def KW (L:Nat):Nat:=4*L+2*KE L+3
set_option maxRecDepth 100000 in
set_option maxHeartbeats 8000000 in
theorem rVal_c {w:World} {L:Nat} {M:Mo} {off:Rat} {cs:List CV} {rs:List RV} {ax:Option Addr} {k cx:Nat} {xs:List Rat} (h:MqV (2*L) w M off cs rs) (hx:Rqs (2*L) w ax xs) (hk:xs.length=k) (hkc:k=cs.length) (hm:MvP cs rs) (hL:L≤60) :
  Calls Tryz.prog 40 #[M.val,.slice ax k cx] w fun e w'=>QAns (KW L) w w' e (valQ off cs xs):=by
 have CC:=hid (fun W (hW:Below w.heap.size w W)=>rCosts_c (cx:=cx) (h.below hW) (hx.below hW) hk hkc hm hL);have HO:=hid h.off;rw [valQ_add];clear h hx hk hkc hm;obtain ⟨⟨so,xo,no,co,fo,yo,mo,dd,gg⟩,ca,ck,cc,C,ra,rk,rc,R⟩:=M;obtain ⟨sq,hsq⟩:∃t,slpQ cs xs=t:=⟨_,rfl⟩;rw [hsq] at CC ⊢;clear hsq;replace CC:Hid (∀W,Below w.heap.size w W→Calls Tryz.prog 68 #[.agg #[.bool so,.slice xo no co,.slice yo mo dd,.slice ca ck cc,.slice ra rk rc],.slice ax k cx] W fun e w'=>QAns (KE L) W w' e sq):=CC;replace HO:Hid (no≤2*L∧mo≤2*L∧Qn w so xo no fo yo mo gg off):=HO;show Calls Tryz.prog 40 #[.agg #[.bool so,.slice xo no co,.slice yo mo dd,.slice ca ck cc,.slice ra rk rc],.slice ax k cx] w _;have h2:Ob ((w.alloc (.cells #[.bool so,.slice xo no co,.slice yo mo dd,.slice ca ck cc,.slice ra rk rc] 64)).alloc (.cells #[.bool false,.slice none 0 0,.slice none 0 0] 60)) (w.heap.size+1):=by
  have:=ob_new (w.alloc (.cells #[.bool so,.slice xo no co,.slice yo mo dd,.slice ca ck cc,.slice ra rk rc] 64)) 60;rw [size_alloc1] at this;exact this
 have h3:=below_alloc (below_alloc (Below.refl w.heap.size w) (.cells #[.bool so,.slice xo no co,.slice yo mo dd,.slice ca ck cc,.slice ra rk rc] 64)) (.cells #[.bool false,.slice none 0 0,.slice none 0 0] 60);have BM:Hid (Bk ((w.alloc (.cells #[.bool so,.slice xo no co,.slice yo mo dd,.slice ca ck cc,.slice ra rk rc] 64)).alloc (.cells #[.bool false,.slice none 0 0,.slice none 0 0] 60)) w.heap.size [.bool so,.slice xo no co,.slice yo mo dd,.slice ca ck cc,.slice ra rk rc] 64):=(bk_new w [.bool so,.slice xo no co,.slice yo mo dd,.slice ca ck cc,.slice ra rk rc] 64).below (below_alloc (Below.refl _ _) _);go_enter Tryz.func40,Tryz.ntmps40;go_upto_region 1 with fail
 generalize ((w.alloc (.cells #[.bool so,.slice xo no co,.slice yo mo dd,.slice ca ck cc,.slice ra rk rc] 64)).alloc (.cells #[.bool false,.slice none 0 0,.slice none 0 0] 60))=w0 at *;have OB:=hid h2;have HB:=hid h3
 clear h2 h3;have r0:=BM.out.cell (j:=0) rfl;have r1:=BM.out.cell (j:=1) rfl;have r2:=BM.out.cell (j:=2) rfl;have r3:=BM.out.cell (j:=3) rfl;have r4:=BM.out.cell (j:=4) rfl;refine wp_region_held_drew (S:=(fun w'=>w'.cell? ⟨w.heap.size,0,none⟩=some (.bool so)∧w'.cell? ⟨w.heap.size,1,none⟩=some (.slice xo no co)∧w'.cell? ⟨w.heap.size,2,none⟩=some (.slice yo mo dd)∧w'.cell? ⟨w.heap.size,3,none⟩=some (.slice ca ck cc)∧w'.cell? ⟨w.heap.size,4,none⟩=some (.slice ra rk rc))) (by kernel_rfl) ?_ (fun hHeld=>?_)
 ·(refine ⟨?_,?_,?_,?_,?_⟩ <;> repeat (with_reducible first | assumption | refine kCd ?_))
 have hbd:=Below.drew (Below.refl w0.heap.size w0);replace HB:=hid (HB.out.trans (hbd.mono HB.out.size));replace OB:=hid (OB.out.below hbd)
 generalize w0.drew=wd at *;clear hbd BM r0 r1 r2 r3 r4;obtain ⟨r0,r1,r2,r3,r4⟩:=id hHeld;refine tkO 0 ?_;simp only [lay_,Act.put];refine tkO 1 ?_;simp only [lay_,Act.put];refine tkO 2 ?_;simp only [lay_,Act.put];refine tkO 3 ?_;simp only [lay_,Act.put];refine wpAnyH_ready (rs:=[4]) (by kernel_rfl) (by simp) ?_;refine AllReadyH.cons (o:=_) rfl (fun K hK=>?_) ?_;rotate_left;exact AllReadyH.nil;go_simp
 go_at_call 68
 refine (CC.out _ HB.out).mono ?_;rintro e w6 ⟨s6,x6,n6,c6,d6,y6,m6,e6,g6,rfl,hb6,hq1,hq2,hq⟩
 (try go_wp2_with fail)
 refine hK.out _ _ ?_ (fun hH6=>?_)
 ·((try dsimp only);(refine ⟨?_,?_,?_,?_,?_⟩ <;> repeat (with_reducible first | assumption | refine kCb (by assumption) ?_)))
 clear hK K;try simp only [lay_,Act.put]
 replace HB:=hid (HB.out.trans (hb6.mono HB.out.size));replace OB:=hid (OB.out.below hb6)
 clear hHeld CC;refine wpAnyH_ready (rs:=[5]) (by kernel_rfl) (by simp) ?_;refine AllReadyH.cons (o:=_) rfl (fun K hK=>?_) ?_;rotate_left;exact AllReadyH.nil;go_simp
 go_at_call 63
 have hkb:KE L≤32000:=by unfold KE;omega
 refine (qAdd_c (HO.out.2.2.below HB.out) hq (Nat.le_trans HO.out.1 (by omega)) (Nat.le_trans HO.out.2.1 (by omega)) (by omega) (by omega)).mono ?_;rintro e w7 ⟨s7,x7,n7,c7,d7,y7,m7,e7,g7,rfl,hb7,hr1,hr2,hr⟩
 (try go_wp2_with fail)
 refine hK.out _ _ ?_ (fun hH7=>?_)
 ·((try dsimp only);(refine ⟨?_,?_,?_,?_,?_⟩ <;> repeat (with_reducible first | assumption | refine kCb (by assumption) ?_)))
 clear hK K;try simp only [lay_,Act.put]
 replace HB:=hid (HB.out.trans (hb7.mono HB.out.size));replace OB:=hid (OB.out.below hb7)
 obtain ⟨hz,z0,z1,z2,zf⟩:=id OB.out;have hne:w.heap.size≠w.heap.size+1:=by omega
 refine wpAnyH_ready (rs:=[6]) (by kernel_rfl) (by simp) ?_;refine AllReadyH.cons (o:=_) rfl (fun K hK=>?_) ?_;rotate_left;exact AllReadyH.nil;go_simp;refine hK.out _ _ ?_ (fun hH8=>?_)
 ·((try dsimp only);(refine ⟨?_,?_,?_,?_,?_⟩ <;> repeat (with_reducible first | assumption | refine kCs (by simp only [ne_eq];omega) ?_ | refine kCb (by assumption) ?_)))
 clear hK K;try simp only [lay_,Act.put]
 refine wpAnyH_done (by kernel_rfl) ?_ _;have b1:=HO.out.1;have b2:=HO.out.2.1
 clear hH6 hH7 hH8 hb6 hb7 HO hq r0 r1 r2 r3 r4;go_wp2;exact bodyPost_ret (v:=.agg #[.bool s7,.slice x7 n7 c7,.slice y7 m7 e7]) (by simp [results,Tryz.results40,go_sem,z0,z1,z2]) rfl ⟨s7,x7,n7,c7,d7,y7,m7,e7,g7,rfl,below_st HB.out (by omega),by unfold KW;omega,by unfold KW;omega,OB.out.qn hr⟩
def VdAns (L:Nat) (w w':World) (e:Ending) (er:Int) (q:Rat):Prop:=Below w.heap.size w w' ∧
 ((er≠0∧e=.returned (.tuple #[.agg #[.bool false,.slice none 0 0,.slice none 0 0],.int .i64 er]))∨(er=0∧∃s x n c f y m d g,e=.returned (.tuple #[.agg #[.bool s,.slice x n c,.slice y m d],.int .i64 0])∧Rn (2*KW L) w' s x n c f y m d g q))
set_option maxRecDepth 100000 in
set_option maxHeartbeats 8000000 in
theorem docValue_c {w:World} {M:Mo} {ao:Option Addr} {k cap:Nat} {X:Nat→Nm} (hI:In8 w M) (hx:Rl w ao k X) (hs:ShK 8 k X) :
  Calls Tryz.prog 14 #[M.val,.slice ao k cap] w fun e w'=>VdAns 8 w w' e (pckE M k X) (valQ (nq M.off) (csOf M) (psOf k X)):=by
 have CC:=hid (fun W (hW:Below w.heap.size w W)=>rCheck_c (cap:=cap) (hI.below hW) (hx.below hW) hs);obtain ⟨er,her⟩:∃e,pckE M k X=e:=⟨_,rfl⟩;have CX:=hid (fun (h0:er=0) W (hW:Below w.heap.size w W)=>froms8_c (cap:=cap) (hx.below hW) hs (pckE_two (her.trans h0)).2.1);have CM:=hid (fun (h0:er=0) W (hW:Below w.heap.size w W)=>from8_c (hI.below hW) (pckE_two (her.trans h0)).1);have CF:Hid (er=0→∀W (M':Mo) a c,MqV (2*8) W M' (nq M.off) (csOf M) (rsOf M)→Rqs (2*8) W a (psOf k X)→Calls Tryz.prog 40 #[M'.val,.slice a k c] W fun e w'=>QAns (KW 8) W w' e (valQ (nq M.off) (csOf M) (psOf k X))):=fun h0 W M' a c h1 h2=>by
  have h3:=pckE_two (her.trans h0);exact rVal_c h1 h2 (psOf_len _ _) (by rw [csOf_len];exact h3.2.2) (mvOk_p (hI.val h3.1).2) (by decide)
 rw [her];rw [her] at CC;obtain ⟨vq,hvq⟩:∃e,valQ (nq M.off) (csOf M) (psOf k X)=e:=⟨_,rfl⟩;obtain ⟨cs,hcs⟩:∃e,csOf M=e:=⟨_,rfl⟩;obtain ⟨rs,hrs⟩:∃e,rsOf M=e:=⟨_,rfl⟩;obtain ⟨of,hof⟩:∃e,nq M.off=e:=⟨_,rfl⟩;rw [hvq];rw [hvq,hcs,hrs,hof] at CF;simp only [hcs,hrs,hof] at CM;clear hI hx hs her hvq hcs hrs hof;obtain ⟨⟨s,x,n,c,f,y,m,d,g⟩,ca,ck,cc,C,ra,rk,rc,R⟩:=M;replace CC:Hid (∀W,Below w.heap.size w W→Calls Tryz.prog 34 #[.agg #[.bool s,.slice x n c,.slice y m d,.slice ca ck cc,.slice ra rk rc],.slice ao k cap] W fun e w'=>e=.returned (.int .i64 er)∧Below W.heap.size W w'):=CC;replace CM:Hid (er=0→∀W,Below w.heap.size w W→Calls Tryz.prog 21 #[.agg #[.bool s,.slice x n c,.slice y m d,.slice ca ck cc,.slice ra rk rc]] W fun e w'=>∃M':Mo,e=.returned M'.val∧Below W.heap.size W w'∧Hid (MqV (2*8) w' M' of cs rs)):=CM;show Calls Tryz.prog 14 #[.agg #[.bool s,.slice x n c,.slice y m d,.slice ca ck cc,.slice ra rk rc],.slice ao k cap] w _;have HB:=hid (below_alloc (below_alloc (Below.refl w.heap.size w) (.cells #[.bool s,.slice x n c,.slice y m d,.slice ca ck cc,.slice ra rk rc] 28)) (.cells #[.bool false,.slice none 0 0,.slice none 0 0] 24));have BM:Hid (Bk ((w.alloc (.cells #[.bool s,.slice x n c,.slice y m d,.slice ca ck cc,.slice ra rk rc] 28)).alloc (.cells #[.bool false,.slice none 0 0,.slice none 0 0] 24)) w.heap.size [.bool s,.slice x n c,.slice y m d,.slice ca ck cc,.slice ra rk rc] 28):=(bk_new w [.bool s,.slice x n c,.slice y m d,.slice ca ck cc,.slice ra rk rc] 28).below (below_alloc (Below.refl _ _) _);have OB:Hid (Ob ((w.alloc (.cells #[.bool s,.slice x n c,.slice y m d,.slice ca ck cc,.slice ra rk rc] 28)).alloc (.cells #[.bool false,.slice none 0 0,.slice none 0 0] 24)) (w.heap.size+1)):=by
  have:=ob_new (w.alloc (.cells #[.bool s,.slice x n c,.slice y m d,.slice ca ck cc,.slice ra rk rc] 28)) 24;rw [size_alloc1] at this;exact this
 go_enter Tryz.func14,Tryz.ntmps14;have r0:=BM.out.cell (j:=0) rfl;have r1:=BM.out.cell (j:=1) rfl;have r2:=BM.out.cell (j:=2) rfl;have r3:=BM.out.cell (j:=3) rfl;have r4:=BM.out.cell (j:=4) rfl;go_wp2_with fail
 clear r0 r1 r2 r3 r4;generalize ((w.alloc (.cells #[.bool s,.slice x n c,.slice y m d,.slice ca ck cc,.slice ra rk rc] 28)).alloc (.cells #[.bool false,.slice none 0 0,.slice none 0 0] 24))=v0 at *;refine (CC.out _ HB.out).mono ?_;rintro e v1 ⟨rfl,hb⟩;replace HB:=hid (HB.out.trans (hb.mono HB.out.size));replace BM:=hid (BM.out.below hb);replace OB:=hid (OB.out.below hb)
 clear hb;clear CC;by_cases h0:er=0
 case neg =>
  have h1:(er != 0)=true:=by simpa using h0
  have HN:=hid h0;clear CX CM CF h0;obtain ⟨hz,z0,z1,z2,zf⟩:=id OB.out;go_wp2;exact bodyPost_ret (v:=.tuple #[.agg #[.bool false,.slice none 0 0,.slice none 0 0],.int .i64 er]) (by simp [results,Tryz.results14,go_sem,z0,z1,z2]) rfl ⟨below_st HB.out (by omega),.inl ⟨HN.out,rfl⟩⟩
 subst h0;have r0:=BM.out.cell (j:=0) rfl;have r1:=BM.out.cell (j:=1) rfl;have r2:=BM.out.cell (j:=2) rfl;have r3:=BM.out.cell (j:=3) rfl;have r4:=BM.out.cell (j:=4) rfl;go_wp2_with fail
 clear r0 r1 r2 r3 r4;refine (CM.out (by first | rfl | trivial) _ HB.out).mono ?_;rintro e v2 ⟨M',rfl,hb,HM⟩;replace HB:=hid (HB.out.trans (hb.mono HB.out.size));replace BM:=hid (BM.out.below hb);replace OB:=hid (OB.out.below hb)
 clear hb;go_wp2_with fail
 refine (CX.out (by first | rfl | trivial) _ HB.out).mono ?_;rintro e v3 ⟨a3,c3,rfl,hb,H3⟩;replace HM:=hid (HM.out.below hb);replace HB:=hid (HB.out.trans (hb.mono HB.out.size));replace BM:=hid (BM.out.below hb);replace OB:=hid (OB.out.below hb)
 clear hb;go_wp2_with fail
 refine (CF.out (by first | rfl | trivial) _ M' a3 c3 HM.out H3.out).mono ?_;rintro e v4 ⟨s6,x6,n6,c6,d6,y6,m6,e6,g6,rfl,hb,hq1,hq2,hq⟩;replace HB:=hid (HB.out.trans (hb.mono HB.out.size));replace BM:=hid (BM.out.below hb);replace OB:=hid (OB.out.below hb)
 clear hb;clear CM CX CF HM H3;go_wp2_with fail
 refine (qToR_c hq (Nat.le_trans hq1 (by decide)) (Nat.le_trans hq2 (by decide))).mono ?_;rintro e v5 ⟨zp,np,cp,fp,zq,nq',cq,fq,rfl,hb,hr⟩;replace HB:=hid (HB.out.trans (hb.mono HB.out.size));replace BM:=hid (BM.out.below hb);replace OB:=hid (OB.out.below hb)
 clear hb;have HR:=hid (hr.out.mono (show n6+m6≤2*KW 8 by omega));clear hq1 hq2 hq hr;obtain ⟨hz,z0,z1,z2,zf⟩:=id OB.out;go_wp2;exact bodyPost_ret (v:=.tuple #[.agg #[.bool s6,.slice zp np cp,.slice zq nq' cq],.int .i64 0]) (by simp [results,Tryz.results14,go_sem,z0,z1,z2]) rfl ⟨below_st HB.out (by omega),.inr ⟨rfl,s6,zp,np,cp,fp,zq,nq',cq,fq,rfl,OB.out.rn HR.out⟩⟩
def AdAns (w w':World) (e:Ending) (er:Int) (rs:List RV) (xs:List Rat):Prop:=Below w.heap.size w w' ∧
 ((er≠0∧e=.returned (.tuple #[.slice none 0 0,.int .i64 er]))∨(er=0∧∃a c,e=.returned (.tuple #[.slice a rs.length c,.int .i64 0])∧(rs.length≤c∧c≤9223372036854775807)∧Rf (2*KE 8) w' a (rs.map (actQ xs))))
set_option maxRecDepth 100000 in
set_option maxHeartbeats 8000000 in
theorem docActs_c {w:World} {M:Mo} {ao:Option Addr} {k cap:Nat} {X:Nat→Nm} (hI:In8 w M) (hx:Rl w ao k X) (hs:ShK 8 k X) :
  Calls Tryz.prog 11 #[M.val,.slice ao k cap] w fun e w'=>AdAns w w' e (pckE M k X) (rsOf M) (psOf k X):=by
 have CC:=hid (fun W (hW:Below w.heap.size w W)=>rCheck_c (cap:=cap) (hI.below hW) (hx.below hW) hs);obtain ⟨er,her⟩:∃e,pckE M k X=e:=⟨_,rfl⟩;have CX:=hid (fun (h0:er=0) W (hW:Below w.heap.size w W)=>froms8_c (cap:=cap) (hx.below hW) hs (pckE_two (her.trans h0)).2.1);have CM:=hid (fun (h0:er=0) W (hW:Below w.heap.size w W)=>from8_c (hI.below hW) (pckE_two (her.trans h0)).1);have HP:Hid (er=0→MvP (csOf M) (rsOf M)∧(psOf k X).length=k∧k=(csOf M).length):=fun h0=>by
  have h3:=pckE_two (her.trans h0);exact ⟨mvOk_p (hI.val h3.1).2,psOf_len _ _,by rw [csOf_len];exact h3.2.2⟩
 rw [her];rw [her] at CC;obtain ⟨xs,hxs⟩:∃e,psOf k X=e:=⟨_,rfl⟩;obtain ⟨cs,hcs⟩:∃e,csOf M=e:=⟨_,rfl⟩;obtain ⟨rs,hrs⟩:∃e,rsOf M=e:=⟨_,rfl⟩;obtain ⟨of,hof⟩:∃e,nq M.off=e:=⟨_,rfl⟩;rw [hrs,hxs];rw [hxs,hcs,hrs] at HP;simp only [hcs,hrs,hof] at CM;simp only [hxs] at CX;clear hI hx hs her hxs hcs hrs hof;obtain ⟨⟨s,x,n,c,f,y,m,d,g⟩,ca,ck,cc,C,ra,rk,rc,R⟩:=M;replace CC:Hid (∀W,Below w.heap.size w W→Calls Tryz.prog 34 #[.agg #[.bool s,.slice x n c,.slice y m d,.slice ca ck cc,.slice ra rk rc],.slice ao k cap] W fun e w'=>e=.returned (.int .i64 er)∧Below W.heap.size W w'):=CC;replace CM:Hid (er=0→∀W,Below w.heap.size w W→Calls Tryz.prog 21 #[.agg #[.bool s,.slice x n c,.slice y m d,.slice ca ck cc,.slice ra rk rc]] W fun e w'=>∃M':Mo,e=.returned M'.val∧Below W.heap.size W w'∧Hid (MqV (2*8) w' M' of cs rs)):=CM;have hfd2:∀(b:Bool) (x:Option Addr) (n c:Nat) (y:Option Addr) (m e:Nat) (a1:Option Addr) (k1 e1:Nat) (a2:Option Addr) (k2 e2:Nat) (w:World),(Instr.field 64 (.agg #[.bool b,.slice x n c,.slice y m e,.slice a1 k1 e1,.slice a2 k2 e2]) 2).run Tryz.prog w=.ok (.slice a2 k2 e2) w:=fun _ _ _ _ _ _ _ _ _ _ _ _ _ _=>by kernel_rfl
 show Calls Tryz.prog 11 #[.agg #[.bool s,.slice x n c,.slice y m d,.slice ca ck cc,.slice ra rk rc],.slice ao k cap] w _;have HB:=hid (below_alloc (Below.refl w.heap.size w) (.cells #[.bool s,.slice x n c,.slice y m d,.slice ca ck cc,.slice ra rk rc] 28));have BM:Hid (Bk (w.alloc (.cells #[.bool s,.slice x n c,.slice y m d,.slice ca ck cc,.slice ra rk rc] 28)) w.heap.size [.bool s,.slice x n c,.slice y m d,.slice ca ck cc,.slice ra rk rc] 28):=bk_new w [.bool s,.slice x n c,.slice y m d,.slice ca ck cc,.slice ra rk rc] 28;go_enter Tryz.func11,Tryz.ntmps11;have r0:=BM.out.cell (j:=0) rfl;have r1:=BM.out.cell (j:=1) rfl;have r2:=BM.out.cell (j:=2) rfl;have r3:=BM.out.cell (j:=3) rfl;have r4:=BM.out.cell (j:=4) rfl;go_wp2_with fail
 clear r0 r1 r2 r3 r4;generalize (w.alloc (.cells #[.bool s,.slice x n c,.slice y m d,.slice ca ck cc,.slice ra rk rc] 28))=v0 at *;refine (CC.out _ HB.out).mono ?_;rintro e v1 ⟨rfl,hb⟩;replace HB:=hid (HB.out.trans (hb.mono HB.out.size));replace BM:=hid (BM.out.below hb)
 clear hb;clear CC;by_cases h0:er=0
 case neg =>
  have h1:(er != 0)=true:=by simpa using h0
  have HN:=hid h0;clear CX CM h0 HP hfd2;go_wp2
  go_ret2
  exact ⟨HB.out,.inl ⟨HN.out,rfl⟩⟩
 subst h0;have r0:=BM.out.cell (j:=0) rfl;have r1:=BM.out.cell (j:=1) rfl;have r2:=BM.out.cell (j:=2) rfl;have r3:=BM.out.cell (j:=3) rfl;have r4:=BM.out.cell (j:=4) rfl;go_wp2_with fail
 clear r0 r1 r2 r3 r4;refine (CM.out (by first | rfl | trivial) _ HB.out).mono ?_;rintro e w2 ⟨M1,hr,hb,HM⟩;obtain ⟨⟨s',x',n',c',f',y',m',d',g'⟩,ca',ck',cc',C',ra',rk',rc',R'⟩:=M1;replace hr:e=.returned (.agg #[.bool s',.slice x' n' c',.slice y' m' d',.slice ca' ck' cc',.slice ra' rk' rc']):=hr;subst hr;have hq2:rk'=rs.length:=HM.out.rk;have HR:Hid (∀j v,rs[j]?=some v→(∃b o,ra'=some ⟨b,o,none⟩∧Cs w2 b (o+j*10) (R' j).vs)∧QrV (2*8) w2 (R' j) v):=HM.out.rls;replace HB:=hid (HB.out.trans (hb.mono HB.out.size));replace BM:=hid (BM.out.below hb)
 clear hb;clear HM CM BM;subst hq2;obtain ⟨hP,hk,hkc⟩:=HP.out (by first | rfl | trivial);have hrl:=hP.rl;have hcl:=hP.cl;have hP:=hid hP;have HK:=hid hk;have HKC:=hid hkc
 clear hk hkc;replace CX:=hid (CX.out (by first | rfl | trivial));clear HP;go_wp2_with fail
 clear hfd2;go_loopw [7,20] (fun ov t wr=>∃(i:Nat),i≤rs.length∧t=.int .i64 i∧Hid (Below w2.heap.size w2 wr)∧Hid (Gr (2*KE 8) w2.heap.size wr ov ((rs.map (actQ xs)).take i))) (fun _ t _=>rs.length-(intOf t).toNat)
 case atStart=>exact ⟨0,by omega,rfl,Below.refl _ _,gr_nil _ _ _⟩
 case round =>
  obtain ⟨i,hi,rfl,HBr,HG⟩:=hrel;by_cases hlt:i<rs.length
  ·obtain ⟨v,hv⟩:∃v,rs[i]?=some v:=⟨_,List.getElem?_eq_getElem hlt⟩;have hbw:=HB.out.trans (HBr.out.mono HB.out.size);obtain ⟨⟨b,o,hra,hc0⟩,hn⟩:=HR.out i v hv;subst hra;have hc:=hc0.below HBr.out;replace hn:=hn.below HBr.out;have hvm:=List.mem_of_getElem? hv;have CD:Hid (∀W a c,Below wr.heap.size wr W→Rqs (2*8) W a xs→Calls Tryz.prog 36 #[.slice (R' i).ta (R' i).tk (R' i).tc,.slice a k c] W fun e w2=>QAns (KE 8) W w2 e (actQ xs v)):=fun W a c hW hX=>by
    have:=fDot_c (L:=8) (cx:=c) (cv:=(R' i).tc) (hn.tl.below hW) hX hn.tk.symm HK.out (by rw [hn.tk];exact hP.out.tl v hvm) (by omega) (fun j a q e=>HKC.out ▸ hP.out.tc v hvm (a,q) (List.mem_of_getElem? e));rw [show dsum xs v.ts 0=actQ xs v from by simp only [actQ,dsum_psum]] at this;exact this
   obtain ⟨⟨z,⟨i1,⟨s1,x1,n1,c1,f1,y1,m1,d1,g1⟩⟩,⟨i2,⟨s2,x2,n2,c2,f2,y2,m2,d2,g2⟩⟩,ta,tk,tc,tcol,tt⟩,hCi⟩:∃t,R' i=t:=⟨_,rfl⟩;rw [hCi] at hc CD;replace CD:Hid (∀W a c,Below wr.heap.size wr W→Rqs (2*8) W a xs→Calls Tryz.prog 36 #[.slice ta tk tc,.slice a k c] W fun e w2=>QAns (KE 8) W w2 e (actQ xs v)):=CD;have q0:wr.cell? ⟨b,o+i*10,none⟩=some (.string z):=hc 0 _ rfl;have q1:wr.cell? ⟨b,o+i*10+1,none⟩=some (.int .i64 i1):=hc 1 _ rfl;have q2:wr.cell? ⟨b,o+i*10+2,none⟩=some (.bool s1):=hc 2 _ rfl;have q3:wr.cell? ⟨b,o+i*10+3,none⟩=some (.slice x1 n1 c1):=hc 3 _ rfl;have q4:wr.cell? ⟨b,o+i*10+4,none⟩=some (.slice y1 m1 d1):=hc 4 _ rfl;have q5:wr.cell? ⟨b,o+i*10+5,none⟩=some (.int .i64 i2):=hc 5 _ rfl;have q6:wr.cell? ⟨b,o+i*10+6,none⟩=some (.bool s2):=hc 6 _ rfl;have q7:wr.cell? ⟨b,o+i*10+7,none⟩=some (.slice x2 n2 c2):=hc 7 _ rfl;have q8:wr.cell? ⟨b,o+i*10+8,none⟩=some (.slice y2 m2 d2):=hc 8 _ rfl;have q9:wr.cell? ⟨b,o+i*10+9,none⟩=some (.slice ta tk tc):=hc 9 _ rfl;have hbt:=below_alloc (Below.refl wr.heap.size wr) (.cells #[.string z,.int .i64 i1,.bool s1,.slice x1 n1 c1,.slice y1 m1 d1,.int .i64 i2,.bool s2,.slice x2 n2 c2,.slice y2 m2 d2,.slice ta tk tc] 75);have BC:Bk (wr.alloc (.cells #[.string z,.int .i64 i1,.bool s1,.slice x1 n1 c1,.slice y1 m1 d1,.int .i64 i2,.bool s2,.slice x2 n2 c2,.slice y2 m2 d2,.slice ta tk tc] 75)) wr.heap.size [.string z,.int .i64 i1,.bool s1,.slice x1 n1 c1,.slice y1 m1 d1,.int .i64 i2,.bool s2,.slice x2 n2 c2,.slice y2 m2 d2,.slice ta tk tc] 75:=bk_new wr [.string z,.int .i64 i1,.bool s1,.slice x1 n1 c1,.slice y1 m1 d1,.int .i64 i2,.bool s2,.slice x2 n2 c2,.slice y2 m2 d2,.slice ta tk tc] 75;have i1':((i:Nat):Int)<((rs.length:Nat):Int):=by omega
   have HV:=hid hv;clear hCi hc hc0 hn hv hvm hbw;have HNE:Hid (u7.ownBlock≠some wr.heap.size):=by
    obtain ⟨T9,h9,_⟩:=HG.out;exact fun e=>by have:=(h9.lt _ e).2;omega
   go_upto_region 8 with fail
   clear q0 q1 q2 q3 q4 q5 q6 q7 q8 q9;have a8:=BC.cell (j:=8) rfl;have a9:=BC.cell (j:=9) rfl;replace CD:=hid (fun W a c (hW:Below (wr.alloc (.cells #[.string z,.int .i64 i1,.bool s1,.slice x1 n1 c1,.slice y1 m1 d1,.int .i64 i2,.bool s2,.slice x2 n2 c2,.slice y2 m2 d2,.slice ta tk tc] 75)).heap.size (wr.alloc (.cells #[.string z,.int .i64 i1,.bool s1,.slice x1 n1 c1,.slice y1 m1 d1,.int .i64 i2,.bool s2,.slice x2 n2 c2,.slice y2 m2 d2,.slice ta tk tc] 75)) W)=>CD.out W a c (hbt.trans (hW.mono hbt.size)));replace HBr:=hid (HBr.out.trans (hbt.mono HBr.out.size));replace HG:=hid (HG.out.below hbt)
   clear hbt BC;generalize hbx:wr.heap.size=bx at *;generalize wr.alloc (.cells #[.string z,.int .i64 i1,.bool s1,.slice x1 n1 c1,.slice y1 m1 d1,.int .i64 i2,.bool s2,.slice x2 n2 c2,.slice y2 m2 d2,.slice ta tk tc] 75)=w5 at *;clear hbx;refine wp_region_held_drew (S:=(fun w'=>w'.cell? ⟨bx,8,none⟩=some (.slice y2 m2 d2)∧w'.cell? ⟨bx,9,none⟩=some (.slice ta tk tc))) (by kernel_rfl) ?_ (fun hHeld=>?_)
   ·(refine ⟨?_,?_⟩ <;> repeat (with_reducible first | assumption | refine kCd ?_))
   have hbd:=Below.drew (Below.refl w5.heap.size w5);replace HBr:=hid (HBr.out.trans (hbd.mono HBr.out.size));replace HG:=hid (HG.out.below hbd);replace CD:=hid (fun W a c (hW:Below w5.drew.heap.size w5.drew W)=>CD.out W a c (hbd.trans (hW.mono hbd.size)))
   generalize w5.drew=wd at *;clear hbd a8 a9;obtain ⟨a8,a9⟩:=id hHeld;refine tkO 0 ?_;simp only [lay_,Act.put];refine tkO 1 ?_;simp only [lay_,Act.put];refine tkO 2 ?_;simp only [lay_,Act.put];refine tkO 3 ?_;simp only [lay_,Act.put];refine wpAnyH_ready (rs:=[4]) (by kernel_rfl) (by simp) ?_;refine AllReadyH.cons (o:=_) rfl (fun K hK=>?_) ?_;rotate_left;exact AllReadyH.nil;go_simp
   go_at_call 37
   refine (CX.out _ (HB.out.trans (HBr.out.mono HB.out.size))).mono ?_;rintro e w6 ⟨a6,c6,rfl,hb6,H6⟩
   (try go_wp2_with fail)
   refine hK.out _ _ ?_ (fun hH6=>?_)
   ·((try dsimp only);(refine ⟨?_,?_⟩ <;> repeat (with_reducible first | assumption | refine kCb (by assumption) ?_)))
   clear hK K;try simp only [lay_,Act.put]
   refine wpAnyH_ready (rs:=[5]) (by kernel_rfl) (by simp) ?_;refine AllReadyH.cons (o:=_) rfl (fun K hK=>?_) ?_;rotate_left;exact AllReadyH.nil;go_simp
   go_at_call 36
   refine (CD.out _ a6 c6 hb6 H6.out).mono ?_;rintro e w7 ⟨s7,x7,n7,c7,d7,y7,m7,e7,g7,rfl,hb7,hq1,hq2,hq⟩
   (try go_wp2_with fail)
   refine hK.out _ _ ?_ (fun hH7=>?_)
   ·((try dsimp only);(refine ⟨?_,?_⟩ <;> repeat (with_reducible first | assumption | refine kCb (by assumption) ?_)))
   clear hK K;try simp only [lay_,Act.put]
   refine wpAnyH_ready (rs:=[6]) (by kernel_rfl) (by simp) ?_;refine AllReadyH.cons (o:=_) rfl (fun K hK=>?_) ?_;rotate_left;exact AllReadyH.nil;go_simp
   go_at_call 35
   refine (qToR_c hq (Nat.le_trans hq1 (by decide)) (Nat.le_trans hq2 (by decide))).mono ?_;rintro e w8 ⟨zp,np,cp,fp,zq,nq9,cq,fq,rfl,hb8,hr⟩
   (try go_wp2_with fail)
   refine hK.out _ _ ?_ (fun hH8=>?_)
   ·((try dsimp only);(refine ⟨?_,?_⟩ <;> repeat (with_reducible first | assumption | refine kCb (by assumption) ?_)))
   clear hK K;try simp only [lay_,Act.put]
   have hb:=(hb6.trans (hb7.mono hb6.size)).trans (hb8.mono (Nat.le_trans hb6.size hb7.size));have HB8:=hid (HBr.out.trans (hb.mono HBr.out.size));replace HG:=hid (HG.out.below hb)
   have hq6:Rn (2*KE 8) w8 s7 zp np cp fp zq nq9 cq fq (actQ xs v):=hr.out.mono (by omega);replace a8:=kCb hb a8;replace a9:=kCb hb a9
   clear hHeld hH6 hH7 hH8 hb6 hb7 hb8 hb H6 hq hr CD CX HBr hq1 hq2;refine wpAnyH_ready (rs:=[7]) (by kernel_rfl) (by simp) ?_;refine AllReadyH.cons (o:=_) rfl (fun K hK=>?_) ?_;rotate_left;exact AllReadyH.nil;go_simp;refine hK.out _ _ ?_ (fun hH9=>?_)
   ·((try dsimp only);(refine ⟨?_,?_⟩ <;> repeat (with_reducible first | assumption | refine kCb (below_alloc (Below.refl _ _) _) ?_)))
   clear hK K;try simp only [lay_,Act.put]
   refine wpAnyH_ready (rs:=[8]) (by kernel_rfl) (by simp) ?_;refine AllReadyH.cons (o:=_) rfl (fun K hK=>?_) ?_;rotate_left;exact AllReadyH.nil;obtain ⟨T9,hrow,hT⟩:=HG.out;have hli:((rs.map (actQ xs)).take i).length=i:=by simp;omega
   rw [hli] at hrow;refine step_append_one w8 rfl (.tmp 24) (.tmp 31) 29 rfl w2.heap.size 24 56 3 (.agg #[.bool false,.slice none 0 0,.slice none 0 0]) Tryz.underlying29 Tryz.infoRat rfl (by decide) nz3 u7 i _ rfl hrow #[.bool s7,.slice zp np cp,.slice zq nq9 cq] rfl rfl (one3 _ _ _ _ _ _ _) (not3 _ _ _ _ _ _ _) (by omega) (by decide) HB8.out.size ?_;intro g9 cap9 w9 hr9 hk9 hb9 hg9;have HB9:Hid (Below w2.heap.size w2 w9):=hb9 w2 HB8.out (Nat.le_refl _);have h9h:=hg9 bx (World.block_lt_of_cell? w8 _ a9) HNE.out;replace a8:w9.cell? ⟨bx,8,none⟩=some (.slice y2 m2 d2):=(World.cell?_of_block (a:=⟨bx,8,none⟩) h9h).trans a8;replace a9:w9.cell? ⟨bx,9,none⟩=some (.slice ta tk tc):=(World.cell?_of_block (a:=⟨bx,9,none⟩) h9h).trans a9;have HG9:Hid (Gr (2*KE 8) w2.heap.size w9 (.slice (some ⟨g9,0,none⟩) (i+1) cap9) ((rs.map (actQ xs)).take (i+1))):=by
    have hp9:=gr_push (p:=(rs.map (actQ xs)).take i) hT (by rw [hli];exact hr9) hk9 hq6;rw [hli] at hp9;have e9:(rs.map (actQ xs))[i]?=some (actQ xs v):=by rw [List.getElem?_map,HV.out];rfl
    rw [List.take_add_one,e9];exact hp9
   refine hK.out _ _ ⟨a8,a9⟩ (fun hH9=>?_);clear hK K;try simp only [Act.put,List.setIfInBounds_toArray]
   clear hr9 hk9 hb9 hg9 hrow hT hq6 HG HB8;refine tkO 9 ?_;simp only [lay_,Act.put];refine wpAnyH_done (by kernel_rfl) ?_ _;clear hH9 HV a8 a9 h9h HNE;go_wp2;go_roundw
   case rel=>exact ⟨i+1,by omega,by go_num,HB9.out,HG9.out⟩
   case measure=>simp [intOf];omega
  ·have e1:i=rs.length:=by omega
   have i4':¬(((i:Nat):Int)<((rs.length:Nat):Int)):=by omega
   have hla:(rs.map (actQ xs)).length=rs.length:=by simp
   obtain ⟨va,vc,hvs,hvc⟩:=HG.out.slice;rw [List.take_of_length_le (by omega)] at hvs hvc;rw [hla] at hvs hvc;have HG4:=HG.out;rw [hvs] at HG4;replace HG4:=hid (show Rf (2*KE 8) wr va (rs.map (actQ xs)) by have:=HG4.rf;rw [List.take_of_length_le (by omega)] at this;exact this);subst hvs;have HV4:=hid hvc;clear HG e1 hvc hla;go_wp2
   go_ret2
   exact ⟨HB.out.trans (HBr.out.mono HB.out.size),.inr ⟨rfl,va,vc,rfl,HV4.out,HG4.out⟩⟩
set_option maxRecDepth 100000 in
set_option maxHeartbeats 8000000 in
theorem docBroken_c {w:World} {M:Mo} {ao:Option Addr} {k cap:Nat} {X:Nat→Nm} (hI:In8 w M) (hx:Rl w ao k X) (hs:ShK 8 k X) :
  Calls Tryz.prog 19 #[M.val,.slice ao k cap] w fun e w'=>BrAns w w' e (pckE M k X) (csOf M) (rsOf M) (psOf k X):=by
 have CC:=hid (fun W (hW:Below w.heap.size w W)=>rCheck_c (cap:=cap) (hI.below hW) (hx.below hW) hs);obtain ⟨er,her⟩:∃e,pckE M k X=e:=⟨_,rfl⟩;have CX:=hid (fun (h0:er=0) W (hW:Below w.heap.size w W)=>froms8_c (cap:=cap) (hx.below hW) hs (pckE_two (her.trans h0)).2.1);have CM:=hid (fun (h0:er=0) W (hW:Below w.heap.size w W)=>from8_c (hI.below hW) (pckE_two (her.trans h0)).1);have HP:Hid (er=0→MvP (csOf M) (rsOf M)∧(psOf k X).length=k∧k=(csOf M).length):=fun h0=>by
  have h3:=pckE_two (her.trans h0);exact ⟨mvOk_p (hI.val h3.1).2,psOf_len _ _,by rw [csOf_len];exact h3.2.2⟩
 rw [her];rw [her] at CC;obtain ⟨xs,hxs⟩:∃e,psOf k X=e:=⟨_,rfl⟩;obtain ⟨cs,hcs⟩:∃e,csOf M=e:=⟨_,rfl⟩;obtain ⟨rs,hrs⟩:∃e,rsOf M=e:=⟨_,rfl⟩;obtain ⟨of,hof⟩:∃e,nq M.off=e:=⟨_,rfl⟩;rw [hcs,hrs,hxs];rw [hxs,hcs,hrs] at HP;simp only [hcs,hrs,hof] at CM;simp only [hxs] at CX;clear hI hx hs her hxs hcs hrs hof;obtain ⟨⟨s,x,n,c,f,y,m,d,g⟩,ca,ck,cc,C,ra,rk,rc,R⟩:=M;replace CC:Hid (∀W,Below w.heap.size w W→Calls Tryz.prog 34 #[.agg #[.bool s,.slice x n c,.slice y m d,.slice ca ck cc,.slice ra rk rc],.slice ao k cap] W fun e w'=>e=.returned (.int .i64 er)∧Below W.heap.size W w'):=CC;replace CM:Hid (er=0→∀W,Below w.heap.size w W→Calls Tryz.prog 21 #[.agg #[.bool s,.slice x n c,.slice y m d,.slice ca ck cc,.slice ra rk rc]] W fun e w'=>∃M':Mo,e=.returned M'.val∧Below W.heap.size W w'∧Hid (MqV (2*8) w' M' of cs rs)):=CM;show Calls Tryz.prog 19 #[.agg #[.bool s,.slice x n c,.slice y m d,.slice ca ck cc,.slice ra rk rc],.slice ao k cap] w _;have HB:=hid (below_alloc (Below.refl w.heap.size w) (.cells #[.bool s,.slice x n c,.slice y m d,.slice ca ck cc,.slice ra rk rc] 28));have BM:Hid (Bk (w.alloc (.cells #[.bool s,.slice x n c,.slice y m d,.slice ca ck cc,.slice ra rk rc] 28)) w.heap.size [.bool s,.slice x n c,.slice y m d,.slice ca ck cc,.slice ra rk rc] 28):=bk_new w [.bool s,.slice x n c,.slice y m d,.slice ca ck cc,.slice ra rk rc] 28;go_enter Tryz.func19,Tryz.ntmps19;have r0:=BM.out.cell (j:=0) rfl;have r1:=BM.out.cell (j:=1) rfl;have r2:=BM.out.cell (j:=2) rfl;have r3:=BM.out.cell (j:=3) rfl;have r4:=BM.out.cell (j:=4) rfl;go_wp2_with fail
 clear r0 r1 r2 r3 r4;generalize (w.alloc (.cells #[.bool s,.slice x n c,.slice y m d,.slice ca ck cc,.slice ra rk rc] 28))=v0 at *;refine (CC.out _ HB.out).mono ?_;rintro e v1 ⟨rfl,hb⟩;replace HB:=hid (HB.out.trans (hb.mono HB.out.size));replace BM:=hid (BM.out.below hb)
 clear hb;clear CC;by_cases h0:er=0
 case neg =>
  have h1:(er != 0)=true:=by simpa using h0
  have HN:=hid h0;clear CX CM h0 HP;go_wp2
  go_ret3
  exact ⟨HB.out,.inl ⟨HN.out,rfl⟩⟩
 subst h0;have r0:=BM.out.cell (j:=0) rfl;have r1:=BM.out.cell (j:=1) rfl;have r2:=BM.out.cell (j:=2) rfl;have r3:=BM.out.cell (j:=3) rfl;have r4:=BM.out.cell (j:=4) rfl;go_wp2_with fail
 clear r0 r1 r2 r3 r4;refine (CM.out (by first | rfl | trivial) _ HB.out).mono ?_;rintro e v2 ⟨M1,hr,hb,HM⟩;obtain ⟨⟨s',x',n',c',f',y',m',d',g'⟩,ca',ck',cc',C',ra',rk',rc',R'⟩:=M1;replace hr:e=.returned (.agg #[.bool s',.slice x' n' c',.slice y' m' d',.slice ca' ck' cc',.slice ra' rk' rc']):=hr;subst hr;have hq1:ck'=cs.length:=HM.out.ck;have hq2:rk'=rs.length:=HM.out.rk;subst hq1;subst hq2;replace HB:=hid (HB.out.trans (hb.mono HB.out.size));replace BM:=hid (BM.out.below hb)
 clear hb;clear CM BM;obtain ⟨hP,hk,hkc⟩:=HP.out (by first | rfl | trivial);have hrl:=hP.rl;have hcl:=hP.cl;have hP:=hid hP;have HK:=hid hk;have HKC:=hid hkc
 replace CX:=hid (CX.out (by first | rfl | trivial));clear HP hk hkc;go_wp2_with fail
 refine (CX.out _ HB.out).mono ?_;rintro e v3 ⟨a3,c3,rfl,hb,H3⟩;replace HM:=hid (HM.out.below hb);replace HB:=hid (HB.out.trans (hb.mono HB.out.size))
 clear hb CX;have hbt:=below_alloc (Below.refl v3.heap.size v3) (.cells #[.bool s',.slice x' n' c',.slice y' m' d',.slice ca' cs.length cc',.slice ra' rs.length rc'] 64);have BN:Hid (Bk (v3.alloc (.cells #[.bool s',.slice x' n' c',.slice y' m' d',.slice ca' cs.length cc',.slice ra' rs.length rc'] 64)) v3.heap.size [.bool s',.slice x' n' c',.slice y' m' d',.slice ca' cs.length cc',.slice ra' rs.length rc'] 64):=bk_new v3 [.bool s',.slice x' n' c',.slice y' m' d',.slice ca' cs.length cc',.slice ra' rs.length rc'] 64;have r1:=BN.out.cell (j:=3) rfl;go_wp2_with fail
 clear r1;replace HM:=hid (HM.out.below hbt);replace HB:=hid (HB.out.trans (hbt.mono HB.out.size));replace H3:=hid (H3.out.below hbt)
 clear hbt;generalize hbn:v3.heap.size=bn at *;generalize v3.alloc (.cells #[.bool s',.slice x' n' c',.slice y' m' d',.slice ca' cs.length cc',.slice ra' rs.length rc'] 64)=w2 at *;clear hbn;have HC:Hid (∀j v,cs[j]?=some v→(∃b o,ca'=some ⟨b,o,none⟩∧Cs w2 b (o+j*12) (C' j).vs)∧QcV (2*8) w2 (C' j) v):=HM.out.cls;have HR:Hid (∀j v,rs[j]?=some v→(∃b o,ra'=some ⟨b,o,none⟩∧Cs w2 b (o+j*10) (R' j).vs)∧QrV (2*8) w2 (R' j) v):=HM.out.rls;clear HM;go_loopw [10,29] (fun ov t wr=>∃(i:Nat),i≤cs.length∧t=.int .i64 i∧Hid (Below w2.heap.size w2 wr)∧Hid (RowG 3 1 w2.heap.size wr ov (crl (bcB cs xs) i).length (ils (crl (bcB cs xs) i)))) (fun _ t _=>cs.length-(intOf t).toNat)
 case atStart=>exact ⟨0,by omega,rfl,Below.refl _ _,rowG_nil _ _ _ _⟩
 case round =>
  obtain ⟨i,hi,rfl,HBr,HRow⟩:=hrel;by_cases hlt:i<cs.length
  ·obtain ⟨v,hv⟩:∃v,cs[i]?=some v:=⟨_,List.getElem?_eq_getElem hlt⟩;obtain ⟨q,hq⟩:∃t,xs[i]?=some t:=⟨_,List.getElem?_eq_getElem (by have:=HK.out;have:=HKC.out;omega)⟩;obtain ⟨⟨b,o,hca,hc0⟩,hn⟩:=HC.out i v hv;subst hca;have hc:=hc0.below HBr.out;replace hn:=hn.below HBr.out;obtain ⟨b',o',⟨s3,x3,n3,c3',f3,y3,m3,d3,g3⟩,hax,hcx,hqx⟩:=(H3.out.below HBr.out) i q hq;subst hax;have hbd:=hP.out.cb v (List.mem_of_getElem? hv);obtain ⟨t1,ht1⟩:∃t,(!(bcB cs xs i))=t:=⟨_,rfl⟩;have CA:=hid (fun W (hW:Below wr.heap.size wr W)=>rKeeps_c (K:=2*8) (w:=W) (hn.lq.below hW) hn.li (hn.hq.below hW) hn.hi (hqx.below hW) (by omega) hbd);rw [show kpsB q v.li v.lq v.hi v.hq=t1 from by rw [←ht1];simp only [bcB,hv,hq,Bool.not_not]] at CA;obtain ⟨⟨z,⟨s0,x0,n0,c0,f0,y0,m0,d0,g0⟩,⟨i1,⟨s1,x1,n1,c1,f1,y1,m1,d1,g1⟩⟩,⟨i2,⟨s2,x2,n2,c2,f2,y2,m2,d2,g2⟩⟩⟩,hCi⟩:∃t,C' i=t:=⟨_,rfl⟩;rw [hCi] at hc CA;replace CA:Hid (∀W,Below wr.heap.size wr W→Calls Tryz.prog 22 #[.agg #[.int .i64 i1,.bool s1,.slice x1 n1 c1,.slice y1 m1 d1],.agg #[.int .i64 i2,.bool s2,.slice x2 n2 c2,.slice y2 m2 d2],.agg #[.bool s3,.slice x3 n3 c3',.slice y3 m3 d3]] W fun e w2=>e=.returned (.bool t1)∧Below W.heap.size W w2):=CA;have q0:wr.cell? ⟨b,o+i*12,none⟩=some (.string z):=hc 0 _ rfl;have q1:wr.cell? ⟨b,o+i*12+1,none⟩=some (.bool s0):=hc 1 _ rfl;have q2:wr.cell? ⟨b,o+i*12+2,none⟩=some (.slice x0 n0 c0):=hc 2 _ rfl;have q3:wr.cell? ⟨b,o+i*12+3,none⟩=some (.slice y0 m0 d0):=hc 3 _ rfl;have q4:wr.cell? ⟨b,o+i*12+4,none⟩=some (.int .i64 i1):=hc 4 _ rfl;have q5:wr.cell? ⟨b,o+i*12+5,none⟩=some (.bool s1):=hc 5 _ rfl;have q6:wr.cell? ⟨b,o+i*12+6,none⟩=some (.slice x1 n1 c1):=hc 6 _ rfl;have q7:wr.cell? ⟨b,o+i*12+7,none⟩=some (.slice y1 m1 d1):=hc 7 _ rfl;have q8:wr.cell? ⟨b,o+i*12+8,none⟩=some (.int .i64 i2):=hc 8 _ rfl;have q9:wr.cell? ⟨b,o+i*12+9,none⟩=some (.bool s2):=hc 9 _ rfl;have q10:wr.cell? ⟨b,o+i*12+10,none⟩=some (.slice x2 n2 c2):=hc 10 _ rfl;have q11:wr.cell? ⟨b,o+i*12+11,none⟩=some (.slice y2 m2 d2):=hc 11 _ rfl;obtain ⟨p0,p1,p2⟩:=hcx;replace p0:wr.cell? ⟨b',o'+i*3,none⟩=some (.bool s3):=p0;replace p1:wr.cell? ⟨b',o'+i*3+1,none⟩=some (.slice x3 n3 c3'):=p1;replace p2:wr.cell? ⟨b',o'+i*3+2,none⟩=some (.slice y3 m3 d3):=p2;have hbt:=below_alloc (Below.refl wr.heap.size wr) (.cells #[.string z,.bool s0,.slice x0 n0 c0,.slice y0 m0 d0,.int .i64 i1,.bool s1,.slice x1 n1 c1,.slice y1 m1 d1,.int .i64 i2,.bool s2,.slice x2 n2 c2,.slice y2 m2 d2] 69);have BC:Bk (wr.alloc (.cells #[.string z,.bool s0,.slice x0 n0 c0,.slice y0 m0 d0,.int .i64 i1,.bool s1,.slice x1 n1 c1,.slice y1 m1 d1,.int .i64 i2,.bool s2,.slice x2 n2 c2,.slice y2 m2 d2] 69)) wr.heap.size [.string z,.bool s0,.slice x0 n0 c0,.slice y0 m0 d0,.int .i64 i1,.bool s1,.slice x1 n1 c1,.slice y1 m1 d1,.int .i64 i2,.bool s2,.slice x2 n2 c2,.slice y2 m2 d2] 69:=bk_new wr [.string z,.bool s0,.slice x0 n0 c0,.slice y0 m0 d0,.int .i64 i1,.bool s1,.slice x1 n1 c1,.slice y1 m1 d1,.int .i64 i2,.bool s2,.slice x2 n2 c2,.slice y2 m2 d2] 69;have HT1:=hid ht1;have hln:=crl_len (bcB cs xs) i;have i1':((i:Nat):Int)<((cs.length:Nat):Int):=by omega
   have i2':((i:Nat):Int)<((k:Nat):Int):=by have:=HKC.out;omega
   clear hCi hc hc0 hn ht1 hv hq hqx hbd;go_upto_region 9 with fail
   clear q0 q1 q2 q3 q4 q5 q6 q7 q8 q9 q10 q11;replace p0:=kCb hbt p0;replace p1:=kCb hbt p1;replace p2:=kCb hbt p2
   have a4:=BC.cell (j:=4) rfl;have a5:=BC.cell (j:=5) rfl;have a6:=BC.cell (j:=6) rfl;have a7:=BC.cell (j:=7) rfl;have a8:=BC.cell (j:=8) rfl;have a9:=BC.cell (j:=9) rfl;have a10:=BC.cell (j:=10) rfl;have a11:=BC.cell (j:=11) rfl;replace CA:=hid (fun W (hW:Below (wr.alloc (.cells #[.string z,.bool s0,.slice x0 n0 c0,.slice y0 m0 d0,.int .i64 i1,.bool s1,.slice x1 n1 c1,.slice y1 m1 d1,.int .i64 i2,.bool s2,.slice x2 n2 c2,.slice y2 m2 d2] 69)).heap.size (wr.alloc (.cells #[.string z,.bool s0,.slice x0 n0 c0,.slice y0 m0 d0,.int .i64 i1,.bool s1,.slice x1 n1 c1,.slice y1 m1 d1,.int .i64 i2,.bool s2,.slice x2 n2 c2,.slice y2 m2 d2] 69)) W)=>CA.out W (hbt.trans (hW.mono hbt.size)));replace HBr:=hid (HBr.out.trans (hbt.mono HBr.out.size));replace HRow:=hid (HRow.out.below hbt)
   clear hbt BC;generalize hbx:wr.heap.size=bx at *;generalize wr.alloc (.cells #[.string z,.bool s0,.slice x0 n0 c0,.slice y0 m0 d0,.int .i64 i1,.bool s1,.slice x1 n1 c1,.slice y1 m1 d1,.int .i64 i2,.bool s2,.slice x2 n2 c2,.slice y2 m2 d2] 69)=w5 at *;clear hbx;refine wp_region_held_drew (S:=(fun w'=>w'.cell? ⟨bx,4,none⟩=some (.int .i64 i1)∧w'.cell? ⟨bx,5,none⟩=some (.bool s1)∧w'.cell? ⟨bx,6,none⟩=some (.slice x1 n1 c1)∧w'.cell? ⟨bx,7,none⟩=some (.slice y1 m1 d1)∧w'.cell? ⟨bx,8,none⟩=some (.int .i64 i2)∧w'.cell? ⟨bx,9,none⟩=some (.bool s2)∧w'.cell? ⟨bx,10,none⟩=some (.slice x2 n2 c2)∧w'.cell? ⟨bx,11,none⟩=some (.slice y2 m2 d2)∧w'.cell? ⟨b',o'+i*3,none⟩=some (.bool s3)∧w'.cell? ⟨b',o'+i*3+1,none⟩=some (.slice x3 n3 c3')∧w'.cell? ⟨b',o'+i*3+2,none⟩=some (.slice y3 m3 d3))) (by kernel_rfl) ?_ (fun hHeld=>?_)
   ·(refine ⟨?_,?_,?_,?_,?_,?_,?_,?_,?_,?_,?_⟩ <;> repeat (with_reducible first | assumption | refine kCd ?_))
   refine tkO 0 ?_;simp only [lay_,Act.put];refine tkO 1 ?_;simp only [lay_,Act.put];refine tkO 2 ?_;simp only [lay_,Act.put];refine tkO 3 ?_;simp only [lay_,Act.put];refine tkO 4 ?_;simp only [lay_,Act.put];refine tkO 5 ?_;simp only [lay_,Act.put];refine tkO 6 ?_;simp only [lay_,Act.put];refine tkO 7 ?_;simp only [lay_,Act.put];refine wpAnyH_ready (rs:=[8]) (by kernel_rfl) (by simp) ?_;refine AllReadyH.cons (o:=_) rfl (fun K hK=>?_) ?_;rotate_left;exact AllReadyH.nil;go_simp
   go_at_call 22
   refine (CA.out _ (Below.drew (Below.refl _ _))).mono ?_;rintro e w9 ⟨rfl,hb9⟩
   (try go_wp2_with fail)
   refine hK.out _ _ ?_ (fun hH=>?_)
   ·((try dsimp only);(refine ⟨?_,?_,?_,?_,?_,?_,?_,?_,?_,?_,?_⟩ <;> repeat (with_reducible first | assumption | refine kCb (by assumption) ?_ | refine kCd ?_)))
   clear hK K;try simp only [lay_,Act.put]
   refine tkO 9 ?_;simp only [lay_,Act.put];refine wpAnyH_done (by kernel_rfl) ?_ _;have hd9:=(Below.drew (Below.refl w5.heap.size w5)).trans (hb9.mono (Below.drew (Below.refl w5.heap.size w5)).size);replace HBr:=hid (HBr.out.trans (hd9.mono HBr.out.size));replace HRow:=hid (HRow.out.below hd9)
   clear hHeld hH hb9 hd9 CA p0 p1 p2 a4 a5 a6 a7 a8 a9 a10 a11;cases t1
   ·have hsz:=HBr.out.size;go_wp2_with (at_builtin;go_must (refine wpList_append_one w9 rfl (.tmp 44) (.tmp 46) 50 rfl w2.heap.size 3 8 1 (.int .i64 0) Tryz.underlying50 Tryz.infoInt rfl (by decide) nzi u10 (crl (bcB cs xs) i).length (ils (crl (bcB cs xs) i)) rfl HRow.out #[.int .i64 (i:Int)] rfl rfl (onei _) (noti _) ?p1 (by decide) hsz ?_))
    case p1=>omega
    intro g8 cap8 w8 hr8 hk8 hb8 hg8;have HB8:=hid (hb8 w2 HBr.out (Nat.le_refl _));have HR8:Hid (RowG 3 1 w2.heap.size w8 (.slice (some ⟨g8,0,none⟩) ((crl (bcB cs xs) i).length+1) cap8) (crl (bcB cs xs) (i+1)).length (ils (crl (bcB cs xs) (i+1)))):=by
     show RowG _ _ _ _ _ _ _;rw [crl_yes (show (bcB cs xs) i=true by simpa using HT1.out)];simpa [ils] using hr8
    clear hr8 hk8 hb8 hg8 HRow HBr hsz;go_wp2;go_roundw
    case rel=>exact ⟨i+1,by omega,by go_num,HB8.out,HR8.out⟩
    case measure=>simp [intOf];omega
   ·go_wp2;go_roundw
    case rel=>exact ⟨i+1,by omega,by go_num,HBr.out,by show RowG _ _ _ _ _ _ _;rw [crl_no (show (bcB cs xs) i=false by simpa using HT1.out)];exact HRow.out⟩
    case measure=>simp [intOf];omega
  ·have e1:i=cs.length:=by omega
   have i4':¬(((i:Nat):Int)<((cs.length:Nat):Int)):=by omega
   rw [e1] at HRow;obtain ⟨xa,xc,rfl⟩:=HRow.out.slice;have r4:=(BN.out.below HBr.out).cell (j:=4) rfl;have HSX:=hid (rowg_il HRow.out);have HB3:=hid (HB.out.trans (HBr.out.mono HB.out.size));have H33:=hid (H3.out.below HBr.out);replace HR:Hid (∀j v,rs[j]?=some v→(∃b o,ra'=some ⟨b,o,none⟩∧Cs wr b (o+j*10) (R' j).vs)∧QrV (2*8) wr (R' j) v):=fun j v hv=>by
    obtain ⟨⟨b,o,h1,h2⟩,h3⟩:=HR.out j v hv;exact ⟨⟨b,o,h1,h2.below HBr.out⟩,h3.below HBr.out⟩
   clear e1 HRow HBr H3 HC HB BN hi;go_wp2_with fail
   clear r4 i4';generalize wr=w3 at *;go_loopw [11,52] (fun ov t wr=>∃(i:Nat),i≤rs.length∧t=.int .i64 i∧Hid (Below w3.heap.size w3 wr)∧Hid (RowG 3 1 w3.heap.size wr ov (crl (brB rs xs) i).length (ils (crl (brB rs xs) i)))) (fun _ t _=>rs.length-(intOf t).toNat)
   case atStart=>exact ⟨0,by omega,rfl,Below.refl _ _,rowG_nil _ _ _ _⟩
   case round =>
    obtain ⟨i,hi,rfl,HBr,HRow⟩:=hrel;by_cases hlt:i<rs.length
    ·obtain ⟨v,hv⟩:∃v,rs[i]?=some v:=⟨_,List.getElem?_eq_getElem hlt⟩;obtain ⟨⟨b,o,hra,hc0⟩,hn⟩:=HR.out i v hv;subst hra;have hc:=hc0.below HBr.out;replace hn:=hn.below HBr.out;have hvm:=List.mem_of_getElem? hv;have hbd:=hP.out.rb v hvm;obtain ⟨t1,ht1⟩:∃t,(!(brB rs xs i))=t:=⟨_,rfl⟩;have CA:Hid (∀(t:Nm) W,Below wr.heap.size wr W→QnT (KE 8) W t (dsum xs v.ts 0)→Calls Tryz.prog 22 #[(R' i).lo.val,(R' i).hi.val,t.val] W fun e w2=>e=.returned (.bool t1)∧Below W.heap.size W w2):=fun t W hW ht=>by
      have:=rKeeps_c (K:=KE 8) (w:=W) (qnt_up (hn.lq.below hW) (by decide)) hn.li (qnt_up (hn.hq.below hW) (by decide)) hn.hi ht (by decide) hbd;rw [show kpsB (dsum xs v.ts 0) v.li v.lq v.hi v.hq=t1 from by rw [←ht1];simp only [brB,hv,Bool.not_not,actQ,dsum_psum]] at this;exact this
     have CD:Hid (∀W,Below wr.heap.size wr W→Calls Tryz.prog 36 #[.slice (R' i).ta (R' i).tk (R' i).tc,.slice a3 k c3] W fun e w2=>QAns (KE 8) W w2 e (dsum xs v.ts 0)):=fun W hW=>fDot_c (L:=8) (hn.tl.below hW) ((H33.out.below HBr.out).below hW) hn.tk.symm HK.out (by rw [hn.tk];exact hP.out.tl v hvm) (by omega) (fun j a q e=>HKC.out ▸ hP.out.tc v hvm (a,q) (List.mem_of_getElem? e))
     obtain ⟨⟨z,⟨i1,⟨s1,x1,n1,c1,f1,y1,m1,d1,g1⟩⟩,⟨i2,⟨s2,x2,n2,c2,f2,y2,m2,d2,g2⟩⟩,ta,tk,tc,tcol,tt⟩,hCi⟩:∃t,R' i=t:=⟨_,rfl⟩;rw [hCi] at hc CA CD;replace CA:Hid (∀(t:Nm) W,Below wr.heap.size wr W→QnT (KE 8) W t (dsum xs v.ts 0)→Calls Tryz.prog 22 #[.agg #[.int .i64 i1,.bool s1,.slice x1 n1 c1,.slice y1 m1 d1],.agg #[.int .i64 i2,.bool s2,.slice x2 n2 c2,.slice y2 m2 d2],t.val] W fun e w2=>e=.returned (.bool t1)∧Below W.heap.size W w2):=CA;replace CD:Hid (∀W,Below wr.heap.size wr W→Calls Tryz.prog 36 #[.slice ta tk tc,.slice a3 k c3] W fun e w2=>QAns (KE 8) W w2 e (dsum xs v.ts 0)):=CD;have q0:wr.cell? ⟨b,o+i*10,none⟩=some (.string z):=hc 0 _ rfl;have q1:wr.cell? ⟨b,o+i*10+1,none⟩=some (.int .i64 i1):=hc 1 _ rfl;have q2:wr.cell? ⟨b,o+i*10+2,none⟩=some (.bool s1):=hc 2 _ rfl;have q3:wr.cell? ⟨b,o+i*10+3,none⟩=some (.slice x1 n1 c1):=hc 3 _ rfl;have q4:wr.cell? ⟨b,o+i*10+4,none⟩=some (.slice y1 m1 d1):=hc 4 _ rfl;have q5:wr.cell? ⟨b,o+i*10+5,none⟩=some (.int .i64 i2):=hc 5 _ rfl;have q6:wr.cell? ⟨b,o+i*10+6,none⟩=some (.bool s2):=hc 6 _ rfl;have q7:wr.cell? ⟨b,o+i*10+7,none⟩=some (.slice x2 n2 c2):=hc 7 _ rfl;have q8:wr.cell? ⟨b,o+i*10+8,none⟩=some (.slice y2 m2 d2):=hc 8 _ rfl;have q9:wr.cell? ⟨b,o+i*10+9,none⟩=some (.slice ta tk tc):=hc 9 _ rfl;have hbt:=below_alloc (Below.refl wr.heap.size wr) (.cells #[.string z,.int .i64 i1,.bool s1,.slice x1 n1 c1,.slice y1 m1 d1,.int .i64 i2,.bool s2,.slice x2 n2 c2,.slice y2 m2 d2,.slice ta tk tc] 75);have BC:Bk (wr.alloc (.cells #[.string z,.int .i64 i1,.bool s1,.slice x1 n1 c1,.slice y1 m1 d1,.int .i64 i2,.bool s2,.slice x2 n2 c2,.slice y2 m2 d2,.slice ta tk tc] 75)) wr.heap.size [.string z,.int .i64 i1,.bool s1,.slice x1 n1 c1,.slice y1 m1 d1,.int .i64 i2,.bool s2,.slice x2 n2 c2,.slice y2 m2 d2,.slice ta tk tc] 75:=bk_new wr [.string z,.int .i64 i1,.bool s1,.slice x1 n1 c1,.slice y1 m1 d1,.int .i64 i2,.bool s2,.slice x2 n2 c2,.slice y2 m2 d2,.slice ta tk tc] 75;have HT1:=hid ht1;have hln:=crl_len (brB rs xs) i;have i1':((i:Nat):Int)<((rs.length:Nat):Int):=by omega
     clear hCi hc hc0 hn ht1 hv hvm hbd;go_upto_region 15 with fail
     clear q0 q1 q2 q3 q4 q5 q6 q7 q8 q9;have a1:=BC.cell (j:=1) rfl;have a2:=BC.cell (j:=2) rfl;have a3:=BC.cell (j:=3) rfl;have a4:=BC.cell (j:=4) rfl;have a5:=BC.cell (j:=5) rfl;have a6:=BC.cell (j:=6) rfl;have a7:=BC.cell (j:=7) rfl;have a8:=BC.cell (j:=8) rfl;have a9:=BC.cell (j:=9) rfl;replace CA:=hid (fun (t:Nm) W (hW:Below (wr.alloc (.cells #[.string z,.int .i64 i1,.bool s1,.slice x1 n1 c1,.slice y1 m1 d1,.int .i64 i2,.bool s2,.slice x2 n2 c2,.slice y2 m2 d2,.slice ta tk tc] 75)).heap.size (wr.alloc (.cells #[.string z,.int .i64 i1,.bool s1,.slice x1 n1 c1,.slice y1 m1 d1,.int .i64 i2,.bool s2,.slice x2 n2 c2,.slice y2 m2 d2,.slice ta tk tc] 75)) W)=>CA.out t W (hbt.trans (hW.mono hbt.size)));replace CD:=hid (fun W (hW:Below (wr.alloc (.cells #[.string z,.int .i64 i1,.bool s1,.slice x1 n1 c1,.slice y1 m1 d1,.int .i64 i2,.bool s2,.slice x2 n2 c2,.slice y2 m2 d2,.slice ta tk tc] 75)).heap.size (wr.alloc (.cells #[.string z,.int .i64 i1,.bool s1,.slice x1 n1 c1,.slice y1 m1 d1,.int .i64 i2,.bool s2,.slice x2 n2 c2,.slice y2 m2 d2,.slice ta tk tc] 75)) W)=>CD.out W (hbt.trans (hW.mono hbt.size)));replace HBr:=hid (HBr.out.trans (hbt.mono HBr.out.size));replace HRow:=hid (HRow.out.below hbt)
     clear hbt BC;generalize hbx:wr.heap.size=bx at *;generalize wr.alloc (.cells #[.string z,.int .i64 i1,.bool s1,.slice x1 n1 c1,.slice y1 m1 d1,.int .i64 i2,.bool s2,.slice x2 n2 c2,.slice y2 m2 d2,.slice ta tk tc] 75)=w5 at *;clear hbx;refine wp_region_held_drew (S:=(fun w'=>w'.cell? ⟨bx,1,none⟩=some (.int .i64 i1)∧w'.cell? ⟨bx,2,none⟩=some (.bool s1)∧w'.cell? ⟨bx,3,none⟩=some (.slice x1 n1 c1)∧w'.cell? ⟨bx,4,none⟩=some (.slice y1 m1 d1)∧w'.cell? ⟨bx,5,none⟩=some (.int .i64 i2)∧w'.cell? ⟨bx,6,none⟩=some (.bool s2)∧w'.cell? ⟨bx,7,none⟩=some (.slice x2 n2 c2)∧w'.cell? ⟨bx,8,none⟩=some (.slice y2 m2 d2)∧w'.cell? ⟨bx,9,none⟩=some (.slice ta tk tc))) (by kernel_rfl) ?_ (fun hHeld=>?_)
     ·(refine ⟨?_,?_,?_,?_,?_,?_,?_,?_,?_⟩ <;> repeat (with_reducible first | assumption | refine kCd ?_))
     refine tkO 0 ?_;simp only [lay_,Act.put];refine tkO 1 ?_;simp only [lay_,Act.put];refine tkO 2 ?_;simp only [lay_,Act.put];refine tkO 3 ?_;simp only [lay_,Act.put];refine tkO 4 ?_;simp only [lay_,Act.put];refine tkO 5 ?_;simp only [lay_,Act.put];refine tkO 6 ?_;simp only [lay_,Act.put];refine wpAnyH_ready (rs:=[7]) (by kernel_rfl) (by simp) ?_;refine AllReadyH.cons (o:=_) rfl (fun K hK=>?_) ?_;rotate_left;exact AllReadyH.nil;go_simp
     go_at_call 36
     refine (CD.out _ (Below.drew (Below.refl _ _))).mono ?_;rintro e w6 ⟨s4,x4,n4,c4,f4,y4,m4,d4,g4,rfl,hb6,hq1,hq2,hq⟩
     (try go_wp2_with fail)
     refine hK.out _ _ ?_ (fun hH6=>?_)
     ·((try dsimp only);(refine ⟨?_,?_,?_,?_,?_,?_,?_,?_,?_⟩ <;> repeat (with_reducible first | assumption | refine kCb (by assumption) ?_ | refine kCd ?_)))
     clear hK K;try simp only [lay_,Act.put]
     refine wpAnyH_ready (rs:=[8]) (by kernel_rfl) (by simp) ?_;refine AllReadyH.cons (o:=_) rfl (fun K hK=>?_) ?_;rotate_left;exact AllReadyH.nil;go_simp
     go_at_call 22
     refine (CA.out ⟨s4,x4,n4,c4,f4,y4,m4,d4,g4⟩ w6 belB ⟨hq1,hq2,hq⟩).mono ?_;rintro e w9 ⟨rfl,hb9⟩
     (try go_wp2_with fail)
     refine hK.out _ _ ?_ (fun hH7=>?_)
     ·((try dsimp only);(refine ⟨?_,?_,?_,?_,?_,?_,?_,?_,?_⟩ <;> repeat (with_reducible first | assumption | refine kCb (by assumption) ?_ | refine kCd ?_)))
     clear hK K;try simp only [lay_,Act.put]
     refine tkO 9 ?_;simp only [lay_,Act.put];refine wpAnyH_done (by kernel_rfl) ?_ _;have hd6:=(Below.drew (Below.refl w5.heap.size w5)).trans (hb6.mono (Below.drew (Below.refl w5.heap.size w5)).size);have hd9:=hd6.trans (hb9.mono hd6.size);replace HBr:=hid (HBr.out.trans (hd9.mono HBr.out.size));replace HRow:=hid (HRow.out.below hd9)
     clear hHeld hH6 hH7 hb6 hb9 hd6 hd9 hq1 hq2 hq CA CD a1 a2 a3 a4 a5 a6 a7 a8 a9;cases t1
     ·have hsz:=HBr.out.size;go_wp2_with (at_builtin;go_must (refine wpList_append_one w9 rfl (.tmp 67) (.tmp 69) 50 rfl w3.heap.size 3 8 1 (.int .i64 0) Tryz.underlying50 Tryz.infoInt rfl (by decide) nzi u11 (crl (brB rs xs) i).length (ils (crl (brB rs xs) i)) rfl HRow.out #[.int .i64 (i:Int)] rfl rfl (onei _) (noti _) ?p1 (by decide) hsz ?_))
      case p1=>omega
      intro g8 cap8 w8 hr8 hk8 hb8 hg8;have HB8:=hid (hb8 w3 HBr.out (Nat.le_refl _));have HR8:Hid (RowG 3 1 w3.heap.size w8 (.slice (some ⟨g8,0,none⟩) ((crl (brB rs xs) i).length+1) cap8) (crl (brB rs xs) (i+1)).length (ils (crl (brB rs xs) (i+1)))):=by
       show RowG _ _ _ _ _ _ _;rw [crl_yes (show (brB rs xs) i=true by simpa using HT1.out)];simpa [ils] using hr8
      clear hr8 hk8 hb8 hg8 HRow HBr hsz;go_wp2;go_roundw
      case rel=>exact ⟨i+1,by omega,by go_num,HB8.out,HR8.out⟩
      case measure=>simp [intOf];omega
     ·go_wp2;go_roundw
      case rel=>exact ⟨i+1,by omega,by go_num,HBr.out,by show RowG _ _ _ _ _ _ _;rw [crl_no (show (brB rs xs) i=false by simpa using HT1.out)];exact HRow.out⟩
      case measure=>simp [intOf];omega
    ·have e1:i=rs.length:=by omega
     have i4':¬(((i:Nat):Int)<((rs.length:Nat):Int)):=by omega
     rw [e1] at HRow;obtain ⟨ya,yc,rfl⟩:=HRow.out.slice;have HSY:=hid (rowg_il HRow.out);have HSX3:=hid (HSX.out.below HBr.out);have HB7:=hid (HB3.out.trans (HBr.out.mono HB3.out.size));clear e1 HRow HBr HSX;go_wp2
     go_ret3
     exact ⟨HB7.out,.inr ⟨rfl,xa,xc,ya,yc,rfl,HSX3.out,HSY.out⟩⟩
end Go.Proofs.YtbnaikljfhhljaaGreat
