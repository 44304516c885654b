/-
 The walk of the reference's Dot. The walks of the reference's Feasible and Recedes of models of its own (written by makers/re2.py). The walk of the reference's reduced costs (written by makers/rs2.py).
-/
import Derived.Test.YtdbbncamlaiajaaGreatZ0
import Derived.Test.YtdbbncamlaiajaaGreatZ16
import Derived.Test.YtdbbncamlaiajaaGreatZ13
import Derived.Test.YtdbbncamlaiajaaGreatZ8
namespace Go.Proofs.YtdbbncamlaiajaaGreat
open Go.RowKit
theorem Dn.len_pd {w x n d V} {K:Nat} (h:Dn w x n d V) (hv:(V:Int)<pd K):n≤K:=by
 by_cases hn:n≤K
 ·exact hn
 ·have h1:=vd_form_ge h.dg h.fm (by omega);have h2:=pd_mono (show K≤n-1 by omega);have h3:=h.val;omega
theorem Dn.lt_pd {w x n d V} {K:Nat} (h:Dn w x n d V) (hn:n≤K):(V:Int)<pd K:=by
 have h1:=vd_lt h.dg;have h2:=pd_mono hn;have h3:=h.val;omega
theorem Qn.len {w s x n d y m g q} {K:Nat} (h:Qn w s x n d y m g q) (hq:Lo K q):n≤2*K∧m≤2*K :=
 ⟨h.num.dn.len_pd (by rw [pd_two];exact hq.1),h.den.len_pd (by rw [pd_two];exact hq.2)⟩
theorem Qn.lo {w s x n d y m g q} {K:Nat} (h:Qn w s x n d y m g q) (hn:n≤2*K) (hm:m≤2*K):Lo K q :=
 ⟨by rw [←pd_two];exact h.num.dn.lt_pd hn,by rw [←pd_two];exact h.den.lt_pd hm⟩
theorem Sx.qn {w B s x n c y m d u0 u1 u2 s1 x1 n1 d1 y1 m1 g1 q} (S:Sx w B s x n c y m d) (h:Qn w s1 x1 n1 d1 y1 m1 g1 q):Qn (((w.setCell ⟨B,0,none⟩ u0).setCell ⟨B,1,none⟩ u1).setCell ⟨B,2,none⟩ u2) s1 x1 n1 d1 y1 m1 g1 q :=
 ⟨⟨⟨S.rd h.num.dn.rd,h.num.dn.dg,h.num.dn.fm,h.num.dn.val⟩,h.num.sgn,h.num.pos⟩,⟨S.rd h.den.rd,h.den.dg,h.den.fm,h.den.val⟩⟩
set_option maxRecDepth 100000 in
set_option maxHeartbeats 8000000 in
theorem fDot_c {w:World} {L:Nat} {av ax:Option Addr} {k kx cv cx:Nat} {v:List (Int × Rat)} {p:List Rat}
  (hv:Tq (2*L) w av v) (hx:Rqs (2*L) w ax p) (lv:v.length=k) (lp:p.length=kx) (hk:k≤64) (hL:L≤100) (hbel:∀(j:Nat) (a:Int) (q:Rat),v[j]?=some (a,q)→0≤a∧a<kx) :
  Calls Tryz.prog 129 #[.slice av k cv,.slice ax kx cx] w fun e w'=>QAns (2*(4+64*(2*L+2))) w w' e (dsum p v 0):=by
 have TV:=hid hv;have TX:=hid hx;have HBe:=hid hbel
 have h2:=ob_new w 89;have h3:=below_alloc (Below.refl w.heap.size w) (.cells #[.bool false,.slice none 0 0,.slice none 0 0] 89);clear hv hx hbel;go_enter Tryz.func129,Tryz.ntmps129;go_wp2_with fail
 generalize w.alloc (.cells #[.bool false,.slice none 0 0,.slice none 0 0] 89)=w0 at *;have OB0:=hid h2;have HB0:=hid h3
 clear h2 h3;refine (qZero_c _).mono ?_;rintro e w4 ⟨s0,x0,n0,c0,d0,y0,m0,e0,g0,rfl,hb4,hl1,hl2,hq4⟩;have OB4:=hid (OB0.out.below hb4);have HB4:=hid (HB0.out.trans (hb4.mono HB0.out.size));have HQ4:=hid hq4
 clear OB0 HB0 hb4 hq4 hl1 hl2;go_wp2_with fail
 have hSx:Sx (w4.alloc (.cells #[.bool s0,.slice x0 n0 c0,.slice y0 m0 e0] 89)) w4.heap.size s0 x0 n0 c0 y0 m0 e0:=⟨by simp,by simp [go_sem],by simp [go_sem],by simp [go_sem],fun o=>by simp only [World.frozen?,heap_alloc_new w4 (.cells #[.bool s0,.slice x0 n0 c0,.slice y0 m0 e0] 89)];simp⟩;have hal:=below_alloc (Below.refl w4.heap.size w4) (.cells #[.bool s0,.slice x0 n0 c0,.slice y0 m0 e0] 89);have hne:w.heap.size<w4.heap.size:=OB4.out.z;have ST:=hid hSx;have HB5:=hid (HB4.out.trans (hal.mono HB4.out.size));have HQ5:=hid (HQ4.out.below hal);have OB5:=hid (OB4.out.below hal)
 clear hSx hal HB4 HQ4 OB4;generalize w4.alloc (.cells #[.bool s0,.slice x0 n0 c0,.slice y0 m0 e0] 89)=w5' at *;generalize w4.heap.size=B at *;go_loopw [11] (fun t wr=>∃(i:Nat) (acc:Rat) (s:Bool) (x:Option Addr) (n c:Nat) (d:Nat→Int) (y:Option Addr) (m e:Nat) (g:Nat→Int),i≤k∧t=.int .i64 i∧Hid (Below w.heap.size w wr)∧Hid (Sx wr B s x n c y m e)∧Hid (Ob wr w.heap.size)∧Hid (Lo (4+i*(2*L+2)) acc∧Qn wr s x n d y m g acc)∧Hid (dsum p (v.drop i) acc=dsum p v 0)) (fun t _=>k-(intOf t).toNat)
 case atStart=>exact ⟨0,0,s0,x0,n0,c0,d0,y0,m0,e0,g0,by omega,rfl,HB5,ST,OB5,⟨lo_zero (by omega),HQ5.out⟩,rfl⟩
 case round =>
  clear HB5 HQ5 OB5 ST;obtain ⟨i,acc,s,x,n,c,d,y,m,e,g,hi,rfl,HB,HS,HO,HQ,HE⟩:=hrel;by_cases hlt:i<k
  ·obtain ⟨⟨a,q⟩,haq⟩:∃t,v[i]?=some t:=⟨_,List.getElem?_eq_getElem (by omega)⟩;obtain ⟨ha0,ha1⟩:=HBe.out i a q haq;obtain ⟨an,rfl⟩:=Int.eq_ofNat_of_zero_le ha0;obtain ⟨b,o,⟨ts,tx,tn,tc,tf,ty,tm,td,tg⟩,hav,hc,hr⟩:=(TV.out.below HB.out) i an q haq;obtain ⟨r,hr2⟩:∃r,p[an]?=some r:=⟨_,List.getElem?_eq_getElem (by omega)⟩;obtain ⟨b0,o0,_,hax0,hc0,_⟩:=TX.out an r hr2;have hb0:=World.block_lt_of_cell? w _ hc0.x0;obtain ⟨b',o',⟨ss,sx,sn,sc,sf,sy,sm,sd,sg⟩,hax,hc',hr'⟩:=(TX.out.below HB.out) an r hr2;have nB2:B≠b':=by
    rw [hax0] at hax;have:b0=b':=by simpa using congrArg (fun a=>(a.map Addr.block)) hax
    have hb1:b0<w.heap.size:=hb0;omega
   clear hc0 hb0 hax0;have hav2:=hav;have hax2:=hax
   subst hav2;subst hax2
   obtain ⟨x0',x1',x2',x3'⟩:=hc;obtain ⟨p0,p1,p2⟩:=hc';replace x0':wr.cell? ⟨b,o+i*4,none⟩=some (.int .i64 an):=x0';replace x1':wr.cell? ⟨b,o+i*4+1,none⟩=some (.bool ts):=x1';replace x2':wr.cell? ⟨b,o+i*4+2,none⟩=some (.slice tx tn tc):=x2';replace x3':wr.cell? ⟨b,o+i*4+3,none⟩=some (.slice ty tm td):=x3';replace p0:wr.cell? ⟨b',o'+an*3,none⟩=some (.bool ss):=p0;replace p1:wr.cell? ⟨b',o'+an*3+1,none⟩=some (.slice sx sn sc):=p1;replace p2:wr.cell? ⟨b',o'+an*3+2,none⟩=some (.slice sy sm sd):=p2;have HR1:Hid (tn≤2*L∧tm≤2*L∧Qn wr ts tx tn tf ty tm tg q):=hr;have HR2:Hid (sn≤2*L∧sm≤2*L∧Qn wr ss sx sn sf sy sm sg r):=hr';have i2:((i:Nat):Int)<((k:Nat):Int):=by omega
   have i3:((an:Nat):Int)<((kx:Nat):Int):=by omega
   have HD:Hid (dsum p (v.drop (i+1)) (acc+q*r)=dsum p v 0):=by
    show _=_;have e1:v.drop i=((an:Int),q) :: v.drop (i+1):=by
     have hl:i<v.length:=by omega
     have:v[i]=((an:Int),q):=by rw [List.getElem?_eq_getElem hl] at haq;exact Option.some.inj haq
     rw [←this];exact List.drop_eq_getElem_cons hl
    rw [←HE.out,e1];show _=dsum p _ (acc+q*p.getD (an:Int).toNat 0);rw [Int.toNat_natCast,List.getD_eq_getElem?_getD,hr2];rfl
   have nB1:B≠wr.heap.size:=by have:=HS.out.z;omega
   clear hr hr' haq hr2 hav hax HE;go_upto_region 5 with fail
   have hb5:=below_alloc (Below.refl wr.heap.size wr) (.cells #[.int .i64 an,.bool ts,.slice tx tn tc,.slice ty tm td] 133);have a0:(wr.alloc (.cells #[.int .i64 an,.bool ts,.slice tx tn tc,.slice ty tm td] 133)).cell? ⟨wr.heap.size,0,none⟩=some (.int .i64 an):=by simp [go_sem]
   have a1:(wr.alloc (.cells #[.int .i64 an,.bool ts,.slice tx tn tc,.slice ty tm td] 133)).cell? ⟨wr.heap.size,1,none⟩=some (.bool ts):=by simp [go_sem]
   have a2:(wr.alloc (.cells #[.int .i64 an,.bool ts,.slice tx tn tc,.slice ty tm td] 133)).cell? ⟨wr.heap.size,2,none⟩=some (.slice tx tn tc):=by simp [go_sem]
   have a3:(wr.alloc (.cells #[.int .i64 an,.bool ts,.slice tx tn tc,.slice ty tm td] 133)).cell? ⟨wr.heap.size,3,none⟩=some (.slice ty tm td):=by simp [go_sem]
   replace p0:=kCb hb5 p0;replace p1:=kCb hb5 p1;replace p2:=kCb hb5 p2
   replace HS:=hid (HS.out.below hb5);replace HO:=hid (HO.out.below hb5);replace HQ:=hid (And.intro HQ.out.1 (HQ.out.2.below hb5));replace HR1:=hid (And.intro HR1.out.1 (And.intro HR1.out.2.1 (HR1.out.2.2.below hb5)));replace HR2:=hid (And.intro HR2.out.1 (And.intro HR2.out.2.1 (HR2.out.2.2.below hb5)))
   replace HB:=hid (HB.out.trans (hb5.mono HB.out.size));clear x0' x1' x2' x3' hb5;generalize wr.alloc (.cells #[.int .i64 an,.bool ts,.slice tx tn tc,.slice ty tm td] 133)=w5 at *;obtain ⟨sz,u0,u1,u2,uf⟩:=HS.out;have hKi:4+i*(2*L+2)≤4+64*(2*L+2):=by
    have h1:i*(2*L+2)≤64*(2*L+2):=Nat.mul_le_mul_right _ (by omega);omega
   obtain ⟨hq1,hq2⟩:=HQ.out.2.len HQ.out.1;have CM:Hid (∀W,Below w5.heap.size w5 W→Calls Tryz.prog 73 #[.agg #[.bool ts,.slice tx tn tc,.slice ty tm td],.agg #[.bool ss,.slice sx sn sc,.slice sy sm sd]] W fun e w'=>∃s x n c d y m e' g,e=.returned (.agg #[.bool s,.slice x n c,.slice y m e'])∧Below W.heap.size W w'∧Hid (Lo (2*L+1) (q*r)∧Qn w' s x n d y m g (q*r))):=fun W hW =>
    (qMul_c (HR1.out.2.2.below hW) (HR2.out.2.2.below hW) (Nat.le_trans HR1.out.1 (by omega)) (Nat.le_trans HR1.out.2.1 (by omega)) (Nat.le_trans HR2.out.1 (by omega)) (Nat.le_trans HR2.out.2.1 (by omega))).mono (fun _ _ ⟨s,x,n,c,d,y,m,c',g,h1,h2,h3,h4,h5⟩=>⟨s,x,n,c,d,y,m,c',g,h1,h2,Lo.mono (lo_mul (HR1.out.2.2.lo HR1.out.1 HR1.out.2.1) (HR2.out.2.2.lo HR2.out.1 HR2.out.2.1)) (by omega),h5⟩)
   have CA:Hid (∀(W:World) (s1:Bool) (x1:Option Addr) (n1 c1:Nat) (d1:Nat→Int) (y1:Option Addr) (m1 e1:Nat) (g1:Nat→Int),Below w5.heap.size w5 W→Lo (2*L+1) (q*r)∧Qn W s1 x1 n1 d1 y1 m1 g1 (q*r)→Calls Tryz.prog 82 #[.agg #[.bool s,.slice x n c,.slice y m e],.agg #[.bool s1,.slice x1 n1 c1,.slice y1 m1 e1]] W fun e w'=>∃s x n c d y m e' g,e=.returned (.agg #[.bool s,.slice x n c,.slice y m e'])∧Below W.heap.size W w'∧Hid (Lo (4+(i+1)*(2*L+2)) (acc+q*r)∧Qn w' s x n d y m g (acc+q*r))):=fun W s1 x1 n1 c1 d1 y1 m1 e1 g1 hW hh=>by
    obtain ⟨k1,k2⟩:=hh.2.len hh.1;refine (qAdd_c (HQ.out.2.below hW) hh.2 (by omega) (by omega) (by omega) (by omega)).mono (fun _ _ ⟨s,x,n,c,d,y,m,c',g,h1,h2,h3,h4,h5⟩=>⟨s,x,n,c,d,y,m,c',g,h1,h2,Lo.mono (lo_add HQ.out.1 hh.1) ?_,h5⟩);rw [Nat.add_mul];omega
   clear hq1 hq2;refine wp_region_held_drew (S:=fun w'=>w'.cell? ⟨wr.heap.size,0,none⟩=some (.int .i64 an)∧w'.cell? ⟨wr.heap.size,1,none⟩=some (.bool ts)∧w'.cell? ⟨wr.heap.size,2,none⟩=some (.slice tx tn tc)∧w'.cell? ⟨wr.heap.size,3,none⟩=some (.slice ty tm td)∧w'.cell? ⟨b',o'+an*3,none⟩=some (.bool ss)∧w'.cell? ⟨b',o'+an*3+1,none⟩=some (.slice sx sn sc)∧w'.cell? ⟨b',o'+an*3+2,none⟩=some (.slice sy sm sd)) (by kernel_rfl) ?_ (fun hHeld=>?_)
   ·(refine ⟨?_,?_,?_,?_,?_,?_,?_⟩ <;> repeat (with_reducible first | assumption | refine kCd ?_))
   refine tkO 1 ?_;simp only [lay_,Act.put];refine tkO 2 ?_;simp only [lay_,Act.put];refine tkO 3 ?_;simp only [lay_,Act.put];refine tkO 4 ?_;simp only [lay_,Act.put];refine tkO 5 ?_;simp only [lay_,Act.put];refine tkO 6 ?_;simp only [lay_,Act.put];refine tkO 7 ?_;simp only [lay_,Act.put];refine wpAnyH_ready (rs:=[0,8]) (by kernel_rfl) (by simp) ?_;refine AllReadyH.cons (o:=_) rfl (fun K hK=>?_) ?_
   ·go_simp;refine hK.out _ _ ?_ (fun hHeld2=>?_)
    ·((try dsimp only);(refine ⟨?_,?_,?_,?_,?_,?_,?_⟩ <;> repeat (with_reducible first | assumption | refine kCd ?_)))
    clear hK K;try simp only [lay_,Act.put]
    refine wpAnyH_ready (rs:=[8]) (by kernel_rfl) (by simp) ?_;refine AllReadyH.cons (o:=_) rfl (fun K hK=>?_) ?_;rotate_left;exact AllReadyH.nil;go_simp
    go_at_call 73
    with_reducible refine (CM.out _ belB).mono ?_
    rintro e w6 ⟨s8,x8,n8,c8,d8,y8,m8,e8,g8,rfl,hb6,H8⟩;have B6:Below w5.heap.size w5 w6:=belB;have S6:=HS.out.below B6;obtain ⟨_,v0,v1,v2,vf6⟩:=id S6
    (try go_wp2_with fail)
    refine hK.out _ _ ?_ (fun hHeld3=>?_)
    ·((try dsimp only);(refine ⟨?_,?_,?_,?_,?_,?_,?_⟩ <;> repeat (with_reducible first | assumption | refine kCb B6 ?_)))
    clear hK K;try simp only [lay_,Act.put]
    refine wpAnyH_ready (rs:=[9]) (by kernel_rfl) (by simp) ?_;refine AllReadyH.cons (o:=_) rfl (fun K hK=>?_) ?_;rotate_left;exact AllReadyH.nil;go_simp
    go_at_call 82
    with_reducible refine (CA.out _ s8 x8 n8 c8 d8 y8 m8 e8 g8 belB ⟨H8.out.1,H8.out.2⟩).mono ?_
    rintro e w7 ⟨s9,x9,n9,c9,d9,y9,m9,e9,g9,rfl,hb7,H9⟩;have B7:Below w5.heap.size w5 w7:=belB;have S7:=HS.out.below B7;have O7:=HO.out.below B7;obtain ⟨_,t0,t1,t2,tf7⟩:=id S7
    (try go_wp2_with fail)
    refine hK.out _ _ ?_ (fun hHeld4=>?_)
    ·((try dsimp only);(refine ⟨?_,?_,?_,?_,?_,?_,?_⟩ <;> repeat (with_reducible first | assumption | refine kCb B7 ?_)))
    clear hK K;try simp only [lay_,Act.put]
    refine wpAnyH_ready (rs:=[10]) (by kernel_rfl) (by simp) ?_;refine AllReadyH.cons (o:=_) rfl (fun K hK=>?_) ?_;rotate_left;exact AllReadyH.nil;go_simp;refine hK.out _ _ ?_ (fun hHeld9=>?_)
    ·((try dsimp only);(refine ⟨?_,?_,?_,?_,?_,?_,?_⟩ <;> repeat (with_reducible first | assumption | refine kCs (by simp only [ne_eq];omega) ?_ | refine kCb B7 ?_)))
    clear hK K;try simp only [lay_,Act.put]
    refine wpAnyH_done (by kernel_rfl) ?_ _;have R1:=hid (And.intro (S7.st (s1:=s9) (x1:=x9) (n1:=n9) (c1:=c9) (y1:=y9) (m1:=m9) (d1:=e9)) (And.intro (S7.qn (u0:=.bool s9) (u1:=.slice x9 n9 c9) (u2:=.slice y9 m9 e9) H9.out.2) (And.intro (O7.far3 (u0:=.bool s9) (u1:=.slice x9 n9 c9) (u2:=.slice y9 m9 e9) (show B≠w.heap.size by omega)) (below_st (B:=B) (u0:=.bool s9) (u1:=.slice x9 n9 c9) (u2:=.slice y9 m9 e9) (HB.out.trans (B7.mono HB.out.size)) (by omega)))));have L9:=hid H9.out.1;clear hHeld a0 a1 a2 a3 p0 p1 p2 u0 u1 u2 uf t0 t1 t2 tf7 CM CA S7 O7 B7 H8 H9 HS HO HQ HR1 HR2 HB;generalize ((w7.setCell ⟨B,0,none⟩ (.bool s9)).setCell ⟨B,1,none⟩ (.slice x9 n9 c9)).setCell ⟨B,2,none⟩ (.slice y9 m9 e9)=w9 at *;go_wp2;go_roundw
    case rel=>exact ⟨i+1,acc+q*r,s9,x9,n9,c9,d9,y9,m9,e9,g9,by omega,by go_num,R1.out.2.2.2,R1.out.1,R1.out.2.2.1,⟨L9.out,R1.out.2.1⟩,HD.out⟩
    case measure=>simp [intOf];omega
   refine AllReadyH.cons (o:=_) rfl (fun K hK=>?_) ?_
   ·go_simp
    go_at_call 73
    with_reducible refine (CM.out _ belB).mono ?_
    rintro e w6 ⟨s8,x8,n8,c8,d8,y8,m8,e8,g8,rfl,hb6,H8⟩;have B6:Below w5.heap.size w5 w6:=belB;have S6:=HS.out.below B6;obtain ⟨_,v0,v1,v2,vf6⟩:=id S6
    (try go_wp2_with fail)
    refine hK.out _ _ ?_ (fun hHeld3=>?_)
    ·((try dsimp only);(refine ⟨?_,?_,?_,?_,?_,?_,?_⟩ <;> repeat (with_reducible first | assumption | refine kCb B6 ?_)))
    clear hK K;try simp only [lay_,Act.put]
    refine wpAnyH_ready (rs:=[0]) (by kernel_rfl) (by simp) ?_;refine AllReadyH.cons (o:=_) rfl (fun K hK=>?_) ?_;rotate_left;exact AllReadyH.nil;go_simp;refine hK.out _ _ ?_ (fun hHeld2=>?_)
    ·((try dsimp only);(refine ⟨?_,?_,?_,?_,?_,?_,?_⟩ <;> repeat (with_reducible first | assumption | refine kCb B6 ?_)))
    clear hK K;try simp only [lay_,Act.put]
    refine wpAnyH_ready (rs:=[9]) (by kernel_rfl) (by simp) ?_;refine AllReadyH.cons (o:=_) rfl (fun K hK=>?_) ?_;rotate_left;exact AllReadyH.nil;go_simp
    go_at_call 82
    with_reducible refine (CA.out _ s8 x8 n8 c8 d8 y8 m8 e8 g8 belB ⟨H8.out.1,H8.out.2⟩).mono ?_
    rintro e w7 ⟨s9,x9,n9,c9,d9,y9,m9,e9,g9,rfl,hb7,H9⟩;have B7:Below w5.heap.size w5 w7:=belB;have S7:=HS.out.below B7;have O7:=HO.out.below B7;obtain ⟨_,t0,t1,t2,tf7⟩:=id S7
    (try go_wp2_with fail)
    refine hK.out _ _ ?_ (fun hHeld4=>?_)
    ·((try dsimp only);(refine ⟨?_,?_,?_,?_,?_,?_,?_⟩ <;> repeat (with_reducible first | assumption | refine kCb B7 ?_)))
    clear hK K;try simp only [lay_,Act.put]
    refine wpAnyH_ready (rs:=[10]) (by kernel_rfl) (by simp) ?_;refine AllReadyH.cons (o:=_) rfl (fun K hK=>?_) ?_;rotate_left;exact AllReadyH.nil;go_simp;refine hK.out _ _ ?_ (fun hHeld9=>?_)
    ·((try dsimp only);(refine ⟨?_,?_,?_,?_,?_,?_,?_⟩ <;> repeat (with_reducible first | assumption | refine kCs (by simp only [ne_eq];omega) ?_ | refine kCb B7 ?_)))
    clear hK K;try simp only [lay_,Act.put]
    refine wpAnyH_done (by kernel_rfl) ?_ _;have R1:=hid (And.intro (S7.st (s1:=s9) (x1:=x9) (n1:=n9) (c1:=c9) (y1:=y9) (m1:=m9) (d1:=e9)) (And.intro (S7.qn (u0:=.bool s9) (u1:=.slice x9 n9 c9) (u2:=.slice y9 m9 e9) H9.out.2) (And.intro (O7.far3 (u0:=.bool s9) (u1:=.slice x9 n9 c9) (u2:=.slice y9 m9 e9) (show B≠w.heap.size by omega)) (below_st (B:=B) (u0:=.bool s9) (u1:=.slice x9 n9 c9) (u2:=.slice y9 m9 e9) (HB.out.trans (B7.mono HB.out.size)) (by omega)))));have L9:=hid H9.out.1;clear hHeld a0 a1 a2 a3 p0 p1 p2 u0 u1 u2 uf t0 t1 t2 tf7 CM CA S7 O7 B7 H8 H9 HS HO HQ HR1 HR2 HB;generalize ((w7.setCell ⟨B,0,none⟩ (.bool s9)).setCell ⟨B,1,none⟩ (.slice x9 n9 c9)).setCell ⟨B,2,none⟩ (.slice y9 m9 e9)=w9 at *;go_wp2;go_roundw
    case rel=>exact ⟨i+1,acc+q*r,s9,x9,n9,c9,d9,y9,m9,e9,g9,by omega,by go_num,R1.out.2.2.2,R1.out.1,R1.out.2.2.1,⟨L9.out,R1.out.2.1⟩,HD.out⟩
    case measure=>simp [intOf];omega
   exact AllReadyH.nil
  ·have e1:i=k:=by omega
   have HF:Hid (acc=dsum p v 0):=by
    show _=_;rw [←HE.out,e1,←lv,List.drop_length];rfl
   have i2:¬(((i:Nat):Int)<((k:Nat):Int)):=by omega
   have hKi:4+i*(2*L+2)≤4+64*(2*L+2):=by
    have h1:i*(2*L+2)≤64*(2*L+2):=Nat.mul_le_mul_right _ (by omega);omega
   obtain ⟨hq1,hq2⟩:=HQ.out.2.len HQ.out.1;obtain ⟨sz,u0,u1,u2,uf⟩:=HS.out;obtain ⟨hz,z0,z1,z2,zf⟩:=HO.out;clear e1 HE;go_wp2;exact bodyPost_ret (v:=.agg #[.bool s,.slice x n c,.slice y m e]) (by simp [results,Tryz.results129,go_sem,z0,z1,z2]) rfl ⟨s,x,n,c,d,y,m,e,g,rfl,below_st HB.out (by omega),by omega,by omega,by rw [←HF.out];exact HO.out.qn HQ.out.2⟩
def KE (L:Nat):Nat:=2*(4+64*(2*L+2))
theorem qnt_up {K K' w t q} (h:QnT K w t q) (hk:K≤K'):QnT K' w t q:=⟨Nat.le_trans h.1 hk,Nat.le_trans h.2.1 hk,h.2.2⟩
theorem feasB_all (cs:List CV) (rs:List RV) (xs:List Rat):feasB cs rs xs=(allB (fun j=>!(bcB cs xs j)) cs.length && allB (fun j=>!(brB rs xs j)) rs.length):=by
 rw [Bool.eq_iff_iff];simp only [feasB,Bool.and_eq_true,decide_eq_true_eq,crl_nil,allB_iff,Bool.not_eq_true']
theorem allB_no {B:Nat→Bool} {n j:Nat} (h:j<n) (hj:B j=false):allB B n=false:=by
 cases e:allB B n
 ·rfl
 ·have:=allB_iff.1 e j h;rw [hj] at this;cases this
set_option maxRecDepth 100000 in
set_option maxHeartbeats 8000000 in
theorem rFeas_c {w:World} {L:Nat} {M:Mo} {off:Rat} {cs:List CV} {rs:List RV} {ax:Option Addr} {k cap:Nat} {xs:List Rat} (h:MqV (2*L) w M off cs rs) (hx:Rqs (2*L) w ax xs) (hk:xs.length=k) (hkc:k=cs.length) (hm:MvP cs rs) (hL:L≤60) :
  Calls Tryz.prog 126 #[M.val,.slice ax k cap] w fun e w'=>e=.returned (.bool (allB (fun j=>!(bcB cs xs j)) cs.length && allB (fun j=>!(brB rs xs j)) rs.length))∧Below w.heap.size w w':=by
 have hP:=hid hm;obtain ⟨⟨s,x,n,c,f,y,m,d,g⟩,ca,ck,cc,C,ra,rk,rc,R⟩:=M;have hck:ck=cs.length:=h.ck;have hrk:rk=rs.length:=h.rk;subst hck;subst hrk;have HC:Hid (∀j v,cs[j]?=some v→(∃b o,ca=some ⟨b,o,none⟩∧Cs w b (o+j*12) (C j).vs)∧QcV (2*L) w (C j) v):=h.cls;have HR:Hid (∀j v,rs[j]?=some v→(∃b o,ra=some ⟨b,o,none⟩∧Cs w b (o+j*10) (R j).vs)∧QrV (2*L) w (R j) v):=h.rls;have HX:=hid hx;clear h hx;subst hkc;have hcl:=hP.out.cl;have hrl:=hP.out.rl;have HB0:=hid (below_alloc (Below.refl w.heap.size w) (.cells #[.bool s,.slice x n c,.slice y m d,.slice ca cs.length cc,.slice ra rs.length rc] 93));have BM:Hid (Bk (w.alloc (.cells #[.bool s,.slice x n c,.slice y m d,.slice ca cs.length cc,.slice ra rs.length rc] 93)) w.heap.size [.bool s,.slice x n c,.slice y m d,.slice ca cs.length cc,.slice ra rs.length rc] 93):=bk_new w [.bool s,.slice x n c,.slice y m d,.slice ca cs.length cc,.slice ra rs.length rc] 93;obtain ⟨pc,hpc⟩:∃t,(fun j=>!(bcB cs xs j))=t:=⟨_,rfl⟩;obtain ⟨pr,hpr⟩:∃t,(fun j=>!(brB rs xs j))=t:=⟨_,rfl⟩;rw [hpc,hpr];have HPC:=hid hpc;have HPR:=hid hpr
 clear hpc hpr;show Calls Tryz.prog 126 #[.agg #[.bool s,.slice x n c,.slice y m d,.slice ca cs.length cc,.slice ra rs.length rc],.slice ax cs.length cap] w _;have r3:=BM.out.cell (j:=3) rfl;go_enter Tryz.func126,Tryz.ntmps126;go_wp2_with fail
 clear r3;generalize (w.alloc (.cells #[.bool s,.slice x n c,.slice y m d,.slice ca cs.length cc,.slice ra rs.length rc] 93))=w0 at *;go_loopw [12] (fun t wr=>∃(i:Nat),i≤cs.length∧t=.int .i64 i∧Hid (Below w0.heap.size w0 wr)∧Hid (∀j,j<i→pc j=true)) (fun t _=>cs.length-(intOf t).toNat)
 case atStart=>exact ⟨0,by omega,rfl,Below.refl _ _,fun j hj=>by omega⟩
 case round =>
  obtain ⟨i,hi,rfl,HB,HT⟩:=hrel;by_cases hlt:i<cs.length
  ·obtain ⟨v,hv⟩:∃v,cs[i]?=some v:=⟨_,List.getElem?_eq_getElem hlt⟩;obtain ⟨q,hq⟩:∃t,xs[i]?=some t:=⟨_,List.getElem?_eq_getElem (by omega)⟩;have hbw:=HB0.out.trans (HB.out.mono HB0.out.size);obtain ⟨⟨b,o,hca,hc0⟩,hn⟩:=HC.out i v hv;subst hca;have hc:=hc0.below hbw;replace hn:=hn.below hbw;obtain ⟨b',o',⟨s3,x3,n3,c3,f3,y3,m3,d3,g3⟩,hax,hcx,hqx⟩:=(HX.out.below hbw) i q hq;subst hax;have hbd:=hP.out.cb v (List.mem_of_getElem? hv);obtain ⟨t1,ht1⟩:∃t,pc i=t:=⟨_,rfl⟩;have CA:=hid (fun W (hW:Below wr.heap.size wr W)=>rKeeps_c (K:=2*L) (w:=W) (hn.lq.below hW) hn.li (hn.hq.below hW) hn.hi (hqx.below hW) (by omega) hbd);rw [show kpsB q v.li v.lq v.hi v.hq=t1 from by rw [←ht1,←HPC.out];simp only [bcB,hv,hq,Bool.not_not]] at CA;obtain ⟨⟨z,⟨s0,x0,n0,c0,f0,y0,m0,d0,g0⟩,⟨i1,⟨s1,x1,n1,c1,f1,y1,m1,d1,g1⟩⟩,⟨i2,⟨s2,x2,n2,c2,f2,y2,m2,d2,g2⟩⟩⟩,hCi⟩:∃t,C i=t:=⟨_,rfl⟩;rw [hCi] at hc CA;replace CA:Hid (∀W,Below wr.heap.size wr W→Calls Tryz.prog 151 #[.agg #[.int .i64 i1,.bool s1,.slice x1 n1 c1,.slice y1 m1 d1],.agg #[.int .i64 i2,.bool s2,.slice x2 n2 c2,.slice y2 m2 d2],.agg #[.bool s3,.slice x3 n3 c3,.slice y3 m3 d3]] W fun e w2=>e=.returned (.bool t1)∧Below W.heap.size W w2):=CA;have q0:wr.cell? ⟨b,o+i*12,none⟩=some (.string z):=hc 0 _ rfl;have q1:wr.cell? ⟨b,o+i*12+1,none⟩=some (.bool s0):=hc 1 _ rfl;have q2:wr.cell? ⟨b,o+i*12+2,none⟩=some (.slice x0 n0 c0):=hc 2 _ rfl;have q3:wr.cell? ⟨b,o+i*12+3,none⟩=some (.slice y0 m0 d0):=hc 3 _ rfl;have q4:wr.cell? ⟨b,o+i*12+4,none⟩=some (.int .i64 i1):=hc 4 _ rfl;have q5:wr.cell? ⟨b,o+i*12+5,none⟩=some (.bool s1):=hc 5 _ rfl;have q6:wr.cell? ⟨b,o+i*12+6,none⟩=some (.slice x1 n1 c1):=hc 6 _ rfl;have q7:wr.cell? ⟨b,o+i*12+7,none⟩=some (.slice y1 m1 d1):=hc 7 _ rfl;have q8:wr.cell? ⟨b,o+i*12+8,none⟩=some (.int .i64 i2):=hc 8 _ rfl;have q9:wr.cell? ⟨b,o+i*12+9,none⟩=some (.bool s2):=hc 9 _ rfl;have q10:wr.cell? ⟨b,o+i*12+10,none⟩=some (.slice x2 n2 c2):=hc 10 _ rfl;have q11:wr.cell? ⟨b,o+i*12+11,none⟩=some (.slice y2 m2 d2):=hc 11 _ rfl;obtain ⟨p0,p1,p2⟩:=hcx;replace p0:wr.cell? ⟨b',o'+i*3,none⟩=some (.bool s3):=p0;replace p1:wr.cell? ⟨b',o'+i*3+1,none⟩=some (.slice x3 n3 c3):=p1;replace p2:wr.cell? ⟨b',o'+i*3+2,none⟩=some (.slice y3 m3 d3):=p2;have hbt:=below_alloc (Below.refl wr.heap.size wr) (.cells #[.string z,.bool s0,.slice x0 n0 c0,.slice y0 m0 d0,.int .i64 i1,.bool s1,.slice x1 n1 c1,.slice y1 m1 d1,.int .i64 i2,.bool s2,.slice x2 n2 c2,.slice y2 m2 d2] 128);have BC:Bk (wr.alloc (.cells #[.string z,.bool s0,.slice x0 n0 c0,.slice y0 m0 d0,.int .i64 i1,.bool s1,.slice x1 n1 c1,.slice y1 m1 d1,.int .i64 i2,.bool s2,.slice x2 n2 c2,.slice y2 m2 d2] 128)) wr.heap.size [.string z,.bool s0,.slice x0 n0 c0,.slice y0 m0 d0,.int .i64 i1,.bool s1,.slice x1 n1 c1,.slice y1 m1 d1,.int .i64 i2,.bool s2,.slice x2 n2 c2,.slice y2 m2 d2] 128:=bk_new wr [.string z,.bool s0,.slice x0 n0 c0,.slice y0 m0 d0,.int .i64 i1,.bool s1,.slice x1 n1 c1,.slice y1 m1 d1,.int .i64 i2,.bool s2,.slice x2 n2 c2,.slice y2 m2 d2] 128;have HT1:=hid ht1;have i1':((i:Nat):Int)<((cs.length:Nat):Int):=by omega
   clear hCi hc hc0 hn ht1 hv hq hqx hbd hbw;go_upto_region 4 with fail
   clear q0 q1 q2 q3 q4 q5 q6 q7 q8 q9 q10 q11;replace p0:=kCb hbt p0;replace p1:=kCb hbt p1;replace p2:=kCb hbt p2
   have a4:=BC.cell (j:=4) rfl;have a5:=BC.cell (j:=5) rfl;have a6:=BC.cell (j:=6) rfl;have a7:=BC.cell (j:=7) rfl;have a8:=BC.cell (j:=8) rfl;have a9:=BC.cell (j:=9) rfl;have a10:=BC.cell (j:=10) rfl;have a11:=BC.cell (j:=11) rfl;replace CA:=hid (fun W (hW:Below (wr.alloc (.cells #[.string z,.bool s0,.slice x0 n0 c0,.slice y0 m0 d0,.int .i64 i1,.bool s1,.slice x1 n1 c1,.slice y1 m1 d1,.int .i64 i2,.bool s2,.slice x2 n2 c2,.slice y2 m2 d2] 128)).heap.size (wr.alloc (.cells #[.string z,.bool s0,.slice x0 n0 c0,.slice y0 m0 d0,.int .i64 i1,.bool s1,.slice x1 n1 c1,.slice y1 m1 d1,.int .i64 i2,.bool s2,.slice x2 n2 c2,.slice y2 m2 d2] 128)) W)=>CA.out W (hbt.trans (hW.mono hbt.size)));replace HB:=hid (HB.out.trans (hbt.mono HB.out.size));clear hbt BC;generalize hbx:wr.heap.size=bx at *;generalize wr.alloc (.cells #[.string z,.bool s0,.slice x0 n0 c0,.slice y0 m0 d0,.int .i64 i1,.bool s1,.slice x1 n1 c1,.slice y1 m1 d1,.int .i64 i2,.bool s2,.slice x2 n2 c2,.slice y2 m2 d2] 128)=w5 at *;clear hbx;refine wp_region_held_drew (S:=(fun w'=>w'.cell? ⟨bx,4,none⟩=some (.int .i64 i1)∧w'.cell? ⟨bx,5,none⟩=some (.bool s1)∧w'.cell? ⟨bx,6,none⟩=some (.slice x1 n1 c1)∧w'.cell? ⟨bx,7,none⟩=some (.slice y1 m1 d1)∧w'.cell? ⟨bx,8,none⟩=some (.int .i64 i2)∧w'.cell? ⟨bx,9,none⟩=some (.bool s2)∧w'.cell? ⟨bx,10,none⟩=some (.slice x2 n2 c2)∧w'.cell? ⟨bx,11,none⟩=some (.slice y2 m2 d2)∧w'.cell? ⟨b',o'+i*3,none⟩=some (.bool s3)∧w'.cell? ⟨b',o'+i*3+1,none⟩=some (.slice x3 n3 c3)∧w'.cell? ⟨b',o'+i*3+2,none⟩=some (.slice y3 m3 d3))) (by kernel_rfl) ?_ (fun hHeld=>?_)
   ·(refine ⟨?_,?_,?_,?_,?_,?_,?_,?_,?_,?_,?_⟩ <;> repeat (with_reducible first | assumption | refine kCd ?_))
   refine tkO 0 ?_;simp only [lay_,Act.put];refine tkO 1 ?_;simp only [lay_,Act.put];refine tkO 2 ?_;simp only [lay_,Act.put];refine tkO 3 ?_;simp only [lay_,Act.put];refine tkO 4 ?_;simp only [lay_,Act.put];refine tkO 5 ?_;simp only [lay_,Act.put];refine tkO 6 ?_;simp only [lay_,Act.put];refine tkO 7 ?_;simp only [lay_,Act.put];refine wpAnyH_ready (rs:=[8]) (by kernel_rfl) (by simp) ?_;refine AllReadyH.cons (o:=_) rfl (fun K hK=>?_) ?_;rotate_left;exact AllReadyH.nil;go_simp
   go_at_call 151
   refine (CA.out _ (Below.drew (Below.refl _ _))).mono ?_;rintro e w6 ⟨rfl,hb6⟩
   (try go_wp2_with fail)
   refine hK.out _ _ ?_ (fun hH=>?_)
   ·((try dsimp only);(refine ⟨?_,?_,?_,?_,?_,?_,?_,?_,?_,?_,?_⟩ <;> repeat (with_reducible first | assumption | refine kCb (by assumption) ?_ | refine kCd ?_)))
   clear hK K;try simp only [lay_,Act.put]
   refine tkO 9 ?_;simp only [lay_,Act.put];refine wpAnyH_done (by kernel_rfl) ?_ _;replace HB:=hid (HB.out.drew.trans (hb6.mono HB.out.drew.size));clear hHeld hH hb6 CA p0 p1 p2 a4 a5 a6 a7 a8 a9 a10 a11;cases t1
   ·have HF:Hid (allB pc cs.length=false):=allB_no hlt HT1.out;clear HT1 HT;go_wp2;go_ret;exact ⟨by rw [HF.out];rfl,HB0.out.trans (HB.out.mono HB0.out.size)⟩
   ·have HT2:Hid (∀j,j<i+1→pc j=true):=fun j hj=>by
     by_cases e:j=i
     ·rw [e];exact HT1.out
     ·exact HT.out j (by omega)
    clear HT1 HT;go_wp2;go_roundw
    case rel=>exact ⟨i+1,by omega,by go_num,HB.out,HT2.out⟩
    case measure=>simp [intOf];omega
  ·have e1:i=cs.length:=by omega
   have i4':¬(((i:Nat):Int)<((cs.length:Nat):Int)):=by omega
   rw [e1] at HT;have HAC:Hid (allB pc cs.length=true):=allB_iff.2 HT.out;have r4:=(BM.out.below HB.out).cell (j:=4) rfl;have HW:=hid HB.out;clear e1 HT HB;go_wp2_with fail
   clear r4 i4' hi;generalize wr=w1 at *;go_loopw [31] (fun t wr=>∃(i:Nat),i≤rs.length∧t=.int .i64 i∧Hid (Below w1.heap.size w1 wr)∧Hid (∀j,j<i→pr j=true)) (fun t _=>rs.length-(intOf t).toNat)
   case atStart=>exact ⟨0,by omega,rfl,Below.refl _ _,fun j hj=>by omega⟩
   case round =>
    obtain ⟨i,hi,rfl,HB,HT⟩:=hrel;by_cases hlt:i<rs.length
    ·obtain ⟨v,hv⟩:∃v,rs[i]?=some v:=⟨_,List.getElem?_eq_getElem hlt⟩;have hbw:=(HB0.out.trans (HW.out.mono HB0.out.size)).trans (HB.out.mono (Nat.le_trans HB0.out.size HW.out.size));obtain ⟨⟨b,o,hra,hc0⟩,hn⟩:=HR.out i v hv;subst hra;have hc:=hc0.below hbw;replace hn:=hn.below hbw;have hvm:=List.mem_of_getElem? hv;have hbd:=hP.out.rb v hvm;obtain ⟨t1,ht1⟩:∃t,pr i=t:=⟨_,rfl⟩;have CA:Hid (∀(t:Nm) W,Below wr.heap.size wr W→QnT (KE L) W t (dsum xs v.ts 0)→Calls Tryz.prog 151 #[(R i).lo.val,(R i).hi.val,t.val] W fun e w2=>e=.returned (.bool t1)∧Below W.heap.size W w2):=fun t W hW ht=>by
      have:=rKeeps_c (K:=KE L) (w:=W) (qnt_up (hn.lq.below hW) (by unfold KE;omega)) hn.li (qnt_up (hn.hq.below hW) (by unfold KE;omega)) hn.hi ht (by unfold KE;omega) hbd;rw [show kpsB (dsum xs v.ts 0) v.li v.lq v.hi v.hq=t1 from by rw [←ht1,←HPR.out];simp only [brB,hv,Bool.not_not,actQ,dsum_psum]] at this;exact this
     have CD:Hid (∀W,Below wr.heap.size wr W→Calls Tryz.prog 129 #[.slice (R i).ta (R i).tk (R i).tc,.slice ax cs.length cap] W fun e w2=>QAns (KE L) W w2 e (dsum xs v.ts 0)):=fun W hW=>fDot_c (L:=L) (hn.tl.below hW) ((HX.out.below hbw).below hW) hn.tk.symm hk (by rw [hn.tk];exact hP.out.tl v hvm) (by omega) (fun j a q e=>hP.out.tc v hvm (a,q) (List.mem_of_getElem? e))
     obtain ⟨⟨z,⟨i1,⟨s1,x1,n1,c1,f1,y1,m1,d1,g1⟩⟩,⟨i2,⟨s2,x2,n2,c2,f2,y2,m2,d2,g2⟩⟩,ta,tk,tc,tcol,tt⟩,hCi⟩:∃t,R i=t:=⟨_,rfl⟩;rw [hCi] at hc CA CD;replace CA:Hid (∀(t:Nm) W,Below wr.heap.size wr W→QnT (KE L) W t (dsum xs v.ts 0)→Calls Tryz.prog 151 #[.agg #[.int .i64 i1,.bool s1,.slice x1 n1 c1,.slice y1 m1 d1],.agg #[.int .i64 i2,.bool s2,.slice x2 n2 c2,.slice y2 m2 d2],t.val] W fun e w2=>e=.returned (.bool t1)∧Below W.heap.size W w2):=CA;replace CD:Hid (∀W,Below wr.heap.size wr W→Calls Tryz.prog 129 #[.slice ta tk tc,.slice ax cs.length cap] W fun e w2=>QAns (KE L) W w2 e (dsum xs v.ts 0)):=CD;have q0:wr.cell? ⟨b,o+i*10,none⟩=some (.string z):=hc 0 _ rfl;have q1:wr.cell? ⟨b,o+i*10+1,none⟩=some (.int .i64 i1):=hc 1 _ rfl;have q2:wr.cell? ⟨b,o+i*10+2,none⟩=some (.bool s1):=hc 2 _ rfl;have q3:wr.cell? ⟨b,o+i*10+3,none⟩=some (.slice x1 n1 c1):=hc 3 _ rfl;have q4:wr.cell? ⟨b,o+i*10+4,none⟩=some (.slice y1 m1 d1):=hc 4 _ rfl;have q5:wr.cell? ⟨b,o+i*10+5,none⟩=some (.int .i64 i2):=hc 5 _ rfl;have q6:wr.cell? ⟨b,o+i*10+6,none⟩=some (.bool s2):=hc 6 _ rfl;have q7:wr.cell? ⟨b,o+i*10+7,none⟩=some (.slice x2 n2 c2):=hc 7 _ rfl;have q8:wr.cell? ⟨b,o+i*10+8,none⟩=some (.slice y2 m2 d2):=hc 8 _ rfl;have q9:wr.cell? ⟨b,o+i*10+9,none⟩=some (.slice ta tk tc):=hc 9 _ rfl;have hbt:=below_alloc (Below.refl wr.heap.size wr) (.cells #[.string z,.int .i64 i1,.bool s1,.slice x1 n1 c1,.slice y1 m1 d1,.int .i64 i2,.bool s2,.slice x2 n2 c2,.slice y2 m2 d2,.slice ta tk tc] 131);have BC:Bk (wr.alloc (.cells #[.string z,.int .i64 i1,.bool s1,.slice x1 n1 c1,.slice y1 m1 d1,.int .i64 i2,.bool s2,.slice x2 n2 c2,.slice y2 m2 d2,.slice ta tk tc] 131)) wr.heap.size [.string z,.int .i64 i1,.bool s1,.slice x1 n1 c1,.slice y1 m1 d1,.int .i64 i2,.bool s2,.slice x2 n2 c2,.slice y2 m2 d2,.slice ta tk tc] 131:=bk_new wr [.string z,.int .i64 i1,.bool s1,.slice x1 n1 c1,.slice y1 m1 d1,.int .i64 i2,.bool s2,.slice x2 n2 c2,.slice y2 m2 d2,.slice ta tk tc] 131;have HT1:=hid ht1;have i1':((i:Nat):Int)<((rs.length:Nat):Int):=by omega
     clear hCi hc hc0 hn ht1 hv hvm hbd hbw;go_upto_region 10 with fail
     clear q0 q1 q2 q3 q4 q5 q6 q7 q8 q9;have a1:=BC.cell (j:=1) rfl;have a2:=BC.cell (j:=2) rfl;have a3:=BC.cell (j:=3) rfl;have a4:=BC.cell (j:=4) rfl;have a5:=BC.cell (j:=5) rfl;have a6:=BC.cell (j:=6) rfl;have a7:=BC.cell (j:=7) rfl;have a8:=BC.cell (j:=8) rfl;have a9:=BC.cell (j:=9) rfl;replace CA:=hid (fun (t:Nm) W (hW:Below (wr.alloc (.cells #[.string z,.int .i64 i1,.bool s1,.slice x1 n1 c1,.slice y1 m1 d1,.int .i64 i2,.bool s2,.slice x2 n2 c2,.slice y2 m2 d2,.slice ta tk tc] 131)).heap.size (wr.alloc (.cells #[.string z,.int .i64 i1,.bool s1,.slice x1 n1 c1,.slice y1 m1 d1,.int .i64 i2,.bool s2,.slice x2 n2 c2,.slice y2 m2 d2,.slice ta tk tc] 131)) W)=>CA.out t W (hbt.trans (hW.mono hbt.size)));replace CD:=hid (fun W (hW:Below (wr.alloc (.cells #[.string z,.int .i64 i1,.bool s1,.slice x1 n1 c1,.slice y1 m1 d1,.int .i64 i2,.bool s2,.slice x2 n2 c2,.slice y2 m2 d2,.slice ta tk tc] 131)).heap.size (wr.alloc (.cells #[.string z,.int .i64 i1,.bool s1,.slice x1 n1 c1,.slice y1 m1 d1,.int .i64 i2,.bool s2,.slice x2 n2 c2,.slice y2 m2 d2,.slice ta tk tc] 131)) W)=>CD.out W (hbt.trans (hW.mono hbt.size)));replace HB:=hid (HB.out.trans (hbt.mono HB.out.size));clear hbt BC;generalize hbx:wr.heap.size=bx at *;generalize wr.alloc (.cells #[.string z,.int .i64 i1,.bool s1,.slice x1 n1 c1,.slice y1 m1 d1,.int .i64 i2,.bool s2,.slice x2 n2 c2,.slice y2 m2 d2,.slice ta tk tc] 131)=w5 at *;clear hbx;refine wp_region_held_drew (S:=(fun w'=>w'.cell? ⟨bx,1,none⟩=some (.int .i64 i1)∧w'.cell? ⟨bx,2,none⟩=some (.bool s1)∧w'.cell? ⟨bx,3,none⟩=some (.slice x1 n1 c1)∧w'.cell? ⟨bx,4,none⟩=some (.slice y1 m1 d1)∧w'.cell? ⟨bx,5,none⟩=some (.int .i64 i2)∧w'.cell? ⟨bx,6,none⟩=some (.bool s2)∧w'.cell? ⟨bx,7,none⟩=some (.slice x2 n2 c2)∧w'.cell? ⟨bx,8,none⟩=some (.slice y2 m2 d2)∧w'.cell? ⟨bx,9,none⟩=some (.slice ta tk tc))) (by kernel_rfl) ?_ (fun hHeld=>?_)
     ·(refine ⟨?_,?_,?_,?_,?_,?_,?_,?_,?_⟩ <;> repeat (with_reducible first | assumption | refine kCd ?_))
     refine tkO 0 ?_;simp only [lay_,Act.put];refine tkO 1 ?_;simp only [lay_,Act.put];refine tkO 2 ?_;simp only [lay_,Act.put];refine tkO 3 ?_;simp only [lay_,Act.put];refine tkO 4 ?_;simp only [lay_,Act.put];refine tkO 5 ?_;simp only [lay_,Act.put];refine tkO 6 ?_;simp only [lay_,Act.put];refine wpAnyH_ready (rs:=[7]) (by kernel_rfl) (by simp) ?_;refine AllReadyH.cons (o:=_) rfl (fun K hK=>?_) ?_;rotate_left;exact AllReadyH.nil;go_simp
     go_at_call 129
     refine (CD.out _ (Below.drew (Below.refl _ _))).mono ?_;rintro e w6 ⟨s4,x4,n4,c4,f4,y4,m4,d4,g4,rfl,hb6,hq1,hq2,hq⟩
     (try go_wp2_with fail)
     refine hK.out _ _ ?_ (fun hH6=>?_)
     ·((try dsimp only);(refine ⟨?_,?_,?_,?_,?_,?_,?_,?_,?_⟩ <;> repeat (with_reducible first | assumption | refine kCb (by assumption) ?_ | refine kCd ?_)))
     clear hK K;try simp only [lay_,Act.put]
     refine wpAnyH_ready (rs:=[8]) (by kernel_rfl) (by simp) ?_;refine AllReadyH.cons (o:=_) rfl (fun K hK=>?_) ?_;rotate_left;exact AllReadyH.nil;go_simp
     go_at_call 151
     refine (CA.out ⟨s4,x4,n4,c4,f4,y4,m4,d4,g4⟩ w6 belB ⟨hq1,hq2,hq⟩).mono ?_;rintro e w7 ⟨rfl,hb7⟩
     (try go_wp2_with fail)
     refine hK.out _ _ ?_ (fun hH7=>?_)
     ·((try dsimp only);(refine ⟨?_,?_,?_,?_,?_,?_,?_,?_,?_⟩ <;> repeat (with_reducible first | assumption | refine kCb (by assumption) ?_ | refine kCd ?_)))
     clear hK K;try simp only [lay_,Act.put]
     refine tkO 9 ?_;simp only [lay_,Act.put];refine wpAnyH_done (by kernel_rfl) ?_ _;replace HB:=hid (HB.out.drew.trans (hb6.mono HB.out.drew.size));replace HB:=hid (HB.out.trans (hb7.mono HB.out.size));clear hHeld hH6 hH7 hb6 hb7 hq1 hq2 hq CA CD a1 a2 a3 a4 a5 a6 a7 a8 a9;cases t1
     ·have HF:Hid (allB pr rs.length=false):=allB_no hlt HT1.out;clear HT1 HT;go_wp2;go_ret;exact ⟨by rw [HF.out,Bool.and_false];rfl,(HB0.out.trans (HW.out.mono HB0.out.size)).trans (HB.out.mono (Nat.le_trans HB0.out.size HW.out.size))⟩
     ·have HT2:Hid (∀j,j<i+1→pr j=true):=fun j hj=>by
       by_cases e:j=i
       ·rw [e];exact HT1.out
       ·exact HT.out j (by omega)
      clear HT1 HT;go_wp2;go_roundw
      case rel=>exact ⟨i+1,by omega,by go_num,HB.out,HT2.out⟩
      case measure=>simp [intOf];omega
    ·have e1:i=rs.length:=by omega
     have i4':¬(((i:Nat):Int)<((rs.length:Nat):Int)):=by omega
     rw [e1] at HT;have HAR:Hid (allB pr rs.length=true):=allB_iff.2 HT.out;clear e1 HT;go_wp2;go_ret;exact ⟨by rw [HAC.out,HAR.out];rfl,(HB0.out.trans (HW.out.mono HB0.out.size)).trans (HB.out.mono (Nat.le_trans HB0.out.size HW.out.size))⟩
def KZ (L:Nat):Nat:=3+L+64*(2*L+2)
theorem psum_ap:∀(a b:List Rat),psum (a++b) 0=psum a 0+psum b 0
 | [],b=>by show psum b 0=0+psum b 0;grind
 | q :: a,b=>by rw [List.cons_append,psum_cons,psum_cons,psum_ap a b];grind
theorem psum_one (q:Rat):psum [q] 0=q:=by rw [psum_cons];show q+0=q;grind
theorem lo_ps {B:Nat}:∀{l:List Rat},(∀q ∈ l,Lo B q)→Lo (1+l.length*(B+1)) (psum l 0)
 | [],_=>Lo.mono (lo_nought (L:=1) (Nat.le_refl 1)) (Nat.le_add_right _ _)
 | q :: l,h=>by
  rw [psum_cons];exact (lo_add (h q List.mem_cons_self) (lo_ps (fun p hp=>h p (List.mem_cons_of_mem _ hp)))).mono (by rw [List.length_cons,Nat.add_mul];omega)
theorem entQ_mem {y:Rat} {j:Nat}:∀{ts:List (Int × Rat)} {q:Rat},q ∈ entQ y ts j→∃t ∈ ts,q=-y*t.2
 | [],q,h=>by simp [entQ] at h
 | (z,a) :: r,q,h=>by
  simp only [entQ,List.mem_append] at h;rcases h with h | h
  ·split at h
   ·exact ⟨(z,a),List.mem_cons_self,by simpa using h⟩
   ·cases h
  ·obtain ⟨t,h1,h2⟩:=entQ_mem h;exact ⟨t,List.mem_cons_of_mem _ h1,h2⟩
theorem centQ_mem {j:Nat}:∀{rs:List RV} {ys:List Rat} {q:Rat},q ∈ centQ rs ys j→∃v ∈ rs,∃y ∈ ys,∃t ∈ v.ts,q=-y*t.2
 | [],_,q,h=>by simp [centQ] at h
 | _ :: _,[],q,h=>by simp [centQ] at h
 | v :: rs,y :: ys,q,h=>by
  simp only [centQ,List.mem_append] at h;rcases h with h | h
  ·obtain ⟨t,h1,h2⟩:=entQ_mem h;exact ⟨v,List.mem_cons_self,y,List.mem_cons_self,t,h1,h2⟩
  ·obtain ⟨v',h1,y',h2,r⟩:=centQ_mem h;exact ⟨v',List.mem_cons_of_mem _ h1,y',List.mem_cons_of_mem _ h2,r⟩
def cstQ (cs:List CV) (j:Nat):Rat:=(cs[j]?.map (·.cost)).getD 0
def roQ (cs:List CV) (rs:List RV) (ys:List Rat) (i j:Nat):Rat:=psum (centQ (rs.take i) (ys.take i) j) 0+cstQ cs j
def rdQ (cs:List CV) (rs:List RV) (ys:List Rat) (i:Nat) (y:Rat) (ts:List (Int × Rat)) (j:Nat):Rat:=psum (centQ (rs.take i) (ys.take i) j++entQ y ts j) 0+cstQ cs j
theorem roQ_zero (cs:List CV) (rs:List RV) (ys:List Rat) (j:Nat):roQ cs rs ys 0 j=cstQ cs j:=by
 show psum [] 0+cstQ cs j=_;show 0+cstQ cs j=_
 grind
theorem rdQ_nil (cs:List CV) (rs:List RV) (ys:List Rat) (i:Nat) (y:Rat) (ts:List (Int × Rat)):rdQ cs rs ys i y (ts.take 0)=roQ cs rs ys i:=by
 funext j
 show psum (_++[]) 0+_=_;rw [List.append_nil];rfl
theorem rdQ_row {cs:List CV} {rs:List RV} {ys:List Rat} {i:Nat} {v:RV} {y:Rat} (h:rs[i]?=some v) (h2:ys[i]?=some y):rdQ cs rs ys i y v.ts=roQ cs rs ys (i+1):=by
 funext j
 unfold rdQ roQ;rw [centQ_take j h h2]
theorem rdQ_term {cs:List CV} {rs:List RV} {ys:List Rat} {i:Nat} {y:Rat} {ts:List (Int × Rat)} {p zn:Nat} {a:Rat} (h:ts[p]?=some ((zn:Int),a)) (j:Nat):rdQ cs rs ys i y (ts.take (p+1)) j=if zn=j then rdQ cs rs ys i y (ts.take p) j-y*a else rdQ cs rs ys i y (ts.take p) j:=by
 unfold rdQ;rw [entQ_take j h,←List.append_assoc,psum_ap];by_cases e:zn=j
 ·rw [if_pos e,if_pos (by omega),psum_one];grind
 ·rw [if_neg e,if_neg (by omega)];show _+(0:Rat)+_=_
  grind
theorem rdQ_lo {L:Nat} {cs:List CV} {rs:List RV} {ys:List Rat} {i:Nat} {y:Rat} {ts:List (Int × Rat)} {j:Nat} (hi:i<rs.length) (hl:rs.length≤64) (hts:∀v ∈ rs,tsB cs.length (-1) v.ts=true) (ht:tsB cs.length (-1) ts=true) (hc:∀v ∈ cs,Lo L v.cost) (hy:∀q ∈ ys,Lo L q) (hy1:Lo L y) (hr:∀v ∈ rs,∀t ∈ v.ts,Lo L t.2) (ht1:∀t ∈ ts,Lo L t.2):Lo (KZ L) (rdQ cs rs ys i y ts j):=by
 have h1:=centQ_len (j:=j) (rs:=rs.take i) (ys:=ys.take i) (fun v hv=>hts v (List.mem_of_mem_take hv));have h2:=entQ_len (y:=y) (j:=j) ht;have h3:=lo_ps (B:=L+L+1) (l:=centQ (rs.take i) (ys.take i) j++entQ y ts j) (fun q hq=>by
  rcases List.mem_append.1 hq with hq | hq
  ·obtain ⟨v,hv,y',hy',t,htt,rfl⟩:=centQ_mem hq;exact lo_mul (lo_neg (hy y' (List.mem_of_mem_take hy'))) (hr v (List.mem_of_mem_take hv) t htt)
  ·obtain ⟨t,h4,rfl⟩:=entQ_mem hq;exact lo_mul (lo_neg hy1) (ht1 t h4))
 have h5:Lo (L+1) (cstQ cs j):=by
  unfold cstQ;cases e:cs[j]? with
  | none=>exact lo_nought (by omega)
  | some v=>exact (hc v (List.mem_of_getElem? e)).mono (Nat.le_succ _)
 refine (lo_add h3 h5).mono ?_;have h6:(centQ (rs.take i) (ys.take i) j++entQ y ts j).length≤64:=by
  rw [List.length_append];rw [List.length_take] at h1;omega
 have h7:=Nat.mul_le_mul_right (L+L+1+1) h6;unfold KZ;have e:2*L+2=L+L+1+1:=by omega
 rw [e];omega
theorem redC_get {rs:List RV} {ys:List Rat}:∀{cs:List CV} {i j:Nat} {v:CV},cs[i]?=some v→(redC rs ys j cs)[i]?=some (psum (centQ rs ys (j+i)++[v.cost]) 0)
 | [],i,j,v,h=>by simp at h
 | v' :: cs,0,j,v,h=>by
  have e:v'=v:=by simpa using h
  subst e;rfl
 | v' :: cs,i+1,j,v,h=>by
  simp only [redC,List.getElem?_cons_succ];rw [redC_get (cs:=cs) (i:=i) (j:=j+1) (by simpa using h),show j+1+i=j+(i+1) by omega]
theorem roQ_all {cs:List CV} {rs:List RV} {ys:List Rat} {j:Nat} {q:Rat} (hl:ys.length=rs.length) (h:(redC rs ys 0 cs)[j]?=some q):roQ cs rs ys rs.length j=q:=by
 have hj:j<cs.length:=by rw [←redC_len rs ys cs 0];exact (List.getElem?_eq_some_iff.1 h).1
 obtain ⟨v,hv⟩:∃v,cs[j]?=some v:=⟨_,List.getElem?_eq_getElem hj⟩;rw [redC_get hv,Nat.zero_add] at h;rw [←Option.some.inj h,roQ,List.take_of_length_le (Nat.le_refl _),List.take_of_length_le (by omega),psum_ap,psum_one,cstQ,hv];rfl
theorem Rk.qn {w B n o u s x k f y m g q} (h:Rk w B n) (ho:o<n*3) (hx:Qn w s x k f y m g q):Qn (w.setCell ⟨B,o,none⟩ u) s x k f y m g q :=
 ⟨⟨⟨h.rd ho hx.num.dn.rd,hx.num.dn.dg,hx.num.dn.fm,hx.num.dn.val⟩,hx.num.sgn,hx.num.pos⟩,⟨h.rd ho hx.den.rd,hx.den.dg,hx.den.fm,hx.den.val⟩⟩
def Qr (K:Nat) (w:World) (B n:Nat) (Q:Nat→Rat):Prop:=∀j,j<n→∃t:Nm,C3 w B (j*3) (.bool t.s) (.slice t.x t.n t.c) (.slice t.y t.m t.d)∧QnT K w t (Q j)
theorem Qr.below {K w w' B n Q} (h:Qr K w B n Q) (hb:Below w.heap.size w w'):Qr K w' B n Q:=fun j hj=>by
 obtain ⟨t,h1,h2⟩:=h j hj;exact ⟨t,h1.below hb,h2.below hb⟩
theorem qr_st {K w B n j Q Q' s x k c f y m d g} (h:Rk w B n) (hq:Qr K w B n Q) (hj:j<n) (hr:QnT K w ⟨s,x,k,c,f,y,m,d,g⟩ (Q' j)) (hs:∀j',j'≠j→Q' j'=Q j') :
  Rk (((w.setCell ⟨B,j*3,none⟩ (.bool s)).setCell ⟨B,j*3+1,none⟩ (.slice x k c)).setCell ⟨B,j*3+2,none⟩ (.slice y m d)) B n∧Qr K (((w.setCell ⟨B,j*3,none⟩ (.bool s)).setCell ⟨B,j*3+1,none⟩ (.slice x k c)).setCell ⟨B,j*3+2,none⟩ (.slice y m d)) B n Q':=by
 have k1:=h.set (o:=j*3) (u:=.bool s) (fun i h=>by cases h);have k2:=k1.set (o:=j*3+1) (u:=.slice x k c) (fun i h=>by cases h);have k3:=k2.set (o:=j*3+2) (u:=.slice y m d) (fun i h=>by cases h);refine ⟨k3,fun j' hj'=>?_⟩;obtain ⟨_,a0,_⟩:=h.has (j*3) (by omega);obtain ⟨_,a1,_⟩:=k1.has (j*3+1) (by omega);obtain ⟨_,a2,_⟩:=k2.has (j*3+2) (by omega);by_cases e:j'=j
 ·subst e;exact ⟨⟨s,x,k,c,f,y,m,d,g⟩,⟨kCo (by omega) (kCo (by omega) (kCe (kI0 a0))),kCo (by omega) (kCe (kI0 a1)),kCe (kI0 a2)⟩,hr.1,hr.2.1,k2.qn (by omega) (k1.qn (by omega) (h.qn (by omega) hr.2.2))⟩
 ·obtain ⟨t,⟨c0,c1,c2⟩,ht⟩:=hq j' hj';rw [hs j' e];exact ⟨t,⟨kCo (by omega) (kCo (by omega) (kCo (by omega) c0)),kCo (by omega) (kCo (by omega) (kCo (by omega) c1)),kCo (by omega) (kCo (by omega) (kCo (by omega) c2))⟩,ht.1,ht.2.1,k2.qn (by omega) (k1.qn (by omega) (h.qn (by omega) ht.2.2))⟩
def Zl (w:World) (base K:Nat) (ao:Option Addr) (n:Nat) (Q:Nat→Rat):Prop:=0<n→∃B,ao=some ⟨B,0,none⟩∧base≤B∧Rk w B n∧Qr K w B n Q
theorem Zl.below {w w' base K ao n Q} (h:Zl w base K ao n Q) (hb:Below w.heap.size w w'):Zl w' base K ao n Q:=fun hn=>by
 obtain ⟨B,h1,h2,h3,h4⟩:=h hn;exact ⟨B,h1,h2,h3.below hb,h4.below hb⟩
theorem zl_of {e:TypeId} {base K n cap:Nat} {w:World} {ao:Option Addr} {T:Nat→Nm} {Q:Nat→Rat} (h:RowG e 3 base w (.slice ao n cap) n (rcells (rls n T))) (hq:∀j,j<n→QnT K w (T j) (Q j)):Zl w base K ao n Q:=fun hn=>by
 have hc:=fun j (hj:j<n)=>rowg_c3 h hj
 obtain ⟨h1,h2⟩:=h;rcases h2 with ⟨_,h0⟩ | ⟨g,cap',cur,hv,hb,hg,hle,hm,hs,ht,hnu⟩
 ·omega
 ·cases hv
  refine ⟨g,rfl,hb,⟨(Array.getElem?_eq_some_iff.1 hg).1,fun o ho=>?_,fun o=>by simp [World.frozen?,hg]⟩,fun j hj=>?_⟩
  ·have hlt:o<cur.size:=by omega
   exact ⟨cur[o],by simp [World.cell?,hg,hlt],fun i hi=>hnu o i (by rw [Array.getElem?_eq_getElem hlt,hi])⟩
  ·obtain ⟨b,hb2,hc3⟩:=hc j hj;cases hb2
   rw [Nat.zero_add] at hc3;exact ⟨T j,hc3,hq j hj⟩
theorem Zl.rqs {w base K ao n Q} {p:List Rat} (h:Zl w base K ao n Q) (hl:p.length=n) (hp:∀j q,p[j]?=some q→Q j=q):Rqs K w ao p:=fun j q hj=>by
 have hlt:j<n:=by rw [←hl];exact (List.getElem?_eq_some_iff.1 hj).1
 obtain ⟨B,h1,_,_,h4⟩:=h (by omega);obtain ⟨t,h5,h6⟩:=h4 j hlt;rw [hp j q hj] at h6;exact ⟨B,0,t,h1,by rw [Nat.zero_add];exact h5,h6⟩
set_option maxRecDepth 100000 in
set_option maxHeartbeats 8000000 in
theorem rRed_c {w:World} {L:Nat} {M:Mo} {off:Rat} {cs:List CV} {rs:List RV} {ay:Option Addr} {k cap:Nat} {ys:List Rat} (h:MqV (2*L) w M off cs rs) (hy:Rqs (2*L) w ay ys) (hk:ys.length=k) (hkr:k=rs.length) (hm:MvP cs rs) (hts:∀v ∈ rs,tsB cs.length (-1) v.ts=true) (hL:L≤60) :
  Calls Tryz.prog 38 #[M.val,.slice ay k cap] w fun e w'=>FrsAns (2*KZ L) w w' e cs.length (redC rs ys 0 cs):=by
 have hcl:=hm.cl;have hrl:=hm.rl;subst hkr;have HLQ:Hid (∀i y ts j,i<rs.length→tsB cs.length (-1) ts=true→Lo L y→(∀t ∈ ts,Lo L t.2)→Lo (KZ L) (rdQ cs rs ys i y ts j)):=by
  intro i y ts j hi ht hy1 ht1;refine rdQ_lo hi hrl hts ht (fun v hv=>?_) (fun q hq=>?_) hy1 (fun v hv t htt=>?_) ht1
  ·obtain ⟨j,hj,e⟩:=List.getElem_of_mem hv;have h1:=(h.cls j v (by rw [List.getElem?_eq_getElem hj,e])).2.cost;exact h1.2.2.lo h1.1 h1.2.1
  ·obtain ⟨j,hj,e⟩:=List.getElem_of_mem hq;obtain ⟨_,_,t,_,_,h1⟩:=hy j q (by rw [List.getElem?_eq_getElem hj,e]);exact h1.2.2.lo h1.1 h1.2.1
  ·obtain ⟨j,hj,e⟩:=List.getElem_of_mem hv;obtain ⟨p,hp,e2⟩:=List.getElem_of_mem htt;obtain ⟨_,_,t3,_,_,h1⟩:=(h.rls j v (by rw [List.getElem?_eq_getElem hj,e])).2.tl p t.1 t.2 (by rw [List.getElem?_eq_getElem hp,e2]);exact h1.2.2.lo h1.1 h1.2.1
 obtain ⟨⟨s,x,n,c,f,y,m,d,g⟩,ca,ck,cc,C,ra,rk,rc,R⟩:=M;have hck:ck=cs.length:=h.ck;have hrk:rk=rs.length:=h.rk;subst hck;subst hrk;have HC:Hid (∀j v,cs[j]?=some v→(∃b o,ca=some ⟨b,o,none⟩∧Cs w b (o+j*12) (C j).vs)∧QcV (2*L) w (C j) v):=h.cls;have HR:Hid (∀j v,rs[j]?=some v→(∃b o,ra=some ⟨b,o,none⟩∧Cs w b (o+j*10) (R j).vs)∧QrV (2*L) w (R j) v):=h.rls;have HX:=hid hy;have HTS:=hid hts;clear h hy hts hm;have HB0:=hid (below_alloc (Below.refl w.heap.size w) (.cells #[.bool s,.slice x n c,.slice y m d,.slice ca cs.length cc,.slice ra rs.length rc] 93));have BM:Hid (Bk (w.alloc (.cells #[.bool s,.slice x n c,.slice y m d,.slice ca cs.length cc,.slice ra rs.length rc] 93)) w.heap.size [.bool s,.slice x n c,.slice y m d,.slice ca cs.length cc,.slice ra rs.length rc] 93):=bk_new w [.bool s,.slice x n c,.slice y m d,.slice ca cs.length cc,.slice ra rs.length rc] 93;show Calls Tryz.prog 38 #[.agg #[.bool s,.slice x n c,.slice y m d,.slice ca cs.length cc,.slice ra rs.length rc],.slice ay rs.length cap] w _;have r3:=BM.out.cell (j:=3) rfl;go_enter Tryz.func38,Tryz.ntmps38;go_wp2_with fail
 clear r3;generalize (w.alloc (.cells #[.bool s,.slice x n c,.slice y m d,.slice ca cs.length cc,.slice ra rs.length rc] 93))=w0 at *;go_loopw [5,15] (fun ov t wr=>∃(i:Nat) (T':Nat→Nm),i≤cs.length∧t=.int .i64 i∧Hid (Below w0.heap.size w0 wr)∧Hid (RowG 89 3 w0.heap.size wr ov i (rcells (rls i T')))∧Hid (∀j,j<i→QnT (2*KZ L) wr (T' j) (cstQ cs j))) (fun _ t _=>cs.length-(intOf t).toNat)
 case atStart=>exact ⟨0,fun j=>(C j).cost,by omega,rfl,Below.refl _ _,rowG_nil _ _ _ _,fun j hj=>by omega⟩
 case round =>
  obtain ⟨i,T',hi,rfl,HB,HRow,HT⟩:=hrel;by_cases hlt:i<cs.length
  ·obtain ⟨v,hv⟩:∃v,cs[i]?=some v:=⟨_,List.getElem?_eq_getElem hlt⟩;have hbw:=HB0.out.trans (HB.out.mono HB0.out.size);obtain ⟨⟨b,o,hca,hc0⟩,hn⟩:=HC.out i v hv;subst hca;have hc:=hc0.below hbw;have hq:=qnt_up (K':=2*KZ L) (hn.cost.below hbw) (by unfold KZ;omega);have hcst:cstQ cs i=v.cost:=by unfold cstQ;rw [hv];rfl
   rw [←hcst] at hq;obtain ⟨⟨z,⟨s0,x0,n0,c0,f0,y0,m0,d0,g0⟩,⟨i1,⟨s1,x1,n1,c1,f1,y1,m1,d1,g1⟩⟩,⟨i2,⟨s2,x2,n2,c2,f2,y2,m2,d2,g2⟩⟩⟩,hCi⟩:∃t,C i=t:=⟨_,rfl⟩;rw [hCi] at hc hq;replace hq:QnT (2*KZ L) wr ⟨s0,x0,n0,c0,f0,y0,m0,d0,g0⟩ (cstQ cs i):=hq;have q0:wr.cell? ⟨b,o+i*12,none⟩=some (.string z):=hc 0 _ rfl;have q1:wr.cell? ⟨b,o+i*12+1,none⟩=some (.bool s0):=hc 1 _ rfl;have q2:wr.cell? ⟨b,o+i*12+2,none⟩=some (.slice x0 n0 c0):=hc 2 _ rfl;have q3:wr.cell? ⟨b,o+i*12+3,none⟩=some (.slice y0 m0 d0):=hc 3 _ rfl;have q4:wr.cell? ⟨b,o+i*12+4,none⟩=some (.int .i64 i1):=hc 4 _ rfl;have q5:wr.cell? ⟨b,o+i*12+5,none⟩=some (.bool s1):=hc 5 _ rfl;have q6:wr.cell? ⟨b,o+i*12+6,none⟩=some (.slice x1 n1 c1):=hc 6 _ rfl;have q7:wr.cell? ⟨b,o+i*12+7,none⟩=some (.slice y1 m1 d1):=hc 7 _ rfl;have q8:wr.cell? ⟨b,o+i*12+8,none⟩=some (.int .i64 i2):=hc 8 _ rfl;have q9:wr.cell? ⟨b,o+i*12+9,none⟩=some (.bool s2):=hc 9 _ rfl;have q10:wr.cell? ⟨b,o+i*12+10,none⟩=some (.slice x2 n2 c2):=hc 10 _ rfl;have q11:wr.cell? ⟨b,o+i*12+11,none⟩=some (.slice y2 m2 d2):=hc 11 _ rfl;have hbt:=below_alloc (Below.refl wr.heap.size wr) (.cells #[.string z,.bool s0,.slice x0 n0 c0,.slice y0 m0 d0,.int .i64 i1,.bool s1,.slice x1 n1 c1,.slice y1 m1 d1,.int .i64 i2,.bool s2,.slice x2 n2 c2,.slice y2 m2 d2] 128);have BC:Bk (wr.alloc (.cells #[.string z,.bool s0,.slice x0 n0 c0,.slice y0 m0 d0,.int .i64 i1,.bool s1,.slice x1 n1 c1,.slice y1 m1 d1,.int .i64 i2,.bool s2,.slice x2 n2 c2,.slice y2 m2 d2] 128)) wr.heap.size [.string z,.bool s0,.slice x0 n0 c0,.slice y0 m0 d0,.int .i64 i1,.bool s1,.slice x1 n1 c1,.slice y1 m1 d1,.int .i64 i2,.bool s2,.slice x2 n2 c2,.slice y2 m2 d2] 128:=bk_new wr [.string z,.bool s0,.slice x0 n0 c0,.slice y0 m0 d0,.int .i64 i1,.bool s1,.slice x1 n1 c1,.slice y1 m1 d1,.int .i64 i2,.bool s2,.slice x2 n2 c2,.slice y2 m2 d2] 128;have i1':((i:Nat):Int)<((cs.length:Nat):Int):=by omega
   clear hCi hc hc0 hn hv hcst hbw;go_upto_region 5 with fail
   clear q0 q1 q2 q3 q4 q5 q6 q7 q8 q9 q10 q11;have a1:=BC.cell (j:=1) rfl;have a2:=BC.cell (j:=2) rfl;have a3:=BC.cell (j:=3) rfl;have HN:=hid (hq.below hbt);have HRow5:=hid (HRow.out.below hbt);have HB5:=hid (HB.out.trans (hbt.mono HB.out.size))
   have HT5:Hid (∀j,j<i→QnT (2*KZ L) (wr.alloc (.cells #[.string z,.bool s0,.slice x0 n0 c0,.slice y0 m0 d0,.int .i64 i1,.bool s1,.slice x1 n1 c1,.slice y1 m1 d1,.int .i64 i2,.bool s2,.slice x2 n2 c2,.slice y2 m2 d2] 128)) (T' j) (cstQ cs j)):=fun j hj=>(HT.out j hj).below hbt
   clear hbt BC hq HB HRow HT;generalize hbx:wr.heap.size=bx at *;generalize wr.alloc (.cells #[.string z,.bool s0,.slice x0 n0 c0,.slice y0 m0 d0,.int .i64 i1,.bool s1,.slice x1 n1 c1,.slice y1 m1 d1,.int .i64 i2,.bool s2,.slice x2 n2 c2,.slice y2 m2 d2] 128)=w5 at *;clear hbx;have hsz:=HB5.out.size;go_wp2_with (at_builtin;go_must (refine wpList_append_one w5 rfl (.tmp 19) (.tmp 22) 84 rfl w0.heap.size 89 56 3 (.agg #[.bool false,.slice none 0 0,.slice none 0 0]) Tryz.underlying84 Tryz.infoQ rfl (by decide) nz3 u5 i (rcells (rls i T')) rfl HRow5.out #[.bool s0,.slice x0 n0 c0,.slice y0 m0 d0] rfl rfl (one3 _ _ _ _ _ _ _) (not3 _ _ _ _ _ _ _) ?p1 (by decide) hsz ?_))
   case p1=>omega
   intro g8 cap8 w8 hr8 hk8 hb8 hg8;have HB8:=hid (hb8 w0 HB5.out (Nat.le_refl _));have HR8:Hid (RowG 89 3 w0.heap.size w8 (.slice (some ⟨g8,0,none⟩) (i+1) cap8) (i+1) (rcells (rls (i+1) (putN T' i ⟨s0,x0,n0,c0,f0,y0,m0,d0,g0⟩)))):=by
    show RowG _ _ _ _ _ _ _;rw [rls_put];exact hr8
   have HT8:Hid (∀j,j<i+1→QnT (2*KZ L) w8 (putN T' i ⟨s0,x0,n0,c0,f0,y0,m0,d0,g0⟩ j) (cstQ cs j)):=fun j hj=>by
    by_cases e:j=i
    ·subst e;rw [putN_at];exact HN.out.kp hk8
    ·rw [putN_ne e];exact (HT5.out j (by omega)).kp hk8
   clear hr8 hk8 hb8 hg8 HRow5 HT5 HB5 HN hsz a1 a2 a3;go_wp2;go_roundw
   case rel=>exact ⟨i+1,_,by omega,by go_num,HB8.out,HR8.out,HT8.out⟩
   case measure=>simp [intOf];omega
  ·have e1:i=cs.length:=by omega
   have i4':¬(((i:Nat):Int)<((cs.length:Nat):Int)):=by omega
   rw [e1] at HRow HT;obtain ⟨aw,cw,rfl⟩:=HRow.out.slice;have hcw:cs.length≤cw∧cw≤9223372036854775807:=by
    rcases HRow.out.2 with ⟨hv,h0⟩ | ⟨_,_,_,hv,_,_,h5,h6,_⟩
    ·simp only [Value.slice.injEq] at hv;obtain ⟨_,_,h9⟩:=hv;omega
    ·simp only [Value.slice.injEq] at hv;obtain ⟨_,_,h9⟩:=hv;unfold maxLen at h6;omega
   have HZ:Hid (Zl wr w0.heap.size (2*KZ L) aw cs.length (roQ cs rs ys 0)):=zl_of HRow.out (fun j hj=>by rw [roQ_zero];exact HT.out j hj);have r4:=(BM.out.below HB.out).cell (j:=4) rfl;have HW:=hid HB.out;have HCW:=hid hcw;clear e1 HT HB HRow HC hcw;go_wp2_with fail
   clear r4 i4' hi hlt;generalize wr=w1 at *;go_loopw [28] (fun t wr=>∃(i:Nat),i≤rs.length∧t=.int .i64 i∧Hid (Below w0.heap.size w0 wr)∧Hid (Zl wr w0.heap.size (2*KZ L) aw cs.length (roQ cs rs ys i))) (fun t _=>rs.length-(intOf t).toNat)
   case atStart=>exact ⟨0,by omega,rfl,HW.out,HZ.out⟩
   case round =>
    clear HW HZ;obtain ⟨i,hi,rfl,HB,HZ⟩:=hrel;by_cases hlt:i<rs.length
    ·obtain ⟨v,hv⟩:∃v,rs[i]?=some v:=⟨_,List.getElem?_eq_getElem hlt⟩;obtain ⟨yq,hyq⟩:∃t,ys[i]?=some t:=⟨_,List.getElem?_eq_getElem (by omega)⟩;have hbw:=HB0.out.trans (HB.out.mono HB0.out.size);obtain ⟨⟨b,o,hra,hc0⟩,hn⟩:=HR.out i v hv;subst hra;have hc:=hc0.below hbw;have hvm:=List.mem_of_getElem? hv;obtain ⟨b',o',⟨s3,x3,n3,c3,f3,y3,m3,d3,g3⟩,hay,hcy,hqy⟩:=HX.out i yq hyq;subst hay;have HCY:Hid (C3 w b' (o'+i*3) (.bool s3) (.slice x3 n3 c3) (.slice y3 m3 d3)):=hcy;have HQY:Hid (n3≤2*L∧m3≤2*L∧Qn w s3 x3 n3 f3 y3 m3 g3 yq):=hqy;have HY1:Hid (Lo L yq):=hqy.2.2.lo hqy.1 hqy.2.1;have htl:=hn.tl;have htk:=hn.tk;have HS:=hid (HTS.out v hvm);have hvl:v.ts.length≤64:=by have:=tsB_len HS.out (by omega);omega
     have HRW:=hid (rdQ_row (cs:=cs) hv hyq);obtain ⟨⟨z,⟨i1,⟨s1,x1,n1,c1,f1,y1,m1,d1,g1⟩⟩,⟨i2,⟨s2,x2,n2,c2,f2,y2,m2,d2,g2⟩⟩,ta,tk,tc,tcol,tt⟩,hCi⟩:∃t,R i=t:=⟨_,rfl⟩;rw [hCi] at hc htl htk;replace htk:tk=v.ts.length:=htk;subst htk;have HTQ:Hid (Tq (2*L) w ta v.ts):=htl;have q0:wr.cell? ⟨b,o+i*10,none⟩=some (.string z):=hc 0 _ rfl;have q1:wr.cell? ⟨b,o+i*10+1,none⟩=some (.int .i64 i1):=hc 1 _ rfl;have q2:wr.cell? ⟨b,o+i*10+2,none⟩=some (.bool s1):=hc 2 _ rfl;have q3:wr.cell? ⟨b,o+i*10+3,none⟩=some (.slice x1 n1 c1):=hc 3 _ rfl;have q4:wr.cell? ⟨b,o+i*10+4,none⟩=some (.slice y1 m1 d1):=hc 4 _ rfl;have q5:wr.cell? ⟨b,o+i*10+5,none⟩=some (.int .i64 i2):=hc 5 _ rfl;have q6:wr.cell? ⟨b,o+i*10+6,none⟩=some (.bool s2):=hc 6 _ rfl;have q7:wr.cell? ⟨b,o+i*10+7,none⟩=some (.slice x2 n2 c2):=hc 7 _ rfl;have q8:wr.cell? ⟨b,o+i*10+8,none⟩=some (.slice y2 m2 d2):=hc 8 _ rfl;have q9:wr.cell? ⟨b,o+i*10+9,none⟩=some (.slice ta v.ts.length tc):=hc 9 _ rfl;have hbt:=below_alloc (Below.refl wr.heap.size wr) (.cells #[.string z,.int .i64 i1,.bool s1,.slice x1 n1 c1,.slice y1 m1 d1,.int .i64 i2,.bool s2,.slice x2 n2 c2,.slice y2 m2 d2,.slice ta v.ts.length tc] 131);have BC:Bk (wr.alloc (.cells #[.string z,.int .i64 i1,.bool s1,.slice x1 n1 c1,.slice y1 m1 d1,.int .i64 i2,.bool s2,.slice x2 n2 c2,.slice y2 m2 d2,.slice ta v.ts.length tc] 131)) wr.heap.size [.string z,.int .i64 i1,.bool s1,.slice x1 n1 c1,.slice y1 m1 d1,.int .i64 i2,.bool s2,.slice x2 n2 c2,.slice y2 m2 d2,.slice ta v.ts.length tc] 131:=bk_new wr [.string z,.int .i64 i1,.bool s1,.slice x1 n1 c1,.slice y1 m1 d1,.int .i64 i2,.bool s2,.slice x2 n2 c2,.slice y2 m2 d2,.slice ta v.ts.length tc] 131;have i1':((i:Nat):Int)<((rs.length:Nat):Int):=by omega
     clear hCi hc hc0 hn hv hvm hbw hyq hcy hqy htl;go_upto_region 10 with fail
     clear q0 q1 q2 q3 q4 q5 q6 q7 q8 q9;have a9:=BC.cell (j:=9) rfl;replace HB:=hid (HB.out.trans (hbt.mono HB.out.size));replace HZ:=hid (HZ.out.below hbt)
     clear hbt BC;generalize hbx:wr.heap.size=bx at *;generalize wr.alloc (.cells #[.string z,.int .i64 i1,.bool s1,.slice x1 n1 c1,.slice y1 m1 d1,.int .i64 i2,.bool s2,.slice x2 n2 c2,.slice y2 m2 d2,.slice ta v.ts.length tc] 131)=w5 at *;clear hbx;go_wp2_with fail
     clear a9;go_loopw [36] (fun t wr=>∃(p:Nat),p≤v.ts.length∧t=.int .i64 p∧Hid (Below w0.heap.size w0 wr)∧Hid (Zl wr w0.heap.size (2*KZ L) aw cs.length (rdQ cs rs ys i yq (v.ts.take p)))) (fun t _=>v.ts.length-(intOf t).toNat)
     case atStart=>exact ⟨0,by omega,rfl,HB.out,by show Zl _ _ _ _ _ _;rw [rdQ_nil];exact HZ.out⟩
     case round =>
      clear HB HZ;obtain ⟨p,hp,rfl,HB,HZ⟩:=hrel;by_cases hlp:p<v.ts.length
      ·obtain ⟨⟨z2,q⟩,haq⟩:∃t,v.ts[p]?=some t:=⟨_,List.getElem?_eq_getElem hlp⟩;obtain ⟨hz0,hz1,_⟩:=tsB_mem HS.out _ (List.mem_of_getElem? haq);replace hz0:(-1:Int)<z2:=hz0;replace hz1:z2<(cs.length:Int):=hz1;obtain ⟨zn,rfl⟩:=Int.eq_ofNat_of_zero_le (show 0≤z2 by omega);have hbw:=HB0.out.trans (HB.out.mono HB0.out.size);obtain ⟨b2,o2,⟨ts,tx,tn,tc2,tf,ty,tm,td,tg⟩,hta,hc,hr⟩:=HTQ.out p (zn:Int) q haq;subst hta;obtain ⟨k0,k1,k2,k3⟩:=hc.below hbw;replace k0:wr.cell? ⟨b2,o2+p*4,none⟩=some (.int .i64 zn):=k0;replace k1:wr.cell? ⟨b2,o2+p*4+1,none⟩=some (.bool ts):=k1;replace k2:wr.cell? ⟨b2,o2+p*4+2,none⟩=some (.slice tx tn tc2):=k2;replace k3:wr.cell? ⟨b2,o2+p*4+3,none⟩=some (.slice ty tm td):=k3;have hr2:tn≤2*L∧tm≤2*L∧Qn wr ts tx tn tf ty tm tg q:=hr.below hbw;obtain ⟨BZ,hao,hge,hk,hqr⟩:=HZ.out (by omega);subst hao;obtain ⟨⟨ls,lx,ln,lc,lf,ly,lm,ld,lg⟩,⟨p0,p1,p2⟩,hr0⟩:=hqr zn (by omega);replace p0:wr.cell? ⟨BZ,zn*3,none⟩=some (.bool ls):=p0;replace p1:wr.cell? ⟨BZ,zn*3+1,none⟩=some (.slice lx ln lc):=p1;replace p2:wr.cell? ⟨BZ,zn*3+2,none⟩=some (.slice ly lm ld):=p2;replace hr0:ln≤2*KZ L∧lm≤2*KZ L∧Qn wr ls lx ln lf ly lm lg (rdQ cs rs ys i yq (v.ts.take p) zn):=hr0;obtain ⟨v0,v1,v2⟩:=HCY.out.below hbw;replace v0:wr.cell? ⟨b',o'+i*3,none⟩=some (.bool s3):=v0;replace v1:wr.cell? ⟨b',o'+i*3+1,none⟩=some (.slice x3 n3 c3):=v1;replace v2:wr.cell? ⟨b',o'+i*3+2,none⟩=some (.slice y3 m3 d3):=v2;have hr1:=HQY.out.2.2.below hbw;obtain ⟨ly1,ly2,_⟩:=HQY.out;have hbt:=below_alloc (Below.refl wr.heap.size wr) (.cells #[.int .i64 zn,.bool ts,.slice tx tn tc2,.slice ty tm td] 133);have a0:(wr.alloc (.cells #[.int .i64 zn,.bool ts,.slice tx tn tc2,.slice ty tm td] 133)).cell? ⟨wr.heap.size,0,none⟩=some (.int .i64 zn):=by simp [go_sem]
       have a1:(wr.alloc (.cells #[.int .i64 zn,.bool ts,.slice tx tn tc2,.slice ty tm td] 133)).cell? ⟨wr.heap.size,1,none⟩=some (.bool ts):=by simp [go_sem]
       have a2:(wr.alloc (.cells #[.int .i64 zn,.bool ts,.slice tx tn tc2,.slice ty tm td] 133)).cell? ⟨wr.heap.size,2,none⟩=some (.slice tx tn tc2):=by simp [go_sem]
       have a3:(wr.alloc (.cells #[.int .i64 zn,.bool ts,.slice tx tn tc2,.slice ty tm td] 133)).cell? ⟨wr.heap.size,3,none⟩=some (.slice ty tm td):=by simp [go_sem]
       have i2':((p:Nat):Int)<((v.ts.length:Nat):Int):=by omega
       have i3':((zn:Nat):Int)<((cs.length:Nat):Int):=by omega
       have i5':((i:Nat):Int)<((rs.length:Nat):Int):=by omega
       have hzn:zn<cs.length:=by omega
       have HST:=hid (fun j=>rdQ_term (cs:=cs) (rs:=rs) (ys:=ys) (i:=i) (y:=yq) haq j);have HL2:Hid (∀j,Lo (KZ L) (rdQ cs rs ys i yq (v.ts.take (p+1)) j)):=fun j=>HLQ.out i yq _ j hlt (tsB_takeD _ HS.out) HY1.out (fun t ht=>by
        obtain ⟨j2,hj2,e2⟩:=List.getElem_of_mem (List.mem_of_mem_take ht);obtain ⟨_,_,_,_,_,h1⟩:=HTQ.out j2 t.1 t.2 (by rw [List.getElem?_eq_getElem hj2,e2]);exact h1.2.2.lo h1.1 h1.2.1)
       clear haq hr hbw hc;go_upto_region 13 with fail
       clear k0 k1 k2 k3;replace p0:=kCb hbt p0;replace p1:=kCb hbt p1;replace p2:=kCb hbt p2;replace v0:=kCb hbt v0;replace v1:=kCb hbt v1;replace v2:=kCb hbt v2;have R0:=hid (hr0.2.2.below hbt);have R1:=hid (hr1.below hbt);have R2:=hid (hr2.2.2.below hbt)
       obtain ⟨lz1,lz2,_⟩:=hr0;obtain ⟨la1,la2,_⟩:=hr2;replace HB:=hid (HB.out.trans (hbt.mono HB.out.size));have HK:=hid (hk.below hbt);have HQR:=hid (hqr.below hbt)
       clear hr1 hbt hk hqr HZ;generalize hbx:wr.heap.size=bx at *;generalize wr.alloc (.cells #[.int .i64 zn,.bool ts,.slice tx tn tc2,.slice ty tm td] 133)=w5 at *;clear hbx;have CM:Hid (∀W,Below w5.heap.size w5 W→Calls Tryz.prog 73 #[.agg #[.bool s3,.slice x3 n3 c3,.slice y3 m3 d3],.agg #[.bool ts,.slice tx tn tc2,.slice ty tm td]] W fun e w'=>∃s x n c d y m e' g,e=.returned (.agg #[.bool s,.slice x n c,.slice y m e'])∧Below W.heap.size W w'∧Hid ((n≤2*(L+L+1)∧m≤2*(L+L+1))∧Qn w' s x n d y m g (yq*q))):=fun W hW =>
        (qMul_c (R1.out.below hW) (R2.out.below hW) (by omega) (by omega) (by omega) (by omega)).mono (fun _ _ ⟨s,x,n,c,d,y,m,c',g,h1,h2,h3,h4,h5⟩=>⟨s,x,n,c,d,y,m,c',g,h1,h2,h5.len (lo_mul (R1.out.lo ly1 ly2) (R2.out.lo la1 la2)),h5⟩)
       have CA:Hid (∀(W:World) (s1:Bool) (x1:Option Addr) (n1 c1:Nat) (d1:Nat→Int) (y1:Option Addr) (m1 e1:Nat) (g1:Nat→Int),Below w5.heap.size w5 W→(n1≤2*(L+L+1)∧m1≤2*(L+L+1))∧Qn W s1 x1 n1 d1 y1 m1 g1 (yq*q)→Calls Tryz.prog 72 #[.agg #[.bool ls,.slice lx ln lc,.slice ly lm ld],.agg #[.bool s1,.slice x1 n1 c1,.slice y1 m1 e1]] W fun e w'=>∃s x n c d y m e' g,e=.returned (.agg #[.bool s,.slice x n c,.slice y m e'])∧Below W.heap.size W w'∧Hid (QnT (2*KZ L) w' ⟨s,x,n,c,d,y,m,e',g⟩ (rdQ cs rs ys i yq (v.ts.take (p+1)) zn))):=fun W s1 x1 n1 c1 d1 y1 m1 e1 g1 hW hh=>by
        have hkz:2*KZ L≤120000:=by unfold KZ;omega
        refine (qSub_c (R0.out.below hW) hh.2 (by omega) (by omega) (by omega) (by omega)).mono (fun _ _ ⟨s,x,n,c,d,y,m,c',g,h1,h2,h3,h4,h5⟩=>⟨s,x,n,c,d,y,m,c',g,h1,h2,?_⟩);have e2:=HST.out zn;rw [if_pos rfl] at e2;have h6:=HL2.out zn;rw [←e2] at h5;exact ⟨(h5.len h6).1,(h5.len h6).2,h5⟩
       refine wp_region_phase (S:=(fun w'=>w'.cell? ⟨bx,0,none⟩=some (.int .i64 zn)∧w'.cell? ⟨bx,1,none⟩=some (.bool ts)∧w'.cell? ⟨bx,2,none⟩=some (.slice tx tn tc2)∧w'.cell? ⟨bx,3,none⟩=some (.slice ty tm td)∧w'.cell? ⟨BZ,zn*3,none⟩=some (.bool ls)∧w'.cell? ⟨BZ,zn*3+1,none⟩=some (.slice lx ln lc)∧w'.cell? ⟨BZ,zn*3+2,none⟩=some (.slice ly lm ld)∧w'.cell? ⟨b',o'+i*3,none⟩=some (.bool s3)∧w'.cell? ⟨b',o'+i*3+1,none⟩=some (.slice x3 n3 c3)∧w'.cell? ⟨b',o'+i*3+2,none⟩=some (.slice y3 m3 d3))) 17 (by kernel_rfl) ⟨kCd a0,kCd a1,kCd a2,kCd a3,kCd p0,kCd p1,kCd p2,kCd v0,kCd v1,kCd v2⟩ (fun hHeld=>?_);refine wpAnyP_skim (i:=0) (v:=?_) rfl (by kernel_rfl) (by kernel_rfl) (by kernel_rfl) (by kernel_rfl) (fun _ _ _ h=>h) (Or.inl ⟨by rfl,?_⟩) (fun _=>by assumption) ?_;rotate_left
       (focus (intro w0 hSw;go_simp <;> with_reducible rfl))
       simp only [List.getElem_toArray,List.getElem_cons_zero,Act.put,List.setIfInBounds_toArray,List.set_cons_zero,List.set_cons_succ];refine wpAnyP_skim (i:=1) (v:=?_) rfl (by kernel_rfl) (by kernel_rfl) (by kernel_rfl) (by kernel_rfl) (fun _ _ _ h=>h) (Or.inl ⟨by rfl,?_⟩) (fun _=>by assumption) ?_;rotate_left
       (focus (intro w0 hSw;go_simp <;> with_reducible rfl))
       simp only [List.getElem_toArray,List.getElem_cons_succ,List.getElem_cons_zero,Act.put,List.setIfInBounds_toArray,List.set_cons_zero,List.set_cons_succ];refine wpAnyP_takeA (i:=2) (v:=?_) rfl (by kernel_rfl) (by kernel_rfl) (by kernel_rfl) (by kernel_rfl) (by kernel_rfl) (by kernel_rfl) (fun _ _ _ h=>h) (Or.inl ⟨by rfl,?_⟩) (by assumption) ?_;rotate_left
       (focus (intro w0 hSw;(try dsimp only at hSw);go_simp <;> with_reducible rfl))
       simp only [List.getElem_toArray,List.getElem_cons_succ,List.getElem_cons_zero,Act.put,List.setIfInBounds_toArray,List.set_cons_zero,List.set_cons_succ];refine wpAnyP_skim (i:=3) (v:=?_) rfl (by kernel_rfl) (by kernel_rfl) (by kernel_rfl) (by kernel_rfl) (fun _ _ _ h=>h) (Or.inl ⟨by rfl,?_⟩) (fun _=>by assumption) ?_;rotate_left
       (focus (intro w0 hSw;go_simp <;> with_reducible rfl))
       simp only [List.getElem_toArray,List.getElem_cons_succ,List.getElem_cons_zero,Act.put,List.setIfInBounds_toArray,List.set_cons_zero,List.set_cons_succ];refine wpAnyP_skim (i:=4) (v:=?_) rfl (by kernel_rfl) (by kernel_rfl) (by kernel_rfl) (by kernel_rfl) (fun _ _ _ h=>h) (Or.inl ⟨by rfl,?_⟩) (fun _=>by assumption) ?_;rotate_left
       (focus (intro w0 hSw;go_simp <;> with_reducible rfl))
       simp only [List.getElem_toArray,List.getElem_cons_succ,List.getElem_cons_zero,Act.put,List.setIfInBounds_toArray,List.set_cons_zero,List.set_cons_succ];refine wpAnyP_takeA (i:=5) (v:=?_) rfl (by kernel_rfl) (by kernel_rfl) (by kernel_rfl) (by kernel_rfl) (by kernel_rfl) (by kernel_rfl) (fun _ _ _ h=>h) (Or.inl ⟨by rfl,?_⟩) (by assumption) ?_;rotate_left
       (focus (intro w0 hSw;(try dsimp only at hSw);go_simp <;> with_reducible rfl))
       simp only [List.getElem_toArray,List.getElem_cons_succ,List.getElem_cons_zero,Act.put,List.setIfInBounds_toArray,List.set_cons_zero,List.set_cons_succ];refine wpAnyP_skim (i:=6) (v:=?_) rfl (by kernel_rfl) (by kernel_rfl) (by kernel_rfl) (by kernel_rfl) (fun _ _ _ h=>h) (Or.inl ⟨by rfl,?_⟩) (fun _=>by assumption) ?_;rotate_left
       (focus (intro w0 hSw;go_simp <;> with_reducible rfl))
       simp only [List.getElem_toArray,List.getElem_cons_succ,List.getElem_cons_zero,Act.put,List.setIfInBounds_toArray,List.set_cons_zero,List.set_cons_succ];refine wpAnyP_takeA (i:=7) (v:=?_) rfl (by kernel_rfl) (by kernel_rfl) (by kernel_rfl) (by kernel_rfl) (by kernel_rfl) (by kernel_rfl) (fun _ _ _ h=>h) (Or.inl ⟨by rfl,?_⟩) (by assumption) ?_;rotate_left
       (focus (intro w0 hSw;(try dsimp only at hSw);go_simp <;> with_reducible rfl))
       simp only [List.getElem_toArray,List.getElem_cons_succ,List.getElem_cons_zero,Act.put,List.setIfInBounds_toArray,List.set_cons_zero,List.set_cons_succ];refine wpAnyP_skim (i:=8) (v:=?_) rfl (by kernel_rfl) (by kernel_rfl) (by kernel_rfl) (by kernel_rfl) (fun _ _ _ h=>h) (Or.inl ⟨by rfl,?_⟩) (fun _=>by assumption) ?_;rotate_left
       (focus (intro w0 hSw;go_simp <;> with_reducible rfl))
       simp only [List.getElem_toArray,List.getElem_cons_succ,List.getElem_cons_zero,Act.put,List.setIfInBounds_toArray,List.set_cons_zero,List.set_cons_succ];refine wpAnyP_skim (i:=9) (v:=?_) rfl (by kernel_rfl) (by kernel_rfl) (by kernel_rfl) (by kernel_rfl) (fun _ _ _ h=>h) (Or.inl ⟨by rfl,?_⟩) (fun _=>by assumption) ?_;rotate_left
       (focus (intro w0 hSw;go_simp <;> with_reducible rfl))
       simp only [List.getElem_toArray,List.getElem_cons_succ,List.getElem_cons_zero,Act.put,List.setIfInBounds_toArray,List.set_cons_zero,List.set_cons_succ];refine wpAnyP_skim (i:=10) (v:=?_) rfl (by kernel_rfl) (by kernel_rfl) (by kernel_rfl) (by kernel_rfl) (fun _ _ _ h=>h) (Or.inl ⟨by rfl,?_⟩) (fun _=>by assumption) ?_;rotate_left
       (focus (intro w0 hSw;go_simp <;> with_reducible rfl))
       simp only [List.getElem_toArray,List.getElem_cons_succ,List.getElem_cons_zero,Act.put,List.setIfInBounds_toArray,List.set_cons_zero,List.set_cons_succ];refine wpAnyP_takeA (i:=11) (v:=?_) rfl (by kernel_rfl) (by kernel_rfl) (by kernel_rfl) (by kernel_rfl) (by kernel_rfl) (by kernel_rfl) (fun _ _ _ h=>h) (Or.inl ⟨by rfl,?_⟩) (by assumption) ?_;rotate_left
       (focus (intro w0 hSw;(try dsimp only at hSw);go_simp <;> with_reducible rfl))
       simp only [List.getElem_toArray,List.getElem_cons_succ,List.getElem_cons_zero,Act.put,List.setIfInBounds_toArray,List.set_cons_zero,List.set_cons_succ];refine wpAnyP_skim (i:=12) (v:=?_) rfl (by kernel_rfl) (by kernel_rfl) (by kernel_rfl) (by kernel_rfl) (fun _ _ _ h=>h) (Or.inl ⟨by rfl,?_⟩) (fun _=>by assumption) ?_;rotate_left
       (focus (intro w0 hSw;go_simp <;> with_reducible rfl))
       simp only [List.getElem_toArray,List.getElem_cons_succ,List.getElem_cons_zero,Act.put,List.setIfInBounds_toArray,List.set_cons_zero,List.set_cons_succ];refine wpAnyP_takeA (i:=13) (v:=?_) rfl (by kernel_rfl) (by kernel_rfl) (by kernel_rfl) (by kernel_rfl) (by kernel_rfl) (by kernel_rfl) (fun _ _ _ h=>h) (Or.inl ⟨by rfl,?_⟩) (by assumption) ?_;rotate_left
       (focus (intro w0 hSw;(try dsimp only at hSw);go_simp <;> with_reducible rfl))
       simp only [List.getElem_toArray,List.getElem_cons_succ,List.getElem_cons_zero,Act.put,List.setIfInBounds_toArray,List.set_cons_zero,List.set_cons_succ];refine wpAnyP_ready (rs:=[14]) (by kernel_rfl) (by simp) ?_;refine AllReadyP.cons (o:=_) rfl (fun K hK=>?_) ?_;rotate_left;exact AllReadyP.nil;go_simp
       go_at_call 73
       refine (CM.out _ (Below.drew (Below.refl _ _))).mono ?_;rintro e w6 ⟨s6,x6,n6,c6,f6,y6,m6,d6,g6,rfl,hb6,hq6⟩
       (try go_wp2_with fail)
       have yy0:=kCb hb6 (hHeld.1);have yy1:=kCb hb6 (hHeld.2.1);have yy2:=kCb hb6 (hHeld.2.2.1);have yy3:=kCb hb6 (hHeld.2.2.2.1);have yy4:=kCb hb6 (hHeld.2.2.2.2.1);have yy5:=kCb hb6 (hHeld.2.2.2.2.2.1);have yy6:=kCb hb6 (hHeld.2.2.2.2.2.2.1);have yy7:=kCb hb6 (hHeld.2.2.2.2.2.2.2.1);have yy8:=kCb hb6 (hHeld.2.2.2.2.2.2.2.2.1);have yy9:=kCb hb6 (hHeld.2.2.2.2.2.2.2.2.2);refine hK.out _ _ (fun _=>⟨yy0,yy1,yy2,yy3,yy4,yy5,yy6,yy7,yy8,yy9⟩) (fun hS6=>?_);clear hK K hS6;try simp only [Act.put,List.setIfInBounds_toArray,List.set_cons_zero,List.set_cons_succ]
       have Bd6:=(Below.drew (Below.refl w5.heap.size w5)).trans (hb6.mono (Nat.le_refl _));refine wpAnyP_ready (rs:=[15]) (by kernel_rfl) (by simp) ?_;refine AllReadyP.cons (o:=_) rfl (fun K hK=>?_) ?_;rotate_left;exact AllReadyP.nil;go_simp
       go_at_call 72
       refine (CA.out w6 s6 x6 n6 c6 f6 y6 m6 d6 g6 Bd6 hq6.out).mono ?_;rintro e w7 ⟨s7,x7,n7,c7,f7,y7,m7,d7,g7,rfl,hb7,hq7⟩
       (try go_wp2_with fail)
       have uu0:=kCb hb7 yy0;have uu1:=kCb hb7 yy1;have uu2:=kCb hb7 yy2;have uu3:=kCb hb7 yy3;have uu4:=kCb hb7 yy4;have uu5:=kCb hb7 yy5;have uu6:=kCb hb7 yy6;have uu7:=kCb hb7 yy7;have uu8:=kCb hb7 yy8;have uu9:=kCb hb7 yy9;refine hK.out _ _ (fun _=>⟨uu0,uu1,uu2,uu3,uu4,uu5,uu6,uu7,uu8,uu9⟩) (fun hS7=>?_);clear hK K hS7;try simp only [Act.put,List.setIfInBounds_toArray,List.set_cons_zero,List.set_cons_succ]
       have Bd7:=Bd6.trans (hb7.mono Bd6.size);have hk7:=HK.out.below Bd7;obtain ⟨R1a,R2a⟩:=qr_st (j:=zn) (Q':=rdQ cs rs ys i yq (v.ts.take (p+1))) hk7 (HQR.out.below Bd7) hzn hq7.out (fun j' h2=>by rw [HST.out j',if_neg (fun e=>h2 e.symm)]);have HB7:=hid (below_at (o:=zn*3) (u0:=.bool s7) (u1:=.slice x7 n7 c7) (u2:=.slice y7 m7 d7) (HB.out.trans (Bd7.mono HB.out.size)) hge);have tf2:=hk7.fz;have HR1:=hid R1a;have HR2:=hid R2a
       clear R1a R2a hq7 hq6 hk7 Bd7 Bd6 hb6 hb7 HK HQR HB R0 R1 R2 CM CA HL2 HST yy0 yy1 yy2 yy3 yy4 yy5 yy6 yy7 yy8 yy9 hHeld a0 a1 a2 a3 p0 p1 p2 v0 v1 v2;refine wpAnyP_ready (rs:=[16]) (by kernel_rfl) (by simp) ?_;refine AllReadyP.cons (o:=_) rfl (fun K hK=>?_) ?_;rotate_left;exact AllReadyP.nil;go_simp;refine hK.out _ _ (fun _=>⟨uu0,uu1,uu2,uu3,uu4,uu5,uu6,uu7,uu8,uu9⟩) (fun hS9=>?_);clear hK K hS9;try simp only [Act.put,List.setIfInBounds_toArray,List.set_cons_zero,List.set_cons_succ]
       refine wpAnyP_ready (rs:=[17]) (by kernel_rfl) (by simp) ?_;refine AllReadyP.cons (o:=_) rfl (fun K hK=>?_) ?_;rotate_left;exact AllReadyP.nil;go_simp;refine hK.out _ _ (fun h=>by cases h) (fun _=>?_);clear hK K;try simp only [Act.put,List.setIfInBounds_toArray,List.set_cons_zero,List.set_cons_succ]
       refine wpAnyP_done (by kernel_rfl) ?_ _;clear uu0 uu1 uu2 uu3 uu4 uu5 uu6 uu7 uu8 uu9 tf2;go_wp2;go_roundw
       case rel=>exact ⟨p+1,by omega,by go_num,HB7.out,fun _=>⟨BZ,rfl,hge,HR1.out,HR2.out⟩⟩
       case measure=>simp [intOf];omega
      ·have e1:p=v.ts.length:=by omega
       have i4':¬(((p:Nat):Int)<((v.ts.length:Nat):Int)):=by omega
       have HZ3:Hid (Zl wr w0.heap.size (2*KZ L) aw cs.length (roQ cs rs ys (i+1))):=by
        have h1:=HZ.out;rw [e1,List.take_length,HRW.out] at h1;exact h1
       clear HZ e1 HRW;go_wp2;go_roundw
       case rel=>exact ⟨i+1,by omega,by go_num,HB.out,HZ3.out⟩
       case measure=>simp [intOf];omega
    ·have e1:i=rs.length:=by omega
     have i4':¬(((i:Nat):Int)<((rs.length:Nat):Int)):=by omega
     have HF:Hid (Rqs (2*KZ L) wr aw (redC rs ys 0 cs)):=HZ.out.rqs (redC_len rs ys cs 0) (fun j q hj=>by rw [e1];exact roQ_all hk hj);clear HZ e1;go_wp2;go_ret;exact ⟨aw,cw,rfl,HB0.out.trans (HB.out.mono HB0.out.size),HCW.out,HF⟩
end Go.Proofs.YtdbbncamlaiajaaGreat
