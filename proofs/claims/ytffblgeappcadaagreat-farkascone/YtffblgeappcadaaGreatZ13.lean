/-
 The walk of the visitor that adds up bounds with their multipliers (written by makers/fk4.py). The walks of package farkas' check and Combine, whatever they are handed (written by makers/fk5.py). The walk of package farkas' Valid, whatever it is handed (written by makers/fk6.py).
-/
import Derived.Test.YtffblgeappcadaaGreatZ12
namespace Go.Proofs.YtffblgeappcadaaGreat
open Go.RowKit
def wtQ (b:BV):Rat:=if b.up then -b.q else b.q
def coefT:List (Int × Rat)→Nat→Rat
 | [],_=>0
 | (z,a) :: r,j=>(if z=(j:Int) then a else 0)+coefT r j
def sumF (f:BV→Rat):List BV→Rat
 | []=>0
 | b :: l=>f b+sumF f l
theorem sumF_snoc (f:BV→Rat):∀(l:List BV) (b:BV),sumF f (l++[b])=sumF f l+f b
 | [],b=>by show f b+0=0+f b;grind
 | c :: l,b=>by
  simp only [List.cons_append,sumF];rw [sumF_snoc f l b];grind
theorem coefT_snoc (z:Int) (a:Rat) (j:Nat):∀(l:List (Int × Rat)),coefT (l++[(z,a)]) j=coefT l j+(if z=(j:Int) then a else 0)
 | []=>by simp only [List.nil_append,coefT];grind
 | (y,b) :: l=>by
  simp only [List.cons_append,coefT];rw [coefT_snoc z a j l];grind
def cmbQ (l:List BV) (j:Nat):Rat:=sumF (fun b=>wtQ b*coefT b.ts j) l
def cmbS (l:List BV):Rat:=sumF (fun b=>wtQ b*b.a) l
theorem tsB_take {n:Nat}:∀{ts:List (Int × Rat)} {z:Int} (i:Nat),tsB n z ts=true→tsB n z (ts.take i)=true
 | [],_,i,_=>by simp [tsB]
 | (y,q) :: r,z,0,_=>rfl
 | (y,q) :: r,z,i+1,h=>by
  simp only [tsB,Bool.and_eq_true,decide_eq_true_eq] at h;simp only [List.take_succ_cons,tsB,Bool.and_eq_true,decide_eq_true_eq];exact ⟨h.1,h.2.1,h.2.2.1,tsB_take i h.2.2.2⟩
theorem coefT_low {n:Nat} {j:Nat}:∀{ts:List (Int × Rat)} {z:Int},tsB n z ts=true→(j:Int)≤z→coefT ts j=0
 | [],_,_,_=>rfl
 | (y,q) :: r,z,h,hj=>by
  simp only [tsB,Bool.and_eq_true,decide_eq_true_eq] at h;simp only [coefT];rw [if_neg (by omega),coefT_low h.2.2.2 (by omega)]
  grind
theorem lo_coef {n L j:Nat} (hL:1≤L):∀{ts:List (Int × Rat)} {z:Int},tsB n z ts=true→(∀p ∈ ts,Lo L p.2)→Lo L (coefT ts j)
 | [],_,_,_=>lo_zero hL
 | (y,q) :: r,z,h,hp=>by
  simp only [tsB,Bool.and_eq_true,decide_eq_true_eq] at h;simp only [coefT];by_cases e:y=(j:Int)
  ·rw [if_pos e,coefT_low h.2.2.2 (by omega),show q+(0:Rat)=q by grind];exact hp _ List.mem_cons_self
  ·rw [if_neg e,show (0:Rat)+coefT r j=coefT r j by grind];exact lo_coef hL h.2.2.2 (fun p h=>hp p (List.mem_cons_of_mem _ h))
theorem lo_wt {L:Nat} {b:BV} (h:Lo L b.q):Lo L (wtQ b):=by
 unfold wtQ
 split
 ·exact lo_neg h
 ·exact h
theorem Tf.loM {L w ao v} (h:Tf L w ao v):∀p ∈ v,Lo L p.2:=fun p hp=>by
 obtain ⟨j,hj,e⟩:=List.getElem_of_mem hp;obtain ⟨b,o,t,h1,h2,h3⟩:=h j p.1 p.2 (by rw [List.getElem?_eq_getElem hj,e]);exact h3.lo h3.ln h3.ld
theorem frozen_bk {w w':World} {B o:Nat} (h:w'.heap[B]?=w.heap[B]?):w'.frozen? ⟨B,o,none⟩=w.frozen? ⟨B,o,none⟩:=by
 simp only [World.frozen?,h]
theorem Rk.fr {F:Nat→Prop} {w w' B n} (h:Rk w B n) (hf:Fr F w w') (hn:¬F B):Rk w' B n :=
 ⟨Nat.lt_of_lt_of_le h.z hf.size,fun o ho=>by obtain ⟨u,h1,h2⟩:=h.has o ho;exact ⟨u,hf.cell hn h1,h2⟩,fun o=>(frozen_bk (hf.block B h.z hn)).trans (h.fz o)⟩
theorem Rq.fr {F:Nat→Prop} {Kn w w' B i Q} (h:Rq Kn w B i Q) (hf:Fr F w w') (hn:¬F B):Rq Kn w' B i Q:=fun j hj=>by
 obtain ⟨t,h1,h2⟩:=h j hj;exact ⟨t,⟨hf.cell hn h1.x0,hf.cell hn h1.x1,hf.cell hn h1.x2⟩,hf.rn h2⟩
theorem Sx.fr {F:Nat→Prop} {w w' B s x n c y m d} (h:Sx w B s x n c y m d) (hf:Fr F w w') (hn:¬F B):Sx w' B s x n c y m d :=
 ⟨Nat.lt_of_lt_of_le h.z hf.size,hf.cell hn h.x0,hf.cell hn h.x1,hf.cell hn h.x2,fun o=>(frozen_bk (hf.block B h.z hn)).trans (h.fz o)⟩
theorem rk_fr {w B n j s x k c y m d} (h:Rk w B n) (hj:j<n):Fr (fun k=>k=B) w (((w.setCell ⟨B,j*3,none⟩ (.bool s)).setCell ⟨B,j*3+1,none⟩ (.slice x k c)).setCell ⟨B,j*3+2,none⟩ (.slice y m d)):=by
 have k1:=h.set (o:=j*3) (u:=.bool s) (fun i h=>by cases h);have k2:=k1.set (o:=j*3+1) (u:=.slice x k c) (fun i h=>by cases h);refine ⟨rfl,rfl,rfl,by simp [World.setCell],fun k _ hn=>?_,fun _ _ _ r=>k2.rd (by omega) (k1.rd (by omega) (h.rd (by omega) r))⟩;exact (Below.heap_setCell _ _ _ _ hn).trans ((Below.heap_setCell _ _ _ _ hn).trans (Below.heap_setCell _ _ _ _ hn))
theorem sx_fr {w B s x n c y m d u0 u1 u2} (S:Sx w B s x n c y m d):Fr (fun k=>k=B) w (((w.setCell ⟨B,0,none⟩ u0).setCell ⟨B,1,none⟩ u1).setCell ⟨B,2,none⟩ u2):=by
 refine ⟨rfl,rfl,rfl,by simp [World.setCell],fun k _ hn=>?_,fun _ _ _ r=>S.rd r⟩;exact (Below.heap_setCell _ _ _ _ hn).trans ((Below.heap_setCell _ _ _ _ hn).trans (Below.heap_setCell _ _ _ _ hn))
structure CmI (Kn N cn BL XL XR:Nat) (l:List BV) (W:World):Prop where
 xl:Bk W XL [.slice (some ⟨BL,0,none⟩) cn cn] 29
 rk:Rk W BL cn
 rq:Rq Kn W BL cn (cmbQ l)
 sx:∃s x k c f y m d g,Sx W XR s x k c y m d∧Rn Kn W s x k c f y m d g (cmbS l)
 lq:∀j,Lo (4+l.length*N) (cmbQ l j)
 ls:Lo (4+l.length*N) (cmbS l)
theorem CmI.below {Kn N cn BL XL XR l W W'} (h:CmI Kn N cn BL XL XR l W) (hb:Below W.heap.size W W'):CmI Kn N cn BL XL XR l W':=by
 obtain ⟨s,x,k,c,f,y,m,d,g,h1,h2⟩:=h.sx;exact ⟨h.xl.below hb,h.rk.below hb,h.rq.below hb,⟨s,x,k,c,f,y,m,d,g,h1.below hb,h2.below hb⟩,h.lq,h.ls⟩
theorem cq_zero (l:List BV) (b:BV):(fun j=>cmbQ l j+wtQ b*coefT (b.ts.take 0) j)=cmbQ l:=by
 funext j
 show cmbQ l j+wtQ b*0=cmbQ l j
 grind
theorem cq_all {l:List BV} {b:BV} {i:Nat} (h:b.ts.length≤i):(fun j=>cmbQ l j+wtQ b*coefT (b.ts.take i) j)=cmbQ (l++[b]):=by
 funext j
 rw [List.take_of_length_le h];exact (sumF_snoc (fun b=>wtQ b*coefT b.ts j) l b).symm
theorem cq_step {l:List BV} {b:BV} {i zn:Nat} {q:Rat} (h:b.ts[i]?=some ((zn:Int),q)) (j:Nat):cmbQ l j+wtQ b*coefT (b.ts.take (i+1)) j=cmbQ l j+wtQ b*coefT (b.ts.take i) j+(if zn=j then wtQ b*q else 0):=by
 rw [List.take_add_one,h,Option.toList_some,coefT_snoc];by_cases e:zn=j
 ·rw [if_pos (by omega),if_pos e];grind
 ·rw [if_neg (by omega),if_neg e];grind
set_option maxRecDepth 100000 in
set_option maxHeartbeats 8000000 in
theorem vComb_c {W:World} {Kn L cn BL XL XR:Nat} {B:Bd} {b:BV} {l:List BV} (hlen:l.length<256) (hts:tsB cn (-1) b.ts=true) (hnf:b.ts≠[]→∀b' o',B.ta=some ⟨b',o',none⟩→¬(b'=BL∨b'=XR)) (hI:CmI Kn (2*L+2) cn BL XL XR l W) (hB:BdV L W B b) (hL1:1≤L) (hL2:L≤100) (hK1:4+256*(2*L+2)≤Kn) (hK2:Kn≤200000) (hcn:cn≤64) (ap1:BL≠XL) (ap2:BL≠XR) (ap3:XL≠XR) :
  Calls Tryz.prog 33 (#[B.val]++#[.pointer (some ⟨XL,0,none⟩),.pointer (some ⟨XR,0,none⟩)]) W fun e W'=>e=.returned (.tuple #[])∧Fr (fun k=>k=BL∨k=XR) W W'∧CmI Kn (2*L+2) cn BL XL XR (l++[b]) W':=by
 obtain ⟨⟨s,x,n,c,f,y,m,d,g⟩,⟨i1,⟨s1,x1,n1,c1,f1,y1,m1,d1,g1⟩⟩,up,ta,tk,tc⟩:=B;have hq:Rn L W s x n c f y m d g b.q:=hB.q;have ha:Rn L W s1 x1 n1 c1 f1 y1 m1 d1 g1 b.a:=hB.a;have HUP:Hid (up=b.up):=hB.up;have htk:b.ts.length=tk:=hB.tk;have htf:Tf L W ta b.ts:=hB.ts;replace hnf:b.ts≠[]→∀b' o',ta=some ⟨b',o',none⟩→¬(b'=BL∨b'=XR):=hnf;have hlw:Lo L (wtQ b):=lo_wt (hq.lo hq.ln hq.ld);have hlp:(l.length+1)*(2*L+2)≤256*(2*L+2):=Nat.mul_le_mul_right _ (by omega);have htk6:tk≤64:=by have:=tsB_len hts (by omega);omega
 have hle:(l++[b]).length=l.length+1:=by simp
 have HLQ:Hid (∀i j,Lo (4+(l.length+1)*(2*L+2)) (cmbQ l j+wtQ b*coefT (b.ts.take i) j)):=fun i j=>(lo_add (hI.lq j) (lo_mul hlw (lo_coef hL1 (tsB_take i hts) (fun q hq=>htf.loM q (List.mem_of_mem_take hq))))).mono (by rw [Nat.add_mul];omega)
 have HLS:Hid (Lo (4+(l.length+1)*(2*L+2)) (cmbS l+wtQ b*b.a)):=(lo_add hI.ls (lo_mul hlw (ha.lo ha.ln ha.ld))).mono (by rw [Nat.add_mul];omega);have HTS:=hid hts;have HNF:=hid hnf;have HI:=hid hI;have HA:=hid ha;have HTF:=hid htf
 have hBLz:=hI.rk.z;have hXLz:=hI.xl.lt;obtain ⟨_,_,_,_,_,_,_,_,_,hsx0,_⟩:=hI.sx;have hXRz:=hsx0.z;clear hts hnf hI ha htf hB hlw hsx0;show Calls Tryz.prog 33 #[.agg #[.bool s,.slice x n c,.slice y m d,.int .i64 i1,.bool s1,.slice x1 n1 c1,.slice y1 m1 d1,.bool up,.slice ta tk tc],.pointer (some ⟨XL,0,none⟩),.pointer (some ⟨XR,0,none⟩)] W _;have hb:=below_alloc (Below.refl W.heap.size W) (.cells #[.bool s,.slice x n c,.slice y m d,.int .i64 i1,.bool s1,.slice x1 n1 c1,.slice y1 m1 d1,.bool up,.slice ta tk tc] 79);have BB:=hid (bk_new W [.bool s,.slice x n c,.slice y m d,.int .i64 i1,.bool s1,.slice x1 n1 c1,.slice y1 m1 d1,.bool up,.slice ta tk tc] 79);replace BB:Hid (Bk (W.alloc (.cells #[.bool s,.slice x n c,.slice y m d,.int .i64 i1,.bool s1,.slice x1 n1 c1,.slice y1 m1 d1,.bool up,.slice ta tk tc] 79)) W.heap.size [.bool s,.slice x n c,.slice y m d,.int .i64 i1,.bool s1,.slice x1 n1 c1,.slice y1 m1 d1,.bool up,.slice ta tk tc] 79):=BB;go_enter Tryz.func33,Tryz.ntmps33;go_wp2_with fail
 generalize W.alloc (.cells #[.bool s,.slice x n c,.slice y m d,.int .i64 i1,.bool s1,.slice x1 n1 c1,.slice y1 m1 d1,.bool up,.slice ta tk tc] 79)=w1 at *;refine (weight_c (hq.below hb) (by omega)).mono ?_;rintro e w2 ⟨s9,x9,n9,c9,f9,y9,m9,d9,g9,rfl,hb2,hq9⟩;replace hq9:Rn L w2 s9 x9 n9 c9 f9 y9 m9 d9 g9 (wtQ b):=by rw [HUP.out] at hq9;exact hq9
 have hb12:=hb.trans (hb2.mono hb.size);have hb3:=below_alloc (Below.refl w2.heap.size w2) (.cells #[.bool s9,.slice x9 n9 c9,.slice y9 m9 d9] 24);have hb13:=hb12.trans (hb3.mono hb12.size);have BW:=hid (bk_new w2 [.bool s9,.slice x9 n9 c9,.slice y9 m9 d9] 24);replace BW:Hid (Bk (w2.alloc (.cells #[.bool s9,.slice x9 n9 c9,.slice y9 m9 d9] 24)) w2.heap.size [.bool s9,.slice x9 n9 c9,.slice y9 m9 d9] 24):=BW;have k8:=((BB.out.below hb2).below hb3).cell (j:=8) rfl;go_wp2_with fail
 clear k8;replace BB:=hid ((BB.out.below hb2).below hb3);have HQ9:=hid (hq9.below hb3);have HB3:=hid hb13;have FB3:Hid (Fr (fun k=>k=BL∨k=XR) W (w2.alloc (.cells #[.bool s9,.slice x9 n9 c9,.slice y9 m9 d9] 24))):=Fr.of hb13;have I3:=hid (HI.out.below hb13);have HA3:=hid (HA.out.below hb13);have HT3:=hid (HTF.out.below hb13)
 have hs2:W.heap.size≤w2.heap.size:=hb12.size;clear hb hb2 hq hq9 hb12 hb3 hb13 HI HA HTF;generalize hw3:w2.alloc (.cells #[.bool s9,.slice x9 n9 c9,.slice y9 m9 d9] 24)=w3 at *;clear hw3;generalize w2.heap.size=xw at *;generalize hxb:W.heap.size=xb at *;go_loopw [12] (fun t wr=>∃(i:Nat),i≤tk∧t=.int .i64 i∧Hid (Fr (fun k=>k=BL) w3 wr)∧Hid (Rk wr BL cn)∧Hid (Rq Kn wr BL cn (fun j=>cmbQ l j+wtQ b*coefT (b.ts.take i) j))) (fun t _=>tk-(intOf t).toNat)
 case atStart=>exact ⟨0,by omega,rfl,Fr.refl _ _,I3.out.rk,by show Rq _ _ _ _ _;rw [cq_zero];exact I3.out.rq⟩
 case round =>
  obtain ⟨i,hi,rfl,HG,HK,HQ⟩:=hrel;by_cases hlt:i<tk
  ·obtain ⟨⟨z,q⟩,haq⟩:∃t,b.ts[i]?=some t:=⟨_,List.getElem?_eq_getElem (by omega)⟩;obtain ⟨hz0,hz1,_⟩:=tsB_mem HTS.out _ (List.mem_of_getElem? haq);replace hz0:(-1:Int)<z:=hz0;replace hz1:z<(cn:Int):=hz1;obtain ⟨zn,rfl⟩:=Int.eq_ofNat_of_zero_le (show 0≤z by omega);have hne:b.ts≠[]:=fun e=>by rw [e] at haq;cases haq
   obtain ⟨b2,o2,⟨ts,tx,tn,tc2,tf,ty,tm,td,tg⟩,hta,hc,hr⟩:=(HT3.out.fr HG.out (fun b' o' e hf=>HNF.out hne b' o' e (Or.inl hf))) i (zn:Int) q haq;subst hta;obtain ⟨x0,x1,x2,x3⟩:=hc;replace x0:wr.cell? ⟨b2,o2+i*4,none⟩=some (.int .i64 zn):=x0;replace x1:wr.cell? ⟨b2,o2+i*4+1,none⟩=some (.bool ts):=x1;replace x2:wr.cell? ⟨b2,o2+i*4+2,none⟩=some (.slice tx tn tc2):=x2;replace x3:wr.cell? ⟨b2,o2+i*4+3,none⟩=some (.slice ty tm td):=x3;have hr2:Rn L wr ts tx tn tc2 tf ty tm td tg q:=hr;obtain ⟨⟨ls,lx,ln,lc,lf,ly,lm,ld,lg⟩,⟨p0,p1,p2⟩,hr0⟩:=HQ.out zn (by omega);replace p0:wr.cell? ⟨BL,zn*3,none⟩=some (.bool ls):=p0;replace p1:wr.cell? ⟨BL,zn*3+1,none⟩=some (.slice lx ln lc):=p1;replace p2:wr.cell? ⟨BL,zn*3+2,none⟩=some (.slice ly lm ld):=p2;replace hr0:Rn Kn wr ls lx ln lc lf ly lm ld lg (cmbQ l zn+wtQ b*coefT (b.ts.take i) zn):=hr0;have hbt:=below_alloc (Below.refl wr.heap.size wr) (.cells #[.int .i64 zn,.bool ts,.slice tx tn tc2,.slice ty tm td] 67);have a0:(wr.alloc (.cells #[.int .i64 zn,.bool ts,.slice tx tn tc2,.slice ty tm td] 67)).cell? ⟨wr.heap.size,0,none⟩=some (.int .i64 zn):=by simp [go_sem]
   have a1:(wr.alloc (.cells #[.int .i64 zn,.bool ts,.slice tx tn tc2,.slice ty tm td] 67)).cell? ⟨wr.heap.size,1,none⟩=some (.bool ts):=by simp [go_sem]
   have a2:(wr.alloc (.cells #[.int .i64 zn,.bool ts,.slice tx tn tc2,.slice ty tm td] 67)).cell? ⟨wr.heap.size,2,none⟩=some (.slice tx tn tc2):=by simp [go_sem]
   have a3:(wr.alloc (.cells #[.int .i64 zn,.bool ts,.slice tx tn tc2,.slice ty tm td] 67)).cell? ⟨wr.heap.size,3,none⟩=some (.slice ty tm td):=by simp [go_sem]
   have XK:=(HG.out.bk I3.out.xl (fun e=>ap1 e.symm)).below hbt;have WK:=(HG.out.bk BW.out (fun (e:xw=BL)=>by omega)).below hbt;have i2':((i:Nat):Int)<((tk:Nat):Int):=by omega
   have i3':((zn:Nat):Int)<((cn:Nat):Int):=by omega
   have hzn:zn<cn:=by omega
   have HAQ:=hid haq;clear haq hr hne;go_upto_region 5 with fail
   clear x0 x1 x2 x3;replace p0:=kCb hbt p0;replace p1:=kCb hbt p1;replace p2:=kCb hbt p2
   have R0:=hid (hr0.below hbt);have R1:=hid ((HG.out.rn HQ9.out).below hbt);have R2:=hid (hr2.below hbt)
   replace HG:=hid (HG.out.trans (Fr.of hbt));replace HK:=hid (HK.out.below hbt);replace HQ:=hid (HQ.out.below hbt)
   clear hr0 hr2 hbt;generalize hbx:wr.heap.size=bx at *;generalize wr.alloc (.cells #[.int .i64 zn,.bool ts,.slice tx tn tc2,.slice ty tm td] 67)=w5 at *;clear hbx;have e0:=XK.cell (j:=0) rfl;have v0:=WK.cell (j:=0) rfl;have v1:=WK.cell (j:=1) rfl;have v2:=WK.cell (j:=2) rfl;clear XK WK;refine wp_region_phase (S:=(fun w'=>w'.cell? ⟨XL,0,none⟩=some (.slice (some ⟨BL,0,none⟩) cn cn)∧w'.cell? ⟨bx,0,none⟩=some (.int .i64 zn)∧w'.cell? ⟨bx,1,none⟩=some (.bool ts)∧w'.cell? ⟨bx,2,none⟩=some (.slice tx tn tc2)∧w'.cell? ⟨bx,3,none⟩=some (.slice ty tm td)∧w'.cell? ⟨BL,zn*3,none⟩=some (.bool ls)∧w'.cell? ⟨BL,zn*3+1,none⟩=some (.slice lx ln lc)∧w'.cell? ⟨BL,zn*3+2,none⟩=some (.slice ly lm ld)∧w'.cell? ⟨xw,0,none⟩=some (.bool s9)∧w'.cell? ⟨xw,1,none⟩=some (.slice x9 n9 c9)∧w'.cell? ⟨xw,2,none⟩=some (.slice y9 m9 d9))) 14 (by kernel_rfl) ⟨kCd e0,kCd a0,kCd a1,kCd a2,kCd a3,kCd p0,kCd p1,kCd p2,kCd v0,kCd v1,kCd v2⟩ (fun hHeld=>?_);refine wpAnyP_takeA (i:=0) (v:=?_) rfl (by kernel_rfl) (by kernel_rfl) (by kernel_rfl) (by kernel_rfl) (by kernel_rfl) (by kernel_rfl) (fun _ _ _ h=>h) (Or.inl ⟨by rfl,?_⟩) (by assumption) ?_;rotate_left
   (focus (intro w0 hSw;(try dsimp only at hSw);go_simp <;> with_reducible rfl))
   simp only [List.getElem_toArray,List.getElem_cons_zero,Act.put,List.setIfInBounds_toArray,List.set_cons_zero,List.set_cons_succ];refine wpAnyP_skim (i:=1) (v:=?_) rfl (by kernel_rfl) (by kernel_rfl) (by kernel_rfl) (by kernel_rfl) (fun _ _ _ h=>h) (Or.inl ⟨by rfl,?_⟩) (fun _=>by assumption) ?_;rotate_left
   (focus (intro w0 hSw;go_simp <;> with_reducible rfl))
   simp only [List.getElem_toArray,List.getElem_cons_succ,List.getElem_cons_zero,Act.put,List.setIfInBounds_toArray,List.set_cons_zero,List.set_cons_succ];refine wpAnyP_takeA (i:=2) (v:=?_) rfl (by kernel_rfl) (by kernel_rfl) (by kernel_rfl) (by kernel_rfl) (by kernel_rfl) (by kernel_rfl) (fun _ _ _ h=>h) (Or.inl ⟨by rfl,?_⟩) (by assumption) ?_;rotate_left
   (focus (intro w0 hSw;(try dsimp only at hSw);go_simp <;> with_reducible rfl))
   simp only [List.getElem_toArray,List.getElem_cons_succ,List.getElem_cons_zero,Act.put,List.setIfInBounds_toArray,List.set_cons_zero,List.set_cons_succ];refine wpAnyP_takeA (i:=3) (v:=?_) rfl (by kernel_rfl) (by kernel_rfl) (by kernel_rfl) (by kernel_rfl) (by kernel_rfl) (by kernel_rfl) (fun _ _ _ h=>h) (Or.inl ⟨by rfl,?_⟩) (by assumption) ?_;rotate_left
   (focus (intro w0 hSw;(try dsimp only at hSw);go_simp <;> with_reducible rfl))
   simp only [List.getElem_toArray,List.getElem_cons_succ,List.getElem_cons_zero,Act.put,List.setIfInBounds_toArray,List.set_cons_zero,List.set_cons_succ];refine wpAnyP_skim (i:=4) (v:=?_) rfl (by kernel_rfl) (by kernel_rfl) (by kernel_rfl) (by kernel_rfl) (fun _ _ _ h=>h) (Or.inl ⟨by rfl,?_⟩) (fun _=>by assumption) ?_;rotate_left
   (focus (intro w0 hSw;go_simp <;> with_reducible rfl))
   simp only [List.getElem_toArray,List.getElem_cons_succ,List.getElem_cons_zero,Act.put,List.setIfInBounds_toArray,List.set_cons_zero,List.set_cons_succ];refine wpAnyP_takeA (i:=5) (v:=?_) rfl (by kernel_rfl) (by kernel_rfl) (by kernel_rfl) (by kernel_rfl) (by kernel_rfl) (by kernel_rfl) (fun _ _ _ h=>h) (Or.inl ⟨by rfl,?_⟩) (by assumption) ?_;rotate_left
   (focus (intro w0 hSw;(try dsimp only at hSw);go_simp <;> with_reducible rfl))
   simp only [List.getElem_toArray,List.getElem_cons_succ,List.getElem_cons_zero,Act.put,List.setIfInBounds_toArray,List.set_cons_zero,List.set_cons_succ];refine wpAnyP_skim (i:=6) (v:=?_) rfl (by kernel_rfl) (by kernel_rfl) (by kernel_rfl) (by kernel_rfl) (fun _ _ _ h=>h) (Or.inl ⟨by rfl,?_⟩) (fun _=>by assumption) ?_;rotate_left
   (focus (intro w0 hSw;go_simp <;> with_reducible rfl))
   simp only [List.getElem_toArray,List.getElem_cons_succ,List.getElem_cons_zero,Act.put,List.setIfInBounds_toArray,List.set_cons_zero,List.set_cons_succ];refine wpAnyP_takeA (i:=7) (v:=?_) rfl (by kernel_rfl) (by kernel_rfl) (by kernel_rfl) (by kernel_rfl) (by kernel_rfl) (by kernel_rfl) (fun _ _ _ h=>h) (Or.inl ⟨by rfl,?_⟩) (by assumption) ?_;rotate_left
   (focus (intro w0 hSw;(try dsimp only at hSw);go_simp <;> with_reducible rfl))
   simp only [List.getElem_toArray,List.getElem_cons_succ,List.getElem_cons_zero,Act.put,List.setIfInBounds_toArray,List.set_cons_zero,List.set_cons_succ];refine wpAnyP_takeA (i:=8) (v:=?_) rfl (by kernel_rfl) (by kernel_rfl) (by kernel_rfl) (by kernel_rfl) (by kernel_rfl) (by kernel_rfl) (fun _ _ _ h=>h) (Or.inl ⟨by rfl,?_⟩) (by assumption) ?_;rotate_left
   (focus (intro w0 hSw;(try dsimp only at hSw);go_simp <;> with_reducible rfl))
   simp only [List.getElem_toArray,List.getElem_cons_succ,List.getElem_cons_zero,Act.put,List.setIfInBounds_toArray,List.set_cons_zero,List.set_cons_succ];refine wpAnyP_skim (i:=9) (v:=?_) rfl (by kernel_rfl) (by kernel_rfl) (by kernel_rfl) (by kernel_rfl) (fun _ _ _ h=>h) (Or.inl ⟨by rfl,?_⟩) (fun _=>by assumption) ?_;rotate_left
   (focus (intro w0 hSw;go_simp <;> with_reducible rfl))
   simp only [List.getElem_toArray,List.getElem_cons_succ,List.getElem_cons_zero,Act.put,List.setIfInBounds_toArray,List.set_cons_zero,List.set_cons_succ];refine wpAnyP_takeA (i:=10) (v:=?_) rfl (by kernel_rfl) (by kernel_rfl) (by kernel_rfl) (by kernel_rfl) (by kernel_rfl) (by kernel_rfl) (fun _ _ _ h=>h) (Or.inl ⟨by rfl,?_⟩) (by assumption) ?_;rotate_left
   (focus (intro w0 hSw;(try dsimp only at hSw);go_simp <;> with_reducible rfl))
   simp only [List.getElem_toArray,List.getElem_cons_succ,List.getElem_cons_zero,Act.put,List.setIfInBounds_toArray,List.set_cons_zero,List.set_cons_succ];refine wpAnyP_ready (rs:=[11]) (by kernel_rfl) (by simp) ?_;refine AllReadyP.cons (o:=_) rfl (fun K hK=>?_) ?_;rotate_left;exact AllReadyP.nil;go_simp
   go_at_call 36
   refine (ftimes_c (L:=L) (kRnd R1.out) (kRnd R2.out) (by omega)).mono ?_;rintro e w6 ⟨s6,x6,n6,c6,f6,y6,m6,d6,g6,rfl,hb6,hq6⟩
   (try go_wp2_with fail)
   have yy0:=kCb hb6 (hHeld.1);have yy1:=kCb hb6 (hHeld.2.1);have yy2:=kCb hb6 (hHeld.2.2.1);have yy3:=kCb hb6 (hHeld.2.2.2.1);have yy4:=kCb hb6 (hHeld.2.2.2.2.1);have yy5:=kCb hb6 (hHeld.2.2.2.2.2.1);have yy6:=kCb hb6 (hHeld.2.2.2.2.2.2.1);have yy7:=kCb hb6 (hHeld.2.2.2.2.2.2.2.1);have yy8:=kCb hb6 (hHeld.2.2.2.2.2.2.2.2.1);have yy9:=kCb hb6 (hHeld.2.2.2.2.2.2.2.2.2.1);have yy10:=kCb hb6 (hHeld.2.2.2.2.2.2.2.2.2.2);refine hK.out _ _ (fun _=>⟨yy0,yy1,yy2,yy3,yy4,yy5,yy6,yy7,yy8,yy9,yy10⟩) (fun hS6=>?_);clear hK K hS6;try simp only [Act.put,List.setIfInBounds_toArray,List.set_cons_zero,List.set_cons_succ]
   have Bd6:=(Below.drew (Below.refl w5.heap.size w5)).trans (hb6.mono (Nat.le_refl _));refine wpAnyP_ready (rs:=[12]) (by kernel_rfl) (by simp) ?_;refine AllReadyP.cons (o:=_) rfl (fun K hK=>?_) ?_;rotate_left;exact AllReadyP.nil;go_simp
   go_at_call 35
   refine (fplus_c (L:=Kn) (R0.out.below Bd6) (hq6.mono (by omega)) hK2).mono ?_;rintro e w7 ⟨s7,x7,n7,c7,f7,y7,m7,d7,g7,rfl,hb7,hq7⟩
   (try go_wp2_with fail)
   have uu0:=kCb hb7 yy0;have uu1:=kCb hb7 yy1;have uu2:=kCb hb7 yy2;have uu3:=kCb hb7 yy3;have uu4:=kCb hb7 yy4;have uu5:=kCb hb7 yy5;have uu6:=kCb hb7 yy6;have uu7:=kCb hb7 yy7;have uu8:=kCb hb7 yy8;have uu9:=kCb hb7 yy9;have uu10:=kCb hb7 yy10;refine hK.out _ _ (fun _=>⟨uu0,uu1,uu2,uu3,uu4,uu5,uu6,uu7,uu8,uu9,uu10⟩) (fun hS7=>?_);clear hK K hS7;try simp only [Act.put,List.setIfInBounds_toArray,List.set_cons_zero,List.set_cons_succ]
   have Bd7:=Bd6.trans (hb7.mono Bd6.size);have hk7:=HK.out.below Bd7;have hq8:Rn Kn w7 s7 x7 n7 c7 f7 y7 m7 d7 g7 (cmbQ l zn+wtQ b*coefT (b.ts.take (i+1)) zn):=by
    have h9:=HLQ.out (i+1) zn;rw [cq_step HAQ.out,if_pos rfl] at h9 ⊢;exact (hq7.cut h9).mono (by omega)
   obtain ⟨R1a,R2a⟩:=rq_st (i':=cn) (j:=zn) (Q':=fun j=>cmbQ l j+wtQ b*coefT (b.ts.take (i+1)) j) hk7 (HQ.out.below Bd7) hzn hq8 (fun j' h1 h2=>⟨h1,by show _+_=_+_;rw [cq_step HAQ.out,if_neg (fun e=>h2 e.symm)];grind⟩);have HG7:=hid ((HG.out.trans (Fr.of Bd7)).trans (rk_fr (s:=s7) (x:=x7) (k:=n7) (c:=c7) (y:=y7) (m:=m7) (d:=d7) hk7 hzn));have tf:=hk7.fz;have HR1:=hid R1a;have HR2:=hid R2a
   clear R1a R2a hq8 hq7 hq6 hk7 Bd7 Bd6 hb6 hb7 HK HQ HG R0 R1 R2 yy0 yy1 yy2 yy3 yy4 yy5 yy6 yy7 yy8 yy9 yy10 hHeld e0 a0 a1 a2 a3 p0 p1 p2 v0 v1 v2;refine wpAnyP_ready (rs:=[13]) (by kernel_rfl) (by simp) ?_;refine AllReadyP.cons (o:=_) rfl (fun K hK=>?_) ?_;rotate_left;exact AllReadyP.nil;go_simp;refine hK.out _ _ (fun _=>⟨uu0,uu1,uu2,uu3,uu4,uu5,uu6,uu7,uu8,uu9,uu10⟩) (fun hS9=>?_);clear hK K hS9;try simp only [Act.put,List.setIfInBounds_toArray,List.set_cons_zero,List.set_cons_succ]
   refine wpAnyP_ready (rs:=[14]) (by kernel_rfl) (by simp) ?_;refine AllReadyP.cons (o:=_) rfl (fun K hK=>?_) ?_;rotate_left;exact AllReadyP.nil;go_simp;refine hK.out _ _ (fun h=>by cases h) (fun _=>?_);clear hK K;try simp only [Act.put,List.setIfInBounds_toArray,List.set_cons_zero,List.set_cons_succ]
   refine wpAnyP_done (by kernel_rfl) ?_ _;clear uu0 uu1 uu2 uu3 uu4 uu5 uu6 uu7 uu8 uu9 uu10 tf;go_wp2;go_roundw
   case rel=>exact ⟨i+1,by omega,by go_num,HG7.out,HR1.out,HR2.out⟩
   case measure=>simp [intOf];omega
  ·have i4':¬(((i:Nat):Int)<((tk:Nat):Int)):=by omega
   have HQ2:Hid (Rq Kn wr BL cn (cmbQ (l++[b]))):=by
    have:=HQ.out;rw [cq_all (by omega)] at this;exact this
   clear HQ;obtain ⟨sr,xr,nr,cr,fr,yr,mr,dr,gr,hsx,hrn⟩:=I3.out.sx;have SX:=hid (hsx.fr HG.out (fun e=>ap2 e.symm));have R0:=hid (HG.out.rn hrn);have R1:=hid (HG.out.rn HQ9.out);have R2:=hid (HG.out.rn HA3.out)
   have XK:=hid (HG.out.bk I3.out.xl (fun e=>ap1 e.symm));have WK:=hid (HG.out.bk BW.out (fun (e:xw=BL)=>by omega));have BK:=hid (HG.out.bk BB.out (fun (e:xb=BL)=>by omega))
   clear hsx hrn I3 HQ9 HA3 BW BB;go_upto_region 7 with fail
   have e0:=SX.out.x0;have e1:=SX.out.x1;have e2:=SX.out.x2
   have v0:=WK.out.cell (j:=0) rfl;have v1:=WK.out.cell (j:=1) rfl;have v2:=WK.out.cell (j:=2) rfl;have b4:=BK.out.cell (j:=4) rfl;have b5:=BK.out.cell (j:=5) rfl;have b6:=BK.out.cell (j:=6) rfl;refine wp_region_phase (S:=(fun w'=>w'.cell? ⟨XR,0,none⟩=some (.bool sr)∧w'.cell? ⟨XR,1,none⟩=some (.slice xr nr cr)∧w'.cell? ⟨XR,2,none⟩=some (.slice yr mr dr)∧w'.cell? ⟨xw,0,none⟩=some (.bool s9)∧w'.cell? ⟨xw,1,none⟩=some (.slice x9 n9 c9)∧w'.cell? ⟨xw,2,none⟩=some (.slice y9 m9 d9)∧w'.cell? ⟨xb,4,none⟩=some (.bool s1)∧w'.cell? ⟨xb,5,none⟩=some (.slice x1 n1 c1)∧w'.cell? ⟨xb,6,none⟩=some (.slice y1 m1 d1))) 7 (by kernel_rfl) ⟨kCd e0,kCd e1,kCd e2,kCd v0,kCd v1,kCd v2,kCd b4,kCd b5,kCd b6⟩ (fun hHeld=>?_);refine wpAnyP_takeA (i:=0) (v:=?_) rfl (by kernel_rfl) (by kernel_rfl) (by kernel_rfl) (by kernel_rfl) (by kernel_rfl) (by kernel_rfl) (fun _ _ _ h=>h) (Or.inl ⟨by rfl,?_⟩) (by assumption) ?_;rotate_left
   (focus (intro w0 hSw;(try dsimp only at hSw);go_simp <;> with_reducible rfl))
   simp only [List.getElem_toArray,List.getElem_cons_zero,Act.put,List.setIfInBounds_toArray,List.set_cons_zero,List.set_cons_succ];refine wpAnyP_takeA (i:=1) (v:=?_) rfl (by kernel_rfl) (by kernel_rfl) (by kernel_rfl) (by kernel_rfl) (by kernel_rfl) (by kernel_rfl) (fun _ _ _ h=>h) (Or.inl ⟨by rfl,?_⟩) (by assumption) ?_;rotate_left
   (focus (intro w0 hSw;(try dsimp only at hSw);go_simp <;> with_reducible rfl))
   simp only [List.getElem_toArray,List.getElem_cons_succ,List.getElem_cons_zero,Act.put,List.setIfInBounds_toArray,List.set_cons_zero,List.set_cons_succ];refine wpAnyP_skim (i:=2) (v:=?_) rfl (by kernel_rfl) (by kernel_rfl) (by kernel_rfl) (by kernel_rfl) (fun _ _ _ h=>h) (Or.inl ⟨by rfl,?_⟩) (fun _=>by assumption) ?_;rotate_left
   (focus (intro w0 hSw;go_simp <;> with_reducible rfl))
   simp only [List.getElem_toArray,List.getElem_cons_succ,List.getElem_cons_zero,Act.put,List.setIfInBounds_toArray,List.set_cons_zero,List.set_cons_succ];refine wpAnyP_skim (i:=3) (v:=?_) rfl (by kernel_rfl) (by kernel_rfl) (by kernel_rfl) (by kernel_rfl) (fun _ _ _ h=>h) (Or.inl ⟨by rfl,?_⟩) (fun _=>by assumption) ?_;rotate_left
   (focus (intro w0 hSw;go_simp <;> with_reducible rfl))
   simp only [List.getElem_toArray,List.getElem_cons_succ,List.getElem_cons_zero,Act.put,List.setIfInBounds_toArray,List.set_cons_zero,List.set_cons_succ];refine wpAnyP_takeA (i:=4) (v:=?_) rfl (by kernel_rfl) (by kernel_rfl) (by kernel_rfl) (by kernel_rfl) (by kernel_rfl) (by kernel_rfl) (fun _ _ _ h=>h) (Or.inl ⟨by rfl,?_⟩) (by assumption) ?_;rotate_left
   (focus (intro w0 hSw;(try dsimp only at hSw);go_simp <;> with_reducible rfl))
   simp only [List.getElem_toArray,List.getElem_cons_succ,List.getElem_cons_zero,Act.put,List.setIfInBounds_toArray,List.set_cons_zero,List.set_cons_succ];refine wpAnyP_ready (rs:=[5]) (by kernel_rfl) (by simp) ?_;refine AllReadyP.cons (o:=_) rfl (fun K hK=>?_) ?_;rotate_left;exact AllReadyP.nil;go_simp
   go_at_call 36
   refine (ftimes_c (L:=L) (kRnd R1.out) (kRnd R2.out) (by omega)).mono ?_;rintro e w6 ⟨s6,x6,n6,c6,f6,y6,m6,d6,g6,rfl,hb6,hq6⟩
   (try go_wp2_with fail)
   have yy0:=kCb hb6 (hHeld.1);have yy1:=kCb hb6 (hHeld.2.1);have yy2:=kCb hb6 (hHeld.2.2.1);have yy3:=kCb hb6 (hHeld.2.2.2.1);have yy4:=kCb hb6 (hHeld.2.2.2.2.1);have yy5:=kCb hb6 (hHeld.2.2.2.2.2.1);have yy6:=kCb hb6 (hHeld.2.2.2.2.2.2.1);have yy7:=kCb hb6 (hHeld.2.2.2.2.2.2.2.1);have yy8:=kCb hb6 (hHeld.2.2.2.2.2.2.2.2);refine hK.out _ _ (fun _=>⟨yy0,yy1,yy2,yy3,yy4,yy5,yy6,yy7,yy8⟩) (fun hS6=>?_);clear hK K hS6;try simp only [Act.put,List.setIfInBounds_toArray,List.set_cons_zero,List.set_cons_succ]
   have Bd6:=(Below.drew (Below.refl wr.heap.size wr)).trans (hb6.mono (Nat.le_refl _));refine wpAnyP_ready (rs:=[6]) (by kernel_rfl) (by simp) ?_;refine AllReadyP.cons (o:=_) rfl (fun K hK=>?_) ?_;rotate_left;exact AllReadyP.nil;go_simp
   go_at_call 35
   refine (fplus_c (L:=Kn) (R0.out.below Bd6) (hq6.mono (by omega)) hK2).mono ?_;rintro e w7 ⟨s7,x7,n7,c7,f7,y7,m7,d7,g7,rfl,hb7,hq7⟩
   (try go_wp2_with fail)
   have uu0:=kCb hb7 yy0;have uu1:=kCb hb7 yy1;have uu2:=kCb hb7 yy2;have uu3:=kCb hb7 yy3;have uu4:=kCb hb7 yy4;have uu5:=kCb hb7 yy5;have uu6:=kCb hb7 yy6;have uu7:=kCb hb7 yy7;have uu8:=kCb hb7 yy8;refine hK.out _ _ (fun _=>⟨uu0,uu1,uu2,uu3,uu4,uu5,uu6,uu7,uu8⟩) (fun hS7=>?_);clear hK K hS7;try simp only [Act.put,List.setIfInBounds_toArray,List.set_cons_zero,List.set_cons_succ]
   have Bd7:=Bd6.trans (hb7.mono Bd6.size);have S7:=SX.out.below Bd7;have h9:=HLS.out;have hq8:=(hq7.cut h9).mono (show _≤Kn by omega);have tf:=S7.fz;have FG:=hid (sx_fr (u0:=.bool s7) (u1:=.slice x7 n7 c7) (u2:=.slice y7 m7 d7) S7);have HF7:=hid ((FB3.out.trans ((HG.out.trans (Fr.of Bd7)).imp (fun k e=>Or.inl e))).trans (FG.out.imp (fun k e=>Or.inr e)));have HS8:=hid (S7.st (s1:=s7) (x1:=x7) (n1:=n7) (c1:=c7) (y1:=y7) (m1:=m7) (d1:=d7));have HR8:=hid (S7.rn (u0:=.bool s7) (u1:=.slice x7 n7 c7) (u2:=.slice y7 m7 d7) hq8);have HX8:=hid (FG.out.bk (XK.out.below Bd7) ap3);have HK8:=hid ((HK.out.below Bd7).fr FG.out ap2);have HQ8:=hid ((HQ2.out.below Bd7).fr FG.out ap2)
   clear hq8 hq7 hq6 S7 h9 Bd7 Bd6 hb6 hb7 HK HQ2 HG R0 R1 R2 SX XK WK BK yy0 yy1 yy2 yy3 yy4 yy5 yy6 yy7 yy8 hHeld e0 e1 e2 v0 v1 v2 b4 b5 b6;refine wpAnyP_ready (rs:=[7]) (by kernel_rfl) (by simp) ?_;refine AllReadyP.cons (o:=_) rfl (fun K hK=>?_) ?_;rotate_left;exact AllReadyP.nil;go_simp;refine hK.out _ _ (fun h=>by cases h) (fun _=>?_);clear hK K;try simp only [Act.put,List.setIfInBounds_toArray,List.set_cons_zero,List.set_cons_succ]
   refine wpAnyP_done (by kernel_rfl) ?_ _;clear uu0 uu1 uu2 uu3 uu4 uu5 uu6 uu7 uu8 tf;go_wp2
   go_end0
   exact ⟨rfl,HF7.out,⟨HX8.out,HK8.out,HQ8.out,⟨s7,x7,n7,c7,f7,y7,m7,d7,g7,HS8.out,by rw [show cmbS (l++[b])=cmbS l+wtQ b*b.a from sumF_snoc _ l b];exact HR8.out⟩,fun j=>by rw [hle,←cq_all (i:=tk) (by omega)];exact HLQ.out tk j,by rw [hle,show cmbS (l++[b])=cmbS l+wtQ b*b.a from sumF_snoc _ l b];exact HLS.out⟩⟩
def fqu (e0 e1 e2 e3:Int) (j:Nat):Int:=if j=0 then e0 else if j=1 then e1 else if j=2 then e2 else e3
theorem fqu_el {w:World} {e0 e1 e2 e3:Int} {t:TypeId}:El (w.alloc (.cells #[.int .i64 e0,.int .i64 e1,.int .i64 e2,.int .i64 e3] t)) (some ⟨w.heap.size,0,none⟩) 4 (fqu e0 e1 e2 e3):=fun j hj=>by
 refine ⟨_,0,rfl,?_⟩
 match j,hj with
 | 0,_=>simp [go_sem,fqu]
 | 1,_=>simp [go_sem,fqu]
 | 2,_=>simp [go_sem,fqu]
 | 3,_=>simp [go_sem,fqu]
def fctE (n k:Int) (k0:Nat) (X0:Nat→Nm) (k1:Nat) (X1:Nat→Nm) (k2:Nat) (X2:Nat→Nm) (k3:Nat) (X3:Nat→Nm):Int:=lsf (fqu (pnE k0 X0 k) (pnE k1 X1 k) (pnE k2 X2 n) (pnE k3 X3 n)) 4
set_option maxRecDepth 100000 in
set_option maxHeartbeats 4000000 in
theorem fcheck_c {w:World} {M:Mo} {a0 a1 a2 a3:Option Addr} {k0 c0 k1 c1 k2 c2 k3 c3:Nat} {X0 X1 X2 X3:Nat→Nm} (h0:Rl w a0 k0 X0) (h1:Rl w a1 k1 X1) (h2:Rl w a2 k2 X2) (h3:Rl w a3 k3 X3) (hk0:k0≤1048576) (hk1:k1≤1048576) (hk2:k2≤1048576) (hk3:k3≤1048576) :
  Calls Tryz.prog 28 #[M.val,.agg #[.slice a0 k0 c0,.slice a1 k1 c1,.slice a2 k2 c2,.slice a3 k3 c3]] w fun e w'=>e=.returned (.int .i64 (fctE M.ck M.rk k0 X0 k1 X1 k2 X2 k3 X3))∧Below w.heap.size w w':=by
 have C0:=hid (fun W (hW:Below w.heap.size w W)=>pNumbers_c (w:=W) (cap:=c0) (z:=(M.rk:Int)) (h0.below hW) hk0);have C1:=hid (fun W (hW:Below w.heap.size w W)=>pNumbers_c (w:=W) (cap:=c1) (z:=(M.rk:Int)) (h1.below hW) hk1);have C2:=hid (fun W (hW:Below w.heap.size w W)=>pNumbers_c (w:=W) (cap:=c2) (z:=(M.ck:Int)) (h2.below hW) hk2);have C3:=hid (fun W (hW:Below w.heap.size w W)=>pNumbers_c (w:=W) (cap:=c3) (z:=(M.ck:Int)) (h3.below hW) hk3);clear h0 h1 h2 h3;obtain ⟨er,her⟩:∃e,fctE M.ck M.rk k0 X0 k1 X1 k2 X2 k3 X3=e:=⟨_,rfl⟩;have HE:=hid her;unfold fctE at her;obtain ⟨⟨s,x,n,c,f,y,m,d,g⟩,ca,ck,cc,C,ra,rk,rc,R⟩:=M;dsimp only at her C0 C1 C2 C3;obtain ⟨e0,he0⟩:∃e,pnE k0 X0 (rk:Int)=e:=⟨_,rfl⟩;rw [he0] at C0 her;clear he0;obtain ⟨e1,he1⟩:∃e,pnE k1 X1 (rk:Int)=e:=⟨_,rfl⟩;rw [he1] at C1 her;clear he1;obtain ⟨e2,he2⟩:∃e,pnE k2 X2 (ck:Int)=e:=⟨_,rfl⟩;rw [he2] at C2 her;clear he2;obtain ⟨e3,he3⟩:∃e,pnE k3 X3 (ck:Int)=e:=⟨_,rfl⟩;rw [he3] at C3 her;clear he3;have HE2:=hid her;clear her;show Calls Tryz.prog 28 #[.agg #[.bool s,.slice x n c,.slice y m d,.slice ca ck cc,.slice ra rk rc],.agg #[.slice a0 k0 c0,.slice a1 k1 c1,.slice a2 k2 c2,.slice a3 k3 c3]] w _;have hb:=below_alloc (below_alloc (Below.refl w.heap.size w) (.cells #[.bool s,.slice x n c,.slice y m d,.slice ca ck cc,.slice ra rk rc] 28)) (.cells #[.slice a0 k0 c0,.slice a1 k1 c1,.slice a2 k2 c2,.slice a3 k3 c3] 31);have B1:Bk ((w.alloc (.cells #[.bool s,.slice x n c,.slice y m d,.slice ca ck cc,.slice ra rk rc] 28)).alloc (.cells #[.slice a0 k0 c0,.slice a1 k1 c1,.slice a2 k2 c2,.slice a3 k3 c3] 31)) w.heap.size [.bool s,.slice x n c,.slice y m d,.slice ca ck cc,.slice ra rk rc] 28:=(bk_new w [.bool s,.slice x n c,.slice y m d,.slice ca ck cc,.slice ra rk rc] 28).below (below_alloc (Below.refl _ _) _);have B2:Bk ((w.alloc (.cells #[.bool s,.slice x n c,.slice y m d,.slice ca ck cc,.slice ra rk rc] 28)).alloc (.cells #[.slice a0 k0 c0,.slice a1 k1 c1,.slice a2 k2 c2,.slice a3 k3 c3] 31)) (w.heap.size+1) [.slice a0 k0 c0,.slice a1 k1 c1,.slice a2 k2 c2,.slice a3 k3 c3] 31:=by
  have:=bk_new (w.alloc (.cells #[.bool s,.slice x n c,.slice y m d,.slice ca ck cc,.slice ra rk rc] 28)) [.slice a0 k0 c0,.slice a1 k1 c1,.slice a2 k2 c2,.slice a3 k3 c3] 31;rw [size_alloc1] at this;exact this
 have HB:=hid hb;have HB1:=hid B1;have HB2:=hid B2
 clear hb B1 B2;go_enter Tryz.func28,Tryz.ntmps28;go_upto_region 1 with fail
 generalize ((w.alloc (.cells #[.bool s,.slice x n c,.slice y m d,.slice ca ck cc,.slice ra rk rc] 28)).alloc (.cells #[.slice a0 k0 c0,.slice a1 k1 c1,.slice a2 k2 c2,.slice a3 k3 c3] 31))=w1 at *;have s3:=HB1.out.cell (j:=3) rfl;have s4:=HB1.out.cell (j:=4) rfl
 go_quiet (fail)
 clear s3 s4;go_upto_region 2 with fail
 have hbq:=below_drewN (Below.refl w1.heap.size w1) nq;generalize w1.drewN nq=w2 at *;have hbd:=Below.drew (Below.refl w2.heap.size w2);replace hbq:=hbq.trans (hbd.mono hbq.size);replace HB:=hid (HB.out.trans (hbq.mono HB.out.size));replace HB2:=hid (HB2.out.below hbq)
 clear hbq hbd HB1;have r0:=HB2.out.cell (j:=0) rfl;have r1:=HB2.out.cell (j:=1) rfl;have r2:=HB2.out.cell (j:=2) rfl;have r3:=HB2.out.cell (j:=3) rfl;refine wp_region_held_drew (S:=(fun w'=>w'.cell? ⟨w.heap.size+1,0,none⟩=some (.slice a0 k0 c0)∧w'.cell? ⟨w.heap.size+1,1,none⟩=some (.slice a1 k1 c1)∧w'.cell? ⟨w.heap.size+1,2,none⟩=some (.slice a2 k2 c2)∧w'.cell? ⟨w.heap.size+1,3,none⟩=some (.slice a3 k3 c3))) (by kernel_rfl) ?_ (fun hHeld=>?_)
 ·exact ⟨r0,r1,r2,r3⟩
 generalize w2.drew=wd at *;have HW:=hid (Below.refl wd.heap.size wd);replace C0:=hid (fun W (hW:Below wd.heap.size wd W)=>C0.out W (HB.out.trans (hW.mono HB.out.size)));replace C1:=hid (fun W (hW:Below wd.heap.size wd W)=>C1.out W (HB.out.trans (hW.mono HB.out.size)));replace C2:=hid (fun W (hW:Below wd.heap.size wd W)=>C2.out W (HB.out.trans (hW.mono HB.out.size)));replace C3:=hid (fun W (hW:Below wd.heap.size wd W)=>C3.out W (HB.out.trans (hW.mono HB.out.size)));refine tkO 0 ?_;simp only [lay_,Act.put];refine tkO 1 ?_;simp only [lay_,Act.put];refine tkO 2 ?_;simp only [lay_,Act.put];refine tkO 4 ?_;simp only [lay_,Act.put];refine tkO 5 ?_;simp only [lay_,Act.put];refine tkO 6 ?_;simp only [lay_,Act.put];refine tkO 8 ?_;simp only [lay_,Act.put];refine tkO 9 ?_;simp only [lay_,Act.put];refine tkO 10 ?_;simp only [lay_,Act.put];refine tkO 12 ?_;simp only [lay_,Act.put];refine tkO 13 ?_;simp only [lay_,Act.put];refine tkO 14 ?_;simp only [lay_,Act.put];refine wpAnyH_ready (rs:=[3]) (by kernel_rfl) (by simp) ?_;refine AllReadyH.cons (o:=_) rfl (fun K hK=>?_) ?_;rotate_left;exact AllReadyH.nil;go_simp
 go_at_call 62
 refine (C0.out _ HW.out).mono ?_;rintro e w2 ⟨rfl,hb0⟩;have HW0:=hid (HW.out.trans (hb0.mono HW.out.size))
 (try go_wp2_with fail)
 refine hK.out _ _ ?_ (fun hH0=>?_)
 ·((try dsimp only);(refine ⟨?_,?_,?_,?_⟩ <;> repeat (with_reducible first | assumption | refine kCb (by assumption) ?_)))
 clear hK K;try simp only [lay_,Act.put]
 refine wpAnyH_ready (rs:=[7]) (by kernel_rfl) (by simp) ?_;refine AllReadyH.cons (o:=_) rfl (fun K hK=>?_) ?_;rotate_left;exact AllReadyH.nil;go_simp
 go_at_call 62
 refine (C1.out _ HW0.out).mono ?_;rintro e w3 ⟨rfl,hb1⟩;have HW1:=hid (HW0.out.trans (hb1.mono HW0.out.size))
 (try go_wp2_with fail)
 refine hK.out _ _ ?_ (fun hH1=>?_)
 ·((try dsimp only);(refine ⟨?_,?_,?_,?_⟩ <;> repeat (with_reducible first | assumption | refine kCb (by assumption) ?_)))
 clear hK K;try simp only [lay_,Act.put]
 refine wpAnyH_ready (rs:=[11]) (by kernel_rfl) (by simp) ?_;refine AllReadyH.cons (o:=_) rfl (fun K hK=>?_) ?_;rotate_left;exact AllReadyH.nil;go_simp
 go_at_call 62
 refine (C2.out _ HW1.out).mono ?_;rintro e w4 ⟨rfl,hb2⟩;have HW2:=hid (HW1.out.trans (hb2.mono HW1.out.size))
 (try go_wp2_with fail)
 refine hK.out _ _ ?_ (fun hH2=>?_)
 ·((try dsimp only);(refine ⟨?_,?_,?_,?_⟩ <;> repeat (with_reducible first | assumption | refine kCb (by assumption) ?_)))
 clear hK K;try simp only [lay_,Act.put]
 refine wpAnyH_ready (rs:=[15]) (by kernel_rfl) (by simp) ?_;refine AllReadyH.cons (o:=_) rfl (fun K hK=>?_) ?_;rotate_left;exact AllReadyH.nil;go_simp
 go_at_call 62
 refine (C3.out _ HW2.out).mono ?_;rintro e w5 ⟨rfl,hb3⟩;have HW3:=hid (HW2.out.trans (hb3.mono HW2.out.size))
 (try go_wp2_with fail)
 refine hK.out _ _ ?_ (fun hH3=>?_)
 ·((try dsimp only);(refine ⟨?_,?_,?_,?_⟩ <;> repeat (with_reducible first | assumption | refine kCb (by assumption) ?_)))
 clear hK K;try simp only [lay_,Act.put]
 refine wpAnyH_ready (rs:=[16]) (by kernel_rfl) (by simp) ?_;refine AllReadyH.cons (o:=_) rfl (fun K hK=>?_) ?_;rotate_left;exact AllReadyH.nil;go_simp;have hbA:=below_alloc (Below.refl w5.heap.size w5) (.cells #[.int .i64 e0,.int .i64 e1,.int .i64 e2,.int .i64 e3] 37);have HEl:=hid (fqu_el (w:=w5) (e0:=e0) (e1:=e1) (e2:=e2) (e3:=e3) (t:=37));have HWA:=hid (HW3.out.trans (hbA.mono HW3.out.size));obtain ⟨gA,hgA⟩:∃z,w5.heap.size=z:=⟨_,rfl⟩;rw [hgA] at HEl ⊢;generalize hwA:w5.alloc (.cells #[.int .i64 e0,.int .i64 e1,.int .i64 e2,.int .i64 e3] 37)=wA at *;clear hwA hgA;refine hK.out _ _ ?_ (fun hHA=>?_)
 ·((try dsimp only);(refine ⟨?_,?_,?_,?_⟩ <;> repeat (with_reducible first | assumption | refine kCb (by assumption) ?_)))
 clear hK K;try simp only [lay_,Act.put]
 refine wpAnyH_ready (rs:=[17]) (by kernel_rfl) (by simp) ?_;refine AllReadyH.cons (o:=_) rfl (fun K hK=>?_) ?_;rotate_left;exact AllReadyH.nil;go_simp
 go_at_call 26
 refine (least_c HEl.out (by decide)).mono ?_;rintro e w9 ⟨rfl,rfl⟩
 (try go_wp2_with fail)
 refine hK.out _ _ ?_ (fun hHB=>?_)
 ·exact hHA
 clear hK K;try simp only [lay_,Act.put]
 refine tkO 18 ?_;simp only [lay_,Act.put];refine wpAnyH_done (by kernel_rfl) ?_ _;simp only [show lsf (fqu e0 e1 e2 e3) 4=er from HE2.out];have HF:=hid (HB.out.trans (HWA.out.mono HB.out.size));clear hHeld hH0 hH1 hH2 hH3 hHA hHB hb0 hb1 hb2 hb3 hbA r0 r1 r2 r3 HEl C0 C1 C2 C3 HW HW0 HW1 HW2 HW3 HE2 HWA HB HB2;go_wp2;go_ret;exact ⟨by rw [HE.out];rfl,HF.out⟩
def cbE (M:Mo) (k0:Nat) (X0:Nat→Nm) (k1:Nat) (X1:Nat→Nm) (k2:Nat) (X2:Nat→Nm) (k3:Nat) (X3:Nat→Nm):Int:=lsf (two (chkE M) (fctE M.ck M.rk k0 X0 k1 X1 k2 X2 k3 X3)) 2
def bdA (cs:List CV) (rs:List RV) (l0 l1 l2 l3:List Rat):List BV:=bdR rs l0 l1++bdC 0 cs l2 l3
def KC (L:Nat):Nat:=4+256*(2*L+2)
def CmbAns (L:Nat) (w w':World) (e:Ending) (er:Int) (cs:List CV) (bs:List BV):Prop:=Below w.heap.size w w' ∧
 ((er≠0∧e=.returned (.tuple #[.slice none 0 0,.agg #[.bool false,.slice none 0 0,.slice none 0 0],.int .i64 er]))∨(er=0∧bs.any infB=true∧e=.returned (.tuple #[.slice none 0 0,.agg #[.bool false,.slice none 0 0,.slice none 0 0],.int .i64 8])) ∨
  (er=0∧bs.any infB=false∧∃B s x n c f y m d g,(w.heap.size≤B∧B<w'.heap.size)∧e=.returned (.tuple #[.slice (some ⟨B,0,none⟩) cs.length cs.length,.agg #[.bool s,.slice x n c,.slice y m d],.int .i64 0])∧Rf (KC L) w' (some ⟨B,0,none⟩) ((List.range cs.length).map (cmbQ bs))∧Rn (KC L) w' s x n c f y m d g (cmbS bs)))
theorem Bk.sx {w B s x n c y m d t} (h:Bk w B [.bool s,.slice x n c,.slice y m d] t):Sx w B s x n c y m d:=⟨h.lt,h.cell (j:=0) rfl,h.cell (j:=1) rfl,h.cell (j:=2) rfl,h.frozen⟩
theorem Ob.sx {w B} (h:Ob w B):Sx w B false none 0 0 none 0 0:=⟨h.z,h.z0,h.z1,h.z2,h.zf⟩
theorem Ob.fr {F:Nat→Prop} {w w' B} (h:Ob w B) (hf:Fr F w w') (hn:¬F B):Ob w' B:=by
 have:=h.sx.fr hf hn;exact ⟨this.z,this.x0,this.x1,this.x2,this.fz⟩
theorem Rq.mono {K L w B i Q} (h:Rq K w B i Q) (hk:K≤L):Rq L w B i Q:=fun j hj=>by
 obtain ⟨t,h1,h2⟩:=h j hj;exact ⟨t,h1,h2.mono hk⟩
theorem range_map_get {α:Type} (f:Nat→α) (n j:Nat) (h:j<n):((List.range n).map f)[j]?=some (f j):=by simp [h]
set_option maxRecDepth 100000 in
set_option maxHeartbeats 8000000 in
theorem fCombine_v {w:World} {L:Nat} {M:Mo} {off:Rat} {cs:List CV} {rs:List RV} {a0 a1 a2 a3:Option Addr} {k0 c0 k1 c1 k2 c2 k3 c3:Nat} {X0 X1 X2 X3:Nat→Nm} {l0 l1 l2 l3:List Rat} {er:Int} (hW:MoW w M) (h0:Rl w a0 k0 X0) (h1:Rl w a1 k1 X1) (h2:Rl w a2 k2 X2) (h3:Rl w a3 k3 X3) (hk0:k0≤1048576) (hk1:k1≤1048576) (hk2:k2≤1048576) (hk3:k3≤1048576) (he:cbE M k0 X0 k1 X1 k2 X2 k3 X3=er)
  (hv:er=0→MoV L w M off cs rs∧mvOk cs rs=true∧(Rf L w a0 l0∧Rf L w a1 l1∧Rf L w a2 l2∧Rf L w a3 l3)∧(l0.length=k0∧l1.length=k1∧l2.length=k2∧l3.length=k3)∧(k0=rs.length∧k1=rs.length∧k2=cs.length∧k3=cs.length)) (hL1:4≤L) (hL2:L≤100) :
  Calls Tryz.prog 9 #[M.val,.agg #[.slice a0 k0 c0,.slice a1 k1 c1,.slice a2 k2 c2,.slice a3 k3 c3]] w fun e w'=>CmbAns L w w' e er cs (bdA cs rs l0 l1 l2 l3):=by
 have CC:=hid (fun W (hW2:Below w.heap.size w W)=>check_w (hW.below hW2));have CN:=hid (fun W (hW2:Below w.heap.size w W)=>fcheck_c (M:=M) (c0:=c0) (c1:=c1) (c2:=c2) (c3:=c3) (h0.below hW2) (h1.below hW2) (h2.below hW2) (h3.below hW2) hk0 hk1 hk2 hk3);have HE:=hid he;unfold cbE at he;obtain ⟨e0,he0⟩:∃e,chkE M=e:=⟨_,rfl⟩;rw [he0] at CC he;obtain ⟨e1,he1⟩:∃e,fctE M.ck M.rk k0 X0 k1 X1 k2 X2 k3 X3=e:=⟨_,rfl⟩;rw [he1] at CN he;have HE2:=hid he;have HV:=hid hv
 clear hW h0 h1 h2 h3 he he0 he1 hv;obtain ⟨⟨s,x,n,c,f,y,m,d,g⟩,ca,ck,cc,C,ra,rk,rc,R⟩:=M;replace CC:Hid (∀W,Below w.heap.size w W→Calls Tryz.prog 27 #[.agg #[.bool s,.slice x n c,.slice y m d,.slice ca ck cc,.slice ra rk rc]] W fun r w'=>r=.returned (.int .i64 e0)∧Below W.heap.size W w'):=CC;replace CN:Hid (∀W,Below w.heap.size w W→Calls Tryz.prog 28 #[.agg #[.bool s,.slice x n c,.slice y m d,.slice ca ck cc,.slice ra rk rc],.agg #[.slice a0 k0 c0,.slice a1 k1 c1,.slice a2 k2 c2,.slice a3 k3 c3]] W fun r w'=>r=.returned (.int .i64 e1)∧Below W.heap.size W w'):=CN;show Calls Tryz.prog 9 #[.agg #[.bool s,.slice x n c,.slice y m d,.slice ca ck cc,.slice ra rk rc],.agg #[.slice a0 k0 c0,.slice a1 k1 c1,.slice a2 k2 c2,.slice a3 k3 c3]] w _;have hb:=below_alloc (below_alloc (below_alloc (Below.refl w.heap.size w) (.cells #[.bool s,.slice x n c,.slice y m d,.slice ca ck cc,.slice ra rk rc] 28)) (.cells #[.slice a0 k0 c0,.slice a1 k1 c1,.slice a2 k2 c2,.slice a3 k3 c3] 31)) (.cells #[.bool false,.slice none 0 0,.slice none 0 0] 24);have B1:Bk (((w.alloc (.cells #[.bool s,.slice x n c,.slice y m d,.slice ca ck cc,.slice ra rk rc] 28)).alloc (.cells #[.slice a0 k0 c0,.slice a1 k1 c1,.slice a2 k2 c2,.slice a3 k3 c3] 31)).alloc (.cells #[.bool false,.slice none 0 0,.slice none 0 0] 24)) w.heap.size [.bool s,.slice x n c,.slice y m d,.slice ca ck cc,.slice ra rk rc] 28:=((bk_new w [.bool s,.slice x n c,.slice y m d,.slice ca ck cc,.slice ra rk rc] 28).below (below_alloc (Below.refl _ _) _)).below (below_alloc (Below.refl _ _) _);have B2:Bk (((w.alloc (.cells #[.bool s,.slice x n c,.slice y m d,.slice ca ck cc,.slice ra rk rc] 28)).alloc (.cells #[.slice a0 k0 c0,.slice a1 k1 c1,.slice a2 k2 c2,.slice a3 k3 c3] 31)).alloc (.cells #[.bool false,.slice none 0 0,.slice none 0 0] 24)) (w.heap.size+1) [.slice a0 k0 c0,.slice a1 k1 c1,.slice a2 k2 c2,.slice a3 k3 c3] 31:=by
  have:=bk_new (w.alloc (.cells #[.bool s,.slice x n c,.slice y m d,.slice ca ck cc,.slice ra rk rc] 28)) [.slice a0 k0 c0,.slice a1 k1 c1,.slice a2 k2 c2,.slice a3 k3 c3] 31;rw [size_alloc1] at this;exact this.below (below_alloc (Below.refl _ _) _)
 have hob:Ob (((w.alloc (.cells #[.bool s,.slice x n c,.slice y m d,.slice ca ck cc,.slice ra rk rc] 28)).alloc (.cells #[.slice a0 k0 c0,.slice a1 k1 c1,.slice a2 k2 c2,.slice a3 k3 c3] 31)).alloc (.cells #[.bool false,.slice none 0 0,.slice none 0 0] 24)) (w.heap.size+1+1):=by
  have:=ob_new ((w.alloc (.cells #[.bool s,.slice x n c,.slice y m d,.slice ca ck cc,.slice ra rk rc] 28)).alloc (.cells #[.slice a0 k0 c0,.slice a1 k1 c1,.slice a2 k2 c2,.slice a3 k3 c3] 31)) 24;rw [size_alloc1,size_alloc1] at this;exact this
 have HB:=hid hb;have BM:=hid B1;have BK:=hid B2;have OB:=hid hob
 clear hb B1 B2 hob;go_enter Tryz.func9,Tryz.ntmps9;go_upto_region 1 with fail
 generalize (((w.alloc (.cells #[.bool s,.slice x n c,.slice y m d,.slice ca ck cc,.slice ra rk rc] 28)).alloc (.cells #[.slice a0 k0 c0,.slice a1 k1 c1,.slice a2 k2 c2,.slice a3 k3 c3] 31)).alloc (.cells #[.bool false,.slice none 0 0,.slice none 0 0] 24))=w1 at *;have hbd:=Below.drew (Below.refl w1.heap.size w1);replace HB:=hid (HB.out.trans (hbd.mono HB.out.size));replace BM:=hid (BM.out.below hbd);replace BK:=hid (BK.out.below hbd);replace OB:=hid (OB.out.below hbd)
 clear hbd;have r0:=BM.out.cell (j:=0) rfl;have r1:=BM.out.cell (j:=1) rfl;have r2:=BM.out.cell (j:=2) rfl;have r3:=BM.out.cell (j:=3) rfl;have r4:=BM.out.cell (j:=4) rfl;have p0:=BK.out.cell (j:=0) rfl;have p1:=BK.out.cell (j:=1) rfl;have p2:=BK.out.cell (j:=2) rfl;have p3:=BK.out.cell (j:=3) rfl;refine wp_region_held_drew (S:=(fun w'=>w'.cell? ⟨w.heap.size,0,none⟩=some (.bool s)∧w'.cell? ⟨w.heap.size,1,none⟩=some (.slice x n c)∧w'.cell? ⟨w.heap.size,2,none⟩=some (.slice y m d)∧w'.cell? ⟨w.heap.size,3,none⟩=some (.slice ca ck cc)∧w'.cell? ⟨w.heap.size,4,none⟩=some (.slice ra rk rc)∧w'.cell? ⟨w.heap.size+1,0,none⟩=some (.slice a0 k0 c0)∧w'.cell? ⟨w.heap.size+1,1,none⟩=some (.slice a1 k1 c1)∧w'.cell? ⟨w.heap.size+1,2,none⟩=some (.slice a2 k2 c2)∧w'.cell? ⟨w.heap.size+1,3,none⟩=some (.slice a3 k3 c3))) (by kernel_rfl) ?_ (fun hHeld=>?_)
 ·exact ⟨r0,r1,r2,r3,r4,p0,p1,p2,p3⟩
 generalize w1.drew=wd at *;have HW:=hid (Below.refl wd.heap.size wd);replace CC:=hid (fun W (hW:Below wd.heap.size wd W)=>CC.out W (HB.out.trans (hW.mono HB.out.size)));replace CN:=hid (fun W (hW:Below wd.heap.size wd W)=>CN.out W (HB.out.trans (hW.mono HB.out.size)));refine tkO 0 ?_;simp only [lay_,Act.put];refine tkO 2 ?_;simp only [lay_,Act.put];refine tkO 3 ?_;simp only [lay_,Act.put];refine wpAnyH_ready (rs:=[1]) (by kernel_rfl) (by simp) ?_;refine AllReadyH.cons (o:=_) rfl (fun K hK=>?_) ?_;rotate_left;exact AllReadyH.nil;go_simp
 go_at_call 27
 refine (CC.out _ HW.out).mono ?_;rintro e w2 ⟨rfl,hb0⟩;have HW0:=hid (HW.out.trans (hb0.mono HW.out.size))
 (try go_wp2_with fail)
 refine hK.out _ _ ?_ (fun hH0=>?_)
 ·((try dsimp only);(refine ⟨?_,?_,?_,?_,?_,?_,?_,?_,?_⟩ <;> repeat (with_reducible first | assumption | refine kCb (by assumption) ?_)))
 clear hK K;try simp only [lay_,Act.put]
 refine wpAnyH_ready (rs:=[4]) (by kernel_rfl) (by simp) ?_;refine AllReadyH.cons (o:=_) rfl (fun K hK=>?_) ?_;rotate_left;exact AllReadyH.nil;go_simp
 go_at_call 28
 refine (CN.out _ HW0.out).mono ?_;rintro e w3 ⟨rfl,hb1⟩;have HW1:=hid (HW0.out.trans (hb1.mono HW0.out.size))
 (try go_wp2_with fail)
 refine hK.out _ _ ?_ (fun hH1=>?_)
 ·((try dsimp only);(refine ⟨?_,?_,?_,?_,?_,?_,?_,?_,?_⟩ <;> repeat (with_reducible first | assumption | refine kCb (by assumption) ?_)))
 clear hK K;try simp only [lay_,Act.put]
 refine wpAnyH_ready (rs:=[5]) (by kernel_rfl) (by simp) ?_;refine AllReadyH.cons (o:=_) rfl (fun K hK=>?_) ?_;rotate_left;exact AllReadyH.nil;go_simp;have hbA:=below_alloc (Below.refl w3.heap.size w3) (.cells #[.int .i64 e0,.int .i64 e1] 37);have HEl:=hid (two_el (w:=w3) (a:=e0) (b:=e1) (t:=37));have HWA:=hid (HW1.out.trans (hbA.mono HW1.out.size));obtain ⟨gA,hgA⟩:∃z,w3.heap.size=z:=⟨_,rfl⟩;rw [hgA] at HEl ⊢;generalize hwA:w3.alloc (.cells #[.int .i64 e0,.int .i64 e1] 37)=wA at *;clear hwA hgA;refine hK.out _ _ ?_ (fun hHA=>?_)
 ·((try dsimp only);(refine ⟨?_,?_,?_,?_,?_,?_,?_,?_,?_⟩ <;> repeat (with_reducible first | assumption | refine kCb (by assumption) ?_)))
 clear hK K;try simp only [lay_,Act.put]
 refine wpAnyH_ready (rs:=[6]) (by kernel_rfl) (by simp) ?_;refine AllReadyH.cons (o:=_) rfl (fun K hK=>?_) ?_;rotate_left;exact AllReadyH.nil;go_simp
 go_at_call 26
 refine (least_c HEl.out (by decide)).mono ?_;rintro e w9 ⟨rfl,rfl⟩
 (try go_wp2_with fail)
 refine hK.out _ _ ?_ (fun hHB=>?_)
 ·exact hHA
 clear hK K;try simp only [lay_,Act.put]
 refine tkO 7 ?_;simp only [lay_,Act.put];refine wpAnyH_done (by kernel_rfl) ?_ _;simp only [show lsf (two e0 e1) 2=er from HE2.out];replace HB:=hid (HB.out.trans (HWA.out.mono HB.out.size));replace BM:=hid (BM.out.below HWA.out);replace BK:=hid (BK.out.below HWA.out);replace OB:=hid (OB.out.below HWA.out)
 clear hHeld hH0 hH1 hHA hHB hb0 hb1 hbA r0 r1 r2 r3 r4 p0 p1 p2 p3 HEl CC CN HW HW0 HW1 HE2 HWA;by_cases h0:er=0
 case neg =>
  have h1:(er != 0)=true:=by simpa using h0
  have H0:=hid h0;obtain ⟨hz,z0,z1,z2,zf⟩:=OB.out;go_wp2;exact bodyPost_ret (v:=.tuple #[.slice none 0 0,.agg #[.bool false,.slice none 0 0,.slice none 0 0],.int .i64 er]) (by simp [results,Tryz.results9,go_sem,z0,z1,z2]) rfl ⟨below_st HB.out (by omega),.inl ⟨H0.out,rfl⟩⟩
 obtain ⟨v1,v2,⟨x0,x1,x2,x3⟩,hl,hkk⟩:=HV.out h0;have mp:=mvOk_p v2;have hTS:∀v ∈ rs,tsB cs.length (-1) v.ts=true:=fun v hv=>by
  simp only [mvOk,Bool.and_eq_true,decide_eq_true_eq,List.all_eq_true] at v2;exact (v2.2.2.2.1 v hv).2.1
 subst h0;have hck:ck=cs.length:=v1.ck;have hrk:rk=rs.length:=v1.rk;subst hck;subst hrk
 have hcn:=mp.cl;have HM:=hid v1;have HP:=hid mp;have HTS:=hid hTS;have HX:=hid (And.intro x0 (And.intro x1 (And.intro x2 x3)));have HL:=hid hl;have HK:=hid hkk
 clear v1 v2 x0 x1 x2 x3 hl hkk mp hTS HV;have r0:=BM.out.cell (j:=0) rfl;have r1:=BM.out.cell (j:=1) rfl;have r2:=BM.out.cell (j:=2) rfl;have r3:=BM.out.cell (j:=3) rfl;have r4:=BM.out.cell (j:=4) rfl;have p0:=BK.out.cell (j:=0) rfl;have p1:=BK.out.cell (j:=1) rfl;have p2:=BK.out.cell (j:=2) rfl;have p3:=BK.out.cell (j:=3) rfl;go_wp2_with fail
 clear r0 r1 r2 r3 r4 p0 p1 p2 p3
 go_at_call 29
 refine (anyInf_c (HM.out.below HB.out) HP.out HTS.out (HX.out.1.below HB.out) (HX.out.2.1.below HB.out) (HX.out.2.2.1.below HB.out) (HX.out.2.2.2.below HB.out) HL.out HK.out hL1).mono ?_;rintro e w2 ⟨rfl,hb2⟩;replace HB:=hid (HB.out.trans (hb2.mono HB.out.size));replace BM:=hid (BM.out.below hb2);replace BK:=hid (BK.out.below hb2);replace OB:=hid (OB.out.below hb2)
 clear hb2;obtain ⟨ib,hib⟩:∃t,(bdR rs l0 l1++bdC 0 cs l2 l3).any infB=t:=⟨_,rfl⟩;rw [hib];have HIB:=hid hib;clear hib;cases ib
 case true =>
  obtain ⟨hz,z0,z1,z2,zf⟩:=OB.out;go_wp2;exact bodyPost_ret (v:=.tuple #[.slice none 0 0,.agg #[.bool false,.slice none 0 0,.slice none 0 0],.int .i64 8]) (by simp [results,Tryz.results9,go_sem,z0,z1,z2]) rfl ⟨below_st HB.out (by omega),.inr (.inl ⟨rfl,HIB.out,rfl⟩)⟩
 have r3:=BM.out.cell (j:=3) rfl;go_wp2_with fail
 clear r3
 go_at_call 30
 refine (noughts_c hcn).mono ?_;rintro e w3 ⟨BL,rfl,hBL,hb3,hrk3,hrq3⟩;have hOB:=OB.out.z;have hBL2:w.heap.size≤BL:=Nat.le_trans HB.out.size hBL;have hBLO:w.heap.size+1+1<BL:=Nat.lt_of_lt_of_le hOB hBL;replace HB:=hid (HB.out.trans (hb3.mono HB.out.size));replace BM:=hid (BM.out.below hb3);replace BK:=hid (BK.out.below hb3);replace OB:=hid (OB.out.below hb3)
 have RK:=hid hrk3;have RQ:=hid hrq3
 clear hb3 hrk3 hrq3 hOB hBL;go_wp2_with fail
 go_at_call 31
 refine (rOf_c (z:=0) (by decide) (by decide)).mono ?_;rintro e w4 ⟨s9,x9,n9,c9,f9,y9,m9,d9,g9,rfl,hb4,hq4⟩;have hBL4:BL<w4.heap.size:=Nat.lt_of_lt_of_le RK.out.z hb4.size;go_upto_region 7 with fail
 have hbn:=below_alloc (below_alloc (Below.refl w4.heap.size w4) (.cells #[.slice (some ⟨BL,0,none⟩) cs.length cs.length] 29)) (.cells #[.bool s9,.slice x9 n9 c9,.slice y9 m9 d9] 24);have hb45:=hb4.trans (hbn.mono hb4.size);have BXL:Bk ((w4.alloc (.cells #[.slice (some ⟨BL,0,none⟩) cs.length cs.length] 29)).alloc (.cells #[.bool s9,.slice x9 n9 c9,.slice y9 m9 d9] 24)) w4.heap.size [.slice (some ⟨BL,0,none⟩) cs.length cs.length] 29:=(bk_new w4 [.slice (some ⟨BL,0,none⟩) cs.length cs.length] 29).below (below_alloc (Below.refl _ _) _);have BXR:Bk ((w4.alloc (.cells #[.slice (some ⟨BL,0,none⟩) cs.length cs.length] 29)).alloc (.cells #[.bool s9,.slice x9 n9 c9,.slice y9 m9 d9] 24)) (w4.heap.size+1) [.bool s9,.slice x9 n9 c9,.slice y9 m9 d9] 24:=by
  have:=bk_new (w4.alloc (.cells #[.slice (some ⟨BL,0,none⟩) cs.length cs.length] 29)) [.bool s9,.slice x9 n9 c9,.slice y9 m9 d9] 24;rw [size_alloc1] at this;exact this
 replace HB:=hid (HB.out.trans (hb45.mono HB.out.size));replace BM:=hid (BM.out.below hb45);replace BK:=hid (BK.out.below hb45);replace OB:=hid (OB.out.below hb45)
 have CI:Hid (CmI (KC L) (2*L+2) cs.length BL w4.heap.size (w4.heap.size+1) [] ((w4.alloc (.cells #[.slice (some ⟨BL,0,none⟩) cs.length cs.length] 29)).alloc (.cells #[.bool s9,.slice x9 n9 c9,.slice y9 m9 d9] 24))):=⟨BXL,RK.out.below hb45,(RQ.out.below hb45).mono (by unfold KC;omega),⟨s9,x9,n9,c9,f9,y9,m9,d9,g9,BXR.sx,(hq4.below hbn).mono (by unfold KC;omega)⟩,fun _=>lo_zero (by omega),lo_zero (by omega)⟩;have hz5:=BXR.lt;clear hb4 hq4 hbn hb45 BXL BXR RK RQ;generalize hw5:((w4.alloc (.cells #[.slice (some ⟨BL,0,none⟩) cs.length cs.length] 29)).alloc (.cells #[.bool s9,.slice x9 n9 c9,.slice y9 m9 d9] 24))=w5 at *;clear hw5;generalize w4.heap.size=xl at *;have r0:=BM.out.cell (j:=0) rfl;have r1:=BM.out.cell (j:=1) rfl;have r2:=BM.out.cell (j:=2) rfl;have r3:=BM.out.cell (j:=3) rfl;have r4:=BM.out.cell (j:=4) rfl;have p0:=BK.out.cell (j:=0) rfl;have p1:=BK.out.cell (j:=1) rfl;have p2:=BK.out.cell (j:=2) rfl;have p3:=BK.out.cell (j:=3) rfl;go_wp2_with fail
 clear r0 r1 r2 r3 r4 p0 p1 p2 p3
 go_at_call 32
 have hF:∀k,(k=BL∨k=xl+1)→w.heap.size≤k∧k<w5.heap.size:=fun k hk=>by rcases hk with rfl | rfl <;> exact ⟨by omega,by omega⟩
 refine (through_c (w0:=w) (F:=fun k=>k=BL∨k=xl+1) (I:=CmI (KC L) (2*L+2) cs.length BL xl (xl+1)) HB.out hF HM.out HP.out HTS.out HX.out.1 HX.out.2.1 HX.out.2.2.1 HX.out.2.2.2 HL.out HK.out hL1 (fun _ _=>rfl) (fun l W W' h hb=>h.below hb) (fun l b B W hlen hts hnf hbW hsz hI hB=>vComb_c hlen hts hnf hI hB (by omega) hL2 (by unfold KC;omega) (by unfold KC;omega) hcn (by omega) (by omega) (by omega)) CI.out).mono ?_;rintro e w6 ⟨rfl,hf,hI⟩;obtain ⟨hxl,hrk,hrq,⟨s7,x7,n7,c7,f7,y7,m7,d7,g7,hsx,hrn⟩,_,_⟩:=hI;have HB6:=hid (Fr.below HB.out hf (fun k hk=>(hF k hk).1));have OB6:=hid (OB.out.fr hf (fun e=>by rcases e with e | e <;> omega));have RQ:=hid hrq;have RN:=hid hrn;have RK:=hid hrk
 have e0:=hxl.cell (j:=0) rfl;have v0:=hsx.x0;have v1:=hsx.x1;have v2:=hsx.x2
 clear hf hxl hrk hrq hsx hrn HB OB CI hF;go_upto_region 8 with fail
 have hbd:=Below.drew (Below.refl w6.heap.size w6);replace HB6:=hid (HB6.out.trans (hbd.mono HB6.out.size));replace OB6:=hid (OB6.out.below hbd);replace RQ:=hid (RQ.out.below hbd);replace RN:=hid (RN.out.below hbd);replace RK:=hid (RK.out.below hbd)
 clear hbd;refine wp_region_phase (S:=(fun w'=>w'.cell? ⟨xl,0,none⟩=some (.slice (some ⟨BL,0,none⟩) cs.length cs.length)∧w'.cell? ⟨xl+1,0,none⟩=some (.bool s7)∧w'.cell? ⟨xl+1,1,none⟩=some (.slice x7 n7 c7)∧w'.cell? ⟨xl+1,2,none⟩=some (.slice y7 m7 d7))) 3 (by kernel_rfl) ⟨kCd e0,kCd v0,kCd v1,kCd v2⟩ (fun hHeld=>?_);clear e0 v0 v1 v2;generalize w6.drew=w7 at *;refine wpAnyP_takeA (i:=0) (v:=?_) rfl (by kernel_rfl) (by kernel_rfl) (by kernel_rfl) (by kernel_rfl) (by kernel_rfl) (by kernel_rfl) (fun _ _ _ h=>h) (Or.inl ⟨by rfl,?_⟩) (by assumption) ?_;rotate_left
 (focus (intro w0 hSw;(try dsimp only at hSw);go_simp <;> with_reducible rfl))
 simp only [List.getElem_toArray,List.getElem_cons_zero,Act.put,List.setIfInBounds_toArray,List.set_cons_zero,List.set_cons_succ];refine wpAnyP_takeA (i:=1) (v:=?_) rfl (by kernel_rfl) (by kernel_rfl) (by kernel_rfl) (by kernel_rfl) (by kernel_rfl) (by kernel_rfl) (fun _ _ _ h=>h) (Or.inl ⟨by rfl,?_⟩) (by assumption) ?_;rotate_left
 (focus (intro w0 hSw;(try dsimp only at hSw);go_simp <;> with_reducible rfl))
 simp only [List.getElem_toArray,List.getElem_cons_succ,List.getElem_cons_zero,Act.put,List.setIfInBounds_toArray,List.set_cons_zero,List.set_cons_succ];refine wpAnyP_skim (i:=2) (v:=?_) rfl (by kernel_rfl) (by kernel_rfl) (by kernel_rfl) (by kernel_rfl) (fun _ _ _ h=>h) (Or.inl ⟨by rfl,?_⟩) (fun _=>by assumption) ?_;rotate_left
 (focus (intro w0 hSw;go_simp <;> with_reducible rfl))
 simp only [List.getElem_toArray,List.getElem_cons_succ,List.getElem_cons_zero,Act.put,List.setIfInBounds_toArray,List.set_cons_zero,List.set_cons_succ];refine wpAnyP_ready (rs:=[3]) (by kernel_rfl) (by simp) ?_;refine AllReadyP.cons (o:=_) rfl (fun K hK=>?_) ?_;rotate_left;exact AllReadyP.nil;obtain ⟨hz,z0,z1,z2,zf⟩:=OB6.out;go_simp;refine hK.out _ _ (fun h=>by cases h) (fun _=>?_);clear hK K;try simp only [Act.put,List.setIfInBounds_toArray,List.set_cons_zero,List.set_cons_succ]
 refine wpAnyP_skim (i:=4) (v:=?_) rfl (by kernel_rfl) (by kernel_rfl) (by kernel_rfl) (by kernel_rfl) (fun _ _ _ h=>h) (Or.inl ⟨by rfl,?_⟩) (fun h=>by cases h) ?_;rotate_left
 (focus (intro w0 hSw;go_simp <;> with_reducible rfl))
 simp only [List.getElem_toArray,List.getElem_cons_succ,List.getElem_cons_zero,Act.put,List.setIfInBounds_toArray,List.set_cons_zero,List.set_cons_succ];refine wpAnyP_done (by kernel_rfl) ?_ _;clear hHeld;have FG:=hid (sx_fr (u0:=.bool s7) (u1:=.slice x7 n7 c7) (u2:=.slice y7 m7 d7) OB6.out.sx);go_wp2;exact bodyPost_ret (v:=.tuple #[.slice (some ⟨BL,0,none⟩) cs.length cs.length,.agg #[.bool s7,.slice x7 n7 c7,.slice y7 m7 d7],.int .i64 0]) (by simp [results,Tryz.results9,go_sem,z0,z1,z2]) rfl ⟨below_st HB6.out (by omega),.inr (.inr ⟨rfl,HIB.out,BL,s7,x7,n7,c7,f7,y7,m7,d7,g7,⟨hBL2,by simpa [World.setCell] using RK.out.z⟩,rfl,(RQ.out.fr FG.out (by omega)).rf (by simp) (fun j hj=>range_map_get _ _ _ hj),OB6.out.rn RN.out⟩)⟩
def vldB (er:Int) (n:Nat) (bs:List BV):Bool:=decide (er=0) && (!bs.any infB && (!bs.any negB && (((List.range n).map (cmbQ bs)).all (fun q=>decide (q=0)) && decide (0<cmbS bs))))
theorem pos_sg {L w s x n c f y m d g} {q:Rat} (h:Rn L w s x n c f y m d g q):(!s && !decide (n=0))=decide (0<q):=by
 have h1:=h.sg;have h2:=h.q_zero
 rw [h1];by_cases hz:q=0
 ·have:=h2.1 hz;subst hz;simp [this]
 ·have h3:n≠0:=fun e=>hz (h2.2 e)
  rcases (show q<0∨0<q by grind) with h | h
  ·have:¬(0<q):=fun e=>by grind
   simp [h,this]
  ·have:¬(q<0):=fun e=>by grind
   simp [this,h,h3]
set_option maxRecDepth 100000 in
set_option maxHeartbeats 8000000 in
theorem fValid_v {w:World} {L:Nat} {M:Mo} {off:Rat} {cs:List CV} {rs:List RV} {a0 a1 a2 a3:Option Addr} {k0 c0 k1 c1 k2 c2 k3 c3:Nat} {X0 X1 X2 X3:Nat→Nm} {l0 l1 l2 l3:List Rat} {er:Int} (hW:MoW w M) (h0:Rl w a0 k0 X0) (h1:Rl w a1 k1 X1) (h2:Rl w a2 k2 X2) (h3:Rl w a3 k3 X3) (hk0:k0≤1048576) (hk1:k1≤1048576) (hk2:k2≤1048576) (hk3:k3≤1048576) (he:cbE M k0 X0 k1 X1 k2 X2 k3 X3=er)
  (hv:er=0→MoV L w M off cs rs∧mvOk cs rs=true∧(Rf L w a0 l0∧Rf L w a1 l1∧Rf L w a2 l2∧Rf L w a3 l3)∧(l0.length=k0∧l1.length=k1∧l2.length=k2∧l3.length=k3)∧(k0=rs.length∧k1=rs.length∧k2=cs.length∧k3=cs.length)) (hL1:4≤L) (hL2:L≤100) :
  Calls Tryz.prog 16 #[M.val,.agg #[.slice a0 k0 c0,.slice a1 k1 c1,.slice a2 k2 c2,.slice a3 k3 c3]] w fun e w'=>e=.returned (.tuple #[.bool (decide (chkE M=0) && vldB er cs.length (bdA cs rs l0 l1 l2 l3)),.int .i64 (chkE M)])∧Below w.heap.size w w':=by
 have CC:=hid (fun W (hW2:Below w.heap.size w W)=>check_w (hW.below hW2));have CB:=hid (fun W (hW2:Below w.heap.size w W)=>fCombine_v (c0:=c0) (c1:=c1) (c2:=c2) (c3:=c3) (hW.below hW2) (h0.below hW2) (h1.below hW2) (h2.below hW2) (h3.below hW2) hk0 hk1 hk2 hk3 he (fun h=>by obtain ⟨v1,v2,⟨x0,x1,x2,x3⟩,hl,hk⟩:=hv h;exact ⟨v1.below hW2,v2,⟨x0.below hW2,x1.below hW2,x2.below hW2,x3.below hW2⟩,hl,hk⟩) hL1 hL2);have HV:=hid hv;clear hW h0 h1 h2 h3 he hv;obtain ⟨e0,he0⟩:∃e,chkE M=e:=⟨_,rfl⟩;rw [he0] at CC ⊢;clear he0;obtain ⟨bs,hbs⟩:∃t,bdA cs rs l0 l1 l2 l3=t:=⟨_,rfl⟩;rw [hbs] at CB ⊢;have HBS:=hid hbs;clear hbs;obtain ⟨⟨s,x,n,c,f,y,m,d,g⟩,ca,ck,cc,C,ra,rk,rc,R⟩:=M;replace CC:Hid (∀W,Below w.heap.size w W→Calls Tryz.prog 27 #[.agg #[.bool s,.slice x n c,.slice y m d,.slice ca ck cc,.slice ra rk rc]] W fun r w'=>r=.returned (.int .i64 e0)∧Below W.heap.size W w'):=CC;replace CB:Hid (∀W,Below w.heap.size w W→Calls Tryz.prog 9 #[.agg #[.bool s,.slice x n c,.slice y m d,.slice ca ck cc,.slice ra rk rc],.agg #[.slice a0 k0 c0,.slice a1 k1 c1,.slice a2 k2 c2,.slice a3 k3 c3]] W fun e w'=>CmbAns L W w' e er cs bs):=CB;show Calls Tryz.prog 16 #[.agg #[.bool s,.slice x n c,.slice y m d,.slice ca ck cc,.slice ra rk rc],.agg #[.slice a0 k0 c0,.slice a1 k1 c1,.slice a2 k2 c2,.slice a3 k3 c3]] w _;have hb:=below_alloc (below_alloc (Below.refl w.heap.size w) (.cells #[.bool s,.slice x n c,.slice y m d,.slice ca ck cc,.slice ra rk rc] 28)) (.cells #[.slice a0 k0 c0,.slice a1 k1 c1,.slice a2 k2 c2,.slice a3 k3 c3] 31);have B1:Bk ((w.alloc (.cells #[.bool s,.slice x n c,.slice y m d,.slice ca ck cc,.slice ra rk rc] 28)).alloc (.cells #[.slice a0 k0 c0,.slice a1 k1 c1,.slice a2 k2 c2,.slice a3 k3 c3] 31)) w.heap.size [.bool s,.slice x n c,.slice y m d,.slice ca ck cc,.slice ra rk rc] 28:=(bk_new w [.bool s,.slice x n c,.slice y m d,.slice ca ck cc,.slice ra rk rc] 28).below (below_alloc (Below.refl _ _) _);have B2:Bk ((w.alloc (.cells #[.bool s,.slice x n c,.slice y m d,.slice ca ck cc,.slice ra rk rc] 28)).alloc (.cells #[.slice a0 k0 c0,.slice a1 k1 c1,.slice a2 k2 c2,.slice a3 k3 c3] 31)) (w.heap.size+1) [.slice a0 k0 c0,.slice a1 k1 c1,.slice a2 k2 c2,.slice a3 k3 c3] 31:=by
  have:=bk_new (w.alloc (.cells #[.bool s,.slice x n c,.slice y m d,.slice ca ck cc,.slice ra rk rc] 28)) [.slice a0 k0 c0,.slice a1 k1 c1,.slice a2 k2 c2,.slice a3 k3 c3] 31;rw [size_alloc1] at this;exact this
 have HB:=hid hb;have BM:=hid B1;have BK:=hid B2
 clear hb B1 B2;go_enter Tryz.func16,Tryz.ntmps16;go_upto_region 1 with fail
 generalize ((w.alloc (.cells #[.bool s,.slice x n c,.slice y m d,.slice ca ck cc,.slice ra rk rc] 28)).alloc (.cells #[.slice a0 k0 c0,.slice a1 k1 c1,.slice a2 k2 c2,.slice a3 k3 c3] 31))=w1 at *;have r0:=BM.out.cell (j:=0) rfl;have r1:=BM.out.cell (j:=1) rfl;have r2:=BM.out.cell (j:=2) rfl;have r3:=BM.out.cell (j:=3) rfl;have r4:=BM.out.cell (j:=4) rfl;go_wp2_with fail
 clear r0 r1 r2 r3 r4
 go_at_call 27
 refine (CC.out _ HB.out).mono ?_;rintro e w2 ⟨rfl,hb2⟩;replace HB:=hid (HB.out.trans (hb2.mono HB.out.size));replace BM:=hid (BM.out.below hb2);replace BK:=hid (BK.out.below hb2)
 clear hb2;clear CC;by_cases h0:e0=0
 case neg =>
  have h1:(e0 != 0)=true:=by simpa using h0
  have HE:Hid (decide (e0=0)=false):=decide_eq_false h0;clear h0;go_wp2
  go_ret2
  exact ⟨by rw [HE.out];rfl,HB.out⟩
 subst h0;have r0:=BM.out.cell (j:=0) rfl;have r1:=BM.out.cell (j:=1) rfl;have r2:=BM.out.cell (j:=2) rfl;have r3:=BM.out.cell (j:=3) rfl;have r4:=BM.out.cell (j:=4) rfl;have p0:=BK.out.cell (j:=0) rfl;have p1:=BK.out.cell (j:=1) rfl;have p2:=BK.out.cell (j:=2) rfl;have p3:=BK.out.cell (j:=3) rfl;go_wp2_with fail
 clear r0 r1 r2 r3 r4;clear p0 p1 p2 p3
 go_at_call 9
 refine (CB.out _ HB.out).mono ?_;clear CB;rintro e w3 ⟨hb3,⟨h0,rfl⟩ | ⟨h0,hinf,rfl⟩ | ⟨h0,hinf,B,s7,x7,n7,c7,f7,y7,m7,d7,g7,hBB,rfl,hrf,hrn⟩⟩
 ·have h1:(er != 0)=true:=by simpa using h0
  have HE:Hid (vldB er cs.length bs=false):=by show _=_;rw [vldB,decide_eq_false h0];rfl
  have HF:=hid (below_alloc (HB.out.trans (hb3.mono HB.out.size)) (.cells #[.bool false,.slice none 0 0,.slice none 0 0] 24));clear h0 hb3 HB BM BK;go_wp2
  go_ret2
  exact ⟨by rw [HE.out];rfl,HF.out⟩
 ·have HE:Hid (vldB er cs.length bs=false):=by show _=_;rw [vldB,hinf];simp
  have HF:=hid (below_alloc (HB.out.trans (hb3.mono HB.out.size)) (.cells #[.bool false,.slice none 0 0,.slice none 0 0] 24));clear h0 hinf hb3 HB BM BK;go_wp2
  go_ret2
  exact ⟨by rw [HE.out];rfl,HF.out⟩
 ·clear hBB;have HInf:=hid hinf;have HPS:=hid (pos_sg hrn);obtain ⟨v1,v2,⟨x0,x1,x2,x3⟩,hl,hkk⟩:=HV.out h0;have mp:=mvOk_p v2;have hTS:∀v ∈ rs,tsB cs.length (-1) v.ts=true:=fun v hv=>by
   simp only [mvOk,Bool.and_eq_true,decide_eq_true_eq,List.all_eq_true] at v2;exact (v2.2.2.2.1 v hv).2.1
  subst h0;have hcn:=mp.cl;have hbn:=below_alloc (Below.refl w3.heap.size w3) (.cells #[.bool s7,.slice x7 n7 c7,.slice y7 m7 d7] 24);have hb34:=hb3.trans (hbn.mono hb3.size);have BR:=hid (bk_new w3 [.bool s7,.slice x7 n7 c7,.slice y7 m7 d7] 24);replace BR:Hid (Bk (w3.alloc (.cells #[.bool s7,.slice x7 n7 c7,.slice y7 m7 d7] 24)) w3.heap.size [.bool s7,.slice x7 n7 c7,.slice y7 m7 d7] 24):=BR;have RF:=hid (hrf.below hbn);replace HB:=hid (HB.out.trans (hb34.mono HB.out.size));replace BM:=hid (BM.out.below hb34);replace BK:=hid (BK.out.below hb34)
  clear hb34;have CN:=hid (fun W (hW2:Below w.heap.size w W)=>anyBelow_c (e1:=c0) (e2:=c1) (e3:=c2) (e4:=c3) (v1.below hW2) mp hTS (x0.below hW2) (x1.below hW2) (x2.below hW2) (x3.below hW2) hl hkk hL1);rw [show bdR rs l0 l1++bdC 0 cs l2 l3=bs from HBS.out] at CN;replace CN:Hid (∀W,Below w.heap.size w W→Calls Tryz.prog 45 #[.agg #[.bool s,.slice x n c,.slice y m d,.slice ca ck cc,.slice ra rk rc],.agg #[.slice a0 k0 c0,.slice a1 k1 c1,.slice a2 k2 c2,.slice a3 k3 c3]] W fun e w'=>e=.returned (.bool (bs.any negB))∧Below W.heap.size W w'):=CN;have HLn:Hid (((List.range cs.length).map (cmbQ bs)).length=cs.length):=by show _=_;simp
  clear hinf v1 v2 x0 x1 x2 x3 hl hkk mp hTS HV hb3 hbn hrf hrn;have r0:=BM.out.cell (j:=0) rfl;have r1:=BM.out.cell (j:=1) rfl;have r2:=BM.out.cell (j:=2) rfl;have r3:=BM.out.cell (j:=3) rfl;have r4:=BM.out.cell (j:=4) rfl;have p0:=BK.out.cell (j:=0) rfl;have p1:=BK.out.cell (j:=1) rfl;have p2:=BK.out.cell (j:=2) rfl;have p3:=BK.out.cell (j:=3) rfl;go_wp2_with fail
  clear r0 r1 r2 r3 r4;clear p0 p1 p2 p3
  go_at_call 45
  generalize w3.alloc (.cells #[.bool s7,.slice x7 n7 c7,.slice y7 m7 d7] 24)=w4 at *;refine (CN.out _ HB.out).mono ?_;rintro e w5 ⟨rfl,hb5⟩;replace HB:=hid (HB.out.trans (hb5.mono HB.out.size));replace BR:=hid (BR.out.below hb5);replace RF:=hid (RF.out.below hb5)
  clear hb5 BM BK CN;obtain ⟨nb,hnb⟩:∃t,bs.any negB=t:=⟨_,rfl⟩;rw [hnb];have HNB:=hid hnb;clear hnb;cases nb
  case true =>
   have HE:Hid (vldB 0 cs.length bs=false):=by show _=_;rw [vldB,HNB.out];simp
   clear HNB HInf HPS HBS;go_wp2
   go_ret2
   exact ⟨by rw [HE.out];rfl,HB.out⟩
  go_wp2_with fail
  go_at_call 46
  refine (fallZero_c RF.out HLn.out (by omega)).mono ?_;rintro e w6 ⟨rfl,hb6⟩;replace HB:=hid (HB.out.trans (hb6.mono HB.out.size));replace BR:=hid (BR.out.below hb6)
  clear hb6 RF;obtain ⟨az,haz⟩:∃t,((List.range cs.length).map (cmbQ bs)).all (fun q=>decide (q=0))=t:=⟨_,rfl⟩;rw [haz];have HAZ:=hid haz;clear haz;cases az
  case false =>
   have HE:Hid (vldB 0 cs.length bs=false):=by show _=_;rw [vldB,HAZ.out];simp
   clear HAZ HNB HInf HPS HBS;go_wp2
   go_ret2
   exact ⟨by rw [HE.out];rfl,HB.out⟩
  have HE:Hid (vldB 0 cs.length bs=(!s7 && !decide (n7=0))):=by show _=_;rw [vldB,HAZ.out,HNB.out,HInf.out,HPS.out];simp
  clear HAZ HNB HInf HPS HBS;have b0:=BR.out.cell (j:=0) rfl;have b1:=BR.out.cell (j:=1) rfl;have b2:=BR.out.cell (j:=2) rfl
  cases s7
  case true =>
   go_wp2
   go_ret2
   exact ⟨by rw [HE.out];rfl,HB.out⟩
  go_wp2_with fail
  go_at_call 47
  refine (fisZero_c _ _ _ _ _ _ _ _).mono ?_;rintro e w7 ⟨rfl,hb7⟩;replace HB:=hid (HB.out.trans (hb7.mono HB.out.size));clear hb7 b0 b1 b2 BR;go_wp2
  go_ret2
  exact ⟨by rw [HE.out];rfl,HB.out⟩
end Go.Proofs.YtffblgeappcadaaGreat
