/-
 Walks.
-/
import Derived.Test.YtgmmlmmahdnnhaaGreatZ2
import Derived.Test.YtgmmlmmahdnnhaaGreatZ4
import Derived.Deep.RegionHeld3
import Derived.Test.YtgmmlmmahdnnhaaGreatZ3
import Derived.Test.YtgmmlmmahdnnhaaGreatZ0
import Derived.BigQuiet
import Derived.BigRegion
set_option maxRecDepth 100000
set_option maxHeartbeats 16000000
namespace Go.Proofs.YtgmmlmmahdnnhaaGreat
open Value (slice agg)
open Obj (cells)
open Ending (returned)
open Nat (le_refl le_trans)
open World (cell?_of_block block_lt_of_cell?)
open List (getElem?_eq_getElem)
open Go.Proofs.Tryz
open Go.RowKit
theorem Dw.kp {w w' base y m} (h:Dw w base y m) (hk:Kp w w'):Dw w' base y m:=λhm=>by
 obtain⟨b,h1,h2,⟨q,h3⟩,h4⟩:=h hm;have hl:=block_lt_of_cell? w _ h3;rcases hk.block b hl with e|⟨cur,t,fr,e,hu⟩
 ·exact⟨b,h1,h2,⟨q,(cell?_of_block (a:=⟨b,0,none⟩) e).trans h3⟩,by simp only[World.frozen?,e]at h4 ⊢;exact h4⟩
 ·exfalso;simp only[World.cell?,e]at h3;exact hu 0 q (by simpa using h3)
theorem Dw2.kp {w w' base t} (h:Dw2 w base t) (hk:Kp w w'):Dw2 w' base t:=⟨h.1.kp hk,h.2.kp hk⟩
theorem Rl.st {w w' ao k B X} (h:Rl w ao k X) (hk:Kp w w') (hne:∀b,b≠B->w'.heap[b]?=w.heap[b]?) (hnb:∀o s,w.cell? ⟨B,o,none⟩≠some (.bool s)):Rl w' ao k X:=λj hj=>by
 obtain⟨b,o,e,⟨c0,c1,c2⟩,h1,h2⟩:=h j hj;have hB:b≠B:=λe=>hnb _ _ (e ▸ c0)
 have hs:=hne b hB;exact⟨b,o,e,⟨(cell?_of_block (a:=⟨b,o+j*3,none⟩) hs).trans c0,(cell?_of_block (a:=⟨b,o+j*3+1,none⟩) hs).trans c1,(cell?_of_block (a:=⟨b,o+j*3+2,none⟩) hs).trans c2⟩,h1.kp hk,h2⟩
theorem zmm {w B vs t} (h:Bk w B vs t) (hv:∀v ∈ vs,∃a n c,v=Value.slice a n c):∀o s,w.cell? ⟨B,o,none⟩≠some (.bool s):=λo s e=>by
 unfold Bk at h;simp only[World.cell?,h]at e;have e':vs[o]?=some (.bool s):=by simpa using e
 obtain⟨a,n,c,h1⟩:=hv _ (List.mem_of_getElem? e');cases h1
def tri (e0 e1 e2:Int) (j:Nat):Int:=if j=0 then e0 else if j=1 then e1 else e2
theorem zkF {w:World} {e0 e1 e2 t}:El (w.alloc (cells #[.int .i64 e0,.int .i64 e1,.int .i64 e2] t)) (some ⟨w.heap.size,0,none⟩) 3 (tri e0 e1 e2):=λj hj=>by
 refine⟨_,0,rfl,?_⟩
 match j,hj with
 | 0,_=>simp[go_sem,tri]
 | 1,_=>simp[go_sem,tri]
 | 2,_=>simp[go_sem,tri]
def zbM (M:Mo) (k:Nat) (X:Nat->Nm):Int:=lsf (two (zaH M) (pnE k X M.ck)) 2
theorem zgA {w M ao k cap X} (h:MoW w M) (hx:Rl w ao k X) (hk:k<=1048576) :
  Calls prog 55 #[M.val,slice ao k cap] w λe w'=>e=returned (.int .i64 (zbM M k X))/\Bl w w':=by
 have CC:=zi (λW (hW:Bl w W)=>zjg (h.q_ hW));have CN:=zi (λW (hW:Bl w W)=>zaP (w:=W) (cap:=cap) (z:=(M.ck:Int)) (hx.q_ hW) hk);obtain⟨er,her⟩:∃e,zbM M k X=e:=⟨_,rfl⟩;have HE:=zi her;unfold zbM at her;obtain⟨e0,he0⟩:∃e,zaH M=e:=⟨_,rfl⟩;rw[he0]at CC her
 obtain⟨e1,he1⟩:∃e,pnE k X M.ck=e:=⟨_,rfl⟩;rw[he1]at CN her
 have HE2:=zi her;clear h hx he0 he1 her;obtain⟨⟨s,x,n,c,f,y,m,d,g⟩,ca,ck,cc,C,ra,rk,rc,R⟩:=M;replace CC:Hid (∀W,Bl w W->Calls prog 29 #[agg #[.bool s,slice x n c,slice y m d,slice ca ck cc,slice ra rk rc]] W λr w'=>r=returned (.int .i64 e0)/\Bl W w'):=CC;replace CN:Hid (∀W,Bl w W->Calls prog 33 #[slice ao k cap,.int .i64 (ck:Int)] W λe w'=>e=returned (.int .i64 e1)/\Bl W w'):=CN;show Calls prog 55 #[agg #[.bool s,slice x n c,slice y m d,slice ca ck cc,slice ra rk rc],slice ao k cap] w _;have hb:=zE w (cells #[.bool s,slice x n c,slice y m d,slice ca ck cc,slice ra rk rc] 28);have r0:(w.alloc (cells #[.bool s,slice x n c,slice y m d,slice ca ck cc,slice ra rk rc] 28)).drew.cell? ⟨w.heap.size,0,none⟩=some (.bool s):=kCd (by simp[go_sem]);have r1:(w.alloc (cells #[.bool s,slice x n c,slice y m d,slice ca ck cc,slice ra rk rc] 28)).drew.cell? ⟨w.heap.size,1,none⟩=some (slice x n c):=kCd (by simp[go_sem]);have r2:(w.alloc (cells #[.bool s,slice x n c,slice y m d,slice ca ck cc,slice ra rk rc] 28)).drew.cell? ⟨w.heap.size,2,none⟩=some (slice y m d):=kCd (by simp[go_sem]);have r3:(w.alloc (cells #[.bool s,slice x n c,slice y m d,slice ca ck cc,slice ra rk rc] 28)).drew.cell? ⟨w.heap.size,3,none⟩=some (slice ca ck cc):=kCd (by simp[go_sem]);have r4:(w.alloc (cells #[.bool s,slice x n c,slice y m d,slice ca ck cc,slice ra rk rc] 28)).drew.cell? ⟨w.heap.size,4,none⟩=some (slice ra rk rc):=kCd (by simp[go_sem]);have HB:=zi (Below.drew hb);clear hb;go_enter func55,ntmps55;go_upto_region 1 with fail
 refine wp_region_held_drew (S:=(λw'=>w'.cell? ⟨w.heap.size,0,none⟩=some (.bool s)/\w'.cell? ⟨w.heap.size,1,none⟩=some (slice x n c)/\w'.cell? ⟨w.heap.size,2,none⟩=some (slice y m d)/\w'.cell? ⟨w.heap.size,3,none⟩=some (slice ca ck cc)/\w'.cell? ⟨w.heap.size,4,none⟩=some (slice ra rk rc))) (by kernel_rfl) ?_ (λhHeld=>?_)
 ·exact⟨r0,r1,r2,r3,r4⟩
 generalize(w.alloc (cells #[.bool s,slice x n c,slice y m d,slice ca ck cc,slice ra rk rc] 28)).drew=wd at *;clear r0 r1 r2 r3 r4;refine tkO 0 ?_;refine tkO 2 ?_;refine tkO 3 ?_;simp only[zA,Act.put];refine tkO 4 ?_;refine tkO 5 ?_;simp only[zA,Act.put];refine rdO 1 (λK hK=>?_);go_simp
 go_at_call 29
 refine(CC.out _ HB.out).mono ?_;rintro e w4 ⟨rfl,hb4⟩
 (try go_wp2_with fail)
 refine hK.out _ _ ?_ (λhH4=>?_)
 ·exact⟨kCb hb4 hHeld.1,kCb hb4 hHeld.2.1,kCb hb4 hHeld.2.2.1,kCb hb4 hHeld.2.2.2.1,kCb hb4 hHeld.2.2.2.2⟩
 clear hK K;have HB4:=zM HB hb4;try simp only[zA,Act.put]
 refine rdO 6 (λK hK=>?_);go_simp
 go_at_call 33
 refine(CN.out _ HB4.out).mono ?_;rintro e w5 ⟨rfl,hb5⟩
 (try go_wp2_with fail)
 refine hK.out _ _ ?_ (λhH5=>?_)
 ·exact⟨kCb hb5 hH4.1,kCb hb5 hH4.2.1,kCb hb5 hH4.2.2.1,kCb hb5 hH4.2.2.2.1,kCb hb5 hH4.2.2.2.2⟩
 clear hK K;have HB5:=zM HB4 hb5;obtain⟨r0,r1,r2,r3,r4⟩:=id hH5;try simp only[zA,Act.put]
 refine rdO 7 (λK hK=>?_);go_simp;have hbA:=zE w5 (cells #[.int .i64 e0,.int .i64 e1] 39);have HEl:=zi (zoO (w:=w5) (a:=e0) (b:=e1) (t:=39));have HWA:=zM HB5 hbA;obtain⟨gA,hgA⟩:∃z,w5.heap.size=z:=⟨_,rfl⟩;rw[hgA]at HEl ⊢
 generalize hwA:w5.alloc (cells #[.int .i64 e0,.int .i64 e1] 39)=wA at *;clear hwA hgA;refine hK.out _ _ ?_ (λhHA=>?_)
 ·((try dsimp only);(refine⟨?_,?_,?_,?_,?_⟩ <;> repeat(with_reducible first|assumption|refine kCb (by assumption) ?_)))
 clear hK K;try simp only[zA,Act.put]
 refine rdO 8 (λK hK=>?_);go_simp
 go_at_call 32
 refine(zfU HEl.out (by decide)).mono ?_;rintro e w9 ⟨rfl,rfl⟩
 (try go_wp2_with fail)
 refine hK.out _ _ ?_ (λhHB=>?_)
 ·exact hHA
 clear hK K;try simp only[zA,Act.put]
 refine tkO 9 ?_;simp only[zA,Act.put];refine dnO ?_;simp only[show lsf (two e0 e1) 2=er from HE2.out];clear HE2 hHeld hH4 hH5 hHA hHB hb4 hb5 hbA r0 r1 r2 r3 r4 HEl CC CN HB HB4 HB5;go_wp2;go_ret;exact⟨by rw[HE.out];rfl,HWA.out⟩
theorem zii {n}:∀{ts:List (Int × Rat)} {l:Int},tsB n l ts=true->∀t ∈ ts,l<t.1/\t.1<(n:Int)/\t.2≠0
 | [],_,_,t,ht=>by cases ht
 | (z,q) :: r,l,h,t,ht=>by
  simp only[tsB,Bool.and_eq_true,decide_eq_true_eq]at h;obtain⟨h1,h2,h3,h4⟩:=h;rcases List.mem_cons.1 ht with rfl|ht
  ·exact⟨h1,h2,h3⟩
  ·have:=zii h4 t ht;exact⟨by omega,this.2⟩
theorem zij {n}:∀{ts:List (Int × Rat)} {l:Int},tsB n l ts=true->l<(n:Int)->(ts.length:Int)<=n-1-l
 | [],l,_,hl=>by simp;omega
 | (z,q) :: r,l,h,hl=>by
  simp only[tsB,Bool.and_eq_true,decide_eq_true_eq]at h;obtain⟨h1,h2,h3,h4⟩:=h;have:=zij h4 h2;simp only[List.length_cons];omega
def zpB (li:Int) (lq:Rat) (hi:Int) (hq:Rat):Prop:=(li=0∨(li=-1∨li=1)/\lq=0)/\(hi=0∨(hi=-1∨hi=1)/\hq=0)
theorem zmr {li lq hi hq} (h:bdB li lq hi hq=true):zpB li lq hi hq:=by
 simp only[bdB,Bool.and_eq_true,Bool.or_eq_true,decide_eq_true_eq]at h;exact⟨h.1.imp id (λh=>⟨.inl h.1,h.2⟩),h.2.imp id (λh=>⟨.inr h.1,h.2⟩)⟩
structure MvP (cs:List CV) (rs:List RV):Prop where
 cl:cs.length<=64
 rl:rs.length<=64
 cb:∀v ∈ cs,zpB v.li v.lq v.hi v.hq
 rb:∀v ∈ rs,zpB v.li v.lq v.hi v.hq
 tc:∀v ∈ rs,∀t ∈ v.ts,0<=t.1/\t.1<(cs.length:Int)
 tl:∀v ∈ rs,v.ts.length<=64
theorem zcI {cs rs} (h:zcc cs rs=true):MvP cs rs:=by
 simp only[zcc,Bool.and_eq_true,decide_eq_true_eq,List.all_eq_true]at h;obtain⟨h1,h2,h3,h4,_⟩:=h;refine⟨h1,h2,λv hv=>zmr (h3 v hv),λv hv=>zmr (h4 v hv).1,λv hv t ht=>?_,λv hv=>?_⟩
 ·have:=zii (h4 v hv).2.1 t ht;exact⟨by omega,this.2.1⟩
 ·have:=zij (h4 v hv).2.1 (by omega);omega
def bcB (cs:List CV) (xs:List Rat) (j:Nat):Bool:=match cs[j]?,xs[j]? with
 | some v,some q=>!(zhG q v.li v.lq v.hi v.hq)
 | _,_=>false
def brB (rs:List RV) (xs:List Rat) (j:Nat):Bool:=match rs[j]? with
 | some v=>!(zhG (zbg xs v) v.li v.lq v.hi v.hq)
 | none=>false
def zjo (w w':World) (e:Ending) (er:Int) (cs:List CV) (rs:List RV) (xs:List Rat):Prop:=Bl w w' /\
 ((er≠0/\e=returned (.tuple #[slice none 0 0,slice none 0 0,.int .i64 er]))∨(er=0/\∃xa xc ya yc,e=returned (.tuple #[.slice xa (crl (bcB cs xs) cs.length).length xc,.slice ya (crl (brB rs xs) rs.length).length yc,.int .i64 0])/\Il w' xa (crl (bcB cs xs) cs.length)/\Il w' ya (crl (brB rs xs) rs.length)))
theorem ziT {L w i i' t q} (h:NmV L w t q) (hL:L<=4096) (hi:i=i') (hb:i'=0∨(i'=-1∨i'=1)/\q=0):En 4096 w i t.s t.x t.n t.c t.f t.y t.m t.d t.g q:=⟨Rn.mono h hL,by rw[hi];exact hb⟩
theorem zjJ {w L M off cs rs ao k cap X xs er} (hW:MoW w M) (hx:Rl w ao k X) (hk:k<=1048576) (he:zbM M k X=er) (hv:er=0->MoV L w M off cs rs/\zcc cs rs=true/\Rf L w ao xs/\xs.length=k/\k=cs.length) (hL:L<=30) :
  Calls prog 49 #[M.val,slice ao k cap] w λe w'=>zjo w w' e er cs rs xs:=by
 have CC:=zi (λW (hW2:Bl w W)=>zgA (cap:=cap) (hW.q_ hW2) (hx.q_ hW2) hk);rw[he]at CC
 clear hW hx he;obtain⟨M0,hM0⟩:∃z,M=z:=⟨_,rfl⟩;have HV:=zi hv;clear hv;rw[hM0]at HV CC ⊢
 have CA:Hid (er=0->∀W,Bl w W->Calls prog 56 #[M0.val,slice ao k cap] W λe w'=>∃a c,e=returned (slice a rs.length c)/\Bl W w'/\(rs.length<=c/\c<=9223372036854775807)/\Hid (Rf (KA L) w' a (rs.map (zbg xs)))):=λh0 W hW2=>by
  obtain⟨v1,v2,v3,v4,v5⟩:=HV.out h0;have mp:=zcI v2;exact zmB (v1.q_ hW2) (v3.q_ hW2) v4 (λr hr t ht=>by have:=mp.tc r hr t ht;rw[v5];exact this) mp.rl mp.tl (by omega)
 clear hM0;obtain⟨⟨s,x,n,c,f,y,m,d,g⟩,ca,ck,cc,C,ra,rk,rc,R⟩:=M0;replace CC:Hid (∀W,Bl w W->Calls prog 55 #[agg #[.bool s,slice x n c,slice y m d,slice ca ck cc,slice ra rk rc],slice ao k cap] W λe w'=>e=returned (.int .i64 er)/\Bl W w'):=CC;replace CA:Hid (er=0->∀W,Bl w W->Calls prog 56 #[agg #[.bool s,slice x n c,slice y m d,slice ca ck cc,slice ra rk rc],slice ao k cap] W λe w'=>∃a c,e=returned (slice a rs.length c)/\Bl W w'/\(rs.length<=c/\c<=9223372036854775807)/\Hid (Rf (KA L) w' a (rs.map (zbg xs)))):=CA;show Calls prog 49 #[agg #[.bool s,slice x n c,slice y m d,slice ca ck cc,slice ra rk rc],slice ao k cap] w _;have hb:=zE w (cells #[.bool s,slice x n c,slice y m d,slice ca ck cc,slice ra rk rc] 28);have BM:=zi (zI w [.bool s,slice x n c,slice y m d,slice ca ck cc,slice ra rk rc] 28);have HB:=zi hb;clear hb;go_enter func49,ntmps49;go_wp2_with fail
 generalize w.alloc (cells #[.bool s,slice x n c,slice y m d,slice ca ck cc,slice ra rk rc] 28)=w0 at *;refine(CC.out _ HB.out).mono ?_;rintro e w1 ⟨rfl,hb⟩;replace HB:=zM HB hb;replace BM:=zi (BM.out.q_ hb)
 clear hb CC;by_cases h0:er=0
 case neg =>
  have h1:(er != 0)=true:=by simpa using h0
  have H0:=zi h0;go_wp2
  go_ret3
  exact⟨HB.out,.inl ⟨H0.out,rfl⟩⟩
 have CA2:=zi (CA.out h0);obtain⟨v1,v2,v3,v4,v5⟩:=HV.out h0;have mp:=zcI v2;subst h0;have l64:=mp.cl;have r64:=mp.rl
 have HC:Hid (∀j v,cs[j]?=some v->(∃b o,ca=some ⟨b,o,none⟩/\Cs w b (o+j*12) (C j).vs)/\ColV L w (C j) v):=v1.cls;have HR:Hid (∀j v,rs[j]?=some v->(∃b o,ra=some ⟨b,o,none⟩/\Cs w b (o+j*10) (R j).vs)/\RowV L w (R j) v):=v1.rls;have hck:ck=cs.length:=v1.ck;have hrk:rk=rs.length:=v1.rk;subst hck hrk;subst v5;have HX:=zi v3;have HXL:=zi v4;have MP:=zi mp
 clear v1 v2 v3 v4 mp CA HV;have r3:=BM.out.cell (j:=3) rfl;go_wp2_with fail
 clear r3;go_loopw[8,24] (λov t wr=>∃(i:Nat),i<=cs.length/\t=.int .i64 i/\Hid (Bl w1 wr)/\Hid (RowG 3 1 w1.heap.size wr ov (crl (bcB cs xs) i).length (ils (crl (bcB cs xs) i)))) (λ_ t _=>cs.length-(intOf t).toNat)
 case atStart=>exact⟨0,by omega,rfl,Below.refl _ _,zaK _ _ _ _⟩
 case round =>
  obtain⟨i,hi,rfl,HB2,HRow⟩:=hrel;by_cases hlt:i<cs.length
  ·obtain⟨v,hv⟩:∃t,cs[i]?=some t:=⟨_,getElem?_eq_getElem (by omega)⟩;have hvm:=List.mem_of_getElem? hv;obtain⟨⟨b,o,hba,hc⟩,hV⟩:=HC.out i v hv;subst hba;have hbz:=bUp HB.out HB2.out;obtain⟨hblo,hbhi⟩:=MP.out.cb v hvm;have e1:=ziT (hV.lq.q_ hbz) (by omega) hV.li hblo;have e2:=ziT (hV.hq.q_ hbz) (by omega) hV.hi hbhi;obtain⟨⟨z,⟨s0,x0,n0,c0,f0,y0,m0,d0,g0⟩,⟨i1,⟨s1,x1,n1,c1,f1,y1,m1,d1,g1⟩⟩,⟨i2,⟨s2,x2,n2,c2,f2,y2,m2,d2,g2⟩⟩⟩,hCi⟩:∃t,C i=t:=⟨_,rfl⟩;rw[hCi]at hc e1 e2
   replace e1:En 4096 wr i1 s1 x1 n1 c1 f1 y1 m1 d1 g1 v.lq:=e1;replace e2:En 4096 wr i2 s2 x2 n2 c2 f2 y2 m2 d2 g2 v.hq:=e2;have j1:i1=v.li:=by have:=hV.li;rw[hCi]at this;exact this
   have j2:i2=v.hi:=by have:=hV.hi;rw[hCi]at this;exact this
   replace hc:=Cs.q_ hc hbz;obtain⟨q0,q1,q2,q3,q4,q5,q6,q7,q8,q9,q10,q11⟩:=hc.lc;obtain⟨r,hr⟩:∃t,xs[i]?=some t:=⟨_,getElem?_eq_getElem (by have:=HXL.out;omega)⟩;obtain⟨b',o',⟨ss,sx,sn,sc,sf,sy,sm,sd,sg⟩,hax,⟨p0,p1,p2⟩,hr'⟩:=(HX.out.q_ hbz) i r hr;subst hax;replace p0:wr.cell? ⟨b',o'+i*3,none⟩=some (.bool ss):=p0;replace p1:wr.cell? ⟨b',o'+i*3+1,none⟩=some (slice sx sn sc):=p1;replace p2:wr.cell? ⟨b',o'+i*3+2,none⟩=some (slice sy sm sd):=p2;replace hr':Rn 4096 wr ss sx sn sc sf sy sm sd sg r:=Rn.mono hr' (by omega);have HEQ:Hid (∀{t},(bcB cs xs) i=t->(!t)=zhG r v.li v.lq v.hi v.hq):=by
    intro t ht;rw[<-ht,bcB,hv,hr];simp
   clear hr;have hbt:=zE wr (cells #[.string z,.bool s0,slice x0 n0 c0,slice y0 m0 d0,.int .i64 i1,.bool s1,slice x1 n1 c1,slice y1 m1 d1,.int .i64 i2,.bool s2,slice x2 n2 c2,slice y2 m2 d2] 59);obtain⟨-,-,-,-,a4,a5,a6,a7,a8,a9,a10,a11⟩:=zeQ (zI wr [.string z,.bool s0,slice x0 n0 c0,slice y0 m0 d0,.int .i64 i1,.bool s1,slice x1 n1 c1,slice y1 m1 d1,.int .i64 i2,.bool s2,slice x2 n2 c2,slice y2 m2 d2] 59);obtain⟨t1,ht1⟩:∃t,(bcB cs xs) i=t:=⟨_,rfl⟩;have HT1:=zi ht1;have CK:Hid (∀W,Bl wr W->Calls prog 74 #[agg #[.bool ss,slice sx sn sc,slice sy sm sd],agg #[.int .i64 i1,.bool s1,slice x1 n1 c1,slice y1 m1 d1],agg #[.int .i64 i2,.bool s2,slice x2 n2 c2,slice y2 m2 d2]] W λe w'=>e=returned (.bool (!t1))/\Bl W w'):=λW hW2=>by
    have hk9:=ziN (hr'.q_ hW2) (e1.q_ hW2) (e2.q_ hW2);rw[j1,j2]at hk9
    rw[j1,j2,HEQ.out ht1];exact hk9
   have hln:=zgg (bcB cs xs) i;have i1':((i:Nat):Int)<((cs.length:Nat):Int):=by omega
   clear hCi hc hV hvm hblo hbhi e1 e2 j1 j2 ht1 hr' HEQ hv;go_upto_region 8 with fail
   clear q0 q1 q2 q3 q4 q5 q6 q7 q8 q9 q10 q11;replace p0:=kCb hbt p0;replace p1:=kCb hbt p1;replace p2:=kCb hbt p2
   have HB3:=zM HB2 hbt;have HRow3:=zi (HRow.out.q_ hbt)
   replace CK:=zi (λW (hW2:Below (wr.alloc (cells #[.string z,.bool s0,slice x0 n0 c0,slice y0 m0 d0,.int .i64 i1,.bool s1,slice x1 n1 c1,slice y1 m1 d1,.int .i64 i2,.bool s2,slice x2 n2 c2,slice y2 m2 d2] 59)).heap.size (wr.alloc (cells #[.string z,.bool s0,slice x0 n0 c0,slice y0 m0 d0,.int .i64 i1,.bool s1,slice x1 n1 c1,slice y1 m1 d1,.int .i64 i2,.bool s2,slice x2 n2 c2,slice y2 m2 d2] 59)) W)=>CK.out W (bUp hbt hW2));clear hbz hbt HB2 HRow;generalize hbx:wr.heap.size=bx at *;generalize wr.alloc (cells #[.string z,.bool s0,slice x0 n0 c0,slice y0 m0 d0,.int .i64 i1,.bool s1,slice x1 n1 c1,slice y1 m1 d1,.int .i64 i2,.bool s2,slice x2 n2 c2,slice y2 m2 d2] 59)=w5 at *;clear hbx;go_region_held3 (λw'=>w'.cell? ⟨bx,4,none⟩=some (.int .i64 i1)/\w'.cell? ⟨bx,5,none⟩=some (.bool s1)/\w'.cell? ⟨bx,6,none⟩=some (slice x1 n1 c1)/\w'.cell? ⟨bx,7,none⟩=some (slice y1 m1 d1)/\w'.cell? ⟨bx,8,none⟩=some (.int .i64 i2)/\w'.cell? ⟨bx,9,none⟩=some (.bool s2)/\w'.cell? ⟨bx,10,none⟩=some (slice x2 n2 c2)/\w'.cell? ⟨bx,11,none⟩=some (slice y2 m2 d2)/\w'.cell? ⟨b',o'+i*3,none⟩=some (.bool ss)/\w'.cell? ⟨b',o'+i*3+1,none⟩=some (slice sx sn sc)/\w'.cell? ⟨b',o'+i*3+2,none⟩=some (slice sy sm sd))
    (refine⟨?_,?_,?_,?_,?_,?_,?_,?_,?_,?_,?_⟩ <;> repeat(with_reducible first|assumption|refine kCd ?_|refine kCb (by assumption) ?_))
    (first|(go_at_call 74;with_reducible refine(CK.out _ zV).mono ?_;rintro e w6 ⟨rfl,hb6⟩))
   have HB6:=zi (HB3.out.trans ((show Bl w5 w6 from zV).mono HB3.out.size));have HRow6:=zi (HRow3.out.q_ (show Bl w5 w6 from zV))
   clear hb6 HB3 HRow3 CK p0 p1 p2 a4 a5 a6 a7 a8 a9 a10 a11;cases t1
   ·go_wp2;go_roundw
    case rel=>exact⟨i+1,by omega,by go_num,HB6.out,by show RowG _ _ _ _ _ _ _;rw[zmh HT1.out];exact HRow6.out⟩
    case measure=>simp[intOf];omega
   ·have hsz:=HB6.out.size;go_wp2_with(at_builtin;go_must (refine zab w6 rfl (.tmp 39) (.tmp 41) 95 rfl w1.heap.size 3 8 1 (.int .i64 0) underlying95 ziP rfl (by decide) nzi u8 (crl (bcB cs xs) i).length (ils (crl (bcB cs xs) i)) rfl HRow6.out #[.int .i64 (i:Int)] rfl rfl (zpX _) (zpi _) ?p1 (by decide) hsz ?_))
    case p1=>omega
    intro g8 cap8 w8 hr8 hk8 hb8 hg8;have HB8:=zi (hb8 w1 HB6.out (le_refl _));have HR8:Hid (RowG 3 1 w1.heap.size w8 (slice (some ⟨g8,0,none⟩) ((crl (bcB cs xs) i).length+1) cap8) (crl (bcB cs xs) (i+1)).length (ils (crl (bcB cs xs) (i+1)))):=by
     show RowG _ _ _ _ _ _ _;rw[zjb HT1.out];simpa[ils]using hr8
    clear hr8 hk8 hb8 hg8 HRow6 HB6 hsz;go_wp2;go_roundw
    case rel=>exact⟨i+1,by omega,by go_num,HB8.out,HR8.out⟩
    case measure=>simp[intOf];omega
  ·have i4:¬(((i:Nat):Int)<((cs.length:Nat):Int)):=by omega
   have e9:i=cs.length:=by omega
   obtain⟨xa,xc,hvs⟩:=HRow.out.slice;have HL2:=HRow.out;rw[hvs]at HL2
   have HIL:=zi (zir HL2);rw[e9]at HIL hvs
   subst hvs;replace BM:=zi (BM.out.q_ HB2.out);replace HB:=zM HB HB2.out;clear HL2 HRow HB2 e9 HX HC;obtain⟨r0,r1,r2,r3,r4⟩:=bk5 BM.out;go_wp2_with fail
   refine(CA2.out _ HB.out).mono ?_;rintro e w7 ⟨aa,ac,rfl,hb7,hac,HAct⟩;replace HB:=zM HB hb7;replace BM:=zi (BM.out.q_ hb7);have HCols:=zi (HIL.out.q_ hb7)
   clear hb7 HIL r0 r1 r2 r3 r4 CA2;have r4:=BM.out.cell (j:=4) rfl;go_wp2_with fail
   clear r4;go_loopw[9,50] (λov t wr=>∃(i:Nat),i<=rs.length/\t=.int .i64 i/\Hid (Bl w7 wr)/\Hid (RowG 3 1 w7.heap.size wr ov (crl (brB rs xs) i).length (ils (crl (brB rs xs) i)))) (λ_ t _=>rs.length-(intOf t).toNat)
   case atStart=>exact⟨0,by omega,rfl,Below.refl _ _,zaK _ _ _ _⟩
   case round =>
    obtain⟨i,hi,rfl,HB2,HRow⟩:=hrel;by_cases hlt:i<rs.length
    ·obtain⟨v,hv⟩:∃t,rs[i]?=some t:=⟨_,getElem?_eq_getElem (by omega)⟩;have hvm:=List.mem_of_getElem? hv;obtain⟨⟨b,o,hba,hc⟩,hV⟩:=HR.out i v hv;subst hba;have hbz:=bUp HB.out HB2.out;obtain⟨hblo,hbhi⟩:=MP.out.rb v hvm;have e1:=ziT (hV.lq.q_ hbz) (by omega) hV.li hblo;have e2:=ziT (hV.hq.q_ hbz) (by omega) hV.hi hbhi;obtain⟨⟨z,⟨i1,⟨s1,x1,n1,c1,f1,y1,m1,d1,g1⟩⟩,⟨i2,⟨s2,x2,n2,c2,f2,y2,m2,d2,g2⟩⟩,ta,tk,tc,tcol,tt⟩,hCi⟩:∃t,R i=t:=⟨_,rfl⟩;rw[hCi]at hc e1 e2
     replace e1:En 4096 wr i1 s1 x1 n1 c1 f1 y1 m1 d1 g1 v.lq:=e1;replace e2:En 4096 wr i2 s2 x2 n2 c2 f2 y2 m2 d2 g2 v.hq:=e2;have j1:i1=v.li:=by have:=hV.li;rw[hCi]at this;exact this
     have j2:i2=v.hi:=by have:=hV.hi;rw[hCi]at this;exact this
     replace hc:=Cs.q_ hc hbz;obtain⟨q0,q1,q2,q3,q4,q5,q6,q7,q8,q9⟩:=hc.lr;have hr:(rs.map (zbg xs))[i]?=some (zbg xs v):=by rw[List.getElem?_map,hv];rfl
     obtain⟨b',o',⟨ss,sx,sn,sc,sf,sy,sm,sd,sg⟩,hax,⟨p0,p1,p2⟩,hr'⟩:=(HAct.out.q_ HB2.out) i _ hr;subst hax;replace p0:wr.cell? ⟨b',o'+i*3,none⟩=some (.bool ss):=p0;replace p1:wr.cell? ⟨b',o'+i*3+1,none⟩=some (slice sx sn sc):=p1;replace p2:wr.cell? ⟨b',o'+i*3+2,none⟩=some (slice sy sm sd):=p2;replace hr':Rn 4096 wr ss sx sn sc sf sy sm sd sg (zbg xs v):=Rn.mono hr' (by unfold KA;omega);have HEQ:Hid (∀{t},(brB rs xs) i=t->(!t)=zhG (zbg xs v) v.li v.lq v.hi v.hq):=by
      intro t ht;rw[<-ht,brB,hv];simp
     clear hr;have hbt:=zE wr (cells #[.string z,.int .i64 i1,.bool s1,slice x1 n1 c1,slice y1 m1 d1,.int .i64 i2,.bool s2,slice x2 n2 c2,slice y2 m2 d2,slice ta tk tc] 62);obtain⟨-,a1,a2,a3,a4,a5,a6,a7,a8⟩:=bk9 (zI wr [.string z,.int .i64 i1,.bool s1,slice x1 n1 c1,slice y1 m1 d1,.int .i64 i2,.bool s2,slice x2 n2 c2,slice y2 m2 d2,slice ta tk tc] 62);obtain⟨t1,ht1⟩:∃t,(brB rs xs) i=t:=⟨_,rfl⟩;have HT1:=zi ht1;have CK:Hid (∀W,Bl wr W->Calls prog 74 #[agg #[.bool ss,slice sx sn sc,slice sy sm sd],agg #[.int .i64 i1,.bool s1,slice x1 n1 c1,slice y1 m1 d1],agg #[.int .i64 i2,.bool s2,slice x2 n2 c2,slice y2 m2 d2]] W λe w'=>e=returned (.bool (!t1))/\Bl W w'):=λW hW2=>by
      have hk9:=ziN (hr'.q_ hW2) (e1.q_ hW2) (e2.q_ hW2);rw[j1,j2]at hk9
      rw[j1,j2,HEQ.out ht1];exact hk9
     have hln:=zgg (brB rs xs) i;have i1':((i:Nat):Int)<((rs.length:Nat):Int):=by omega
     clear hCi hc hV hvm hblo hbhi e1 e2 j1 j2 ht1 hr' HEQ hv;go_upto_region 15 with fail
     clear q0 q1 q2 q3 q4 q5 q6 q7 q8 q9;replace p0:=kCb hbt p0;replace p1:=kCb hbt p1;replace p2:=kCb hbt p2
     have HB3:=zM HB2 hbt;have HRow3:=zi (HRow.out.q_ hbt)
     replace CK:=zi (λW (hW2:Below (wr.alloc (cells #[.string z,.int .i64 i1,.bool s1,slice x1 n1 c1,slice y1 m1 d1,.int .i64 i2,.bool s2,slice x2 n2 c2,slice y2 m2 d2,slice ta tk tc] 62)).heap.size (wr.alloc (cells #[.string z,.int .i64 i1,.bool s1,slice x1 n1 c1,slice y1 m1 d1,.int .i64 i2,.bool s2,slice x2 n2 c2,slice y2 m2 d2,slice ta tk tc] 62)) W)=>CK.out W (bUp hbt hW2));clear hbz hbt HB2 HRow;generalize hbx:wr.heap.size=bx at *;generalize wr.alloc (cells #[.string z,.int .i64 i1,.bool s1,slice x1 n1 c1,slice y1 m1 d1,.int .i64 i2,.bool s2,slice x2 n2 c2,slice y2 m2 d2,slice ta tk tc] 62)=w5 at *;clear hbx;go_region_held3 (λw'=>w'.cell? ⟨bx,1,none⟩=some (.int .i64 i1)/\w'.cell? ⟨bx,2,none⟩=some (.bool s1)/\w'.cell? ⟨bx,3,none⟩=some (slice x1 n1 c1)/\w'.cell? ⟨bx,4,none⟩=some (slice y1 m1 d1)/\w'.cell? ⟨bx,5,none⟩=some (.int .i64 i2)/\w'.cell? ⟨bx,6,none⟩=some (.bool s2)/\w'.cell? ⟨bx,7,none⟩=some (slice x2 n2 c2)/\w'.cell? ⟨bx,8,none⟩=some (slice y2 m2 d2)/\w'.cell? ⟨b',o'+i*3,none⟩=some (.bool ss)/\w'.cell? ⟨b',o'+i*3+1,none⟩=some (slice sx sn sc)/\w'.cell? ⟨b',o'+i*3+2,none⟩=some (slice sy sm sd))
      (refine⟨?_,?_,?_,?_,?_,?_,?_,?_,?_,?_,?_⟩ <;> repeat(with_reducible first|assumption|refine kCd ?_|refine kCb (by assumption) ?_))
      (first|(go_at_call 74;with_reducible refine(CK.out _ zV).mono ?_;rintro e w6 ⟨rfl,hb6⟩))
     have HB6:=zi (HB3.out.trans ((show Bl w5 w6 from zV).mono HB3.out.size));have HRow6:=zi (HRow3.out.q_ (show Bl w5 w6 from zV))
     clear hb6 HB3 HRow3 CK p0 p1 p2 a1 a2 a3 a4 a5 a6 a7 a8;cases t1
     ·go_wp2;go_roundw
      case rel=>exact⟨i+1,by omega,by go_num,HB6.out,by show RowG _ _ _ _ _ _ _;rw[zmh HT1.out];exact HRow6.out⟩
      case measure=>simp[intOf];omega
     ·have hsz:=HB6.out.size;go_wp2_with(at_builtin;go_must (refine zab w6 rfl (.tmp 65) (.tmp 67) 95 rfl w7.heap.size 3 8 1 (.int .i64 0) underlying95 ziP rfl (by decide) nzi u9 (crl (brB rs xs) i).length (ils (crl (brB rs xs) i)) rfl HRow6.out #[.int .i64 (i:Int)] rfl rfl (zpX _) (zpi _) ?p1 (by decide) hsz ?_))
      case p1=>omega
      intro g8 cap8 w8 hr8 hk8 hb8 hg8;have HB8:=zi (hb8 w7 HB6.out (le_refl _));have HR8:Hid (RowG 3 1 w7.heap.size w8 (slice (some ⟨g8,0,none⟩) ((crl (brB rs xs) i).length+1) cap8) (crl (brB rs xs) (i+1)).length (ils (crl (brB rs xs) (i+1)))):=by
       show RowG _ _ _ _ _ _ _;rw[zjb HT1.out];simpa[ils]using hr8
      clear hr8 hk8 hb8 hg8 HRow6 HB6 hsz;go_wp2;go_roundw
      case rel=>exact⟨i+1,by omega,by go_num,HB8.out,HR8.out⟩
      case measure=>simp[intOf];omega
    ·have i4:¬(((i:Nat):Int)<((rs.length:Nat):Int)):=by omega
     have e9:i=rs.length:=by omega
     obtain⟨ya,yc,hvs⟩:=HRow.out.slice;have HL2:=HRow.out;rw[hvs]at HL2
     have HIL:=zi (zir HL2);rw[e9]at HIL
     have HVS:=zi hvs;rw[e9]at HVS
     have HBF:=zM HB HB2.out;have HCF:=zi (HCols.out.q_ HB2.out)
     clear hvs HL2 HRow HB2 HAct e9;rw[HVS.out];go_wp2
     go_ret3
     exact⟨HBF.out,.inr ⟨rfl,xa,xc,ya,yc,rfl,HCF.out,HIL.out⟩⟩
def zmM (L:Nat) (w w':World) (e:Ending) (er:Int) (rs:List RV) (xs:List Rat):Prop:=Bl w w' /\
 ((er≠0/\e=returned (.tuple #[slice none 0 0,.int .i64 er]))∨(er=0/\∃a c,e=returned (.tuple #[slice a rs.length c,.int .i64 0])/\(rs.length<=c/\c<=9223372036854775807)/\Rf (KA L) w' a (rs.map (zbg xs))))
def zfj (cs:List CV) (rs:List RV) (xs:List Rat):Bool:=decide ((crl (bcB cs xs) cs.length).length=0) && decide ((crl (brB rs xs) rs.length).length=0)
def costs (cs:List CV) (xs:List Rat):List Rat:=List.zipWith (λv x=>v.cost*x) cs xs
theorem zpq {K base w s x n c f y m d g q} (h:Rn K w s x n c f y m d g q) (hb:base<=w.heap.size):Gr K base (w.alloc (cells #[.bool s,slice x n c,slice y m d] 24)) (slice (some ⟨w.heap.size,0,none⟩) 1 1) [q]:=by
 refine⟨λ_=>⟨s,x,n,c,f,y,m,d,g⟩,⟨rfl,.inr ⟨w.heap.size,1,#[.bool s,slice x n c,slice y m d],rfl,hb,heap_alloc_new w _,le_refl _,by decide,rfl,rfl,zW (zeN _ _ _ _ _ _ _)⟩⟩,λj q' e=>?_⟩;cases j with
 | zero=>cases e;exact h.alloc _
 | succ j=>simp at e
theorem znu {w L M off cs rs ao k cap X xs er} (hW:MoW w M) (hx:Rl w ao k X) (hk:k<=1048576) (he:zbM M k X=er) (hv:er=0->MoV L w M off cs rs/\zcc cs rs=true/\Rf L w ao xs/\xs.length=k/\k=cs.length) (hL:L<=30) :
  Calls prog 30 #[M.val,slice ao k cap] w λe w'=>zmM L w w' e er rs xs:=by
 have CC:=zi (λW (hW2:Bl w W)=>zgA (cap:=cap) (hW.q_ hW2) (hx.q_ hW2) hk);rw[he]at CC
 clear hW hx he;have HV:=zi hv;clear hv;have CA:Hid (er=0->∀W,Bl w W->Calls prog 56 #[M.val,slice ao k cap] W λe w'=>∃a c,e=returned (slice a rs.length c)/\Bl W w'/\(rs.length<=c/\c<=9223372036854775807)/\Hid (Rf (KA L) w' a (rs.map (zbg xs)))):=λh0 W hW2=>by
  obtain⟨v1,v2,v3,v4,v5⟩:=HV.out h0;have mp:=zcI v2;exact zmB (v1.q_ hW2) (v3.q_ hW2) v4 (λr hr t ht=>by have:=mp.tc r hr t ht;rw[v5];exact this) mp.rl mp.tl (by omega)
 obtain⟨⟨s,x,n,c,f,y,m,d,g⟩,ca,ck,cc,C,ra,rk,rc,R⟩:=M;replace CC:Hid (∀W,Bl w W->Calls prog 55 #[agg #[.bool s,slice x n c,slice y m d,slice ca ck cc,slice ra rk rc],slice ao k cap] W λe w'=>e=returned (.int .i64 er)/\Bl W w'):=CC;replace CA:Hid (er=0->∀W,Bl w W->Calls prog 56 #[agg #[.bool s,slice x n c,slice y m d,slice ca ck cc,slice ra rk rc],slice ao k cap] W λe w'=>∃a c,e=returned (slice a rs.length c)/\Bl W w'/\(rs.length<=c/\c<=9223372036854775807)/\Hid (Rf (KA L) w' a (rs.map (zbg xs)))):=CA;clear HV;show Calls prog 30 #[agg #[.bool s,slice x n c,slice y m d,slice ca ck cc,slice ra rk rc],slice ao k cap] w _;have hb:=zE w (cells #[.bool s,slice x n c,slice y m d,slice ca ck cc,slice ra rk rc] 28);have BM:=zi (zI w [.bool s,slice x n c,slice y m d,slice ca ck cc,slice ra rk rc] 28);have HB:=zi hb;clear hb;go_enter func30,ntmps30;go_wp2_with fail
 generalize w.alloc (cells #[.bool s,slice x n c,slice y m d,slice ca ck cc,slice ra rk rc] 28)=w0 at *;refine(CC.out _ HB.out).mono ?_;rintro e w1 ⟨rfl,hb⟩;replace HB:=zM HB hb;replace BM:=zi (BM.out.q_ hb)
 clear hb CC;by_cases h0:er=0
 case neg =>
  have h1:(er != 0)=true:=by simpa using h0
  have H0:=zi h0;go_wp2
  go_ret2
  exact⟨HB.out,.inl ⟨H0.out,rfl⟩⟩
 have CA2:=zi (CA.out h0);subst h0;clear CA;obtain⟨r0,r1,r2,r3,r4⟩:=bk5 BM.out;go_wp2_with fail
 refine(CA2.out _ HB.out).mono ?_;rintro e w2 ⟨aa,ac,rfl,hb,hac,HR⟩;replace HB:=zM HB hb;have HAC:=zi hac;clear hb hac r0 r1 r2 r3 r4 BM CA2;go_wp2
 go_ret2
 exact⟨HB.out,.inr ⟨rfl,aa,ac,rfl,HAC.out,HR.out⟩⟩
theorem znt {w L M off cs rs ao k cap X xs er} (hW:MoW w M) (hx:Rl w ao k X) (hk:k<=1048576) (he:zbM M k X=er) (hv:er=0->MoV L w M off cs rs/\zcc cs rs=true/\Rf L w ao xs/\xs.length=k/\k=cs.length) (hL:L<=30) :
  Calls prog 27 #[M.val,slice ao k cap] w λe w'=>e=returned (.tuple #[.bool (decide (er=0) && zfj cs rs xs),.int .i64 er])/\Bl w w':=by
 have CB:Hid (∀W,Bl w W->Calls prog 49 #[M.val,slice ao k cap] W λe w'=>zjo W w' e er cs rs xs):=λW hW2=>zjJ (hW.q_ hW2) (hx.q_ hW2) hk he (λh0=>⟨(hv h0).1.q_ hW2,(hv h0).2.1,(hv h0).2.2.1.q_ hW2,(hv h0).2.2.2⟩) hL
 clear hW hx hv he;obtain⟨⟨s,x,n,c,f,y,m,d,g⟩,ca,ck,cc,C,ra,rk,rc,R⟩:=M;replace CB:Hid (∀W,Bl w W->Calls prog 49 #[agg #[.bool s,slice x n c,slice y m d,slice ca ck cc,slice ra rk rc],slice ao k cap] W λe w'=>zjo W w' e er cs rs xs):=CB;obtain⟨l1,hl1⟩:∃z,(crl (bcB cs xs) cs.length).length=z:=⟨_,rfl⟩;obtain⟨l2,hl2⟩:∃z,(crl (brB rs xs) rs.length).length=z:=⟨_,rfl⟩;have HF:Hid (zfj cs rs xs=(decide (l1=0) && decide (l2=0))):=by show _=_;rw[zfj,hl1,hl2]
 unfold zjo at CB;rw[hl1,hl2]at CB
 clear hl1 hl2;show Calls prog 27 #[agg #[.bool s,slice x n c,slice y m d,slice ca ck cc,slice ra rk rc],slice ao k cap] w _;have HB:=zi (zE w (cells #[.bool s,slice x n c,slice y m d,slice ca ck cc,slice ra rk rc] 28));go_enter func27,ntmps27;go_wp2_with fail
 refine(CB.out _ HB.out).mono ?_;rintro e w1 ⟨hb,hans⟩;replace HB:=zM HB hb;clear hb CB;rcases hans with⟨h0,rfl⟩|⟨h0,xa,xc,ya,yc,rfl,_,_⟩
 ·have h1:(er==0)=false:=by simpa using h0
  have HE:Hid (decide (er=0)=false):=decide_eq_false h0;clear h0;go_wp2
  go_ret2
  exact⟨by rw[HE.out];rfl,HB.out⟩
 ·subst h0;by_cases c1:l1=0
  ·subst c1;by_cases c2:l2=0
   ·subst c2;go_wp2
    go_ret2
    exact⟨by rw[HF.out];rfl,HB.out⟩
   ·have c3:(((l2:Nat):Int)==0)=false:=by simp;omega
    have HE:Hid (decide (l2=0)=false):=decide_eq_false c2;go_wp2
    go_ret2
    exact⟨by rw[HF.out,HE.out];rfl,HB.out⟩
  ·have c3:(((l1:Nat):Int)==0)=false:=by simp;omega
   have HE:Hid (decide (l1=0)=false):=decide_eq_false c1;go_wp2
   go_ret2
   exact⟨by rw[HF.out,HE.out];rfl,HB.out⟩
theorem zek {L w sa xa na ca fa ya ma da ga a sb xb nb cb fb yb mb db gb b} (ha:Rn L w sa xa na ca fa ya ma da ga a) (hb:Rn L w sb xb nb cb fb yb mb db gb b) (hL:L<=200000) :
  Calls prog 35 #[agg #[.bool sa,slice xa na ca,slice ya ma da],agg #[.bool sb,slice xb nb cb,slice yb mb db]] w λe w'=>zbq (2*L+1) w w' e (a*b):=by
 have h1:=((ha.alloc (cells #[.bool sa,slice xa na ca,slice ya ma da] 24)).alloc (cells #[.bool sb,slice xb nb cb,slice yb mb db] 24)).alloc (cells #[.bool false,slice none 0 0,slice none 0 0] 24);have h2:=((hb.alloc (cells #[.bool sa,slice xa na ca,slice ya ma da] 24)).alloc (cells #[.bool sb,slice xb nb cb,slice yb mb db] 24)).alloc (cells #[.bool false,slice none 0 0,slice none 0 0] 24);have h3:=zay ((w.alloc (cells #[.bool sa,slice xa na ca,slice ya ma da] 24)).alloc (cells #[.bool sb,slice xb nb cb,slice yb mb db] 24)) 24;rw[zv,zv]at h3
 have h4:=zk (zk (zE w (cells #[.bool sa,slice xa na ca,slice ya ma da] 24)) (cells #[.bool sb,slice xb nb cb,slice yb mb db] 24)) (cells #[.bool false,slice none 0 0,slice none 0 0] 24);clear ha hb;go_enter func35,ntmps35;go_wp2_with fail
 generalize((w.alloc (cells #[.bool sa,slice xa na ca,slice ya ma da] 24)).alloc (cells #[.bool sb,slice xb nb cb,slice yb mb db] 24)).alloc (cells #[.bool false,slice none 0 0,slice none 0 0] 24)=w1 at *;have OB1:=zi h3;have HW1:=zi h4
 refine(zlh h1 h2 hL).mono ?_;clear h1 h2 h3 h4;rintro e w2 ⟨s,x,n,c,f,y,m,d,g,rfl,hb2,hq⟩;have hob:=OB1.out.q_ hb2;have hbw:=bUp HW1.out hb2;obtain⟨hz,z0,z1,z2,zf⟩:=OB1.out.q_ hb2;have HQ:=zi hq;have HOB:=zi hob;have HBW:=zi hbw
 clear hq hob hbw hb2 OB1 HW1;go_wp2;exact bodyPost_ret (v:=agg #[.bool s,slice x n c,slice y m d]) (by simp[results,results35,go_sem,z0,z1,z2,hz]) rfl ⟨s,x,n,c,f,y,m,d,g,rfl,zk (zZ HBW.out (by omega)) _,(HOB.out.rn HQ.out).alloc _⟩
theorem Rn.sg {L w s x n c f y m d g q} (h:Rn L w s x n c f y m d g q):s=decide (q<0):=by
 have h1:=h.num.val;have h2:=h.num.wf;have h5:=zu h.num.lm;have hz:=h.q_zero
 cases s
 ·have h3:q.num=vf f n:=by rw[<-h1];rfl
  have h4:0<=q:=Rat.num_nonneg.1 (by omega);rw[decide_eq_false (Rat.not_lt.2 h4)]
 ·have hn:n≠0:=λe=>by subst e;simp[wfB]at h2
  have h3:q.num=- vf f n:=by rw[<-h1];rfl
  have h4:q<0:=Rat.not_le.1 (λe=>by
   have h6:=Rat.num_nonneg.2 e;exact hn (hz.1 (Rat.num_eq_zero.1 (by omega))))
  rw[decide_eq_true h4]
def frB (q:Rat) (li hi:Int):Bool:=if q=0 then true else if q<0 then decide (li≠0) else decide (hi≠0)
theorem zlY {w L s0 x0 n0 c0 f0 y0 m0 d0 g0 q i1 s1 x1 n1 c1 y1 m1 d1 i2 s2 x2 n2 c2 y2 m2 d2} (h0:Rn L w s0 x0 n0 c0 f0 y0 m0 d0 g0 q) :
  Calls prog 57 #[agg #[.bool s0,slice x0 n0 c0,slice y0 m0 d0],agg #[.int .i64 i1,.bool s1,slice x1 n1 c1,slice y1 m1 d1],agg #[.int .i64 i2,.bool s2,slice x2 n2 c2,slice y2 m2 d2]] w λe w'=>e=returned (.bool (frB q i1 i2))/\Bl w w':=by
 have HB:=zi (zk (zk (zE w (cells #[.bool s0,slice x0 n0 c0,slice y0 m0 d0] 24)) (cells #[.int .i64 i1,.bool s1,slice x1 n1 c1,slice y1 m1 d1] 57)) (cells #[.int .i64 i2,.bool s2,slice x2 n2 c2,slice y2 m2 d2] 57));have hz:=h0.q_zero;have hs:=h0.sg
 clear h0;go_enter func57,ntmps57;by_cases c1:n0=0
 ·have HF:Hid (frB q i1 i2=true):=by show _=_;rw[frB,if_pos (hz.2 c1)]
  subst c1;clear hz hs;go_wp2;go_ret;exact⟨by rw[HF.out];rfl,HB.out⟩
 ·have e1:(((n0:Nat):Int)==0)=false:=by simp;omega
  have hq:q≠0:=λe=>c1 (hz.1 e)
  cases s0
  ·have HF:Hid (frB q i1 i2=(i2 != 0)):=by show _=_;rw[frB,if_neg hq,if_neg (by simpa using hs.symm)];(by_cases e:i2=0 <;> simp[e])
   clear hz hs hq;go_wp2;go_ret;exact⟨by rw[HF.out];rfl,HB.out⟩
  ·have HF:Hid (frB q i1 i2=(i1 != 0)):=by show _=_;rw[frB,if_neg hq,if_pos (by simpa using hs.symm)];(by_cases e:i1=0 <;> simp[e])
   clear hz hs hq;go_wp2;go_ret;exact⟨by rw[HF.out];rfl,HB.out⟩
def zdl (B:Nat->Bool):Nat->Bool
 | 0=>true
 | i+1=>zdl B i && B i
theorem allB_iff {B}:∀{n:Nat},zdl B n=true ↔ ∀j,j<n->B j=true
 | 0=>by simp[zdl]
 | n+1=>by
  rw[zdl,Bool.and_eq_true,allB_iff];exact⟨λ⟨h1,h2⟩ j hj=>(Nat.lt_succ_iff_lt_or_eq.1 hj).elim (h1 j) (λe=>e ▸ h2),λh=>⟨λj hj=>h j (by omega),h n (by omega)⟩⟩
theorem zgW {B n j} (hj:j<n) (h:B j=false):zdl B n=false:=by
 cases e:zdl B n
 ·rfl
 ·rw[allB_iff.1 e j hj]at h;cases h
def fcB (cs:List CV) (ds:List Rat) (j:Nat):Bool:=match cs[j]?,ds[j]? with
 | some v,some q=>frB q v.li v.hi
 | _,_=>false
def znP (rs:List RV) (acl:List Rat) (j:Nat):Bool:=match rs[j]?,acl[j]? with
 | some v,some q=>frB q v.li v.hi
 | _,_=>false
def zey (cs:List CV) (rs:List RV) (ds acl:List Rat):Bool:=zdl (fcB cs ds) cs.length && zdl (znP rs acl) rs.length
theorem zjX {w L K M off cs rs ao k cap ds aa ka capa acl} (h:MoV L w M off cs rs) (hx:Rf L w ao ds) (ha:Rf K w aa acl) (hk:ds.length=k) (hkc:k=cs.length) (hka:acl.length=ka) (hkr:ka=rs.length) (hcl:cs.length<=64) (hrl:rs.length<=64) :
  Calls prog 31 #[M.val,slice ao k cap,slice aa ka capa] w λe w'=>e=returned (.bool (zey cs rs ds acl))/\Bl w w':=by
 subst hkc hkr;have hck:M.ck=cs.length:=h.ck;have hrk:M.rk=rs.length:=h.rk;have hC:=h.cls;have hR:=h.rls;clear h;obtain⟨⟨s,x,n,c,f,y,m,d,g⟩,ca,ck,cc,C,ra,rk,rc,R⟩:=M;replace hck:ck=cs.length:=hck;replace hrk:rk=rs.length:=hrk;subst hck hrk;have HC:Hid (∀j v,cs[j]?=some v->(∃b o,ca=some ⟨b,o,none⟩/\Cs w b (o+j*12) (C j).vs)/\ColV L w (C j) v):=hC;have HR:Hid (∀j v,rs[j]?=some v->(∃b o,ra=some ⟨b,o,none⟩/\Cs w b (o+j*10) (R j).vs)/\RowV L w (R j) v):=hR;have HX:=zi hx;have HAct:=zi ha
 clear hC hR hx ha;show Calls prog 31 #[agg #[.bool s,slice x n c,slice y m d,slice ca cs.length cc,slice ra rs.length rc],slice ao cs.length cap,slice aa rs.length capa] w _;have hb:=zE w (cells #[.bool s,slice x n c,slice y m d,slice ca cs.length cc,slice ra rs.length rc] 28);have BM:=zi (zI w [.bool s,slice x n c,slice y m d,slice ca cs.length cc,slice ra rs.length rc] 28);have HB:=zi hb;clear hb;go_enter func31,ntmps31;have r3:=BM.out.cell (j:=3) rfl;go_wp2_with fail
 clear r3;generalize w.alloc (cells #[.bool s,slice x n c,slice y m d,slice ca cs.length cc,slice ra rs.length rc] 28)=w1 at *;go_loopw[14] (λt wr=>∃(i:Nat),i<=cs.length/\t=.int .i64 i/\Hid (Bl w1 wr)/\Hid (zdl (fcB cs ds) i=true)) (λt _=>cs.length-(intOf t).toNat)
 case atStart=>exact⟨0,by omega,rfl,Below.refl _ _,rfl⟩
 case round =>
  obtain⟨i,hi,rfl,HB2,HAll⟩:=hrel;by_cases hlt:i<cs.length
  ·obtain⟨v,hv⟩:∃t,cs[i]?=some t:=⟨_,getElem?_eq_getElem (by omega)⟩;obtain⟨⟨b,o,hba,hc⟩,hV⟩:=HC.out i v hv;subst hba;have hbz:=bUp HB.out HB2.out;obtain⟨⟨z,⟨s0,x0,n0,c0,f0,y0,m0,d0,g0⟩,⟨i1,⟨s1,x1,n1,c1,f1,y1,m1,d1,g1⟩⟩,⟨i2,⟨s2,x2,n2,c2,f2,y2,m2,d2,g2⟩⟩⟩,hCi⟩:∃t,C i=t:=⟨_,rfl⟩;rw[hCi]at hc
   have j1:i1=v.li:=by have:=hV.li;rw[hCi]at this;exact this
   have j2:i2=v.hi:=by have:=hV.hi;rw[hCi]at this;exact this
   replace hc:=Cs.q_ hc hbz;obtain⟨q0,q1,q2,q3,q4,q5,q6,q7,q8,q9,q10,q11⟩:=hc.lc;obtain⟨r,hr⟩:∃t,ds[i]?=some t:=⟨_,getElem?_eq_getElem (by omega)⟩;obtain⟨b',o',⟨ss,sx,sn,sc,sf,sy,sm,sd,sg⟩,hax,⟨p0,p1,p2⟩,hr'⟩:=(HX.out.q_ hbz) i r hr;subst hax;replace p0:wr.cell? ⟨b',o'+i*3,none⟩=some (.bool ss):=p0;replace p1:wr.cell? ⟨b',o'+i*3+1,none⟩=some (slice sx sn sc):=p1;replace p2:wr.cell? ⟨b',o'+i*3+2,none⟩=some (slice sy sm sd):=p2;replace hr':Rn _ wr ss sx sn sc sf sy sm sd sg r:=hr';have hbt:=zE wr (cells #[.string z,.bool s0,slice x0 n0 c0,slice y0 m0 d0,.int .i64 i1,.bool s1,slice x1 n1 c1,slice y1 m1 d1,.int .i64 i2,.bool s2,slice x2 n2 c2,slice y2 m2 d2] 59);obtain⟨-,-,-,-,a4,a5,a6,a7,a8,a9,a10,a11⟩:=zeQ (zI wr [.string z,.bool s0,slice x0 n0 c0,slice y0 m0 d0,.int .i64 i1,.bool s1,slice x1 n1 c1,slice y1 m1 d1,.int .i64 i2,.bool s2,slice x2 n2 c2,slice y2 m2 d2] 59);obtain⟨t1,ht1⟩:∃t,(fcB cs ds) i=t:=⟨_,rfl⟩;have HT1:=zi ht1;have CK:Hid (∀W,Bl wr W->Calls prog 57 #[agg #[.bool ss,slice sx sn sc,slice sy sm sd],agg #[.int .i64 i1,.bool s1,slice x1 n1 c1,slice y1 m1 d1],agg #[.int .i64 i2,.bool s2,slice x2 n2 c2,slice y2 m2 d2]] W λe w'=>e=returned (.bool t1)/\Bl W w'):=λW hW2=>by
    have hk9:=zlY (i1:=i1) (s1:=s1) (x1:=x1) (n1:=n1) (c1:=c1) (y1:=y1) (m1:=m1) (d1:=d1) (i2:=i2) (s2:=s2) (x2:=x2) (n2:=n2) (c2:=c2) (y2:=y2) (m2:=m2) (d2:=d2) (hr'.q_ hW2);have e9:t1=frB r i1 i2:=by rw[<-ht1,fcB,hv,hr,j1,j2]
    rw[e9];exact hk9
   have i1':((i:Nat):Int)<((cs.length:Nat):Int):=by omega
   clear hCi hc hV j1 j2 ht1 hr' hv hr;go_upto_region 4 with fail
   clear q0 q1 q2 q3 q4 q5 q6 q7 q8 q9 q10 q11;replace p0:=kCb hbt p0;replace p1:=kCb hbt p1;replace p2:=kCb hbt p2
   have HB3:=zM HB2 hbt;replace CK:=zi (λW (hW2:Below (wr.alloc (cells #[.string z,.bool s0,slice x0 n0 c0,slice y0 m0 d0,.int .i64 i1,.bool s1,slice x1 n1 c1,slice y1 m1 d1,.int .i64 i2,.bool s2,slice x2 n2 c2,slice y2 m2 d2] 59)).heap.size (wr.alloc (cells #[.string z,.bool s0,slice x0 n0 c0,slice y0 m0 d0,.int .i64 i1,.bool s1,slice x1 n1 c1,slice y1 m1 d1,.int .i64 i2,.bool s2,slice x2 n2 c2,slice y2 m2 d2] 59)) W)=>CK.out W (bUp hbt hW2));clear hbz hbt HB2;generalize hbx:wr.heap.size=bx at *;generalize wr.alloc (cells #[.string z,.bool s0,slice x0 n0 c0,slice y0 m0 d0,.int .i64 i1,.bool s1,slice x1 n1 c1,slice y1 m1 d1,.int .i64 i2,.bool s2,slice x2 n2 c2,slice y2 m2 d2] 59)=w5 at *;clear hbx;go_region_held3 (λw'=>w'.cell? ⟨bx,4,none⟩=some (.int .i64 i1)/\w'.cell? ⟨bx,5,none⟩=some (.bool s1)/\w'.cell? ⟨bx,6,none⟩=some (slice x1 n1 c1)/\w'.cell? ⟨bx,7,none⟩=some (slice y1 m1 d1)/\w'.cell? ⟨bx,8,none⟩=some (.int .i64 i2)/\w'.cell? ⟨bx,9,none⟩=some (.bool s2)/\w'.cell? ⟨bx,10,none⟩=some (slice x2 n2 c2)/\w'.cell? ⟨bx,11,none⟩=some (slice y2 m2 d2)/\w'.cell? ⟨b',o'+i*3,none⟩=some (.bool ss)/\w'.cell? ⟨b',o'+i*3+1,none⟩=some (slice sx sn sc)/\w'.cell? ⟨b',o'+i*3+2,none⟩=some (slice sy sm sd))
    (refine⟨?_,?_,?_,?_,?_,?_,?_,?_,?_,?_,?_⟩ <;> repeat(with_reducible first|assumption|refine kCd ?_|refine kCb (by assumption) ?_))
    (first|(go_at_call 57;with_reducible refine(CK.out _ zV).mono ?_;rintro e w6 ⟨rfl,hb6⟩))
   have HB6:=zi (HB3.out.trans ((show Bl w5 w6 from zV).mono HB3.out.size));clear hb6 HB3 CK p0 p1 p2 a4 a5 a6 a7 a8 a9 a10 a11;cases t1
   ·have HF:Hid (zey cs rs ds acl=false):=by show _=_;rw[zey,zgW hlt HT1.out];simp
    have HBF:=zM HB HB6.out;go_wp2;go_ret;exact⟨by rw[HF.out];rfl,HBF.out⟩
   ·go_wp2;go_roundw
    case rel=>exact⟨i+1,by omega,by go_num,HB6.out,by show _=_;rw[zdl,HAll.out,HT1.out];rfl⟩
    case measure=>simp[intOf];omega
  ·have i4:¬(((i:Nat):Int)<((cs.length:Nat):Int)):=by omega
   have e9:i=cs.length:=by omega
   have HCA:Hid (zdl (fcB cs ds) cs.length=true):=by show _=_;rw[<-e9];exact HAll.out
   replace BM:=zi (BM.out.q_ HB2.out);replace HB:=zM HB HB2.out;clear e9 HB2 HAll HC HX;obtain⟨w7,hw7⟩:∃z:World,z=wr:=⟨_,rfl⟩;subst hw7;have r4:=BM.out.cell (j:=4) rfl;go_wp2_with fail
   clear r4;go_loopw[33] (λt wr=>∃(i:Nat),i<=rs.length/\t=.int .i64 i/\Hid (Bl w7 wr)/\Hid (zdl (znP rs acl) i=true)) (λt _=>rs.length-(intOf t).toNat)
   case atStart=>exact⟨0,by omega,rfl,Below.refl _ _,rfl⟩
   case round =>
    obtain⟨i,hi,rfl,HB2,HAll⟩:=hrel;by_cases hlt:i<rs.length
    ·obtain⟨v,hv⟩:∃t,rs[i]?=some t:=⟨_,getElem?_eq_getElem (by omega)⟩;obtain⟨⟨b,o,hba,hc⟩,hV⟩:=HR.out i v hv;subst hba;have hbz:=bUp HB.out HB2.out;obtain⟨⟨z,⟨i1,⟨s1,x1,n1,c1,f1,y1,m1,d1,g1⟩⟩,⟨i2,⟨s2,x2,n2,c2,f2,y2,m2,d2,g2⟩⟩,ta,tk,tc,tcol,tt⟩,hCi⟩:∃t,R i=t:=⟨_,rfl⟩;rw[hCi]at hc
     have j1:i1=v.li:=by have:=hV.li;rw[hCi]at this;exact this
     have j2:i2=v.hi:=by have:=hV.hi;rw[hCi]at this;exact this
     replace hc:=Cs.q_ hc hbz;obtain⟨q0,q1,q2,q3,q4,q5,q6,q7,q8,q9⟩:=hc.lr;obtain⟨r,hr⟩:∃t,acl[i]?=some t:=⟨_,getElem?_eq_getElem (by omega)⟩;obtain⟨b',o',⟨ss,sx,sn,sc,sf,sy,sm,sd,sg⟩,hax,⟨p0,p1,p2⟩,hr'⟩:=(HAct.out.q_ hbz) i r hr;subst hax;replace p0:wr.cell? ⟨b',o'+i*3,none⟩=some (.bool ss):=p0;replace p1:wr.cell? ⟨b',o'+i*3+1,none⟩=some (slice sx sn sc):=p1;replace p2:wr.cell? ⟨b',o'+i*3+2,none⟩=some (slice sy sm sd):=p2;replace hr':Rn _ wr ss sx sn sc sf sy sm sd sg r:=hr';have hbt:=zE wr (cells #[.string z,.int .i64 i1,.bool s1,slice x1 n1 c1,slice y1 m1 d1,.int .i64 i2,.bool s2,slice x2 n2 c2,slice y2 m2 d2,slice ta tk tc] 62);obtain⟨-,a1,a2,a3,a4,a5,a6,a7,a8⟩:=bk9 (zI wr [.string z,.int .i64 i1,.bool s1,slice x1 n1 c1,slice y1 m1 d1,.int .i64 i2,.bool s2,slice x2 n2 c2,slice y2 m2 d2,slice ta tk tc] 62);obtain⟨t1,ht1⟩:∃t,(znP rs acl) i=t:=⟨_,rfl⟩;have HT1:=zi ht1;have CK:Hid (∀W,Bl wr W->Calls prog 57 #[agg #[.bool ss,slice sx sn sc,slice sy sm sd],agg #[.int .i64 i1,.bool s1,slice x1 n1 c1,slice y1 m1 d1],agg #[.int .i64 i2,.bool s2,slice x2 n2 c2,slice y2 m2 d2]] W λe w'=>e=returned (.bool t1)/\Bl W w'):=λW hW2=>by
      have hk9:=zlY (i1:=i1) (s1:=s1) (x1:=x1) (n1:=n1) (c1:=c1) (y1:=y1) (m1:=m1) (d1:=d1) (i2:=i2) (s2:=s2) (x2:=x2) (n2:=n2) (c2:=c2) (y2:=y2) (m2:=m2) (d2:=d2) (hr'.q_ hW2);have e9:t1=frB r i1 i2:=by rw[<-ht1,znP,hv,hr,j1,j2]
      rw[e9];exact hk9
     have i1':((i:Nat):Int)<((rs.length:Nat):Int):=by omega
     clear hCi hc hV j1 j2 ht1 hr' hv hr;go_upto_region 10 with fail
     clear q0 q1 q2 q3 q4 q5 q6 q7 q8 q9;replace p0:=kCb hbt p0;replace p1:=kCb hbt p1;replace p2:=kCb hbt p2
     have HB3:=zM HB2 hbt;replace CK:=zi (λW (hW2:Below (wr.alloc (cells #[.string z,.int .i64 i1,.bool s1,slice x1 n1 c1,slice y1 m1 d1,.int .i64 i2,.bool s2,slice x2 n2 c2,slice y2 m2 d2,slice ta tk tc] 62)).heap.size (wr.alloc (cells #[.string z,.int .i64 i1,.bool s1,slice x1 n1 c1,slice y1 m1 d1,.int .i64 i2,.bool s2,slice x2 n2 c2,slice y2 m2 d2,slice ta tk tc] 62)) W)=>CK.out W (bUp hbt hW2));clear hbz hbt HB2;generalize hbx:wr.heap.size=bx at *;generalize wr.alloc (cells #[.string z,.int .i64 i1,.bool s1,slice x1 n1 c1,slice y1 m1 d1,.int .i64 i2,.bool s2,slice x2 n2 c2,slice y2 m2 d2,slice ta tk tc] 62)=w5 at *;clear hbx;go_region_held3 (λw'=>w'.cell? ⟨bx,1,none⟩=some (.int .i64 i1)/\w'.cell? ⟨bx,2,none⟩=some (.bool s1)/\w'.cell? ⟨bx,3,none⟩=some (slice x1 n1 c1)/\w'.cell? ⟨bx,4,none⟩=some (slice y1 m1 d1)/\w'.cell? ⟨bx,5,none⟩=some (.int .i64 i2)/\w'.cell? ⟨bx,6,none⟩=some (.bool s2)/\w'.cell? ⟨bx,7,none⟩=some (slice x2 n2 c2)/\w'.cell? ⟨bx,8,none⟩=some (slice y2 m2 d2)/\w'.cell? ⟨b',o'+i*3,none⟩=some (.bool ss)/\w'.cell? ⟨b',o'+i*3+1,none⟩=some (slice sx sn sc)/\w'.cell? ⟨b',o'+i*3+2,none⟩=some (slice sy sm sd))
      (refine⟨?_,?_,?_,?_,?_,?_,?_,?_,?_,?_,?_⟩ <;> repeat(with_reducible first|assumption|refine kCd ?_|refine kCb (by assumption) ?_))
      (first|(go_at_call 57;with_reducible refine(CK.out _ zV).mono ?_;rintro e w6 ⟨rfl,hb6⟩))
     have HB6:=zi (HB3.out.trans ((show Bl w5 w6 from zV).mono HB3.out.size));clear hb6 HB3 CK p0 p1 p2 a1 a2 a3 a4 a5 a6 a7 a8;cases t1
     ·have HF:Hid (zey cs rs ds acl=false):=by show _=_;rw[zey,zgW hlt HT1.out];simp
      have HBF:=zM HB HB6.out;go_wp2;go_ret;exact⟨by rw[HF.out];rfl,HBF.out⟩
     ·go_wp2;go_roundw
      case rel=>exact⟨i+1,by omega,by go_num,HB6.out,by show _=_;rw[zdl,HAll.out,HT1.out];rfl⟩
      case measure=>simp[intOf];omega
    ·have i4:¬(((i:Nat):Int)<((rs.length:Nat):Int)):=by omega
     have e9:i=rs.length:=by omega
     have HF:Hid (zey cs rs ds acl=true):=by show _=_;rw[zey,HCA.out,<-e9,HAll.out];rfl
     have HBF:=zM HB HB2.out;clear e9 HB2 HAll;go_wp2;go_ret;exact⟨by rw[HF.out];rfl,HBF.out⟩
def zhr (cs:List CV) (ds:List Rat):Rat:=zbK (costs cs ds) 0
theorem zne {w L M off cs rs ao k cap xs} (h:MoV L w M off cs rs) (hx:Rf L w ao xs) (hk:xs.length=k) (hkc:k=cs.length) (l64:cs.length<=64) (hL:L<=100) :
  Calls prog 28 #[M.val,slice ao k cap] w λe w'=>zbq (KA L) w w' e (zhr cs xs):=by
 subst hkc;have hck:M.ck=cs.length:=h.ck;have hC:=h.cls;clear h;obtain⟨⟨s,x,n,c,f,y,m,d,g⟩,ca,ck,cc,C,ra,rk,rc,R⟩:=M;replace hck:ck=cs.length:=hck;subst hck;have HC:Hid (∀j v,cs[j]?=some v->(∃b o,ca=some ⟨b,o,none⟩/\Cs w b (o+j*12) (C j).vs)/\ColV L w (C j) v):=hC;have HX:=zi hx;have HXL:=zi hk
 clear hC hx hk;show Calls prog 28 #[agg #[.bool s,slice x n c,slice y m d,slice ca cs.length cc,slice ra rk rc],slice ao cs.length cap] w _;have hb:=zk (zE w (cells #[.bool s,slice x n c,slice y m d,slice ca cs.length cc,slice ra rk rc] 28)) (cells #[.bool false,slice none 0 0,slice none 0 0] 24);have BM:=zi ((zI w [.bool s,slice x n c,slice y m d,slice ca cs.length cc,slice ra rk rc] 28).q_ (zE _ (cells #[.bool false,slice none 0 0,slice none 0 0] 24)));have hob:=zay (w.alloc (cells #[.bool s,slice x n c,slice y m d,slice ca cs.length cc,slice ra rk rc] 28)) 24;rw[zv]at hob
 have OB:=zi hob;have HB:=zi hb
 clear hb hob;go_enter func28,ntmps28;obtain⟨r0,r1,r2,r3,r4⟩:=bk5 BM.out;go_wp2_with fail
 clear r0 r1 r2 r3 r4;generalize((w.alloc (cells #[.bool s,slice x n c,slice y m d,slice ca cs.length cc,slice ra rk rc] 28)).alloc (cells #[.bool false,slice none 0 0,slice none 0 0] 24))=w1 at *;go_loopw[5,11] (λov t wr=>∃(i:Nat),i<=cs.length/\t=.int .i64 i/\Hid (Bl w1 wr)/\Hid (Gr (2*L+1) w1.heap.size wr ov ((costs cs xs).take i))) (λ_ t _=>cs.length-(intOf t).toNat)
 case atStart=>exact⟨0,by omega,rfl,Below.refl _ _,zfY _ _ _⟩
 case round =>
  obtain⟨i,hi,rfl,HB2,HG2⟩:=hrel;have hcl:(costs cs xs).length=cs.length:=by unfold costs;rw[List.length_zipWith,HXL.out,Nat.min_self]
  have hgl:((costs cs xs).take i).length=i:=by rw[List.length_take];omega
  by_cases hlt:i<cs.length
  ·obtain⟨v,hv⟩:∃t,cs[i]?=some t:=⟨_,getElem?_eq_getElem (by omega)⟩;obtain⟨⟨b,o,hba,hc⟩,hV⟩:=HC.out i v hv;subst hba;have hbz:=bUp HB.out HB2.out;have hcost:=hV.cost.q_ hbz;obtain⟨⟨z,⟨s0,x0,n0,c0,f0,y0,m0,d0,g0⟩,⟨i1,⟨s1,x1,n1,c1,f1,y1,m1,d1,g1⟩⟩,⟨i2,⟨s2,x2,n2,c2,f2,y2,m2,d2,g2⟩⟩⟩,hCi⟩:∃t,C i=t:=⟨_,rfl⟩;rw[hCi]at hc hcost
   replace hcost:Rn L wr s0 x0 n0 c0 f0 y0 m0 d0 g0 v.cost:=hcost;replace hc:=Cs.q_ hc hbz;obtain⟨q0,q1,q2,q3,q4,q5,q6,q7,q8,q9,q10,q11⟩:=hc.lc;obtain⟨r,hr⟩:∃t,xs[i]?=some t:=⟨_,getElem?_eq_getElem (by have:=HXL.out;omega)⟩;obtain⟨b',o',⟨ss,sx,sn,sc,sf,sy,sm,sd,sg⟩,hax,⟨p0,p1,p2⟩,hr'⟩:=(HX.out.q_ hbz) i r hr;subst hax;replace p0:wr.cell? ⟨b',o'+i*3,none⟩=some (.bool ss):=p0;replace p1:wr.cell? ⟨b',o'+i*3+1,none⟩=some (slice sx sn sc):=p1;replace p2:wr.cell? ⟨b',o'+i*3+2,none⟩=some (slice sy sm sd):=p2;replace hr':Rn L wr ss sx sn sc sf sy sm sd sg r:=hr';have HCI:Hid ((costs cs xs).take (i+1)=(costs cs xs).take i++[v.cost*r]):=by
    show _=_;rw[List.take_add_one]
    congr 1
    unfold costs;rw[List.getElem?_zipWith,hv,hr];rfl
   have hbt:=zE wr (cells #[.string z,.bool s0,slice x0 n0 c0,slice y0 m0 d0,.int .i64 i1,.bool s1,slice x1 n1 c1,slice y1 m1 d1,.int .i64 i2,.bool s2,slice x2 n2 c2,slice y2 m2 d2] 59);obtain⟨-,a1,a2,a3⟩:=bk4 (zI wr [.string z,.bool s0,slice x0 n0 c0,slice y0 m0 d0,.int .i64 i1,.bool s1,slice x1 n1 c1,slice y1 m1 d1,.int .i64 i2,.bool s2,slice x2 n2 c2,slice y2 m2 d2] 59);have i1':((i:Nat):Int)<((cs.length:Nat):Int):=by omega
   clear hCi hc hV hv hr;go_upto_region 5 with fail
   clear q0 q1 q2 q3 q4 q5 q6 q7 q8 q9 q10 q11;replace p0:=kCb hbt p0;replace p1:=kCb hbt p1;replace p2:=kCb hbt p2
   have HB3:=zM HB2 hbt;have HG3:=zi (HG2.out.q_ hbt);have R1:=zi (hcost.q_ hbt);have R2:=zi (hr'.q_ hbt)
   clear hbz hbt HB2 HG2 hcost hr';generalize hbx:wr.heap.size=bx at *;generalize wr.alloc (cells #[.string z,.bool s0,slice x0 n0 c0,slice y0 m0 d0,.int .i64 i1,.bool s1,slice x1 n1 c1,slice y1 m1 d1,.int .i64 i2,.bool s2,slice x2 n2 c2,slice y2 m2 d2] 59)=w5 at *;clear hbx;refine zaL (S:=(λw'=>w'.cell? ⟨bx,1,none⟩=some (.bool s0)/\w'.cell? ⟨bx,2,none⟩=some (slice x0 n0 c0)/\w'.cell? ⟨bx,3,none⟩=some (slice y0 m0 d0)/\w'.cell? ⟨b',o'+i*3,none⟩=some (.bool ss)/\w'.cell? ⟨b',o'+i*3+1,none⟩=some (slice sx sn sc)/\w'.cell? ⟨b',o'+i*3+2,none⟩=some (slice sy sm sd))) 7 (by kernel_rfl) ⟨kCd a1,kCd a2,kCd a3,kCd p0,kCd p1,kCd p2⟩ (λhHeld=>?_);refine skP 0 ?_;refine skP 1 ?_;refine tkP 2 ?_;simp only[zA,Act.put];refine skP 3 ?_;refine skP 4 ?_;refine skP 5 ?_;simp only[zA,Act.put];refine tkP 6 ?_;simp only[zA,Act.put];refine rdP 7 (λK hK=>?_);go_simp
   go_at_call 35
   refine(zek (L:=L) (zeO R1.out) (zeO R2.out) (by omega)).mono ?_;rintro e w6 ⟨s6,x6,n6,c6,f6,y6,m6,d6,g6,rfl,hb6,hq6⟩
   (try go_wp2_with fail)
   refine hK.out _ _ (λh=>by cases h) (λ_=>?_);clear hK K;try simp only[zA,Act.put]
   refine rdP 8 (λK hK=>?_);go_simp;refine hK.out _ _ (λh=>by cases h) (λ_=>?_);clear hK K;try simp only[zA,Act.put]
   refine rdP 9 (λK hK=>?_);obtain⟨T,hrow,hT⟩:=(Gr.q_ HG3.out (Below.drew (Below.refl w5.heap.size w5))).q_ hb6;rw[hgl]at hrow
   refine zar w6 rfl (.tmp 16) (.tmp 24) 29 rfl w1.heap.size 24 56 3 (agg #[.bool false,slice none 0 0,slice none 0 0]) underlying29 zbv rfl (by decide) nz3 u5 i _ rfl hrow #[.bool s6,slice x6 n6 c6,slice y6 m6 d6] rfl rfl (zgB _ _ _ _ _ _ _) (zeN _ _ _ _ _ _ _) (by omega) (by decide) ?hz ?_
   case hz=>exact(HB3.out.drew.trans (hb6.mono HB3.out.drew.size)).size
   intro g8 cap8 w8 hr8 hk8 hb8 hg8;have HB8:Hid (Bl w1 w8):=hb8 w1 (HB3.out.drew.trans (hb6.mono HB3.out.drew.size)) (le_refl _);have HG8:Hid (Gr (2*L+1) w1.heap.size w8 (slice (some ⟨g8,0,none⟩) (i+1) cap8) ((costs cs xs).take (i+1))):=by
    have hp8:=zdV (p:=(costs cs xs).take i) hT (by rw[hgl];exact hr8) hk8 hq6;rw[hgl]at hp8
    rw[HCI.out];exact hp8
   clear hr8 hk8 hb8 hg8 hrow hT hb6 hq6 HG3 HB3 R1 R2;refine hK.out _ _ (λh=>by cases h) (λ_=>?_);clear hK K;simp only[List.getElem_toArray,List.getElem_cons_succ,List.getElem_cons_zero,Act.put,List.setIfInBounds_toArray,List.set_cons_zero,List.set_cons_succ];refine zaa (i:=10) (v:=?_) rfl (by kernel_rfl) (by kernel_rfl) (by kernel_rfl) (by kernel_rfl) (λ_ _ _ h=>h) (Or.inl ⟨by rfl,?_⟩) (λh=>by cases h) ?_;rotate_left
   (focus (intro w0 hSw;go_simp <;> with_reducible rfl))
   simp only[List.getElem_toArray,List.getElem_cons_succ,List.getElem_cons_zero,Act.put,List.setIfInBounds_toArray,List.set_cons_zero,List.set_cons_succ];refine dnP ?_;clear hHeld a1 a2 a3 p0 p1 p2;go_wp2;go_roundw
   case rel=>exact⟨i+1,by omega,by go_num,HB8.out,HG8.out⟩
   case measure=>simp[intOf];omega
  ·have i4:¬(((i:Nat):Int)<((cs.length:Nat):Int)):=by omega
   have e9:i=cs.length:=by omega
   obtain⟨va,vc,hvs,hvc⟩:=HG2.out.slice;rw[hgl]at hvs
   have HG4:=HG2.out;rw[hvs]at HG4
   replace HG4:=zi (show Rf (2*L+1) wr va (costs cs xs) by have:=HG4.rf;rw[List.take_of_length_le (by omega)]at this;exact this);subst hvs;have HLen:=zi (show(costs cs xs).length=i by omega);have hi65:i<=64:=by omega
   replace HB:=zM HB HB2.out;replace OB:=zi (OB.out.q_ HB2.out)
   clear HG2 HB2 hgl hcl e9 HC HX BM;go_wp2_with fail
   refine(zhA (L:=2*L+1) HG4.out HLen.out (by omega) (by omega)).mono ?_;rintro e w6 ⟨s6,x6,n6,c6,f6,y6,m6,d6,g6,rfl,hb6,hq6⟩;replace HB:=zM HB hb6;replace OB:=zi (OB.out.q_ hb6)
   have HQ:=zi (show Rn (KA L) w6 s6 x6 n6 c6 f6 y6 m6 d6 g6 (zhr cs xs)from hq6.mono (by unfold KA;have:i*(2*L+1+1)<=64*(2*L+1+1):=Nat.mul_le_mul_right _ hi65;omega));clear hb6 hq6 HG4 HLen;obtain⟨hz,z0,z1,z2,zf⟩:=OB.out;go_wp2;exact bodyPost_ret (v:=agg #[.bool s6,slice x6 n6 c6,slice y6 m6 d6]) (by simp[results,results28,go_sem,z0,z1,z2]) rfl ⟨s6,x6,n6,c6,f6,y6,m6,d6,g6,rfl,zZ HB.out (by omega),OB.out.rn HQ.out⟩
def zca (e0 er:Int) (cs:List CV) (rs:List RV) (ds:List Rat):Bool:=decide (e0=0) && (decide (er=0) && zey cs rs ds (rs.map (zbg ds)))
theorem zhy {w L M off cs rs ao k cap X ds e0 er} (hW:MoW w M) (hx:Rl w ao k X) (hk:k<=1048576) (hc:zaH M=e0) (he:zbM M k X=er) (hv:er=0->MoV L w M off cs rs/\zcc cs rs=true/\Rf L w ao ds/\ds.length=k/\k=cs.length) (hL:L<=30) :
  Calls prog 12 #[M.val,slice ao k cap] w λe w'=>e=returned (.tuple #[.bool (zca e0 er cs rs ds),.int .i64 e0])/\Bl w w':=by
 have CC:=zi (λW (hW2:Bl w W)=>zjg (hW.q_ hW2));rw[hc]at CC
 have CA:Hid (∀W,Bl w W->Calls prog 30 #[M.val,slice ao k cap] W λe w'=>zmM L W w' e er rs ds):=λW hW2=>znu (hW.q_ hW2) (hx.q_ hW2) hk he (λh0=>⟨(hv h0).1.q_ hW2,(hv h0).2.1,(hv h0).2.2.1.q_ hW2,(hv h0).2.2.2⟩) hL
 have CE:Hid (er=0->∀W aa ca,Bl w W->Rf (KA L) W aa (rs.map (zbg ds))->Calls prog 31 #[M.val,slice ao k cap,slice aa rs.length ca] W λe w'=>e=returned (.bool (zey cs rs ds (rs.map (zbg ds))))/\Bl W w'):=λh0 W aa ca hW2 ha=>by
  obtain⟨v1,v2,v3,v4,v5⟩:=hv h0;have mp:=zcI v2;exact zjX (v1.q_ hW2) (v3.q_ hW2) ha v4 v5 (by rw[List.length_map]) rfl mp.cl mp.rl
 clear hW hx hv he hc;obtain⟨⟨s,x,n,c,f,y,m,d,g⟩,ca,ck,cc,C,ra,rk,rc,R⟩:=M;replace CC:Hid (∀W,Bl w W->Calls prog 29 #[agg #[.bool s,slice x n c,slice y m d,slice ca ck cc,slice ra rk rc]] W λe w'=>e=returned (.int .i64 e0)/\Bl W w'):=CC;replace CA:Hid (∀W,Bl w W->Calls prog 30 #[agg #[.bool s,slice x n c,slice y m d,slice ca ck cc,slice ra rk rc],slice ao k cap] W λe w'=>zmM L W w' e er rs ds):=CA;replace CE:Hid (er=0->∀W aa ca',Bl w W->Rf (KA L) W aa (rs.map (zbg ds))->Calls prog 31 #[agg #[.bool s,slice x n c,slice y m d,slice ca ck cc,slice ra rk rc],slice ao k cap,slice aa rs.length ca'] W λe w'=>e=returned (.bool (zey cs rs ds (rs.map (zbg ds))))/\Bl W w'):=CE;show Calls prog 12 #[agg #[.bool s,slice x n c,slice y m d,slice ca ck cc,slice ra rk rc],slice ao k cap] w _;have hb:=zE w (cells #[.bool s,slice x n c,slice y m d,slice ca ck cc,slice ra rk rc] 28);have BM:=zi (zI w [.bool s,slice x n c,slice y m d,slice ca ck cc,slice ra rk rc] 28);have HB:=zi hb;clear hb;go_enter func12,ntmps12;go_wp2_with fail
 generalize w.alloc (cells #[.bool s,slice x n c,slice y m d,slice ca ck cc,slice ra rk rc] 28)=w0 at *;refine(CC.out _ HB.out).mono ?_;rintro e w1 ⟨rfl,hb⟩;replace HB:=zM HB hb;replace BM:=zi (BM.out.q_ hb)
 clear hb CC;by_cases h0:e0=0
 case neg =>
  have h1:(e0 != 0)=true:=by simpa using h0
  have HF:Hid (zca e0 er cs rs ds=false):=by show _=_;rw[zca,decide_eq_false h0];rfl
  clear h0;go_wp2
  go_ret2
  exact⟨by rw[HF.out];rfl,HB.out⟩
 subst h0;obtain⟨r0,r1,r2,r3,r4⟩:=bk5 BM.out;go_wp2_with fail
 refine(CA.out _ HB.out).mono ?_;rintro e w2 ⟨hb,hans⟩;replace HB:=zM HB hb;replace BM:=zi (BM.out.q_ hb)
 clear hb CA r0 r1 r2 r3 r4;rcases hans with⟨h0,rfl⟩|⟨h0,aa,ac,rfl,hac,hR⟩
 ·have h1:(er==0)=false:=by simpa using h0
  have HF:Hid (zca 0 er cs rs ds=false):=by show _=_;rw[zca,decide_eq_false h0];rfl
  clear h0 CE;go_wp2
  go_ret2
  exact⟨by rw[HF.out];rfl,HB.out⟩
 ·have CE2:=zi (CE.out h0);subst h0;have HR:=zi hR;clear hR CE hac;obtain⟨r0,r1,r2,r3,r4⟩:=bk5 BM.out;go_wp2_with fail
  refine(CE2.out _ aa ac HB.out HR.out).mono ?_;rintro e w3 ⟨rfl,hb⟩;replace HB:=zM HB hb;clear hb CE2 r0 r1 r2 r3 r4 BM;have HF:Hid (zca 0 0 cs rs ds=zey cs rs ds (rs.map (zbg ds))):=by show _=_;simp[zca]
  go_wp2
  go_ret2
  exact⟨by rw[HF.out];rfl,HB.out⟩
def zhm (e0 er ex:Int) (cs:List CV) (rs:List RV) (ds xs:List Rat):Bool:=zca e0 er cs rs ds && (decide (ex=0) && zfj cs rs xs && decide (zhr cs ds<0))
theorem zgw {w L M off cs rs ao k cap X ds e0 er} (hW:MoW w M) (hx:Rl w ao k X) (hk:k<=1048576) (hc:zaH M=e0) (he:zbM M k X=er) (hv:er=0->MoV L w M off cs rs/\zcc cs rs=true/\Rf L w ao ds/\ds.length=k/\k=cs.length) (hL:L<=30) {ax kx capx Y xs ex} (hy:Rl w ax kx Y) (hkx:kx<=1048576) (hex:zbM M kx Y=ex) (hvx:ex=0->MoV L w M off cs rs/\zcc cs rs=true/\Rf L w ax xs/\xs.length=kx/\kx=cs.length) :
  Calls prog 11 #[M.val,agg #[slice ax kx capx,slice ao k cap]] w λe w'=>e=returned (.tuple #[.bool (zhm e0 er ex cs rs ds xs),.int .i64 e0])/\Bl w w':=by
 have CR:Hid (∀W,Bl w W->Calls prog 12 #[M.val,slice ao k cap] W λe w'=>e=returned (.tuple #[.bool (zca e0 er cs rs ds),.int .i64 e0])/\Bl W w'):=λW hW2=>zhy (hW.q_ hW2) (hx.q_ hW2) hk hc he (λh0=>⟨(hv h0).1.q_ hW2,(hv h0).2.1,(hv h0).2.2.1.q_ hW2,(hv h0).2.2.2⟩) hL
 have CF:Hid (∀W,Bl w W->Calls prog 27 #[M.val,slice ax kx capx] W λe w'=>e=returned (.tuple #[.bool (decide (ex=0) && zfj cs rs xs),.int .i64 ex])/\Bl W w'):=λW hW2=>znt (hW.q_ hW2) (hy.q_ hW2) hkx hex (λh0=>⟨(hvx h0).1.q_ hW2,(hvx h0).2.1,(hvx h0).2.2.1.q_ hW2,(hvx h0).2.2.2⟩) hL
 have CS:Hid (zca e0 er cs rs ds=true->∀W,Bl w W->Calls prog 28 #[M.val,slice ao k cap] W λe w'=>zbq (KA L) W w' e (zhr cs ds)):=λh0 W hW2=>by
  have h1:er=0:=by simp only[zca,Bool.and_eq_true,decide_eq_true_eq]at h0;exact h0.2.1
  obtain⟨v1,v2,v3,v4,v5⟩:=hv h1;exact zne (v1.q_ hW2) (v3.q_ hW2) v4 v5 (zcI v2).cl (by omega)
 have HE0:Hid (zca e0 er cs rs ds=true->e0=0):=λh0=>by simp only[zca,Bool.and_eq_true,decide_eq_true_eq]at h0;exact h0.1
 clear hW hx hv he hc hy hex hvx;obtain⟨rb,hrb⟩:∃z,zca e0 er cs rs ds=z:=⟨_,rfl⟩;obtain⟨fb,hfb⟩:∃z,(decide (ex=0) && zfj cs rs xs)=z:=⟨_,rfl⟩;have HV:Hid (zhm e0 er ex cs rs ds xs=(rb && (fb && decide (zhr cs ds<0)))):=by show _=_;rw[zhm,hrb,hfb]
 rw[hrb]at CR CS HE0
 rw[hfb]at CF
 clear hrb hfb;obtain⟨⟨s,x,n,c,f,y,m,d,g⟩,ca,ck,cc,C,ra,rk,rc,R⟩:=M;replace CR:Hid (∀W,Bl w W->Calls prog 12 #[agg #[.bool s,slice x n c,slice y m d,slice ca ck cc,slice ra rk rc],slice ao k cap] W λe w'=>e=returned (.tuple #[.bool rb,.int .i64 e0])/\Bl W w'):=CR;replace CF:Hid (∀W,Bl w W->Calls prog 27 #[agg #[.bool s,slice x n c,slice y m d,slice ca ck cc,slice ra rk rc],slice ax kx capx] W λe w'=>e=returned (.tuple #[.bool fb,.int .i64 ex])/\Bl W w'):=CF;replace CS:Hid (rb=true->∀W,Bl w W->Calls prog 28 #[agg #[.bool s,slice x n c,slice y m d,slice ca ck cc,slice ra rk rc],slice ao k cap] W λe w'=>zbq (KA L) W w' e (zhr cs ds)):=CS;show Calls prog 11 #[agg #[.bool s,slice x n c,slice y m d,slice ca ck cc,slice ra rk rc],agg #[slice ax kx capx,slice ao k cap]] w _;have hb:=zk (zE w (cells #[.bool s,slice x n c,slice y m d,slice ca ck cc,slice ra rk rc] 28)) (cells #[slice ax kx capx,slice ao k cap] 31);have BM:=zi ((zI w [.bool s,slice x n c,slice y m d,slice ca ck cc,slice ra rk rc] 28).q_ (zE _ (cells #[slice ax kx capx,slice ao k cap] 31)));have BY:=zi (zeB w (cells #[.bool s,slice x n c,slice y m d,slice ca ck cc,slice ra rk rc] 28) [slice ax kx capx,slice ao k cap] 31);have HB:=zi hb;clear hb;go_enter func11,ntmps11;obtain⟨r0,r1,r2,r3,r4⟩:=bk5 BM.out;obtain⟨t0,t1⟩:=bk2 BY.out;go_wp2_with fail
 clear r0 r1 r2 r3 r4 t0 t1;generalize(w.alloc (cells #[.bool s,slice x n c,slice y m d,slice ca ck cc,slice ra rk rc] 28)).alloc (cells #[slice ax kx capx,slice ao k cap] 31)=w0 at *;refine(CR.out _ HB.out).mono ?_;rintro e w1 ⟨rfl,hb⟩;replace HB:=zM HB hb;replace BM:=zi (BM.out.q_ hb);replace BY:=zi (BY.out.q_ hb)
 clear hb CR;cases rb
 ·go_wp2
  go_ret2
  exact⟨by rw[HV.out];rfl,HB.out⟩
 have e0z:e0=0:=HE0.out rfl;subst e0z;obtain⟨r0,r1,r2,r3,r4⟩:=bk5 BM.out;obtain⟨t0,t1⟩:=bk2 BY.out;go_wp2_with fail
 clear r0 r1 r2 r3 r4 t0 t1;refine(CF.out _ HB.out).mono ?_;rintro e w2 ⟨rfl,hb⟩;replace HB:=zM HB hb;replace BM:=zi (BM.out.q_ hb);replace BY:=zi (BY.out.q_ hb)
 clear hb CF;cases fb
 ·go_wp2
  go_ret2
  exact⟨by rw[HV.out];rfl,HB.out⟩
 have CS2:=zi (CS.out (by first|rfl|trivial));obtain⟨r0,r1,r2,r3,r4⟩:=bk5 BM.out;obtain⟨t0,t1⟩:=bk2 BY.out;go_wp2_with fail
 clear r0 r1 r2 r3 r4 t0 t1;refine(CS2.out _ HB.out).mono ?_;rintro e w3 ⟨s6,x6,n6,c6,f6,y6,m6,d6,g6,rfl,hb,hq⟩;replace HB:=zM HB hb;have HS:Hid (s6=decide (zhr cs ds<0)):=hq.sg;clear hb hq CS CS2 BM BY;have hf0:∀(W:World),(Instr.field 24 (agg #[.bool s6,slice x6 n6 c6,slice y6 m6 d6]) 0).run prog W=.ok (.bool s6) W:=by intros;kernel_rfl
 go_wp2
 go_ret2
 exact⟨by rw[HV.out,<-HS.out];cases s6 <;> rfl,HB.out⟩
def alE (t:Nm) (kx:Nat) (Y:Nat->Nm) (k:Nat) (X:Nat->Nm):Int:=lsf (tri (pnE 1 (λ_=>t) 1) (pnE kx Y kx) (pnE k X kx)) 3
def zas (xs ds:List Rat) (t:Rat):List Rat:=List.zipWith (λx d=>0+x+t*d) xs ds
def KL (L:Nat):Nat:=4+2*(2*L+1+1)
def zqw (L:Nat) (w w':World) (e:Ending) (er:Int) (kx:Nat) (xs ds:List Rat) (t:Rat):Prop:=Bl w w' /\
 ((er≠0/\e=returned (.tuple #[slice none 0 0,.int .i64 er]))∨(er=0/\∃a c,e=returned (.tuple #[slice a kx c,.int .i64 0])/\(kx<=c/\c<=9223372036854775807)/\Rf (KL L) w' a (zas xs ds t)))
theorem ziv {w t T} (h:NmS w t):Rl (w.alloc (cells #[.bool t.s,slice t.x t.n t.c,slice t.y t.m t.d] T)) (some ⟨w.heap.size,0,none⟩) 1 (λ_=>t):=λj hj=>by
 obtain rfl:j=0:=by omega
 exact⟨w.heap.size,0,rfl,⟨by simp[go_sem],by simp[go_sem],by simp[go_sem]⟩,h.q_ (zk (Below.refl _ _) _)⟩
theorem zkZ {K w T s x n c f y m d g q s2 x2 n2 c2 f2 y2 m2 d2 g2 q2} (h:Rn K w s x n c f y m d g q) (h2:Rn K w s2 x2 n2 c2 f2 y2 m2 d2 g2 q2):Rf K (w.alloc (cells #[.bool s,slice x n c,slice y m d,.bool s2,slice x2 n2 c2,slice y2 m2 d2] T)) (some ⟨w.heap.size,0,none⟩) [q,q2]:=λj q' e=>by
 match j,e with
 | 0,e=>cases e;exact⟨w.heap.size,0,⟨s,x,n,c,f,y,m,d,g⟩,rfl,⟨by simp[go_sem],by simp[go_sem],by simp[go_sem]⟩,h.alloc _⟩
 | 1,e=>cases e;exact⟨w.heap.size,0,⟨s2,x2,n2,c2,f2,y2,m2,d2,g2⟩,rfl,⟨by simp[go_sem],by simp[go_sem],by simp[go_sem]⟩,h2.alloc _⟩
theorem zli {w L ax kx capx Y ao k cap X ts tx tn tc tf ty tm td tg xs ds tq er} (hy:Rl w ax kx Y) (hx:Rl w ao k X) (ht:NmS w ⟨ts,tx,tn,tc,tf,ty,tm,td,tg⟩) (hkx:kx<=1000000) (hk:k<=1048576) (he:alE ⟨ts,tx,tn,tc,tf,ty,tm,td,tg⟩ kx Y k X=er) (hv:er=0->Rf L w ax xs/\xs.length=kx/\Rf L w ao ds/\ds.length=k/\k=kx/\Rn L w ts tx tn tc tf ty tm td tg tq) (hL:L<=60) :
  Calls prog 13 #[agg #[slice ax kx capx,slice ao k cap],agg #[.bool ts,slice tx tn tc,slice ty tm td]] w λe w'=>zqw L w w' e er kx xs ds tq:=by
 have C0:Hid (∀W,Bl w W->Calls prog 33 #[slice (some ⟨W.heap.size,0,none⟩) 1 1,.int .i64 1] (W.alloc (cells #[.bool ts,slice tx tn tc,slice ty tm td] 24)) λe w'=>e=returned (.int .i64 (pnE 1 (λ_=>⟨ts,tx,tn,tc,tf,ty,tm,td,tg⟩) 1))/\Below (W.alloc (cells #[.bool ts,slice tx tn tc,slice ty tm td] 24)).heap.size (W.alloc (cells #[.bool ts,slice tx tn tc,slice ty tm td] 24)) w'):=λW hW2=>zaP (ziv (ht.q_ hW2)) (by decide)
 have C1:=zi (λW (hW2:Bl w W)=>zaP (w:=W) (cap:=capx) (z:=(kx:Int)) (hy.q_ hW2) (by omega));have C2:=zi (λW (hW2:Bl w W)=>zaP (w:=W) (cap:=cap) (z:=(kx:Int)) (hx.q_ hW2) hk);have HE:=zi he;unfold alE at he;obtain⟨e0,he0⟩:∃e,pnE 1 (λ_=>⟨ts,tx,tn,tc,tf,ty,tm,td,tg⟩) 1=e:=⟨_,rfl⟩;rw[he0]at C0 he
 clear he0;obtain⟨e1,he1⟩:∃e,pnE kx Y kx=e:=⟨_,rfl⟩;rw[he1]at C1 he
 clear he1;obtain⟨e2,he2⟩:∃e,pnE k X kx=e:=⟨_,rfl⟩;rw[he2]at C2 he
 clear he2;have HE2:=zi he;have HV:=zi hv
 clear he hv hx hy ht;have hb:=zk (zE w (cells #[slice ax kx capx,slice ao k cap] 31)) (cells #[.bool ts,slice tx tn tc,slice ty tm td] 24);have BY:=zi ((zI w [slice ax kx capx,slice ao k cap] 31).q_ (zE _ (cells #[.bool ts,slice tx tn tc,slice ty tm td] 24)));have BT:=zi (zeB w (cells #[slice ax kx capx,slice ao k cap] 31) [.bool ts,slice tx tn tc,slice ty tm td] 24);have HB:=zi hb;clear hb;go_enter func13,ntmps13;have t0:=BY.out.cell (j:=0) rfl;go_upto_region 2 with fail
 clear t0;generalize((w.alloc (cells #[slice ax kx capx,slice ao k cap] 31)).alloc (cells #[.bool ts,slice tx tn tc,slice ty tm td] 24))=w0 at *;have hbd:=Below.drew (Below.refl w0.heap.size w0);replace HB:=zM HB hbd;replace BY:=zi (BY.out.q_ hbd);replace BT:=zi (BT.out.q_ hbd)
 clear hbd;obtain⟨y0,y1⟩:=bk2 BY.out;obtain⟨r0,r1,r2⟩:=bk3 BT.out;refine wp_region_held_drew (S:=(λw'=>w'.cell? ⟨w.heap.size,0,none⟩=some (slice ax kx capx)/\w'.cell? ⟨w.heap.size,1,none⟩=some (slice ao k cap)/\w'.cell? ⟨w.heap.size+1,0,none⟩=some (.bool ts)/\w'.cell? ⟨w.heap.size+1,1,none⟩=some (slice tx tn tc)/\w'.cell? ⟨w.heap.size+1,2,none⟩=some (slice ty tm td))) (by kernel_rfl) ?_ (λhHeld=>?_)
 ·exact⟨y0,y1,r0,r1,r2⟩
 generalize w0.drew=wd at *;clear y0 y1 r0 r1 r2;refine tkO 0 ?_;refine tkO 3 ?_;refine tkO 4 ?_;simp only[zA,Act.put];refine tkO 5 ?_;refine tkO 7 ?_;refine tkO 8 ?_;simp only[zA,Act.put];refine tkO 9 ?_;simp only[zA,Act.put];refine rdO 1 (λK hK=>?_);go_simp;have hbn:=zE wd (cells #[.bool ts,slice tx tn tc,slice ty tm td] 24);refine hK.out _ _ ?_ (λhHn=>?_)
 ·exact⟨kCb hbn hHeld.1,kCb hbn hHeld.2.1,kCb hbn hHeld.2.2.1,kCb hbn hHeld.2.2.2.1,kCb hbn hHeld.2.2.2.2⟩
 clear hK K;have HBn:=zM HB hbn;try simp only[zA,Act.put]
 refine rdO 2 (λK hK=>?_);go_simp
 go_at_call 33
 refine(C0.out _ HB.out).mono ?_;rintro e w3 ⟨rfl,hb3⟩
 (try go_wp2_with fail)
 refine hK.out _ _ ?_ (λhH3=>?_)
 ·exact⟨kCb hb3 hHn.1,kCb hb3 hHn.2.1,kCb hb3 hHn.2.2.1,kCb hb3 hHn.2.2.2.1,kCb hb3 hHn.2.2.2.2⟩
 clear hK K;have HB3:=zM HBn hb3;try simp only[zA,Act.put]
 refine rdO 6 (λK hK=>?_);go_simp
 go_at_call 33
 refine(C1.out _ HB3.out).mono ?_;rintro e w4 ⟨rfl,hb4⟩
 (try go_wp2_with fail)
 refine hK.out _ _ ?_ (λhH4=>?_)
 ·exact⟨kCb hb4 hH3.1,kCb hb4 hH3.2.1,kCb hb4 hH3.2.2.1,kCb hb4 hH3.2.2.2.1,kCb hb4 hH3.2.2.2.2⟩
 clear hK K;have HB4:=zM HB3 hb4;try simp only[zA,Act.put]
 refine rdO 10 (λK hK=>?_);go_simp
 go_at_call 33
 refine(C2.out _ HB4.out).mono ?_;rintro e w5 ⟨rfl,hb5⟩
 (try go_wp2_with fail)
 refine hK.out _ _ ?_ (λhH5=>?_)
 ·exact⟨kCb hb5 hH4.1,kCb hb5 hH4.2.1,kCb hb5 hH4.2.2.1,kCb hb5 hH4.2.2.2.1,kCb hb5 hH4.2.2.2.2⟩
 clear hK K;have HB5:=zM HB4 hb5;obtain⟨y0,y1,r0,r1,r2⟩:=id hH5;try simp only[zA,Act.put]
 refine rdO 11 (λK hK=>?_);go_simp;have hbA:=zE w5 (cells #[.int .i64 e0,.int .i64 e1,.int .i64 e2] 39);have HEl:=zi (zkF (w:=w5) (e0:=e0) (e1:=e1) (e2:=e2) (t:=39));have HWA:=zM HB5 hbA;obtain⟨gA,hgA⟩:∃z,w5.heap.size=z:=⟨_,rfl⟩;rw[hgA]at HEl ⊢
 generalize hwA:w5.alloc (cells #[.int .i64 e0,.int .i64 e1,.int .i64 e2] 39)=wA at *;clear hwA hgA;refine hK.out _ _ ?_ (λhHA=>?_)
 ·((try dsimp only);(refine⟨?_,?_,?_,?_,?_⟩ <;> repeat(with_reducible first|assumption|refine kCb (by assumption) ?_)))
 clear hK K;try simp only[zA,Act.put]
 refine rdO 12 (λK hK=>?_);go_simp
 go_at_call 32
 refine(zfU HEl.out (by decide)).mono ?_;rintro e w9 ⟨rfl,rfl⟩
 (try go_wp2_with fail)
 refine hK.out _ _ ?_ (λhHB=>?_)
 ·exact hHA
 clear hK K;try simp only[zA,Act.put]
 refine tkO 13 ?_;simp only[zA,Act.put];refine dnO ?_;simp only[show lsf (tri e0 e1 e2) 3=er from HE2.out];replace BY:=zi (BY.out.q_ (hbn.trans ((hb3.trans ((bUp hb4 hb5).mono hb3.size)).mono hbn.size)));replace BT:=zi (BT.out.q_ (hbn.trans ((hb3.trans ((bUp hb4 hb5).mono hb3.size)).mono hbn.size)))
 replace BY:=zi (BY.out.q_ hbA);replace BT:=zi (BT.out.q_ hbA)
 replace HB:=zi HWA.out;clear HE2 hHeld hHn hH3 hH4 hH5 hHA hHB hbn hb3 hb4 hb5 hbA y0 y1 r0 r1 r2 HEl C0 C1 C2 HBn HB3 HB4 HB5 HWA;by_cases h0:er=0
 case neg =>
  have h1:(er != 0)=true:=by simpa using h0
  have H0:=zi h0;go_wp2
  go_ret2
  exact⟨HB.out,.inl ⟨H0.out,rfl⟩⟩
 obtain⟨v1,v2,v3,v4,v5,v6⟩:=HV.out h0;subst h0;subst v5;have HX:=zi v1;have HXL:=zi v2;have HD:=zi v3;have HDL:=zi v4;have HT:=zi v6
 clear v1 v2 v3 v4 v6 HV;have y0:=BY.out.cell (j:=0) rfl;go_wp2_with fail
 clear y0;obtain⟨w1,hw1⟩:∃z:World,z=w9:=⟨_,rfl⟩;subst hw1;go_loopw[8,33] (λov t wr=>∃(i:Nat),i<=k/\t=.int .i64 i/\Hid (Bl w1 wr)/\Hid (Gr (KL L) w1.heap.size wr ov ((zas xs ds tq).take i))) (λ_ t _=>k-(intOf t).toNat)
 case atStart=>exact⟨0,by omega,rfl,Below.refl _ _,zfY _ _ _⟩
 case round =>
  obtain⟨i,hi,rfl,HB2,HG2⟩:=hrel;have hcl:(zas xs ds tq).length=k:=by unfold zas;rw[List.length_zipWith,HXL.out,HDL.out,Nat.min_self]
  have hgl:((zas xs ds tq).take i).length=i:=by rw[List.length_take];omega
  by_cases hlt:i<k
  ·obtain⟨u,hu⟩:∃t,xs[i]?=some t:=⟨_,getElem?_eq_getElem (by have:=HXL.out;omega)⟩;obtain⟨r,hr⟩:∃t,ds[i]?=some t:=⟨_,getElem?_eq_getElem (by have:=HDL.out;omega)⟩;have hbz:=bUp HB.out HB2.out;obtain⟨b,o,⟨us,ux,un,uc,uf,uy,um,ud,ug⟩,hba,⟨q0,q1,q2⟩,hu'⟩:=(HX.out.q_ hbz) i u hu;subst hba;obtain⟨b',o',⟨ss,sx,sn,sc,sf,sy,sm,sd,sg⟩,hax,⟨p0,p1,p2⟩,hr'⟩:=(HD.out.q_ hbz) i r hr;subst hax;replace q0:wr.cell? ⟨b,o+i*3,none⟩=some (.bool us):=q0;replace q1:wr.cell? ⟨b,o+i*3+1,none⟩=some (slice ux un uc):=q1;replace q2:wr.cell? ⟨b,o+i*3+2,none⟩=some (slice uy um ud):=q2;replace p0:wr.cell? ⟨b',o'+i*3,none⟩=some (.bool ss):=p0;replace p1:wr.cell? ⟨b',o'+i*3+1,none⟩=some (slice sx sn sc):=p1;replace p2:wr.cell? ⟨b',o'+i*3+2,none⟩=some (slice sy sm sd):=p2;replace hr':Rn L wr ss sx sn sc sf sy sm sd sg r:=hr';replace hu':Rn L wr us ux un uc uf uy um ud ug u:=hu';have ht2:=HT.out.q_ hbz;have HCI:Hid ((zas xs ds tq).take (i+1)=(zas xs ds tq).take i++[zbK [u,tq*r] 0]):=by
    show _=_;rw[List.take_add_one]
    congr 1
    unfold zas;rw[List.getElem?_zipWith,hu,hr];rfl
   have hbt:=zE wr (cells #[.bool us,slice ux un uc,slice uy um ud] 24);obtain⟨a0,a1,a2⟩:=bk3 (zI wr [.bool us,slice ux un uc,slice uy um ud] 24);replace BY:=zi (BY.out.q_ HB2.out);replace BT:=zi (BT.out.q_ HB2.out)
   have i1':((i:Nat):Int)<((k:Nat):Int):=by omega
   clear hu hr;go_upto_region 9 with fail
   clear q0 q1 q2;replace p0:=kCb hbt p0;replace p1:=kCb hbt p1;replace p2:=kCb hbt p2
   have y1:=kCb hbt (BY.out.cell (j:=1) rfl);have r0:=kCb hbt (BT.out.cell (j:=0) rfl);have r1:=kCb hbt (BT.out.cell (j:=1) rfl);have r2:=kCb hbt (BT.out.cell (j:=2) rfl);have HB3:=zM HB2 hbt;have HG3:=zi (HG2.out.q_ hbt);have R0:=zi (hu'.q_ hbt);have R1:=zi (ht2.q_ hbt);have R2:=zi (hr'.q_ hbt)
   clear hbz hbt HB2 HG2 hu' hr' ht2;generalize hbx:wr.heap.size=bx at *;generalize wr.alloc (cells #[.bool us,slice ux un uc,slice uy um ud] 24)=w5 at *;clear hbx;refine zaL (S:=(λw'=>w'.cell? ⟨bx,0,none⟩=some (.bool us)/\w'.cell? ⟨bx,1,none⟩=some (slice ux un uc)/\w'.cell? ⟨bx,2,none⟩=some (slice uy um ud)/\w'.cell? ⟨w.heap.size+1,0,none⟩=some (.bool ts)/\w'.cell? ⟨w.heap.size+1,1,none⟩=some (slice tx tn tc)/\w'.cell? ⟨w.heap.size+1,2,none⟩=some (slice ty tm td)/\w'.cell? ⟨w.heap.size,1,none⟩=some (slice (some ⟨b',o',none⟩) k cap)/\w'.cell? ⟨b',o'+i*3,none⟩=some (.bool ss)/\w'.cell? ⟨b',o'+i*3+1,none⟩=some (slice sx sn sc)/\w'.cell? ⟨b',o'+i*3+2,none⟩=some (slice sy sm sd))) 9 (by kernel_rfl) ⟨kCd a0,kCd a1,kCd a2,kCd r0,kCd r1,kCd r2,kCd y1,kCd p0,kCd p1,kCd p2⟩ (λhHeld=>?_);refine zaa (i:=0) (v:=?_) rfl (by kernel_rfl) (by kernel_rfl) (by kernel_rfl) (by kernel_rfl) (λ_ _ _ h=>h) (Or.inl ⟨by rfl,?_⟩) (λ_=>by assumption) ?_;rotate_left
   (focus (intro w0 hSw;go_simp <;> with_reducible rfl))
   simp only[zA,Act.put];refine zag (i:=1) (v:=?_) rfl (by kernel_rfl) (by kernel_rfl) (by kernel_rfl) (by kernel_rfl) (by kernel_rfl) (by kernel_rfl) (λ_ _ _ h=>h) (Or.inl ⟨by rfl,?_⟩) (by assumption) ?_;rotate_left
   (focus (intro w0 hSw;(try dsimp only at hSw);go_simp <;> with_reducible rfl))
   simp only[zA,Act.put];refine zag (i:=2) (v:=?_) rfl (by kernel_rfl) (by kernel_rfl) (by kernel_rfl) (by kernel_rfl) (by kernel_rfl) (by kernel_rfl) (λ_ _ _ h=>h) (Or.inl ⟨by rfl,?_⟩) (by assumption) ?_;rotate_left
   (focus (intro w0 hSw;(try dsimp only at hSw);go_simp <;> with_reducible rfl))
   simp only[zA,Act.put];refine zaa (i:=3) (v:=?_) rfl (by kernel_rfl) (by kernel_rfl) (by kernel_rfl) (by kernel_rfl) (λ_ _ _ h=>h) (Or.inl ⟨by rfl,?_⟩) (λ_=>by assumption) ?_;rotate_left
   (focus (intro w0 hSw;go_simp <;> with_reducible rfl))
   simp only[zA,Act.put];refine zag (i:=4) (v:=?_) rfl (by kernel_rfl) (by kernel_rfl) (by kernel_rfl) (by kernel_rfl) (by kernel_rfl) (by kernel_rfl) (λ_ _ _ h=>h) (Or.inl ⟨by rfl,?_⟩) (by assumption) ?_;rotate_left
   (focus (intro w0 hSw;(try dsimp only at hSw);go_simp <;> with_reducible rfl))
   simp only[zA,Act.put];refine zaa (i:=5) (v:=?_) rfl (by kernel_rfl) (by kernel_rfl) (by kernel_rfl) (by kernel_rfl) (λ_ _ _ h=>h) (Or.inl ⟨by rfl,?_⟩) (λ_=>by assumption) ?_;rotate_left
   (focus (intro w0 hSw;go_simp <;> with_reducible rfl))
   simp only[zA,Act.put];refine zaa (i:=6) (v:=?_) rfl (by kernel_rfl) (by kernel_rfl) (by kernel_rfl) (by kernel_rfl) (λ_ _ _ h=>h) (Or.inl ⟨by rfl,?_⟩) (λ_=>by assumption) ?_;rotate_left
   (focus (intro w0 hSw;go_simp <;> with_reducible rfl))
   simp only[zA,Act.put];refine zag (i:=7) (v:=?_) rfl (by kernel_rfl) (by kernel_rfl) (by kernel_rfl) (by kernel_rfl) (by kernel_rfl) (by kernel_rfl) (λ_ _ _ h=>h) (Or.inl ⟨by rfl,?_⟩) (by assumption) ?_;rotate_left
   (focus (intro w0 hSw;(try dsimp only at hSw);go_simp <;> with_reducible rfl))
   simp only[zA,Act.put];refine rdP 8 (λK hK=>?_);go_simp
   go_at_call 35
   refine(zek (L:=L) (zeO R1.out) (zeO R2.out) (by omega)).mono ?_;rintro e w6 ⟨s6,x6,n6,c6,f6,y6,m6,d6,g6,rfl,hb6,hq6⟩
   (try go_wp2_with fail)
   refine hK.out _ _ (λ_=>⟨kCb hb6 hHeld.1,kCb hb6 hHeld.2.1,kCb hb6 hHeld.2.2.1,kCb hb6 hHeld.2.2.2.1,kCb hb6 hHeld.2.2.2.2.1,kCb hb6 hHeld.2.2.2.2.2.1,kCb hb6 hHeld.2.2.2.2.2.2.1,kCb hb6 hHeld.2.2.2.2.2.2.2.1,kCb hb6 hHeld.2.2.2.2.2.2.2.2.1,kCb hb6 hHeld.2.2.2.2.2.2.2.2.2⟩) (λhH=>?_);replace hHeld:=hH (by kernel_rfl);clear hK K hH;try simp only[zA,Act.put]
   refine rdP 9 (λK hK=>?_);go_simp;have HQ2:=zi (zkZ (T:=24) (((zeO R0.out).q_ hb6).mono (show L<=2*L+1 by omega)) hq6);have hbb:=zE w6 (cells #[.bool us,slice ux un uc,slice uy um ud,.bool s6,slice x6 n6 c6,slice y6 m6 d6] 24);refine hK.out _ _ (λh=>by cases h) (λ_=>?_);clear hK K;try simp only[zA,Act.put]
   refine rdP 10 (λK hK=>?_);go_simp
   go_at_call 34
   refine(zhA (L:=2*L+1) (k:=2) HQ2.out rfl (by decide) (by omega)).mono ?_;rintro e w7 ⟨s7,x7,n7,c7,f7,y7,m7,d7,g7,rfl,hb7,hq7⟩
   (try go_wp2_with fail)
   refine hK.out _ _ (λh=>by cases h) (λ_=>?_);clear hK K;try simp only[zA,Act.put]
   refine rdP 11 (λK hK=>?_);go_simp;refine hK.out _ _ (λh=>by cases h) (λ_=>?_);clear hK K;try simp only[zA,Act.put]
   refine rdP 12 (λK hK=>?_);have hb57:Bl w5 w7:=((Below.drew (Below.refl w5.heap.size w5)).trans (hb6.mono (le_refl _))).trans ((bUp hbb hb7).mono (show w5.heap.size<=w6.heap.size from hb6.size));obtain⟨T,hrow,hT⟩:=Gr.q_ HG3.out hb57;rw[hgl]at hrow
   refine zar w7 rfl (.tmp 38) (.tmp 49) 29 rfl w1.heap.size 24 56 3 (agg #[.bool false,slice none 0 0,slice none 0 0]) underlying29 zbv rfl (by decide) nz3 u8 i _ rfl hrow #[.bool s7,slice x7 n7 c7,slice y7 m7 d7] rfl rfl (zgB _ _ _ _ _ _ _) (zeN _ _ _ _ _ _ _) (by omega) (by decide) ?hz ?_
   case hz=>exact(bUp HB3.out hb57).size
   intro g8 cap8 w8 hr8 hk8 hb8 hg8;have HB8:Hid (Bl w1 w8):=hb8 w1 (bUp HB3.out hb57) (le_refl _);have HG8:Hid (Gr (KL L) w1.heap.size w8 (slice (some ⟨g8,0,none⟩) (i+1) cap8) ((zas xs ds tq).take (i+1))):=by
    have hp8:=zdV (p:=(zas xs ds tq).take i) hT (by rw[hgl];exact hr8) hk8 (show Rn (KL L) w7 s7 x7 n7 c7 f7 y7 m7 d7 g7 (zbK [u,tq*r] 0)from hq7);rw[hgl]at hp8
    rw[HCI.out];exact hp8
   clear hr8 hk8 hb8 hg8 hrow hT hb6 hq6 hb7 hq7 hbb hb57 HQ2 HG3 HB3 R0 R1 R2;refine hK.out _ _ (λh=>by cases h) (λ_=>?_);clear hK K;simp only[zA,Act.put];refine zaa (i:=13) (v:=?_) rfl (by kernel_rfl) (by kernel_rfl) (by kernel_rfl) (by kernel_rfl) (λ_ _ _ h=>h) (Or.inl ⟨by rfl,?_⟩) (λh=>by cases h) ?_;rotate_left
   (focus (intro w0 hSw;go_simp <;> with_reducible rfl))
   simp only[zA,Act.put];refine dnP ?_;clear hHeld a0 a1 a2 r0 r1 r2 y1 p0 p1 p2;go_wp2;go_roundw
   case rel=>exact⟨i+1,by omega,by go_num,HB8.out,HG8.out⟩
   case measure=>simp[intOf];omega
  ·have i4:¬(((i:Nat):Int)<((k:Nat):Int)):=by omega
   have e9:i=k:=by omega
   obtain⟨va,vc,hvs,hvc⟩:=HG2.out.slice;rw[hgl]at hvs hvc
   have HG4:=HG2.out;rw[hvs]at HG4
   replace HG4:=zi (show Rf (KL L) wr va (zas xs ds tq) by have:=HG4.rf;rw[List.take_of_length_le (by omega)]at this;exact this);subst hvs;have HEK:=zi e9;have HVC:=zi hvc
   replace HB:=zM HB HB2.out;clear HG2 HB2 hgl hcl e9 hvc HX HD BY BT;go_wp2
   go_ret2
   exact⟨HB.out,.inr ⟨rfl,va,vc,by rw[HEK.out];rfl,by rw[<-HEK.out];exact HVC.out,HG4.out⟩⟩
def zjn (L:Nat) (w w':World) (e:Ending) (q:Rat):Prop:=∃s x n c f y m d g,e=returned (agg #[.bool s,slice x n c,slice y m d])/\Bl w w'/\Rn L w' s x n c f y m d g q/\Own .u64 47 w' w.heap.size (slice x n c) n f/\Own .u64 47 w' w.heap.size (slice y m d) m g/\Apart x y
def zog (L:Nat) (w w':World) (e:Ending) (q:Rat):Prop:=∃s x n c f y m d g,e=returned (.tuple #[agg #[.bool s,slice x n c,slice y m d],.int .i64 0])/\Bl w w'/\Rn L w' s x n c f y m d g q/\Own .u64 47 w' w.heap.size (slice x n c) n f/\Own .u64 47 w' w.heap.size (slice y m d) m g/\Apart x y
theorem zlv {w W:World} {b B n m c d:Nat} {x y:Option Addr} {f g:Nat->Int} (h1:Own .u64 47 w b (slice x n c) n f) (h2:Own .u64 47 W B (slice y m d) m g) (hB:w.heap.size<=B):Apart x y:=λp q hp hq=>by
 have e1:=(h1.slice.2.2.2.2 p hp).2;have e2:=(h2.slice.2.2.2.2 q hq).1;omega
theorem znv {w:World} {b n c:Nat} {x:Option Addr} {f:Nat->Int} (h:Own .u64 47 w b (slice x n c) n f):Und x w.heap.size:=λp hp=>(h.slice.2.2.2.2 p hp).2
theorem zqq {w:World} {s t x y n m c d f g u v} (ha:Wn w s x n c f u) (hb:Wn w t y m d g v) (hn:n<=1048576) (hm:m<=1048576) :
  Calls prog 105 #[agg #[.bool s,slice x n c],agg #[.bool t,slice y m d]] w λe w'=>∃r z k e' h,e=returned (.tuple #[agg #[.bool r,slice z k e'],.int .i64 0])/\Bl w w'/\k<=max n m+1/\Wn w' r z k e' h (u+v)/\Own .u64 47 w' w.heap.size (slice z k e') k h:=by
 refine(zkr s t x y n m c d f g w (by omega) (by omega) ha.rd hb.rd ha.lm hb.lm).mono ?_;rintro e w' ⟨r,z,k,e',h,er,rfl,hres,hans⟩;obtain⟨rfl,hv⟩:=hans.ok ⟨ha.wf,hb.wf⟩;exact⟨r,z,k,e',h,rfl,hres.res.bel,hres.res.le,hres.wn (by rw[hv,ha.val,hb.val]),hres.res.own⟩
theorem zlB {w:World} {x n c f y m d g} {A B:Nat} (ha:Wn w false x n c f A) (hb:Wn w false y m d g B) (hn:n<=1048576) (hm:m<=1048576) :
  Calls prog 106 #[slice x n c,slice y m d] w λe w'=>∃z k e' h,e=returned (.tuple #[slice z k e',.int .i64 0])/\Bl w w'/\k<=n+m/\Wn w' false z k e' h (A*B:Nat)/\Own .u64 47 w' w.heap.size (slice z k e') k h:=by
 refine(zmH x y n m c d f g w (by omega) (by omega) ha.cap.1 hb.cap.1 ha.cap.2 hb.cap.2 ha.rd hb.rd ha.lm hb.lm).mono ?_;rintro e w' ⟨z,k,e',h,er,rfl,hres,hv⟩;have hr:=hres.ans (by omega);rcases hv with⟨_,_,rfl,hv⟩|⟨h1,_⟩
 ·refine⟨z,k,e',h,rfl,hr.bel,hr.le,⟨hr.rd,hr.lm,(wfB_iff _ _ _).2 ⟨hr.fm,λh=>by cases h⟩,hr.ncap,hr.nil',?_⟩,hr.own⟩;show vf h k=_;rw[hv,ha.nv,hb.nv];simp
 ·exact absurd ⟨ha.fm,hb.fm⟩ h1
theorem zqm {w:World} {x n c f y m d g} {A B:Nat} (ha:Wn w false x n c f A) (hb:Wn w false y m d g B) (h0:0<B) (hn:n<=1048576) (hm:m<=1048576) :
  Calls prog 115 #[slice x n c,slice y m d] w λe w'=>∃z k e' h z2 k2 e2,e=returned (.tuple #[slice z k e',slice z2 k2 e2,.int .i64 0])/\Bl w w'/\k<=n/\Wn w' false z k e' h (A/B:Nat)/\Own .u64 47 w' w.heap.size (slice z k e') k h:=by
 refine(zhd x y n m c d f g w (by omega) (by omega) ha.rd hb.rd ha.lm hb.lm).mono ?_;rintro e w' ⟨z,k,e',h,z2,k2,e2,r,er,rfl,hres,_,hv⟩;have hr:=hres.ans (by omega);have hmp:=hb.pos (by omega);rcases hv with⟨_,_,_,rfl,hv,h1,h2⟩|⟨_,_,h1,_⟩|⟨h1,_⟩
 ·refine⟨z,k,e',h,z2,k2,e2,rfl,hr.bel,hr.le,⟨hr.rd,hr.lm,(wfB_iff _ _ _).2 ⟨hr.fm,λh=>by cases h⟩,hr.ncap,hr.nil',?_⟩,hr.own⟩;show vf h k=_;rw[ha.nv,hb.nv]at hv
  rw[hb.nv]at h2
  have hq:=zu hr.lm;obtain⟨Q,hQ⟩:=Int.eq_ofNat_of_zero_le hq;obtain⟨R,hR⟩:=Int.eq_ofNat_of_zero_le h1;rw[hQ,hR]at hv
  rw[hR]at h2
  rw[hQ];have h3:A=Q*B+R:=by exact_mod_cast hv
  have h4:R<B:=by exact_mod_cast h2
  have:A/B=Q:=by rw[h3,Nat.mul_comm,Nat.mul_add_div h0,Nat.div_eq_of_lt h4];rfl
  rw[this]
 ·omega
 ·exact absurd ⟨ha.fm,hb.fm⟩ h1
theorem zph {w:World} {x n c f y m d g} {A B:Nat} (ha:Wn w false x n c f A) (hb:Wn w false y m d g B) (h0:0<B) (hn:n<=1048576) (hm:m<=1048576) {base:Nat} (ho:Own .u64 47 w base (slice x n c) n f) (hbs:base<=w.heap.size) :
  Calls prog 103 #[slice x n c,slice y m d] w λe w'=>∃z k e' h,e=returned (slice z k e')/\Bl w w'/\Hid (k<=n/\Wn w' false z k e' h (A/B:Nat)/\Own .u64 47 w' base (slice z k e') k h/\∀q,Und q w.heap.size->Apart x q->Apart z q):=by
 have C2:=zi (zcT hb);have C3:=zi (zqm ha hb h0 hn hm);have HA:=zi ha;have HO:=zi ho
 clear ho;by_cases h2:B=1
 ·have e1:decide ((B:Int)=1)=true:=by simp[h2]
  have e2:A/B=A:=by rw[h2];simp
  rw[e2];rw[e1]at C2
  clear ha hb e1 e2 C3 h0 h2;go_enter func103,ntmps103;go_wp2_with fail
  refine C2.out.mono ?_;rintro e w1 ⟨rfl,rfl⟩;go_wp2;go_ret;exact⟨x,n,c,f,rfl,Below.refl _ _,le_refl _,HA.out,HO.out,λ_ _ hq=>hq⟩
 ·have e1:decide ((B:Int)=1)=false:=by simp;omega
  rw[e1]at C2
  clear ha hb e1 h0 h2;go_enter func103,ntmps103;go_wp2_with fail
  refine C2.out.mono ?_;rintro e w1 ⟨rfl,rfl⟩;go_wp2_with fail
  refine C3.out.mono ?_;rintro e w2 ⟨z,k,e',h,z2,k2,e2,rfl,h1,h2,h3,h4⟩;have H2:=zi (And.intro h2 (And.intro h3 (And.intro (h4.base hbs) (λ(q:Option Addr) (hq:Und q w1.heap.size) (_:Apart x q)=>show Apart z q from λp r hp hr=>by have e1:=(h4.slice.2.2.2.2 p hp).1;have e2:=hq r hr;omega))));clear h2 h3 h4;go_wp2;go_ret;exact⟨z,k,e',h,rfl,h1,H2.out⟩
theorem zle {L:Nat} {w:World} {sa:Bool} {xa:Option Addr} {na ca:Nat} {fa:Nat->Int} {ya:Option Addr} {ma da:Nat} {ga:Nat->Int} {a:Rat} {sb:Bool} {xb:Option Addr} {nb cb:Nat} {fb:Nat->Int} {yb:Option Addr} {mb db:Nat} {gb:Nat->Int} {b:Rat} (ha:Rn L w sa xa na ca fa ya ma da ga a) (hb:Rn L w sb xb nb cb fb yb mb db gb b) (hL:L<=200000) :
  Calls prog 87 #[agg #[.bool sa,slice xa na ca,slice ya ma da],agg #[.bool sb,slice xb nb cb,slice yb mb db]] w λe w'=>zjn (2*L+1) w w' e (a+b):=by
 have HA0:=zi ha;have HB0:=zi hb
 have b1:=ha.ln;have b2:=ha.ld;have b3:=hb.ln;have b4:=hb.ld
 clear ha hb;go_enter func87,ntmps87;go_wp2_with fail
 refine(zbj (((HA0.out.den.alloc _).alloc _).alloc _) (((HB0.out.den.alloc _).alloc _).alloc _) (by omega) (by omega)).mono ?_;rintro e w1 ⟨zg,kg,cg,fg,rfl,hbel,hg⟩;obtain⟨⟨hz,x0,x1,x2,y0,y1,y2,z0,z1,z2,zf⟩,hw⟩:=zbh hbel;have T1:Hid (Three w.heap.size w1 _ _ _ _ _ _ _ _ _):=⟨hz,x0,x1,x2,y0,y1,y2,z0,z1,z2,zf⟩;have HW1:=zi hw;have WG1:=zi hg;have HA1:=zi (HA0.out.q_ hw);have HB1:=zi (HB0.out.q_ hw)
 have hG0:0<a.den.gcd b.den:=Nat.gcd_pos_of_pos_left _ a.den_pos;have hkg:kg<=L:=le_trans (hg.len_le HA1.out.den (Nat.gcd_le_left _ a.den_pos)) (by omega);clear hbel hw hg HA0 HB0;have C1:Hid ((∀W,Bl w1 W->Calls prog 103 #[slice ya ma da,slice zg kg cg] W λe w'=>∃z k e' h,e=returned (slice z k e')/\Bl W w'/\Hid (k<=L/\Wn w' false z k e' h (a.den/a.den.gcd b.den:Nat)))):=λW hW=>(zbl (HA1.out.den.q_ hW) (WG1.out.q_ hW) hG0 (by omega) (by omega)).mono (λe w' ⟨z,k,e',h,h1,h2,h3⟩=>⟨z,k,e',h,h1,h2,by have:=h3.out.1;omega,h3.out.2⟩)
 have C2:Hid ((∀W,Bl w1 W->Calls prog 103 #[slice yb mb db,slice zg kg cg] W λe w'=>∃z k e' h,e=returned (slice z k e')/\Bl W w'/\Hid (k<=L/\Wn w' false z k e' h (b.den/a.den.gcd b.den:Nat)))):=λW hW=>(zbl (HB1.out.den.q_ hW) (WG1.out.q_ hW) hG0 (by omega) (by omega)).mono (λe w' ⟨z,k,e',h,h1,h2,h3⟩=>⟨z,k,e',h,h1,h2,by have:=h3.out.1;omega,h3.out.2⟩)
 go_wp2_with fail
 go_region_held3 (λw'=>w'.cell? ⟨w.heap.size,2,none⟩=some (slice ya ma da)/\w'.cell? ⟨w.heap.size+1,2,none⟩=some (slice yb mb db))
  (refine⟨?_,?_⟩ <;> repeat(with_reducible first|assumption|refine kCd ?_|refine kCa ?_|refine kCb (by assumption) ?_))
  (first
   | (go_at_call 103;with_reducible refine(C1.out _ zV).mono ?_;rintro e w2 ⟨zp,kp,cp,fp,rfl,hb2,HP⟩)
   | (go_at_call 103;with_reducible refine(C2.out _ zV).mono ?_;rintro e w3 ⟨zq,kq,cq,fq,rfl,hb3,HQ⟩))
 have hb:Bl w1 w3:=zV;have hkp:=HP.out.1;have hkq:=HQ.out.1
 have WP3:=zi (HP.out.2.q_ hb3);have WQ3:=zi HQ.out.2;clear HP HQ C1 C2 hb2 hb3;have HA3:=zi (HA1.out.q_ hb);have HB3:=zi (HB1.out.q_ hb);have T3:=zi (T1.out.q_ hb);have WG3:=zi (WG1.out.q_ hb);have HW3:=zi (HW1.out.trans (hb.mono HW1.out.size))
 clear HA1 HB1 T1 WG1 HW1 hb;clear hz x0 x1 x2 y0 y1 y2 z0 z1 z2 zf;obtain⟨hz,x0,x1,x2,y0,y1,y2,z0,z1,z2,zf⟩:=T3.out;have hza:w.heap.size<w3.heap.size:=by omega
 have hzb:w.heap.size+1<w3.heap.size:=by omega
 go_wp2_with fail
 refine(zbO sa xa ya na ca ma da _).mono ?_;rintro e w4 ⟨rfl,hb⟩;have HA4:=zi (HA3.out.q_ hb);have HB4:=zi (HB3.out.q_ hb);have T4:=zi (T3.out.q_ hb);have WG4:=zi (WG3.out.q_ hb);have WP4:=zi (WP3.out.q_ hb);have WQ4:=zi (WQ3.out.q_ hb);have HW4:=zi (HW3.out.trans (hb.mono HW3.out.size))
 clear HA3 HB3 T3 WG3 WP3 WQ3 HW3 hb;clear hza hzb hz x0 x1 x2 y0 y1 y2 z0 z1 z2 zf;obtain⟨hz,x0,x1,x2,y0,y1,y2,z0,z1,z2,zf⟩:=T4.out;have hza:w.heap.size<w4.heap.size:=by omega
 have hzb:w.heap.size+1<w4.heap.size:=by omega
 go_wp2_with fail
 refine(ziJ HA4.out.num WQ4.out (by omega) (by omega)).mono ?_;rintro e w5 ⟨s5,p5,k5,c5,f5,rfl,hb,hk5,hp⟩;have WX5:=zi hp;clear hp WQ4;have HA5:=zi (HA4.out.q_ hb);have HB5:=zi (HB4.out.q_ hb);have T5:=zi (T4.out.q_ hb);have WG5:=zi (WG4.out.q_ hb);have WP5:=zi (WP4.out.q_ hb);have HW5:=zi (HW4.out.trans (hb.mono HW4.out.size))
 clear HA4 HB4 T4 WG4 WP4 HW4 hb;clear hza hzb hz x0 x1 x2 y0 y1 y2 z0 z1 z2 zf;obtain⟨hz,x0,x1,x2,y0,y1,y2,z0,z1,z2,zf⟩:=T5.out;have hza:w.heap.size<w5.heap.size:=by omega
 have hzb:w.heap.size+1<w5.heap.size:=by omega
 go_wp2_with fail
 refine(zbO sb xb yb nb cb mb db _).mono ?_;rintro e w6 ⟨rfl,hb⟩;have BX6:=zi (zgi hb);have HB6:=zi (HB5.out.next hb);have T6:=zi (T5.out.next hb);have WG6:=zi (WG5.out.next hb);have WP6:=zi (WP5.out.next hb);have WX6:=zi (WX5.out.next hb);have HW6:=zi ((zk HW5.out _).trans (hb.mono (zk HW5.out _).size))
 clear HB5 T5 WG5 WP5 WX5 HW5 hb;clear hza hzb hz x0 x1 x2 y0 y1 y2 z0 z1 z2 zf;obtain⟨hz,x0,x1,x2,y0,y1,y2,z0,z1,z2,zf⟩:=T6.out;have hza:w.heap.size<w6.heap.size:=by omega
 have hzb:w.heap.size+1<w6.heap.size:=by omega
 go_wp2_with fail
 refine(ziJ HB6.out.num WP6.out (by omega) (by omega)).mono ?_;rintro e w7 ⟨s7,p7,k7,c7,f7,rfl,hb,hk7,hp⟩;have WY7:=zi hp;clear hp;have HB7:=zi (HB6.out.q_ hb);have T7:=zi (T6.out.q_ hb);have WG7:=zi (WG6.out.q_ hb);have WP7:=zi (WP6.out.q_ hb);have WX7:=zi (WX6.out.q_ hb);have BX7:=zi (BX6.out.q_ hb);have HW7:=zi (HW6.out.trans (hb.mono HW6.out.size))
 clear HB6 T6 WG6 WP6 WX6 BX6 HW6 hb;clear hza hzb hz x0 x1 x2 y0 y1 y2 z0 z1 z2 zf;obtain⟨hz,x0,x1,x2,y0,y1,y2,z0,z1,z2,zf⟩:=T7.out;have hza:w.heap.size<w7.heap.size:=by omega
 have hzb:w.heap.size+1<w7.heap.size:=by omega
 obtain⟨hzx,bx0,bx1⟩:=BX7.out;go_wp2_with fail
 refine(zqq (WX7.out.alloc _) (WY7.out.alloc _) (by omega) (by omega)).mono ?_;rintro e w8 ⟨s8,p8,k8,c8,f8,rfl,hb,hk8,hp,ho8⟩;have WS8:=zi hp;have OS8:=zi (ho8.base (show(w.heap.size+1+1+1)<=_ by rw[zv];omega))
 clear ho8;clear hp hzx bx0 bx1 WX7 WY7 BX7;have HB8:=zi (HB7.out.next hb);have T8:=zi (T7.out.next hb);have WG8:=zi (WG7.out.next hb);have WP8:=zi (WP7.out.next hb);have HW8:=zi ((zk HW7.out _).trans (hb.mono (zk HW7.out _).size))
 clear HB7 T7 WG7 WP7 HW7 hb;clear hza hzb hz x0 x1 x2 y0 y1 y2 z0 z1 z2 zf;obtain⟨hz,x0,x1,x2,y0,y1,y2,z0,z1,z2,zf⟩:=T8.out;have hza:w.heap.size<w8.heap.size:=by omega
 have hzb:w.heap.size+1<w8.heap.size:=by omega
 have hz8:=hz;obtain⟨S,hS⟩:∃S,S=a.num*(b.den/a.den.gcd b.den:Nat)+b.num*(a.den/a.den.gcd b.den:Nat):=⟨_,rfl⟩;rw[<-hS]at WS8
 have HS:=zi hS;clear hS;go_wp2_with fail
 refine(zbj (WS8.out.mag.alloc _) (WG8.out.alloc _) (by omega) (by omega)).mono ?_;rintro e w9 ⟨zl,kl,cl,fl,rfl,hb,hl⟩;have WL9:=zi hl;have BS9:=zi (zgi hb)
 have hl0:0<S.natAbs.gcd (a.den.gcd b.den):=Nat.gcd_pos_of_pos_right _ hG0;have hkl:kl<=L:=le_trans (hl.len_le WG8.out (Nat.gcd_le_right _ hG0)) (by omega);clear hl WG8;have HB9:=zi (HB8.out.next hb);have T9:=zi (T8.out.next hb);have WP9:=zi (WP8.out.next hb);have WS9:=zi (WS8.out.next hb);have OS9:=zi ((OS8.out.alloc _).q_ hb);have HW9:=zi ((zk HW8.out _).trans (hb.mono (zk HW8.out _).size))
 clear HB8 T8 WP8 WS8 HW8 hb;clear hza hzb hz x0 x1 x2 y0 y1 y2 z0 z1 z2 zf;obtain⟨hz,x0,x1,x2,y0,y1,y2,z0,z1,z2,zf⟩:=T9.out;have hza:w.heap.size<w9.heap.size:=by omega
 have hzb:w.heap.size+1<w9.heap.size:=by omega
 go_wp2_with fail
 refine(zbl HB9.out.den WL9.out hl0 (by omega) (by omega)).mono ?_;rintro e w10 ⟨zo,ko,co,fo,rfl,hb,HO⟩;have hko:=HO.out.1;have WO10:=zi HO.out.2
 clear HO HB9;have T10:=zi (T9.out.q_ hb);have WP10:=zi (WP9.out.q_ hb);have WS10:=zi (WS9.out.q_ hb);have OS10:=zi (OS9.out.q_ hb);have WL10:=zi (WL9.out.q_ hb);have BS10:=zi (BS9.out.q_ hb);have HW10:=zi (HW9.out.trans (hb.mono HW9.out.size))
 clear T9 WP9 WS9 WL9 BS9 HW9 hb;clear hza hzb hz x0 x1 x2 y0 y1 y2 z0 z1 z2 zf;obtain⟨hz,x0,x1,x2,y0,y1,y2,z0,z1,z2,zf⟩:=T10.out;have hza:w.heap.size<w10.heap.size:=by omega
 have hzb:w.heap.size+1<w10.heap.size:=by omega
 go_wp2_with fail
 refine(zlB WP10.out WO10.out (by omega) (by omega)).mono ?_;rintro e w11 ⟨zd,kd,cd,fd,rfl,hb,hkd,hp,hod⟩;have WD11:=zi hp;have AP11:=zi (zlv OS10.out hod (le_refl _));have OD11:=zi (hod.base (show(w.heap.size+1+1+1)<=_ by omega))
 clear hod;clear hp WP10 WO10;have T11:=zi (T10.out.q_ hb);have WS11:=zi (WS10.out.q_ hb);have OS11:=zi (OS10.out.q_ hb);have WL11:=zi (WL10.out.q_ hb);have BS11:=zi (BS10.out.q_ hb);have HW11:=zi (HW10.out.trans (hb.mono HW10.out.size))
 clear T10 WS10 WL10 BS10 HW10 hb;clear hza hzb hz x0 x1 x2 y0 y1 y2 z0 z1 z2 zf;obtain⟨hz,x0,x1,x2,y0,y1,y2,z0,z1,z2,zf⟩:=T11.out;have hza:w.heap.size<w11.heap.size:=by omega
 have hzb:w.heap.size+1<w11.heap.size:=by omega
 obtain⟨hzs,bs0,bs1⟩:=BS11.out;have C3:Hid (∀W,Bl w11 W->Calls prog 103 #[slice p8 k8 c8,slice zl kl cl] W λe w'=>∃z k e' h,e=returned (slice z k e')/\Bl W w'/\Hid (k<=k8/\Wn w' false z k e' h (S.natAbs/S.natAbs.gcd (a.den.gcd b.den):Nat)/\Own .u64 47 w' (w.heap.size+1+1+1) (slice z k e') k h/\Apart z zd)):=λW hW=>(zph (WS11.out.mag.q_ hW) (WL11.out.q_ hW) hl0 (by omega) (by omega) (OS11.out.q_ hW) (le_trans (show(w.heap.size+1+1+1)<=w11.heap.size by omega) hW.size)).mono (λ_ _ ⟨z,k,e',h,k1,k2,k3⟩=>⟨z,k,e',h,k1,k2,k3.out.1,k3.out.2.1,k3.out.2.2.1,k3.out.2.2.2 zd (λp hp=>Nat.lt_of_lt_of_le (znv OD11.out p hp) hW.size) AP11.out⟩)
 have C4:Hid (∀(W:World) (z:Option Addr) (k c:Nat),k<=1048576->Calls prog 85 #[.bool s8,slice z k c,slice zd kd cd] W λe w'=>∃r,e=returned (agg #[.bool r,slice z k c,slice zd kd cd])/\Bl W w'/\Hid (r=(s8 && decide (0<k)))):=λW z k c hk=>(zbF s8 z zd k c kd cd W (by omega)).mono (λe w' ⟨r,h1,h2,h3⟩=>⟨r,h1,h3,h2⟩)
 go_wp2_with fail
 go_region_held3 (λw'=>w'.cell? ⟨w8.heap.size,0,none⟩=some (.bool s8)/\w'.cell? ⟨w8.heap.size,1,none⟩=some (slice p8 k8 c8)/\(w'.cell? ⟨w.heap.size+1+1,0,none⟩).isSome=true/\(w'.cell? ⟨w.heap.size+1+1,1,none⟩).isSome=true/\(w'.cell? ⟨w.heap.size+1+1,2,none⟩).isSome=true/\w'.frozen? ⟨w.heap.size+1+1,0,none⟩=false/\w'.frozen? ⟨w.heap.size+1+1,1,none⟩=false/\w'.frozen? ⟨w.heap.size+1+1,2,none⟩=false)
  (refine⟨?_,?_,?_,?_,?_,?_,?_,?_⟩ <;> repeat(with_reducible first|assumption|exact zf _|exact uf _|exact vf' _|exact kI0 z0|exact kI0 z1|exact kI0 z2|exact kI0 u0|exact kI0 u1|exact kI0 u2|exact kI0 v0|exact kI0 v1|exact kI0 v2|refine kCd ?_|refine kId ?_|refine kFd ?_|refine kCs (by simp only[ne_eq];omega) ?_|refine kIs ?_|refine kFs ?_|refine kCb (by assumption) ?_|refine kIb (by assumption) ?_))
  (first
   | (go_at_call 103;with_reducible refine(C3.out _ zV).mono ?_;rintro e w12 ⟨zn,kn,cn,fn,rfl,hb2,HN⟩;have hkn:kn<=1048576:=(by have:=HN.out.1;omega);have TU:Three w.heap.size w12 (.bool sa) (slice xa na ca) (slice ya ma da) (.bool sb) (slice xb nb cb) (slice yb mb db) (.bool false) (slice none 0 0) (slice none 0 0):=(by repeat(with_reducible first|exact T11.out|exact TU|refine kTd ?_|refine kTb (by assumption) ?_));obtain⟨_,_,_,_,_,_,_,u0,u1,u2,uf⟩:=id TU)
   | (go_at_call 85;with_reducible refine(C4.out _ zn kn cn hkn).mono ?_;rintro e w13 ⟨rs,rfl,hb3,HRS⟩;have TV:Three w.heap.size w13 (.bool sa) (slice xa na ca) (slice ya ma da) (.bool sb) (slice xb nb cb) (slice yb mb db) (.bool false) (slice none 0 0) (slice none 0 0):=(by repeat(with_reducible first|exact T11.out|exact TU|refine kTd ?_|refine kTb (by assumption) ?_));obtain⟨_,_,_,_,_,_,_,v0,v1,v2,vf'⟩:=id TV))
 have WN:Wn w13 false zn kn cn fn _:=HN.out.2.1.q_ hb3;have ON:=HN.out.2.2.1.q_ hb3;have hw13:Bl w11 w13:=zV;have hm:=zgY HS.out WS11.out.sgn;have hkn':=HN.out.1;go_wp2;refine bodyPost_ret (v:=agg #[.bool rs,slice zn kn cn,slice zd kd cd]) (by simp[results,results87,go_sem,v0,v1,v2]) rfl ⟨rs,zn,kn,cn,fn,zd,kd,cd,fd,rfl,zaR (HW11.out.trans (hw13.mono HW11.out.size)),⟨?_,?_,?_,?_⟩,(zcl ON (by omega)).base (by omega),(zcl (OD11.out.q_ hw13) (by omega)).base (by omega),HN.out.2.2.2⟩
 ·rw[<-hm.1];exact TV.store (WN.resign HRS.out)
 ·rw[<-hm.2];exact TV.store (WD11.out.q_ hw13)
 ·omega
 ·omega
theorem zpc {L:Nat} {w:World} {sa:Bool} {xa:Option Addr} {na ca:Nat} {fa:Nat->Int} {ya:Option Addr} {ma da:Nat} {ga:Nat->Int} {a:Rat} {sb:Bool} {xb:Option Addr} {nb cb:Nat} {fb:Nat->Int} {yb:Option Addr} {mb db:Nat} {gb:Nat->Int} {b:Rat} (ha:Rn L w sa xa na ca fa ya ma da ga a) (hb:Rn L w sb xb nb cb fb yb mb db gb b) (hL:L<=200000) :
  Calls prog 60 #[agg #[.bool sa,slice xa na ca,slice ya ma da],agg #[.bool sb,slice xb nb cb,slice yb mb db]] w λe w'=>zog (2*L+1) w w' e (a+b):=by
 have HA0:=zi ha;have HB0:=zi hb
 clear ha hb;go_enter func60,ntmps60;go_wp2_with fail
 refine(zbu (((HA0.out.alloc _).alloc _).alloc _) (by omega)).mono ?_;rintro e w1 ⟨rfl,hbel⟩;obtain⟨⟨hz,x0,x1,x2,y0,y1,y2,z0,z1,z2,zf⟩,hw⟩:=zbh hbel;have T1:Hid (Three w.heap.size w1 _ _ _ _ _ _ _ _ _):=⟨hz,x0,x1,x2,y0,y1,y2,z0,z1,z2,zf⟩;have HW1:=zi hw;have HA1:=zi (HA0.out.q_ hw);have HB1:=zi (HB0.out.q_ hw)
 clear hbel hw HA0 HB0;go_wp2_with fail
 refine(zbu HB1.out (by omega)).mono ?_;rintro e w2 ⟨rfl,hb⟩;have HA2:=zi (HA1.out.q_ hb);have HB2:=zi (HB1.out.q_ hb);have T2:=zi (T1.out.q_ hb);have HW2:=zi (HW1.out.trans (hb.mono HW1.out.size))
 clear HA1 HB1 T1 HW1 hb;clear hz x0 x1 x2 y0 y1 y2 z0 z1 z2 zf;obtain⟨hz,x0,x1,x2,y0,y1,y2,z0,z1,z2,zf⟩:=T2.out;have hza:w.heap.size<w2.heap.size:=by omega
 have hzb:w.heap.size+1<w2.heap.size:=by omega
 go_wp2_with fail
 refine(zle HA2.out HB2.out hL).mono ?_;rintro e w3 ⟨rs,zn,kn,cn,fn,zd,kd,cd,fd,rfl,hb,hr,hon,hod,hap⟩;have HR:=zi hr;have AP:=zi hap;have ON:=zi (hon.base (show(w.heap.size+1+1+1)<=_ by omega));have OD:=zi (hod.base (show(w.heap.size+1+1+1)<=_ by omega))
 clear hon hod hap;clear hr;have T3:=zi (T2.out.q_ hb);have HW3:=zi (HW2.out.trans (hb.mono HW2.out.size))
 clear T2 HW2 hb;clear hza hzb hz x0 x1 x2 y0 y1 y2 z0 z1 z2 zf;obtain⟨hz,x0,x1,x2,y0,y1,y2,z0,z1,z2,zf⟩:=T3.out;have hza:w.heap.size<w3.heap.size:=by omega
 have hzb:w.heap.size+1<w3.heap.size:=by omega
 go_wp2;refine bodyPost_ret (v:=.tuple #[agg #[.bool rs,slice zn kn cn,slice zd kd cd],.int .i64 0]) (by simp[results,results60,go_sem,z0,z1,z2]) rfl ⟨rs,zn,kn,cn,fn,zd,kd,cd,fd,rfl,zaR HW3.out,⟨?_,?_,HR.out.ln,HR.out.ld⟩,(zcl ON.out (by omega)).base (by omega),(zcl OD.out (by omega)).base (by omega),AP.out⟩
 ·exact T3.out.store HR.out.num
 ·exact T3.out.store HR.out.den
theorem zlg (w:World) :
  Calls prog 86 #[] w λe w'=>∃x f,e=returned (slice x 1 1)/\Bl w w'/\Wn w' false x 1 1 f 1/\Own .u64 47 w' w.heap.size (slice x 1 1) 1 f:=by
 go_enter func86,ntmps86;go_wp2;go_ret;refine⟨_,λ_=>1,rfl,?_,?_,zfN w w.heap.size w.heap.size 1 (le_refl _) rfl⟩
 ·exact zk (Below.refl _ _) _
 ·refine⟨Rd.mk (λj hj=>?_),λj _=>by simp,?_,by omega,(λh=>by cases h),?_⟩
  ·have:j=0:=by omega
   subst this;simp[go_sem]
  ·decide
  ·simp[wv,vf,pw]
theorem zpR {w:World} {z:Int} (h0:-9223372036854775808<=z) (h1:z<=9223372036854775807) :
  Calls prog 59 #[.int .i64 z] w λe w'=>zjn 4 w w' e (z:Rat):=by
 have h2:=zay w 24;have h3:=zk (Below.refl w.heap.size w) (cells #[.bool false,slice none 0 0,slice none 0 0] 24);go_enter func59,ntmps59;go_wp2_with fail
 generalize w.alloc (cells #[.bool false,slice none 0 0,slice none 0 0] 24)=w1 at *;have OB1:=zi h2;have HW1:=zi h3
 clear h2 h3;refine(zok z w1 h0 h1).mono ?_;rintro e w2 ⟨s2,x2,n2,c2,f2,rfl,hr2,hv2⟩;have hb:=hr2.res.bel;have hn2:=hr2.res.le;have hz1:=OB1.out.z;have hos:=(hr2.res.own.base (show w.heap.size+1<=_ by omega)).alloc (cells #[.bool s2,slice x2 n2 c2] 122);clear hz1;have hw2:=(hr2.wn hv2).alloc (cells #[.bool s2,slice x2 n2 c2] 122);have hbx:Bx (w2.alloc (cells #[.bool s2,slice x2 n2 c2] 122)) w2.heap.size s2 x2 n2 c2:=⟨by simp,kN0,kN1⟩;have hob:=(OB1.out.q_ hb).alloc (cells #[.bool s2,slice x2 n2 c2] 122);have hbw:=zk (HW1.out.trans (hb.mono HW1.out.size)) (cells #[.bool s2,slice x2 n2 c2] 122);have hB8:w.heap.size<w2.heap.size:=(OB1.out.q_ hb).z;clear hr2 hv2 hb OB1 HW1;go_wp2_with fail
 generalize w2.alloc (cells #[.bool s2,slice x2 n2 c2] 122)=w3 at *;generalize w2.heap.size=b3 at *;have W3:=zi hw2;have OS:=zi hos;have OB:=zi hob;have HW:=zi hbw
 obtain⟨za,a0,a1⟩:=hbx;obtain⟨hz,z0,z1,z2,zf⟩:=hob;clear hw2 hbw hos;have C1:Hid (∀W:World,Bl w3 W->Calls prog 86 #[] W λe w'=>∃x f,e=returned (slice x 1 1)/\Bl W w'/\Hid (Wn w' false x 1 1 f 1/\Own .u64 47 w' (w.heap.size+1) (slice x 1 1) 1 f/\Apart x2 x)):=λW hW=>(zlg W).mono (λ_ _ ⟨x,f,k1,k2,k3,k4⟩=>⟨x,f,k1,k2,k3,k4.base (le_trans (show w.heap.size+1<=w3.heap.size by omega) hW.size),zlv OS.out k4 hW.size⟩)
 have C2:Hid (∀(W:World) (y:Option Addr),Calls prog 85 #[.bool s2,slice x2 n2 c2,slice y 1 1] W λe w'=>∃r,e=returned (agg #[.bool r,slice x2 n2 c2,slice y 1 1])/\Bl W w'/\Hid (r=(s2 && decide (0<n2)))):=λW y=>(zbF s2 x2 y n2 c2 1 1 W (by omega)).mono (λ_ _ ⟨r,k1,k2,k3⟩=>⟨r,k1,k3,k2⟩)
 go_region_held3 (λw'=>w'.cell? ⟨b3,0,none⟩=some (.bool s2)/\w'.cell? ⟨b3,1,none⟩=some (slice x2 n2 c2)/\(w'.cell? ⟨w.heap.size,0,none⟩).isSome=true/\(w'.cell? ⟨w.heap.size,1,none⟩).isSome=true/\(w'.cell? ⟨w.heap.size,2,none⟩).isSome=true/\w'.frozen? ⟨w.heap.size,0,none⟩=false/\w'.frozen? ⟨w.heap.size,1,none⟩=false/\w'.frozen? ⟨w.heap.size,2,none⟩=false)
  (refine⟨?_,?_,?_,?_,?_,?_,?_,?_⟩ <;> repeat(with_reducible first|assumption|exact zf _|exact tf _|exact uf _|exact kI0 z0|exact kI0 z1|exact kI0 z2|exact kI0 t0|exact kI0 t1|exact kI0 t2|exact kI0 u0|exact kI0 u1|exact kI0 u2|refine kCd ?_|refine kId ?_|refine kFd ?_|refine kCs (by simp only[ne_eq];omega) ?_|refine kIs ?_|refine kFs ?_|refine kCb (by assumption) ?_|refine kIb (by assumption) ?_))
  (first
   | (go_at_call 86;with_reducible refine(C1.out _ zV).mono ?_;rintro e v5 ⟨y5,f5,rfl,hb5,H5⟩;have Tt:Ob v5 (w.heap.size):=(by repeat(with_reducible first|exact OB.out|exact Tt|exact Tu|refine Ob.drew ?_|refine kOb (by assumption) ?_));obtain⟨_,t0,t1,t2,tf⟩:=id Tt)
   | (go_at_call 85;with_reducible refine(C2.out _ y5).mono ?_;rintro e v6 ⟨r6,rfl,hb6,H6⟩;have Tu:Ob v6 (w.heap.size):=(by repeat(with_reducible first|exact OB.out|exact Tt|exact Tu|refine Ob.drew ?_|refine kOb (by assumption) ?_));obtain⟨_,u0,u1,u2,uf⟩:=id Tu))
 all_goals
  have W5:Wn v6 false y5 1 1 f5 1:=(by repeat(with_reducible first|exact H5.out.1|refine kWd ?_|refine kWb (by assumption) ?_));have hb:Bl w3 v6:=zbd;have O5:Own .u64 47 v6 (w.heap.size+1) (slice y5 1 1) 1 f5:=H5.out.2.1.q_ hb6;have hr:r6=s2:=by
   rw[H6.out];have:=((wfB_iff _ _ _).1 W3.out.wf).2;cases s2
   ·rfl
   ·simp;exact this rfl
  subst hr;go_wp2;refine bodyPost_ret (v:=agg #[.bool r6,slice x2 n2 c2,slice y5 1 1]) (by simp[results,results59,go_sem,u0,u1,u2]) rfl ⟨r6,x2,n2,c2,f2,y5,1,1,f5,rfl,zZ (HW.out.trans (hb.mono HW.out.size)) (le_refl _),Tu.rn ⟨?_,?_,by omega,by omega⟩,(zcl (OS.out.q_ hb) (by omega)).base (by omega),(zcl O5 (by omega)).base (by omega),H5.out.2.2⟩
  ·rw[Rat.num_intCast];exact W3.out.q_ hb
  ·rw[Rat.den_intCast];exact W5
theorem ziI {w base s x n c f y m d g} (h1:Own .u64 47 w base (slice x n c) n f) (h2:Own .u64 47 w base (slice y m d) m g):Dw2 w base ⟨s,x,n,c,f,y,m,d,g⟩:=⟨zhB h2,zhB h1⟩
theorem Dw.base {w b b' y m} (h:Dw w b y m) (hb:b'<=b):Dw w b' y m:=λhm=>by
 obtain⟨k,h1,h2,h3⟩:=h hm;exact⟨k,h1,le_trans hb h2,h3⟩
theorem Dw2.base {w b b' t} (h:Dw2 w b t) (hb:b'<=b):Dw2 w b' t:=⟨h.1.base hb,h.2.base hb⟩
theorem Dw.of {w w' base y m} (h:Dw w base y m) (hb:∀b,base<=b->b<w.heap.size->∀q,w.cell? ⟨b,0,none⟩=some (.int .u64 q)->w'.heap[b]?=w.heap[b]?):Dw w' base y m:=λhm=>by
 obtain⟨k,h1,h2,⟨q,h3⟩,h4⟩:=h hm;have e:=hb k h2 (block_lt_of_cell? w _ h3) q h3;exact⟨k,h1,h2,⟨q,(cell?_of_block (a:=⟨k,0,none⟩) e).trans h3⟩,by simp only[World.frozen?,e]at h4 ⊢;exact h4⟩
theorem zqe {w w' b q} (hk:Kp w w') (h:w.cell? ⟨b,0,none⟩=some (.int .u64 q)):w'.heap[b]?=w.heap[b]?:=by
 rcases hk.block b (block_lt_of_cell? w _ h)with h1|⟨cur,t,fr,h1,h2⟩
 ·exact h1
 ·exfalso;simp[World.cell?,h1]at h
  exact h2 _ _ h
theorem Dw2.kpu {w w' base t} (h:Dw2 w base t) (hk:Kp w w'):Dw2 w' base t:=⟨h.1.of λ_ _ _ _ e=>zqe hk e,h.2.of λ_ _ _ _ e=>zqe hk e⟩
theorem Dw2.st3 {w base t B s x n c y m d v0 v1 v2} (h:Dw2 w base t) (S:Sx w B s x n c y m d):Dw2 (((w.setCell ⟨B,0,none⟩ v0).setCell ⟨B,1,none⟩ v1).setCell ⟨B,2,none⟩ v2) base t:=by
 have a1:(w.setCell ⟨B,0,none⟩ v0).cell? ⟨B,1,none⟩=some (slice x n c):=(World.cell?_setCell_other _ _ _ _ (by simp)).trans S.x1;have a2:((w.setCell ⟨B,0,none⟩ v0).setCell ⟨B,1,none⟩ v1).cell? ⟨B,2,none⟩=some (slice y m d):=(World.cell?_setCell_other _ _ _ _ (by simp)).trans ((World.cell?_setCell_other _ _ _ _ (by simp)).trans S.x2);exact((h.set S.x0 (by simp)).set a1 (by simp)).set a2 (by simp)
theorem Rn.keep {L w w' base t q} (h:Rn L w t.s t.x t.n t.c t.f t.y t.m t.d t.g q) (hd:Dw2 w base t) (hb:∀b,base<=b->b<w.heap.size->w'.heap[b]?=w.heap[b]?):Rn L w' t.s t.x t.n t.c t.f t.y t.m t.d t.g q:=by
 have hrd:∀{x:Option Addr} {n:Nat} {f:Nat->Int},Rd .u64 w x n f->Dw w base x n->Rd .u64 w' x n f:=λ{x n f} hr hw i hi=>by
  obtain⟨b,o,e,hc⟩:=hr i hi;obtain⟨b',e',hge,_⟩:=hw (by omega);rw[e]at e'
  cases e'
  exact⟨b,0,e,(cell?_of_block (a:=⟨b,0+i,none⟩) (hb b hge (block_lt_of_cell? w _ hc))).trans hc⟩
 obtain⟨hn,hm,h1,h2⟩:=h;exact⟨⟨hrd hn.rd hd.2,hn.lm,hn.wf,hn.cap,hn.nil,hn.val⟩,⟨hrd hm.rd hd.1,hm.lm,hm.wf,hm.cap,hm.nil,hm.val⟩,h1,h2⟩
def GrO (K base:Nat) (w:World) (v:Value) (p:List Rat):Prop:=∃T:Nat->Nm,RowG 24 3 base w v p.length (zaG (rls p.length T))/\∀(j:Nat) (q:Rat),p[j]?=some q->Rn K w (T j).s (T j).x (T j).n (T j).c (T j).f (T j).y (T j).m (T j).d (T j).g q/\Dw2 w base (T j)
theorem zdW (K base:Nat) (w:World):GrO K base w (slice none 0 0) []:=⟨λ_=>⟨false,none,0,0,λ_=>0,none,0,0,λ_=>0⟩,zaK _ _ _ _,λj q h=>by simp at h⟩
theorem GrO.gr {K base w v p} (h:GrO K base w v p):Gr K base w v p:=by
 obtain⟨T,h1,h2⟩:=h;exact⟨T,h1,λj q e=>(h2 j q e).1⟩
theorem GrO.q_ {K base w w' v p} (h:GrO K base w v p) (hb:Bl w w'):GrO K base w' v p:=by
 obtain⟨T,h1,h2⟩:=h;exact⟨T,h1.q_ hb,λj q e=>⟨(h2 j q e).1.q_ hb,(h2 j q e).2.q_ hb⟩⟩
theorem GrO.base {K b b' w v p} (h:GrO K b w v p) (hb:b'<=b):GrO K b' w v p:=by
 obtain⟨T,⟨h0,h1⟩,h2⟩:=h;refine⟨T,⟨h0,?_⟩,λj q e=>⟨(h2 j q e).1,(h2 j q e).2.base hb⟩⟩;rcases h1 with h1|⟨g,cap,cur,e1,e2,e3⟩
 ·exact .inl h1
 ·exact .inr ⟨g,cap,cur,e1,le_trans hb e2,e3⟩
theorem zgK {K base w0 w' p T g cap s x n c f y m d gg q} (hT:∀(j:Nat) (q:Rat),p[j]?=some q->Rn K w0 (T j).s (T j).x (T j).n (T j).c (T j).f (T j).y (T j).m (T j).d (T j).g q/\Dw2 w0 base (T j)) (hr:RowG 24 3 base w' (slice (some ⟨g,0,none⟩) (p.length+1) cap) (p.length+1) (zaG (rls p.length T)++#[Value.bool s,slice x n c,slice y m d].toList)) (hk:Kp w0 w') (hq:Rn K w0 s x n c f y m d gg q) (hd:Dw2 w0 base ⟨s,x,n,c,f,y,m,d,gg⟩):GrO K base w' (slice (some ⟨g,0,none⟩) (p.length+1) cap) (p++[q]):=by
 refine⟨zaS T p.length ⟨s,x,n,c,f,y,m,d,gg⟩,?_,λj q' e=>?_⟩
 ·rw[List.length_append,List.length_singleton,zfE];exact hr
 ·by_cases hj:j<p.length
  ·rw[List.getElem?_append_left hj]at e
   rw[putN_ne (by omega)];exact⟨Rn.kp (hT j q' e).1 hk,(hT j q' e).2.kpu hk⟩
  ·rw[List.getElem?_append_right (by omega)]at e
   have h0:j-p.length=0:=by
    rcases Nat.eq_zero_or_pos (j-p.length)with h|h
    ·exact h
    ·rw[List.getElem?_eq_none (by simp;omega)]at e;cases e
   have hjj:j=p.length:=by omega
   subst hjj;rw[h0]at e
   cases e
   rw[zcj];exact⟨Rn.kp hq hk,hd.kpu hk⟩
theorem GrO.slice {K base w v p} (h:GrO K base w v p):∃ao cap,v=.slice ao p.length cap/\p.length<=cap/\cap<=9223372036854775807:=h.gr.slice
theorem GrO.keep {K base w w' v p} (h:GrO K base w v p) (hb:∀b,base<=b->b<w.heap.size->w'.heap[b]?=w.heap[b]?):Gr K base w' v p:=by
 obtain⟨T,h1,h2⟩:=h;exact⟨T,h1.of (λg hg=>hb g (h1.lt g hg).1 (h1.lt g hg).2),λj q e=>(h2 j q e).1.keep (h2 j q e).2 hb⟩
def zjm (L:Nat) (w w':World) (e:Ending) (q:Rat):Prop:=∃s x n c f y m d g,e=returned (agg #[.bool s,slice x n c,slice y m d])/\Bl w w'/\Rn L w' s x n c f y m d g q/\Dw2 w' w.heap.size ⟨s,x,n,c,f,y,m,d,g⟩
theorem zns {w L ao k cap p} (h:Rf L w ao p) (hk:p.length=k) (hk2:k<=400) (hL:L<=400) :
  Calls prog 34 #[slice ao k cap] w λe w'=>zjm (4+k*(L+1)) w w' e (zbK p 0):=by
 have H:=zi h;have h2:=zay w 24;have h3:=zE w (cells #[.bool false,slice none 0 0,slice none 0 0] 24);clear h;go_enter func34,ntmps34;go_wp2_with fail
 generalize w.alloc (cells #[.bool false,slice none 0 0,slice none 0 0] 24)=w0 at *;refine(zpR (z:=0) (by omega) (by omega)).mono ?_;rintro e w4 ⟨s0,x0,n0,c0,f0,y0,m0,d0,g0,rfl,hb4,hq4,hu4,hv4,_⟩;have HD4:=zi ((ziI (s:=s0) hu4 hv4).base h3.size);clear hu4 hv4;have OB4:=zi (h2.q_ hb4);have HB4:=zi (bUp h3 hb4);have HQ4:=zi hq4
 clear h2 h3 hb4 hq4;go_wp2_with fail
 have hSx:Sx (w4.alloc (cells #[.bool s0,slice x0 n0 c0,slice y0 m0 d0] 24)) w4.heap.size s0 x0 n0 c0 y0 m0 d0:=⟨by simp,by simp[go_sem],by simp[go_sem],by simp[go_sem],λo=>by simp only[World.frozen?,heap_alloc_new w4 (cells #[.bool s0,slice x0 n0 c0,slice y0 m0 d0] 24)];simp⟩;have hal:=zE w4 (cells #[.bool s0,slice x0 n0 c0,slice y0 m0 d0] 24);have hne:w.heap.size<w4.heap.size:=OB4.out.z;have ST:=zi hSx;have HB5:=zM HB4 hal;have HQ5:=zi (HQ4.out.q_ hal);have HD5:=zi (HD4.out.q_ hal);have OB5:=zi (OB4.out.q_ hal)
 clear hSx hal HB4 HQ4 OB4 HD4;go_loopw[9] (λt wr=>∃(i:Nat) (acc:Rat) (s:Bool) (x:Option Addr) (n c:Nat) (f:Nat->Int) (y:Option Addr) (m d:Nat) (g:Nat->Int),i<=k/\t=.int .i64 i/\Hid (Bl w wr)/\Hid (Sx wr w4.heap.size s x n c y m d)/\Hid (Ob wr w.heap.size)/\Hid (Rn (4+i*(L+1)) wr s x n c f y m d g acc)/\Hid (Dw2 wr w.heap.size ⟨s,x,n,c,f,y,m,d,g⟩)/\Hid (zbK (p.drop i) acc=zbK p 0)) (λt _=>k-(intOf t).toNat)
 case atStart=>exact⟨0,0,s0,x0,n0,c0,f0,y0,m0,d0,g0,by omega,rfl,HB5,ST,OB5,(by show Rn _ _ _ _ _ _ _ _ _ _ _ _;exact HQ5.out.mono (by omega)),HD5,rfl⟩
 case round =>
  clear HB5 HQ5 OB5 ST HD5;obtain⟨i,acc,s,x,n,c,f,y,m,d,g,hi,rfl,HB,HS,HO,HQ,HZ,HE⟩:=hrel;by_cases hlt:i<k
  ·obtain⟨q,haq⟩:∃t,p[i]?=some t:=⟨_,getElem?_eq_getElem (by omega)⟩;obtain⟨b,o,⟨ts,tx,tn,tc,tf,ty,tm,td,tg⟩,hav,hc,hr⟩:=(H.out.q_ HB.out) i q haq;have hav2:=hav;subst hav2;obtain⟨x0,x1,x2⟩:=hc;replace x0:wr.cell? ⟨b,o+i*3,none⟩=some (.bool ts):=x0;replace x1:wr.cell? ⟨b,o+i*3+1,none⟩=some (slice tx tn tc):=x1;replace x2:wr.cell? ⟨b,o+i*3+2,none⟩=some (slice ty tm td):=x2;have HD:Hid (zbK (p.drop (i+1)) (acc+q)=zbK p 0):=by
    show _=_;have e1:p.drop i=q :: p.drop (i+1):=by
     have hl:i<p.length:=by omega
     have:p[i]=q:=by rw[getElem?_eq_getElem hl]at haq;exact Option.some.inj haq
     rw[<-this];exact List.drop_eq_getElem_cons hl
    rw[<-HE.out,e1];rfl
   have hb5:=zE wr (cells #[.bool ts,slice tx tn tc,slice ty tm td] 24);have HR1:Hid (Rn L (wr.alloc (cells #[.bool ts,slice tx tn tc,slice ty tm td] 24)) ts tx tn tc tf ty tm td tg q):=Rn.q_ hr hb5;replace HS:=zi (HS.out.q_ hb5);replace HO:=zi (HO.out.q_ hb5);replace HQ:=zi (HQ.out.q_ hb5);replace HB:=zM HB hb5
   have i2:((i:Nat):Int)<((k:Nat):Int):=by omega
   obtain⟨sz,u0,u1,u2,uf⟩:=HS.out;clear hr haq hav HE hb5;go_wp2_with fail
   clear sz u0 u1 u2 uf x0 x1 x2;generalize wr.alloc (cells #[.bool ts,slice tx tn tc,slice ty tm td] 24)=w5 at *;have hKi:=zeY (i:=i) (L:=L) (by omega) hL;refine(zpc (L:=164000) (HQ.out.mono hKi) (HR1.out.mono (by omega)) (by omega)).mono ?_;rintro e w6 ⟨s6,x6,n6,c6,f6,y6,m6,d6,g6,rfl,hb6,hq6,hu6,hv6,_⟩;have S6:=HS.out.q_ hb6;have HZ6:=zi (((ziI (s:=s6) hu6 hv6).base HB.out.size).st3 (v0:=.bool s6) (v1:=slice x6 n6 c6) (v2:=slice y6 m6 d6) S6);have R1:=zi (zlc (bUp HB.out hb6) S6 (HO.out.q_ hb6) (hq6.cut (K:=4+(i+1)*(L+1)) ((zlM (HQ.out.lo HQ.out.ln HQ.out.ld) (HR1.out.lo HR1.out.ln HR1.out.ld)).mono (by rw[Nat.add_mul];omega))) hne);obtain⟨sz,u0,u1,u2,uf⟩:=S6;clear HS HO HQ HR1 HB hb6 hq6 hKi hu6 hv6 HZ;go_wp2;go_roundw
   case rel=>exact⟨i+1,acc+q,s6,x6,n6,c6,f6,y6,m6,d6,g6,by omega,by go_num,R1.out.bel,R1.out.sx,R1.out.ob,R1.out.rn,HZ6,HD.out⟩
   case measure=>simp[intOf];omega
  ·have e1:i=k:=by omega
   have HF:Hid (acc=zbK p 0):=by
    show _=_;rw[<-HE.out,e1,<-hk,List.drop_length];rfl
   have i2:¬(((i:Nat):Int)<((k:Nat):Int)):=by omega
   obtain⟨sz,u0,u1,u2,uf⟩:=HS.out;obtain⟨hz,z0,z1,z2,zf⟩:=HO.out;have HKK:Hid (i=k):=e1;clear e1 HE;go_wp2;exact bodyPost_ret (v:=agg #[.bool s,slice x n c,slice y m d]) (by simp[results,results34,go_sem,z0,z1,z2]) rfl ⟨s,x,n,c,f,y,m,d,g,rfl,zZ HB.out (by omega),by rw[<-HF.out,<-HKK.out];exact HO.out.rn HQ.out,HZ.out.st3 ⟨hz,z0,z1,z2,zf⟩⟩
def zmL (L:Nat) (w w':World) (e:Ending) (er:Int) (kx:Nat) (xs ds:List Rat) (t:Rat):Prop:=Bl w w' /\
 ((er≠0/\e=returned (.tuple #[slice none 0 0,.int .i64 er]))∨(er=0/\∃a c,e=returned (.tuple #[slice a kx c,.int .i64 0])/\(kx<=c/\c<=9223372036854775807)/\GrO (KL L) w.heap.size w' (slice a kx c) (zas xs ds t)))
theorem zlk {w L ax kx capx Y ao k cap X ts tx tn tc tf ty tm td tg xs ds tq er} (hy:Rl w ax kx Y) (hx:Rl w ao k X) (ht:NmS w ⟨ts,tx,tn,tc,tf,ty,tm,td,tg⟩) (hkx:kx<=1000000) (hk:k<=1048576) (he:alE ⟨ts,tx,tn,tc,tf,ty,tm,td,tg⟩ kx Y k X=er) (hv:er=0->Rf L w ax xs/\xs.length=kx/\Rf L w ao ds/\ds.length=k/\k=kx/\Rn L w ts tx tn tc tf ty tm td tg tq) (hL:L<=60) :
  Calls prog 13 #[agg #[slice ax kx capx,slice ao k cap],agg #[.bool ts,slice tx tn tc,slice ty tm td]] w λe w'=>zmL L w w' e er kx xs ds tq:=by
 have C0:Hid (∀W,Bl w W->Calls prog 33 #[slice (some ⟨W.heap.size,0,none⟩) 1 1,.int .i64 1] (W.alloc (cells #[.bool ts,slice tx tn tc,slice ty tm td] 24)) λe w'=>e=returned (.int .i64 (pnE 1 (λ_=>⟨ts,tx,tn,tc,tf,ty,tm,td,tg⟩) 1))/\Below (W.alloc (cells #[.bool ts,slice tx tn tc,slice ty tm td] 24)).heap.size (W.alloc (cells #[.bool ts,slice tx tn tc,slice ty tm td] 24)) w'):=λW hW2=>zaP (ziv (ht.q_ hW2)) (by decide)
 have C1:=zi (λW (hW2:Bl w W)=>zaP (w:=W) (cap:=capx) (z:=(kx:Int)) (hy.q_ hW2) (by omega));have C2:=zi (λW (hW2:Bl w W)=>zaP (w:=W) (cap:=cap) (z:=(kx:Int)) (hx.q_ hW2) hk);have HE:=zi he;unfold alE at he;obtain⟨e0,he0⟩:∃e,pnE 1 (λ_=>⟨ts,tx,tn,tc,tf,ty,tm,td,tg⟩) 1=e:=⟨_,rfl⟩;rw[he0]at C0 he
 clear he0;obtain⟨e1,he1⟩:∃e,pnE kx Y kx=e:=⟨_,rfl⟩;rw[he1]at C1 he
 clear he1;obtain⟨e2,he2⟩:∃e,pnE k X kx=e:=⟨_,rfl⟩;rw[he2]at C2 he
 clear he2;have HE2:=zi he;have HV:=zi hv
 clear he hv hx hy ht;have hb:=zk (zE w (cells #[slice ax kx capx,slice ao k cap] 31)) (cells #[.bool ts,slice tx tn tc,slice ty tm td] 24);have BY:=zi ((zI w [slice ax kx capx,slice ao k cap] 31).q_ (zE _ (cells #[.bool ts,slice tx tn tc,slice ty tm td] 24)));have BT:=zi (zeB w (cells #[slice ax kx capx,slice ao k cap] 31) [.bool ts,slice tx tn tc,slice ty tm td] 24);have HB:=zi hb;clear hb;go_enter func13,ntmps13;have t0:=BY.out.cell (j:=0) rfl;go_upto_region 2 with fail
 clear t0;generalize((w.alloc (cells #[slice ax kx capx,slice ao k cap] 31)).alloc (cells #[.bool ts,slice tx tn tc,slice ty tm td] 24))=w0 at *;have hbd:=Below.drew (Below.refl w0.heap.size w0);replace HB:=zM HB hbd;replace BY:=zi (BY.out.q_ hbd);replace BT:=zi (BT.out.q_ hbd)
 clear hbd;obtain⟨y0,y1⟩:=bk2 BY.out;obtain⟨r0,r1,r2⟩:=bk3 BT.out;refine wp_region_held_drew (S:=(λw'=>w'.cell? ⟨w.heap.size,0,none⟩=some (slice ax kx capx)/\w'.cell? ⟨w.heap.size,1,none⟩=some (slice ao k cap)/\w'.cell? ⟨w.heap.size+1,0,none⟩=some (.bool ts)/\w'.cell? ⟨w.heap.size+1,1,none⟩=some (slice tx tn tc)/\w'.cell? ⟨w.heap.size+1,2,none⟩=some (slice ty tm td))) (by kernel_rfl) ?_ (λhHeld=>?_)
 ·exact⟨y0,y1,r0,r1,r2⟩
 generalize w0.drew=wd at *;clear y0 y1 r0 r1 r2;refine tkO 0 ?_;refine tkO 3 ?_;refine tkO 4 ?_;simp only[zA,Act.put];refine tkO 5 ?_;refine tkO 7 ?_;refine tkO 8 ?_;simp only[zA,Act.put];refine tkO 9 ?_;simp only[zA,Act.put];refine rdO 1 (λK hK=>?_);go_simp;have hbn:=zE wd (cells #[.bool ts,slice tx tn tc,slice ty tm td] 24);refine hK.out _ _ ?_ (λhHn=>?_)
 ·exact⟨kCb hbn hHeld.1,kCb hbn hHeld.2.1,kCb hbn hHeld.2.2.1,kCb hbn hHeld.2.2.2.1,kCb hbn hHeld.2.2.2.2⟩
 clear hK K;have HBn:=zM HB hbn;try simp only[zA,Act.put]
 refine rdO 2 (λK hK=>?_);go_simp
 go_at_call 33
 refine(C0.out _ HB.out).mono ?_;rintro e w3 ⟨rfl,hb3⟩
 (try go_wp2_with fail)
 refine hK.out _ _ ?_ (λhH3=>?_)
 ·exact⟨kCb hb3 hHn.1,kCb hb3 hHn.2.1,kCb hb3 hHn.2.2.1,kCb hb3 hHn.2.2.2.1,kCb hb3 hHn.2.2.2.2⟩
 clear hK K;have HB3:=zM HBn hb3;try simp only[zA,Act.put]
 refine rdO 6 (λK hK=>?_);go_simp
 go_at_call 33
 refine(C1.out _ HB3.out).mono ?_;rintro e w4 ⟨rfl,hb4⟩
 (try go_wp2_with fail)
 refine hK.out _ _ ?_ (λhH4=>?_)
 ·exact⟨kCb hb4 hH3.1,kCb hb4 hH3.2.1,kCb hb4 hH3.2.2.1,kCb hb4 hH3.2.2.2.1,kCb hb4 hH3.2.2.2.2⟩
 clear hK K;have HB4:=zM HB3 hb4;try simp only[zA,Act.put]
 refine rdO 10 (λK hK=>?_);go_simp
 go_at_call 33
 refine(C2.out _ HB4.out).mono ?_;rintro e w5 ⟨rfl,hb5⟩
 (try go_wp2_with fail)
 refine hK.out _ _ ?_ (λhH5=>?_)
 ·exact⟨kCb hb5 hH4.1,kCb hb5 hH4.2.1,kCb hb5 hH4.2.2.1,kCb hb5 hH4.2.2.2.1,kCb hb5 hH4.2.2.2.2⟩
 clear hK K;have HB5:=zM HB4 hb5;obtain⟨y0,y1,r0,r1,r2⟩:=id hH5;try simp only[zA,Act.put]
 refine rdO 11 (λK hK=>?_);go_simp;have hbA:=zE w5 (cells #[.int .i64 e0,.int .i64 e1,.int .i64 e2] 39);have HEl:=zi (zkF (w:=w5) (e0:=e0) (e1:=e1) (e2:=e2) (t:=39));have HWA:=zM HB5 hbA;obtain⟨gA,hgA⟩:∃z,w5.heap.size=z:=⟨_,rfl⟩;rw[hgA]at HEl ⊢
 generalize hwA:w5.alloc (cells #[.int .i64 e0,.int .i64 e1,.int .i64 e2] 39)=wA at *;clear hwA hgA;refine hK.out _ _ ?_ (λhHA=>?_)
 ·((try dsimp only);(refine⟨?_,?_,?_,?_,?_⟩ <;> repeat(with_reducible first|assumption|refine kCb (by assumption) ?_)))
 clear hK K;try simp only[zA,Act.put]
 refine rdO 12 (λK hK=>?_);go_simp
 go_at_call 32
 refine(zfU HEl.out (by decide)).mono ?_;rintro e w9 ⟨rfl,rfl⟩
 (try go_wp2_with fail)
 refine hK.out _ _ ?_ (λhHB=>?_)
 ·exact hHA
 clear hK K;try simp only[zA,Act.put]
 refine tkO 13 ?_;simp only[zA,Act.put];refine dnO ?_;simp only[show lsf (tri e0 e1 e2) 3=er from HE2.out];replace BY:=zi (BY.out.q_ (hbn.trans ((hb3.trans ((bUp hb4 hb5).mono hb3.size)).mono hbn.size)));replace BT:=zi (BT.out.q_ (hbn.trans ((hb3.trans ((bUp hb4 hb5).mono hb3.size)).mono hbn.size)))
 replace BY:=zi (BY.out.q_ hbA);replace BT:=zi (BT.out.q_ hbA)
 replace HB:=zi HWA.out;clear HE2 hHeld hHn hH3 hH4 hH5 hHA hHB hbn hb3 hb4 hb5 hbA y0 y1 r0 r1 r2 HEl C0 C1 C2 HBn HB3 HB4 HB5 HWA;by_cases h0:er=0
 case neg =>
  have h1:(er != 0)=true:=by simpa using h0
  have H0:=zi h0;go_wp2
  go_ret2
  exact⟨HB.out,.inl ⟨H0.out,rfl⟩⟩
 obtain⟨v1,v2,v3,v4,v5,v6⟩:=HV.out h0;subst h0;subst v5;have HX:=zi v1;have HXL:=zi v2;have HD:=zi v3;have HDL:=zi v4;have HT:=zi v6
 clear v1 v2 v3 v4 v6 HV;have y0:=BY.out.cell (j:=0) rfl;go_wp2_with fail
 clear y0;obtain⟨w1,hw1⟩:∃z:World,z=w9:=⟨_,rfl⟩;subst hw1;go_loopw[8,33] (λov t wr=>∃(i:Nat),i<=k/\t=.int .i64 i/\Hid (Bl w1 wr)/\Hid (GrO (KL L) w1.heap.size wr ov ((zas xs ds tq).take i))) (λ_ t _=>k-(intOf t).toNat)
 case atStart=>exact⟨0,by omega,rfl,Below.refl _ _,zdW _ _ _⟩
 case round =>
  obtain⟨i,hi,rfl,HB2,HG2⟩:=hrel;have hcl:(zas xs ds tq).length=k:=by unfold zas;rw[List.length_zipWith,HXL.out,HDL.out,Nat.min_self]
  have hgl:((zas xs ds tq).take i).length=i:=by rw[List.length_take];omega
  by_cases hlt:i<k
  ·obtain⟨u,hu⟩:∃t,xs[i]?=some t:=⟨_,getElem?_eq_getElem (by have:=HXL.out;omega)⟩;obtain⟨r,hr⟩:∃t,ds[i]?=some t:=⟨_,getElem?_eq_getElem (by have:=HDL.out;omega)⟩;have hbz:=bUp HB.out HB2.out;obtain⟨b,o,⟨us,ux,un,uc,uf,uy,um,ud,ug⟩,hba,⟨q0,q1,q2⟩,hu'⟩:=(HX.out.q_ hbz) i u hu;subst hba;obtain⟨b',o',⟨ss,sx,sn,sc,sf,sy,sm,sd,sg⟩,hax,⟨p0,p1,p2⟩,hr'⟩:=(HD.out.q_ hbz) i r hr;subst hax;replace q0:wr.cell? ⟨b,o+i*3,none⟩=some (.bool us):=q0;replace q1:wr.cell? ⟨b,o+i*3+1,none⟩=some (slice ux un uc):=q1;replace q2:wr.cell? ⟨b,o+i*3+2,none⟩=some (slice uy um ud):=q2;replace p0:wr.cell? ⟨b',o'+i*3,none⟩=some (.bool ss):=p0;replace p1:wr.cell? ⟨b',o'+i*3+1,none⟩=some (slice sx sn sc):=p1;replace p2:wr.cell? ⟨b',o'+i*3+2,none⟩=some (slice sy sm sd):=p2;replace hr':Rn L wr ss sx sn sc sf sy sm sd sg r:=hr';replace hu':Rn L wr us ux un uc uf uy um ud ug u:=hu';have ht2:=HT.out.q_ hbz;have HCI:Hid ((zas xs ds tq).take (i+1)=(zas xs ds tq).take i++[zbK [u,tq*r] 0]):=by
    show _=_;rw[List.take_add_one]
    congr 1
    unfold zas;rw[List.getElem?_zipWith,hu,hr];rfl
   have hbt:=zE wr (cells #[.bool us,slice ux un uc,slice uy um ud] 24);obtain⟨a0,a1,a2⟩:=bk3 (zI wr [.bool us,slice ux un uc,slice uy um ud] 24);replace BY:=zi (BY.out.q_ HB2.out);replace BT:=zi (BT.out.q_ HB2.out)
   have i1':((i:Nat):Int)<((k:Nat):Int):=by omega
   clear hu hr;go_upto_region 9 with fail
   clear q0 q1 q2;replace p0:=kCb hbt p0;replace p1:=kCb hbt p1;replace p2:=kCb hbt p2
   have y1:=kCb hbt (BY.out.cell (j:=1) rfl);have r0:=kCb hbt (BT.out.cell (j:=0) rfl);have r1:=kCb hbt (BT.out.cell (j:=1) rfl);have r2:=kCb hbt (BT.out.cell (j:=2) rfl);have HB3:=zM HB2 hbt;have HG3:=zi (HG2.out.q_ hbt);have R0:=zi (hu'.q_ hbt);have R1:=zi (ht2.q_ hbt);have R2:=zi (hr'.q_ hbt)
   clear hbz hbt HB2 HG2 hu' hr' ht2;generalize hbx:wr.heap.size=bx at *;generalize wr.alloc (cells #[.bool us,slice ux un uc,slice uy um ud] 24)=w5 at *;clear hbx;refine zaL (S:=(λw'=>w'.cell? ⟨bx,0,none⟩=some (.bool us)/\w'.cell? ⟨bx,1,none⟩=some (slice ux un uc)/\w'.cell? ⟨bx,2,none⟩=some (slice uy um ud)/\w'.cell? ⟨w.heap.size+1,0,none⟩=some (.bool ts)/\w'.cell? ⟨w.heap.size+1,1,none⟩=some (slice tx tn tc)/\w'.cell? ⟨w.heap.size+1,2,none⟩=some (slice ty tm td)/\w'.cell? ⟨w.heap.size,1,none⟩=some (slice (some ⟨b',o',none⟩) k cap)/\w'.cell? ⟨b',o'+i*3,none⟩=some (.bool ss)/\w'.cell? ⟨b',o'+i*3+1,none⟩=some (slice sx sn sc)/\w'.cell? ⟨b',o'+i*3+2,none⟩=some (slice sy sm sd))) 9 (by kernel_rfl) ⟨kCd a0,kCd a1,kCd a2,kCd r0,kCd r1,kCd r2,kCd y1,kCd p0,kCd p1,kCd p2⟩ (λhHeld=>?_);refine zaa (i:=0) (v:=?_) rfl (by kernel_rfl) (by kernel_rfl) (by kernel_rfl) (by kernel_rfl) (λ_ _ _ h=>h) (Or.inl ⟨by rfl,?_⟩) (λ_=>by assumption) ?_;rotate_left
   (focus (intro w0 hSw;go_simp <;> with_reducible rfl))
   simp only[zA,Act.put];refine zag (i:=1) (v:=?_) rfl (by kernel_rfl) (by kernel_rfl) (by kernel_rfl) (by kernel_rfl) (by kernel_rfl) (by kernel_rfl) (λ_ _ _ h=>h) (Or.inl ⟨by rfl,?_⟩) (by assumption) ?_;rotate_left
   (focus (intro w0 hSw;(try dsimp only at hSw);go_simp <;> with_reducible rfl))
   simp only[zA,Act.put];refine zag (i:=2) (v:=?_) rfl (by kernel_rfl) (by kernel_rfl) (by kernel_rfl) (by kernel_rfl) (by kernel_rfl) (by kernel_rfl) (λ_ _ _ h=>h) (Or.inl ⟨by rfl,?_⟩) (by assumption) ?_;rotate_left
   (focus (intro w0 hSw;(try dsimp only at hSw);go_simp <;> with_reducible rfl))
   simp only[zA,Act.put];refine zaa (i:=3) (v:=?_) rfl (by kernel_rfl) (by kernel_rfl) (by kernel_rfl) (by kernel_rfl) (λ_ _ _ h=>h) (Or.inl ⟨by rfl,?_⟩) (λ_=>by assumption) ?_;rotate_left
   (focus (intro w0 hSw;go_simp <;> with_reducible rfl))
   simp only[zA,Act.put];refine zag (i:=4) (v:=?_) rfl (by kernel_rfl) (by kernel_rfl) (by kernel_rfl) (by kernel_rfl) (by kernel_rfl) (by kernel_rfl) (λ_ _ _ h=>h) (Or.inl ⟨by rfl,?_⟩) (by assumption) ?_;rotate_left
   (focus (intro w0 hSw;(try dsimp only at hSw);go_simp <;> with_reducible rfl))
   simp only[zA,Act.put];refine zaa (i:=5) (v:=?_) rfl (by kernel_rfl) (by kernel_rfl) (by kernel_rfl) (by kernel_rfl) (λ_ _ _ h=>h) (Or.inl ⟨by rfl,?_⟩) (λ_=>by assumption) ?_;rotate_left
   (focus (intro w0 hSw;go_simp <;> with_reducible rfl))
   simp only[zA,Act.put];refine zaa (i:=6) (v:=?_) rfl (by kernel_rfl) (by kernel_rfl) (by kernel_rfl) (by kernel_rfl) (λ_ _ _ h=>h) (Or.inl ⟨by rfl,?_⟩) (λ_=>by assumption) ?_;rotate_left
   (focus (intro w0 hSw;go_simp <;> with_reducible rfl))
   simp only[zA,Act.put];refine zag (i:=7) (v:=?_) rfl (by kernel_rfl) (by kernel_rfl) (by kernel_rfl) (by kernel_rfl) (by kernel_rfl) (by kernel_rfl) (λ_ _ _ h=>h) (Or.inl ⟨by rfl,?_⟩) (by assumption) ?_;rotate_left
   (focus (intro w0 hSw;(try dsimp only at hSw);go_simp <;> with_reducible rfl))
   simp only[zA,Act.put];refine rdP 8 (λK hK=>?_);go_simp
   go_at_call 35
   refine(zek (L:=L) (zeO R1.out) (zeO R2.out) (by omega)).mono ?_;rintro e w6 ⟨s6,x6,n6,c6,f6,y6,m6,d6,g6,rfl,hb6,hq6⟩
   (try go_wp2_with fail)
   refine hK.out _ _ (λ_=>⟨kCb hb6 hHeld.1,kCb hb6 hHeld.2.1,kCb hb6 hHeld.2.2.1,kCb hb6 hHeld.2.2.2.1,kCb hb6 hHeld.2.2.2.2.1,kCb hb6 hHeld.2.2.2.2.2.1,kCb hb6 hHeld.2.2.2.2.2.2.1,kCb hb6 hHeld.2.2.2.2.2.2.2.1,kCb hb6 hHeld.2.2.2.2.2.2.2.2.1,kCb hb6 hHeld.2.2.2.2.2.2.2.2.2⟩) (λhH=>?_);replace hHeld:=hH (by kernel_rfl);clear hK K hH;try simp only[zA,Act.put]
   refine rdP 9 (λK hK=>?_);go_simp;have HQ2:=zi (zkZ (T:=24) (((zeO R0.out).q_ hb6).mono (show L<=2*L+1 by omega)) hq6);have hbb:=zE w6 (cells #[.bool us,slice ux un uc,slice uy um ud,.bool s6,slice x6 n6 c6,slice y6 m6 d6] 24);refine hK.out _ _ (λh=>by cases h) (λ_=>?_);clear hK K;try simp only[zA,Act.put]
   refine rdP 10 (λK hK=>?_);go_simp
   go_at_call 34
   refine(zns (L:=2*L+1) (k:=2) HQ2.out rfl (by decide) (by omega)).mono ?_;rintro e w7 ⟨s7,x7,n7,c7,f7,y7,m7,d7,g7,rfl,hb7,hq7,hd7⟩
   (try go_wp2_with fail)
   refine hK.out _ _ (λh=>by cases h) (λ_=>?_);clear hK K;try simp only[zA,Act.put]
   refine rdP 11 (λK hK=>?_);go_simp;refine hK.out _ _ (λh=>by cases h) (λ_=>?_);clear hK K;try simp only[zA,Act.put]
   refine rdP 12 (λK hK=>?_);have hb57:Bl w5 w7:=((Below.drew (Below.refl w5.heap.size w5)).trans (hb6.mono (le_refl _))).trans ((bUp hbb hb7).mono (show w5.heap.size<=w6.heap.size from hb6.size));obtain⟨T,hrow,hT⟩:=GrO.q_ HG3.out hb57;rw[hgl]at hrow
   refine zar w7 rfl (.tmp 38) (.tmp 49) 29 rfl w1.heap.size 24 56 3 (agg #[.bool false,slice none 0 0,slice none 0 0]) underlying29 zbv rfl (by decide) nz3 u8 i _ rfl hrow #[.bool s7,slice x7 n7 c7,slice y7 m7 d7] rfl rfl (zgB _ _ _ _ _ _ _) (zeN _ _ _ _ _ _ _) (by omega) (by decide) ?hz ?_
   case hz=>exact(bUp HB3.out hb57).size
   intro g8 cap8 w8 hr8 hk8 hb8 hg8;have HB8:Hid (Bl w1 w8):=hb8 w1 (bUp HB3.out hb57) (le_refl _);have HG8:Hid (GrO (KL L) w1.heap.size w8 (slice (some ⟨g8,0,none⟩) (i+1) cap8) ((zas xs ds tq).take (i+1))):=by
    have hp8:=zgK (p:=(zas xs ds tq).take i) hT (by rw[hgl];exact hr8) hk8 (show Rn (KL L) w7 s7 x7 n7 c7 f7 y7 m7 d7 g7 (zbK [u,tq*r] 0)from hq7) (hd7.base (le_trans HB3.out.size (le_trans (show w5.heap.size<=w6.heap.size from hb6.size) hbb.size)));rw[hgl]at hp8
    rw[HCI.out];exact hp8
   clear hr8 hk8 hb8 hg8 hrow hT hb6 hq6 hb7 hq7 hd7 hbb hb57 HQ2 HG3 HB3 R0 R1 R2;refine hK.out _ _ (λh=>by cases h) (λ_=>?_);clear hK K;simp only[zA,Act.put];refine zaa (i:=13) (v:=?_) rfl (by kernel_rfl) (by kernel_rfl) (by kernel_rfl) (by kernel_rfl) (λ_ _ _ h=>h) (Or.inl ⟨by rfl,?_⟩) (λh=>by cases h) ?_;rotate_left
   (focus (intro w0 hSw;go_simp <;> with_reducible rfl))
   simp only[zA,Act.put];refine dnP ?_;clear hHeld a0 a1 a2 r0 r1 r2 y1 p0 p1 p2;go_wp2;go_roundw
   case rel=>exact⟨i+1,by omega,by go_num,HB8.out,HG8.out⟩
   case measure=>simp[intOf];omega
  ·have i4:¬(((i:Nat):Int)<((k:Nat):Int)):=by omega
   have e9:i=k:=by omega
   obtain⟨va,vc,hvs,hvc⟩:=HG2.out.slice;rw[hgl]at hvs hvc
   have HG4:=HG2.out;rw[hvs]at HG4
   replace HG4:=zi (show GrO (KL L) w.heap.size wr (slice va i vc) (zas xs ds tq) by have:=HG4.base (b':=w.heap.size) HB.out.size;rw[List.take_of_length_le (by omega)]at this;exact this);subst hvs;have HEK:=zi e9;have HVC:=zi hvc
   replace HB:=zM HB HB2.out;clear HG2 HB2 hgl hcl e9 hvc HX HD BY BT;go_wp2
   go_ret2
   exact⟨HB.out,.inr ⟨rfl,va,vc,by rw[HEK.out];rfl,by rw[<-HEK.out];exact HVC.out,by rw[<-HEK.out];exact HG4.out⟩⟩
theorem zfL {M k X} (h1:zaH M=0) (h2:afB k X=true) (h3:k=M.ck):zbM M k X=0:=by
 unfold zbM;rw[h1,show pnE k X M.ck=0 by unfold pnE;rw[if_pos h2,if_pos (by rw[h3])]];rfl
theorem zpa {w L M off cs rs ao k cap ds} (h:MoV L w M off cs rs) (ho:zcc cs rs=true) (hx:Rf L w ao ds) (hk:ds.length=k) (hkc:k=cs.length) (hL:L<=30) :
  Calls prog 12 #[M.val,slice ao k cap] w λe w'=>e=returned (.tuple #[.bool (zca 0 0 cs rs ds),.int .i64 0])/\Bl w w':=by
 obtain⟨h1,h2⟩:=h.chk (by omega) ho;obtain⟨X,h3,h4⟩:=zgv hx (by omega);have mp:=zcI ho;rw[hk]at h3 h4
 exact zhy (λ_ _=>h2) h3 (by have:=mp.cl;omega) h1 (zfL h1 h4 (by rw[h.ck];exact hkc)) (λ_=>⟨h,ho,hx,hk,hkc⟩) hL
theorem zgx {w L M off cs rs ao k cap ds ax kx capx xs} (h:MoV L w M off cs rs) (ho:zcc cs rs=true) (hx:Rf L w ao ds) (hk:ds.length=k) (hkc:k=cs.length) (hy:Rf L w ax xs) (hkx:xs.length=kx) (hkxc:kx=cs.length) (hL:L<=30) :
  Calls prog 11 #[M.val,agg #[slice ax kx capx,slice ao k cap]] w λe w'=>e=returned (.tuple #[.bool (zhm 0 0 0 cs rs ds xs),.int .i64 0])/\Bl w w':=by
 obtain⟨h1,h2⟩:=h.chk (by omega) ho;obtain⟨X,h3,h4⟩:=zgv hx (by omega);obtain⟨Y,h5,h6⟩:=zgv hy (by omega);have mp:=zcI ho;rw[hk]at h3 h4
 rw[hkx]at h5 h6
 exact zgw (λ_ _=>h2) h3 (by have:=mp.cl;omega) h1 (zfL h1 h4 (by rw[h.ck];exact hkc)) (λ_=>⟨h,ho,hx,hk,hkc⟩) hL h5 (by have:=mp.cl;omega) (zfL h1 h6 (by rw[h.ck];exact hkxc)) (λ_=>⟨h,ho,hy,hkx,hkxc⟩)
theorem zlj {w L ax kx capx ao k cap ts tx tn tc tf ty tm td tg xs ds tq} (hy:Rf L w ax xs) (hkx:xs.length=kx) (hx:Rf L w ao ds) (hk:ds.length=k) (hkk:k=kx) (ht:Rn L w ts tx tn tc tf ty tm td tg tq) (hL:L<=60) (h9:kx<=1000) :
  Calls prog 13 #[agg #[slice ax kx capx,slice ao k cap],agg #[.bool ts,slice tx tn tc,slice ty tm td]] w λe w'=>∃a c,e=returned (.tuple #[slice a kx c,.int .i64 0])/\Bl w w'/\(kx<=c/\c<=9223372036854775807)/\Hid (Rf (KL L) w' a (zas xs ds tq)):=by
 obtain⟨X,h3,h4⟩:=zgv hx (by omega);obtain⟨Y,h5,h6⟩:=zgv hy (by omega);rw[hk]at h3 h4
 rw[hkx]at h5 h6
 have hn9:=Rn.nm (t:=⟨ts,tx,tn,tc,tf,ty,tm,td,tg⟩) ht;obtain⟨h7,h8⟩:=hn9 (by omega);have he:alE ⟨ts,tx,tn,tc,tf,ty,tm,td,tg⟩ kx Y k X=0:=by
  unfold alE;rw[show pnE 1 (λ_=>(⟨ts,tx,tn,tc,tf,ty,tm,td,tg⟩:Nm)) 1=0 by unfold pnE;rw[if_pos (show afB 1 _=true by simp[afB,afr,h8])];rfl,show pnE kx Y kx=0 by unfold pnE;rw[if_pos h6,if_pos rfl],show pnE k X kx=0 by unfold pnE;rw[if_pos h4,if_pos (by rw[hkk])]];rfl
 refine(zli h5 h3 h7 (by omega) (by omega) he (λ_=>⟨hy,hkx,hx,hk,hkk,ht⟩) hL).mono ?_;rintro e w' ⟨hb,⟨h0,_⟩|⟨_,a,c,rfl,hc,hr⟩⟩
 ·exact absurd rfl h0
 ·exact⟨a,c,rfl,hb,hc,hr⟩
theorem zbN {w z} (h0:-1000<=z) (h1:z<=1000):Calls prog 21 #[.int .i64 z] w λe w'=>∃a,e=returned (slice a 1 1)/\Bl w w'/\Hid (Rf 4 w' a [(z:Rat)]):=by
 go_enter func21,ntmps21;go_wp2_with fail
 refine(zba (z:=z) (by omega) (by omega)).mono ?_;rintro e w1 ⟨s,x,n,c,f,y,m,d,g,rfl,hb,hr⟩;have HR:=zi (show Rf 4 (w1.alloc (cells #[.bool s,slice x n c,slice y m d] 24)) (some ⟨w1.heap.size,0,none⟩) [(z:Rat)]from(zpq (base:=0) hr (Nat.zero_le _)).rf);have HB:=zi (zk hb (cells #[.bool s,slice x n c,slice y m d] 24));clear hr hb;go_wp2;go_ret;exact⟨_,rfl,HB.out,HR.out⟩
def fiC:List CV:=[⟨⟨#[120]⟩,1,-1,0,1,0⟩]
theorem first13_c {w}:Calls prog 20 #[] w λe w'=>∃M:Mo,e=returned M.val/\Bl w w'/\Hid (MoV 8 w' M 0 fiC []):=by
 go_enter func20,ntmps20;go_wp2_with fail
 have HB:=zi (zE w (cells #[.bool false,slice none 0 0,slice none 0 0,slice none 0 0,slice none 0 0] 28));have O0:=zi (zI w [.bool false,slice none 0 0,slice none 0 0,slice none 0 0,slice none 0 0] 28);generalize w.alloc (cells #[.bool false,slice none 0 0,slice none 0 0,slice none 0 0,slice none 0 0] 28)=w0 at *;refine(zba (z:=0) (by decide) (by decide)).mono ?_;rintro e w1 ⟨s1,x1,n1,c1,f1,y1,m1,d1,g1,rfl,hb,hr⟩;replace HB:=zM HB hb;replace O0:=zi (O0.out.q_ hb)
 have R1:=zi hr;clear hb hr;go_wp2_with fail
 refine(zba (z:=1) (by decide) (by decide)).mono ?_;rintro e w2 ⟨s2,x2,n2,c2,f2,y2,m2,d2,g2,rfl,hb,hr⟩;replace HB:=zM HB hb;replace O0:=zi (O0.out.q_ hb);replace R1:=zi (R1.out.q_ hb)
 have R2:=zi hr;clear hb hr;go_wp2_with fail
 refine(zoC).mono ?_;rintro e w3 ⟨s3,x3,n3,c3,f3,y3,m3,d3,g3,rfl,hb,hF⟩;replace HB:=zM HB hb;replace O0:=zi (O0.out.q_ hb);replace R1:=zi (R1.out.q_ hb);replace R2:=zi (R2.out.q_ hb)
 clear hb;go_wp2_with fail
 refine(zoj hF.out.2.2 (by have:=hF.out;omega) (by have:=hF.out;omega)).mono ?_;rintro e w4 ⟨z4,k4,t4,p4,v4,l4,q4,r4,rfl,hb,hE⟩;replace HB:=zM HB hb;replace O0:=zi (O0.out.q_ hb);replace R1:=zi (R1.out.q_ hb);replace R2:=zi (R2.out.q_ hb)
 have E3:=zi (hE.out.rn.mono (show _<=8 by have:=hF.out;omega));clear hb hE hF;go_wp2_with fail
 refine(zmS).mono ?_;rintro e w5 ⟨s5,x5,n5,c5,f5,y5,m5,d5,g5,rfl,hb,hF⟩;replace HB:=zM HB hb;replace O0:=zi (O0.out.q_ hb);replace R1:=zi (R1.out.q_ hb);replace R2:=zi (R2.out.q_ hb);replace E3:=zi (E3.out.q_ hb)
 clear hb;go_wp2_with fail
 refine(zoj hF.out.2.2 (by have:=hF.out;omega) (by have:=hF.out;omega)).mono ?_;rintro e w6 ⟨z6,k6,t6,p6,v6,l6,q6,r6,rfl,hb,hE⟩;replace HB:=zM HB hb;replace O0:=zi (O0.out.q_ hb);replace R1:=zi (R1.out.q_ hb);replace R2:=zi (R2.out.q_ hb);replace E3:=zi (E3.out.q_ hb)
 have E5:=zi (hE.out.rn.mono (show _<=8 by have:=hF.out;omega));clear hb hE hF
 skip
 have hn:=zE w6 (cells #[.string ⟨#[120]⟩,.bool s2,slice x2 n2 c2,slice y2 m2 d2,.int .i64 (-1),.bool s3,slice z4 k4 t4,slice v4 l4 q4,.int .i64 1,.bool s5,slice z6 k6 t6,slice v6 l6 q6] 59);have HCs:Hid (Cs (w6.alloc (cells #[.string ⟨#[120]⟩,.bool s2,slice x2 n2 c2,slice y2 m2 d2,.int .i64 (-1),.bool s3,slice z4 k4 t4,slice v4 l4 q4,.int .i64 1,.bool s5,slice z6 k6 t6,slice v6 l6 q6] 59)) w6.heap.size 0 [.string ⟨#[120]⟩,.bool s2,slice x2 n2 c2,slice y2 m2 d2,.int .i64 (-1),.bool s3,slice z4 k4 t4,slice v4 l4 q4,.int .i64 1,.bool s5,slice z6 k6 t6,slice v6 l6 q6]):=zhT w6 59 [.string ⟨#[120]⟩,.bool s2,slice x2 n2 c2,slice y2 m2 d2,.int .i64 (-1),.bool s3,slice z4 k4 t4,slice v4 l4 q4,.int .i64 1,.bool s5,slice z6 k6 t6,slice v6 l6 q6] [.string ⟨#[120]⟩,.bool s2,slice x2 n2 c2,slice y2 m2 d2,.int .i64 (-1),.bool s3,slice z4 k4 t4,slice v4 l4 q4,.int .i64 1,.bool s5,slice z6 k6 t6,slice v6 l6 q6] 0 (λj v e=>by rw[Nat.zero_add];exact e);replace HB:=zM HB hn;replace O0:=zi (O0.out.q_ hn);replace R1:=zi (R1.out.q_ hn);replace R2:=zi (R2.out.q_ hn);replace E3:=zi (E3.out.q_ hn);replace E5:=zi (E5.out.q_ hn)
 clear hn;have HMo:Hid (MoV 8 (w6.alloc (cells #[.string ⟨#[120]⟩,.bool s2,slice x2 n2 c2,slice y2 m2 d2,.int .i64 (-1),.bool s3,slice z4 k4 t4,slice v4 l4 q4,.int .i64 1,.bool s5,slice z6 k6 t6,slice v6 l6 q6] 59)) ⟨⟨s1,x1,n1,c1,f1,y1,m1,d1,g1⟩,some ⟨w6.heap.size,0,none⟩,1,1,λ_=>⟨⟨#[120]⟩,⟨s2,x2,n2,c2,f2,y2,m2,d2,g2⟩,⟨-1,⟨s3,z4,k4,t4,p4,v4,l4,q4,r4⟩⟩,⟨1,⟨s5,z6,k6,t6,p6,v6,l6,q6,r6⟩⟩⟩,none,0,0,λ_=>⟨⟨#[]⟩,⟨0,⟨false,none,0,0,λ_=>0,none,0,0,λ_=>0⟩⟩,⟨0,⟨false,none,0,0,λ_=>0,none,0,0,λ_=>0⟩⟩,none,0,0,λ_=>0,λ_=>⟨false,none,0,0,λ_=>0,none,0,0,λ_=>0⟩⟩⟩ 0 fiC []):=by
  refine⟨R1.out.mono (by decide),rfl,rfl,λj v e=>?_,λj v e=>by simp at e⟩
  match j,e with
  | 0,e=>cases e;exact⟨⟨_,0,rfl,HCs.out⟩,rfl,R2.out.mono (by decide),rfl,E3.out,rfl,E5.out⟩
 obtain⟨hk1,hk2⟩:=zlO (w:=(w6.alloc (cells #[.string ⟨#[120]⟩,.bool s2,slice x2 n2 c2,slice y2 m2 d2,.int .i64 (-1),.bool s3,slice z4 k4 t4,slice v4 l4 q4,.int .i64 1,.bool s5,slice z6 k6 t6,slice v6 l6 q6] 59))) (w':=(((((w6.alloc (cells #[.string ⟨#[120]⟩,.bool s2,slice x2 n2 c2,slice y2 m2 d2,.int .i64 (-1),.bool s3,slice z4 k4 t4,slice v4 l4 q4,.int .i64 1,.bool s5,slice z6 k6 t6,slice v6 l6 q6] 59)).setCell ⟨w.heap.size,0,none⟩ (.bool s1)).setCell ⟨w.heap.size,1,none⟩ (slice x1 n1 c1)).setCell ⟨w.heap.size,2,none⟩ (slice y1 m1 d1)).setCell ⟨w.heap.size,3,none⟩ (slice (some ⟨w6.heap.size,0,none⟩) 1 1)).setCell ⟨w.heap.size,4,none⟩ (slice none 0 0)) O0.out (zny _ _ _ _ _ _ _ _ _ _ _ _ _) rfl;have HM2:=zi (HMo.out.kp hk1 hk2 (zqI O0.out));have HB2:=zi (zfo (u0:=.bool s1) (u1:=slice x1 n1 c1) (u2:=slice y1 m1 d1) (u3:=slice (some ⟨w6.heap.size,0,none⟩) 1 1) (u4:=slice none 0 0) HB.out (le_refl w.heap.size));obtain⟨l0,l1,l2,l3,l4⟩:=bk5 O0.out;have ff:=O0.out.frozen;clear hk1 hk2 HMo HB O0 R1 R2 E3 E5 HCs;go_wp2;exact bodyPost_ret (v:=agg #[.bool s1,slice x1 n1 c1,slice y1 m1 d1,slice (some ⟨w6.heap.size,0,none⟩) 1 1,slice none 0 0]) (by simp[results,results20,go_sem,l0,l1,l2,l3,l4]) rfl ⟨_,rfl,HB2.out,HM2.out⟩
theorem zda {L L' w sa xa na ca fa ya ma da ga sb xb nb cb fb yb mb db gb q} (ha:Rn L w sa xa na ca fa ya ma da ga q) (hb:Rn L' w sb xb nb cb fb yb mb db gb q) (h1:L<=1048576) (h2:L'<=1048576) :
  Calls prog 18 #[agg #[.bool sa,slice xa na ca,slice ya ma da],agg #[.bool sb,slice xb nb cb,slice yb mb db]] w λe w'=>e=returned (.bool true)/\Bl w w':=by
 have l1:=ha.ln;have l2:=ha.ld;have l3:=hb.ln;have l4:=hb.ld
 refine(zfI sa xa ya na ca ma da fa ga sb xb yb nb cb mb db fb gb w ha.num.rd ha.den.rd hb.num.rd hb.den.rd (by omega) (by omega) (by omega) (by omega)).mono ?_;rintro e w' ⟨c,rfl,h3,h4⟩;refine⟨?_,h3⟩;rw[h4.2 ((ha.inj hb).2 rfl)]
theorem zjE {w L L' ao bo k ca cb p} (ha:Rf L w ao p) (hb:Rf L' w bo p) (hk:p.length=k) (hk2:k<=1048576) (h1:L<=1048576) (h2:L'<=1048576) :
  Calls prog 19 #[slice ao k ca,slice bo k cb] w λe w'=>e=returned (.bool true)/\Bl w w':=by
 have HA:=zi ha;have HB:=zi hb
 have hkk:(((k:Nat):Int) != ((k:Nat):Int))=false:=by simp
 clear ha hb;go_enter func19,ntmps19;go_wp2_with fail
 go_loopw[13] (λt wr=>∃(i:Nat),i<=k/\t=.int .i64 i/\Hid (Bl w wr)) (λt _=>k-(intOf t).toNat)
 case atStart=>exact⟨0,by omega,rfl,Below.refl _ _⟩
 case round =>
  obtain⟨i,hi,rfl,HW⟩:=hrel;by_cases hlt:i<k
  ·obtain⟨q,hq⟩:∃q,p[i]?=some q:=⟨_,getElem?_eq_getElem (by omega)⟩;obtain⟨b,o,⟨ts,tx,tn,tc,tf,ty,tm,td,tg⟩,rfl,hc,hr⟩:=(HA.out.q_ HW.out) i q hq;obtain⟨b',o',⟨ss,sx,sn,sc,sf,sy,sm,sd,sg⟩,rfl,hc',hr'⟩:=(HB.out.q_ HW.out) i q hq;obtain⟨x0,x1,x2⟩:=hc;obtain⟨p0,p1,p2⟩:=hc';replace x0:wr.cell? ⟨b,o+i*3,none⟩=some (.bool ts):=x0;replace x1:wr.cell? ⟨b,o+i*3+1,none⟩=some (slice tx tn tc):=x1;replace x2:wr.cell? ⟨b,o+i*3+2,none⟩=some (slice ty tm td):=x2;replace p0:wr.cell? ⟨b',o'+i*3,none⟩=some (.bool ss):=p0;replace p1:wr.cell? ⟨b',o'+i*3+1,none⟩=some (slice sx sn sc):=p1;replace p2:wr.cell? ⟨b',o'+i*3+2,none⟩=some (slice sy sm sd):=p2;have CS:Hid (∀W,Bl wr W->Calls prog 18 #[agg #[.bool ts,slice tx tn tc,slice ty tm td],agg #[.bool ss,slice sx sn sc,slice sy sm sd]] W λe w'=>e=returned (.bool true)/\Bl W w'):=λW hW =>
    zda (Rn.q_ hr hW) (Rn.q_ hr' hW) h1 h2
   have i2:((i:Nat):Int)<((k:Nat):Int):=by omega
   clear hr hr' hq;go_upto_region 6 with fail
   go_region_held3 (λw'=>w'.cell? ⟨b,o+i*3,none⟩=some (.bool ts)/\w'.cell? ⟨b,o+i*3+1,none⟩=some (slice tx tn tc)/\w'.cell? ⟨b,o+i*3+2,none⟩=some (slice ty tm td)/\w'.cell? ⟨b',o'+i*3,none⟩=some (.bool ss)/\w'.cell? ⟨b',o'+i*3+1,none⟩=some (slice sx sn sc)/\w'.cell? ⟨b',o'+i*3+2,none⟩=some (slice sy sm sd))
    (refine⟨?_,?_,?_,?_,?_,?_⟩ <;> repeat(with_reducible first|assumption|refine kCd ?_|refine kCb (by assumption) ?_))
    ((go_at_call 18;with_reducible refine(CS.out _ (by repeat(with_reducible first|assumption|exact Below.refl _ _|refine zjQ ?_|refine Below.drew ?_))).mono ?_;rintro e w5 ⟨rfl,hb5⟩))
   all_goals
    (have HW5:Hid (Bl w w5):=zi (HW.out.trans (Below.mono (show Bl wr w5 by repeat(with_reducible first|assumption|exact Below.refl _ _|refine zjQ ?_|refine Below.drew ?_|refine kBb (by assumption) ?_)) HW.out.size))
     clear x0 x1 x2 p0 p1 p2 CS hb5;go_wp2;go_roundw
     case rel=>exact⟨i+1,by omega,by go_num,(by first|exact HW5.out|exact HW5.out.drew|exact zD HW5.out _)⟩
     case measure=>simp[intOf];omega)
  ·have i2:¬(((i:Nat):Int)<((k:Nat):Int)):=by omega
   go_wp2;go_ret;exact⟨rfl,HW.out⟩
theorem zma:zcc fiC []=true:=by decide +kernel
theorem fi_v1:zhm 0 0 0 fiC [] [((-1:Int):Rat)] [((0:Int):Rat)]=true:=by decide +kernel
theorem fi_v2:zhm 0 0 0 fiC [] [((1:Int):Rat)] [((0:Int):Rat)]=false:=by decide +kernel
theorem fi_rec:zca 0 0 fiC [] [((5:Int):Rat)]=true:=by decide +kernel
theorem fi_al:zas [((1:Int):Rat)] [((2:Int):Rat)] ((3:Int):Rat)=[((7:Int):Rat)]:=by decide +kernel
theorem zke (w:World):Calls prog 4 #[] w λe w'=>e=returned (.bool true)/\Bl w w':=by
 have HB:=zi (Below.refl w.heap.size w);go_enter func4,ntmps4;go_wp2_with fail
 refine first13_c.mono ?_;rintro e v2 ⟨⟨⟨sm,xm,nm,cm,fm,ym,mm,dm,gm⟩,cam,ckm,ccm,Cm,ram,rkm,rcm,Rm⟩,rfl,hb,HM⟩;replace HB:=zM HB hb;clear hb;go_wp2_with fail
 refine(zbN (z:=0) (by decide) (by decide)).mono ?_;rintro e v3 ⟨ax,rfl,hb,Hax⟩;replace HB:=zM HB hb;replace HM:=zi (HM.out.q_ hb)
 clear hb;go_wp2_with fail
 refine(zbN (z:=-1) (by decide) (by decide)).mono ?_;rintro e v4 ⟨ad,rfl,hb,Had⟩;replace HB:=zM HB hb;replace HM:=zi (HM.out.q_ hb);replace Hax:=zi (Hax.out.q_ hb)
 clear hb;go_wp2_with fail
 refine(zgx (L:=8) HM.out zma (Had.out.mono (by decide)) rfl rfl (Hax.out.mono (by decide)) rfl rfl (by decide)).mono ?_;rintro e v1 ⟨rfl,hb⟩;rw[fi_v1];replace HB:=zM HB hb;clear hb HM Hax Had;go_wp2_with fail
 refine first13_c.mono ?_;rintro e v6 ⟨⟨⟨sm,xm,nm,cm,fm,ym,mm,dm,gm⟩,cam,ckm,ccm,Cm,ram,rkm,rcm,Rm⟩,rfl,hb,HM⟩;replace HB:=zM HB hb;clear hb;go_wp2_with fail
 refine(zbN (z:=0) (by decide) (by decide)).mono ?_;rintro e v7 ⟨ax,rfl,hb,Hax⟩;replace HB:=zM HB hb;replace HM:=zi (HM.out.q_ hb)
 clear hb;go_wp2_with fail
 refine(zbN (z:=1) (by decide) (by decide)).mono ?_;rintro e v8 ⟨ad,rfl,hb,Had⟩;replace HB:=zM HB hb;replace HM:=zi (HM.out.q_ hb);replace Hax:=zi (Hax.out.q_ hb)
 clear hb;go_wp2_with fail
 refine(zgx (L:=8) HM.out zma (Had.out.mono (by decide)) rfl rfl (Hax.out.mono (by decide)) rfl rfl (by decide)).mono ?_;rintro e v5 ⟨rfl,hb⟩;rw[fi_v2];replace HB:=zM HB hb;clear hb HM Hax Had;go_wp2_with fail
 refine(zbN (z:=1) (by decide) (by decide)).mono ?_;rintro e v9 ⟨ax,rfl,hb,Hax⟩;replace HB:=zM HB hb;clear hb;go_wp2_with fail
 refine(zbN (z:=2) (by decide) (by decide)).mono ?_;rintro e v10 ⟨ad,rfl,hb,Had⟩;replace HB:=zM HB hb;replace Hax:=zi (Hax.out.q_ hb)
 clear hb;go_wp2_with fail
 refine(zba (z:=3) (by decide) (by decide)).mono ?_;rintro e w1 ⟨s1,x1,n1,c1,f1,y1,m1,d1,g1,rfl,hb,hr⟩;replace HB:=zM HB hb;replace Hax:=zi (Hax.out.q_ hb);replace Had:=zi (Had.out.q_ hb)
 have HR:=zi hr;clear hb hr;go_wp2_with fail
 refine(zlj (L:=4) Hax.out rfl Had.out rfl rfl HR.out (by decide) (by decide)).mono ?_;rintro e w2 ⟨aa,ac,rfl,hb,hac,HA⟩;rw[fi_al]at HA
 replace HB:=zM HB hb;have HAC:=zi hac;clear hb hac Hax Had HR;go_wp2_with fail
 refine first13_c.mono ?_;rintro e v11 ⟨⟨⟨sm,xm,nm,cm,fm,ym,mm,dm,gm⟩,cam,ckm,ccm,Cm,ram,rkm,rcm,Rm⟩,rfl,hb,HM⟩;replace HB:=zM HB hb;replace HA:=zi (HA.out.q_ hb)
 clear hb;go_wp2_with fail
 refine(zbN (z:=5) (by decide) (by decide)).mono ?_;rintro e v12 ⟨ad,rfl,hb,Had⟩;replace HB:=zM HB hb;replace HM:=zi (HM.out.q_ hb);replace HA:=zi (HA.out.q_ hb)
 clear hb;go_wp2_with fail
 refine(zpa (L:=8) HM.out zma (Had.out.mono (by decide)) rfl rfl (by decide)).mono ?_;rintro e w3 ⟨rfl,hb⟩;rw[fi_rec];replace HB:=zM HB hb;replace HA:=zi (HA.out.q_ hb)
 clear hb HM Had;obtain⟨b,o,⟨s,x,n,c,f,y,m,d,g⟩,hb1,⟨p0,p1,p2⟩,hr⟩:=HA.out 0 _ rfl;subst hb1;replace p0:w3.cell? ⟨b,o,none⟩=some (.bool s):=p0;replace p1:w3.cell? ⟨b,o+1,none⟩=some (slice x n c):=p1;replace p2:w3.cell? ⟨b,o+2,none⟩=some (slice y m d):=p2;have HR:Hid (Rn (KL 4) w3 s x n c f y m d g ((7:Int):Rat)):=hr;clear hr HA;go_upto_region 5 with fail
 have CD:=zi (λW=>zba (w:=W) (z:=7) (by decide) (by decide));unfold zbq at CD;have CS:Hid (∀W s2 x2 n2 c2 f2 y2 m2 d2 g2,Bl w3 W->Rn 4 W s2 x2 n2 c2 f2 y2 m2 d2 g2 ((7:Int):Rat)->Calls prog 18 #[agg #[.bool s,slice x n c,slice y m d],agg #[.bool s2,slice x2 n2 c2,slice y2 m2 d2]] W λe w'=>e=returned (.bool true)/\Bl W w'):=λW s2 x2 n2 c2 f2 y2 m2 d2 g2 hW h2=>zda (HR.out.q_ hW) h2 (by decide) (by decide)
 go_region_held3 (λw'=>w'.cell? ⟨b,o,none⟩=some (.bool s)/\w'.cell? ⟨b,o+1,none⟩=some (slice x n c)/\w'.cell? ⟨b,o+2,none⟩=some (slice y m d))
  (refine⟨?_,?_,?_⟩ <;> repeat(with_reducible first|assumption|refine kCd ?_|refine kCb (by assumption) ?_))
  (first
   | (go_at_call 15;with_reducible refine(CD.out _).mono ?_;rintro e w4 ⟨s2,x2,n2,c2,f2,y2,m2,d2,g2,rfl,hb4,H4⟩;replace H4:=zi H4)
   | (go_at_call 18;with_reducible refine(CS.out _ s2 x2 n2 c2 f2 y2 m2 d2 g2 zV H4.out).mono ?_;rintro e w5 ⟨rfl,hb5⟩))
 have HB5:=zi (HB.out.trans ((show Bl w3 w5 from zV).mono HB.out.size));clear hb4 hb5 H4 p0 p1 p2 CD CS HR;go_wp2;go_ret;exact⟨rfl,HB5.out⟩
def FN (K:Nat) (q:Rat) (v:Value) (w:World):Prop:=∃t':Nm,v=t'.val/\QnT K w t' q
theorem FN.q_ {K t v w w'} (h:FN K t v w) (hb:Bl w w'):FN K t v w':=by obtain⟨t',h1,h2⟩:=h;exact⟨t',h1,h2.q_ hb⟩
theorem NmS.val {w t K} (h:NmS w t) (hf:nfB t=true) (hk:t.n<=K/\t.m<=K):NmV K w t (nq t):=by
 obtain⟨q,hq⟩:=Nm.rn h hf hk.1 hk.2;rw[hq.nq];exact hq
def zgQ (c:Lc):CV:=⟨c.nm,nq c.cost,c.lo.i,nq c.lo.v,c.hi.i,nq c.hi.v⟩
def zej (r:Lr):RV:=⟨r.nm,r.lo.i,nq r.lo.v,r.hi.i,nq r.hi.v,(List.range r.tk).map (λp=>(r.col p,nq (r.T p)))⟩
theorem zcO {α:Type} {f n j} {v:α} (h:((List.range n).map f)[j]?=some v):j<n/\v=f j:=by
 have hlt:j<n:=by have:=(List.getElem?_eq_some_iff.1 h).1;simpa using this
 simp[hlt]at h
 exact⟨hlt,h.symm⟩
theorem zeZ {α:Type} {f:Nat->α} {n j} (h:j<n):((List.range n).map f)[j]?=some (f j):=by simp[h]
theorem zov {w a b K} (ha:NmS w a.v) (hb:NmS w b.v) (ka:a.v.n<=K/\a.v.m<=K) (kb:b.v.n<=K/\b.v.m<=K) (h:abB a b=true):NmV K w a.v (nq a.v)/\NmV K w b.v (nq b.v)/\bdB a.i (nq a.v) b.i (nq b.v)=true:=by
 obtain⟨f1,f2,h1,h2⟩:=zpv h;simp only[exF,efB,Bool.and_eq_true,Bool.or_eq_true,decide_eq_true_eq]at f1 f2;have v1:NmV K w a.v (nq a.v):=ha.val f1.1 ka;have v2:NmV K w b.v (nq b.v):=hb.val f2.1 kb;refine⟨v1,v2,?_⟩;simp only[bdB,Bool.and_eq_true,Bool.or_eq_true,decide_eq_true_eq];constructor
 ·rcases f1.2 with h|⟨h|h,h3⟩
  ·exact .inl h
  ·exact .inr ⟨h,(Rn.q_zero v1).2 h3⟩
  ·exact absurd h h1
 ·rcases f2.2 with h|⟨h|h,h3⟩
  ·exact .inl h
  ·exact absurd h h2
  ·exact .inr ⟨h,(Rn.q_zero v2).2 h3⟩
theorem zol {w col T} {n K:Nat}:∀{r i:Nat} {last:Int},tfr col T r i last=true->(∀p,i<=p->p<i+r->col p<(n:Int))->(∀p,i<=p->p<i+r->NmV K w (T p) (nq (T p)))->tsB n last ((List.range' i r).map (λp=>(col p,nq (T p))))=true
 | 0,i,last,_,_,_=>rfl
 | r+1,i,last,h,hc,hv=>by
  simp only[tfr,Bool.and_eq_true,decide_eq_true_eq]at h;rw[List.range'_succ,List.map_cons];simp only[tsB,Bool.and_eq_true,decide_eq_true_eq];refine⟨h.1,hc i (by omega) (by omega),λe=>?_,zol h.2.2.2 (λp a b=>hc p (by omega) (by omega)) (λp a b=>hv p (by omega) (by omega))⟩;have:=(Rn.q_zero (hv i (by omega) (by omega))).1 e;omega
def zcV (M:Mo):List CV:=(List.range M.ck).map (λj=>zgQ (M.C j))
def zel (M:Mo):List RV:=(List.range M.rk).map (λj=>zej (M.R j))
theorem MoR.movC {w M K} (h:MoR w M) (hk:MoK K M) (he:zaH M=0):MoV K w M (nq M.off) (zcV M) (zel M)/\zcc (zcV M) (zel M)=true:=by
 obtain⟨l1,l2,hF,n1,n2,t1,t2,hAl⟩:=zjf he;simp only[moF,Bool.and_eq_true]at hF;obtain⟨hF0,hFC,hFR⟩:=hF;have hcol:∀j,j<M.ck->ColV K w (M.C j) (zgQ (M.C j))/\bdB (zgQ (M.C j)).li (zgQ (M.C j)).lq (zgQ (M.C j)).hi (zgQ (M.C j)).hq=true:=λj hj=>by
  obtain⟨_,_,_,_,hn⟩:=h.cls j hj;obtain⟨f1,f2⟩:=zjd hFC j (by omega) (by omega);have k:=hk.c j hj;obtain⟨v1,v2,hb⟩:=zov hn.lo hn.hi k.2.1 k.2.2 f2;exact⟨⟨rfl,hn.cost.val f1 k.1,rfl,v1,rfl,v2⟩,hb⟩
 have hrow:∀j,j<M.rk->RowV K w (M.R j) (zej (M.R j))/\bdB (zej (M.R j)).li (zej (M.R j)).lq (zej (M.R j)).hi (zej (M.R j)).hq=true/\tsB M.ck (-1) (zej (M.R j)).ts=true:=λj hj=>by
  obtain⟨_,_,_,_,hn⟩:=h.rls j hj;obtain⟨f1,f2⟩:=zit hFR j (by omega) (by omega);have k:=hk.r j hj;obtain⟨v1,v2,hb⟩:=zov hn.lo hn.hi k.1 k.2.1 f1;have hall:=(znd f2).1;have hv:∀p,p<(M.R j).tk->NmV K w ((M.R j).T p) (nq ((M.R j).T p)):=λp hp=>by
   obtain⟨_,_,_,_,hr⟩:=hn.tl p hp;exact NmS.val hr (hall p (by omega) (by omega)).2.1 (k.2.2.2 p hp)
  refine⟨⟨rfl,rfl,v1,rfl,v2,by simp[zej],λp z q e=>?_⟩,hb,?_⟩
  ·obtain⟨hp,e'⟩:=zcO e;obtain⟨b,o,ea,c4,_⟩:=hn.tl p hp;cases e'
   exact⟨rfl,hv p hp,b,o,ea,c4⟩
  ·show tsB M.ck (-1) ((List.range (M.R j).tk).map _)=true;rw[List.range_eq_range'];exact zol f2 (λp _ hp=>(znU f2 (zmv hAl j (by omega) (by omega)) p (by omega)).2) (λp _ hp=>hv p (by omega))
 unfold zcV zel;refine⟨⟨h.off.val hF0 hk.off,by simp,by simp,λj v e=>?_,λj v e=>?_⟩,?_⟩
 ·obtain⟨hj,rfl⟩:=zcO e;obtain⟨b,o,ea,hc,_⟩:=h.cls j hj;exact⟨⟨b,o,ea,hc⟩,(hcol j hj).1⟩
 ·obtain⟨hj,rfl⟩:=zcO e;obtain⟨b,o,ea,hc,_⟩:=h.rls j hj;exact⟨⟨b,o,ea,hc⟩,(hrow j hj).1⟩
 ·have ec:∀j,j<M.ck->nmC ((List.range M.ck).map (λj=>zgQ (M.C j))) j=(M.C j).nm:=λj hj=>by unfold nmC;rw[zeZ hj];rfl
  have er:∀j,j<M.rk->nmR ((List.range M.rk).map (λj=>zej (M.R j))) j=(M.R j).nm:=λj hj=>by unfold nmR;rw[zeZ hj];rfl
  simp only[zcc,Bool.and_eq_true,decide_eq_true_eq,List.all_eq_true,List.length_map,List.length_range,Bool.not_eq_true'];refine⟨l1,l2,λv hv=>?_,λv hv=>?_,?_,?_,?_,?_⟩
  ·obtain⟨j,hj,rfl⟩:=List.mem_map.1 hv;exact(hcol j (List.mem_range.1 hj)).2
  ·obtain⟨j,hj,rfl⟩:=List.mem_map.1 hv;have:=hrow j (List.mem_range.1 hj);refine⟨this.2.1,this.2.2,?_⟩;have h3:=(hk.r j (List.mem_range.1 hj)).2.2.1;simp[zej];omega
  ·rw[zaW (S':=λj=>(M.C j).nm) (λj _ hj=>ec j (by omega))];exact n1
  ·rw[zaW (S':=λj=>(M.R j).nm) (λj _ hj=>er j (by omega))];exact n2
  ·rw[zaV (S':=λj=>(M.C j).nm) (λj hj=>ec j (by omega))];exact t1
  ·rw[zaV (S':=λj=>(M.R j).nm) (λj hj=>er j (by omega))];exact t2
theorem FnT.of {K w} {e:Ex} {i q} (h:QnT K w e.v q) (hi:e.i=i) (hb:i=0∨(i=-1∨i=1)/\q=0):Fn w e.i e.v.s e.v.x e.v.n e.v.f e.v.y e.v.m e.v.g q:=⟨h.2.2,by rw[hi];exact hb⟩
theorem zoP {w M K} (hX:MoX w M) (hN:MoN M) (hk:M.ck<=64->M.rk<=64->MoK K M) (hK:K<=65536):Calls prog 8 #[M.val] w λe w'=>∃M':Mo,e=returned M'.val/\Bl w w'/\Sm M M'/\MoW w' M'/\MoX w' M'/\(M'.ck<=64->M'.rk<=64->MoK K M') :=
 (znD hX).mono λe w' ⟨M',h1,h2,h3,h4⟩=>⟨M',h1,h2,h3,λa b=>h4.mor (h3.mon hN) (h3.mok (hk (by rw[<-h3.ck];exact a) (by rw[<-h3.rk];exact b))) hK a b,h4,λa b=>h3.mok (hk (by rw[<-h3.ck];exact a) (by rw[<-h3.rk];exact b))⟩
theorem zqd {K M} (h:lgM K M=true):M.ck<=64->M.rk<=64->MoK K M:=λa b=>zpp h a b
theorem MoX.both {w M K} (h:MoX w M) (hn:MoN M) (hk:M.ck<=64->M.rk<=64->MoK K M) (hK:K<=1000):M.ck<=64->M.rk<=64->MoR w M/\MoS M:=λa b=>⟨h.mor hn (hk a b) (le_trans hK (by decide)) a b,(hk a b).mos hK⟩
theorem El.q_ {w w' ao k E} (h:El w ao k E) (hb:Bl w w'):El w' ao k E:=λj hj=>by
 obtain⟨b,o,e,h1⟩:=h j hj;exact⟨b,o,e,kCb hb h1⟩
theorem Sn.trans {a b c} (h:Sn a b) (k:Sn b c):Sn a c:=by
 obtain⟨h1,h2,h3,h4,h5⟩:=h;obtain⟨k1,k2,k3,k4,k5⟩:=k;exact⟨k1.trans h1,k2.trans h2,k3.trans h3,k4.trans h4,k5.trans h5⟩
theorem Sn.nq {t t':Nm} (h:Sn t t'):nq t'=nq t:=by
 obtain⟨h1,h2,h3,h4,h5⟩:=h;unfold Go.Proofs.YtgmmlmmahdnnhaaGreat.nq;rw[h1,h2,h3,h4,h5]
theorem Sm.csOf {M M':Mo} (h:Sm M M'):zcV M'=zcV M:=by
 unfold Go.Proofs.YtgmmlmmahdnnhaaGreat.zcV;rw[h.ck];refine List.map_congr_left (λj hj=>?_);have p:=h.C j (List.mem_range.1 hj);unfold zgQ;rw[p.nm,p.cost.nq,p.li,p.lo.nq,p.hi,p.hv.nq]
theorem Sm.rsOf {M M':Mo} (h:Sm M M'):zel M'=zel M:=by
 unfold Go.Proofs.YtgmmlmmahdnnhaaGreat.zel;rw[h.rk];refine List.map_congr_left (λj hj=>?_);have p:=h.R j (List.mem_range.1 hj);unfold zej;rw[p.nm,p.li,p.lo.nq,p.hi,p.hv.nq,p.tk,p.col]
 congr 1
 exact List.map_congr_left (λq hq=>by rw[(p.T q (List.mem_range.1 hq)).nq])
def zbW (k:Nat) (X:Nat->Nm):List Rat:=(List.range k).map (λj=>nq (X j))
theorem zaY (k:Nat) (X:Nat->Nm):(zbW k X).length=k:=by simp[zbW]
theorem ziF {k X X'} (h:∀j,j<k->Sn (X j) (X' j)):zbW k X'=zbW k X:=List.map_congr_left (λj hj=>(h j (List.mem_range.1 hj)).nq)
theorem Rl.rfC {w ao k K X} (h:Rl w ao k X) (hf:afB k X=true) (hk:∀j,j<k->(X j).n<=K/\(X j).m<=K):Rf K w ao (zbW k X):=λj q e=>by
 obtain⟨hj,rfl⟩:=zcO e;obtain⟨b,o,h1,h2,h3⟩:=h j hj;exact⟨b,o,X j,h1,h2,NmS.val h3 (zob hf j (by omega) (by omega)) (hk j hj)⟩
theorem zms {xs ds t} (j:Nat):(zas xs ds t)[j]?=(xs[j]?.bind λx=>ds[j]?.map λd=>0+x+t*d):=by
 unfold zas;rw[List.getElem?_zipWith];cases xs[j]? <;> cases ds[j]? <;> rfl
theorem zeF {xs ds t} (h:xs.length=ds.length):(zas xs ds t).length=xs.length:=by unfold zas;rw[List.length_zipWith,h,Nat.min_self]
def lgL (K k:Nat) (X:Nat->Nm):Bool:=decide (k<=300) && nlg K X k 0
theorem zjO {w ax kx capx Y ao k cap X} (K:Nat) (hy:Rr w ax kx Y) (hx:Rr w ao k X) (hkx:kx<=9223372036854775807) (hk:k<=9223372036854775807) :
  Calls prog 6 #[agg #[slice ax kx capx,slice ao k cap],.int .i64 K] w λe w'=>e=returned (.bool (lgL K kx Y && lgL K k X))/\Bl w w':=by
 have C1:Hid (∀W,Bl w W->Calls prog 22 #[slice ax kx capx,.int .i64 K] W λe w'=>e=returned (.bool (lgL K kx Y))/\Bl W w'):=λW hW=>zfa K (hy.q_ hW) hkx
 have C2:Hid (∀W,Bl w W->Calls prog 22 #[slice ao k cap,.int .i64 K] W λe w'=>e=returned (.bool (lgL K k X))/\Bl W w'):=λW hW=>zfa K (hx.q_ hW) hk
 obtain⟨p,hp⟩:∃p,lgL K kx Y=p:=⟨_,rfl⟩;obtain⟨q,hq⟩:∃q,lgL K k X=q:=⟨_,rfl⟩;rw[hp]at C1 ⊢
 rw[hq]at C2 ⊢
 clear hp hq hx hy;have BY:=zi (zI w [slice ax kx capx,slice ao k cap] 31);have HB:=zi (zE w (cells #[slice ax kx capx,slice ao k cap] 31));go_enter func6,ntmps6;have t0:=BY.out.cell (j:=0) rfl;go_wp2_with fail
 clear t0;generalize w.alloc (cells #[slice ax kx capx,slice ao k cap] 31)=w0 at *;refine(C1.out _ HB.out).mono ?_;rintro e w1 ⟨rfl,hb⟩;replace HB:=zM HB hb;replace BY:=zi (BY.out.q_ hb)
 clear hb;cases p
 ·go_wp2;go_ret;exact⟨rfl,HB.out⟩
 have t1:=BY.out.cell (j:=1) rfl;go_wp2_with fail
 clear t1;refine(C2.out _ HB.out).mono ?_;rintro e w2 ⟨rfl,hb⟩;replace HB:=zM HB hb;clear hb;go_wp2;go_ret;exact⟨rfl,HB.out⟩
def zqs (w w':World) (e:Ending) (kx:Nat) (Y:Nat->Nm) (k:Nat) (X:Nat->Nm):Prop:=∃bx cx Y' bo co X',e=returned (agg #[slice bx kx cx,slice bo k co])/\Bl w w'/\((kx<=cx/\cx<=9223372036854775807)/\k<=co/\co<=9223372036854775807)/\Hid (((Rl w' bx kx Y'/\∀j,j<kx->Sn (Y j) (Y' j))/\Rl w' bo k X'/\∀j,j<k->Sn (X j) (X' j))/\(∀b o s,bx=some ⟨b,o,s⟩->w.heap.size<=b)/\∀b o s,bo=some ⟨b,o,s⟩->w.heap.size<=b)
theorem zkC {w ax kx capx Y ao k cap X} (hy:Rl w ax kx Y) (hx:Rl w ao k X) (hkx:kx<=10000) (hk:k<=10000) (ly:∀j,j<kx->(Y j).n<=1000/\(Y j).m<=1000) (lx:∀j,j<k->(X j).n<=1000/\(X j).m<=1000) :
  Calls prog 9 #[agg #[slice ax kx capx,slice ao k cap]] w λe w'=>zqs w w' e kx Y k X:=by
 have C1:=zi (λW (hW:Bl w W)=>(zig (w:=W) (cap:=capx) (hy.q_ hW) hkx ly).mono (λ_ _ h=>h.base hW.size));have C2:=zi (λW (hW:Bl w W)=>(zig (w:=W) (cap:=cap) (hx.q_ hW) hk lx).mono (λ_ _ h=>h.base hW.size));unfold TwsAnsB at C1 C2;clear hx hy;have hb:=zk (zE w (cells #[slice ax kx capx,slice ao k cap] 31)) (cells #[slice none 0 0,slice none 0 0] 31);have BY:=zi ((zI w [slice ax kx capx,slice ao k cap] 31).q_ (zE _ (cells #[slice none 0 0,slice none 0 0] 31)));have BR:=zi (zeB w (cells #[slice ax kx capx,slice ao k cap] 31) [slice none 0 0,slice none 0 0] 31);have HB:=zi hb;clear hb;go_enter func9,ntmps9;go_upto_region 1 with fail
 generalize((w.alloc (cells #[slice ax kx capx,slice ao k cap] 31)).alloc (cells #[slice none 0 0,slice none 0 0] 31))=w0 at *;obtain⟨t0,t1⟩:=bk2 BY.out;have y0:=kI0 (BR.out.cell (j:=0) rfl);have y1:=kI0 (BR.out.cell (j:=1) rfl);have z0:=BR.out.frozen 0;have z1:=BR.out.frozen 1;have C3:=zi (λW (hW:Bl w0 W)=>C1.out W (bUp HB.out hW));have C4:=zi (λW (hW:Bl w0 W)=>C2.out W (bUp HB.out hW));clear C1 C2;go_region_held3 (λw'=>w'.cell? ⟨w.heap.size,0,none⟩=some (slice ax kx capx)/\w'.cell? ⟨w.heap.size,1,none⟩=some (slice ao k cap)/\(w'.cell? ⟨w.heap.size+1,0,none⟩).isSome=true/\(w'.cell? ⟨w.heap.size+1,1,none⟩).isSome=true/\w'.frozen? ⟨w.heap.size+1,0,none⟩=false/\w'.frozen? ⟨w.heap.size+1,1,none⟩=false)
  (refine⟨?_,?_,?_,?_,?_,?_⟩ <;> repeat(with_reducible first|assumption|refine kCd ?_|refine kId ?_|refine kFd ?_|refine kCs (by simp only[ne_eq];omega) ?_|refine kIs ?_|refine kFs ?_|refine kCb (by assumption) ?_|refine kIb (by assumption) ?_|refine zqK (by assumption) ?_ ?_))
  (first
   | (have h9:=H1.out;clear h9;go_at_call 25;with_reducible refine(C4.out _ zV).mono ?_;rintro e w2 ⟨bo,co,X',rfl,hb2,hco,H2⟩;have B2:=zi (BR.out.q_ (show Bl w0 w2 from zV));have p20:=B2.out.cell (j:=0) rfl;have p21:=B2.out.cell (j:=1) rfl;have m20:=kI0 p20;have m21:=kI0 p21;have q20:=B2.out.frozen 0;have q21:=B2.out.frozen 1)
   | (go_at_call 25;with_reducible refine(C3.out _ zV).mono ?_;rintro e w1 ⟨bx,cx,Y',rfl,hb1,hcx,H1⟩;have B1:=zi (BR.out.q_ (show Bl w0 w1 from zV));have p10:=B1.out.cell (j:=0) rfl;have p11:=B1.out.cell (j:=1) rfl;have m10:=kI0 p10;have m11:=kI0 p11;have q10:=B1.out.frozen 0;have q11:=B1.out.frozen 1))
 all_goals
  have hb02:Bl w0 w2:=zV;have hb12:Bl w1 w2:=zV;replace HB:=zM HB hb02;replace BR:=zi (BR.out.q_ hb02)
  obtain⟨hx1,hx2,hx3⟩:=zfC [slice bx kx cx,slice bo k co] BR.out (zW (λu hu q=>by simp at hu;rcases hu with rfl|rfl <;> simp)) HB.out (by omega);have R1:=H1.out.1.1.q_ hb12;have R2:=H2.out.1.1
  obtain⟨l0,l1⟩:=bk2 BR.out;have HX:Hid (zqs w (stl (w.heap.size+1) 0 [slice bx kx cx,slice bo k co] w2) (returned (agg #[slice bx kx cx,slice bo k co])) kx Y k X):=⟨bx,cx,Y',bo,co,X',rfl,hx1,⟨hcx,hco⟩,⟨⟨R1.st hx2 hx3 (zmm BR.out (λv hv=>by simp at hv;cases hv;exact⟨_,_,_,rfl⟩)),H1.out.1.2⟩,R2.st hx2 hx3 (zmm BR.out (λv hv=>by simp at hv;cases hv;exact⟨_,_,_,rfl⟩)),H2.out.1.2⟩,H1.out.2,H2.out.2⟩;clear hx1 hx2 hx3 R1 R2 hb02 hb12;go_wp2;exact bodyPost_ret (v:=agg #[slice bx kx cx,slice bo k co]) (by simp[results,results9,go_sem,l0,l1]) rfl HX.out
theorem MoK.up {K L M} (h:MoK K M) (hL:K<=L):MoK L M:=by
 have e:∀{a b:Nat},a<=K/\b<=K->a<=L/\b<=L:=λp=>⟨le_trans p.1 hL,le_trans p.2 hL⟩
 exact⟨e h.off,λj hj=>⟨e (h.c j hj).1,e (h.c j hj).2.1,e (h.c j hj).2.2⟩,λj hj=>⟨e (h.r j hj).1,e (h.r j hj).2.1,(h.r j hj).2.2.1,λp hp=>e ((h.r j hj).2.2.2 p hp)⟩⟩
theorem Rf.cut {K L w ao p} (h:Rf K w ao p) (hp:∀q,q ∈ p->Lo L q):Rf L w ao p:=λj q hj=>by
 obtain⟨b,o,t,e,h1,h2⟩:=h j q hj;exact⟨b,o,t,e,h1,h2.cut (hp q (List.mem_of_getElem? hj))⟩
theorem zlt {M k X} (h:zbM M k X=0):zaH M=0/\afB k X=true/\k=M.ck:=by
 obtain⟨h1,h2⟩:=zkA h;refine⟨h1,?_⟩;unfold pnE at h2;by_cases a:afB k X=true
 ·rw[if_pos a]at h2
  by_cases b:k=M.ck
  ·exact⟨a,b⟩
  ·rw[if_neg (by omega)]at h2;cases h2
 ·rw[if_neg a]at h2;cases h2
theorem zmg (M:Mo):(zcV M).length=M.ck:=by simp[zcV]
def Tx (w:World) (ao:Option Addr) (k:Nat) (X X':Nat->Nm):Prop:=Rl w ao k X'/\∀j,j<k->Sn (X j) (X' j)
theorem Tx.q_ {w w' ao k X X'} (h:Tx w ao k X X') (hb:Bl w w'):Tx w' ao k X X':=⟨h.1.q_ hb,h.2⟩
def Sh (k:Nat) (X:Nat->Nm):Prop:=k<=300/\∀j,j<k->(X j).n<=6/\(X j).m<=6
theorem Tx.val {w ao k X X'} (h:Tx w ao k X X') (hs:Sh k X) (ha:afB k X=true):Rf 6 w ao (zbW k X):=by
 rw[<-ziF h.2];refine h.1.rfC ?_ (λj hj=>by rw[(h.2 j hj).2.1,(h.2 j hj).2.2.2.1];exact hs.2 j hj);exact(zdm (λj _ b=>h.2 j (by omega))).trans ha
def rcM (M:Mo) (k:Nat) (X:Nat->Nm):Bool:=zca (zaH M) (zbM M k X) (zcV M) (zel M) (zbW k X)
def vlM (M:Mo) (kx:Nat) (Y:Nat->Nm) (k:Nat) (X:Nat->Nm):Bool:=zhm (zaH M) (zbM M k X) (zbM M kx Y) (zcV M) (zel M) (zbW k X) (zbW kx Y)
def ShK (K k:Nat) (X:Nat->Nm):Prop:=k<=300/\∀j,j<k->(X j).n<=K/\(X j).m<=K
theorem ziM {K k X} (h:lgL K k X=true):ShK K k X:=by
 simp only[lgL,Bool.and_eq_true,decide_eq_true_eq]at h;exact⟨h.1,λj hj=>zfO h.2 j (by omega) (by omega)⟩
def TmK (K:Nat) (w:World) (M M':Mo):Prop:=Sm M M'/\MoW w M'/\MoX w M'/\(M'.ck<=64->M'.rk<=64->MoK K M')
theorem TmK.q_ {K w w' M M'} (h:TmK K w M M') (hb:Bl w w'):TmK K w' M M':=⟨h.1,h.2.1.q_ hb,h.2.2.1.q_ hb,h.2.2.2⟩
theorem TmK.valL {K w M M'} (L:Nat) (hL:K<=L) (hK:K<=100) (h:TmK K w M M') (hN:MoN M) (he:zaH M=0):MoV L w M' (nq M.off) (zcV M) (zel M)/\zcc (zcV M) (zel M)=true:=by
 obtain⟨s,hw,hx,hk⟩:=h;have he':zaH M'=0:=s.chk.trans he;obtain⟨l1,l2,_⟩:=zjf he';have k6:=hk l1 l2;have:=(hx.mor (s.mon hN) k6 (by omega) l1 l2).movC (k6.up hL) he';rw[s.csOf,s.rsOf,s.off.nq]at this
 exact this
theorem Tx.valK {K w ao k X X'} (h:Tx w ao k X X') (hs:ShK K k X) (ha:afB k X=true):Rf K w ao (zbW k X):=by
 rw[<-ziF h.2];refine h.1.rfC ?_ (λj hj=>by rw[(h.2 j hj).2.1,(h.2 j hj).2.2.2.1];exact hs.2 j hj);exact(zdm (λj _ b=>h.2 j (by omega))).trans ha
theorem zeo {K w ao k X X' M M'} (h:TmK K w M M') (hx:Tx w ao k X X'):zbM M' k X'=zbM M k X:=by
 unfold zbM;rw[h.1.chk,h.1.ck];unfold pnE;rw[show afB k X'=afB k X from zdm (λj _ b=>hx.2 j (by omega))]
theorem zho {K w ao k X X' M M'} (L:Nat) (hL:K<=L) (hK:K<=100) (h:TmK K w M M') (hN:MoN M) (hx:Tx w ao k X X') (hs:ShK K k X) (he:zbM M k X=0):MoV L w M' (nq M.off) (zcV M) (zel M)/\zcc (zcV M) (zel M)=true/\Rf L w ao (zbW k X)/\(zbW k X).length=k/\k=(zcV M).length:=by
 obtain⟨h1,h2,h3⟩:=zlt he;obtain⟨a,b⟩:=h.valL L hL hK hN h1;exact⟨a,b,(hx.valK hs h2).mono hL,zaY _ _,by rw[zmg];exact h3⟩
theorem zjw {K w M} (hX:MoX w M) (hN:MoN M) (hk:M.ck<=64->M.rk<=64->MoK K M) (hK:K<=100):Calls prog 8 #[M.val] w λe w'=>∃(vm:Value) (M':Mo),e=returned vm/\Bl w w'/\Hid (vm=M'.val/\TmK K w' M M') :=
 (zoP (K:=K) hX hN hk (by omega)).mono λe w' ⟨M',h1,h2,h3,h4,h5,h6⟩=>⟨M'.val,M',h1,h2,zi ⟨rfl,h3,h4,h5,h6⟩⟩
theorem zla {w M M' ao k cap X X'} (h:TmK 8 w M M') (hN:MoN M) (hx:Tx w ao k X X') (hs:ShK 8 k X) :
  Calls prog 12 #[M'.val,slice ao k cap] w λe w'=>e=returned (.tuple #[.bool (rcM M k X),.int .i64 (zaH M)])/\Bl w w' :=
 zhy h.2.1 hx.1 (by have:=hs.1;omega) h.1.chk (zeo h hx) (λhe=>zho 13 (by decide) (by decide) h hN hx hs he) (by decide)
theorem zhl {w M M' ax kx capx Y Y' ao k cap X X'} (h:TmK 8 w M M') (hN:MoN M) (hy:Tx w ax kx Y Y') (hsy:ShK 8 kx Y) (hx:Tx w ao k X X') (hs:ShK 8 k X) :
  Calls prog 11 #[M'.val,agg #[slice ax kx capx,slice ao k cap]] w λe w'=>e=returned (.tuple #[.bool (vlM M kx Y k X),.int .i64 (zaH M)])/\Bl w w' :=
 zgw h.2.1 hx.1 (by have:=hs.1;omega) h.1.chk (zeo h hx) (λhe=>zho 13 (by decide) (by decide) h hN hx hs he) (by decide) hy.1 (by have:=hsy.1;omega) (zeo h hy) (λhe=>zho 13 (by decide) (by decide) h hN hy hsy he)
theorem zmt (t:Nm) (kx:Nat) (Y:Nat->Nm) (k:Nat) (X:Nat->Nm):alE t kx Y k X=if (afB kx Y && (afB k X && nfB t))=true then (if k=kx then 0 else 7) else 3:=by
 have h1:afB 1 (λ_=>t)=nfB t:=by simp[afB,afr]
 unfold alE pnE;rw[h1];have h2:((k:Int)=(kx:Int))=(k=kx):=propext ⟨λh=>by omega,λh=>by omega⟩;simp only[h2];cases afB kx Y <;> cases afB k X <;> cases nfB t <;> by_cases h:k=kx <;> simp[lsf,lstep,tri,h]
def KD (L:Nat):Nat:=40*L+18
theorem zkH {w x n c d V} (h:Dn w x n d V) (hn:n<=1048576) :
  Calls prog 65 #[slice x n c] w λe w'=>∃z k c' f,e=returned (slice z k c')/\Bl w w'/\Hid (k<=n/\Wn w' false z k c' f (V:Int)/\Dw w' w.heap.size z k) :=
 (zik x n c d w hn h.rd h.dg h.fm).mono (λ_ _ ⟨z,k,c',f,h1,h2,h3,_,h4,h5,h6,h7⟩=>⟨z,k,c',f,h1,h3,h4,zlu h2 h5 h6 (h7.trans h.val),zhB h2⟩)
theorem zpT {w r x n c d y m e g A B} (ha:Dn w x n d A) (hb:Dn w y m g B) (hn:n<=200000) (hm:m<=200000) :
  Calls prog 38 #[agg #[.bool r,slice x n c,slice y m e]] w λen w'=>∃z k c' f z2 k2 c2 f2,en=returned (agg #[.bool r,slice z k c',slice z2 k2 c2])/\Bl w w'/\k<=n/\k2<=m/\Wn w' false z k c' f (A:Int)/\Wn w' false z2 k2 c2 f2 (B:Int)/\Dw w' w.heap.size z k/\Dw w' w.heap.size z2 k2:=by
 have h1:=(ha.alloc (cells #[.bool r,slice x n c,slice y m e] 84)).alloc (cells #[.bool false,slice none 0 0,slice none 0 0] 24);have h2:=(hb.alloc (cells #[.bool r,slice x n c,slice y m e] 84)).alloc (cells #[.bool false,slice none 0 0,slice none 0 0] 24);have h3:=zay (w.alloc (cells #[.bool r,slice x n c,slice y m e] 84)) 24;rw[zv]at h3
 have h4:=zk (zE w (cells #[.bool r,slice x n c,slice y m e] 84)) (cells #[.bool false,slice none 0 0,slice none 0 0] 24);have h5:=(zcg w (.bool r) (slice x n c) (slice y m e) 84).alloc (cells #[.bool false,slice none 0 0,slice none 0 0] 24);clear ha hb;go_enter func38,ntmps38;go_wp2_with fail
 generalize(w.alloc (cells #[.bool r,slice x n c,slice y m e] 84)).alloc (cells #[.bool false,slice none 0 0,slice none 0 0] 24)=w1 at *;have HA:=zi h1;have HB:=zi h2;have OB:=h3;have HW:=zi h4
 obtain⟨hz,z0,z1,z2,zf⟩:=h3;obtain⟨hy,x0,x1,x2⟩:=h5;clear h1 h2 h4;have C1:Hid (∀W,Bl w1 W->Calls prog 65 #[slice x n c] W λe w'=>∃z k c' f,e=returned (slice z k c')/\Bl W w'/\Hid (k<=n/\Wn w' false z k c' f (A:Int)/\Dw w' W.heap.size z k)):=λW hW=>zkH (HA.out.q_ hW) (by omega)
 have C2:Hid (∀W,Bl w1 W->Calls prog 65 #[slice y m e] W λe w'=>∃z k c' f,e=returned (slice z k c')/\Bl W w'/\Hid (k<=m/\Wn w' false z k c' f (B:Int)/\Dw w' W.heap.size z k)):=λW hW=>zkH (HB.out.q_ hW) (by omega)
 go_region_held3 (λw'=>w'.cell? ⟨w.heap.size,0,none⟩=some (.bool r)/\w'.cell? ⟨w.heap.size,1,none⟩=some (slice x n c)/\w'.cell? ⟨w.heap.size,2,none⟩=some (slice y m e)/\(w'.cell? ⟨w.heap.size+1,0,none⟩).isSome=true/\(w'.cell? ⟨w.heap.size+1,1,none⟩).isSome=true/\(w'.cell? ⟨w.heap.size+1,2,none⟩).isSome=true/\w'.frozen? ⟨w.heap.size+1,0,none⟩=false/\w'.frozen? ⟨w.heap.size+1,1,none⟩=false/\w'.frozen? ⟨w.heap.size+1,2,none⟩=false)
  (refine⟨?_,?_,?_,?_,?_,?_,?_,?_,?_⟩ <;> repeat(with_reducible first|assumption|exact zf _|exact kI0 z0|exact kI0 z1|exact kI0 z2|exact tf _|exact kI0 t0|exact kI0 t1|exact kI0 t2|exact uf _|exact kI0 u0|exact kI0 u1|exact kI0 u2|refine kCd ?_|refine kId ?_|refine kFd ?_|refine kCs (by simp only[ne_eq];omega) ?_|refine kIs ?_|refine kFs ?_|refine kCb (by assumption) ?_|refine kIb (by assumption) ?_))
  (first
   | (go_at_call 65;with_reducible refine(C1.out _ zV).mono ?_;rintro e w5 ⟨za,ka,ca,fa,rfl,hb5,HP⟩;have TU:Ob w5 (w.heap.size+1):=(by repeat(with_reducible first|exact OB|exact hO2|exact TU|exact TV|exact TW|exact TX|exact TY|refine Ob.drew ?_|refine kOb (by assumption) ?_));obtain⟨_,t0,t1,t2,tf⟩:=id TU)
   | (go_at_call 65;with_reducible refine(C2.out _ zV).mono ?_;rintro e w6 ⟨zb,kb,cb,fb,rfl,hb6,HQ⟩;have TV:Ob w6 (w.heap.size+1):=(by repeat(with_reducible first|exact OB|exact hO2|exact TU|exact TV|exact TW|exact TX|exact TY|refine Ob.drew ?_|refine kOb (by assumption) ?_));obtain⟨_,u0,u1,u2,uf⟩:=id TV))
 have WA:Wn w6 false za ka ca fa (A:Int):=HP.out.2.1.q_ hb6;have hb:Bl w1 w6:=zV;have SX:Sx w6 (w.heap.size+1) false none 0 0 none 0 0:=⟨TV.z,TV.z0,TV.z1,TV.z2,TV.zf⟩;have HD:Hid (Dw2 w6 w.heap.size ⟨r,za,ka,ca,fa,zb,kb,cb,fb⟩):=⟨HQ.out.2.2.base (bUp HW.out zV).size,(HP.out.2.2.q_ hb6).base (bUp HW.out zV).size⟩;go_wp2;exact bodyPost_ret (v:=agg #[.bool r,slice za ka ca,slice zb kb cb]) (by simp[results,results38,go_sem,u0,u1,u2]) rfl ⟨za,ka,ca,fa,zb,kb,cb,fb,rfl,zZ (bUp HW.out hb) (by omega),HP.out.1,HQ.out.1,TV.wn WA,TV.wn HQ.out.2.1,(HD.out.st3 SX).2,(HD.out.st3 SX).1⟩
theorem zpe {w s x n c d y m e g q} (h:Qn w s x n d y m g q) (hn:n<=200000) (hm:m<=200000) :
  Calls prog 38 #[agg #[.bool s,slice x n c,slice y m e]] w λen w'=>zjm (n+m) w w' en q:=by
 refine(zpT h.num.dn h.den hn hm).mono ?_;rintro en w' ⟨z,k,c',f,z2,k2,c2,f2,rfl,h2,h3,h4,h5,h6,h7,h8⟩;refine⟨s,z,k,c',f,z2,k2,c2,f2,rfl,h2,⟨⟨h5.rd,h5.lm,(wfB_iff _ _ _).2 ⟨fm_of_wfB h5.wf,λhs=>?_⟩,h5.cap,h5.nil,?_⟩,h6,by omega,by omega⟩,h8,h7⟩
 ·have h0:=h.num.dn.pos' (h.num.pos hs);rcases Nat.eq_zero_or_pos k with hk|hk
  ·subst hk;have hv:=h5.val;rw[zT]at hv
   have:(0:Int)=q.num.natAbs:=hv;omega
  ·exact hk
 ·have hv:=h5.val;rw[zT]at hv
  have hs:=h.num.sgn;cases s
  ·rw[zT,hv];exact hs.symm
  ·rw[zae,hv];exact hs.symm
def NVO (K base:Nat) (q:Rat) (v:Value) (w:World):Prop:=∃t:Nm,v=t.val/\NmV K w t q/\Dw2 w base t
theorem NVO.q_ {K base q v w w'} (h:NVO K base q v w) (hb:Bl w w'):NVO K base q v w':=by obtain⟨t,h1,h2,h3⟩:=h;exact⟨t,h1,Rn.q_ h2 hb,h3.q_ hb⟩
def zpA (L:Nat) (w w':World) (e:Ending) (er:Int) (kx:Nat) (xs ds:List Rat) (t:Rat):Prop:=Bl w w' /\
 ((er≠0/\e=returned (.tuple #[slice none 0 0,.int .i64 er]))∨(er=0/\∃a c,e=returned (.tuple #[slice a kx c,.int .i64 0])/\(kx<=c/\c<=9223372036854775807)/\GrO (KD L) w.heap.size w' (slice a kx c) (zas xs ds t)))
theorem zhO {w L ax kx capx Y ao k cap X ts tx tn tc tf ty tm td tg xs ds tq er} (hy:Rl w ax kx Y) (hx:Rl w ao k X) (ht:NmS w ⟨ts,tx,tn,tc,tf,ty,tm,td,tg⟩) (hkx:kx<=10000) (hk:k<=10000) (ly:∀j,j<kx->(Y j).n<=1000/\(Y j).m<=1000) (lx:∀j,j<k->(X j).n<=1000/\(X j).m<=1000) (lt:tn<=1000/\tm<=1000) (he:alE ⟨ts,tx,tn,tc,tf,ty,tm,td,tg⟩ kx Y k X=er) (hv:er=0->Rf L w ax xs/\xs.length=kx/\Rf L w ao ds/\ds.length=k/\k=kx/\Rn L w ts tx tn tc tf ty tm td tg tq) (hL:L<=60) :
  Calls prog 14 #[agg #[slice ax kx capx,slice ao k cap],agg #[.bool ts,slice tx tn tc,slice ty tm td]] w λe w'=>zpA L w w' e er kx xs ds tq:=by
 have C1:=zi (λW (hW:Bl w W)=>ziR (w:=W) (cap:=capx) (hy.q_ hW) hkx ly);have C2:=zi (λW (hW:Bl w W)=>ziR (w:=W) (cap:=cap) (hx.q_ hW) hk lx);have C3:=zi (λW (hW:Bl w W)=>ziC (w:=W) (s:=ts) (ht.1.q_ hW) lt.1 lt.2);rw[zmt]at he
 replace he:(if (afB kx Y && (afB k X && rfB ts tf tn tg tm))=true then (if k=kx then (0:Int) else 7) else 3)=er:=he;obtain⟨b1,hb1⟩:∃t,afB kx Y=t:=⟨_,rfl⟩;obtain⟨b2,hb2⟩:∃t,afB k X=t:=⟨_,rfl⟩;obtain⟨b3,hb3⟩:∃t,rfB ts tf tn tg tm=t:=⟨_,rfl⟩;rw[hb1]at C1 he
 rw[hb2]at C2 he
 rw[show rfB ts tf tn tg tm=b3 from hb3]at C3 he
 clear hb1 hb2 hb3;have HE:=zi he;have HV:=zi hv
 clear he hv hx hy ht lx ly lt;have hb:=zk (zE w (cells #[slice ax kx capx,slice ao k cap] 31)) (cells #[.bool ts,slice tx tn tc,slice ty tm td] 24);have BY:=zi ((zI w [slice ax kx capx,slice ao k cap] 31).q_ (zE _ (cells #[.bool ts,slice tx tn tc,slice ty tm td] 24)));have BT:=zi (zeB w (cells #[slice ax kx capx,slice ao k cap] 31) [.bool ts,slice tx tn tc,slice ty tm td] 24);have HB:=zi hb;clear hb;go_enter func14,ntmps14;have t0:=BY.out.cell (j:=0) rfl;go_wp2_with fail
 clear t0;generalize((w.alloc (cells #[slice ax kx capx,slice ao k cap] 31)).alloc (cells #[.bool ts,slice tx tn tc,slice ty tm td] 24))=w0 at *;refine(C1.out _ HB.out).mono ?_;rintro e w1 ⟨rfl,hb⟩;replace HB:=zM HB hb;replace BY:=zi (BY.out.q_ hb);replace BT:=zi (BT.out.q_ hb)
 clear hb;cases b1
 ·go_wp2
  go_ret2
  exact⟨HB.out,.inl ⟨by rw[<-HE.out];simp,by rw[<-HE.out];simp⟩⟩
 have t1:=BY.out.cell (j:=1) rfl;go_wp2_with fail
 clear t1;refine(C2.out _ HB.out).mono ?_;rintro e w2 ⟨rfl,hb⟩;replace HB:=zM HB hb;replace BY:=zi (BY.out.q_ hb);replace BT:=zi (BT.out.q_ hb)
 clear hb;cases b2
 ·go_wp2
  go_ret2
  exact⟨HB.out,.inl ⟨by rw[<-HE.out];simp,by rw[<-HE.out];simp⟩⟩
 obtain⟨r0,r1,r2⟩:=bk3 BT.out;go_wp2_with fail
 clear r0 r1 r2;refine(C3.out _ HB.out).mono ?_;rintro e w3 ⟨rfl,hb⟩;replace HB:=zM HB hb;replace BY:=zi (BY.out.q_ hb);replace BT:=zi (BT.out.q_ hb)
 clear hb;cases b3
 ·go_wp2
  go_ret2
  exact⟨HB.out,.inl ⟨by rw[<-HE.out];simp,by rw[<-HE.out];simp⟩⟩
 obtain⟨y0,y1⟩:=bk2 BY.out;by_cases hkk:k=kx
 case neg =>
  have hne:¬(((kx:Nat):Int)=((k:Nat):Int)):=by omega
  have h7:er=7:=by rw[<-HE.out];simp[hkk]
  clear HE;go_wp2
  go_ret2
  exact⟨HB.out,.inl ⟨by omega,by rw[h7];rfl⟩⟩
 subst hkk;have h0:er=0:=by rw[<-HE.out];simp
 obtain⟨v1,v2,v3,v4,_,v5⟩:=HV.out h0;subst h0;have X1:=zi (v1.q_ HB.out);have X2:=zi (v3.q_ HB.out);have X3:=zi (v5.q_ HB.out);have HB0:=zi HB.out;have BY0:=zi BY.out;have BT0:=zi BT.out
 clear v1 v3 v5 HV HE C1 C2 C3;go_wp2_with fail
 clear y0 y1;have hsw:=HB0.out.size;have hlw:=BT0.out.lt;go_loopw[6,33] (λov t wr=>∃(i:Nat),i<=k/\t=.int .i64 i/\Hid (Bl w3 wr)/\Hid (GrO (KD L) w3.heap.size wr ov ((zas xs ds tq).take i))) (λ_ t _=>k-(intOf t).toNat)
 case atStart=>exact⟨0,by omega,rfl,Below.refl _ _,zdW _ _ _⟩
 case round =>
  obtain⟨i,hi,rfl,HBr,HG⟩:=hrel;by_cases hlt:i<k
  ·obtain⟨x,hx⟩:∃t,xs[i]?=some t:=⟨_,getElem?_eq_getElem (by omega)⟩;obtain⟨dd,hd⟩:∃t,ds[i]?=some t:=⟨_,getElem?_eq_getElem (by omega)⟩;obtain⟨b1,o1,⟨su,xu,nu,cu,fu,yu,mu,du,gu⟩,hax,⟨p0,p1,p2⟩,hr1⟩:=X1.out i x hx;obtain⟨b2,o2,⟨sv,xv,nv,cv,fv,yv,mv,dv,gv⟩,hao,⟨q0,q1,q2⟩,hr2⟩:=X2.out i dd hd;subst hax;subst hao;replace p0:w3.cell? ⟨b1,o1+i*3,none⟩=some (.bool su):=p0;replace p1:w3.cell? ⟨b1,o1+i*3+1,none⟩=some (slice xu nu cu):=p1;replace p2:w3.cell? ⟨b1,o1+i*3+2,none⟩=some (slice yu mu du):=p2;replace q0:w3.cell? ⟨b2,o2+i*3,none⟩=some (.bool sv):=q0;replace q1:w3.cell? ⟨b2,o2+i*3+1,none⟩=some (slice xv nv cv):=q1;replace q2:w3.cell? ⟨b2,o2+i*3+2,none⟩=some (slice yv mv dv):=q2;have HP:=zi (And.intro p0 (And.intro p1 p2));have HQ:=zi (And.intro q0 (And.intro q1 q2));have R1:=zi hr1;have R2:=zi hr2;have HXi:=zi hx;have HDi:=zi hd
   clear hr1 hr2 hx hd p0 p1 p2 q0 q1 q2;have BYr:=BY0.out.q_ HBr.out;have BTr:=BT0.out.q_ HBr.out;obtain⟨y0,y1⟩:=bk2 BYr;obtain⟨r0,r1,r2⟩:=bk3 BTr;clear BYr BTr;obtain⟨p0,p1,p2⟩:=HP.out;obtain⟨q0,q1,q2⟩:=HQ.out;replace p0:=kCb HBr.out p0;replace p1:=kCb HBr.out p1;replace p2:=kCb HBr.out p2;replace q0:=kCb HBr.out q0;replace q1:=kCb HBr.out q1;replace q2:=kCb HBr.out q2;have i1:((i:Nat):Int)<((k:Nat):Int):=by omega
   go_upto_region 9 with fail
   refine wp_region_held_drew (S:=(λw'=>w'.cell? ⟨w.heap.size,0,none⟩=some (slice (some ⟨b1,o1,none⟩) k capx)/\w'.cell? ⟨w.heap.size,1,none⟩=some (slice (some ⟨b2,o2,none⟩) k cap)/\w'.cell? ⟨w.heap.size+1,0,none⟩=some (.bool ts)/\w'.cell? ⟨w.heap.size+1,1,none⟩=some (slice tx tn tc)/\w'.cell? ⟨w.heap.size+1,2,none⟩=some (slice ty tm td)/\w'.cell? ⟨b1,o1+i*3,none⟩=some (.bool su)/\w'.cell? ⟨b1,o1+i*3+1,none⟩=some (slice xu nu cu)/\w'.cell? ⟨b1,o1+i*3+2,none⟩=some (slice yu mu du)/\w'.cell? ⟨b2,o2+i*3,none⟩=some (.bool sv)/\w'.cell? ⟨b2,o2+i*3+1,none⟩=some (slice xv nv cv)/\w'.cell? ⟨b2,o2+i*3+2,none⟩=some (slice yv mv dv))) (by kernel_rfl) ?_ (λhHeld=>?_)
   ·(refine⟨?_,?_,?_,?_,?_,?_,?_,?_,?_,?_,?_⟩ <;> repeat(with_reducible first|assumption|refine kCd ?_))
   have hbd:=Below.drew (Below.refl wr.heap.size wr);replace HBr:=zM HBr hbd;replace HG:=zi (HG.out.q_ hbd)
   generalize wr.drew=wd at *;clear hbd y0 y1 r0 r1 r2 p0 p1 p2 q0 q1 q2;refine tkO 0 ?_;refine tkO 1 ?_;refine tkO 2 ?_;simp only[zA,Act.put];refine tkO 3 ?_;refine tkO 4 ?_;refine tkO 5 ?_;simp only[zA,Act.put];refine tkO 7 ?_;refine tkO 9 ?_;refine tkO 10 ?_;simp only[zA,Act.put];refine tkO 11 ?_;refine tkO 12 ?_;refine tkO 13 ?_;simp only[zA,Act.put];refine(show wpAnyH _ _ _ _ _ (6+3) _ _ _ from zbY (λj v w=>match j with|6=>FN (2*L) x v w|8=>FN (2*L) tq v w|14=>FN (2*L) dd v w|15=>FN (8*L+3) (tq*dd) v w|16=>FN (20*L+9) (x+tq*dd) v w|17=>NVO (KD L) w3.heap.size (x+tq*dd) v w|_=>True) [(6,42),(8,44),(14,50),(15,51),(16,52),(17,53)] [6,8,14,15,16,17] [18,19,20] _ _ _ 3 ?k1 ?k4 ?k2 ?k3 ?k5 ?k6 ?k8)
   case k1=>kernel_rfl
   case k4=>kernel_rfl
   case k2=>exact λw w' h hb=>⟨kCb hb h.1,kCb hb h.2.1,kCb hb h.2.2.1,kCb hb h.2.2.2.1,kCb hb h.2.2.2.2.1,kCb hb h.2.2.2.2.2.1,kCb hb h.2.2.2.2.2.2.1,kCb hb h.2.2.2.2.2.2.2.1,kCb hb h.2.2.2.2.2.2.2.2.1,kCb hb h.2.2.2.2.2.2.2.2.2.1,kCb hb h.2.2.2.2.2.2.2.2.2.2⟩
   case k3 =>
    intro j v w w' h hb
    split at h <;> first|exact FN.q_ h hb|exact NVO.q_ h hb|exact h|trivial
   case k8=>exact hHeld
   case k5 =>
    intro i hi;simp only[List.mem_cons,List.not_mem_nil,or_false]at hi;rcases hi with rfl|rfl|rfl|rfl|rfl|rfl
    ·refine⟨_,rfl,λu w5 hS hb5 hd K hK=>?_⟩;simp only[zaT,zA,Act.put]at hK ⊢;go_simp
     go_at_call 40
     refine(zfJ (Rn.q_ (Rn.q_ R1.out HBr.out) hb5) (le_trans hL (by decide))).mono ?_;rintro e w6 ⟨sq,zp,nq9,cp,dp,zq,mq9,cq,gq,rfl,hb6,hq1,hq2,hq⟩
     (try go_wp2_with fail)
     exact hK.out _ _ hb6 ⟨⟨sq,zp,nq9,cp,dp,zq,mq9,cq,gq⟩,rfl,hq1,hq2,hq⟩
    ·refine⟨_,rfl,λu w5 hS hb5 hd K hK=>?_⟩;simp only[zaT,zA,Act.put]at hK ⊢;go_simp
     go_at_call 40
     refine(zfJ (Rn.q_ (Rn.q_ X3.out HBr.out) hb5) (le_trans hL (by decide))).mono ?_;rintro e w6 ⟨sq,zp,nq9,cp,dp,zq,mq9,cq,gq,rfl,hb6,hq1,hq2,hq⟩
     (try go_wp2_with fail)
     exact hK.out _ _ hb6 ⟨⟨sq,zp,nq9,cp,dp,zq,mq9,cq,gq⟩,rfl,hq1,hq2,hq⟩
    ·refine⟨_,rfl,λu w5 hS hb5 hd K hK=>?_⟩;simp only[zaT,zA,Act.put]at hK ⊢;go_simp
     go_at_call 40
     refine(zfJ (Rn.q_ (Rn.q_ R2.out HBr.out) hb5) (le_trans hL (by decide))).mono ?_;rintro e w6 ⟨sq,zp,nq9,cp,dp,zq,mq9,cq,gq,rfl,hb6,hq1,hq2,hq⟩
     (try go_wp2_with fail)
     exact hK.out _ _ hb6 ⟨⟨sq,zp,nq9,cp,dp,zq,mq9,cq,gq⟩,rfl,hq1,hq2,hq⟩
    ·refine⟨_,rfl,λu w5 hS hb5 hd K hK=>?_⟩;have h8:FN (2*L) tq (u 8) w5:=hd 8 (by kernel_rfl) (by kernel_rfl);obtain⟨⟨sa8,xa8,na8,ca8,fa8,ya8,ma8,da8,ga8⟩,e8,hm8,hn8,hv8⟩:=h8;replace e8:u 8=agg #[.bool sa8,slice xa8 na8 ca8,slice ya8 ma8 da8]:=e8;replace hm8:na8<=_:=hm8;replace hn8:ma8<=_:=hn8;replace hv8:Qn w5 sa8 xa8 na8 fa8 ya8 ma8 ga8 _:=hv8;have h14:FN (2*L) dd (u 14) w5:=hd 14 (by kernel_rfl) (by kernel_rfl);obtain⟨⟨sa14,xa14,na14,ca14,fa14,ya14,ma14,da14,ga14⟩,e14,hm14,hn14,hv14⟩:=h14;replace e14:u 14=agg #[.bool sa14,slice xa14 na14 ca14,slice ya14 ma14 da14]:=e14;replace hm14:na14<=_:=hm14;replace hn14:ma14<=_:=hn14;replace hv14:Qn w5 sa14 xa14 na14 fa14 ya14 ma14 ga14 _:=hv14;simp only[zaT,zA,Act.put]at hK ⊢;simp only[e8,e14]at hK ⊢;go_simp
     go_at_call 41
     refine(zpf hv8 hv14 (by omega) (by omega) (by omega) (by omega)).mono ?_;rintro e w6 ⟨sq,zp,nq9,cp,dp,zq,mq9,cq,gq,rfl,hb6,hq1,hq2,hq⟩
     (try go_wp2_with fail)
     exact hK.out _ _ hb6 ⟨⟨sq,zp,nq9,cp,dp,zq,mq9,cq,gq⟩,rfl,le_trans hq1 (by omega),le_trans hq2 (by omega),hq⟩
    ·refine⟨_,rfl,λu w5 hS hb5 hd K hK=>?_⟩;have h6:FN (2*L) x (u 6) w5:=hd 6 (by kernel_rfl) (by kernel_rfl);obtain⟨⟨sa6,xa6,na6,ca6,fa6,ya6,ma6,da6,ga6⟩,e6,hm6,hn6,hv6⟩:=h6;replace e6:u 6=agg #[.bool sa6,slice xa6 na6 ca6,slice ya6 ma6 da6]:=e6;replace hm6:na6<=_:=hm6;replace hn6:ma6<=_:=hn6;replace hv6:Qn w5 sa6 xa6 na6 fa6 ya6 ma6 ga6 _:=hv6;have h15:FN (8*L+3) (tq*dd) (u 15) w5:=hd 15 (by kernel_rfl) (by kernel_rfl);obtain⟨⟨sa15,xa15,na15,ca15,fa15,ya15,ma15,da15,ga15⟩,e15,hm15,hn15,hv15⟩:=h15;replace e15:u 15=agg #[.bool sa15,slice xa15 na15 ca15,slice ya15 ma15 da15]:=e15;replace hm15:na15<=_:=hm15;replace hn15:ma15<=_:=hn15;replace hv15:Qn w5 sa15 xa15 na15 fa15 ya15 ma15 ga15 _:=hv15;simp only[zaT,zA,Act.put]at hK ⊢;simp only[e6,e15]at hK ⊢;go_simp
     go_at_call 39
     refine(zpg hv6 hv15 (by omega) (by omega) (by omega) (by omega)).mono ?_;rintro e w6 ⟨sq,zp,nq9,cp,dp,zq,mq9,cq,gq,rfl,hb6,hq1,hq2,hq⟩
     (try go_wp2_with fail)
     exact hK.out _ _ hb6 ⟨⟨sq,zp,nq9,cp,dp,zq,mq9,cq,gq⟩,rfl,le_trans hq1 (by omega),le_trans hq2 (by omega),hq⟩
    ·refine⟨_,rfl,λu w5 hS hb5 hd K hK=>?_⟩;have h16:FN (20*L+9) (x+tq*dd) (u 16) w5:=hd 16 (by kernel_rfl) (by kernel_rfl);obtain⟨⟨sa16,xa16,na16,ca16,fa16,ya16,ma16,da16,ga16⟩,e16,hm16,hn16,hv16⟩:=h16;replace e16:u 16=agg #[.bool sa16,slice xa16 na16 ca16,slice ya16 ma16 da16]:=e16;replace hm16:na16<=_:=hm16;replace hn16:ma16<=_:=hn16;replace hv16:Qn w5 sa16 xa16 na16 fa16 ya16 ma16 ga16 _:=hv16;simp only[zaT,zA,Act.put]at hK ⊢;simp only[e16]at hK ⊢;go_simp
     go_at_call 38
     refine(zpe hv16 (by omega) (by omega)).mono ?_;rintro e w6 ⟨sp,zp,nq9,cp,dp,zq,mq9,cq,gq,rfl,hb6,hq,hdw⟩
     (try go_wp2_with fail)
     exact hK.out _ _ hb6 ⟨⟨_,zp,nq9,cp,dp,zq,mq9,cq,gq⟩,rfl,hq.mono (by unfold KD;omega),hdw.base (bUp HBr.out hb5).size⟩
   case k6 =>
    intro u w6 hS6 hb6 hg;have h17:NVO (KD L) w3.heap.size (x+tq*dd) (u 17) w6:=hg 17 (by simp);obtain⟨⟨s6,x6,n6,c6,f6,y6,m6,d6,g6⟩,e17,hq6,hdw6⟩:=h17;replace e17:u 17=agg #[.bool s6,slice x6 n6 c6,slice y6 m6 d6]:=e17;replace hq6:Rn (KD L) w6 s6 x6 n6 c6 f6 y6 m6 d6 g6 (x+tq*dd):=hq6;clear hg;simp only[zaT,zA,Act.put];simp only[e17];clear e17;have HB6:=zM HBr hb6;replace HG:=zi (HG.out.q_ hb6);refine rdO 18 (λK hK=>?_);go_simp;refine hK.out _ _ ?_ (λhH7=>?_)
    ·have hn:=zE w6 (cells #[.bool s6,slice x6 n6 c6,slice y6 m6 d6] 24);exact⟨kCb hn hS6.1,kCb hn hS6.2.1,kCb hn hS6.2.2.1,kCb hn hS6.2.2.2.1,kCb hn hS6.2.2.2.2.1,kCb hn hS6.2.2.2.2.2.1,kCb hn hS6.2.2.2.2.2.2.1,kCb hn hS6.2.2.2.2.2.2.2.1,kCb hn hS6.2.2.2.2.2.2.2.2.1,kCb hn hS6.2.2.2.2.2.2.2.2.2.1,kCb hn hS6.2.2.2.2.2.2.2.2.2.2⟩
    clear hK K;try simp only[zA,Act.put]
    refine rdO 19 (λK hK=>?_);obtain⟨T9,hrow,hT⟩:=HG.out;have hli:((zas xs ds tq).take i).length=i:=by rw[List.length_take,zeF (by omega)];omega
    rw[hli]at hrow
    refine zar w6 rfl (.tmp 36) (.tmp 54) 29 rfl w3.heap.size 24 56 3 (agg #[.bool false,slice none 0 0,slice none 0 0]) underlying29 zbv rfl (by decide) nz3 u6 i _ rfl hrow #[.bool s6,slice x6 n6 c6,slice y6 m6 d6] rfl rfl (zgB _ _ _ _ _ _ _) (zeN _ _ _ _ _ _ _) (by omega) (by decide) HB6.out.size ?_;intro g8 cap8 w8 hr8 hk8 hb8 hg8;have HB8:Hid (Bl w3 w8):=hb8 w3 HB6.out (le_refl _);have HG8:Hid (GrO (KD L) w3.heap.size w8 (slice (some ⟨g8,0,none⟩) (i+1) cap8) ((zas xs ds tq).take (i+1))):=by
     have hp8:=zgK (p:=(zas xs ds tq).take i) hT (by rw[hli];exact hr8) hk8 hq6 hdw6;rw[hli]at hp8
     have e9:(zas xs ds tq)[i]?=some (x+tq*dd):=by
      rw[zms,HXi.out,HDi.out];show some (0+x+tq*dd)=_;rw[show(0:Rat)+x+tq*dd=x+tq*dd by grind]
     rw[List.take_add_one,e9];exact hp8
    have BY8:=BY0.out.q_ HB8.out;have BT8:=BT0.out.q_ HB8.out;obtain⟨p0,p1,p2⟩:=HP.out;obtain⟨q0,q1,q2⟩:=HQ.out;refine hK.out _ _ ⟨BY8.cell (j:=0) rfl,BY8.cell (j:=1) rfl,BT8.cell (j:=0) rfl,BT8.cell (j:=1) rfl,BT8.cell (j:=2) rfl,kCb HB8.out p0,kCb HB8.out p1,kCb HB8.out p2,kCb HB8.out q0,kCb HB8.out q1,kCb HB8.out q2⟩ (λhH8=>?_);clear hK K BY8 BT8 p0 p1 p2 q0 q1 q2;try simp only[Act.put,List.setIfInBounds_toArray]
    clear hr8 hk8 hb8 hg8 hrow hT hb6 hq6 hdw6 HG HB6 hS6 hH7;refine tkO 20 ?_;simp only[zA,Act.put];refine dnO ?_;clear hHeld hH8 HP HQ R1 R2 HXi HDi;go_wp2;go_roundw
    case rel=>exact⟨i+1,by omega,by go_num,HB8.out,HG8.out⟩
    case measure=>simp[intOf];omega
  ·have e1:i=k:=by omega
   have i4':¬(((i:Nat):Int)<((k:Nat):Int)):=by omega
   have hla:(zas xs ds tq).length=k:=(zeF (by omega)).trans v2;obtain⟨va,vc,hvs,hvc⟩:=HG.out.slice;rw[List.take_of_length_le (by omega)]at hvs hvc
   rw[hla]at hvs hvc
   have HG4:=HG.out;rw[hvs]at HG4
   replace HG4:=zi (show GrO (KD L) w.heap.size wr (slice va k vc) (zas xs ds tq) by have:=HG4.base (b':=w.heap.size) HB0.out.size;rw[List.take_of_length_le (by omega)]at this;exact this);subst hvs;have HV4:=zi hvc;clear HG e1 hvc hla;go_wp2
   go_ret2
   exact⟨bUp HB0.out HBr.out,.inr ⟨rfl,va,vc,rfl,HV4.out,HG4.out⟩⟩
theorem ziS {f g}:∀{r i:Nat},eqs f g r i=true ↔ ∀j,i<=j->j<i+r->f j=g j
 | 0,i=>⟨λ_ j a b=>by omega,λ_=>rfl⟩
 | r+1,i=>by
  simp only[eqs,Bool.and_eq_true,decide_eq_true_eq,ziS (r:=r)];constructor
  ·rintro⟨h1,h2⟩ j a b;by_cases e:j=i
   ·subst e;exact h1
   ·exact h2 j (by omega) (by omega)
  ·intro h;exact⟨h i (by omega) (by omega),λj a b=>h j (by omega) (by omega)⟩
theorem znQ {n m f g}:zmc n m f g=true ↔ Alk n m f g:=by
 unfold zmc Alk;simp only[Bool.and_eq_true,decide_eq_true_eq,ziS];exact⟨λ⟨a,b⟩=>⟨a,λj hj=>b j (by omega) (by omega)⟩,λ⟨a,b⟩=>⟨a,λj _ hj=>b j (by omega)⟩⟩
theorem sq_iff {a b}:sqB a b=true ↔ a.s=b.s/\Alk a.n b.n a.f b.f/\Alk a.m b.m a.g b.g:=by
 unfold sqB;simp only[Bool.and_eq_true,decide_eq_true_eq,znQ]
theorem ziB {w a b} (ha:NmS w a) (hb:NmS w b):Calls prog 18 #[a.val,b.val] w λr w'=>r=returned (.bool (sqB a b))/\Bl w w' :=
 (zfI a.s a.x a.y a.n a.c a.m a.d a.f a.g b.s b.x b.y b.n b.c b.m b.d b.f b.g w ha.1.rx ha.1.ry hb.1.rx hb.1.ry (le_trans ha.2.1 (by decide)) (le_trans ha.2.2 (by decide)) (le_trans hb.2.1 (by decide)) (le_trans hb.2.2 (by decide))).mono
  λe w' ⟨q,h1,h2,h3⟩=>⟨by rw[h1,Bool.eq_iff_iff.2 (h3.trans sq_iff.symm)],h2⟩
def smB (a b:Mo):Bool:=sqB a.off b.off && (zbQ scB a.ck b.ck a.C b.C && zbQ srB a.rk b.rk a.R b.R)
theorem zgO (f:Nat->Int):∀(r i:Nat),eqs f f r i=true
 | 0,_=>rfl
 | r+1,i=>by simp[eqs,zgO f r (i+1)]
theorem Sn.sq {t t':Nm} (h:Sn t t'):sqB t' t=true:=by
 obtain⟨h1,h2,h3,h4,h5⟩:=h;unfold sqB zmc;rw[h1,h2,h3,h4,h5];simp[zgO]
theorem zgp {a b:Ex} (hi:b.i=a.i) (h:Sn a.v b.v):sxB b a=true:=by unfold sxB;rw[hi,h.sq];simp
theorem zgP {α:Type} {e:α->α->Bool} {X Y:Nat->α}:∀{r i:Nat},(∀j,i<=j->j<i+r->e (X j) (Y j)=true)->eqf e X Y r i=true
 | 0,_,_=>rfl
 | r+1,i,h=>by simp only[eqf];rw[h i (by omega) (by omega),zgP (λj a b=>h j (by omega) (by omega))];rfl
theorem zdg {α:Type} {e:α->α->Bool} {X Y:Nat->α} {n m:Nat} (hn:n=m) (h:∀j,j<m->e (X j) (Y j)=true):zbQ e n m X Y=true:=by
 subst hn;unfold zbQ;rw[zgP (λj _ hj=>h j (by omega))];simp
theorem Sm.same {M M':Mo} (h:Sm M M'):smB M' M=true:=by
 have e1:zbQ scB M'.ck M.ck M'.C M.C=true:=zdg h.ck (λj hj=>by
  have p:=h.C j hj;unfold scB;rw[p.cost.sq,zgp p.li p.lo,zgp p.hi p.hv,p.nm];simp)
 have e2:zbQ srB M'.rk M.rk M'.R M.R=true:=zdg h.rk (λj hj=>by
  have p:=h.R j hj;unfold srB;rw[zgp p.li p.lo,zgp p.hi p.hv,p.nm,zdg p.tk (λq hq=>zgp (a:=tex (M.R j).col (M.R j).T q) (b:=tex (M'.R j).col (M'.R j).T q) (by show(M'.R j).col q=_;rw[p.col];rfl) (p.T q hq))];simp)
 unfold smB;rw[h.off.sq,e1,e2];rfl
def GTw (K:Nat) (N:Mo) (v:Value) (w:World):Prop:=∃M':Mo,v=M'.val/\TmK K w N M'
def GBx (base:Nat) (zs:List Value) (ty:TypeId) (v:Value) (w:World):Prop:=∃bx,v=.pointer (some ⟨bx,0,none⟩)/\Bk w bx zs ty/\base<=bx
theorem GTw.q_ {K N v w w'} (h:GTw K N v w) (hb:Bl w w'):GTw K N v w':=by obtain⟨M',e,h⟩:=h;exact⟨M',e,h.q_ hb⟩
theorem GBx.q_ {base zs ty v w w'} (h:GBx base zs ty v w) (hb:Bl w w'):GBx base zs ty v w':=by obtain⟨b,e,h,l⟩:=h;exact⟨b,e,h.q_ hb,l⟩
end Go.Proofs.YtgmmlmmahdnnhaaGreat
