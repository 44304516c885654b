/-
 Walks.
-/
import Derived.Test.YtlbgphjdibbkjaaGreatZ5
import Derived.Test.YtlbgphjdibbkjaaGreatZ0
import Derived.Test.YtlbgphjdibbkjaaGreatZ3
import Derived.Test.YtlbgphjdibbkjaaGreatZ2
import Derived.Test.YtlbgphjdibbkjaaGreatZ4
import Derived.Deep.RegionHeld3
set_option maxRecDepth 100000
set_option maxHeartbeats 16000000
namespace Go.Proofs.YtlbgphjdibbkjaaGreat
open Value (slice agg)
open Obj (cells)
open Nat (le_refl le_trans)
open World (cell?_of_block)
open List (getElem?_eq_getElem)
open Go.Proofs.Tryz
open Go.RowKit
def zbA (M:Mo) (k:Nat) (X:Nat->Nm):Int:=lsf (two (zaw M) (pnE k X M.rk)) 2
def ziL (L:Nat) (w w':World) (e:Ending) (er:Int) (cs:List CV) (rs:List RV) (ys:List Rat):Prop:=Bl w w' /\
 ((er≠0/\e=.returned (.tuple #[slice none 0 0,.int .i64 er]))∨(er=0/\∃a c,e=.returned (.tuple #[slice a cs.length c,.int .i64 0])/\(cs.length<=c/\c<=9223372036854775807)/\Rf (KV L) w' a (zaB rs ys 0 cs)))
structure Ct (base:Nat) (w:World) (g ck i:Nat) (V:Nat->Value) (E:Nat->List Nm):Prop where
 cell:∀j,i<=j->j<ck->w.cell? ⟨g,j,none⟩=some (V j)
 row:∀j,i<=j->j<ck->RowG 24 3 base w (V j) (E j).length (rcells (E j))
theorem Cr.ct {base w g ck V E X} (h:Cr base w g ck V E X):Ct base w g ck 0 V E:=⟨λ_ _ hj=>h.cell hj,λj _ hj=>h.row j hj⟩
theorem Ct.q_ {base w w' g ck i V E} (h:Ct base w g ck i V E) (hb:Bl w w'):Ct base w' g ck i V E:=⟨λj a b=>kCb hb (h.cell j a b),λj a b=>(h.row j a b).q_ hb⟩
theorem Ct.of {base w w' g ck i i' V E} (h:Ct base w g ck i V E) (hi:i<=i') (hg:w'.heap[g]?=w.heap[g]?) (hb:∀j,i'<=j->j<ck->∀b,(V j).ownBlock=some b->w'.heap[b]?=w.heap[b]?):Ct base w' g ck i' V E :=
 ⟨λj a b=>(cell?_of_block (a:=⟨g,j,none⟩) hg).trans (h.cell j (by omega) b),λj a b=>(h.row j (by omega) b).of (hb j a b)⟩
theorem Gr.of {K base w w' v p} (h:Gr K base w v p) (hb:∀b,v.ownBlock=some b->w'.heap[b]?=w.heap[b]?) (hk:Kp w w'):Gr K base w' v p:=by
 obtain⟨T,h1,h2⟩:=h;exact⟨T,h1.of hb,λj q e=>Rn.kp (h2 j q e) hk⟩
theorem Gr.own {K base w v p} (h:Gr K base w v p):∀b,v.ownBlock=some b->base<=b/\b<w.heap.size:=by
 obtain⟨T,h1,h2⟩:=h;exact h1.lt
theorem zre (E:List Nm) (t:Nm):E=rls E.length (λj=>E.getD j t):=by
 apply List.ext_getElem?;intro j;by_cases hj:j<E.length
 ·rw[zkf hj,List.getD_eq_getElem?_getD,getElem?_eq_getElem hj];rfl
 ·rw[List.getElem?_eq_none (by omega),List.getElem?_eq_none (by simp[rls];omega)]
theorem zke {L base w ao n cap E p} (h:RowG 24 3 base w (slice ao n cap) E.length (rcells E)) (hv:Lv L w E p) (hn:n=E.length):Rf L w ao p:=λj q hj=>by
 subst hn;have hl:j<E.length:=by rw[hv.1];exact(List.getElem?_eq_some_iff.1 hj).1
 have t0:Nm:=⟨false,none,0,0,λ_=>0,none,0,0,λ_=>0⟩;rw[show rcells E=rcells (rls E.length (λj=>E.getD j t0)) by rw[<-zre]]at h
 obtain⟨b,e,hc⟩:=zci h hl;refine⟨b,0,E.getD j t0,e,hc,hv.2 j _ q ?_ hj⟩;rw[List.getD_eq_getElem?_getD,getElem?_eq_getElem hl];rfl
theorem zdt {w L M off cs rs ao k cap X ys er} (hW:MoW w M) (hx:Rl w ao k X) (hk:k<=1048576) (he:zbA M k X=er) (hv:er=0->MoV L w M off cs rs/\zbl cs rs=true/\Rf L w ao ys/\ys.length=k/\k=rs.length) (hL:L<=30) :
  Calls prog 10 #[M.val,slice ao k cap] w λe w'=>ziL L w w' e er cs rs ys:=by
 have CC:=zk (λW (hW2:Bl w W)=>zeW (hW.q_ hW2));have CN:=zk (λW (hW2:Bl w W)=>zdm (w:=W) (cap:=cap) (z:=(M.rk:Int)) (hx.q_ hW2) hk);have HE:=zk he;unfold zbA at he;obtain⟨e0,he0⟩:∃e,zaw M=e:=⟨_,rfl⟩;rw[he0]at CC he
 obtain⟨e1,he1⟩:∃e,pnE k X M.rk=e:=⟨_,rfl⟩;rw[he1]at CN he
 have HE2:=zk he;have HV:=zk hv
 clear hW hx he0 he1 he hv;obtain⟨⟨s,x,n,c,f,y,m,d,g⟩,ca,ck,cc,C,ra,rk,rc,R⟩:=M;replace CC:Hid (∀W,Bl w W->Calls prog 29 #[agg #[.bool s,slice x n c,slice y m d,slice ca ck cc,slice ra rk rc]] W λr w'=>r=.returned (.int .i64 e0)/\Bl W w'):=CC;replace CN:Hid (∀W,Bl w W->Calls prog 30 #[slice ao k cap,.int .i64 (rk:Int)] W λe w'=>e=.returned (.int .i64 e1)/\Bl W w'):=CN;show Calls prog 10 #[agg #[.bool s,slice x n c,slice y m d,slice ca ck cc,slice ra rk rc],slice ao k cap] w _;have hb:=zB w (cells #[.bool s,slice x n c,slice y m d,slice ca ck cc,slice ra rk rc] 28);have r0:(w.alloc (cells #[.bool s,slice x n c,slice y m d,slice ca ck cc,slice ra rk rc] 28)).drew.cell? ⟨w.heap.size,0,none⟩=some (.bool s):=kCd (by simp[go_sem]);have r1:(w.alloc (cells #[.bool s,slice x n c,slice y m d,slice ca ck cc,slice ra rk rc] 28)).drew.cell? ⟨w.heap.size,1,none⟩=some (slice x n c):=kCd (by simp[go_sem]);have r2:(w.alloc (cells #[.bool s,slice x n c,slice y m d,slice ca ck cc,slice ra rk rc] 28)).drew.cell? ⟨w.heap.size,2,none⟩=some (slice y m d):=kCd (by simp[go_sem]);have r3:(w.alloc (cells #[.bool s,slice x n c,slice y m d,slice ca ck cc,slice ra rk rc] 28)).drew.cell? ⟨w.heap.size,3,none⟩=some (slice ca ck cc):=kCd (by simp[go_sem]);have r4:(w.alloc (cells #[.bool s,slice x n c,slice y m d,slice ca ck cc,slice ra rk rc] 28)).drew.cell? ⟨w.heap.size,4,none⟩=some (slice ra rk rc):=kCd (by simp[go_sem]);have HB:=zk (Below.drew hb);have hsz0:w.heap.size<(w.alloc (cells #[.bool s,slice x n c,slice y m d,slice ca ck cc,slice ra rk rc] 28)).drew.heap.size:=by show w.heap.size<(w.alloc _).heap.size;simp
 clear hb;go_enter func10,ntmps10;go_upto_region 1 with fail
 refine wp_region_held_drew (S:=(λw'=>w'.cell? ⟨w.heap.size,0,none⟩=some (.bool s)/\w'.cell? ⟨w.heap.size,1,none⟩=some (slice x n c)/\w'.cell? ⟨w.heap.size,2,none⟩=some (slice y m d)/\w'.cell? ⟨w.heap.size,3,none⟩=some (slice ca ck cc)/\w'.cell? ⟨w.heap.size,4,none⟩=some (slice ra rk rc))) (by kernel_rfl) ?_ (λhHeld=>?_)
 ·exact⟨r0,r1,r2,r3,r4⟩
 generalize(w.alloc (cells #[.bool s,slice x n c,slice y m d,slice ca ck cc,slice ra rk rc] 28)).drew=wd at *;clear r0 r1 r2 r3 r4;refine zK 0 ?_;refine zK 2 ?_;refine zK 3 ?_;simp only[zA,Act.put];refine zK 4 ?_;refine zK 5 ?_;simp only[zA,Act.put];refine rdO 1 (λK hK=>?_);go_simp
 go_at_call 29
 refine(CC.out _ HB.out).mono ?_;rintro e w4 ⟨rfl,hb4⟩
 (try go_wp2_with fail)
 refine hK.out _ _ ?_ (λhH4=>?_)
 ·exact⟨kCb hb4 hHeld.1,kCb hb4 hHeld.2.1,kCb hb4 hHeld.2.2.1,kCb hb4 hHeld.2.2.2.1,kCb hb4 hHeld.2.2.2.2⟩
 clear hK K;have HB4:=zJ HB hb4;try simp only[zA,Act.put]
 refine rdO 6 (λK hK=>?_);go_simp
 go_at_call 30
 refine(CN.out _ HB4.out).mono ?_;rintro e w5 ⟨rfl,hb5⟩
 (try go_wp2_with fail)
 refine hK.out _ _ ?_ (λhH5=>?_)
 ·exact⟨kCb hb5 hH4.1,kCb hb5 hH4.2.1,kCb hb5 hH4.2.2.1,kCb hb5 hH4.2.2.2.1,kCb hb5 hH4.2.2.2.2⟩
 clear hK K;have HB5:=zJ HB4 hb5;obtain⟨r0,r1,r2,r3,r4⟩:=id hH5;try simp only[zA,Act.put]
 refine rdO 7 (λK hK=>?_);go_simp;have hbA:=zB w5 (cells #[.int .i64 e0,.int .i64 e1] 36);have HEl:=zk (zdR (w:=w5) (a:=e0) (b:=e1) (t:=36));have HWA:=zJ HB5 hbA;obtain⟨gA,hgA⟩:∃z,w5.heap.size=z:=⟨_,rfl⟩;rw[hgA]at HEl ⊢
 generalize hwA:w5.alloc (cells #[.int .i64 e0,.int .i64 e1] 36)=wA at *;clear hwA hgA;refine hK.out _ _ ?_ (λhHA=>?_)
 ·((try dsimp only);(refine⟨?_,?_,?_,?_,?_⟩ <;> repeat(with_reducible first|assumption|refine kCb (by assumption) ?_)))
 clear hK K;try simp only[zA,Act.put]
 refine rdO 8 (λK hK=>?_);go_simp
 go_at_call 28
 refine(zha HEl.out (by decide)).mono ?_;rintro e w9 ⟨rfl,rfl⟩
 (try go_wp2_with fail)
 refine hK.out _ _ ?_ (λhHB=>?_)
 ·exact hHA
 clear hK K;try simp only[zA,Act.put]
 refine zK 9 ?_;simp only[zA,Act.put];refine dnO ?_;simp only[show lsf (two e0 e1) 2=er from HE2.out];obtain⟨r0,r1,r2,r3,r4⟩:=id hHB;have hszA:w.heap.size<w9.heap.size:=by have h1:=hb4.size;have h2:=hb5.size;have h3:=hbA.size;omega
 have HBA:=zk HWA.out;clear HE2 hHeld hH4 hH5 hHA hHB hb4 hb5 hbA HEl CC CN HB HB4 HB5 HWA hsz0;by_cases h0:er=0
 case neg =>
  have h1:(er != 0)=true:=by simpa using h0
  have H0:=zk h0;clear r0 r1 r2 r3 r4;go_wp2
  go_ret2
  exact⟨HBA.out,.inl ⟨H0.out,rfl⟩⟩
 obtain⟨v1,v2,v3,v4,v5⟩:=HV.out h0;have mp:=zbk v2;have ht:∀v ∈ rs,tsB cs.length (-1) v.ts=true:=by
  simp only[zbl,Bool.and_eq_true,decide_eq_true_eq,List.all_eq_true]at v2;obtain⟨_,_,_,h4,_⟩:=v2;exact λv hv=>(h4 v hv).2.1
 subst h0;have l64:=mp.cl;have r64:=mp.rl
 have HC:Hid (∀j v,cs[j]?=some v->(∃b o,ca=some ⟨b,o,none⟩/\Cs w b (o+j*12) (C j).vs)/\ColV L w (C j) v):=v1.cls;have HR:Hid (∀j v,rs[j]?=some v->(∃b o,ra=some ⟨b,o,none⟩/\Cs w b (o+j*10) (R j).vs)/\RowV L w (R j) v):=v1.rls;have hck:ck=cs.length:=v1.ck;have hrk:rk=rs.length:=v1.rk;subst hck;subst hrk
 subst v5;have HY:=zk v3;have HYL:=zk v4;have HTB:Hid (∀v ∈ rs,tsB cs.length (-1) v.ts=true):=ht;have HTL:=zk mp.tl
 clear v1 v2 v3 v4 mp ht HV HE hk;go_wp2_with(at_make;refine zcw _ rfl (.tmp 31) (.tmp 31) 78 rfl 29 24 underlying78 znE .i64 .i64 cs.length cs.length cs.length rfl rfl rfl rfl (by omega) (by unfold maxLen;omega) ?_;intro w3 hk3 hb3;have k43:=kCb hb3 r4)
 have HK3:Hid (w9.cell? ⟨w.heap.size,3,none⟩=some (slice ca cs.length cc)):=zk r3;have HCo:=zk (znY (base:=w9.heap.size) (le_refl _) hk3);have HB3:=zk hb3;clear hk3 r0 r1 r2 r3 r4;go_wp2_with fail
 clear k43 hb3;go_loopw[36] (λt wr=>∃(i:Nat) (V:Nat->Value) (E:Nat->List Nm),i<=rs.length/\t=.int .i64 i/\Hid (Bl w9 wr)/\Hid (Cr w9.heap.size wr w9.heap.size cs.length V E (λb=>False))/\Hid (∀j,j<cs.length->Lv (2*L+1) wr (E j) (zW (rs.take i) (ys.take i) j))) (λt _=>rs.length-(intOf t).toNat)
 case atStart=>exact⟨0,_,_,by omega,rfl,HB3.out,HCo.out,λj hj=>Lv.nil _ _⟩
 case round =>
  clear HB3 HCo;obtain⟨i,V,E,hi,rfl,HB,HC2,HL⟩:=hrel;by_cases hlt:i<rs.length
  ·obtain⟨v,hv⟩:∃t,rs[i]?=some t:=⟨_,getElem?_eq_getElem (by omega)⟩;have hvm:=List.mem_of_getElem? hv;obtain⟨yq,hyq⟩:∃t,ys[i]?=some t:=⟨_,getElem?_eq_getElem (by have:=HYL.out;omega)⟩;have hbw:=bUp HBA.out HB.out;obtain⟨⟨b,o,hra,hc⟩,hRV⟩:=HR.out i v hv;subst hra;obtain⟨⟨z,⟨i1,⟨s1,x1,n1,c1,f1,y1,m1,d1,g1⟩⟩,⟨i2,⟨s2,x2,n2,c2,f2,y2,m2,d2,g2⟩⟩,ta,tk,tc,tcol,tt⟩,hCi⟩:∃t,R i=t:=⟨_,rfl⟩;rw[hCi]at hc hRV
   have htk2:tk=v.ts.length:=hRV.tk;subst htk2;replace hc:=Cs.q_ hc hbw;obtain⟨q0,q1,q2,q3,q4,q5,q6,q7,q8,q9⟩:=hc.lr;obtain⟨b',o',⟨ss,sx,sn,sc,sf,sy,sm,sd,sg⟩,hax,⟨p0,p1,p2⟩,hr'⟩:=(HY.out.q_ hbw) i yq hyq;subst hax;replace p0:wr.cell? ⟨b',o'+i*3,none⟩=some (.bool ss):=p0;replace p1:wr.cell? ⟨b',o'+i*3+1,none⟩=some (slice sx sn sc):=p1;replace p2:wr.cell? ⟨b',o'+i*3+2,none⟩=some (slice sy sm sd):=p2;replace hr':Rn L wr ss sx sn sc sf sy sm sd sg yq:=hr';have hb1:=zB wr (cells #[.string z,.int .i64 i1,.bool s1,slice x1 n1 c1,slice y1 m1 d1,.int .i64 i2,.bool s2,slice x2 n2 c2,slice y2 m2 d2,slice ta v.ts.length tc] 63);obtain⟨-,-,-,-,-,-,-,-,-,b9⟩:=zeh (zF wr [.string z,.int .i64 i1,.bool s1,slice x1 n1 c1,slice y1 m1 d1,.int .i64 i2,.bool s2,slice x2 n2 c2,slice y2 m2 d2,slice ta v.ts.length tc] 63);replace p0:=kCb hb1 p0;replace p1:=kCb hb1 p1;replace p2:=kCb hb1 p2
   replace hr':=hr'.q_ hb1;have HTS:Hid (∀p z q,v.ts[p]?=some (z,q)->tcol p=z/\NmV L w (tt p) q/\∃b o,ta=some ⟨b,o,none⟩/\C4 w b (o+p*4) (.int .i64 (tcol p)) (.bool (tt p).s) (.slice (tt p).x (tt p).n (tt p).c) (.slice (tt p).y (tt p).m (tt p).d)):=hRV.tl;have htk3:=HTL.out v hvm;have HT2:=zk (HTB.out v hvm);have HV:=zk hv;have HYQ:=zk hyq
   have HB1:=zJ HB hb1;have HC1:=zk (HC2.out.q_ hb1);have HL1:Hid (∀j,j<cs.length->Lv (2*L+1) (wr.alloc (cells #[.string z,.int .i64 i1,.bool s1,slice x1 n1 c1,slice y1 m1 d1,.int .i64 i2,.bool s2,slice x2 n2 c2,slice y2 m2 d2,slice ta v.ts.length tc] 63)) (E j) (zW (rs.take i) (ys.take i) j)):=zk (λj hj=>(HL.out j hj).q_ hb1)
   have i1':((i:Nat):Int)<((rs.length:Nat):Int):=by omega
   have hlw:wr.heap.size<(wr.alloc (cells #[.string z,.int .i64 i1,.bool s1,slice x1 n1 c1,slice y1 m1 d1,.int .i64 i2,.bool s2,slice x2 n2 c2,slice y2 m2 d2,slice ta v.ts.length tc] 63)).heap.size:=by simp
   clear hCi hc hRV hbw hv hyq hvm HB HC2 HL;have HR':=zk hr';clear hr';go_wp2_with fail
   clear q0 q1 q2 q3 q4 q5 q6 q7 q8 q9;generalize(wr.alloc (cells #[.string z,.int .i64 i1,.bool s1,slice x1 n1 c1,slice y1 m1 d1,.int .i64 i2,.bool s2,slice x2 n2 c2,slice y2 m2 d2,slice ta v.ts.length tc] 63))=wI at *;clear hb1;generalize wr.heap.size=rb at *;refine(zmT HR'.out (by omega)).mono ?_;rintro e w4 ⟨s6,x6,n6,c6,f6,y6,m6,d6,g6,rfl,hb4,hq6⟩;have hal:=zB w4 (cells #[.bool s6,slice x6 n6 c6,slice y6 m6 d6] 24);have hb5:=bUp hb4 hal;replace b9:=kCb hb5 b9;go_wp2_with fail
   have BK:=zk (zF w4 [.bool s6,slice x6 n6 c6,slice y6 m6 d6] 24);replace BK:Hid (Bk (w4.alloc (cells #[.bool s6,slice x6 n6 c6,slice y6 m6 d6] 24)) w4.heap.size [.bool s6,slice x6 n6 c6,slice y6 m6 d6] 24):=BK;have HN:=zk (hq6.q_ hal);have HB5:=zJ HB1 hb5;have HC5:=zk (((HC1.out.q_ hb4).unx (λb=>b=w4.heap.size) (λb e=>Nat.le_of_eq e.symm)).q_ hal);have HL5:Hid (∀j,j<cs.length->Lv (2*L+1) (w4.alloc (cells #[.bool s6,slice x6 n6 c6,slice y6 m6 d6] 24)) (E j) (zW (rs.take i) (ys.take i) j)):=zk (λj hj=>(HL1.out j hj).q_ hb5);clear hb4 hq6 hal hb5 b9 p0 p1 p2 hlw HR' HB1 HC1 HL1;generalize w4.alloc (cells #[.bool s6,slice x6 n6 c6,slice y6 m6 d6] 24)=w5 at *;generalize w4.heap.size=xb at *;go_loopw[52] (λt wz=>∃(p:Nat) (V:Nat->Value) (E:Nat->List Nm),p<=v.ts.length/\t=.int .i64 p/\Hid (Bl w9 wz)/\Hid (Cr w9.heap.size wz w9.heap.size cs.length V E (λb=>b=xb))/\Hid (Bk wz xb [.bool s6,slice x6 n6 c6,slice y6 m6 d6] 24)/\Hid (Rn L wz s6 x6 n6 c6 f6 y6 m6 d6 g6 (-yq))/\Hid (∀j,j<cs.length->Lv (2*L+1) wz (E j) (zW (rs.take i) (ys.take i) j++zbi yq (v.ts.take p) j))) (λt _=>v.ts.length-(intOf t).toNat)
   case atStart=>exact⟨0,_,_,by omega,rfl,HB5.out,HC5.out,BK.out,HN.out,λj hj=>by rw[List.take_zero];simpa only[zbi,List.append_nil]using HL5.out j hj⟩
   case round =>
    clear HB5 HC5 BK HN HL5;obtain⟨p,V,E,hp,rfl,HB,HC2,BK,HN,HL⟩:=hrel;by_cases hlp:p<v.ts.length
    ·obtain⟨⟨tz,tq⟩,htv⟩:∃t,v.ts[p]?=some t:=⟨_,getElem?_eq_getElem (by omega)⟩;obtain⟨h1,h2,b2,o2,hta,h4⟩:=HTS.out p tz tq htv;obtain⟨hz0,hz1,_⟩:=zdy HT2.out _ (List.mem_of_getElem? htv);replace hz0:(-1:Int)<tz:=hz0;replace hz1:tz<(cs.length:Int):=hz1;obtain⟨zn,rfl⟩:=Int.eq_ofNat_of_zero_le (show 0<=tz by omega);have hzn:zn<cs.length:=by omega
     subst hta;have hbz:=bUp HBA.out HB.out;obtain⟨⟨ts,tx,tn,tc2,tf,ty,tm,td,tg⟩,hTp⟩:∃t,tt p=t:=⟨_,rfl⟩;rw[hTp,h1]at h4
     rw[hTp]at h2
     obtain⟨x0,x1,x2,x3⟩:=h4.q_ hbz;replace x0:wr.cell? ⟨b2,o2+p*4,none⟩=some (.int .i64 zn):=x0;replace x1:wr.cell? ⟨b2,o2+p*4+1,none⟩=some (.bool ts):=x1;replace x2:wr.cell? ⟨b2,o2+p*4+2,none⟩=some (slice tx tn tc2):=x2;replace x3:wr.cell? ⟨b2,o2+p*4+3,none⟩=some (slice ty tm td):=x3;have h2r:Rn L w ts tx tn tc2 tf ty tm td tg tq:=h2;have hbt:=zB wr (cells #[.int .i64 zn,.bool ts,slice tx tn tc2,slice ty tm td] 65);have a0:((wr.alloc (cells #[.int .i64 zn,.bool ts,slice tx tn tc2,slice ty tm td] 65))).cell? ⟨wr.heap.size,0,none⟩=some (.int .i64 zn):=by simp[go_sem]
     have a1:((wr.alloc (cells #[.int .i64 zn,.bool ts,slice tx tn tc2,slice ty tm td] 65))).cell? ⟨wr.heap.size,1,none⟩=some (.bool ts):=by simp[go_sem]
     have a2:((wr.alloc (cells #[.int .i64 zn,.bool ts,slice tx tn tc2,slice ty tm td] 65))).cell? ⟨wr.heap.size,2,none⟩=some (slice tx tn tc2):=by simp[go_sem]
     have a3:((wr.alloc (cells #[.int .i64 zn,.bool ts,slice tx tn tc2,slice ty tm td] 65))).cell? ⟨wr.heap.size,3,none⟩=some (slice ty tm td):=by simp[go_sem]
     have i2':((p:Nat):Int)<((v.ts.length:Nat):Int):=by omega
     have i3':((zn:Nat):Int)<((cs.length:Nat):Int):=by omega
     have HTV:=zk htv;have hva:∀b,(V zn).ownBlock=some b->b<wr.heap.size:=λb e=>((HC2.out.row zn hzn).lt b e).2
     have hxz:=BK.out.lt;have hlz:wr.heap.size<(wr.alloc (cells #[.int .i64 zn,.bool ts,slice tx tn tc2,slice ty tm td] 65)).heap.size:=by simp
     clear htv hz0 hz1 h1 h2 h4 hTp;go_upto_region 12 with fail
     clear x0 x1 x2 x3;have HB5:=zJ HB hbt;have HC5:=zk (HC2.out.q_ hbt);have BK5:=zk (BK.out.q_ hbt);have R1:=zk (HN.out.q_ hbt);have R2:=zk ((h2r.q_ hbz).q_ hbt);have HL5:Hid (∀j,j<cs.length->Lv (2*L+1) (wr.alloc (cells #[.int .i64 zn,.bool ts,slice tx tn tc2,slice ty tm td] 65)) (E j) (zW (rs.take i) (ys.take i) j++zbi yq (v.ts.take p) j)):=zk (λj hj=>(HL.out j hj).q_ hbt)
     clear hbz hbt h2r HB HC2 BK HN HL;generalize wr.heap.size=bx at *;generalize(wr.alloc (cells #[.int .i64 zn,.bool ts,slice tx tn tc2,slice ty tm td] 65))=w5 at *;have o0:=HC5.out.cell hzn;obtain⟨v0,v1,v2⟩:=bk3 BK5.out;refine zag (S:=(λw'=>w'.cell? ⟨bx,0,none⟩=some (.int .i64 zn)/\w'.cell? ⟨bx,1,none⟩=some (.bool ts)/\w'.cell? ⟨bx,2,none⟩=some (slice tx tn tc2)/\w'.cell? ⟨bx,3,none⟩=some (slice ty tm td)/\w'.cell? ⟨xb,0,none⟩=some (.bool s6)/\w'.cell? ⟨xb,1,none⟩=some (slice x6 n6 c6)/\w'.cell? ⟨xb,2,none⟩=some (slice y6 m6 d6)/\w'.cell? ⟨w9.heap.size,zn,none⟩=some (V zn))) 15 (by kernel_rfl) ⟨kCd a0,kCd a1,kCd a2,kCd a3,kCd v0,kCd v1,kCd v2,kCd o0⟩ (λhHeld=>?_);have hbd:=Below.drew (Below.refl w5.heap.size w5);replace HB5:=zJ HB5 hbd;replace HC5:=zk (HC5.out.q_ hbd);replace BK5:=zk (BK5.out.q_ hbd);replace R1:=zk (R1.out.q_ hbd);replace R2:=zk (R2.out.q_ hbd);replace HL5:Hid (∀j,j<cs.length->Lv (2*L+1) w5.drew (E j) (zW (rs.take i) (ys.take i) j++zbi yq (v.ts.take p) j)):=zk (λj hj=>(HL5.out j hj).q_ hbd)
     replace hlz:bx<w5.drew.heap.size:=hlz;clear hbd a0 a1 a2 a3 v0 v1 v2 o0;generalize w5.drew=wd at *;refine skP 0 ?_;refine skP 1 ?_;refine tkP 2 ?_;simp only[zA,Act.put];refine skP 3 ?_;refine skP 4 ?_;refine tkP 5 ?_;simp only[zA,Act.put];refine skP 6 ?_;refine tkP 7 ?_;refine tkP 8 ?_;simp only[zA,Act.put];refine skP 9 ?_;refine tkP 10 ?_;simp only[zA,Act.put];refine rdP 11 (λK hK=>?_);go_simp
     go_at_call 32
     refine(ziq (L:=L) R1.out R2.out (by omega)).mono ?_;rintro e w6 ⟨s7,x7,n7,c7,f7,y7,m7,d7,g7,rfl,hb6,hq7⟩
     (try go_wp2_with fail)
     have yy0:=kCb hb6 (hHeld.1);have yy1:=kCb hb6 (hHeld.2.1);have yy2:=kCb hb6 (hHeld.2.2.1);have yy3:=kCb hb6 (hHeld.2.2.2.1);have yy4:=kCb hb6 (hHeld.2.2.2.2.1);have yy5:=kCb hb6 (hHeld.2.2.2.2.2.1);have yy6:=kCb hb6 (hHeld.2.2.2.2.2.2.1);have yy7:=kCb hb6 (hHeld.2.2.2.2.2.2.2);refine hK.out _ _ (λ_=>⟨yy0,yy1,yy2,yy3,yy4,yy5,yy6,yy7⟩) (λhS6=>?_);clear hK K hS6;try simp only[zA,Act.put]
     replace HB5:=zJ HB5 hb6;replace HC5:=zk (HC5.out.q_ hb6);replace BK5:=zk (BK5.out.q_ hb6);replace R1:=zk (R1.out.q_ hb6);replace HL5:Hid (∀j,j<cs.length->Lv (2*L+1) w6 (E j) (zW (rs.take i) (ys.take i) j++zbi yq (v.ts.take p) j)):=zk (λj hj=>(HL5.out j hj).q_ hb6)
     replace hlz:bx<w6.heap.size:=Nat.lt_of_lt_of_le hlz hb6.size;have HQ7:=zk hq7;clear hb6 hq7 R2 hHeld;refine rdP 12 (λK hK=>?_);go_simp;refine hK.out _ _ (λ_=>⟨kCa yy0,kCa yy1,kCa yy2,kCa yy3,kCa yy4,kCa yy5,kCa yy6,kCa yy7⟩) (λhS7=>?_);clear hK K hS7;try simp only[zA,Act.put]
     refine rdP 13 (λK hK=>?_);have hrow:=HC5.out.row zn hzn;have hen:(E zn).length<=65:=by
      rw[(HL5.out zn hzn).1,List.length_append];have h1:=zbE (n:=cs.length) (j:=zn) (rs:=rs.take i) (ys:=ys.take i) (λv hv=>HTB.out v (List.mem_of_mem_take hv));have h2:=zcJ (y:=yq) (j:=zn) (zcN p HT2.out);rw[List.length_take]at h1;omega
     have hsz6:w9.heap.size<=w6.heap.size:=HB5.out.size;refine zaj w6 rfl (.tmp 63) (.tmp 68) 29 rfl w9.heap.size 24 56 3 (agg #[.bool false,slice none 0 0,slice none 0 0]) underlying29 zaR rfl (by decide) nz3 (V zn) (E zn).length _ rfl hrow #[.bool s7,slice x7 n7 c7,slice y7 m7 d7] rfl rfl (zdp _ _ _ _ _ _ _) (zcD _ _ _ _ _ _ _) ?p1 ?p2 hsz6 ?_
     case p1=>omega
     case p2=>omega
     intro g8 cap8 w8 hr8 hk8 hb8 hg8 hl8;have hBx:=hg8 bx hlz (λe=>absurd (hva _ e) (Nat.lt_irrefl _));have hXb:=hg8 xb BK5.out.lt (λe=>HC5.out.nx zn hzn xb e rfl);have hO8:=hg8 w9.heap.size HC5.out.lt (HC5.out.ne zn hzn);have uu0:=(cell?_of_block (a:=⟨bx,0,none⟩) hBx).trans yy0;have uu1:=(cell?_of_block (a:=⟨bx,1,none⟩) hBx).trans yy1;have uu2:=(cell?_of_block (a:=⟨bx,2,none⟩) hBx).trans yy2;have uu3:=(cell?_of_block (a:=⟨bx,3,none⟩) hBx).trans yy3;have uu4:=(cell?_of_block (a:=⟨xb,0,none⟩) hXb).trans yy4;have uu5:=(cell?_of_block (a:=⟨xb,1,none⟩) hXb).trans yy5;have uu6:=(cell?_of_block (a:=⟨xb,2,none⟩) hXb).trans yy6;have uu7:=(cell?_of_block (a:=⟨w9.heap.size,zn,none⟩) hO8).trans yy7;have ff:w8.frozen? ⟨w9.heap.size,zn,none⟩=false:=by obtain⟨cur,h1,_⟩:=HC5.out.bl;simp[World.frozen?,hO8,h1]
     refine hK.out _ _ (λ_=>⟨uu0,uu1,uu2,uu3,uu4,uu5,uu6,uu7⟩) (λhS8=>?_);clear hK K hS8;try simp only[zA,Act.put]
     refine rdP 14 (λK hK=>?_);go_simp;refine hK.out _ _ (λ_=>⟨uu0,uu1,uu2,uu3,uu4,uu5,uu6,uu7⟩) (λhS9=>?_);clear hK K hS9;try simp only[zA,Act.put]
     refine rdP 15 (λK hK=>?_);go_simp;refine hK.out _ _ (λh=>by cases h) (λ_=>?_);clear hK K;try simp only[zA,Act.put]
     refine dnP ?_;have HB9:=zk (zL (hb8 w9 HB5.out (le_refl _)) (le_trans hsz6 hk8.size) ((Turned.refl w9.heap.size (w9.heap.size+1) w8).set (x:=⟨w9.heap.size,zn,none⟩) HC5.out.ge (by simp) (slice (some ⟨g8,0,none⟩) ((E zn).length+1) cap8)) (le_refl _));have hkp:Kp w6 (w8.setCell ⟨w9.heap.size,zn,none⟩ (slice (some ⟨g8,0,none⟩) ((E zn).length+1) cap8)):=by
      obtain⟨cur,h1,_,h2,_⟩:=HC5.out.bl;exact hk8.set (x:=⟨w9.heap.size,zn,none⟩) (hO8.trans h1) h2 _
     have HC9:=zk (HC5.out.put hzn (cap8:=cap8) (x:=⟨s7,x7,n7,c7,f7,y7,m7,d7,g7⟩) rfl (λb e=>by rw[e];exact BK5.out.lt) hr8 hg8 hl8);have BK9:=zk (BK5.out.of (w':=w8.setCell ⟨w9.heap.size,zn,none⟩ (slice (some ⟨g8,0,none⟩) ((E zn).length+1) cap8)) (by rw[Below.heap_setCell _ _ _ _ (λe=>HC5.out.xg e.symm)];exact hXb));have HN9:=zk (Rn.kp R1.out hkp);have HL9:Hid (∀j,j<cs.length->Lv (2*L+1) (w8.setCell ⟨w9.heap.size,zn,none⟩ (slice (some ⟨g8,0,none⟩) ((E zn).length+1) cap8)) (if j=zn then E zn++[⟨s7,x7,n7,c7,f7,y7,m7,d7,g7⟩] else E j) (zW (rs.take i) (ys.take i) j++zbi yq (v.ts.take (p+1)) j)):=λj hj=>by
      rw[zda j HTV.out,<-List.append_assoc];by_cases e:j=zn
      ·subst e;rw[if_pos rfl,if_pos rfl];exact((HL5.out j hj).kp hkp).snoc (Rn.kp HQ7.out hkp)
      ·rw[if_neg e,if_neg (λh=>e (by omega)),List.append_nil];exact(HL5.out j hj).kp hkp
     clear hr8 hk8 hb8 hg8 hl8 hBx hXb hO8 ff hkp hrow HC5 HB5 BK5 R1 HQ7 HL5 hsz6 uu0 yy0 uu1 yy1 uu2 yy2 uu3 yy3 uu4 yy4 uu5 yy5 uu6 yy6 uu7 yy7;go_wp2;go_roundw
     case rel=>exact⟨p+1,_,_,by omega,by go_num,HB9.out,HC9.out,BK9.out,HN9.out,HL9.out⟩
     case measure=>simp[intOf];omega
    ·have e1:p=v.ts.length:=by omega
     have i4':¬(((p:Nat):Int)<((v.ts.length:Nat):Int)):=by omega
     have HC7:=zk (HC2.out.unx (λ_=>False) (λb h=>h.elim));have HL7:Hid (∀j,j<cs.length->Lv (2*L+1) wr (E j) (zW (rs.take (i+1)) (ys.take (i+1)) j)):=λj hj=>by
      have h:=HL.out j hj;rw[List.take_of_length_le (show v.ts.length<=p by omega)]at h
      rw[zcn j HV.out HYQ.out];exact h
     clear HC2 HL BK HN HTS e1;go_wp2;go_roundw
     case rel=>exact⟨i+1,_,_,by omega,by go_num,HB.out,HC7.out,HL7.out⟩
     case measure=>simp[intOf];omega
  ·have e1:i=rs.length:=by omega
   have i4':¬(((i:Nat):Int)<((rs.length:Nat):Int)):=by omega
   have HL7:Hid (∀j,j<cs.length->Lv (2*L+1) wr (E j) (zW rs ys j)):=λj hj=>by
    have h:=HL.out j hj;rw[List.take_of_length_le (show rs.length<=i by omega),List.take_of_length_le (by have:=HYL.out;omega)]at h;exact h
   have HV0:Hid (∀j,j<cs.length->∀b,(V j).ownBlock=some b->b<wr.heap.size):=λj hj b e=>((HC2.out.row j hj).lt b e).2
   have HNE:=zk HC2.out.ne;have HDJ:=zk HC2.out.dj;have hgl:=HC2.out.lt;have HCT:=zk HC2.out.ct;have k3:=kCb HB.out HK3.out
   clear HL e1 HC2;go_wp2_with fail
   clear k3;generalize hw2:wr=w2 at *;clear hw2;go_loopw[14,76] (λzv t wz=>∃(i:Nat),i<=cs.length/\t=.int .i64 i/\Hid (Bl w9 wz)/\Hid (w2.heap.size<=wz.heap.size)/\Hid (Ct w9.heap.size wz w9.heap.size cs.length i V E)/\Hid (∀j,j<cs.length->Lv (2*L+1) wz (E j) (zW rs ys j))/\Hid (Gr (KV L) w2.heap.size wz zv (zaB rs ys 0 (cs.take i)))) (λ_ t _=>cs.length-(intOf t).toNat)
   case atStart=>exact⟨0,by omega,rfl,HB.out,le_refl _,HCT.out,HL7.out,zhe _ _ _⟩
   case round =>
    clear HB HCT HL7;obtain⟨i,hi,rfl,HB,HW2,HCT,HL,HG⟩:=hrel;have hgl2:(zaB rs ys 0 (cs.take i)).length=i:=by rw[zaX,List.length_take];omega
    by_cases hlt:i<cs.length
    ·obtain⟨v,hv⟩:∃t,cs[i]?=some t:=⟨_,getElem?_eq_getElem (by omega)⟩;have hbw:=bUp HBA.out HB.out;obtain⟨⟨b,o,hca,hc⟩,hV⟩:=HC.out i v hv;subst hca;have hcost:=hV.cost.q_ hbw;obtain⟨⟨z,⟨s0,x0,n0,c0,f0,y0,m0,d0,g0⟩,⟨i1,⟨s1,x1,n1,c1,f1,y1,m1,d1,g1⟩⟩,⟨i2,⟨s2,x2,n2,c2,f2,y2,m2,d2,g2⟩⟩⟩,hCi⟩:∃t,C i=t:=⟨_,rfl⟩;rw[hCi]at hc hcost
     replace hcost:Rn L wr s0 x0 n0 c0 f0 y0 m0 d0 g0 v.cost:=hcost;replace hc:=Cs.q_ hc hbw;obtain⟨q0,q1,q2,q3,q4,q5,q6,q7,q8,q9,q10,q11⟩:=hc.lc;have hbt:=zB wr (cells #[.string z,.bool s0,slice x0 n0 c0,slice y0 m0 d0,.int .i64 i1,.bool s1,slice x1 n1 c1,slice y1 m1 d1,.int .i64 i2,.bool s2,slice x2 n2 c2,slice y2 m2 d2] 60);obtain⟨-,a1,a2,a3⟩:=bk4 (zF wr [.string z,.bool s0,slice x0 n0 c0,slice y0 m0 d0,.int .i64 i1,.bool s1,slice x1 n1 c1,slice y1 m1 d1,.int .i64 i2,.bool s2,slice x2 n2 c2,slice y2 m2 d2] 60);have i1':((i:Nat):Int)<((cs.length:Nat):Int):=by omega
     have HV2:=zk hv;clear hCi hc hV hv hbw;go_upto_region 19 with fail
     clear q0 q1 q2 q3 q4 q5 q6 q7 q8 q9 q10 q11;have HB5:=zJ HB hbt;have HC5:=zk (HCT.out.q_ hbt);have HG5:=zk (HG.out.q_ hbt);have R2:=zk (hcost.q_ hbt);have HW5:=zk (le_trans HW2.out hbt.size)
     have HL5:Hid (∀j,j<cs.length->Lv (2*L+1) (wr.alloc (cells #[.string z,.bool s0,slice x0 n0 c0,slice y0 m0 d0,.int .i64 i1,.bool s1,slice x1 n1 c1,slice y1 m1 d1,.int .i64 i2,.bool s2,slice x2 n2 c2,slice y2 m2 d2] 60)) (E j) (zW rs ys j)):=zk (λj hj=>(HL.out j hj).q_ hbt);clear hbt hcost HB HCT HG HW2 HL;generalize wr.heap.size=bx at *;generalize(wr.alloc (cells #[.string z,.bool s0,slice x0 n0 c0,slice y0 m0 d0,.int .i64 i1,.bool s1,slice x1 n1 c1,slice y1 m1 d1,.int .i64 i2,.bool s2,slice x2 n2 c2,slice y2 m2 d2] 60))=w5 at *;have o0:=HC5.out.cell i (le_refl _) hlt;have i3':=i1';refine zag (S:=(λw'=>w'.cell? ⟨bx,1,none⟩=some (.bool s0)/\w'.cell? ⟨bx,2,none⟩=some (slice x0 n0 c0)/\w'.cell? ⟨bx,3,none⟩=some (slice y0 m0 d0)/\w'.cell? ⟨w9.heap.size,i,none⟩=some (V i))) 8 (by kernel_rfl) ⟨kCd a1,kCd a2,kCd a3,kCd o0⟩ (λhHeld=>?_);have hbd:=Below.drew (Below.refl w5.heap.size w5);replace HB5:=zJ HB5 hbd;replace HC5:=zk (HC5.out.q_ hbd);replace HG5:=zk (HG5.out.q_ hbd);replace R2:=zk (R2.out.q_ hbd);replace HW5:=zk (le_trans HW5.out hbd.size);replace HL5:Hid (∀j,j<cs.length->Lv (2*L+1) w5.drew (E j) (zW rs ys j)):=zk (λj hj=>(HL5.out j hj).q_ hbd)
     clear hbd a1 a2 a3 o0;generalize w5.drew=wd at *;refine skP 0 ?_;refine skP 1 ?_;refine skP 2 ?_;simp only[zA,Act.put];refine skP 3 ?_;refine tkP 4 ?_;refine skP 5 ?_;simp only[zA,Act.put];refine tkP 6 ?_;simp only[zA,Act.put];refine rdP 7 (λK hK=>?_);go_simp;refine hK.out _ _ (λ_=>⟨kCa (hHeld.1),kCa (hHeld.2.1),kCa (hHeld.2.2.1),kCa (hHeld.2.2.2)⟩) (λhS7=>?_);clear hK K hS7;try simp only[zA,Act.put]
     refine rdP 8 (λK hK=>?_);have hrow:=HC5.out.row i (le_refl _) hlt;have hen:(E i).length<=64:=by
      rw[(HL5.out i hlt).1];have h1:=zbE (n:=cs.length) (j:=i) (rs:=rs) (ys:=ys) HTB.out;omega
     have hsz5:w9.heap.size<=wd.heap.size:=HB5.out.size;refine zaj wd rfl (.tmp 85) (.tmp 88) 29 rfl w9.heap.size 24 56 3 (agg #[.bool false,slice none 0 0,slice none 0 0]) underlying29 zaR rfl (by decide) nz3 (V i) (E i).length _ rfl hrow #[.bool s0,slice x0 n0 c0,slice y0 m0 d0] rfl rfl (zdp _ _ _ _ _ _ _) (zcD _ _ _ _ _ _ _) ?p1 ?p2 hsz5 ?_
     case p1=>omega
     case p2=>omega
     intro g8 cap8 w8 hr8 hk8 hb8 hg8 hl8;have HB8:=zk (hb8 w9 HB5.out (le_refl _));have hzo:=HG5.out.own;have HG8:=zk (HG5.out.of (w':=w8) (λb e=>hg8 b (hzo b e).2 (λe2=>by have h1:=HV0.out i hlt b e2;have h2:=(hzo b e).1;omega)) hk8);have HC8:=zk (HC5.out.of (w':=w8) (Nat.le_succ i) (hg8 w9.heap.size (Nat.lt_of_lt_of_le hgl HW5.out) (HNE.out i hlt)) (λj h1 h2 b e=>hg8 b (Nat.lt_of_lt_of_le (HV0.out j h2 b e) HW5.out) (λe2=>HDJ.out i j hlt h2 (by omega) b e2 e)));have HL8:Hid (∀j,j<cs.length->Lv (2*L+1) w8 (E j) (zW rs ys j)):=λj hj=>(HL5.out j hj).kp hk8
     have R8:Rn (2*L+1) w8 s0 x0 n0 c0 f0 y0 m0 d0 g0 v.cost:=(Rn.kp R2.out hk8).mono (by omega);have HP8:=zk (zke (ao:=some ⟨g8,0,none⟩) (n:=(E i).length+1) (cap:=cap8) (E:=E i++[⟨s0,x0,n0,c0,f0,y0,m0,d0,g0⟩]) (by rw[List.length_append,List.length_singleton,show rcells (E i++[⟨s0,x0,n0,c0,f0,y0,m0,d0,g0⟩])=rcells (E i)++rcell ⟨s0,x0,n0,c0,f0,y0,m0,d0,g0⟩ by simp[rcells]];exact hr8) (Lv.snoc (t:=⟨s0,x0,n0,c0,f0,y0,m0,d0,g0⟩) (q:=v.cost) (HL8.out i hlt) R8) (by simp));have HLE:=zk (HL8.out i hlt).1;have HW8:=zk (le_trans HW5.out hk8.size);clear hr8 hk8 hb8 hg8 hl8 hrow R8 R2 HB5 HC5 HG5 HL5 hsz5 hzo HW5 hHeld;refine hK.out _ _ (λh=>by cases h) (λ_=>?_);clear hK K;try simp only[Act.put,List.setIfInBounds_toArray]
     refine rdP 9 (λK hK=>?_);go_simp
     go_at_call 33
     refine(zne (L:=2*L+1) HP8.out (by rw[List.length_append,<-HLE.out];rfl) (by omega) (by omega)).mono ?_;rintro e w7 ⟨s7,x7,n7,c7,f7,y7,m7,d7,g7,rfl,hb7,hq7⟩
     (try go_wp2_with fail)
     have HQ7:=zk (show Rn (KV L) w7 s7 x7 n7 c7 f7 y7 m7 d7 g7 (psum (zW rs ys i++[v.cost]) 0)from hq7.mono (by unfold KV;have:((E i).length+1)*(2*L+1+1)<=65*(2*L+1+1):=Nat.mul_le_mul_right _ (by omega);omega));replace HB8:=zJ HB8 hb7;replace HC8:=zk (HC8.out.q_ hb7);replace HG8:=zk (HG8.out.q_ hb7);replace HL8:Hid (∀j,j<cs.length->Lv (2*L+1) w7 (E j) (zW rs ys j)):=zk (λj hj=>(HL8.out j hj).q_ hb7);replace HW8:=zk (le_trans HW8.out hb7.size)
     clear hb7 hq7 HP8 HLE hen;refine hK.out _ _ (λh=>by cases h) (λ_=>?_);clear hK K;try simp only[zA,Act.put]
     refine rdP 10 (λK hK=>?_);go_simp;refine hK.out _ _ (λh=>by cases h) (λ_=>?_);clear hK K;try simp only[zA,Act.put]
     refine rdP 11 (λK hK=>?_);have hzo:=HG8.out.own;obtain⟨T,hrow,hT⟩:=HG8.out;rw[hgl2]at hrow
     have hsz8:w2.heap.size<=w7.heap.size:=HW8.out;refine zaj w7 rfl (.tmp 81) (.tmp 91) 29 rfl w2.heap.size 24 56 3 (agg #[.bool false,slice none 0 0,slice none 0 0]) underlying29 zaR rfl (by decide) nz3 u14 i _ rfl hrow #[.bool s7,slice x7 n7 c7,slice y7 m7 d7] rfl rfl (zdp _ _ _ _ _ _ _) (zcD _ _ _ _ _ _ _) ?p3 ?p4 hsz8 ?_
     case p3=>omega
     case p4=>omega
     intro g10 cap10 w10 hr10 hk10 hb10 hg10 hl10;have HB10:=zk (hb10 w9 HB8.out (Nat.le_of_lt hgl));have HC10:=zk (HC8.out.of (w':=w10) (le_refl _) (hg10 w9.heap.size (Nat.lt_of_lt_of_le hgl HW8.out) (λe=>by have:=(hzo _ e).1;omega)) (λj h1 h2 b e=>hg10 b (Nat.lt_of_lt_of_le (HV0.out j h2 b e) HW8.out) (λe2=>by have h3:=HV0.out j h2 b e;have h4:=(hzo b e2).1;omega)));have HL10:Hid (∀j,j<cs.length->Lv (2*L+1) w10 (E j) (zW rs ys j)):=λj hj=>(HL8.out j hj).kp hk10
     have HG10:Hid (Gr (KV L) w2.heap.size w10 (slice (some ⟨g10,0,none⟩) (i+1) cap10) (zaB rs ys 0 (cs.take (i+1)))):=by
      have hp8:=zeS hT (by rw[hgl2];exact hr10) hk10 HQ7.out;rw[hgl2]at hp8
      rw[zdT rs ys 0 HV2.out,Nat.zero_add];exact hp8
     have HW10:=zk (le_trans HW8.out hk10.size);clear hr10 hk10 hb10 hg10 hl10 hrow hT hzo HB8 HC8 HG8 HL8 HW8 HQ7 hsz8;refine hK.out _ _ (λh=>by cases h) (λ_=>?_);clear hK K;try simp only[Act.put,List.setIfInBounds_toArray]
     refine zaC (i:=12) (v:=?_) rfl (by kernel_rfl) (by kernel_rfl) (by kernel_rfl) (by kernel_rfl) (λ_ _ _ h=>h) (Or.inl ⟨by rfl,?_⟩) (λh=>by cases h) ?_;rotate_left
     (focus (intro w0 hSw;go_simp <;> with_reducible rfl))
     simp only[List.getElem_toArray,List.getElem_cons_succ,List.getElem_cons_zero,Act.put,List.setIfInBounds_toArray,List.set_cons_zero,List.set_cons_succ];refine dnP ?_;go_wp2;go_roundw
     case rel=>exact⟨i+1,by omega,by go_num,HB10.out,HW10.out,HC10.out,HL10.out,HG10.out⟩
     case measure=>simp[intOf];omega
    ·have e1:i=cs.length:=by omega
     have i4':¬(((i:Nat):Int)<((cs.length:Nat):Int)):=by omega
     obtain⟨va,vc,hvs,hvc⟩:=HG.out.slice;rw[hgl2]at hvs hvc
     have HG4:=HG.out;rw[hvs,List.take_of_length_le (show cs.length<=i by omega)]at HG4
     replace HG4:=zk (show Rf (KV L) wr va (zaB rs ys 0 cs)from HG4.rf);subst hvs;have HE:=zk (show cs.length=i by omega);have HV4:=zk hvc;clear HG e1 hvc HL HCT;go_wp2
     go_ret2
     exact⟨bUp HBA.out HB.out,.inr ⟨rfl,va,vc,by rw[HE.out];rfl,by rw[HE.out];exact HV4.out,HG4.out⟩⟩
def zlb (L:Nat) (w w':World) (e:Ending) (q:Rat):Prop:=∃s x n c f y m d g,e=.returned (agg #[.bool s,slice x n c,slice y m d])/\Bl w w'/\Rn L w' s x n c f y m d g q/\Own .u64 49 w' w.heap.size (slice x n c) n f/\Own .u64 49 w' w.heap.size (slice y m d) m g/\Apart x y
def zqf (L:Nat) (w w':World) (e:Ending) (q:Rat):Prop:=∃s x n c f y m d g,e=.returned (.tuple #[agg #[.bool s,slice x n c,slice y m d],.int .i64 0])/\Bl w w'/\Rn L w' s x n c f y m d g q/\Own .u64 49 w' w.heap.size (slice x n c) n f/\Own .u64 49 w' w.heap.size (slice y m d) m g/\Apart x y
theorem zng {w W:World} {b B n m c d:Nat} {x y:Option Addr} {f g:Nat->Int} (h1:Own .u64 49 w b (slice x n c) n f) (h2:Own .u64 49 W B (slice y m d) m g) (hB:w.heap.size<=B):Apart x y:=λp q hp hq=>by
 have e1:=(h1.slice.2.2.2.2 p hp).2;have e2:=(h2.slice.2.2.2.2 q hq).1;omega
theorem zpr {w:World} {b n c:Nat} {x:Option Addr} {f:Nat->Int} (h:Own .u64 49 w b (slice x n c) n f):Und x w.heap.size:=λp hp=>(h.slice.2.2.2.2 p hp).2
theorem zsO {w:World} {s t x y n m c d f g u v} (ha:Wn w s x n c f u) (hb:Wn w t y m d g v) (hn:n<=1048576) (hm:m<=1048576) :
  Calls prog 125 #[agg #[.bool s,slice x n c],agg #[.bool t,slice y m d]] w λe w'=>∃r z k e' h,e=.returned (.tuple #[agg #[.bool r,slice z k e'],.int .i64 0])/\Bl w w'/\k<=max n m+1/\Wn w' r z k e' h (u+v)/\Own .u64 49 w' w.heap.size (slice z k e') k h:=by
 refine(zmh s t x y n m c d f g w (by omega) (by omega) ha.rd hb.rd ha.lm hb.lm).mono ?_;rintro e w' ⟨r,z,k,e',h,er,rfl,hres,hans⟩;obtain⟨rfl,hv⟩:=hans.ok ⟨ha.wf,hb.wf⟩;exact⟨r,z,k,e',h,rfl,hres.res.bel,hres.res.le,hres.wn (by rw[hv,ha.val,hb.val]),hres.res.own⟩
theorem znn {w:World} {x n c f y m d g} {A B:Nat} (ha:Wn w false x n c f A) (hb:Wn w false y m d g B) (hn:n<=1048576) (hm:m<=1048576) :
  Calls prog 122 #[slice x n c,slice y m d] w λe w'=>∃z k e' h,e=.returned (.tuple #[slice z k e',.int .i64 0])/\Bl w w'/\k<=n+m/\Wn w' false z k e' h (A*B:Nat)/\Own .u64 49 w' w.heap.size (slice z k e') k h:=by
 refine(zow x y n m c d f g w (by omega) (by omega) ha.cap.1 hb.cap.1 ha.cap.2 hb.cap.2 ha.rd hb.rd ha.lm hb.lm).mono ?_;rintro e w' ⟨z,k,e',h,er,rfl,hres,hv⟩;have hr:=hres.ans (by omega);rcases hv with⟨_,_,rfl,hv⟩|⟨h1,_⟩
 ·refine⟨z,k,e',h,rfl,hr.bel,hr.le,⟨hr.rd,hr.lm,(wfB_iff _ _ _).2 ⟨hr.fm,λh=>by cases h⟩,hr.ncap,hr.nil',?_⟩,hr.own⟩;show vf h k=_;rw[hv,ha.nv,hb.nv];simp
 ·exact absurd ⟨ha.fm,hb.fm⟩ h1
theorem zsJ {w:World} {x n c f y m d g} {A B:Nat} (ha:Wn w false x n c f A) (hb:Wn w false y m d g B) (h0:0<B) (hn:n<=1048576) (hm:m<=1048576) :
  Calls prog 142 #[slice x n c,slice y m d] w λe w'=>∃z k e' h z2 k2 e2,e=.returned (.tuple #[slice z k e',slice z2 k2 e2,.int .i64 0])/\Bl w w'/\k<=n/\Wn w' false z k e' h (A/B:Nat)/\Own .u64 49 w' w.heap.size (slice z k e') k h:=by
 refine(ziM x y n m c d f g w (by omega) (by omega) ha.rd hb.rd ha.lm hb.lm).mono ?_;rintro e w' ⟨z,k,e',h,z2,k2,e2,r,er,rfl,hres,_,hv⟩;have hr:=hres.ans (by omega);have hmp:=hb.pos (by omega);rcases hv with⟨_,_,_,rfl,hv,h1,h2⟩|⟨_,_,h1,_⟩|⟨h1,_⟩
 ·refine⟨z,k,e',h,z2,k2,e2,rfl,hr.bel,hr.le,⟨hr.rd,hr.lm,(wfB_iff _ _ _).2 ⟨hr.fm,λh=>by cases h⟩,hr.ncap,hr.nil',?_⟩,hr.own⟩;show vf h k=_;rw[ha.nv,hb.nv]at hv
  rw[hb.nv]at h2
  have hq:=zz hr.lm;obtain⟨Q,hQ⟩:=Int.eq_ofNat_of_zero_le hq;obtain⟨R,hR⟩:=Int.eq_ofNat_of_zero_le h1;rw[hQ,hR]at hv
  rw[hR]at h2
  rw[hQ];have h3:A=Q*B+R:=by exact_mod_cast hv
  have h4:R<B:=by exact_mod_cast h2
  have:A/B=Q:=by rw[h3,Nat.mul_comm,Nat.mul_add_div h0,Nat.div_eq_of_lt h4];rfl
  rw[this]
 ·omega
 ·exact absurd ⟨ha.fm,hb.fm⟩ h1
theorem zrt {w:World} {x n c f y m d g} {A B:Nat} (ha:Wn w false x n c f A) (hb:Wn w false y m d g B) (h0:0<B) (hn:n<=1048576) (hm:m<=1048576) {base:Nat} (ho:Own .u64 49 w base (slice x n c) n f) (hbs:base<=w.heap.size) :
  Calls prog 123 #[slice x n c,slice y m d] w λe w'=>∃z k e' h,e=.returned (slice z k e')/\Bl w w'/\Hid (k<=n/\Wn w' false z k e' h (A/B:Nat)/\Own .u64 49 w' base (slice z k e') k h/\∀q,Und q w.heap.size->Apart x q->Apart z q):=by
 have C2:=zk (zdL hb);have C3:=zk (zsJ ha hb h0 hn hm);have HA:=zk ha;have HO:=zk ho
 clear ho;by_cases h2:B=1
 ·have e1:decide ((B:Int)=1)=true:=by simp[h2]
  have e2:A/B=A:=by rw[h2];simp
  rw[e2];rw[e1]at C2
  clear ha hb e1 e2 C3 h0 h2;go_enter func123,ntmps123;go_wp2_with fail
  refine C2.out.mono ?_;rintro e w1 ⟨rfl,rfl⟩;go_wp2;go_ret;exact⟨x,n,c,f,rfl,Below.refl _ _,le_refl _,HA.out,HO.out,λ_ _ hq=>hq⟩
 ·have e1:decide ((B:Int)=1)=false:=by simp;omega
  rw[e1]at C2
  clear ha hb e1 h0 h2;go_enter func123,ntmps123;go_wp2_with fail
  refine C2.out.mono ?_;rintro e w1 ⟨rfl,rfl⟩;go_wp2_with fail
  refine C3.out.mono ?_;rintro e w2 ⟨z,k,e',h,z2,k2,e2,rfl,h1,h2,h3,h4⟩;have H2:=zk (And.intro h2 (And.intro h3 (And.intro (h4.base hbs) (λ(q:Option Addr) (hq:Und q w1.heap.size) (_:Apart x q)=>show Apart z q from λp r hp hr=>by have e1:=(h4.slice.2.2.2.2 p hp).1;have e2:=hq r hr;omega))));clear h2 h3 h4;go_wp2;go_ret;exact⟨z,k,e',h,rfl,h1,H2.out⟩
theorem zmQ {L:Nat} {w:World} {sa:Bool} {xa:Option Addr} {na ca:Nat} {fa:Nat->Int} {ya:Option Addr} {ma da:Nat} {ga:Nat->Int} {a:Rat} {sb:Bool} {xb:Option Addr} {nb cb:Nat} {fb:Nat->Int} {yb:Option Addr} {mb db:Nat} {gb:Nat->Int} {b:Rat} (ha:Rn L w sa xa na ca fa ya ma da ga a) (hb:Rn L w sb xb nb cb fb yb mb db gb b) (hL:L<=200000) :
  Calls prog 98 #[agg #[.bool sa,slice xa na ca,slice ya ma da],agg #[.bool sb,slice xb nb cb,slice yb mb db]] w λe w'=>zlb (2*L+1) w w' e (a+b):=by
 have HA0:=zk ha;have HB0:=zk hb
 have b1:=ha.ln;have b2:=ha.ld;have b3:=hb.ln;have b4:=hb.ld
 clear ha hb;go_enter func98,ntmps98;go_wp2_with fail
 refine(zbG (((HA0.out.den.alloc _).alloc _).alloc _) (((HB0.out.den.alloc _).alloc _).alloc _) (by omega) (by omega)).mono ?_;rintro e w1 ⟨zg,kg,cg,fg,rfl,hbel,hg⟩;obtain⟨⟨hz,x0,x1,x2,y0,y1,y2,z0,z1,z2,zf⟩,hw⟩:=zbC hbel;have T1:Hid (Three w.heap.size w1 _ _ _ _ _ _ _ _ _):=⟨hz,x0,x1,x2,y0,y1,y2,z0,z1,z2,zf⟩;have HW1:=zk hw;have WG1:=zk hg;have HA1:=zk (HA0.out.q_ hw);have HB1:=zk (HB0.out.q_ hw)
 have hG0:0<a.den.gcd b.den:=Nat.gcd_pos_of_pos_left _ a.den_pos;have hkg:kg<=L:=le_trans (hg.len_le HA1.out.den (Nat.gcd_le_left _ a.den_pos)) (by omega);clear hbel hw hg HA0 HB0;have C1:Hid ((∀W,Bl w1 W->Calls prog 123 #[slice ya ma da,slice zg kg cg] W λe w'=>∃z k e' h,e=.returned (slice z k e')/\Bl W w'/\Hid (k<=L/\Wn w' false z k e' h (a.den/a.den.gcd b.den:Nat)))):=λW hW=>(zbI (HA1.out.den.q_ hW) (WG1.out.q_ hW) hG0 (by omega) (by omega)).mono (λe w' ⟨z,k,e',h,h1,h2,h3⟩=>⟨z,k,e',h,h1,h2,by have:=h3.out.1;omega,h3.out.2⟩)
 have C2:Hid ((∀W,Bl w1 W->Calls prog 123 #[slice yb mb db,slice zg kg cg] W λe w'=>∃z k e' h,e=.returned (slice z k e')/\Bl W w'/\Hid (k<=L/\Wn w' false z k e' h (b.den/a.den.gcd b.den:Nat)))):=λW hW=>(zbI (HB1.out.den.q_ hW) (WG1.out.q_ hW) hG0 (by omega) (by omega)).mono (λe w' ⟨z,k,e',h,h1,h2,h3⟩=>⟨z,k,e',h,h1,h2,by have:=h3.out.1;omega,h3.out.2⟩)
 go_wp2_with fail
 go_region_held3 (λw'=>w'.cell? ⟨w.heap.size,2,none⟩=some (slice ya ma da)/\w'.cell? ⟨w.heap.size+1,2,none⟩=some (slice yb mb db))
  (refine⟨?_,?_⟩ <;> repeat(with_reducible first|assumption|refine kCd ?_|refine kCa ?_|refine kCb (by assumption) ?_))
  (first
   | (go_at_call 123;with_reducible refine(C1.out _ zai).mono ?_;rintro e w2 ⟨zp,kp,cp,fp,rfl,hb2,HP⟩)
   | (go_at_call 123;with_reducible refine(C2.out _ zai).mono ?_;rintro e w3 ⟨zq,kq,cq,fq,rfl,hb3,HQ⟩))
 have hb:Bl w1 w3:=zai;have hkp:=HP.out.1;have hkq:=HQ.out.1
 have WP3:=zk (HP.out.2.q_ hb3);have WQ3:=zk HQ.out.2;clear HP HQ C1 C2 hb2 hb3;have HA3:=zk (HA1.out.q_ hb);have HB3:=zk (HB1.out.q_ hb);have T3:=zk (T1.out.q_ hb);have WG3:=zk (WG1.out.q_ hb);have HW3:=zk (HW1.out.trans (hb.mono HW1.out.size))
 clear HA1 HB1 T1 WG1 HW1 hb;clear hz x0 x1 x2 y0 y1 y2 z0 z1 z2 zf;obtain⟨hz,x0,x1,x2,y0,y1,y2,z0,z1,z2,zf⟩:=T3.out;have hza:w.heap.size<w3.heap.size:=by omega
 have hzb:w.heap.size+1<w3.heap.size:=by omega
 go_wp2_with fail
 refine(zcl sa xa ya na ca ma da _).mono ?_;rintro e w4 ⟨rfl,hb⟩;have HA4:=zk (HA3.out.q_ hb);have HB4:=zk (HB3.out.q_ hb);have T4:=zk (T3.out.q_ hb);have WG4:=zk (WG3.out.q_ hb);have WP4:=zk (WP3.out.q_ hb);have WQ4:=zk (WQ3.out.q_ hb);have HW4:=zk (HW3.out.trans (hb.mono HW3.out.size))
 clear HA3 HB3 T3 WG3 WP3 WQ3 HW3 hb;clear hza hzb hz x0 x1 x2 y0 y1 y2 z0 z1 z2 zf;obtain⟨hz,x0,x1,x2,y0,y1,y2,z0,z1,z2,zf⟩:=T4.out;have hza:w.heap.size<w4.heap.size:=by omega
 have hzb:w.heap.size+1<w4.heap.size:=by omega
 go_wp2_with fail
 refine(zku HA4.out.num WQ4.out (by omega) (by omega)).mono ?_;rintro e w5 ⟨s5,p5,k5,c5,f5,rfl,hb,hk5,hp⟩;have WX5:=zk hp;clear hp WQ4;have HA5:=zk (HA4.out.q_ hb);have HB5:=zk (HB4.out.q_ hb);have T5:=zk (T4.out.q_ hb);have WG5:=zk (WG4.out.q_ hb);have WP5:=zk (WP4.out.q_ hb);have HW5:=zk (HW4.out.trans (hb.mono HW4.out.size))
 clear HA4 HB4 T4 WG4 WP4 HW4 hb;clear hza hzb hz x0 x1 x2 y0 y1 y2 z0 z1 z2 zf;obtain⟨hz,x0,x1,x2,y0,y1,y2,z0,z1,z2,zf⟩:=T5.out;have hza:w.heap.size<w5.heap.size:=by omega
 have hzb:w.heap.size+1<w5.heap.size:=by omega
 go_wp2_with fail
 refine(zcl sb xb yb nb cb mb db _).mono ?_;rintro e w6 ⟨rfl,hb⟩;have BX6:=zk (zht hb);have HB6:=zk (HB5.out.next hb);have T6:=zk (T5.out.next hb);have WG6:=zk (WG5.out.next hb);have WP6:=zk (WP5.out.next hb);have WX6:=zk (WX5.out.next hb);have HW6:=zk ((zu HW5.out _).trans (hb.mono (zu HW5.out _).size))
 clear HB5 T5 WG5 WP5 WX5 HW5 hb;clear hza hzb hz x0 x1 x2 y0 y1 y2 z0 z1 z2 zf;obtain⟨hz,x0,x1,x2,y0,y1,y2,z0,z1,z2,zf⟩:=T6.out;have hza:w.heap.size<w6.heap.size:=by omega
 have hzb:w.heap.size+1<w6.heap.size:=by omega
 go_wp2_with fail
 refine(zku HB6.out.num WP6.out (by omega) (by omega)).mono ?_;rintro e w7 ⟨s7,p7,k7,c7,f7,rfl,hb,hk7,hp⟩;have WY7:=zk hp;clear hp;have HB7:=zk (HB6.out.q_ hb);have T7:=zk (T6.out.q_ hb);have WG7:=zk (WG6.out.q_ hb);have WP7:=zk (WP6.out.q_ hb);have WX7:=zk (WX6.out.q_ hb);have BX7:=zk (BX6.out.q_ hb);have HW7:=zk (HW6.out.trans (hb.mono HW6.out.size))
 clear HB6 T6 WG6 WP6 WX6 BX6 HW6 hb;clear hza hzb hz x0 x1 x2 y0 y1 y2 z0 z1 z2 zf;obtain⟨hz,x0,x1,x2,y0,y1,y2,z0,z1,z2,zf⟩:=T7.out;have hza:w.heap.size<w7.heap.size:=by omega
 have hzb:w.heap.size+1<w7.heap.size:=by omega
 obtain⟨hzx,bx0,bx1⟩:=BX7.out;go_wp2_with fail
 refine(zsO (WX7.out.alloc _) (WY7.out.alloc _) (by omega) (by omega)).mono ?_;rintro e w8 ⟨s8,p8,k8,c8,f8,rfl,hb,hk8,hp,ho8⟩;have WS8:=zk hp;have OS8:=zk (ho8.base (show(w.heap.size+1+1+1)<=_ by rw[zw];omega))
 clear ho8;clear hp hzx bx0 bx1 WX7 WY7 BX7;have HB8:=zk (HB7.out.next hb);have T8:=zk (T7.out.next hb);have WG8:=zk (WG7.out.next hb);have WP8:=zk (WP7.out.next hb);have HW8:=zk ((zu HW7.out _).trans (hb.mono (zu HW7.out _).size))
 clear HB7 T7 WG7 WP7 HW7 hb;clear hza hzb hz x0 x1 x2 y0 y1 y2 z0 z1 z2 zf;obtain⟨hz,x0,x1,x2,y0,y1,y2,z0,z1,z2,zf⟩:=T8.out;have hza:w.heap.size<w8.heap.size:=by omega
 have hzb:w.heap.size+1<w8.heap.size:=by omega
 have hz8:=hz;obtain⟨S,hS⟩:∃S,S=a.num*(b.den/a.den.gcd b.den:Nat)+b.num*(a.den/a.den.gcd b.den:Nat):=⟨_,rfl⟩;rw[<-hS]at WS8
 have HS:=zk hS;clear hS;go_wp2_with fail
 refine(zbG (WS8.out.mag.alloc _) (WG8.out.alloc _) (by omega) (by omega)).mono ?_;rintro e w9 ⟨zl,kl,cl,fl,rfl,hb,hl⟩;have WL9:=zk hl;have BS9:=zk (zht hb)
 have hl0:0<S.natAbs.gcd (a.den.gcd b.den):=Nat.gcd_pos_of_pos_right _ hG0;have hkl:kl<=L:=le_trans (hl.len_le WG8.out (Nat.gcd_le_right _ hG0)) (by omega);clear hl WG8;have HB9:=zk (HB8.out.next hb);have T9:=zk (T8.out.next hb);have WP9:=zk (WP8.out.next hb);have WS9:=zk (WS8.out.next hb);have OS9:=zk ((OS8.out.alloc _).q_ hb);have HW9:=zk ((zu HW8.out _).trans (hb.mono (zu HW8.out _).size))
 clear HB8 T8 WP8 WS8 HW8 hb;clear hza hzb hz x0 x1 x2 y0 y1 y2 z0 z1 z2 zf;obtain⟨hz,x0,x1,x2,y0,y1,y2,z0,z1,z2,zf⟩:=T9.out;have hza:w.heap.size<w9.heap.size:=by omega
 have hzb:w.heap.size+1<w9.heap.size:=by omega
 go_wp2_with fail
 refine(zbI HB9.out.den WL9.out hl0 (by omega) (by omega)).mono ?_;rintro e w10 ⟨zo,ko,co,fo,rfl,hb,HO⟩;have hko:=HO.out.1;have WO10:=zk HO.out.2
 clear HO HB9;have T10:=zk (T9.out.q_ hb);have WP10:=zk (WP9.out.q_ hb);have WS10:=zk (WS9.out.q_ hb);have OS10:=zk (OS9.out.q_ hb);have WL10:=zk (WL9.out.q_ hb);have BS10:=zk (BS9.out.q_ hb);have HW10:=zk (HW9.out.trans (hb.mono HW9.out.size))
 clear T9 WP9 WS9 WL9 BS9 HW9 hb;clear hza hzb hz x0 x1 x2 y0 y1 y2 z0 z1 z2 zf;obtain⟨hz,x0,x1,x2,y0,y1,y2,z0,z1,z2,zf⟩:=T10.out;have hza:w.heap.size<w10.heap.size:=by omega
 have hzb:w.heap.size+1<w10.heap.size:=by omega
 go_wp2_with fail
 refine(znn WP10.out WO10.out (by omega) (by omega)).mono ?_;rintro e w11 ⟨zd,kd,cd,fd,rfl,hb,hkd,hp,hod⟩;have WD11:=zk hp;have AP11:=zk (zng OS10.out hod (le_refl _));have OD11:=zk (hod.base (show(w.heap.size+1+1+1)<=_ by omega))
 clear hod;clear hp WP10 WO10;have T11:=zk (T10.out.q_ hb);have WS11:=zk (WS10.out.q_ hb);have OS11:=zk (OS10.out.q_ hb);have WL11:=zk (WL10.out.q_ hb);have BS11:=zk (BS10.out.q_ hb);have HW11:=zk (HW10.out.trans (hb.mono HW10.out.size))
 clear T10 WS10 WL10 BS10 HW10 hb;clear hza hzb hz x0 x1 x2 y0 y1 y2 z0 z1 z2 zf;obtain⟨hz,x0,x1,x2,y0,y1,y2,z0,z1,z2,zf⟩:=T11.out;have hza:w.heap.size<w11.heap.size:=by omega
 have hzb:w.heap.size+1<w11.heap.size:=by omega
 obtain⟨hzs,bs0,bs1⟩:=BS11.out;have C3:Hid (∀W,Bl w11 W->Calls prog 123 #[slice p8 k8 c8,slice zl kl cl] W λe w'=>∃z k e' h,e=.returned (slice z k e')/\Bl W w'/\Hid (k<=k8/\Wn w' false z k e' h (S.natAbs/S.natAbs.gcd (a.den.gcd b.den):Nat)/\Own .u64 49 w' (w.heap.size+1+1+1) (slice z k e') k h/\Apart z zd)):=λW hW=>(zrt (WS11.out.mag.q_ hW) (WL11.out.q_ hW) hl0 (by omega) (by omega) (OS11.out.q_ hW) (le_trans (show(w.heap.size+1+1+1)<=w11.heap.size by omega) hW.size)).mono (λ_ _ ⟨z,k,e',h,k1,k2,k3⟩=>⟨z,k,e',h,k1,k2,k3.out.1,k3.out.2.1,k3.out.2.2.1,k3.out.2.2.2 zd (λp hp=>Nat.lt_of_lt_of_le (zpr OD11.out p hp) hW.size) AP11.out⟩)
 have C4:Hid (∀(W:World) (z:Option Addr) (k c:Nat),k<=1048576->Calls prog 62 #[.bool s8,slice z k c,slice zd kd cd] W λe w'=>∃r,e=.returned (agg #[.bool r,slice z k c,slice zd kd cd])/\Bl W w'/\Hid (r=(s8 && decide (0<k)))):=λW z k c hk=>(zbD s8 z zd k c kd cd W (by omega)).mono (λe w' ⟨r,h1,h2,h3⟩=>⟨r,h1,h3,h2⟩)
 go_wp2_with fail
 go_region_held3 (λw'=>w'.cell? ⟨w8.heap.size,0,none⟩=some (.bool s8)/\w'.cell? ⟨w8.heap.size,1,none⟩=some (slice p8 k8 c8)/\(w'.cell? ⟨w.heap.size+1+1,0,none⟩).isSome=true/\(w'.cell? ⟨w.heap.size+1+1,1,none⟩).isSome=true/\(w'.cell? ⟨w.heap.size+1+1,2,none⟩).isSome=true/\w'.frozen? ⟨w.heap.size+1+1,0,none⟩=false/\w'.frozen? ⟨w.heap.size+1+1,1,none⟩=false/\w'.frozen? ⟨w.heap.size+1+1,2,none⟩=false)
  (refine⟨?_,?_,?_,?_,?_,?_,?_,?_⟩ <;> repeat(with_reducible first|assumption|exact zf _|exact uf _|exact vf' _|exact kI0 z0|exact kI0 z1|exact kI0 z2|exact kI0 u0|exact kI0 u1|exact kI0 u2|exact kI0 v0|exact kI0 v1|exact kI0 v2|refine kCd ?_|refine kId ?_|refine kFd ?_|refine kCs (by simp only[ne_eq];omega) ?_|refine kIs ?_|refine kFs ?_|refine kCb (by assumption) ?_|refine kIb (by assumption) ?_))
  (first
   | (go_at_call 123;with_reducible refine(C3.out _ zai).mono ?_;rintro e w12 ⟨zn,kn,cn,fn,rfl,hb2,HN⟩;have hkn:kn<=1048576:=(by have:=HN.out.1;omega);have TU:Three w.heap.size w12 (.bool sa) (slice xa na ca) (slice ya ma da) (.bool sb) (slice xb nb cb) (slice yb mb db) (.bool false) (slice none 0 0) (slice none 0 0):=(by repeat(with_reducible first|exact T11.out|exact TU|refine kTd ?_|refine kTb (by assumption) ?_));obtain⟨_,_,_,_,_,_,_,u0,u1,u2,uf⟩:=id TU)
   | (go_at_call 62;with_reducible refine(C4.out _ zn kn cn hkn).mono ?_;rintro e w13 ⟨rs,rfl,hb3,HRS⟩;have TV:Three w.heap.size w13 (.bool sa) (slice xa na ca) (slice ya ma da) (.bool sb) (slice xb nb cb) (slice yb mb db) (.bool false) (slice none 0 0) (slice none 0 0):=(by repeat(with_reducible first|exact T11.out|exact TU|refine kTd ?_|refine kTb (by assumption) ?_));obtain⟨_,_,_,_,_,_,_,v0,v1,v2,vf'⟩:=id TV))
 have WN:Wn w13 false zn kn cn fn _:=HN.out.2.1.q_ hb3;have ON:=HN.out.2.2.1.q_ hb3;have hw13:Bl w11 w13:=zai;have hm:=ziG HS.out WS11.out.sgn;have hkn':=HN.out.1;go_wp2;refine bodyPost_ret (v:=agg #[.bool rs,slice zn kn cn,slice zd kd cd]) (by simp[results,results98,go_sem,v0,v1,v2]) rfl ⟨rs,zn,kn,cn,fn,zd,kd,cd,fd,rfl,zbg (HW11.out.trans (hw13.mono HW11.out.size)),⟨?_,?_,?_,?_⟩,(zcT ON (by omega)).base (by omega),(zcT (OD11.out.q_ hw13) (by omega)).base (by omega),HN.out.2.2.2⟩
 ·rw[<-hm.1];exact TV.store (WN.resign HRS.out)
 ·rw[<-hm.2];exact TV.store (WD11.out.q_ hw13)
 ·omega
 ·omega
theorem zrl {L:Nat} {w:World} {sa:Bool} {xa:Option Addr} {na ca:Nat} {fa:Nat->Int} {ya:Option Addr} {ma da:Nat} {ga:Nat->Int} {a:Rat} {sb:Bool} {xb:Option Addr} {nb cb:Nat} {fb:Nat->Int} {yb:Option Addr} {mb db:Nat} {gb:Nat->Int} {b:Rat} (ha:Rn L w sa xa na ca fa ya ma da ga a) (hb:Rn L w sb xb nb cb fb yb mb db gb b) (hL:L<=200000) :
  Calls prog 65 #[agg #[.bool sa,slice xa na ca,slice ya ma da],agg #[.bool sb,slice xb nb cb,slice yb mb db]] w λe w'=>zqf (2*L+1) w w' e (a+b):=by
 have HA0:=zk ha;have HB0:=zk hb
 clear ha hb;go_enter func65,ntmps65;go_wp2_with fail
 refine(zbz (((HA0.out.alloc _).alloc _).alloc _) (by omega)).mono ?_;rintro e w1 ⟨rfl,hbel⟩;obtain⟨⟨hz,x0,x1,x2,y0,y1,y2,z0,z1,z2,zf⟩,hw⟩:=zbC hbel;have T1:Hid (Three w.heap.size w1 _ _ _ _ _ _ _ _ _):=⟨hz,x0,x1,x2,y0,y1,y2,z0,z1,z2,zf⟩;have HW1:=zk hw;have HA1:=zk (HA0.out.q_ hw);have HB1:=zk (HB0.out.q_ hw)
 clear hbel hw HA0 HB0;go_wp2_with fail
 refine(zbz HB1.out (by omega)).mono ?_;rintro e w2 ⟨rfl,hb⟩;have HA2:=zk (HA1.out.q_ hb);have HB2:=zk (HB1.out.q_ hb);have T2:=zk (T1.out.q_ hb);have HW2:=zk (HW1.out.trans (hb.mono HW1.out.size))
 clear HA1 HB1 T1 HW1 hb;clear hz x0 x1 x2 y0 y1 y2 z0 z1 z2 zf;obtain⟨hz,x0,x1,x2,y0,y1,y2,z0,z1,z2,zf⟩:=T2.out;have hza:w.heap.size<w2.heap.size:=by omega
 have hzb:w.heap.size+1<w2.heap.size:=by omega
 go_wp2_with fail
 refine(zmQ HA2.out HB2.out hL).mono ?_;rintro e w3 ⟨rs,zn,kn,cn,fn,zd,kd,cd,fd,rfl,hb,hr,hon,hod,hap⟩;have HR:=zk hr;have AP:=zk hap;have ON:=zk (hon.base (show(w.heap.size+1+1+1)<=_ by omega));have OD:=zk (hod.base (show(w.heap.size+1+1+1)<=_ by omega))
 clear hon hod hap;clear hr;have T3:=zk (T2.out.q_ hb);have HW3:=zk (HW2.out.trans (hb.mono HW2.out.size))
 clear T2 HW2 hb;clear hza hzb hz x0 x1 x2 y0 y1 y2 z0 z1 z2 zf;obtain⟨hz,x0,x1,x2,y0,y1,y2,z0,z1,z2,zf⟩:=T3.out;have hza:w.heap.size<w3.heap.size:=by omega
 have hzb:w.heap.size+1<w3.heap.size:=by omega
 go_wp2;refine bodyPost_ret (v:=.tuple #[agg #[.bool rs,slice zn kn cn,slice zd kd cd],.int .i64 0]) (by simp[results,results65,go_sem,z0,z1,z2]) rfl ⟨rs,zn,kn,cn,fn,zd,kd,cd,fd,rfl,zbg HW3.out,⟨?_,?_,HR.out.ln,HR.out.ld⟩,(zcT ON.out (by omega)).base (by omega),(zcT OD.out (by omega)).base (by omega),AP.out⟩
 ·exact T3.out.store HR.out.num
 ·exact T3.out.store HR.out.den
theorem zmS (w:World) :
  Calls prog 97 #[] w λe w'=>∃x f,e=.returned (slice x 1 1)/\Bl w w'/\Wn w' false x 1 1 f 1/\Own .u64 49 w' w.heap.size (slice x 1 1) 1 f:=by
 go_enter func97,ntmps97;go_wp2;go_ret;refine⟨_,λ_=>1,rfl,?_,?_,zgT w w.heap.size w.heap.size 1 (le_refl _) rfl⟩
 ·exact zu (Below.refl _ _) _
 ·refine⟨Rd.mk (λj hj=>?_),λj _=>by simp,?_,by omega,(λh=>by cases h),?_⟩
  ·have:j=0:=by omega
   subst this;simp[go_sem]
  ·decide
  ·simp[wv,vf,pw]
theorem zsp {w:World} {z:Int} (h0:-9223372036854775808<=z) (h1:z<=9223372036854775807) :
  Calls prog 64 #[.int .i64 z] w λe w'=>zlb 4 w w' e (z:Rat):=by
 have h2:=zaA w 24;have h3:=zu (Below.refl w.heap.size w) (cells #[.bool false,slice none 0 0,slice none 0 0] 24);go_enter func64,ntmps64;go_wp2_with fail
 generalize w.alloc (cells #[.bool false,slice none 0 0,slice none 0 0] 24)=w1 at *;have OB1:=zk h2;have HW1:=zk h3
 clear h2 h3;refine(zqg z w1 h0 h1).mono ?_;rintro e w2 ⟨s2,x2,n2,c2,f2,rfl,hr2,hv2⟩;have hb:=hr2.res.bel;have hn2:=hr2.res.le;have hz1:=OB1.out.z;have hos:=(hr2.res.own.base (show w.heap.size+1<=_ by omega)).alloc (cells #[.bool s2,slice x2 n2 c2] 150);clear hz1;have hw2:=(hr2.wn hv2).alloc (cells #[.bool s2,slice x2 n2 c2] 150);have hbx:Bx (w2.alloc (cells #[.bool s2,slice x2 n2 c2] 150)) w2.heap.size s2 x2 n2 c2:=⟨by simp,kN0,kN1⟩;have hob:=(OB1.out.q_ hb).alloc (cells #[.bool s2,slice x2 n2 c2] 150);have hbw:=zu (HW1.out.trans (hb.mono HW1.out.size)) (cells #[.bool s2,slice x2 n2 c2] 150);have hB8:w.heap.size<w2.heap.size:=(OB1.out.q_ hb).z;clear hr2 hv2 hb OB1 HW1;go_wp2_with fail
 generalize w2.alloc (cells #[.bool s2,slice x2 n2 c2] 150)=w3 at *;generalize w2.heap.size=b3 at *;have W3:=zk hw2;have OS:=zk hos;have OB:=zk hob;have HW:=zk hbw
 obtain⟨za,a0,a1⟩:=hbx;obtain⟨hz,z0,z1,z2,zf⟩:=hob;clear hw2 hbw hos;have C1:Hid (∀W:World,Bl w3 W->Calls prog 97 #[] W λe w'=>∃x f,e=.returned (slice x 1 1)/\Bl W w'/\Hid (Wn w' false x 1 1 f 1/\Own .u64 49 w' (w.heap.size+1) (slice x 1 1) 1 f/\Apart x2 x)):=λW hW=>(zmS W).mono (λ_ _ ⟨x,f,k1,k2,k3,k4⟩=>⟨x,f,k1,k2,k3,k4.base (le_trans (show w.heap.size+1<=w3.heap.size by omega) hW.size),zng OS.out k4 hW.size⟩)
 have C2:Hid (∀(W:World) (y:Option Addr),Calls prog 62 #[.bool s2,slice x2 n2 c2,slice y 1 1] W λe w'=>∃r,e=.returned (agg #[.bool r,slice x2 n2 c2,slice y 1 1])/\Bl W w'/\Hid (r=(s2 && decide (0<n2)))):=λW y=>(zbD s2 x2 y n2 c2 1 1 W (by omega)).mono (λ_ _ ⟨r,k1,k2,k3⟩=>⟨r,k1,k3,k2⟩)
 go_region_held3 (λw'=>w'.cell? ⟨b3,0,none⟩=some (.bool s2)/\w'.cell? ⟨b3,1,none⟩=some (slice x2 n2 c2)/\(w'.cell? ⟨w.heap.size,0,none⟩).isSome=true/\(w'.cell? ⟨w.heap.size,1,none⟩).isSome=true/\(w'.cell? ⟨w.heap.size,2,none⟩).isSome=true/\w'.frozen? ⟨w.heap.size,0,none⟩=false/\w'.frozen? ⟨w.heap.size,1,none⟩=false/\w'.frozen? ⟨w.heap.size,2,none⟩=false)
  (refine⟨?_,?_,?_,?_,?_,?_,?_,?_⟩ <;> repeat(with_reducible first|assumption|exact zf _|exact tf _|exact uf _|exact kI0 z0|exact kI0 z1|exact kI0 z2|exact kI0 t0|exact kI0 t1|exact kI0 t2|exact kI0 u0|exact kI0 u1|exact kI0 u2|refine kCd ?_|refine kId ?_|refine kFd ?_|refine kCs (by simp only[ne_eq];omega) ?_|refine kIs ?_|refine kFs ?_|refine kCb (by assumption) ?_|refine kIb (by assumption) ?_))
  (first
   | (go_at_call 97;with_reducible refine(C1.out _ zai).mono ?_;rintro e v5 ⟨y5,f5,rfl,hb5,H5⟩;have Tt:Ob v5 (w.heap.size):=(by repeat(with_reducible first|exact OB.out|exact Tt|exact Tu|refine Ob.drew ?_|refine kOb (by assumption) ?_));obtain⟨_,t0,t1,t2,tf⟩:=id Tt)
   | (go_at_call 62;with_reducible refine(C2.out _ y5).mono ?_;rintro e v6 ⟨r6,rfl,hb6,H6⟩;have Tu:Ob v6 (w.heap.size):=(by repeat(with_reducible first|exact OB.out|exact Tt|exact Tu|refine Ob.drew ?_|refine kOb (by assumption) ?_));obtain⟨_,u0,u1,u2,uf⟩:=id Tu))
 all_goals
  have W5:Wn v6 false y5 1 1 f5 1:=(by repeat(with_reducible first|exact H5.out.1|refine kWd ?_|refine kWb (by assumption) ?_));have hb:Bl w3 v6:=zar;have O5:Own .u64 49 v6 (w.heap.size+1) (slice y5 1 1) 1 f5:=H5.out.2.1.q_ hb6;have hr:r6=s2:=by
   rw[H6.out];have:=((wfB_iff _ _ _).1 W3.out.wf).2;cases s2
   ·rfl
   ·simp;exact this rfl
  subst hr;go_wp2;refine bodyPost_ret (v:=agg #[.bool r6,slice x2 n2 c2,slice y5 1 1]) (by simp[results,results64,go_sem,u0,u1,u2]) rfl ⟨r6,x2,n2,c2,f2,y5,1,1,f5,rfl,zU (HW.out.trans (hb.mono HW.out.size)) (le_refl _),Tu.rn ⟨?_,?_,by omega,by omega⟩,(zcT (OS.out.q_ hb) (by omega)).base (by omega),(zcT O5 (by omega)).base (by omega),H5.out.2.2⟩
  ·rw[Rat.num_intCast];exact W3.out.q_ hb
  ·rw[Rat.den_intCast];exact W5
theorem zkq {w base s x n c f y m d g} (h1:Own .u64 49 w base (slice x n c) n f) (h2:Own .u64 49 w base (slice y m d) m g):Dw2 w base ⟨s,x,n,c,f,y,m,d,g⟩:=⟨zjg h2,zjg h1⟩
theorem Dw.base {w b b' y m} (h:Dw w b y m) (hb:b'<=b):Dw w b' y m:=λhm=>by
 obtain⟨k,h1,h2,h3⟩:=h hm;exact⟨k,h1,le_trans hb h2,h3⟩
theorem Dw2.base {w b b' t} (h:Dw2 w b t) (hb:b'<=b):Dw2 w b' t:=⟨h.1.base hb,h.2.base hb⟩
theorem Dw.of {w w' base y m} (h:Dw w base y m) (hb:∀b,base<=b->b<w.heap.size->∀q,w.cell? ⟨b,0,none⟩=some (.int .u64 q)->w'.heap[b]?=w.heap[b]?):Dw w' base y m:=λhm=>by
 obtain⟨k,h1,h2,⟨q,h3⟩,h4⟩:=h hm;have e:=hb k h2 (World.block_lt_of_cell? w _ h3) q h3;exact⟨k,h1,h2,⟨q,(cell?_of_block (a:=⟨k,0,none⟩) e).trans h3⟩,by simp only[World.frozen?,e]at h4 ⊢;exact h4⟩
theorem zsz {w w' b q} (hk:Kp w w') (h:w.cell? ⟨b,0,none⟩=some (.int .u64 q)):w'.heap[b]?=w.heap[b]?:=by
 rcases hk.block b (World.block_lt_of_cell? w _ h)with h1|⟨cur,t,fr,h1,h2⟩
 ·exact h1
 ·exfalso;simp[World.cell?,h1]at h
  exact h2 _ _ h
theorem Dw2.kpu {w w' base t} (h:Dw2 w base t) (hk:Kp w w'):Dw2 w' base t:=⟨h.1.of λ_ _ _ _ e=>zsz hk e,h.2.of λ_ _ _ _ e=>zsz hk e⟩
theorem Dw2.st3 {w base t B s x n c y m d v0 v1 v2} (h:Dw2 w base t) (S:Sx w B s x n c y m d):Dw2 (((w.setCell ⟨B,0,none⟩ v0).setCell ⟨B,1,none⟩ v1).setCell ⟨B,2,none⟩ v2) base t:=by
 have a1:(w.setCell ⟨B,0,none⟩ v0).cell? ⟨B,1,none⟩=some (slice x n c):=(World.cell?_setCell_other _ _ _ _ (by simp)).trans S.x1;have a2:((w.setCell ⟨B,0,none⟩ v0).setCell ⟨B,1,none⟩ v1).cell? ⟨B,2,none⟩=some (slice y m d):=(World.cell?_setCell_other _ _ _ _ (by simp)).trans ((World.cell?_setCell_other _ _ _ _ (by simp)).trans S.x2);exact((h.set S.x0 (by simp)).set a1 (by simp)).set a2 (by simp)
theorem Rn.keep {L w w' base t q} (h:Rn L w t.s t.x t.n t.c t.f t.y t.m t.d t.g q) (hd:Dw2 w base t) (hb:∀b,base<=b->b<w.heap.size->w'.heap[b]?=w.heap[b]?):Rn L w' t.s t.x t.n t.c t.f t.y t.m t.d t.g q:=by
 have hrd:∀{x:Option Addr} {n:Nat} {f:Nat->Int},Rd .u64 w x n f->Dw w base x n->Rd .u64 w' x n f:=λ{x n f} hr hw i hi=>by
  obtain⟨b,o,e,hc⟩:=hr i hi;obtain⟨b',e',hge,_⟩:=hw (by omega);rw[e]at e'
  cases e'
  exact⟨b,0,e,(cell?_of_block (a:=⟨b,0+i,none⟩) (hb b hge (World.block_lt_of_cell? w _ hc))).trans hc⟩
 obtain⟨hn,hm,h1,h2⟩:=h;exact⟨⟨hrd hn.rd hd.2,hn.lm,hn.wf,hn.cap,hn.nil,hn.val⟩,⟨hrd hm.rd hd.1,hm.lm,hm.wf,hm.cap,hm.nil,hm.val⟩,h1,h2⟩
def GrO (K base:Nat) (w:World) (v:Value) (p:List Rat):Prop:=∃T:Nat->Nm,RowG 24 3 base w v p.length (rcells (rls p.length T))/\∀(j:Nat) (q:Rat),p[j]?=some q->Rn K w (T j).s (T j).x (T j).n (T j).c (T j).f (T j).y (T j).m (T j).d (T j).g q/\Dw2 w base (T j)
theorem zeT (K base:Nat) (w:World):GrO K base w (slice none 0 0) []:=⟨λ_=>⟨false,none,0,0,λ_=>0,none,0,0,λ_=>0⟩,zak _ _ _ _,λj q h=>by simp at h⟩
theorem GrO.gr {K base w v p} (h:GrO K base w v p):Gr K base w v p:=by
 obtain⟨T,h1,h2⟩:=h;exact⟨T,h1,λj q e=>(h2 j q e).1⟩
theorem GrO.q_ {K base w w' v p} (h:GrO K base w v p) (hb:Bl w w'):GrO K base w' v p:=by
 obtain⟨T,h1,h2⟩:=h;exact⟨T,h1.q_ hb,λj q e=>⟨(h2 j q e).1.q_ hb,(h2 j q e).2.q_ hb⟩⟩
theorem GrO.base {K b b' w v p} (h:GrO K b w v p) (hb:b'<=b):GrO K b' w v p:=by
 obtain⟨T,⟨h0,h1⟩,h2⟩:=h;refine⟨T,⟨h0,?_⟩,λj q e=>⟨(h2 j q e).1,(h2 j q e).2.base hb⟩⟩;rcases h1 with h1|⟨g,cap,cur,e1,e2,e3⟩
 ·exact .inl h1
 ·exact .inr ⟨g,cap,cur,e1,le_trans hb e2,e3⟩
theorem zif {K base w0 w' p T g cap s x n c f y m d gg q} (hT:∀(j:Nat) (q:Rat),p[j]?=some q->Rn K w0 (T j).s (T j).x (T j).n (T j).c (T j).f (T j).y (T j).m (T j).d (T j).g q/\Dw2 w0 base (T j)) (hr:RowG 24 3 base w' (slice (some ⟨g,0,none⟩) (p.length+1) cap) (p.length+1) (rcells (rls p.length T)++#[Value.bool s,slice x n c,slice y m d].toList)) (hk:Kp w0 w') (hq:Rn K w0 s x n c f y m d gg q) (hd:Dw2 w0 base ⟨s,x,n,c,f,y,m,d,gg⟩):GrO K base w' (slice (some ⟨g,0,none⟩) (p.length+1) cap) (p++[q]):=by
 refine⟨zaE T p.length ⟨s,x,n,c,f,y,m,d,gg⟩,?_,λj q' e=>?_⟩
 ·rw[List.length_append,List.length_singleton,zcO];exact hr
 ·by_cases hj:j<p.length
  ·rw[List.getElem?_append_left hj]at e
   rw[putN_ne (by omega)];exact⟨Rn.kp (hT j q' e).1 hk,(hT j q' e).2.kpu hk⟩
  ·rw[List.getElem?_append_right (by omega)]at e
   have h0:j-p.length=0:=by
    rcases Nat.eq_zero_or_pos (j-p.length)with h|h
    ·exact h
    ·rw[List.getElem?_eq_none (by simp;omega)]at e;cases e
   have hjj:j=p.length:=by omega
   subst hjj;rw[h0]at e
   cases e
   rw[zbt];exact⟨Rn.kp hq hk,hd.kpu hk⟩
theorem GrO.slice {K base w v p} (h:GrO K base w v p):∃ao cap,v=.slice ao p.length cap/\p.length<=cap/\cap<=9223372036854775807:=h.gr.slice
theorem GrO.keep {K base w w' v p} (h:GrO K base w v p) (hb:∀b,base<=b->b<w.heap.size->w'.heap[b]?=w.heap[b]?):Gr K base w' v p:=by
 obtain⟨T,h1,h2⟩:=h;exact⟨T,h1.of (λg hg=>hb g (h1.lt g hg).1 (h1.lt g hg).2),λj q e=>(h2 j q e).1.keep (h2 j q e).2 hb⟩
def zhx (L:Nat) (w w':World) (e:Ending) (q:Rat):Prop:=∃s x n c f y m d g,e=.returned (agg #[.bool s,slice x n c,slice y m d])/\Bl w w'/\Rn L w' s x n c f y m d g q/\Dw2 w' w.heap.size ⟨s,x,n,c,f,y,m,d,g⟩
theorem zpo {w L ao k cap p} (h:Rf L w ao p) (hk:p.length=k) (hk2:k<=400) (hL:L<=400) :
  Calls prog 33 #[slice ao k cap] w λe w'=>zhx (4+k*(L+1)) w w' e (psum p 0):=by
 have H:=zk h;have h2:=zaA w 24;have h3:=zB w (cells #[.bool false,slice none 0 0,slice none 0 0] 24);clear h;go_enter func33,ntmps33;go_wp2_with fail
 generalize w.alloc (cells #[.bool false,slice none 0 0,slice none 0 0] 24)=w0 at *;refine(zsp (z:=0) (by omega) (by omega)).mono ?_;rintro e w4 ⟨s0,x0,n0,c0,f0,y0,m0,d0,g0,rfl,hb4,hq4,hu4,hv4,_⟩;have HD4:=zk ((zkq (s:=s0) hu4 hv4).base h3.size);clear hu4 hv4;have OB4:=zk (h2.q_ hb4);have HB4:=zk (bUp h3 hb4);have HQ4:=zk hq4
 clear h2 h3 hb4 hq4;go_wp2_with fail
 have hSx:Sx (w4.alloc (cells #[.bool s0,slice x0 n0 c0,slice y0 m0 d0] 24)) w4.heap.size s0 x0 n0 c0 y0 m0 d0:=⟨by simp,by simp[go_sem],by simp[go_sem],by simp[go_sem],λo=>by simp only[World.frozen?,heap_alloc_new w4 (cells #[.bool s0,slice x0 n0 c0,slice y0 m0 d0] 24)];simp⟩;have hal:=zB w4 (cells #[.bool s0,slice x0 n0 c0,slice y0 m0 d0] 24);have hne:w.heap.size<w4.heap.size:=OB4.out.z;have ST:=zk hSx;have HB5:=zJ HB4 hal;have HQ5:=zk (HQ4.out.q_ hal);have HD5:=zk (HD4.out.q_ hal);have OB5:=zk (OB4.out.q_ hal)
 clear hSx hal HB4 HQ4 OB4 HD4;go_loopw[9] (λt wr=>∃(i:Nat) (acc:Rat) (s:Bool) (x:Option Addr) (n c:Nat) (f:Nat->Int) (y:Option Addr) (m d:Nat) (g:Nat->Int),i<=k/\t=.int .i64 i/\Hid (Bl w wr)/\Hid (Sx wr w4.heap.size s x n c y m d)/\Hid (Ob wr w.heap.size)/\Hid (Rn (4+i*(L+1)) wr s x n c f y m d g acc)/\Hid (Dw2 wr w.heap.size ⟨s,x,n,c,f,y,m,d,g⟩)/\Hid (psum (p.drop i) acc=psum p 0)) (λt _=>k-(intOf t).toNat)
 case atStart=>exact⟨0,0,s0,x0,n0,c0,f0,y0,m0,d0,g0,by omega,rfl,HB5,ST,OB5,(by show Rn _ _ _ _ _ _ _ _ _ _ _ _;exact HQ5.out.mono (by omega)),HD5,rfl⟩
 case round =>
  clear HB5 HQ5 OB5 ST HD5;obtain⟨i,acc,s,x,n,c,f,y,m,d,g,hi,rfl,HB,HS,HO,HQ,HZ,HE⟩:=hrel;by_cases hlt:i<k
  ·obtain⟨q,haq⟩:∃t,p[i]?=some t:=⟨_,getElem?_eq_getElem (by omega)⟩;obtain⟨b,o,⟨ts,tx,tn,tc,tf,ty,tm,td,tg⟩,hav,hc,hr⟩:=(H.out.q_ HB.out) i q haq;have hav2:=hav;subst hav2;obtain⟨x0,x1,x2⟩:=hc;replace x0:wr.cell? ⟨b,o+i*3,none⟩=some (.bool ts):=x0;replace x1:wr.cell? ⟨b,o+i*3+1,none⟩=some (slice tx tn tc):=x1;replace x2:wr.cell? ⟨b,o+i*3+2,none⟩=some (slice ty tm td):=x2;have HD:Hid (psum (p.drop (i+1)) (acc+q)=psum p 0):=by
    show _=_;have e1:p.drop i=q :: p.drop (i+1):=by
     have hl:i<p.length:=by omega
     have:p[i]=q:=by rw[getElem?_eq_getElem hl]at haq;exact Option.some.inj haq
     rw[<-this];exact List.drop_eq_getElem_cons hl
    rw[<-HE.out,e1];rfl
   have hb5:=zB wr (cells #[.bool ts,slice tx tn tc,slice ty tm td] 24);have HR1:Hid (Rn L (wr.alloc (cells #[.bool ts,slice tx tn tc,slice ty tm td] 24)) ts tx tn tc tf ty tm td tg q):=Rn.q_ hr hb5;replace HS:=zk (HS.out.q_ hb5);replace HO:=zk (HO.out.q_ hb5);replace HQ:=zk (HQ.out.q_ hb5);replace HB:=zJ HB hb5
   have i2:((i:Nat):Int)<((k:Nat):Int):=by omega
   obtain⟨sz,u0,u1,u2,uf⟩:=HS.out;clear hr haq hav HE hb5;go_wp2_with fail
   clear sz u0 u1 u2 uf x0 x1 x2;generalize wr.alloc (cells #[.bool ts,slice tx tn tc,slice ty tm td] 24)=w5 at *;have hKi:=zfW (i:=i) (L:=L) (by omega) hL;refine(zrl (L:=164000) (HQ.out.mono hKi) (HR1.out.mono (by omega)) (by omega)).mono ?_;rintro e w6 ⟨s6,x6,n6,c6,f6,y6,m6,d6,g6,rfl,hb6,hq6,hu6,hv6,_⟩;have S6:=HS.out.q_ hb6;have HZ6:=zk (((zkq (s:=s6) hu6 hv6).base HB.out.size).st3 (v0:=.bool s6) (v1:=slice x6 n6 c6) (v2:=slice y6 m6 d6) S6);have R1:=zk (zjb (bUp HB.out hb6) S6 (HO.out.q_ hb6) (hq6.cut (K:=4+(i+1)*(L+1)) ((zfu (HQ.out.lo HQ.out.ln HQ.out.ld) (HR1.out.lo HR1.out.ln HR1.out.ld)).mono (by rw[Nat.add_mul];omega))) hne);obtain⟨sz,u0,u1,u2,uf⟩:=S6;clear HS HO HQ HR1 HB hb6 hq6 hKi hu6 hv6 HZ;go_wp2;go_roundw
   case rel=>exact⟨i+1,acc+q,s6,x6,n6,c6,f6,y6,m6,d6,g6,by omega,by go_num,R1.out.bel,R1.out.sx,R1.out.ob,R1.out.rn,HZ6,HD.out⟩
   case measure=>simp[intOf];omega
  ·have e1:i=k:=by omega
   have HF:Hid (acc=psum p 0):=by
    show _=_;rw[<-HE.out,e1,<-hk,List.drop_length];rfl
   have i2:¬(((i:Nat):Int)<((k:Nat):Int)):=by omega
   obtain⟨sz,u0,u1,u2,uf⟩:=HS.out;obtain⟨hz,z0,z1,z2,zf⟩:=HO.out;have HKK:Hid (i=k):=e1;clear e1 HE;go_wp2;exact bodyPost_ret (v:=agg #[.bool s,slice x n c,slice y m d]) (by simp[results,results33,go_sem,z0,z1,z2]) rfl ⟨s,x,n,c,f,y,m,d,g,rfl,zU HB.out (by omega),by rw[<-HF.out,<-HKK.out];exact HO.out.rn HQ.out,HZ.out.st3 ⟨hz,z0,z1,z2,zf⟩⟩
def zou (L:Nat) (w w':World) (e:Ending) (er:Int) (cs:List CV) (rs:List RV) (ys:List Rat):Prop:=Bl w w' /\
 ((er≠0/\e=.returned (.tuple #[slice none 0 0,.int .i64 er]))∨(er=0/\∃a c,e=.returned (.tuple #[slice a cs.length c,.int .i64 0])/\(cs.length<=c/\c<=9223372036854775807)/\GrO (KV L) w.heap.size w' (slice a cs.length c) (zaB rs ys 0 cs)))
theorem GrO.of {K base w w' v p} (h:GrO K base w v p) (hb:∀b,v.ownBlock=some b->w'.heap[b]?=w.heap[b]?) (hk:Kp w w'):GrO K base w' v p:=by
 obtain⟨T,h1,h2⟩:=h;exact⟨T,h1.of hb,λj q e=>⟨Rn.kp (h2 j q e).1 hk,(h2 j q e).2.kpu hk⟩⟩
theorem GrO.own {K base w v p} (h:GrO K base w v p):∀b,v.ownBlock=some b->base<=b/\b<w.heap.size:=h.gr.own
theorem zjD {w L M off cs rs ao k cap X ys er} (hW:MoW w M) (hx:Rl w ao k X) (hk:k<=1048576) (he:zbA M k X=er) (hv:er=0->MoV L w M off cs rs/\zbl cs rs=true/\Rf L w ao ys/\ys.length=k/\k=rs.length) (hL:L<=30) :
  Calls prog 10 #[M.val,slice ao k cap] w λe w'=>zou L w w' e er cs rs ys:=by
 have CC:=zk (λW (hW2:Bl w W)=>zeW (hW.q_ hW2));have CN:=zk (λW (hW2:Bl w W)=>zdm (w:=W) (cap:=cap) (z:=(M.rk:Int)) (hx.q_ hW2) hk);have HE:=zk he;unfold zbA at he;obtain⟨e0,he0⟩:∃e,zaw M=e:=⟨_,rfl⟩;rw[he0]at CC he
 obtain⟨e1,he1⟩:∃e,pnE k X M.rk=e:=⟨_,rfl⟩;rw[he1]at CN he
 have HE2:=zk he;have HV:=zk hv
 clear hW hx he0 he1 he hv;obtain⟨⟨s,x,n,c,f,y,m,d,g⟩,ca,ck,cc,C,ra,rk,rc,R⟩:=M;replace CC:Hid (∀W,Bl w W->Calls prog 29 #[agg #[.bool s,slice x n c,slice y m d,slice ca ck cc,slice ra rk rc]] W λr w'=>r=.returned (.int .i64 e0)/\Bl W w'):=CC;replace CN:Hid (∀W,Bl w W->Calls prog 30 #[slice ao k cap,.int .i64 (rk:Int)] W λe w'=>e=.returned (.int .i64 e1)/\Bl W w'):=CN;show Calls prog 10 #[agg #[.bool s,slice x n c,slice y m d,slice ca ck cc,slice ra rk rc],slice ao k cap] w _;have hb:=zB w (cells #[.bool s,slice x n c,slice y m d,slice ca ck cc,slice ra rk rc] 28);have r0:(w.alloc (cells #[.bool s,slice x n c,slice y m d,slice ca ck cc,slice ra rk rc] 28)).drew.cell? ⟨w.heap.size,0,none⟩=some (.bool s):=kCd (by simp[go_sem]);have r1:(w.alloc (cells #[.bool s,slice x n c,slice y m d,slice ca ck cc,slice ra rk rc] 28)).drew.cell? ⟨w.heap.size,1,none⟩=some (slice x n c):=kCd (by simp[go_sem]);have r2:(w.alloc (cells #[.bool s,slice x n c,slice y m d,slice ca ck cc,slice ra rk rc] 28)).drew.cell? ⟨w.heap.size,2,none⟩=some (slice y m d):=kCd (by simp[go_sem]);have r3:(w.alloc (cells #[.bool s,slice x n c,slice y m d,slice ca ck cc,slice ra rk rc] 28)).drew.cell? ⟨w.heap.size,3,none⟩=some (slice ca ck cc):=kCd (by simp[go_sem]);have r4:(w.alloc (cells #[.bool s,slice x n c,slice y m d,slice ca ck cc,slice ra rk rc] 28)).drew.cell? ⟨w.heap.size,4,none⟩=some (slice ra rk rc):=kCd (by simp[go_sem]);have HB:=zk (Below.drew hb);have hsz0:w.heap.size<(w.alloc (cells #[.bool s,slice x n c,slice y m d,slice ca ck cc,slice ra rk rc] 28)).drew.heap.size:=by show w.heap.size<(w.alloc _).heap.size;simp
 clear hb;go_enter func10,ntmps10;go_upto_region 1 with fail
 refine wp_region_held_drew (S:=(λw'=>w'.cell? ⟨w.heap.size,0,none⟩=some (.bool s)/\w'.cell? ⟨w.heap.size,1,none⟩=some (slice x n c)/\w'.cell? ⟨w.heap.size,2,none⟩=some (slice y m d)/\w'.cell? ⟨w.heap.size,3,none⟩=some (slice ca ck cc)/\w'.cell? ⟨w.heap.size,4,none⟩=some (slice ra rk rc))) (by kernel_rfl) ?_ (λhHeld=>?_)
 ·exact⟨r0,r1,r2,r3,r4⟩
 generalize(w.alloc (cells #[.bool s,slice x n c,slice y m d,slice ca ck cc,slice ra rk rc] 28)).drew=wd at *;clear r0 r1 r2 r3 r4;refine zK 0 ?_;refine zK 2 ?_;refine zK 3 ?_;simp only[zA,Act.put];refine zK 4 ?_;refine zK 5 ?_;simp only[zA,Act.put];refine rdO 1 (λK hK=>?_);go_simp
 go_at_call 29
 refine(CC.out _ HB.out).mono ?_;rintro e w4 ⟨rfl,hb4⟩
 (try go_wp2_with fail)
 refine hK.out _ _ ?_ (λhH4=>?_)
 ·exact⟨kCb hb4 hHeld.1,kCb hb4 hHeld.2.1,kCb hb4 hHeld.2.2.1,kCb hb4 hHeld.2.2.2.1,kCb hb4 hHeld.2.2.2.2⟩
 clear hK K;have HB4:=zJ HB hb4;try simp only[zA,Act.put]
 refine rdO 6 (λK hK=>?_);go_simp
 go_at_call 30
 refine(CN.out _ HB4.out).mono ?_;rintro e w5 ⟨rfl,hb5⟩
 (try go_wp2_with fail)
 refine hK.out _ _ ?_ (λhH5=>?_)
 ·exact⟨kCb hb5 hH4.1,kCb hb5 hH4.2.1,kCb hb5 hH4.2.2.1,kCb hb5 hH4.2.2.2.1,kCb hb5 hH4.2.2.2.2⟩
 clear hK K;have HB5:=zJ HB4 hb5;obtain⟨r0,r1,r2,r3,r4⟩:=id hH5;try simp only[zA,Act.put]
 refine rdO 7 (λK hK=>?_);go_simp;have hbA:=zB w5 (cells #[.int .i64 e0,.int .i64 e1] 36);have HEl:=zk (zdR (w:=w5) (a:=e0) (b:=e1) (t:=36));have HWA:=zJ HB5 hbA;obtain⟨gA,hgA⟩:∃z,w5.heap.size=z:=⟨_,rfl⟩;rw[hgA]at HEl ⊢
 generalize hwA:w5.alloc (cells #[.int .i64 e0,.int .i64 e1] 36)=wA at *;clear hwA hgA;refine hK.out _ _ ?_ (λhHA=>?_)
 ·((try dsimp only);(refine⟨?_,?_,?_,?_,?_⟩ <;> repeat(with_reducible first|assumption|refine kCb (by assumption) ?_)))
 clear hK K;try simp only[zA,Act.put]
 refine rdO 8 (λK hK=>?_);go_simp
 go_at_call 28
 refine(zha HEl.out (by decide)).mono ?_;rintro e w9 ⟨rfl,rfl⟩
 (try go_wp2_with fail)
 refine hK.out _ _ ?_ (λhHB=>?_)
 ·exact hHA
 clear hK K;try simp only[zA,Act.put]
 refine zK 9 ?_;simp only[zA,Act.put];refine dnO ?_;simp only[show lsf (two e0 e1) 2=er from HE2.out];obtain⟨r0,r1,r2,r3,r4⟩:=id hHB;have hszA:w.heap.size<w9.heap.size:=by have h1:=hb4.size;have h2:=hb5.size;have h3:=hbA.size;omega
 have HBA:=zk HWA.out;clear HE2 hHeld hH4 hH5 hHA hHB hb4 hb5 hbA HEl CC CN HB HB4 HB5 HWA hsz0;by_cases h0:er=0
 case neg =>
  have h1:(er != 0)=true:=by simpa using h0
  have H0:=zk h0;clear r0 r1 r2 r3 r4;go_wp2
  go_ret2
  exact⟨HBA.out,.inl ⟨H0.out,rfl⟩⟩
 obtain⟨v1,v2,v3,v4,v5⟩:=HV.out h0;have mp:=zbk v2;have ht:∀v ∈ rs,tsB cs.length (-1) v.ts=true:=by
  simp only[zbl,Bool.and_eq_true,decide_eq_true_eq,List.all_eq_true]at v2;obtain⟨_,_,_,h4,_⟩:=v2;exact λv hv=>(h4 v hv).2.1
 subst h0;have l64:=mp.cl;have r64:=mp.rl
 have HC:Hid (∀j v,cs[j]?=some v->(∃b o,ca=some ⟨b,o,none⟩/\Cs w b (o+j*12) (C j).vs)/\ColV L w (C j) v):=v1.cls;have HR:Hid (∀j v,rs[j]?=some v->(∃b o,ra=some ⟨b,o,none⟩/\Cs w b (o+j*10) (R j).vs)/\RowV L w (R j) v):=v1.rls;have hck:ck=cs.length:=v1.ck;have hrk:rk=rs.length:=v1.rk;subst hck;subst hrk
 subst v5;have HY:=zk v3;have HYL:=zk v4;have HTB:Hid (∀v ∈ rs,tsB cs.length (-1) v.ts=true):=ht;have HTL:=zk mp.tl
 clear v1 v2 v3 v4 mp ht HV HE hk;go_wp2_with(at_make;refine zcw _ rfl (.tmp 31) (.tmp 31) 78 rfl 29 24 underlying78 znE .i64 .i64 cs.length cs.length cs.length rfl rfl rfl rfl (by omega) (by unfold maxLen;omega) ?_;intro w3 hk3 hb3;have k43:=kCb hb3 r4)
 have HK3:Hid (w9.cell? ⟨w.heap.size,3,none⟩=some (slice ca cs.length cc)):=zk r3;have HCo:=zk (znY (base:=w9.heap.size) (le_refl _) hk3);have HB3:=zk hb3;clear hk3 r0 r1 r2 r3 r4;go_wp2_with fail
 clear k43 hb3;go_loopw[36] (λt wr=>∃(i:Nat) (V:Nat->Value) (E:Nat->List Nm),i<=rs.length/\t=.int .i64 i/\Hid (Bl w9 wr)/\Hid (Cr w9.heap.size wr w9.heap.size cs.length V E (λb=>False))/\Hid (∀j,j<cs.length->Lv (2*L+1) wr (E j) (zW (rs.take i) (ys.take i) j))) (λt _=>rs.length-(intOf t).toNat)
 case atStart=>exact⟨0,_,_,by omega,rfl,HB3.out,HCo.out,λj hj=>Lv.nil _ _⟩
 case round =>
  clear HB3 HCo;obtain⟨i,V,E,hi,rfl,HB,HC2,HL⟩:=hrel;by_cases hlt:i<rs.length
  ·obtain⟨v,hv⟩:∃t,rs[i]?=some t:=⟨_,getElem?_eq_getElem (by omega)⟩;have hvm:=List.mem_of_getElem? hv;obtain⟨yq,hyq⟩:∃t,ys[i]?=some t:=⟨_,getElem?_eq_getElem (by have:=HYL.out;omega)⟩;have hbw:=bUp HBA.out HB.out;obtain⟨⟨b,o,hra,hc⟩,hRV⟩:=HR.out i v hv;subst hra;obtain⟨⟨z,⟨i1,⟨s1,x1,n1,c1,f1,y1,m1,d1,g1⟩⟩,⟨i2,⟨s2,x2,n2,c2,f2,y2,m2,d2,g2⟩⟩,ta,tk,tc,tcol,tt⟩,hCi⟩:∃t,R i=t:=⟨_,rfl⟩;rw[hCi]at hc hRV
   have htk2:tk=v.ts.length:=hRV.tk;subst htk2;replace hc:=Cs.q_ hc hbw;obtain⟨q0,q1,q2,q3,q4,q5,q6,q7,q8,q9⟩:=hc.lr;obtain⟨b',o',⟨ss,sx,sn,sc,sf,sy,sm,sd,sg⟩,hax,⟨p0,p1,p2⟩,hr'⟩:=(HY.out.q_ hbw) i yq hyq;subst hax;replace p0:wr.cell? ⟨b',o'+i*3,none⟩=some (.bool ss):=p0;replace p1:wr.cell? ⟨b',o'+i*3+1,none⟩=some (slice sx sn sc):=p1;replace p2:wr.cell? ⟨b',o'+i*3+2,none⟩=some (slice sy sm sd):=p2;replace hr':Rn L wr ss sx sn sc sf sy sm sd sg yq:=hr';have hb1:=zB wr (cells #[.string z,.int .i64 i1,.bool s1,slice x1 n1 c1,slice y1 m1 d1,.int .i64 i2,.bool s2,slice x2 n2 c2,slice y2 m2 d2,slice ta v.ts.length tc] 63);obtain⟨-,-,-,-,-,-,-,-,-,b9⟩:=zeh (zF wr [.string z,.int .i64 i1,.bool s1,slice x1 n1 c1,slice y1 m1 d1,.int .i64 i2,.bool s2,slice x2 n2 c2,slice y2 m2 d2,slice ta v.ts.length tc] 63);replace p0:=kCb hb1 p0;replace p1:=kCb hb1 p1;replace p2:=kCb hb1 p2
   replace hr':=hr'.q_ hb1;have HTS:Hid (∀p z q,v.ts[p]?=some (z,q)->tcol p=z/\NmV L w (tt p) q/\∃b o,ta=some ⟨b,o,none⟩/\C4 w b (o+p*4) (.int .i64 (tcol p)) (.bool (tt p).s) (.slice (tt p).x (tt p).n (tt p).c) (.slice (tt p).y (tt p).m (tt p).d)):=hRV.tl;have htk3:=HTL.out v hvm;have HT2:=zk (HTB.out v hvm);have HV:=zk hv;have HYQ:=zk hyq
   have HB1:=zJ HB hb1;have HC1:=zk (HC2.out.q_ hb1);have HL1:Hid (∀j,j<cs.length->Lv (2*L+1) (wr.alloc (cells #[.string z,.int .i64 i1,.bool s1,slice x1 n1 c1,slice y1 m1 d1,.int .i64 i2,.bool s2,slice x2 n2 c2,slice y2 m2 d2,slice ta v.ts.length tc] 63)) (E j) (zW (rs.take i) (ys.take i) j)):=zk (λj hj=>(HL.out j hj).q_ hb1)
   have i1':((i:Nat):Int)<((rs.length:Nat):Int):=by omega
   have hlw:wr.heap.size<(wr.alloc (cells #[.string z,.int .i64 i1,.bool s1,slice x1 n1 c1,slice y1 m1 d1,.int .i64 i2,.bool s2,slice x2 n2 c2,slice y2 m2 d2,slice ta v.ts.length tc] 63)).heap.size:=by simp
   clear hCi hc hRV hbw hv hyq hvm HB HC2 HL;have HR':=zk hr';clear hr';go_wp2_with fail
   clear q0 q1 q2 q3 q4 q5 q6 q7 q8 q9;generalize(wr.alloc (cells #[.string z,.int .i64 i1,.bool s1,slice x1 n1 c1,slice y1 m1 d1,.int .i64 i2,.bool s2,slice x2 n2 c2,slice y2 m2 d2,slice ta v.ts.length tc] 63))=wI at *;clear hb1;generalize wr.heap.size=rb at *;refine(zmT HR'.out (by omega)).mono ?_;rintro e w4 ⟨s6,x6,n6,c6,f6,y6,m6,d6,g6,rfl,hb4,hq6⟩;have hal:=zB w4 (cells #[.bool s6,slice x6 n6 c6,slice y6 m6 d6] 24);have hb5:=bUp hb4 hal;replace b9:=kCb hb5 b9;go_wp2_with fail
   have BK:=zk (zF w4 [.bool s6,slice x6 n6 c6,slice y6 m6 d6] 24);replace BK:Hid (Bk (w4.alloc (cells #[.bool s6,slice x6 n6 c6,slice y6 m6 d6] 24)) w4.heap.size [.bool s6,slice x6 n6 c6,slice y6 m6 d6] 24):=BK;have HN:=zk (hq6.q_ hal);have HB5:=zJ HB1 hb5;have HC5:=zk (((HC1.out.q_ hb4).unx (λb=>b=w4.heap.size) (λb e=>Nat.le_of_eq e.symm)).q_ hal);have HL5:Hid (∀j,j<cs.length->Lv (2*L+1) (w4.alloc (cells #[.bool s6,slice x6 n6 c6,slice y6 m6 d6] 24)) (E j) (zW (rs.take i) (ys.take i) j)):=zk (λj hj=>(HL1.out j hj).q_ hb5);clear hb4 hq6 hal hb5 b9 p0 p1 p2 hlw HR' HB1 HC1 HL1;generalize w4.alloc (cells #[.bool s6,slice x6 n6 c6,slice y6 m6 d6] 24)=w5 at *;generalize w4.heap.size=xb at *;go_loopw[52] (λt wz=>∃(p:Nat) (V:Nat->Value) (E:Nat->List Nm),p<=v.ts.length/\t=.int .i64 p/\Hid (Bl w9 wz)/\Hid (Cr w9.heap.size wz w9.heap.size cs.length V E (λb=>b=xb))/\Hid (Bk wz xb [.bool s6,slice x6 n6 c6,slice y6 m6 d6] 24)/\Hid (Rn L wz s6 x6 n6 c6 f6 y6 m6 d6 g6 (-yq))/\Hid (∀j,j<cs.length->Lv (2*L+1) wz (E j) (zW (rs.take i) (ys.take i) j++zbi yq (v.ts.take p) j))) (λt _=>v.ts.length-(intOf t).toNat)
   case atStart=>exact⟨0,_,_,by omega,rfl,HB5.out,HC5.out,BK.out,HN.out,λj hj=>by rw[List.take_zero];simpa only[zbi,List.append_nil]using HL5.out j hj⟩
   case round =>
    clear HB5 HC5 BK HN HL5;obtain⟨p,V,E,hp,rfl,HB,HC2,BK,HN,HL⟩:=hrel;by_cases hlp:p<v.ts.length
    ·obtain⟨⟨tz,tq⟩,htv⟩:∃t,v.ts[p]?=some t:=⟨_,getElem?_eq_getElem (by omega)⟩;obtain⟨h1,h2,b2,o2,hta,h4⟩:=HTS.out p tz tq htv;obtain⟨hz0,hz1,_⟩:=zdy HT2.out _ (List.mem_of_getElem? htv);replace hz0:(-1:Int)<tz:=hz0;replace hz1:tz<(cs.length:Int):=hz1;obtain⟨zn,rfl⟩:=Int.eq_ofNat_of_zero_le (show 0<=tz by omega);have hzn:zn<cs.length:=by omega
     subst hta;have hbz:=bUp HBA.out HB.out;obtain⟨⟨ts,tx,tn,tc2,tf,ty,tm,td,tg⟩,hTp⟩:∃t,tt p=t:=⟨_,rfl⟩;rw[hTp,h1]at h4
     rw[hTp]at h2
     obtain⟨x0,x1,x2,x3⟩:=h4.q_ hbz;replace x0:wr.cell? ⟨b2,o2+p*4,none⟩=some (.int .i64 zn):=x0;replace x1:wr.cell? ⟨b2,o2+p*4+1,none⟩=some (.bool ts):=x1;replace x2:wr.cell? ⟨b2,o2+p*4+2,none⟩=some (slice tx tn tc2):=x2;replace x3:wr.cell? ⟨b2,o2+p*4+3,none⟩=some (slice ty tm td):=x3;have h2r:Rn L w ts tx tn tc2 tf ty tm td tg tq:=h2;have hbt:=zB wr (cells #[.int .i64 zn,.bool ts,slice tx tn tc2,slice ty tm td] 65);have a0:((wr.alloc (cells #[.int .i64 zn,.bool ts,slice tx tn tc2,slice ty tm td] 65))).cell? ⟨wr.heap.size,0,none⟩=some (.int .i64 zn):=by simp[go_sem]
     have a1:((wr.alloc (cells #[.int .i64 zn,.bool ts,slice tx tn tc2,slice ty tm td] 65))).cell? ⟨wr.heap.size,1,none⟩=some (.bool ts):=by simp[go_sem]
     have a2:((wr.alloc (cells #[.int .i64 zn,.bool ts,slice tx tn tc2,slice ty tm td] 65))).cell? ⟨wr.heap.size,2,none⟩=some (slice tx tn tc2):=by simp[go_sem]
     have a3:((wr.alloc (cells #[.int .i64 zn,.bool ts,slice tx tn tc2,slice ty tm td] 65))).cell? ⟨wr.heap.size,3,none⟩=some (slice ty tm td):=by simp[go_sem]
     have i2':((p:Nat):Int)<((v.ts.length:Nat):Int):=by omega
     have i3':((zn:Nat):Int)<((cs.length:Nat):Int):=by omega
     have HTV:=zk htv;have hva:∀b,(V zn).ownBlock=some b->b<wr.heap.size:=λb e=>((HC2.out.row zn hzn).lt b e).2
     have hxz:=BK.out.lt;have hlz:wr.heap.size<(wr.alloc (cells #[.int .i64 zn,.bool ts,slice tx tn tc2,slice ty tm td] 65)).heap.size:=by simp
     clear htv hz0 hz1 h1 h2 h4 hTp;go_upto_region 12 with fail
     clear x0 x1 x2 x3;have HB5:=zJ HB hbt;have HC5:=zk (HC2.out.q_ hbt);have BK5:=zk (BK.out.q_ hbt);have R1:=zk (HN.out.q_ hbt);have R2:=zk ((h2r.q_ hbz).q_ hbt);have HL5:Hid (∀j,j<cs.length->Lv (2*L+1) (wr.alloc (cells #[.int .i64 zn,.bool ts,slice tx tn tc2,slice ty tm td] 65)) (E j) (zW (rs.take i) (ys.take i) j++zbi yq (v.ts.take p) j)):=zk (λj hj=>(HL.out j hj).q_ hbt)
     clear hbz hbt h2r HB HC2 BK HN HL;generalize wr.heap.size=bx at *;generalize(wr.alloc (cells #[.int .i64 zn,.bool ts,slice tx tn tc2,slice ty tm td] 65))=w5 at *;have o0:=HC5.out.cell hzn;obtain⟨v0,v1,v2⟩:=bk3 BK5.out;refine zag (S:=(λw'=>w'.cell? ⟨bx,0,none⟩=some (.int .i64 zn)/\w'.cell? ⟨bx,1,none⟩=some (.bool ts)/\w'.cell? ⟨bx,2,none⟩=some (slice tx tn tc2)/\w'.cell? ⟨bx,3,none⟩=some (slice ty tm td)/\w'.cell? ⟨xb,0,none⟩=some (.bool s6)/\w'.cell? ⟨xb,1,none⟩=some (slice x6 n6 c6)/\w'.cell? ⟨xb,2,none⟩=some (slice y6 m6 d6)/\w'.cell? ⟨w9.heap.size,zn,none⟩=some (V zn))) 15 (by kernel_rfl) ⟨kCd a0,kCd a1,kCd a2,kCd a3,kCd v0,kCd v1,kCd v2,kCd o0⟩ (λhHeld=>?_);have hbd:=Below.drew (Below.refl w5.heap.size w5);replace HB5:=zJ HB5 hbd;replace HC5:=zk (HC5.out.q_ hbd);replace BK5:=zk (BK5.out.q_ hbd);replace R1:=zk (R1.out.q_ hbd);replace R2:=zk (R2.out.q_ hbd);replace HL5:Hid (∀j,j<cs.length->Lv (2*L+1) w5.drew (E j) (zW (rs.take i) (ys.take i) j++zbi yq (v.ts.take p) j)):=zk (λj hj=>(HL5.out j hj).q_ hbd)
     replace hlz:bx<w5.drew.heap.size:=hlz;clear hbd a0 a1 a2 a3 v0 v1 v2 o0;generalize w5.drew=wd at *;refine skP 0 ?_;refine skP 1 ?_;refine tkP 2 ?_;simp only[zA,Act.put];refine skP 3 ?_;refine skP 4 ?_;refine tkP 5 ?_;simp only[zA,Act.put];refine skP 6 ?_;refine tkP 7 ?_;refine tkP 8 ?_;simp only[zA,Act.put];refine skP 9 ?_;refine tkP 10 ?_;simp only[zA,Act.put];refine rdP 11 (λK hK=>?_);go_simp
     go_at_call 32
     refine(ziq (L:=L) R1.out R2.out (by omega)).mono ?_;rintro e w6 ⟨s7,x7,n7,c7,f7,y7,m7,d7,g7,rfl,hb6,hq7⟩
     (try go_wp2_with fail)
     have yy0:=kCb hb6 (hHeld.1);have yy1:=kCb hb6 (hHeld.2.1);have yy2:=kCb hb6 (hHeld.2.2.1);have yy3:=kCb hb6 (hHeld.2.2.2.1);have yy4:=kCb hb6 (hHeld.2.2.2.2.1);have yy5:=kCb hb6 (hHeld.2.2.2.2.2.1);have yy6:=kCb hb6 (hHeld.2.2.2.2.2.2.1);have yy7:=kCb hb6 (hHeld.2.2.2.2.2.2.2);refine hK.out _ _ (λ_=>⟨yy0,yy1,yy2,yy3,yy4,yy5,yy6,yy7⟩) (λhS6=>?_);clear hK K hS6;try simp only[zA,Act.put]
     replace HB5:=zJ HB5 hb6;replace HC5:=zk (HC5.out.q_ hb6);replace BK5:=zk (BK5.out.q_ hb6);replace R1:=zk (R1.out.q_ hb6);replace HL5:Hid (∀j,j<cs.length->Lv (2*L+1) w6 (E j) (zW (rs.take i) (ys.take i) j++zbi yq (v.ts.take p) j)):=zk (λj hj=>(HL5.out j hj).q_ hb6)
     replace hlz:bx<w6.heap.size:=Nat.lt_of_lt_of_le hlz hb6.size;have HQ7:=zk hq7;clear hb6 hq7 R2 hHeld;refine rdP 12 (λK hK=>?_);go_simp;refine hK.out _ _ (λ_=>⟨kCa yy0,kCa yy1,kCa yy2,kCa yy3,kCa yy4,kCa yy5,kCa yy6,kCa yy7⟩) (λhS7=>?_);clear hK K hS7;try simp only[zA,Act.put]
     refine rdP 13 (λK hK=>?_);have hrow:=HC5.out.row zn hzn;have hen:(E zn).length<=65:=by
      rw[(HL5.out zn hzn).1,List.length_append];have h1:=zbE (n:=cs.length) (j:=zn) (rs:=rs.take i) (ys:=ys.take i) (λv hv=>HTB.out v (List.mem_of_mem_take hv));have h2:=zcJ (y:=yq) (j:=zn) (zcN p HT2.out);rw[List.length_take]at h1;omega
     have hsz6:w9.heap.size<=w6.heap.size:=HB5.out.size;refine zaj w6 rfl (.tmp 63) (.tmp 68) 29 rfl w9.heap.size 24 56 3 (agg #[.bool false,slice none 0 0,slice none 0 0]) underlying29 zaR rfl (by decide) nz3 (V zn) (E zn).length _ rfl hrow #[.bool s7,slice x7 n7 c7,slice y7 m7 d7] rfl rfl (zdp _ _ _ _ _ _ _) (zcD _ _ _ _ _ _ _) ?p1 ?p2 hsz6 ?_
     case p1=>omega
     case p2=>omega
     intro g8 cap8 w8 hr8 hk8 hb8 hg8 hl8;have hBx:=hg8 bx hlz (λe=>absurd (hva _ e) (Nat.lt_irrefl _));have hXb:=hg8 xb BK5.out.lt (λe=>HC5.out.nx zn hzn xb e rfl);have hO8:=hg8 w9.heap.size HC5.out.lt (HC5.out.ne zn hzn);have uu0:=(cell?_of_block (a:=⟨bx,0,none⟩) hBx).trans yy0;have uu1:=(cell?_of_block (a:=⟨bx,1,none⟩) hBx).trans yy1;have uu2:=(cell?_of_block (a:=⟨bx,2,none⟩) hBx).trans yy2;have uu3:=(cell?_of_block (a:=⟨bx,3,none⟩) hBx).trans yy3;have uu4:=(cell?_of_block (a:=⟨xb,0,none⟩) hXb).trans yy4;have uu5:=(cell?_of_block (a:=⟨xb,1,none⟩) hXb).trans yy5;have uu6:=(cell?_of_block (a:=⟨xb,2,none⟩) hXb).trans yy6;have uu7:=(cell?_of_block (a:=⟨w9.heap.size,zn,none⟩) hO8).trans yy7;have ff:w8.frozen? ⟨w9.heap.size,zn,none⟩=false:=by obtain⟨cur,h1,_⟩:=HC5.out.bl;simp[World.frozen?,hO8,h1]
     refine hK.out _ _ (λ_=>⟨uu0,uu1,uu2,uu3,uu4,uu5,uu6,uu7⟩) (λhS8=>?_);clear hK K hS8;try simp only[zA,Act.put]
     refine rdP 14 (λK hK=>?_);go_simp;refine hK.out _ _ (λ_=>⟨uu0,uu1,uu2,uu3,uu4,uu5,uu6,uu7⟩) (λhS9=>?_);clear hK K hS9;try simp only[zA,Act.put]
     refine rdP 15 (λK hK=>?_);go_simp;refine hK.out _ _ (λh=>by cases h) (λ_=>?_);clear hK K;try simp only[zA,Act.put]
     refine dnP ?_;have HB9:=zk (zL (hb8 w9 HB5.out (le_refl _)) (le_trans hsz6 hk8.size) ((Turned.refl w9.heap.size (w9.heap.size+1) w8).set (x:=⟨w9.heap.size,zn,none⟩) HC5.out.ge (by simp) (slice (some ⟨g8,0,none⟩) ((E zn).length+1) cap8)) (le_refl _));have hkp:Kp w6 (w8.setCell ⟨w9.heap.size,zn,none⟩ (slice (some ⟨g8,0,none⟩) ((E zn).length+1) cap8)):=by
      obtain⟨cur,h1,_,h2,_⟩:=HC5.out.bl;exact hk8.set (x:=⟨w9.heap.size,zn,none⟩) (hO8.trans h1) h2 _
     have HC9:=zk (HC5.out.put hzn (cap8:=cap8) (x:=⟨s7,x7,n7,c7,f7,y7,m7,d7,g7⟩) rfl (λb e=>by rw[e];exact BK5.out.lt) hr8 hg8 hl8);have BK9:=zk (BK5.out.of (w':=w8.setCell ⟨w9.heap.size,zn,none⟩ (slice (some ⟨g8,0,none⟩) ((E zn).length+1) cap8)) (by rw[Below.heap_setCell _ _ _ _ (λe=>HC5.out.xg e.symm)];exact hXb));have HN9:=zk (Rn.kp R1.out hkp);have HL9:Hid (∀j,j<cs.length->Lv (2*L+1) (w8.setCell ⟨w9.heap.size,zn,none⟩ (slice (some ⟨g8,0,none⟩) ((E zn).length+1) cap8)) (if j=zn then E zn++[⟨s7,x7,n7,c7,f7,y7,m7,d7,g7⟩] else E j) (zW (rs.take i) (ys.take i) j++zbi yq (v.ts.take (p+1)) j)):=λj hj=>by
      rw[zda j HTV.out,<-List.append_assoc];by_cases e:j=zn
      ·subst e;rw[if_pos rfl,if_pos rfl];exact((HL5.out j hj).kp hkp).snoc (Rn.kp HQ7.out hkp)
      ·rw[if_neg e,if_neg (λh=>e (by omega)),List.append_nil];exact(HL5.out j hj).kp hkp
     clear hr8 hk8 hb8 hg8 hl8 hBx hXb hO8 ff hkp hrow HC5 HB5 BK5 R1 HQ7 HL5 hsz6 uu0 yy0 uu1 yy1 uu2 yy2 uu3 yy3 uu4 yy4 uu5 yy5 uu6 yy6 uu7 yy7;go_wp2;go_roundw
     case rel=>exact⟨p+1,_,_,by omega,by go_num,HB9.out,HC9.out,BK9.out,HN9.out,HL9.out⟩
     case measure=>simp[intOf];omega
    ·have e1:p=v.ts.length:=by omega
     have i4':¬(((p:Nat):Int)<((v.ts.length:Nat):Int)):=by omega
     have HC7:=zk (HC2.out.unx (λ_=>False) (λb h=>h.elim));have HL7:Hid (∀j,j<cs.length->Lv (2*L+1) wr (E j) (zW (rs.take (i+1)) (ys.take (i+1)) j)):=λj hj=>by
      have h:=HL.out j hj;rw[List.take_of_length_le (show v.ts.length<=p by omega)]at h
      rw[zcn j HV.out HYQ.out];exact h
     clear HC2 HL BK HN HTS e1;go_wp2;go_roundw
     case rel=>exact⟨i+1,_,_,by omega,by go_num,HB.out,HC7.out,HL7.out⟩
     case measure=>simp[intOf];omega
  ·have e1:i=rs.length:=by omega
   have i4':¬(((i:Nat):Int)<((rs.length:Nat):Int)):=by omega
   have HL7:Hid (∀j,j<cs.length->Lv (2*L+1) wr (E j) (zW rs ys j)):=λj hj=>by
    have h:=HL.out j hj;rw[List.take_of_length_le (show rs.length<=i by omega),List.take_of_length_le (by have:=HYL.out;omega)]at h;exact h
   have HV0:Hid (∀j,j<cs.length->∀b,(V j).ownBlock=some b->b<wr.heap.size):=λj hj b e=>((HC2.out.row j hj).lt b e).2
   have HNE:=zk HC2.out.ne;have HDJ:=zk HC2.out.dj;have hgl:=HC2.out.lt;have HCT:=zk HC2.out.ct;have k3:=kCb HB.out HK3.out
   clear HL e1 HC2;go_wp2_with fail
   clear k3;have HS2:=zk (show w.heap.size<=wr.heap.size from(bUp HBA.out HB.out).size);generalize hw2:wr=w2 at *;clear hw2;go_loopw[14,76] (λzv t wz=>∃(i:Nat),i<=cs.length/\t=.int .i64 i/\Hid (Bl w9 wz)/\Hid (w2.heap.size<=wz.heap.size)/\Hid (Ct w9.heap.size wz w9.heap.size cs.length i V E)/\Hid (∀j,j<cs.length->Lv (2*L+1) wz (E j) (zW rs ys j))/\Hid (GrO (KV L) w2.heap.size wz zv (zaB rs ys 0 (cs.take i)))) (λ_ t _=>cs.length-(intOf t).toNat)
   case atStart=>exact⟨0,by omega,rfl,HB.out,le_refl _,HCT.out,HL7.out,zeT _ _ _⟩
   case round =>
    clear HB HCT HL7;obtain⟨i,hi,rfl,HB,HW2,HCT,HL,HG⟩:=hrel;have hgl2:(zaB rs ys 0 (cs.take i)).length=i:=by rw[zaX,List.length_take];omega
    by_cases hlt:i<cs.length
    ·obtain⟨v,hv⟩:∃t,cs[i]?=some t:=⟨_,getElem?_eq_getElem (by omega)⟩;have hbw:=bUp HBA.out HB.out;obtain⟨⟨b,o,hca,hc⟩,hV⟩:=HC.out i v hv;subst hca;have hcost:=hV.cost.q_ hbw;obtain⟨⟨z,⟨s0,x0,n0,c0,f0,y0,m0,d0,g0⟩,⟨i1,⟨s1,x1,n1,c1,f1,y1,m1,d1,g1⟩⟩,⟨i2,⟨s2,x2,n2,c2,f2,y2,m2,d2,g2⟩⟩⟩,hCi⟩:∃t,C i=t:=⟨_,rfl⟩;rw[hCi]at hc hcost
     replace hcost:Rn L wr s0 x0 n0 c0 f0 y0 m0 d0 g0 v.cost:=hcost;replace hc:=Cs.q_ hc hbw;obtain⟨q0,q1,q2,q3,q4,q5,q6,q7,q8,q9,q10,q11⟩:=hc.lc;have hbt:=zB wr (cells #[.string z,.bool s0,slice x0 n0 c0,slice y0 m0 d0,.int .i64 i1,.bool s1,slice x1 n1 c1,slice y1 m1 d1,.int .i64 i2,.bool s2,slice x2 n2 c2,slice y2 m2 d2] 60);obtain⟨-,a1,a2,a3⟩:=bk4 (zF wr [.string z,.bool s0,slice x0 n0 c0,slice y0 m0 d0,.int .i64 i1,.bool s1,slice x1 n1 c1,slice y1 m1 d1,.int .i64 i2,.bool s2,slice x2 n2 c2,slice y2 m2 d2] 60);have i1':((i:Nat):Int)<((cs.length:Nat):Int):=by omega
     have HV2:=zk hv;clear hCi hc hV hv hbw;go_upto_region 19 with fail
     clear q0 q1 q2 q3 q4 q5 q6 q7 q8 q9 q10 q11;have HB5:=zJ HB hbt;have HC5:=zk (HCT.out.q_ hbt);have HG5:=zk (HG.out.q_ hbt);have R2:=zk (hcost.q_ hbt);have HW5:=zk (le_trans HW2.out hbt.size)
     have HL5:Hid (∀j,j<cs.length->Lv (2*L+1) (wr.alloc (cells #[.string z,.bool s0,slice x0 n0 c0,slice y0 m0 d0,.int .i64 i1,.bool s1,slice x1 n1 c1,slice y1 m1 d1,.int .i64 i2,.bool s2,slice x2 n2 c2,slice y2 m2 d2] 60)) (E j) (zW rs ys j)):=zk (λj hj=>(HL.out j hj).q_ hbt);clear hbt hcost HB HCT HG HW2 HL;generalize wr.heap.size=bx at *;generalize(wr.alloc (cells #[.string z,.bool s0,slice x0 n0 c0,slice y0 m0 d0,.int .i64 i1,.bool s1,slice x1 n1 c1,slice y1 m1 d1,.int .i64 i2,.bool s2,slice x2 n2 c2,slice y2 m2 d2] 60))=w5 at *;have o0:=HC5.out.cell i (le_refl _) hlt;have i3':=i1';refine zag (S:=(λw'=>w'.cell? ⟨bx,1,none⟩=some (.bool s0)/\w'.cell? ⟨bx,2,none⟩=some (slice x0 n0 c0)/\w'.cell? ⟨bx,3,none⟩=some (slice y0 m0 d0)/\w'.cell? ⟨w9.heap.size,i,none⟩=some (V i))) 8 (by kernel_rfl) ⟨kCd a1,kCd a2,kCd a3,kCd o0⟩ (λhHeld=>?_);have hbd:=Below.drew (Below.refl w5.heap.size w5);replace HB5:=zJ HB5 hbd;replace HC5:=zk (HC5.out.q_ hbd);replace HG5:=zk (HG5.out.q_ hbd);replace R2:=zk (R2.out.q_ hbd);replace HW5:=zk (le_trans HW5.out hbd.size);replace HL5:Hid (∀j,j<cs.length->Lv (2*L+1) w5.drew (E j) (zW rs ys j)):=zk (λj hj=>(HL5.out j hj).q_ hbd)
     clear hbd a1 a2 a3 o0;generalize w5.drew=wd at *;refine skP 0 ?_;refine skP 1 ?_;refine skP 2 ?_;simp only[zA,Act.put];refine skP 3 ?_;refine tkP 4 ?_;refine skP 5 ?_;simp only[zA,Act.put];refine tkP 6 ?_;simp only[zA,Act.put];refine rdP 7 (λK hK=>?_);go_simp;refine hK.out _ _ (λ_=>⟨kCa (hHeld.1),kCa (hHeld.2.1),kCa (hHeld.2.2.1),kCa (hHeld.2.2.2)⟩) (λhS7=>?_);clear hK K hS7;try simp only[zA,Act.put]
     refine rdP 8 (λK hK=>?_);have hrow:=HC5.out.row i (le_refl _) hlt;have hen:(E i).length<=64:=by
      rw[(HL5.out i hlt).1];have h1:=zbE (n:=cs.length) (j:=i) (rs:=rs) (ys:=ys) HTB.out;omega
     have hsz5:w9.heap.size<=wd.heap.size:=HB5.out.size;refine zaj wd rfl (.tmp 85) (.tmp 88) 29 rfl w9.heap.size 24 56 3 (agg #[.bool false,slice none 0 0,slice none 0 0]) underlying29 zaR rfl (by decide) nz3 (V i) (E i).length _ rfl hrow #[.bool s0,slice x0 n0 c0,slice y0 m0 d0] rfl rfl (zdp _ _ _ _ _ _ _) (zcD _ _ _ _ _ _ _) ?p1 ?p2 hsz5 ?_
     case p1=>omega
     case p2=>omega
     intro g8 cap8 w8 hr8 hk8 hb8 hg8 hl8;have HB8:=zk (hb8 w9 HB5.out (le_refl _));have hzo:=HG5.out.own;have HG8:=zk (HG5.out.of (w':=w8) (λb e=>hg8 b (hzo b e).2 (λe2=>by have h1:=HV0.out i hlt b e2;have h2:=(hzo b e).1;omega)) hk8);have HC8:=zk (HC5.out.of (w':=w8) (Nat.le_succ i) (hg8 w9.heap.size (Nat.lt_of_lt_of_le hgl HW5.out) (HNE.out i hlt)) (λj h1 h2 b e=>hg8 b (Nat.lt_of_lt_of_le (HV0.out j h2 b e) HW5.out) (λe2=>HDJ.out i j hlt h2 (by omega) b e2 e)));have HL8:Hid (∀j,j<cs.length->Lv (2*L+1) w8 (E j) (zW rs ys j)):=λj hj=>(HL5.out j hj).kp hk8
     have R8:Rn (2*L+1) w8 s0 x0 n0 c0 f0 y0 m0 d0 g0 v.cost:=(Rn.kp R2.out hk8).mono (by omega);have HP8:=zk (zke (ao:=some ⟨g8,0,none⟩) (n:=(E i).length+1) (cap:=cap8) (E:=E i++[⟨s0,x0,n0,c0,f0,y0,m0,d0,g0⟩]) (by rw[List.length_append,List.length_singleton,show rcells (E i++[⟨s0,x0,n0,c0,f0,y0,m0,d0,g0⟩])=rcells (E i)++rcell ⟨s0,x0,n0,c0,f0,y0,m0,d0,g0⟩ by simp[rcells]];exact hr8) (Lv.snoc (t:=⟨s0,x0,n0,c0,f0,y0,m0,d0,g0⟩) (q:=v.cost) (HL8.out i hlt) R8) (by simp));have HLE:=zk (HL8.out i hlt).1;have HW8:=zk (le_trans HW5.out hk8.size);clear hr8 hk8 hb8 hg8 hl8 hrow R8 R2 HB5 HC5 HG5 HL5 hsz5 hzo HW5 hHeld;refine hK.out _ _ (λh=>by cases h) (λ_=>?_);clear hK K;try simp only[Act.put,List.setIfInBounds_toArray]
     refine rdP 9 (λK hK=>?_);go_simp
     go_at_call 33
     refine(zpo (L:=2*L+1) HP8.out (by rw[List.length_append,<-HLE.out];rfl) (by omega) (by omega)).mono ?_;rintro e w7 ⟨s7,x7,n7,c7,f7,y7,m7,d7,g7,rfl,hb7,hq7,hd7⟩
     (try go_wp2_with fail)
     have HD7:=zk (hd7.base HW8.out);clear hd7;have HQ7:=zk (show Rn (KV L) w7 s7 x7 n7 c7 f7 y7 m7 d7 g7 (psum (zW rs ys i++[v.cost]) 0)from hq7.mono (by unfold KV;have:((E i).length+1)*(2*L+1+1)<=65*(2*L+1+1):=Nat.mul_le_mul_right _ (by omega);omega));replace HB8:=zJ HB8 hb7;replace HC8:=zk (HC8.out.q_ hb7);replace HG8:=zk (HG8.out.q_ hb7);replace HL8:Hid (∀j,j<cs.length->Lv (2*L+1) w7 (E j) (zW rs ys j)):=zk (λj hj=>(HL8.out j hj).q_ hb7);replace HW8:=zk (le_trans HW8.out hb7.size)
     clear hb7 hq7 HP8 HLE hen;refine hK.out _ _ (λh=>by cases h) (λ_=>?_);clear hK K;try simp only[zA,Act.put]
     refine rdP 10 (λK hK=>?_);go_simp;refine hK.out _ _ (λh=>by cases h) (λ_=>?_);clear hK K;try simp only[zA,Act.put]
     refine rdP 11 (λK hK=>?_);have hzo:=HG8.out.own;obtain⟨T,hrow,hT⟩:=HG8.out;rw[hgl2]at hrow
     have hsz8:w2.heap.size<=w7.heap.size:=HW8.out;refine zaj w7 rfl (.tmp 81) (.tmp 91) 29 rfl w2.heap.size 24 56 3 (agg #[.bool false,slice none 0 0,slice none 0 0]) underlying29 zaR rfl (by decide) nz3 u14 i _ rfl hrow #[.bool s7,slice x7 n7 c7,slice y7 m7 d7] rfl rfl (zdp _ _ _ _ _ _ _) (zcD _ _ _ _ _ _ _) ?p3 ?p4 hsz8 ?_
     case p3=>omega
     case p4=>omega
     intro g10 cap10 w10 hr10 hk10 hb10 hg10 hl10;have HB10:=zk (hb10 w9 HB8.out (Nat.le_of_lt hgl));have HC10:=zk (HC8.out.of (w':=w10) (le_refl _) (hg10 w9.heap.size (Nat.lt_of_lt_of_le hgl HW8.out) (λe=>by have:=(hzo _ e).1;omega)) (λj h1 h2 b e=>hg10 b (Nat.lt_of_lt_of_le (HV0.out j h2 b e) HW8.out) (λe2=>by have h3:=HV0.out j h2 b e;have h4:=(hzo b e2).1;omega)));have HL10:Hid (∀j,j<cs.length->Lv (2*L+1) w10 (E j) (zW rs ys j)):=λj hj=>(HL8.out j hj).kp hk10
     have HG10:Hid (GrO (KV L) w2.heap.size w10 (slice (some ⟨g10,0,none⟩) (i+1) cap10) (zaB rs ys 0 (cs.take (i+1)))):=by
      have hp8:=zif hT (by rw[hgl2];exact hr10) hk10 HQ7.out HD7.out;rw[hgl2]at hp8
      rw[zdT rs ys 0 HV2.out,Nat.zero_add];exact hp8
     have HW10:=zk (le_trans HW8.out hk10.size);clear hr10 hk10 hb10 hg10 hl10 hrow hT hzo HB8 HC8 HG8 HL8 HW8 HQ7 HD7 hsz8;refine hK.out _ _ (λh=>by cases h) (λ_=>?_);clear hK K;try simp only[Act.put,List.setIfInBounds_toArray]
     refine zaC (i:=12) (v:=?_) rfl (by kernel_rfl) (by kernel_rfl) (by kernel_rfl) (by kernel_rfl) (λ_ _ _ h=>h) (Or.inl ⟨by rfl,?_⟩) (λh=>by cases h) ?_;rotate_left
     (focus (intro w0 hSw;go_simp <;> with_reducible rfl))
     simp only[List.getElem_toArray,List.getElem_cons_succ,List.getElem_cons_zero,Act.put,List.setIfInBounds_toArray,List.set_cons_zero,List.set_cons_succ];refine dnP ?_;go_wp2;go_roundw
     case rel=>exact⟨i+1,by omega,by go_num,HB10.out,HW10.out,HC10.out,HL10.out,HG10.out⟩
     case measure=>simp[intOf];omega
    ·have e1:i=cs.length:=by omega
     have i4':¬(((i:Nat):Int)<((cs.length:Nat):Int)):=by omega
     obtain⟨va,vc,hvs,hvc⟩:=HG.out.slice;rw[hgl2]at hvs hvc
     have HG4:=HG.out;rw[hvs,List.take_of_length_le (show cs.length<=i by omega)]at HG4
     replace HG4:=zk (show GrO (KV L) w.heap.size wr (slice va i vc) (zaB rs ys 0 cs)from HG4.base HS2.out);subst hvs;have HE:=zk (show cs.length=i by omega);have HV4:=zk hvc;clear HG e1 hvc HL HCT;go_wp2
     go_ret2
     exact⟨bUp HBA.out HB.out,.inr ⟨rfl,va,vc,by rw[HE.out];rfl,by rw[HE.out];exact HV4.out,by rw[HE.out];exact HG4.out⟩⟩
theorem Rn.sg {L w s x n c f y m d g q} (h:Rn L w s x n c f y m d g q):s=decide (q<0):=by
 have h1:=h.num.val;have h2:=h.num.wf;have h5:=zz h.num.lm;have hz:=h.q_zero
 cases s
 ·have h3:q.num=vf f n:=by rw[<-h1];rfl
  have h4:0<=q:=Rat.num_nonneg.1 (by omega);rw[decide_eq_false (Rat.not_lt.2 h4)]
 ·have hn:n≠0:=λe=>by subst e;simp[wfB]at h2
  have h3:q.num=- vf f n:=by rw[<-h1];rfl
  have h4:q<0:=Rat.not_le.1 (λe=>by
   have h6:=Rat.num_nonneg.2 e;exact hn (hz.1 (Rat.num_eq_zero.1 (by omega))))
  rw[decide_eq_true h4]
def OXL (K:Nat) (k:Int) (P:Int->Rat->Prop) (w':World) (i:Int) (s:Bool) (x:Option Addr) (n c:Nat) (f:Nat->Int) (y:Option Addr) (m d:Nat) (g:Nat->Int) (er:Int):Prop :=
 er=k/\(k≠0/\(i=0/\n=0/\m=0/\s=false)∨k=0/\∃q,P i q/\En K w' i s x n c f y m d g q)
def zsT (K:Nat) (k:Int) (P:Int->Rat->Prop) (w w':World) (e:Ending):Prop:=∃i s x n c f y m d g er,e=.returned (.tuple #[agg #[.int .i64 i,.bool s,slice x n c,slice y m d],.int .i64 er])/\Bl w w'/\Hid (OXL K k P w' i s x n c f y m d g er)
theorem znQ {w L i s x n c f y m d g s2 x2 n2 c2 f2 y2 m2 d2 g2 p1 p2 q r} (hL4:4<=L) (hL:L<=4096) (h1:Rw w x n c f y m d g) (h2:Rw w x2 n2 c2 f2 y2 m2 d2 g2) (hn:n<=4096) (hm:m<=4096) (hn2:n2<=4096) (hm2:m2<=4096) (hp1:efB i s f n g m=p1) (hp2:rfB s2 f2 n2 g2 m2=p2) (hq1:p1=true->En L w i s x n c f y m d g q) (hq2:p2=true->Rn L w s2 x2 n2 c2 f2 y2 m2 d2 g2 r) :
  Calls prog 67 #[agg #[.int .i64 i,.bool s,slice x n c,slice y m d],agg #[.bool s2,slice x2 n2 c2,slice y2 m2 d2]] w λe w'=>zsT (2*L+1) (ks (p1 && p2) n2) (zrT i q r s2) w w' e:=by
 have k1:=((zaT w (.int .i64 i) (.bool s) (slice x n c) (slice y m d) 40).alloc (cells #[.bool s2,slice x2 n2 c2,slice y2 m2 d2] 24)).alloc (cells #[.int .i64 0,.bool false,slice none 0 0,slice none 0 0] 40);have k2:=(zbs (w.alloc (cells #[.int .i64 i,.bool s,slice x n c,slice y m d] 40)) (.bool s2) (slice x2 n2 c2) (slice y2 m2 d2) 24).alloc (cells #[.int .i64 0,.bool false,slice none 0 0,slice none 0 0] 40);rw[zw]at k2
 have k5:=zba ((w.alloc (cells #[.int .i64 i,.bool s,slice x n c,slice y m d] 40)).alloc (cells #[.bool s2,slice x2 n2 c2,slice y2 m2 d2] 24)) 40;rw[zw,zw]at k5
 have k3:=zu (zu (zB w (cells #[.int .i64 i,.bool s,slice x n c,slice y m d] 40)) (cells #[.bool s2,slice x2 n2 c2,slice y2 m2 d2] 24)) (cells #[.int .i64 0,.bool false,slice none 0 0,slice none 0 0] 40);have HR1:=zk (h1.q_ k3);have HR2:=zk (h2.q_ k3);have HP1:=zk hp1;have HP2:=zk hp2;have HQ1:=zk (λk=>(hq1 k).q_ k3);have HQ2:=zk (λk=>(hq2 k).q_ k3)
 clear h1 h2 hp1 hp2 hq1 hq2;go_enter func67,ntmps67;go_upto_region 1 with fail
 generalize((w.alloc (cells #[.int .i64 i,.bool s,slice x n c,slice y m d] 40)).alloc (cells #[.bool s2,slice x2 n2 c2,slice y2 m2 d2] 24)).alloc (cells #[.int .i64 0,.bool false,slice none 0 0,slice none 0 0] 40)=w1 at *;have HW:=zk k3;have OB:=zk k5;have BA:=zk k1;have BB:=zk k2
 clear k1 k2 k3 k5;obtain⟨pp,hpp⟩:∃pp,(p1 && p2)=pp:=⟨_,rfl⟩;have HPP:=zk hpp;have CN:Hid (∀W:World,Calls prog 100 #[agg #[.bool s2,slice x2 n2 c2,slice y2 m2 d2]] W λe w'=>e=.returned (agg #[.int .i64 0,.bool s2,slice x2 n2 c2,slice y2 m2 d2])/\Bl W w'):=λW=>enumber_c
 have CAF:Hid (∀(W:World) (B:Nat),Li2 W B (.int .i64 i) (.bool s) (slice x n c) (slice y m d) (.int .i64 0) (.bool s2) (slice x2 n2 c2) (slice y2 m2 d2)->Bl w1 W->Calls prog 99 #[slice (some ⟨B,0,none⟩) 2 2] W λe w'=>e=.returned (.bool pp)/\Bl W w'):=λW B hB hW=>by
  have:=zfI hB (HR1.out.q_ hW) (HR2.out.q_ hW) (by omega) (by omega) (by omega) (by omega);rw[ef0,HP1.out,HP2.out,HPP.out]at this
  exact this
 clear hpp;go_cut [8]from 9 to 14 (λu wx=>∃(wy:World),wy=wx/\u=.bool (!pp)/\Bl w1 wy)
 case first =>
  obtain⟨za,a0,a1,a2,a3⟩:=BA.out;obtain⟨zb,b0,b1,b2⟩:=BB.out;go_region_held3 (λw'=>w'.cell? ⟨w.heap.size,0,none⟩=some (.int .i64 i)/\w'.cell? ⟨w.heap.size,1,none⟩=some (.bool s)/\w'.cell? ⟨w.heap.size,2,none⟩=some (slice x n c)/\w'.cell? ⟨w.heap.size,3,none⟩=some (slice y m d)/\w'.cell? ⟨w.heap.size+1,0,none⟩=some (.bool s2)/\w'.cell? ⟨w.heap.size+1,1,none⟩=some (slice x2 n2 c2)/\w'.cell? ⟨w.heap.size+1,2,none⟩=some (slice y2 m2 d2))
   (refine⟨?_,?_,?_,?_,?_,?_,?_⟩ <;> repeat(with_reducible first|assumption|refine kCd ?_|refine kCa ?_|refine kCb (by assumption) ?_))
   (first
    | (go_at_call 100;with_reducible refine(CN.out _).mono ?_;rintro e v5 ⟨rfl,hb5⟩)
    | (go_at_call 99;with_reducible refine(CAF.out _ _ (by repeat(with_reducible first|exact zny _ _ _ _ _ _ _ _ _ _|refine ztp ?_)) zai).mono ?_;rintro e v6 ⟨rfl,hb6⟩))
  all_goals
   go_wp2_with fail
   go_meet
   exact⟨_,rfl,rfl,zai⟩
 case rest =>
  obtain⟨w3,rfl,rfl,hb⟩:=hcut;have HB3:=zk hb;have HB:=zJ HW HB3.out;have OB3:=zk (OB.out.q_ HB3.out);clear hb CN CAF;cases pp
  ·obtain⟨hz,z0,z1,z2,z3,zf⟩:=OB3.out;go_wp2;exact bodyPost_ret (v:=.tuple #[agg #[.int .i64 0,.bool false,slice none 0 0,slice none 0 0],.int .i64 3]) (by simp[results,results67,go_sem,z0,z1,z2,z3]) rfl ⟨0,false,none,0,0,λ_=>0,none,0,0,λ_=>0,3,rfl,zZ HB.out (by omega),by rw[HPP.out];rfl,.inl ⟨by rw[HPP.out];exact(by decide:(3:Int)≠0),rfl,rfl,rfl,rfl⟩⟩
  have hpq:p1=true/\p2=true:=by simpa using HPP.out
  have E3:=zk ((HQ1.out hpq.1).q_ HB3.out);have S3:=zk ((HQ2.out hpq.2).q_ HB3.out)
  have hi3:i=0∨(i=-1∨i=1)/\q=0:=E3.out.inf;clear hpq;obtain⟨za,a0,a1,a2,a3⟩:=BA.out.q_ HB3.out;obtain⟨zb,b0,b1,b2⟩:=BB.out.q_ HB3.out;go_wp2_with fail
  refine eIsZero_c.mono ?_;rintro e w7 ⟨rfl,hb⟩;have HB7:=zJ HB hb;have HB37:=zJ HB3 hb;have OB7:=zk (OB3.out.q_ hb);have E7:=zk (E3.out.q_ hb);have S7:=zk (S3.out.q_ hb)
  clear hb za a0 a1 a2 a3 zb b0 b1 b2 HB OB3 E3 S3;by_cases hz2:n2=0
  ·rw[decide_eq_true hz2];have HK:Hid (ks (p1 && p2) n2=4):=by show ks (p1 && p2) n2=4;rw[HPP.out,ks,if_pos rfl,if_pos hz2]
   clear hz2;obtain⟨hz,z0,z1,z2,z3,zf⟩:=OB7.out;go_wp2;exact bodyPost_ret (v:=.tuple #[agg #[.int .i64 0,.bool false,slice none 0 0,slice none 0 0],.int .i64 4]) (by simp[results,results67,go_sem,z0,z1,z2,z3]) rfl ⟨0,false,none,0,0,λ_=>0,none,0,0,λ_=>0,4,rfl,zZ HB7.out (by omega),HK.out.symm,.inl ⟨by rw[HK.out];decide,rfl,rfl,rfl,rfl⟩⟩
  rw[decide_eq_false hz2];have HK:Hid (ks (p1 && p2) n2=0):=by show ks (p1 && p2) n2=0;rw[HPP.out,ks,if_pos rfl,if_neg hz2]
  clear hz2;obtain⟨za,a0,a1,a2,a3⟩:=BA.out.q_ HB37.out;obtain⟨zb,b0,b1,b2⟩:=BB.out.q_ HB37.out;rcases hi3 with rfl|⟨hi,hq0⟩
  ·go_wp2_with fail
   refine(zjd E7.out.rn S7.out (by omega)).mono ?_;rintro e w4 ⟨s4,x4,n4,c4,f4,y4,m4,d4,g4,rfl,hb,hr⟩;have HB4:=zk (zu (bUp HB7.out hb) (cells #[.bool s4,slice x4 n4 c4,slice y4 m4 d4] 24));have OB4:=zk ((OB7.out.q_ hb).alloc (cells #[.bool s4,slice x4 n4 c4,slice y4 m4 d4] 24));have R4:=zk (hr.alloc (cells #[.bool s4,slice x4 n4 c4,slice y4 m4 d4] 24));have BX4:=zk (zbs w4 (.bool s4) (slice x4 n4 c4) (slice y4 m4 d4) 24)
   clear hb hr za a0 a1 a2 a3 zb b0 b1 b2;obtain⟨zx,x0,x1,x2'⟩:=BX4.out;go_wp2_with fail
   generalize w4.alloc (cells #[.bool s4,slice x4 n4 c4,slice y4 m4 d4] 24)=w5 at *;generalize w4.heap.size=b5 at *;refine enumber_c.mono ?_;rintro e w6 ⟨rfl,hb⟩;have HB6:=zJ HB4 hb;have OB6:=zk (OB4.out.q_ hb);have R6:=zk (R4.out.q_ hb)
   clear hb zx x0 x1 x2';obtain⟨hz,z0,z1,z2,z3,zf⟩:=OB6.out;go_wp2;exact bodyPost_ret (v:=.tuple #[agg #[.int .i64 0,.bool s4,slice x4 n4 c4,slice y4 m4 d4],.int .i64 0]) (by simp[results,results67,go_sem,z0,z1,z2,z3]) rfl ⟨0,s4,x4,n4,c4,f4,y4,m4,d4,g4,0,rfl,zZ HB6.out (by omega),HK.out.symm,.inr ⟨HK.out,q*r,⟨by cases s2 <;> rfl,rfl⟩,⟨OB6.out.rn (R6.out.mono (by omega)),.inl rfl⟩⟩⟩
  have HQ0:Hid ((0:Rat)=q*r):=by show(0:Rat)=q*r;rw[hq0,Rat.zero_mul]
  clear hq0;rcases hi with rfl|rfl <;> cases s2
  all_goals
   go_wp2_with fail
   refine eInf_c.mono ?_;rintro e w4 ⟨s4,x4,n4,c4,f4,y4,m4,d4,g4,rfl,hb,hr⟩;have HB4:=zJ HB7 hb;have OB4:=zk (OB7.out.q_ hb);have R4:=zk hr
   clear hb hr za a0 a1 a2 a3 zb b0 b1 b2;obtain⟨hz,z0,z1,z2,z3,zf⟩:=OB4.out;go_wp2;first
    | exact bodyPost_ret (v:=.tuple #[agg #[.int .i64 1,.bool s4,slice x4 n4 c4,slice y4 m4 d4],.int .i64 0]) (by simp[results,results67,go_sem,z0,z1,z2,z3]) rfl ⟨1,s4,x4,n4,c4,f4,y4,m4,d4,g4,0,rfl,zZ HB4.out (by omega),HK.out.symm,.inr ⟨HK.out,0,⟨rfl,HQ0.out⟩,⟨OB4.out.rn (R4.out.mono (by omega)),.inr ⟨by decide,rfl⟩⟩⟩⟩
    | exact bodyPost_ret (v:=.tuple #[agg #[.int .i64 (-1),.bool s4,slice x4 n4 c4,slice y4 m4 d4],.int .i64 0]) (by simp[results,results67,go_sem,z0,z1,z2,z3]) rfl ⟨-1,s4,x4,n4,c4,f4,y4,m4,d4,g4,0,rfl,zZ HB4.out (by omega),HK.out.symm,.inr ⟨HK.out,0,⟨rfl,HQ0.out⟩,⟨OB4.out.rn (R4.out.mono (by omega)),.inr ⟨by decide,rfl⟩⟩⟩⟩
def zsS (L:Nat) (w w':World) (e:Ending) (i:Int) (q:Rat):Prop:=∃s x n c f y m d g,e=.returned (.tuple #[agg #[.int .i64 i,.bool s,slice x n c,slice y m d],.int .i64 0])/\Bl w w'/\En L w' i s x n c f y m d g q
theorem zin {w L i s x n c f y m d g s2 x2 n2 c2 f2 y2 m2 d2 g2 q r} (h1:En L w i s x n c f y m d g q) (h2:Rn L w s2 x2 n2 c2 f2 y2 m2 d2 g2 r) (hr:n2≠0) (hL4:4<=L) (hL:L<=4096) :
  Calls prog 67 #[agg #[.int .i64 i,.bool s,slice x n c,slice y m d],agg #[.bool s2,slice x2 n2 c2,slice y2 m2 d2]] w λe w'=>zsS (2*L+1) w w' e (if s2 then -i else i) (q*r):=by
 refine(znQ hL4 hL h1.rn.rw h2.rw (le_trans h1.rn.ln hL) (le_trans h1.rn.ld hL) (le_trans h2.ln hL) (le_trans h2.ld hL) h1.ef h2.rf (λ_=>h1) (λ_=>h2)).mono ?_;rintro e w' ⟨i',s',x',n',c',f',y',m',d',g',er,rfl,hb,ho⟩;obtain⟨e1,e2|⟨_,q',⟨e4,e5⟩,e6⟩⟩:=ho.out
 ·exact absurd (by simp[ks,hr]) e2.1
 ·have e7:er=0:=by rw[e1];simp[ks,hr]
  subst e7;subst e4;subst e5
  exact⟨s',x',n',c',f',y',m',d',g',rfl,hb,e6⟩
def zsR (w w':World) (e:Ending) (n:Nat) (s:Bool) (lo hi:Value):Prop:=Bl w w' /\
 ((n=0/\e=.returned (.tuple #[agg #[.int .i64 0,.bool false,slice none 0 0,slice none 0 0],.bool false]))∨(n≠0/\s=true/\e=.returned (.tuple #[hi,.bool true]))∨(n≠0/\s=false/\e=.returned (.tuple #[lo,.bool true])))
theorem dSide_c {w s x n c y m d i1 s1 x1 n1 c1 y1 m1 d1 i2 s2 x2 n2 c2 y2 m2 d2} :
  Calls prog 66 #[agg #[.bool s,slice x n c,slice y m d],agg #[.int .i64 i1,.bool s1,slice x1 n1 c1,slice y1 m1 d1],agg #[.int .i64 i2,.bool s2,slice x2 n2 c2,slice y2 m2 d2]] w λe w'=>zsR w w' e n s (agg #[.int .i64 i1,.bool s1,slice x1 n1 c1,slice y1 m1 d1]) (agg #[.int .i64 i2,.bool s2,slice x2 n2 c2,slice y2 m2 d2]):=by
 have hb:=zu (zu (zu (zB w (cells #[.bool s,slice x n c,slice y m d] 24)) (cells #[.int .i64 i1,.bool s1,slice x1 n1 c1,slice y1 m1 d1] 40)) (cells #[.int .i64 i2,.bool s2,slice x2 n2 c2,slice y2 m2 d2] 40)) (cells #[.int .i64 0,.bool false,slice none 0 0,slice none 0 0] 40);have BY:Bk ((((w.alloc (cells #[.bool s,slice x n c,slice y m d] 24)).alloc (cells #[.int .i64 i1,.bool s1,slice x1 n1 c1,slice y1 m1 d1] 40)).alloc (cells #[.int .i64 i2,.bool s2,slice x2 n2 c2,slice y2 m2 d2] 40)).alloc (cells #[.int .i64 0,.bool false,slice none 0 0,slice none 0 0] 40)) w.heap.size [.bool s,slice x n c,slice y m d] 24:=(((zF w [.bool s,slice x n c,slice y m d] 24).q_ (zu (Below.refl _ _) _)).q_ (zu (Below.refl _ _) _)).q_ (zu (Below.refl _ _) _);have BL:Bk ((((w.alloc (cells #[.bool s,slice x n c,slice y m d] 24)).alloc (cells #[.int .i64 i1,.bool s1,slice x1 n1 c1,slice y1 m1 d1] 40)).alloc (cells #[.int .i64 i2,.bool s2,slice x2 n2 c2,slice y2 m2 d2] 40)).alloc (cells #[.int .i64 0,.bool false,slice none 0 0,slice none 0 0] 40)) (w.heap.size+1) [.int .i64 i1,.bool s1,slice x1 n1 c1,slice y1 m1 d1] 40:=by
  have:=((zF (w.alloc (cells #[.bool s,slice x n c,slice y m d] 24)) [.int .i64 i1,.bool s1,slice x1 n1 c1,slice y1 m1 d1] 40).q_ (zu (Below.refl _ _) (cells #[.int .i64 i2,.bool s2,slice x2 n2 c2,slice y2 m2 d2] 40))).q_ (zu (Below.refl _ _) (cells #[.int .i64 0,.bool false,slice none 0 0,slice none 0 0] 40));rw[zw]at this;exact this
 have BH:Bk ((((w.alloc (cells #[.bool s,slice x n c,slice y m d] 24)).alloc (cells #[.int .i64 i1,.bool s1,slice x1 n1 c1,slice y1 m1 d1] 40)).alloc (cells #[.int .i64 i2,.bool s2,slice x2 n2 c2,slice y2 m2 d2] 40)).alloc (cells #[.int .i64 0,.bool false,slice none 0 0,slice none 0 0] 40)) (w.heap.size+2) [.int .i64 i2,.bool s2,slice x2 n2 c2,slice y2 m2 d2] 40:=by
  have:=(zF ((w.alloc (cells #[.bool s,slice x n c,slice y m d] 24)).alloc (cells #[.int .i64 i1,.bool s1,slice x1 n1 c1,slice y1 m1 d1] 40)) [.int .i64 i2,.bool s2,slice x2 n2 c2,slice y2 m2 d2] 40).q_ (zu (Below.refl _ _) (cells #[.int .i64 0,.bool false,slice none 0 0,slice none 0 0] 40));rw[zw,zw]at this;exact this
 have OB:Ob4 ((((w.alloc (cells #[.bool s,slice x n c,slice y m d] 24)).alloc (cells #[.int .i64 i1,.bool s1,slice x1 n1 c1,slice y1 m1 d1] 40)).alloc (cells #[.int .i64 i2,.bool s2,slice x2 n2 c2,slice y2 m2 d2] 40)).alloc (cells #[.int .i64 0,.bool false,slice none 0 0,slice none 0 0] 40)) (w.heap.size+3):=by
  have:=zba (((w.alloc (cells #[.bool s,slice x n c,slice y m d] 24)).alloc (cells #[.int .i64 i1,.bool s1,slice x1 n1 c1,slice y1 m1 d1] 40)).alloc (cells #[.int .i64 i2,.bool s2,slice x2 n2 c2,slice y2 m2 d2] 40)) 40;rw[zw,zw,zw]at this;exact this
 go_enter func66,ntmps66;go_upto_region 1 with fail
 generalize((((w.alloc (cells #[.bool s,slice x n c,slice y m d] 24)).alloc (cells #[.int .i64 i1,.bool s1,slice x1 n1 c1,slice y1 m1 d1] 40)).alloc (cells #[.int .i64 i2,.bool s2,slice x2 n2 c2,slice y2 m2 d2] 40)).alloc (cells #[.int .i64 0,.bool false,slice none 0 0,slice none 0 0] 40))=w1 at *;obtain⟨r0,r1⟩:=bk2 BY;obtain⟨l0,l1,l2,l3⟩:=bk4 BL;obtain⟨u0,u1,u2,u3⟩:=bk4 BH;obtain⟨hz,z0,z1,z2,z3,zf⟩:=OB;have HB:=zk hb;clear hb BY BL BH;by_cases hn:n=0
 ·subst hn;go_wp2;exact bodyPost_ret (v:=.tuple #[agg #[.int .i64 0,.bool false,slice none 0 0,slice none 0 0],.bool false]) (by simp[results,results66,go_sem,z0,z1,z2,z3]) rfl ⟨zZ HB.out (by omega),.inl ⟨rfl,rfl⟩⟩
 ·have HN:=zk hn;have hn2:((n:Nat):Int)≠0:=by omega
  clear hn;cases s
  ·go_wp2;exact bodyPost_ret (v:=.tuple #[agg #[.int .i64 i1,.bool s1,slice x1 n1 c1,slice y1 m1 d1],.bool true]) (by simp[results,results66,go_sem,z0,z1,z2,z3]) rfl ⟨zZ HB.out (by omega),.inr (.inr ⟨HN.out,rfl,rfl⟩)⟩
  ·go_wp2;exact bodyPost_ret (v:=.tuple #[agg #[.int .i64 i2,.bool s2,slice x2 n2 c2,slice y2 m2 d2],.bool true]) (by simp[results,results66,go_sem,z0,z1,z2,z3]) rfl ⟨zZ HB.out (by omega),.inr (.inl ⟨HN.out,rfl,rfl⟩)⟩
def shI (y:Rat) (i1 i2:Int):Int:=if y=0 then 0 else if y<0 then -i2 else i1
def shQ (y q1 q2:Rat):Rat:=if y=0 then 0 else if y<0 then q2*y else q1*y
def zqy (L:Nat) (w w':World) (e:Ending) (i:Int) (q:Rat):Prop:=∃s x n c f y m d g,e=.returned (agg #[.int .i64 i,.bool s,slice x n c,slice y m d])/\Bl w w'/\En L w' i s x n c f y m d g q
theorem ziu {w L s x n c f y m d g i1 s1 x1 n1 c1 f1 y1 m1 d1 g1 i2 s2 x2 n2 c2 f2 y2 m2 d2 g2 q q1 q2} (h:Rn L w s x n c f y m d g q) (h1:En L w i1 s1 x1 n1 c1 f1 y1 m1 d1 g1 q1) (h2:En L w i2 s2 x2 n2 c2 f2 y2 m2 d2 g2 q2) (hL4:4<=L) (hL:L<=4096) :
  Calls prog 34 #[agg #[.bool s,slice x n c,slice y m d],agg #[.int .i64 i1,.bool s1,slice x1 n1 c1,slice y1 m1 d1],agg #[.int .i64 i2,.bool s2,slice x2 n2 c2,slice y2 m2 d2]] w λe w'=>zqy (2*L+1) w w' e (shI q i1 i2) (shQ q q1 q2):=by
 have hb:=zu (zu (zu (zB w (cells #[.bool s,slice x n c,slice y m d] 24)) (cells #[.int .i64 i1,.bool s1,slice x1 n1 c1,slice y1 m1 d1] 40)) (cells #[.int .i64 i2,.bool s2,slice x2 n2 c2,slice y2 m2 d2] 40)) (cells #[.int .i64 0,.bool false,slice none 0 0,slice none 0 0] 40);have BY:Bk ((((w.alloc (cells #[.bool s,slice x n c,slice y m d] 24)).alloc (cells #[.int .i64 i1,.bool s1,slice x1 n1 c1,slice y1 m1 d1] 40)).alloc (cells #[.int .i64 i2,.bool s2,slice x2 n2 c2,slice y2 m2 d2] 40)).alloc (cells #[.int .i64 0,.bool false,slice none 0 0,slice none 0 0] 40)) w.heap.size [.bool s,slice x n c,slice y m d] 24:=(((zF w [.bool s,slice x n c,slice y m d] 24).q_ (zu (Below.refl _ _) _)).q_ (zu (Below.refl _ _) _)).q_ (zu (Below.refl _ _) _);have BL:Bk ((((w.alloc (cells #[.bool s,slice x n c,slice y m d] 24)).alloc (cells #[.int .i64 i1,.bool s1,slice x1 n1 c1,slice y1 m1 d1] 40)).alloc (cells #[.int .i64 i2,.bool s2,slice x2 n2 c2,slice y2 m2 d2] 40)).alloc (cells #[.int .i64 0,.bool false,slice none 0 0,slice none 0 0] 40)) (w.heap.size+1) [.int .i64 i1,.bool s1,slice x1 n1 c1,slice y1 m1 d1] 40:=by
  have:=((zF (w.alloc (cells #[.bool s,slice x n c,slice y m d] 24)) [.int .i64 i1,.bool s1,slice x1 n1 c1,slice y1 m1 d1] 40).q_ (zu (Below.refl _ _) (cells #[.int .i64 i2,.bool s2,slice x2 n2 c2,slice y2 m2 d2] 40))).q_ (zu (Below.refl _ _) (cells #[.int .i64 0,.bool false,slice none 0 0,slice none 0 0] 40));rw[zw]at this;exact this
 have BH:Bk ((((w.alloc (cells #[.bool s,slice x n c,slice y m d] 24)).alloc (cells #[.int .i64 i1,.bool s1,slice x1 n1 c1,slice y1 m1 d1] 40)).alloc (cells #[.int .i64 i2,.bool s2,slice x2 n2 c2,slice y2 m2 d2] 40)).alloc (cells #[.int .i64 0,.bool false,slice none 0 0,slice none 0 0] 40)) (w.heap.size+2) [.int .i64 i2,.bool s2,slice x2 n2 c2,slice y2 m2 d2] 40:=by
  have:=(zF ((w.alloc (cells #[.bool s,slice x n c,slice y m d] 24)).alloc (cells #[.int .i64 i1,.bool s1,slice x1 n1 c1,slice y1 m1 d1] 40)) [.int .i64 i2,.bool s2,slice x2 n2 c2,slice y2 m2 d2] 40).q_ (zu (Below.refl _ _) (cells #[.int .i64 0,.bool false,slice none 0 0,slice none 0 0] 40));rw[zw,zw]at this;exact this
 have OB:Ob4 ((((w.alloc (cells #[.bool s,slice x n c,slice y m d] 24)).alloc (cells #[.int .i64 i1,.bool s1,slice x1 n1 c1,slice y1 m1 d1] 40)).alloc (cells #[.int .i64 i2,.bool s2,slice x2 n2 c2,slice y2 m2 d2] 40)).alloc (cells #[.int .i64 0,.bool false,slice none 0 0,slice none 0 0] 40)) (w.heap.size+3):=by
  have:=zba (((w.alloc (cells #[.bool s,slice x n c,slice y m d] 24)).alloc (cells #[.int .i64 i1,.bool s1,slice x1 n1 c1,slice y1 m1 d1] 40)).alloc (cells #[.int .i64 i2,.bool s2,slice x2 n2 c2,slice y2 m2 d2] 40)) 40;rw[zw,zw,zw]at this;exact this
 have HY:=zk (h.q_ hb);have H1:=zk (h1.q_ hb);have H2:=zk (h2.q_ hb)
 have HQ0:=zk h.q_zero;have HSN:=zk h.sg
 clear h h1 h2;go_enter func34,ntmps34;go_upto_region 1 with fail
 generalize((((w.alloc (cells #[.bool s,slice x n c,slice y m d] 24)).alloc (cells #[.int .i64 i1,.bool s1,slice x1 n1 c1,slice y1 m1 d1] 40)).alloc (cells #[.int .i64 i2,.bool s2,slice x2 n2 c2,slice y2 m2 d2] 40)).alloc (cells #[.int .i64 0,.bool false,slice none 0 0,slice none 0 0] 40))=w1 at *;obtain⟨r0,r1,r2⟩:=bk3 BY;obtain⟨l0,l1,l2,l3⟩:=bk4 BL;obtain⟨k0,k1,k2,k3⟩:=bk4 BH;have HB:=zk hb;replace OB:=zk OB
 clear hb;go_wp2_with fail
 clear r0 r1 r2 l0 k0 l1 k1 l2 k2 l3 k3;refine dSide_c.mono ?_;rintro e w2 ⟨hb2,⟨hn,rfl⟩|⟨hn,hs,rfl⟩|⟨hn,hs,rfl⟩⟩
 ·have HI2:Hid (shI q i1 i2=0/\shQ q q1 q2=0):=by
   have h0:=HQ0.out.2 hn;exact⟨by rw[shI,if_pos h0],by rw[shQ,if_pos h0]⟩
  have hal:=zB w2 (cells #[.int .i64 0,.bool false,slice none 0 0,slice none 0 0] 40);have hb3:=bUp hb2 hal;replace OB:=zk (OB.out.q_ hb3);replace HB:=zJ HB hb3
  clear hb2 hal hb3 hn;go_wp2_with fail
  refine(zrj _).mono ?_;rintro e w4 ⟨s4,x4,n4,c4,f4,y4,m4,d4,g4,rfl,hb4,he4⟩;replace he4:=zk he4;replace OB:=zk (OB.out.q_ hb4);replace HB:=zJ HB hb4
  clear hb4;obtain⟨hz,z0,z1,z2,z3,zf⟩:=OB.out;go_wp2;exact bodyPost_ret (v:=agg #[.int .i64 0,.bool s4,slice x4 n4 c4,slice y4 m4 d4]) (by simp[results,results34,go_sem,z0,z1,z2,z3]) rfl ⟨s4,x4,n4,c4,f4,y4,m4,d4,g4,by rw[HI2.out.1],zZ HB.out (by omega),by rw[HI2.out.1,HI2.out.2];exact⟨OB.out.rn (he4.out.mono (by omega)),.inl rfl⟩⟩
 ·have HN:=zk hn;have HSG:Hid (shI q i1 i2=-i2/\shQ q q1 q2=q2*q):=by
   have h0:q≠0:=λe=>hn (HQ0.out.1 e)
   have h1:q<0:=by have h9:=HSN.out;rw[hs]at h9;exact of_decide_eq_true h9.symm
   exact⟨by rw[shI,if_neg h0,if_pos h1],by rw[shQ,if_neg h0,if_pos h1]⟩
  subst hs;clear hn;have n0:=HN.out;have hal:=zB w2 (cells #[.int .i64 i2,.bool s2,slice x2 n2 c2,slice y2 m2 d2] 40);have hb3:=bUp hb2 hal;have BY3:=BY.q_ hb3;obtain⟨t0,t1,t2⟩:=bk3 BY3;replace OB:=zk (OB.out.q_ hb3);replace HB:=zJ HB hb3;have R:=zk (HY.out.q_ hb3);have E:=zk (H2.out.q_ hb3)
  have HI2:=zk (show shI q i1 i2=-i2/\shQ q q1 q2=q2*q from HSG.out);clear hb2 hal hb3 BY3 HSG;go_wp2_with fail
  clear t0 t1 t2;refine(zin E.out R.out n0 hL4 hL).mono ?_;rintro e w4 ⟨s4,x4,n4,c4,f4,y4,m4,d4,g4,rfl,hb4,he4⟩;replace he4:=zk he4;have hal:=zB w4 (cells #[.int .i64 (-i2),.bool s4,slice x4 n4 c4,slice y4 m4 d4] 40);have hb5:=bUp hb4 hal;replace OB:=zk (OB.out.q_ hb5);replace HB:=zJ HB hb5;replace he4:=zk (he4.out.q_ hal)
  clear hb4 hal hb5;obtain⟨hz,z0,z1,z2,z3,zf⟩:=OB.out;go_wp2;exact bodyPost_ret (v:=agg #[.int .i64 (-i2),.bool s4,slice x4 n4 c4,slice y4 m4 d4]) (by simp[results,results34,go_sem,z0,z1,z2,z3]) rfl ⟨s4,x4,n4,c4,f4,y4,m4,d4,g4,by rw[HI2.out.1],zZ HB.out (by omega),by rw[HI2.out.1,HI2.out.2];exact⟨OB.out.rn he4.out.rn,he4.out.inf⟩⟩
 ·have HN:=zk hn;have HSG:Hid (shI q i1 i2=i1/\shQ q q1 q2=q1*q):=by
   have h0:q≠0:=λe=>hn (HQ0.out.1 e)
   have h1:¬q<0:=by have h9:=HSN.out;rw[hs]at h9;exact of_decide_eq_false h9.symm
   exact⟨by rw[shI,if_neg h0,if_neg h1],by rw[shQ,if_neg h0,if_neg h1]⟩
  subst hs;clear hn;have n0:=HN.out;have hal:=zB w2 (cells #[.int .i64 i1,.bool s1,slice x1 n1 c1,slice y1 m1 d1] 40);have hb3:=bUp hb2 hal;have BY3:=BY.q_ hb3;obtain⟨t0,t1,t2⟩:=bk3 BY3;replace OB:=zk (OB.out.q_ hb3);replace HB:=zJ HB hb3;have R:=zk (HY.out.q_ hb3);have E:=zk (H1.out.q_ hb3)
  have HI2:=zk (show shI q i1 i2=i1/\shQ q q1 q2=q1*q from HSG.out);clear hb2 hal hb3 BY3 HSG;go_wp2_with fail
  clear t0 t1 t2;refine(zin E.out R.out n0 hL4 hL).mono ?_;rintro e w4 ⟨s4,x4,n4,c4,f4,y4,m4,d4,g4,rfl,hb4,he4⟩;replace he4:=zk he4;have hal:=zB w4 (cells #[.int .i64 i1,.bool s4,slice x4 n4 c4,slice y4 m4 d4] 40);have hb5:=bUp hb4 hal;replace OB:=zk (OB.out.q_ hb5);replace HB:=zJ HB hb5;replace he4:=zk (he4.out.q_ hal)
  clear hb4 hal hb5;obtain⟨hz,z0,z1,z2,z3,zf⟩:=OB.out;go_wp2;exact bodyPost_ret (v:=agg #[.int .i64 i1,.bool s4,slice x4 n4 c4,slice y4 m4 d4]) (by simp[results,results34,go_sem,z0,z1,z2,z3]) rfl ⟨s4,x4,n4,c4,f4,y4,m4,d4,g4,by rw[HI2.out.1],zZ HB.out (by omega),by rw[HI2.out.1,HI2.out.2];exact⟨OB.out.rn he4.out.rn,he4.out.inf⟩⟩
theorem zrs {w L ao k cap p} (h:Rf L w ao p) (hk:p.length=k) (hkL:4+k*(L+1)<=199000) (hL:L<=199000) (hk2:k<=1000000) :
  Calls prog 33 #[slice ao k cap] w λe w'=>zct (4+k*(L+1)) w w' e (psum p 0):=by
 have H:=zk h;have h2:=zaA w 24;have h3:=zB w (cells #[.bool false,slice none 0 0,slice none 0 0] 24);clear h;go_enter func33,ntmps33;go_wp2_with fail
 generalize w.alloc (cells #[.bool false,slice none 0 0,slice none 0 0] 24)=w0 at *;refine(zkl (z:=0) (by omega) (by omega)).mono ?_;rintro e w4 ⟨s0,x0,n0,c0,f0,y0,m0,d0,g0,rfl,hb4,hq4⟩;have OB4:=zk (h2.q_ hb4);have HB4:=zk (bUp h3 hb4);have HQ4:=zk hq4
 clear h2 h3 hb4 hq4;go_wp2_with fail
 have hSx:Sx (w4.alloc (cells #[.bool s0,slice x0 n0 c0,slice y0 m0 d0] 24)) w4.heap.size s0 x0 n0 c0 y0 m0 d0:=⟨by simp,by simp[go_sem],by simp[go_sem],by simp[go_sem],λo=>by simp only[World.frozen?,heap_alloc_new w4 (cells #[.bool s0,slice x0 n0 c0,slice y0 m0 d0] 24)];simp⟩;have hal:=zB w4 (cells #[.bool s0,slice x0 n0 c0,slice y0 m0 d0] 24);have hne:w.heap.size<w4.heap.size:=OB4.out.z;have ST:=zk hSx;have HB5:=zJ HB4 hal;have HQ5:=zk (HQ4.out.q_ hal);have OB5:=zk (OB4.out.q_ hal)
 clear hSx hal HB4 HQ4 OB4;go_loopw[9] (λt wr=>∃(i:Nat) (acc:Rat) (s:Bool) (x:Option Addr) (n c:Nat) (f:Nat->Int) (y:Option Addr) (m d:Nat) (g:Nat->Int),i<=k/\t=.int .i64 i/\Hid (Bl w wr)/\Hid (Sx wr w4.heap.size s x n c y m d)/\Hid (Ob wr w.heap.size)/\Hid (Rn (4+i*(L+1)) wr s x n c f y m d g acc)/\Hid (psum (p.drop i) acc=psum p 0)) (λt _=>k-(intOf t).toNat)
 case atStart=>exact⟨0,0,s0,x0,n0,c0,f0,y0,m0,d0,g0,by omega,rfl,HB5,ST,OB5,(by show Rn _ _ _ _ _ _ _ _ _ _ _ _;exact HQ5.out.mono (by omega)),rfl⟩
 case round =>
  clear HB5 HQ5 OB5 ST;obtain⟨i,acc,s,x,n,c,f,y,m,d,g,hi,rfl,HB,HS,HO,HQ,HE⟩:=hrel;by_cases hlt:i<k
  ·obtain⟨q,haq⟩:∃t,p[i]?=some t:=⟨_,getElem?_eq_getElem (by omega)⟩;obtain⟨b,o,⟨ts,tx,tn,tc,tf,ty,tm,td,tg⟩,hav,hc,hr⟩:=(H.out.q_ HB.out) i q haq;have hav2:=hav;subst hav2;obtain⟨x0,x1,x2⟩:=hc;replace x0:wr.cell? ⟨b,o+i*3,none⟩=some (.bool ts):=x0;replace x1:wr.cell? ⟨b,o+i*3+1,none⟩=some (slice tx tn tc):=x1;replace x2:wr.cell? ⟨b,o+i*3+2,none⟩=some (slice ty tm td):=x2;have HD:Hid (psum (p.drop (i+1)) (acc+q)=psum p 0):=by
    show _=_;have e1:p.drop i=q :: p.drop (i+1):=by
     have hl:i<p.length:=by omega
     have:p[i]=q:=by rw[getElem?_eq_getElem hl]at haq;exact Option.some.inj haq
     rw[<-this];exact List.drop_eq_getElem_cons hl
    rw[<-HE.out,e1];rfl
   have hb5:=zB wr (cells #[.bool ts,slice tx tn tc,slice ty tm td] 24);have HR1:Hid (Rn L (wr.alloc (cells #[.bool ts,slice tx tn tc,slice ty tm td] 24)) ts tx tn tc tf ty tm td tg q):=Rn.q_ hr hb5;replace HS:=zk (HS.out.q_ hb5);replace HO:=zk (HO.out.q_ hb5);replace HQ:=zk (HQ.out.q_ hb5);replace HB:=zJ HB hb5
   have i2:((i:Nat):Int)<((k:Nat):Int):=by omega
   obtain⟨sz,u0,u1,u2,uf⟩:=HS.out;clear hr haq hav HE hb5;go_wp2_with fail
   clear sz u0 u1 u2 uf x0 x1 x2;generalize wr.alloc (cells #[.bool ts,slice tx tn tc,slice ty tm td] 24)=w5 at *;have hKi:4+i*(L+1)<=199000:=by have:i*(L+1)<=k*(L+1):=Nat.mul_le_mul_right _ hi;omega
   refine(zmU (L:=199000) (HQ.out.mono hKi) (HR1.out.mono (by omega)) (by omega)).mono ?_;rintro e w6 ⟨s6,x6,n6,c6,f6,y6,m6,d6,g6,rfl,hb6,hq6⟩;have S6:=HS.out.q_ hb6;have R1:=zk (zjb (bUp HB.out hb6) S6 (HO.out.q_ hb6) (hq6.cut (K:=4+(i+1)*(L+1)) ((zfu (HQ.out.lo HQ.out.ln HQ.out.ld) (HR1.out.lo HR1.out.ln HR1.out.ld)).mono (by rw[Nat.add_mul];omega))) hne);obtain⟨sz,u0,u1,u2,uf⟩:=S6;clear HS HO HQ HR1 HB hb6 hq6 hKi;go_wp2;go_roundw
   case rel=>exact⟨i+1,acc+q,s6,x6,n6,c6,f6,y6,m6,d6,g6,by omega,by go_num,R1.out.bel,R1.out.sx,R1.out.ob,R1.out.rn,HD.out⟩
   case measure=>simp[intOf];omega
  ·have e1:i=k:=by omega
   have HF:Hid (acc=psum p 0):=by
    show _=_;rw[<-HE.out,e1,<-hk,List.drop_length];rfl
   have i2:¬(((i:Nat):Int)<((k:Nat):Int)):=by omega
   obtain⟨sz,u0,u1,u2,uf⟩:=HS.out;obtain⟨hz,z0,z1,z2,zf⟩:=HO.out;have HKK:Hid (i=k):=e1;clear e1 HE;go_wp2;exact bodyPost_ret (v:=agg #[.bool s,slice x n c,slice y m d]) (by simp[results,results33,go_sem,z0,z1,z2]) rfl ⟨s,x,n,c,f,y,m,d,g,rfl,zU HB.out (by omega),by rw[<-HF.out,<-HKK.out];exact HO.out.rn HQ.out⟩
def smI (p:List (Int × Rat)):Int:=if p.any (λt=>decide (t.1≠0)) then -1 else 0
def smQ (p:List (Int × Rat)):Rat:=if p.any (λt=>decide (t.1≠0)) then 0 else psum (p.map (·.2)) 0
theorem zsi {p} {i:Nat} {a q} (h:p[i]?=some (a,q)) (ha:a≠0):smI p=-1/\smQ p=0:=by
 have h1:p.any (λt=>decide (t.1≠0))=true:=List.any_eq_true.2 ⟨(a,q),List.mem_of_getElem? h,by simpa using ha⟩;exact⟨by rw[smI,if_pos h1],by rw[smQ,if_pos h1]⟩
theorem zqY {p} (h:∀t ∈ p,t.1=0):smI p=0/\smQ p=psum (p.map (·.2)) 0:=by
 have h1:p.any (λt=>decide (t.1≠0))=false:=List.any_eq_false.2 (λt ht=>by simpa using h t ht);exact⟨by rw[smI,h1];rfl,by rw[smQ,h1];rfl⟩
theorem zfd {p:List (Int × Rat)} {i q} (h:∀t ∈ p.take i,t.1=0) (hi:p[i]?=some (0,q)):∀t ∈ p.take (i+1),t.1=0:=λt ht=>by
 rw[List.take_add_one,hi]at ht
 rcases List.mem_append.1 ht with h1|h1
 ·exact h t h1
 ·simp at h1;rw[h1]
theorem zrM {w L ao k cap p} (h:Tf L w ao p) (hk:p.length=k) (hkL:4+k*(L+1)<=199000) (hL:L<=199000) (hk2:k<=1000000) :
  Calls prog 35 #[slice ao k cap] w λe w'=>zqy (4+k*(L+1)) w w' e (smI p) (smQ p):=by
 have H:=zk h;have h2:=zba w 40;have h3:=zB w (cells #[.int .i64 0,.bool false,slice none 0 0,slice none 0 0] 40);have h4:w.heap.size<(w.alloc (cells #[.int .i64 0,.bool false,slice none 0 0,slice none 0 0] 40)).heap.size:=by simp
 clear h;go_enter func35,ntmps35;go_wp2_with fail
 generalize w.alloc (cells #[.int .i64 0,.bool false,slice none 0 0,slice none 0 0] 40)=w1 at *;have OB:=zk h2;have HB0:=zk h3
 clear h2 h3;go_loopw[3,8] (λov t wr=>∃(i:Nat),i<=k/\t=.int .i64 i/\Hid (Bl w1 wr)/\Hid (Gr L w1.heap.size wr ov ((p.take i).map (·.2)))/\Hid (∀t ∈ p.take i,t.1=0)) (λ_ t _=>k-(intOf t).toNat)
 case atStart=>exact⟨0,by omega,rfl,Below.refl _ _,zhe _ _ _,λt ht=>by simp at ht⟩
 case round =>
  obtain⟨i,hi,rfl,HB,HG,HZ⟩:=hrel;have hgl:((p.take i).map (·.2)).length=i:=by rw[List.length_map,List.length_take];omega
  by_cases hlt:i<k
  ·obtain⟨⟨a,q⟩,haq⟩:∃t,p[i]?=some t:=⟨_,getElem?_eq_getElem (by omega)⟩;have hbw:=bUp HB0.out HB.out;obtain⟨b,o,⟨ts,tx,tn,tc,tf,ty,tm,td,tg⟩,hav,hc,hr⟩:=(H.out.q_ hbw) i a q haq;have hav2:=hav;subst hav2;obtain⟨x0,x1,x2,x3⟩:=hc;replace x0:wr.cell? ⟨b,o+i*4,none⟩=some (.int .i64 a):=x0;replace x1:wr.cell? ⟨b,o+i*4+1,none⟩=some (.bool ts):=x1;replace x2:wr.cell? ⟨b,o+i*4+2,none⟩=some (slice tx tn tc):=x2;replace x3:wr.cell? ⟨b,o+i*4+3,none⟩=some (slice ty tm td):=x3;have hb5:=zB wr (cells #[.int .i64 a,.bool ts,slice tx tn tc,slice ty tm td] 40);obtain⟨a0,a1,a2,a3⟩:=bk4 (zF wr [.int .i64 a,.bool ts,slice tx tn tc,slice ty tm td] 40);replace hr:=zk (show Rn L (wr.alloc (cells #[.int .i64 a,.bool ts,slice tx tn tc,slice ty tm td] 40)) ts tx tn tc tf ty tm td tg q from Rn.q_ hr hb5);have i2:((i:Nat):Int)<((k:Nat):Int):=by omega
   have HAQ:=zk haq;have hb5s:=hb5.size;clear haq hav hbw;go_upto_region 5 with fail
   clear x0 x1 x2 x3;replace HB:=zJ HB hb5;replace HG:=zk (HG.out.q_ hb5)
   clear hb5 hb5s;generalize wr.heap.size=bx at *;generalize(wr.alloc (cells #[.int .i64 a,.bool ts,slice tx tn tc,slice ty tm td] 40))=w5 at *;by_cases ha:a=0
   ·subst ha;obtain⟨T,hrow,hT⟩:=HG.out;rw[hgl]at hrow
    have hsz:=HB.out.size;go_wp2_with(at_builtin;go_must (refine zO w5 rfl (.tmp 16) (.tmp 19) 29 rfl w1.heap.size 24 56 3 (agg #[.bool false,slice none 0 0,slice none 0 0]) underlying29 zaR rfl (by decide) nz3 u3 i _ rfl hrow #[.bool ts,slice tx tn tc,slice ty tm td] rfl rfl (zdp _ _ _ _ _ _ _) (zcD _ _ _ _ _ _ _) ?p1 (by decide) hsz ?_))
    case p1=>omega
    intro g8 cap8 w8 hr8 hk8 hb8 hg8;have HB8:=zk (hb8 w1 HB.out (le_refl _));have HG8:Hid (Gr L w1.heap.size w8 (slice (some ⟨g8,0,none⟩) (i+1) cap8) ((p.take (i+1)).map (·.2))):=by
     have hp8:=zeS hT (by rw[hgl];exact hr8) hk8 hr.out;rw[hgl]at hp8
     rw[List.take_add_one,HAQ.out,List.map_append];exact hp8
    have HZ8:=zk (zfd HZ.out HAQ.out);clear hr8 hk8 hb8 hg8 hrow hT HG HB HZ hr hsz a0 a1 a2 a3;go_wp2;go_roundw
    case rel=>exact⟨i+1,by omega,by go_num,HB8.out,HG8.out,HZ8.out⟩
    case measure=>simp[intOf];omega
   ·have HI:=zk (zsi HAQ.out ha);clear HZ HG;go_wp2_with fail
    refine eLow_c.mono ?_;rintro e w6 ⟨s4,x4,n4,c4,f4,y4,m4,d4,g4,rfl,hb6,hq6⟩;have HB6:=zJ HB hb6;have HQ6:=zk hq6;have HO6:=zk (OB.out.q_ HB6.out);obtain⟨hz,z0,z1,z2,z3,zf⟩:=HO6.out;clear hb6 hq6 HB a0 a1 a2 a3;go_wp2;exact bodyPost_ret (v:=agg #[.int .i64 (-1),.bool s4,slice x4 n4 c4,slice y4 m4 d4]) (by simp[results,results35,go_sem,z0,z1,z2,z3]) rfl ⟨s4,x4,n4,c4,f4,y4,m4,d4,g4,by rw[HI.out.1],zZ (bUp HB0.out HB6.out) (by omega),by rw[HI.out.1,HI.out.2];exact⟨HO6.out.rn (HQ6.out.rn.mono (by omega)),.inr ⟨by decide,rfl⟩⟩⟩
  ·have e1:i=k:=by omega
   have i4':¬(((i:Nat):Int)<((k:Nat):Int)):=by omega
   obtain⟨va,vc,hvs,hvc⟩:=HG.out.slice;rw[hgl]at hvs
   have HG4:=HG.out;rw[hvs]at HG4
   replace HG4:=zk (show Rf L wr va (p.map (·.2)) by have:=HG4.rf;rw[List.take_of_length_le (by omega)]at this;exact this);subst hvs;have HI:=zk (zqY (p:=p) (λt ht=>HZ.out t (by rw[List.take_of_length_le (by omega)];exact ht)));clear HG HZ hvc;go_wp2_with fail
   refine(zrs (L:=L) HG4.out (by rw[List.length_map];omega) hkL hL (by omega)).mono ?_;rintro e w6 ⟨s4,x4,n4,c4,f4,y4,m4,d4,g4,rfl,hb6,hq6⟩;have HB6:=zJ HB hb6;have HQ6:=zk hq6;have HO6:=zk (OB.out.q_ HB6.out);obtain⟨hz,z0,z1,z2,z3,zf⟩:=HO6.out;clear hb6 hq6 HB HG4;go_wp2;exact bodyPost_ret (v:=agg #[.int .i64 0,.bool s4,slice x4 n4 c4,slice y4 m4 d4]) (by simp[results,results35,go_sem,z0,z1,z2,z3]) rfl ⟨s4,x4,n4,c4,f4,y4,m4,d4,g4,by rw[HI.out.1],zZ (bUp HB0.out HB6.out) (by omega),by rw[HI.out.1,HI.out.2];exact⟨HO6.out.rn HQ6.out,.inl rfl⟩⟩
theorem zkB:(prog.info? 40).map (λi=>(i.zero,i.size,i.bytes))=some (some (agg #[.int .i64 0,.bool false,slice none 0 0,slice none 0 0]),4,64):=by kernel_rfl
def Ge (K base:Nat) (w:World) (v:Value) (p:List (Int × Rat)):Prop:=∃(col:Nat->Int) (T:Nat->Nm),RowG 40 4 base w v p.length (zaL (tls p.length col T))/\∀(j:Nat) (i:Int) (q:Rat),p[j]?=some (i,q)->col j=i/\Rn K w (T j).s (T j).x (T j).n (T j).c (T j).f (T j).y (T j).m (T j).d (T j).g q
theorem Ge.q_ {K base w w' v p} (h:Ge K base w v p) (hb:Bl w w'):Ge K base w' v p:=by
 obtain⟨col,T,h1,h2⟩:=h;exact⟨col,T,h1.q_ hb,λj i q e=>⟨(h2 j i q e).1,(h2 j i q e).2.q_ hb⟩⟩
theorem zrI {K base w i s x n c f y m d g q} (h:Rn K w s x n c f y m d g q) (hb:base<=w.heap.size):Ge K base (w.alloc (cells #[.int .i64 i,.bool s,slice x n c,slice y m d] 40)) (slice (some ⟨w.heap.size,0,none⟩) 1 1) [(i,q)]:=by
 refine⟨λ_=>i,λ_=>⟨s,x,n,c,f,y,m,d,g⟩,⟨rfl,.inr ⟨w.heap.size,1,#[.int .i64 i,.bool s,slice x n c,slice y m d],rfl,hb,heap_alloc_new w _,le_refl _,by decide,rfl,rfl,zaa (zlz _ _ _ _ _ _ _ _)⟩⟩,λj i' q' e=>?_⟩;cases j with
 | zero=>cases e;exact⟨rfl,h.alloc _⟩
 | succ j=>simp at e
theorem zkD {K base w0 w' p col T g cap i s x n c f y m d gg q} (hT:∀(j:Nat) (i:Int) (q:Rat),p[j]?=some (i,q)->col j=i/\Rn K w0 (T j).s (T j).x (T j).n (T j).c (T j).f (T j).y (T j).m (T j).d (T j).g q) (hr:RowG 40 4 base w' (slice (some ⟨g,0,none⟩) (p.length+1) cap) (p.length+1) (zaL (tls p.length col T)++#[Value.int .i64 i,.bool s,slice x n c,slice y m d].toList)) (hk:Kp w0 w') (hq:Rn K w0 s x n c f y m d gg q):Ge K base w' (slice (some ⟨g,0,none⟩) (p.length+1) cap) (p++[(i,q)]):=by
 refine⟨λj=>if j=p.length then i else col j,zaE T p.length ⟨s,x,n,c,f,y,m,d,gg⟩,?_,λj i' q' e=>?_⟩
 ·rw[List.length_append,List.length_singleton,zgB];simp only[if_true];rw[show tls p.length (λj=>if j=p.length then i else col j) T=tls p.length col T from List.map_congr_left (λj hj=>by dsimp only;rw[if_neg (by have:=List.mem_range.1 hj;omega)])];exact hr
 ·by_cases hj:j<p.length
  ·rw[List.getElem?_append_left hj]at e
   rw[putN_ne (by omega)];dsimp only;rw[if_neg (by omega)];exact⟨(hT j i' q' e).1,Rn.kp (hT j i' q' e).2 hk⟩
  ·rw[List.getElem?_append_right (by omega)]at e
   have h0:j-p.length=0:=by
    rcases Nat.eq_zero_or_pos (j-p.length)with h|h
    ·exact h
    ·rw[List.getElem?_eq_none (by simp;omega)]at e;cases e
   have hjj:j=p.length:=by omega
   subst hjj;rw[h0]at e
   cases e
   rw[zbt];dsimp only;rw[if_pos rfl];exact⟨rfl,Rn.kp hq hk⟩
theorem Ge.slice {K base w v p} (h:Ge K base w v p):∃ao cap,v=.slice ao p.length cap:=by
 obtain⟨col,T,h1,h2⟩:=h;exact h1.slice
theorem Ge.tf {K base w ao n cap p} (h:Ge K base w (.slice ao n cap) p):Tf K w ao p:=λj i q hj=>by
 obtain⟨col,T,h1,h2⟩:=h;have hl:j<p.length:=by
  rcases Nat.lt_or_ge j p.length with h|h
  ·exact h
  ·rw[List.getElem?_eq_none h]at hj;cases hj
 have hn:n=p.length:=by
  obtain⟨ao',cap',e⟩:=h1.slice;cases e;rfl
 subst hn;obtain⟨b,e,hc⟩:=zgH h1 hl;obtain⟨e1,e2⟩:=h2 j i q hj;exact⟨b,0,T j,e,by rw[<-e1];exact hc,e2⟩
def shR (rs:List RV) (ys:List Rat):List (Int × Rat):=List.zipWith (λv y=>(shI y v.li v.hi,shQ y v.lq v.hq)) rs ys
def shC (cs:List CV) (zs:List Rat):List (Int × Rat):=List.zipWith (λv y=>(shI y v.li v.hi,shQ y v.lq v.hq)) cs zs
theorem zmD {rs ys i v y} (hv:rs[i]?=some v) (hy:ys[i]?=some y):(shR rs ys).take (i+1)=(shR rs ys).take i++[(shI y v.li v.hi,shQ y v.lq v.hq)]:=by
 rw[List.take_add_one]
 congr 1
 unfold shR;rw[List.getElem?_zipWith,hv,hy];rfl
theorem zmE {cs ys i v y} (hv:cs[i]?=some v) (hy:ys[i]?=some y):(shC cs ys).take (i+1)=(shC cs ys).take i++[(shI y v.li v.hi,shQ y v.lq v.hq)]:=by
 rw[List.take_add_one]
 congr 1
 unfold shC;rw[List.getElem?_zipWith,hv,hy];rfl
def bnP (off:Rat) (cs:List CV) (rs:List RV) (ys:List Rat):List (Int × Rat):=(0,off) :: (shR rs ys++shC cs (zaB rs ys 0 cs))
def KS (L:Nat):Nat:=KV L+L+1
def KBo (L:Nat):Nat:=4+129*(KS L+1)
theorem zdY {L} (hL:1<=L):Lo L 0:=by
 have h:=zaQ hL;have h1:pw 1=18446744073709551616:=by decide
 constructor
 ·show((0:Nat):Int)<_;omega
 ·show((1:Nat):Int)<_;omega
theorem zqk {L y q1 q2} (hy:Lo (KV L) y) (h1:Lo L q1) (h2:Lo L q2) (hL:1<=L):Lo (KS L) (shQ y q1 q2):=by
 unfold shQ KS;by_cases h0:y=0
 ·rw[if_pos h0];exact zdY (by omega)
 ·rw[if_neg h0];by_cases h3:y<0
  ·rw[if_pos h3];exact(zft h2 hy).mono (by omega)
  ·rw[if_neg h3];exact(zft h1 hy).mono (by omega)
def zoB (L:Nat) (w w':World) (e:Ending) (er:Int) (p:List (Int × Rat)):Prop:=Bl w w' /\
 ((er≠0/\e=.returned (.tuple #[agg #[.int .i64 0,.bool false,slice none 0 0,slice none 0 0],.int .i64 er]))∨(er=0/\∃s x n c f y m d g,e=.returned (.tuple #[agg #[.int .i64 (smI p),.bool s,slice x n c,slice y m d],.int .i64 0])/\En (KBo L) w' (smI p) s x n c f y m d g (smQ p)))
theorem zix {w L M off cs rs ao k cap X ys er} (hW:MoW w M) (hx:Rl w ao k X) (hk:k<=1048576) (he:zbA M k X=er) (hv:er=0->MoV L w M off cs rs/\zbl cs rs=true/\Rf L w ao ys/\ys.length=k/\k=rs.length) (hL4:4<=L) (hL:L<=8) :
  Calls prog 11 #[M.val,slice ao k cap] w λe w'=>zoB L w w' e er (bnP off cs rs ys):=by
 have CR:Hid (∀W,Bl w W->Calls prog 10 #[M.val,slice ao k cap] W λe w'=>ziL L W w' e er cs rs ys):=λW hW2=>zdt (hW.q_ hW2) (hx.q_ hW2) hk he (λh0=>⟨(hv h0).1.q_ hW2,(hv h0).2.1,(hv h0).2.2.1.q_ hW2,(hv h0).2.2.2⟩) (by omega)
 have HV:=zk hv;clear hW hx hv he;obtain⟨⟨s,x,n,c,f,y,m,d,g⟩,ca,ck,cc,C,ra,rk,rc,R⟩:=M;replace CR:Hid (∀W,Bl w W->Calls prog 10 #[agg #[.bool s,slice x n c,slice y m d,slice ca ck cc,slice ra rk rc],slice ao k cap] W λe w'=>ziL L W w' e er cs rs ys):=CR;show Calls prog 11 #[agg #[.bool s,slice x n c,slice y m d,slice ca ck cc,slice ra rk rc],slice ao k cap] w _;have hb:=zu (zB w (cells #[.bool s,slice x n c,slice y m d,slice ca ck cc,slice ra rk rc] 28)) (cells #[.int .i64 0,.bool false,slice none 0 0,slice none 0 0] 40);have BM:=zk ((zF w [.bool s,slice x n c,slice y m d,slice ca ck cc,slice ra rk rc] 28).q_ (zB _ (cells #[.int .i64 0,.bool false,slice none 0 0,slice none 0 0] 40)));have OB:=zba (w.alloc (cells #[.bool s,slice x n c,slice y m d,slice ca ck cc,slice ra rk rc] 28)) 40;rw[zw]at OB
 have HB:=zk hb;replace OB:=zk OB
 clear hb;go_enter func11,ntmps11;go_upto_region 1 with fail
 generalize((w.alloc (cells #[.bool s,slice x n c,slice y m d,slice ca ck cc,slice ra rk rc] 28)).alloc (cells #[.int .i64 0,.bool false,slice none 0 0,slice none 0 0] 40))=w1 at *;obtain⟨r0,r1,r2,r3,r4⟩:=bk5 BM.out;go_wp2_with fail
 clear r0 r1 r2 r3 r4;refine(CR.out _ HB.out).mono ?_;rintro e w2 ⟨hb2,⟨h0,rfl⟩|⟨h0,za,zc,rfl,_,hz⟩⟩
 ·have h1:(er != 0)=true:=by simpa using h0
  have H0:=zk h0;replace OB:=zk (OB.out.q_ hb2);replace HB:=zJ HB hb2
  obtain⟨hz,z0,z1,z2,z3,zf⟩:=OB.out;clear hb2 h0 CR;go_wp2;exact bodyPost_ret (v:=.tuple #[agg #[.int .i64 0,.bool false,slice none 0 0,slice none 0 0],.int .i64 er]) (by simp[results,results11,go_sem,z0,z1,z2,z3]) rfl ⟨zZ HB.out (by omega),.inl ⟨H0.out,rfl⟩⟩
 ·obtain⟨v1,v2,v3,v4,v5⟩:=HV.out h0;have mp:=zbk v2;subst h0;have l64:=mp.cl;have r64:=mp.rl
  have HO:Hid (Rn L w s x n c f y m d g off):=v1.off;have HC:Hid (∀j v,cs[j]?=some v->(∃b o,ca=some ⟨b,o,none⟩/\Cs w b (o+j*12) (C j).vs)/\ColV L w (C j) v):=v1.cls;have HR:Hid (∀j v,rs[j]?=some v->(∃b o,ra=some ⟨b,o,none⟩/\Cs w b (o+j*10) (R j).vs)/\RowV L w (R j) v):=v1.rls;have hck:ck=cs.length:=v1.ck;have hrk:rk=rs.length:=v1.rk;subst hck;subst hrk
  subst v5;have HY:=zk v3;have HYL:=zk v4;have HRB:=zk mp.rb;have HCB:=zk mp.cb
  clear v1 v2 v3 v4 mp HV CR hk;obtain⟨zs,hzs⟩:∃t,zaB rs ys 0 cs=t:=⟨_,rfl⟩;have HZL:Hid (zs.length=cs.length):=by rw[<-hzs];exact zaX _ _ _ _
  have HP:Hid (bnP off cs rs ys=(0,off) :: (shR rs ys++shC cs zs)):=by rw[<-hzs];exact rfl
  rw[hzs]at hz
  have HZ:=zk hz;replace HB:=zJ HB hb2;replace BM:=zk (BM.out.q_ hb2);replace OB:=zk (OB.out.q_ hb2)
  have hsr:(shR rs ys).length=rs.length:=by unfold shR;rw[List.length_zipWith,HYL.out,Nat.min_self]
  have hsc:(shC cs zs).length=cs.length:=by unfold shC;rw[List.length_zipWith,HZL.out,Nat.min_self]
  have hKV:KS L=4+65*(2*L+1+1)+L+1:=rfl;clear hb2 hz hzs;obtain⟨r0,r1,r2,r3,r4⟩:=bk5 BM.out;have hal:=zB w2 (cells #[.int .i64 0,.bool s,slice x n c,slice y m d] 40);have r4':=kCb hal r4;have HG0:=zk (zrI (i:=0) (K:=KS L) (base:=w2.heap.size) ((HO.out.q_ HB.out).mono (by omega)) (le_refl _));go_wp2_with fail
  clear r0 r1 r2 r3 r4 r4' HO;go_loopw[8,30] (λpv t wr=>∃(i:Nat),i<=rs.length/\t=.int .i64 i/\Hid (Bl w2 wr)/\Hid (Ge (KS L) w2.heap.size wr pv ((0,off) :: (shR rs ys).take i))) (λ_ t _=>rs.length-(intOf t).toNat)
  case atStart=>exact⟨0,by omega,rfl,hal,HG0.out⟩
  case round =>
   clear HG0 hal;obtain⟨i,hi,rfl,HB2,HG⟩:=hrel;by_cases hlt:i<rs.length
   ·obtain⟨v,hv⟩:∃t,rs[i]?=some t:=⟨_,getElem?_eq_getElem (by omega)⟩;obtain⟨yq,hyq⟩:∃t,ys[i]?=some t:=⟨_,getElem?_eq_getElem (by have:=HYL.out;omega)⟩;have hbw:=bUp HB.out HB2.out;obtain⟨⟨b,o,hra,hc⟩,hRV⟩:=HR.out i v hv;have hbd:=HRB.out v (List.mem_of_getElem? hv);subst hra;obtain⟨⟨z,⟨i1,⟨s1,x1,n1,c1,f1,y1,m1,d1,g1⟩⟩,⟨i2,⟨s2,x2,n2,c2,f2,y2,m2,d2,g2⟩⟩,ta,tk,tc,tcol,tt⟩,hCi⟩:∃t,R i=t:=⟨_,rfl⟩;rw[hCi]at hc hRV
    have e1:i1=v.li:=hRV.li;have e2:i2=v.hi:=hRV.hi
    have E1:En L w i1 s1 x1 n1 c1 f1 y1 m1 d1 g1 v.lq:=⟨hRV.lq,by rw[e1];exact hbd.1⟩;have E2:En L w i2 s2 x2 n2 c2 f2 y2 m2 d2 g2 v.hq:=⟨hRV.hq,by rw[e2];exact hbd.2⟩
    replace hc:=Cs.q_ hc hbw;obtain⟨q0,q1,q2,q3,q4,q5,q6,q7,q8,q9⟩:=hc.lr;obtain⟨b',o',⟨ss,sx,sn,sc,sf,sy,sm,sd,sg⟩,hax,⟨p0,p1,p2⟩,hr'⟩:=(HY.out.q_ hbw) i yq hyq;subst hax;replace p0:wr.cell? ⟨b',o'+i*3,none⟩=some (.bool ss):=p0;replace p1:wr.cell? ⟨b',o'+i*3+1,none⟩=some (slice sx sn sc):=p1;replace p2:wr.cell? ⟨b',o'+i*3+2,none⟩=some (slice sy sm sd):=p2;replace hr':Rn L wr ss sx sn sc sf sy sm sd sg yq:=hr';have hbt:=zB wr (cells #[.string z,.int .i64 i1,.bool s1,slice x1 n1 c1,slice y1 m1 d1,.int .i64 i2,.bool s2,slice x2 n2 c2,slice y2 m2 d2,slice ta tk tc] 63);obtain⟨-,a1,a2,a3,a4,a5,a6,a7,a8⟩:=bk9 (zF wr [.string z,.int .i64 i1,.bool s1,slice x1 n1 c1,slice y1 m1 d1,.int .i64 i2,.bool s2,slice x2 n2 c2,slice y2 m2 d2,slice ta tk tc] 63);have i1':((i:Nat):Int)<((rs.length:Nat):Int):=by omega
    replace p0:=kCb hbt p0;replace p1:=kCb hbt p1;replace p2:=kCb hbt p2
    have RY:=zk ((hr'.q_ hbt).mono (show _<=KV L by unfold KV;omega));have RE1:=zk (((E1.q_ hbw).q_ hbt).mono (show L<=KV L by unfold KV;omega));have RE2:=zk (((E2.q_ hbw).q_ hbt).mono (show L<=KV L by unfold KV;omega))
    have HLO:=zk (zqk (RY.out.lo RY.out.ln RY.out.ld) (E1.rn.lo E1.rn.ln E1.rn.ld) (E2.rn.lo E2.rn.ln E2.rn.ld) (by omega));have HTK:=zk (zmD hv hyq);rw[<-e1,<-e2]at HTK
    clear hr' E1 E2 hCi hc hRV hbd e1 e2 hbw hv hyq;go_upto_region 8 with fail
    clear q0 q1 q2 q3 q4 q5 q6 q7 q8 q9;replace HB2:=zJ HB2 hbt;replace HG:=zk (HG.out.q_ hbt)
    clear hbt;generalize wr.heap.size=bx at *;generalize(wr.alloc (cells #[.string z,.int .i64 i1,.bool s1,slice x1 n1 c1,slice y1 m1 d1,.int .i64 i2,.bool s2,slice x2 n2 c2,slice y2 m2 d2,slice ta tk tc] 63))=w5 at *;refine zag (S:=(λw'=>w'.cell? ⟨bx,1,none⟩=some (.int .i64 i1)/\w'.cell? ⟨bx,2,none⟩=some (.bool s1)/\w'.cell? ⟨bx,3,none⟩=some (slice x1 n1 c1)/\w'.cell? ⟨bx,4,none⟩=some (slice y1 m1 d1)/\w'.cell? ⟨bx,5,none⟩=some (.int .i64 i2)/\w'.cell? ⟨bx,6,none⟩=some (.bool s2)/\w'.cell? ⟨bx,7,none⟩=some (slice x2 n2 c2)/\w'.cell? ⟨bx,8,none⟩=some (slice y2 m2 d2)/\w'.cell? ⟨b',o'+i*3,none⟩=some (.bool ss)/\w'.cell? ⟨b',o'+i*3+1,none⟩=some (slice sx sn sc)/\w'.cell? ⟨b',o'+i*3+2,none⟩=some (slice sy sm sd))) 9 (by kernel_rfl) ⟨kCd a1,kCd a2,kCd a3,kCd a4,kCd a5,kCd a6,kCd a7,kCd a8,kCd p0,kCd p1,kCd p2⟩ (λhHeld=>?_);have hbd:=Below.drew (Below.refl w5.heap.size w5);replace HB2:=zJ HB2 hbd;replace HG:=zk (HG.out.q_ hbd);replace RY:=zk (RY.out.q_ hbd);replace RE1:=zk (RE1.out.q_ hbd);replace RE2:=zk (RE2.out.q_ hbd)
    clear hbd a1 a2 a3 a4 a5 a6 a7 a8 p0 p1 p2;generalize w5.drew=wd at *;refine skP 0 ?_;refine skP 1 ?_;refine skP 2 ?_;simp only[zA,Act.put];refine skP 3 ?_;refine tkP 4 ?_;refine skP 5 ?_;simp only[zA,Act.put];refine tkP 6 ?_;refine skP 7 ?_;refine tkP 8 ?_;simp only[zA,Act.put];refine rdP 9 (λK hK=>?_);go_simp
    go_at_call 34
    refine(ziu (L:=KV L) RY.out RE1.out RE2.out (by unfold KV;omega) (by unfold KV;omega)).mono ?_;rintro e w6 ⟨s7,x7,n7,c7,f7,y7,m7,d7,g7,rfl,hb6,hq6⟩
    (try go_wp2_with fail)
    have HQ6:=zk (hq6.rn.cut HLO.out);replace HB2:=zJ HB2 hb6;replace HG:=zk (HG.out.q_ hb6)
    clear hb6 hq6 RY RE1 RE2 HLO hHeld;refine hK.out _ _ (λh=>by cases h) (λ_=>?_);clear hK K;try simp only[zA,Act.put]
    refine rdP 10 (λK hK=>?_);go_simp;refine hK.out _ _ (λh=>by cases h) (λ_=>?_);clear hK K;try simp only[zA,Act.put]
    refine rdP 11 (λK hK=>?_);have hln:((0,off) :: (shR rs ys).take i).length=i+1:=by rw[List.length_cons,List.length_take];omega
    obtain⟨col,T,hrow,hT⟩:=HG.out;rw[hln]at hrow
    have hsz:=HB2.out.size;refine zaY w6 rfl (.tmp 35) (.tmp 45) 83 rfl w2.heap.size 40 64 4 (agg #[.int .i64 0,.bool false,slice none 0 0,slice none 0 0]) underlying83 zkB rfl (by decide) nz4 u8 (i+1) _ rfl hrow #[.int .i64 (shI yq i1 i2),.bool s7,slice x7 n7 c7,slice y7 m7 d7] rfl rfl (zps _ _ _ _ _ _ _ _) (zlz _ _ _ _ _ _ _ _) ?p1 (by decide) hsz ?_
    case p1=>omega
    intro g8 cap8 w8 hr8 hk8 hb8 hg8;have HB8:=zk (hb8 w2 HB2.out (le_refl _));have HG8:Hid (Ge (KS L) w2.heap.size w8 (slice (some ⟨g8,0,none⟩) (i+1+1) cap8) ((0,off) :: (shR rs ys).take (i+1))):=by
     have hp8:=zkD hT (by rw[hln];exact hr8) hk8 HQ6.out;rw[hln]at hp8
     rw[HTK.out];exact hp8
    clear hr8 hk8 hb8 hg8 hrow hT HG HB2 HQ6 HTK hsz hln;refine hK.out _ _ (λh=>by cases h) (λ_=>?_);clear hK K;try simp only[Act.put,List.setIfInBounds_toArray]
    refine zaC (i:=12) (v:=?_) rfl (by kernel_rfl) (by kernel_rfl) (by kernel_rfl) (by kernel_rfl) (λ_ _ _ h=>h) (Or.inl ⟨by rfl,?_⟩) (λh=>by cases h) ?_;rotate_left
    (focus (intro w0 hSw;go_simp <;> with_reducible rfl))
    simp only[List.getElem_toArray,List.getElem_cons_succ,List.getElem_cons_zero,Act.put,List.setIfInBounds_toArray,List.set_cons_zero,List.set_cons_succ];refine dnP ?_;go_wp2;go_roundw
    case rel=>exact⟨i+1,by omega,by go_num,HB8.out,HG8.out⟩
    case measure=>simp[intOf];omega
   ·have e1:i=rs.length:=by omega
    have i4':¬(((i:Nat):Int)<((rs.length:Nat):Int)):=by omega
    have HG9:Hid (Ge (KS L) w2.heap.size wr u8 ((0,off) :: (shR rs ys++(shC cs zs).take 0))):=by
     have h:=HG.out;rw[List.take_of_length_le (by omega)]at h
     rw[List.take_zero,List.append_nil];exact h
    have r3:=(BM.out.q_ HB2.out).cell (j:=3) rfl;clear HG e1;go_wp2_with fail
    clear r3;go_loopw[8,51] (λpv t wr=>∃(i:Nat),i<=cs.length/\t=.int .i64 i/\Hid (Bl w2 wr)/\Hid (Ge (KS L) w2.heap.size wr pv ((0,off) :: (shR rs ys++(shC cs zs).take i)))) (λ_ t _=>cs.length-(intOf t).toNat)
    case atStart=>exact⟨0,by omega,rfl,HB2.out,HG9.out⟩
    case round =>
     clear HG9 HB2;obtain⟨i,hi,rfl,HB2,HG⟩:=hrel;by_cases hlt:i<cs.length
     ·obtain⟨v,hv⟩:∃t,cs[i]?=some t:=⟨_,getElem?_eq_getElem (by omega)⟩;obtain⟨yq,hyq⟩:∃t,zs[i]?=some t:=⟨_,getElem?_eq_getElem (by have:=HZL.out;omega)⟩;have hbw:=bUp HB.out HB2.out;obtain⟨⟨b,o,hra,hc⟩,hRV⟩:=HC.out i v hv;have hbd:=HCB.out v (List.mem_of_getElem? hv);subst hra;obtain⟨⟨z,⟨s0,x0,n0,c0,f0,y0,m0,d0,g0⟩,⟨i1,⟨s1,x1,n1,c1,f1,y1,m1,d1,g1⟩⟩,⟨i2,⟨s2,x2,n2,c2,f2,y2,m2,d2,g2⟩⟩⟩,hCi⟩:∃t,C i=t:=⟨_,rfl⟩;rw[hCi]at hc hRV
      have e1:i1=v.li:=hRV.li;have e2:i2=v.hi:=hRV.hi
      have E1:En L w i1 s1 x1 n1 c1 f1 y1 m1 d1 g1 v.lq:=⟨hRV.lq,by rw[e1];exact hbd.1⟩;have E2:En L w i2 s2 x2 n2 c2 f2 y2 m2 d2 g2 v.hq:=⟨hRV.hq,by rw[e2];exact hbd.2⟩
      replace hc:=Cs.q_ hc hbw;obtain⟨q0,q1,q2,q3,q4,q5,q6,q7,q8,q9,q10,q11⟩:=hc.lc;obtain⟨b',o',⟨ss,sx,sn,sc,sf,sy,sm,sd,sg⟩,hax,⟨p0,p1,p2⟩,hr'⟩:=(HZ.out.q_ HB2.out) i yq hyq;subst hax;replace p0:wr.cell? ⟨b',o'+i*3,none⟩=some (.bool ss):=p0;replace p1:wr.cell? ⟨b',o'+i*3+1,none⟩=some (slice sx sn sc):=p1;replace p2:wr.cell? ⟨b',o'+i*3+2,none⟩=some (slice sy sm sd):=p2;replace hr':Rn (KV L) wr ss sx sn sc sf sy sm sd sg yq:=hr';have hbt:=zB wr (cells #[.string z,.bool s0,slice x0 n0 c0,slice y0 m0 d0,.int .i64 i1,.bool s1,slice x1 n1 c1,slice y1 m1 d1,.int .i64 i2,.bool s2,slice x2 n2 c2,slice y2 m2 d2] 60);obtain⟨-,-,-,-,a4,a5,a6,a7,a8,a9,a10,a11⟩:=zeg (zF wr [.string z,.bool s0,slice x0 n0 c0,slice y0 m0 d0,.int .i64 i1,.bool s1,slice x1 n1 c1,slice y1 m1 d1,.int .i64 i2,.bool s2,slice x2 n2 c2,slice y2 m2 d2] 60);have i1':((i:Nat):Int)<((cs.length:Nat):Int):=by omega
      replace p0:=kCb hbt p0;replace p1:=kCb hbt p1;replace p2:=kCb hbt p2
      have RY:=zk ((hr'.q_ hbt).mono (show _<=KV L by unfold KV;omega));have RE1:=zk (((E1.q_ hbw).q_ hbt).mono (show L<=KV L by unfold KV;omega));have RE2:=zk (((E2.q_ hbw).q_ hbt).mono (show L<=KV L by unfold KV;omega))
      have HLO:=zk (zqk (RY.out.lo RY.out.ln RY.out.ld) (E1.rn.lo E1.rn.ln E1.rn.ld) (E2.rn.lo E2.rn.ln E2.rn.ld) (by omega));have HTK:=zk (zmE hv hyq);rw[<-e1,<-e2]at HTK
      clear hr' E1 E2 hCi hc hRV hbd e1 e2 hbw hv hyq;go_upto_region 13 with fail
      clear q0 q1 q2 q3 q4 q5 q6 q7 q8 q9 q10 q11;replace HB2:=zJ HB2 hbt;replace HG:=zk (HG.out.q_ hbt)
      clear hbt;generalize wr.heap.size=bx at *;generalize(wr.alloc (cells #[.string z,.bool s0,slice x0 n0 c0,slice y0 m0 d0,.int .i64 i1,.bool s1,slice x1 n1 c1,slice y1 m1 d1,.int .i64 i2,.bool s2,slice x2 n2 c2,slice y2 m2 d2] 60))=w5 at *;refine zag (S:=(λw'=>w'.cell? ⟨bx,4,none⟩=some (.int .i64 i1)/\w'.cell? ⟨bx,5,none⟩=some (.bool s1)/\w'.cell? ⟨bx,6,none⟩=some (slice x1 n1 c1)/\w'.cell? ⟨bx,7,none⟩=some (slice y1 m1 d1)/\w'.cell? ⟨bx,8,none⟩=some (.int .i64 i2)/\w'.cell? ⟨bx,9,none⟩=some (.bool s2)/\w'.cell? ⟨bx,10,none⟩=some (slice x2 n2 c2)/\w'.cell? ⟨bx,11,none⟩=some (slice y2 m2 d2)/\w'.cell? ⟨b',o'+i*3,none⟩=some (.bool ss)/\w'.cell? ⟨b',o'+i*3+1,none⟩=some (slice sx sn sc)/\w'.cell? ⟨b',o'+i*3+2,none⟩=some (slice sy sm sd))) 9 (by kernel_rfl) ⟨kCd a4,kCd a5,kCd a6,kCd a7,kCd a8,kCd a9,kCd a10,kCd a11,kCd p0,kCd p1,kCd p2⟩ (λhHeld=>?_);have hbd:=Below.drew (Below.refl w5.heap.size w5);replace HB2:=zJ HB2 hbd;replace HG:=zk (HG.out.q_ hbd);replace RY:=zk (RY.out.q_ hbd);replace RE1:=zk (RE1.out.q_ hbd);replace RE2:=zk (RE2.out.q_ hbd)
      clear hbd a4 a5 a6 a7 a8 a9 a10 a11 p0 p1 p2;generalize w5.drew=wd at *;refine skP 0 ?_;refine skP 1 ?_;refine skP 2 ?_;simp only[zA,Act.put];refine skP 3 ?_;refine tkP 4 ?_;refine skP 5 ?_;simp only[zA,Act.put];refine tkP 6 ?_;refine skP 7 ?_;refine tkP 8 ?_;simp only[zA,Act.put];refine rdP 9 (λK hK=>?_);go_simp
      go_at_call 34
      refine(ziu (L:=KV L) RY.out RE1.out RE2.out (by unfold KV;omega) (by unfold KV;omega)).mono ?_;rintro e w6 ⟨s7,x7,n7,c7,f7,y7,m7,d7,g7,rfl,hb6,hq6⟩
      (try go_wp2_with fail)
      have HQ6:=zk (hq6.rn.cut HLO.out);replace HB2:=zJ HB2 hb6;replace HG:=zk (HG.out.q_ hb6)
      clear hb6 hq6 RY RE1 RE2 HLO hHeld;refine hK.out _ _ (λh=>by cases h) (λ_=>?_);clear hK K;try simp only[zA,Act.put]
      refine rdP 10 (λK hK=>?_);go_simp;refine hK.out _ _ (λh=>by cases h) (λ_=>?_);clear hK K;try simp only[zA,Act.put]
      refine rdP 11 (λK hK=>?_);have hln:((0,off) :: (shR rs ys++(shC cs zs).take i)).length=rs.length+i+1:=by rw[List.length_cons,List.length_append,List.length_take];omega
      obtain⟨col,T,hrow,hT⟩:=HG.out;rw[hln]at hrow
      have hsz:=HB2.out.size;refine zaY w6 rfl (.tmp 56) (.tmp 66) 83 rfl w2.heap.size 40 64 4 (agg #[.int .i64 0,.bool false,slice none 0 0,slice none 0 0]) underlying83 zkB rfl (by decide) nz4 u8 (rs.length+i+1) _ rfl hrow #[.int .i64 (shI yq i1 i2),.bool s7,slice x7 n7 c7,slice y7 m7 d7] rfl rfl (zps _ _ _ _ _ _ _ _) (zlz _ _ _ _ _ _ _ _) ?p1 (by decide) hsz ?_
      case p1=>omega
      intro g8 cap8 w8 hr8 hk8 hb8 hg8;have HB8:=zk (hb8 w2 HB2.out (le_refl _));have HG8:Hid (Ge (KS L) w2.heap.size w8 (slice (some ⟨g8,0,none⟩) (rs.length+i+1+1) cap8) ((0,off) :: (shR rs ys++(shC cs zs).take (i+1)))):=by
       have hp8:=zkD hT (by rw[hln];exact hr8) hk8 HQ6.out;rw[hln]at hp8
       rw[HTK.out];rw[<-List.append_assoc];exact hp8
      clear hr8 hk8 hb8 hg8 hrow hT HG HB2 HQ6 HTK hsz hln;refine hK.out _ _ (λh=>by cases h) (λ_=>?_);clear hK K;try simp only[Act.put,List.setIfInBounds_toArray]
      refine zaC (i:=12) (v:=?_) rfl (by kernel_rfl) (by kernel_rfl) (by kernel_rfl) (by kernel_rfl) (λ_ _ _ h=>h) (Or.inl ⟨by rfl,?_⟩) (λh=>by cases h) ?_;rotate_left
      (focus (intro w0 hSw;go_simp <;> with_reducible rfl))
      simp only[List.getElem_toArray,List.getElem_cons_succ,List.getElem_cons_zero,Act.put,List.setIfInBounds_toArray,List.set_cons_zero,List.set_cons_succ];refine dnP ?_;go_wp2;go_roundw
      case rel=>exact⟨i+1,by omega,by go_num,HB8.out,HG8.out⟩
      case measure=>simp[intOf];omega
     ·have e1:i=cs.length:=by omega
      have i4':¬(((i:Nat):Int)<((cs.length:Nat):Int)):=by omega
      have HG9:=HG.out;rw[List.take_of_length_le (by omega),<-HP.out]at HG9
      have hln:(bnP off cs rs ys).length=1+rs.length+cs.length:=by rw[HP.out,List.length_cons,List.length_append];omega
      obtain⟨va,vc,hvs⟩:=HG9.slice;rw[hvs]at HG9
      have HT:=zk HG9.tf;rw[hln]at hvs
      subst hvs;have HLN:=zk hln;clear HG HG9 e1 hln;go_wp2_with fail
      have hkl:4+(1+rs.length+cs.length)*(KS L+1)<=KBo L:=by unfold KBo;have h9:(1+rs.length+cs.length)*(KS L+1)<=129*(KS L+1):=Nat.mul_le_mul_right _ (by omega);omega
      refine(zrM HT.out HLN.out (le_trans hkl (by unfold KBo;omega)) (by omega) (by omega)).mono ?_;rintro e w6 ⟨s4,x4,n4,c4,f4,y4,m4,d4,g4,rfl,hb6,hq6⟩;have HQ6:=zk (hq6.mono hkl);replace HB2:=zJ HB2 hb6;replace OB:=zk (OB.out.q_ HB2.out);obtain⟨hz,z0,z1,z2,z3,zf⟩:=OB.out;clear hb6 hq6 HT;go_wp2;exact bodyPost_ret (v:=.tuple #[agg #[.int .i64 (smI (bnP off cs rs ys)),.bool s4,slice x4 n4 c4,slice y4 m4 d4],.int .i64 0]) (by simp[results,results11,go_sem,z0,z1,z2,z3]) rfl ⟨zZ (bUp HB.out HB2.out) (by omega),.inr ⟨rfl,s4,x4,n4,c4,f4,y4,m4,d4,g4,rfl,OB.out.rn HQ6.out.rn,HQ6.out.inf⟩⟩
theorem zkG {f g}:∀{r i:Nat},eqs f g r i=true ↔ ∀j,i<=j->j<i+r->f j=g j
 | 0,i=>⟨λ_ j a b=>by omega,λ_=>rfl⟩
 | r+1,i=>by
  simp only[eqs,Bool.and_eq_true,decide_eq_true_eq,zkG (r:=r)];constructor
  ·rintro⟨h1,h2⟩ j a b;by_cases e:j=i
   ·subst e;exact h1
   ·exact h2 j (by omega) (by omega)
  ·intro h;exact⟨h i (by omega) (by omega),λj a b=>h j (by omega) (by omega)⟩
theorem zpT {n m f g}:eqlB n m f g=true ↔ Alk n m f g:=by
 unfold eqlB Alk;simp only[Bool.and_eq_true,decide_eq_true_eq,zkG];exact⟨λ⟨a,b⟩=>⟨a,λj hj=>b j (by omega) (by omega)⟩,λ⟨a,b⟩=>⟨a,λj _ hj=>b j (by omega)⟩⟩
theorem sq_iff {a b}:sqB a b=true ↔ a.s=b.s/\Alk a.n b.n a.f b.f/\Alk a.m b.m a.g b.g:=by
 unfold sqB;simp only[Bool.and_eq_true,decide_eq_true_eq,zpT]
theorem zpk {w a b} (ha:NmS w a) (hb:NmS w b):Calls prog 16 #[a.val,b.val] w λr w'=>r=.returned (.bool (sqB a b))/\Bl w w' :=
 (zeI a.s a.x a.y a.n a.c a.m a.d a.f a.g b.s b.x b.y b.n b.c b.m b.d b.f b.g w ha.1.rx ha.1.ry hb.1.rx hb.1.ry (le_trans ha.2.1 (by decide)) (le_trans ha.2.2 (by decide)) (le_trans hb.2.1 (by decide)) (le_trans hb.2.2 (by decide))).mono
  λe w' ⟨q,h1,h2,h3⟩=>⟨by rw[h1,Bool.eq_iff_iff.2 (h3.trans sq_iff.symm)],h2⟩
theorem zds {w a b} (ha:NmS w a) (hb:NmS w b):Calls prog 38 #[a.val,b.val] w λr w'=>r=.returned (.bool (sqB a b))/\Bl w w':=by
 have C1:=zk (λw' (hw:Bl w w')=>zij (w:=w') (c:=a.c) (d:=b.c) (ha.1.rx.q_ hw (le_refl _)) (hb.1.rx.q_ hw (le_refl _)) (by have:=ha.2.1;omega) (by have:=hb.2.1;omega));have C2:=zk (λw' (hw:Bl w w')=>zij (w:=w') (c:=a.d) (d:=b.d) (ha.1.ry.q_ hw (le_refl _)) (hb.1.ry.q_ hw (le_refl _)) (by have:=ha.2.2;omega) (by have:=hb.2.2;omega));obtain⟨t1,ht1⟩:∃t,eqlB a.n b.n a.f b.f=t:=⟨_,rfl⟩;obtain⟨t2,ht2⟩:∃t,eqlB a.m b.m a.g b.g=t:=⟨_,rfl⟩;obtain⟨ans,hans⟩:∃t,sqB a b=t:=⟨_,rfl⟩;have hA:ans=(decide (a.s=b.s) && (t1 && t2)):=by rw[<-hans,<-ht1,<-ht2];rfl
 rw[ht1]at C1
 rw[ht2]at C2
 rw[hans];clear hans ht1 ht2 ha hb;obtain⟨s,x,n,c,f,y,m,d,g⟩:=a;obtain⟨s2,x2,n2,c2,f2,y2,m2,d2,g2⟩:=b;have HA:Hid (ans=(decide (s=s2) && (t1 && t2))):=hA;replace C1:Hid (∀w' (hw:Bl w w'),Calls prog 70 #[slice x n c,slice x2 n2 c2] w' λe w2=>e=.returned (.bool t1)/\Bl w' w2):=C1;replace C2:Hid (∀w' (hw:Bl w w'),Calls prog 70 #[slice y m d,slice y2 m2 d2] w' λe w2=>e=.returned (.bool t2)/\Bl w' w2):=C2;clear hA;show Calls prog 38 #[agg #[.bool s,slice x n c,slice y m d],agg #[.bool s2,slice x2 n2 c2,slice y2 m2 d2]] w _;have HB0:=zk (zu (zB w (cells #[.bool s,slice x n c,slice y m d] 24)) (cells #[.bool s2,slice x2 n2 c2,slice y2 m2 d2] 24));by_cases hs:s=s2
 case neg =>
  have HS:=zk (show decide (s=s2)=false from by simp[hs]);have e1:(s==s2)=false:=by simpa using hs
  go_enter func38,ntmps38;go_wp2;go_ret;refine⟨?_,HB0.out⟩;rw[HA.out,HS.out];rfl
 subst hs;have HS:=zk (show decide (s=s)=true from by simp);have e1:(s==s)=true:=by simp
 go_enter func38,ntmps38;go_wp2_with fail
 refine(C1.out _ HB0.out).mono ?_;rintro r w1 ⟨rfl,hb1⟩;have k1:=kCb hb1 (a:=⟨w.heap.size,2,none⟩) (v:=slice y m d) (by simp[go_sem]);have k2:=kCb hb1 (a:=⟨w.heap.size+1,2,none⟩) (v:=slice y2 m2 d2) (by simp[go_sem]);have HB1:=zJ HB0 hb1;clear hb1 HB0 C1;cases t1
 ·go_wp2;go_ret;refine⟨?_,HB1.out⟩;rw[HA.out,HS.out];rfl
 ·go_wp2_with fail
  refine(C2.out _ HB1.out).mono ?_;rintro r w2 ⟨rfl,hb2⟩;have HB2:=zJ HB1 hb2;clear hb2 HB1 C2;go_wp2;go_ret;refine⟨?_,HB2.out⟩;rw[HA.out,HS.out];cases t2 <;> rfl
theorem zjB {w ao bo k l cap cap' X Y} (hx:∀j,j<k->∃b o,ao=some ⟨b,o,none⟩/\Cs w b (o+j*3) (rcell (X j))/\NmS w (X j)) (hy:∀j,j<l->∃b o,bo=some ⟨b,o,none⟩/\Cs w b (o+j*3) (rcell (Y j))/\NmS w (Y j)) (hk:k<=1048576) (hl:l<=1048576) :
  Calls prog 37 #[slice ao k cap,slice bo l cap',.func (.func 38) #[] #[]] w λe w'=>e=.returned (.bool (eqfB sqB k l X Y))/\Bl w w':=by
 have HX:=zk hx;have HY:=zk hy
 clear hx hy;by_cases hkl:k=l
 case neg =>
  have HE:=zk (show eqfB sqB k l X Y=false from by simp[eqfB,hkl]);have e1:((k:Int) != (l:Int))=true:=by simp;omega
  clear hkl;go_enter func37,ntmps37;go_wp2;go_ret;refine⟨?_,Below.refl _ _⟩;rw[HE.out];rfl
 subst hkl;have HE:=zk (show eqfB sqB k k X Y=eqf sqB X Y k 0 from by simp[eqfB]);have e1:((k:Int) != (k:Int))=false:=by simp
 go_enter func37,ntmps37;go_wp2_with fail
 go_loopw[17] (λt wr=>∃(i:Nat),i<=k/\t=.int .i64 i/\Hid (Bl w wr)/\Hid (eqfB sqB k k X Y=eqf sqB X Y (k-i) i)) (λt _=>k-(intOf t).toNat)
 case atStart=>exact⟨0,by omega,rfl,Below.refl _ _,HE.out⟩
 case round =>
  obtain⟨i,hi,rfl,HB,HI⟩:=hrel;by_cases hlt:i<k
  ·obtain⟨b,o,rfl,hc,hn⟩:=HX.out i hlt;obtain⟨b2,o2,rfl,hc2,hn2⟩:=HY.out i hlt;replace hc:=hc.q_ HB.out;replace hc2:=hc2.q_ HB.out;replace hn:=hn.q_ HB.out;replace hn2:=hn2.q_ HB.out
   obtain⟨r,hr⟩:∃r,k-i=r+1:=⟨k-i-1,by omega⟩;obtain⟨t1,ht1⟩:∃t,sqB (X i) (Y i)=t:=⟨_,rfl⟩;have hT:eqfB sqB k k X Y=(t1 && eqf sqB X Y r (i+1)):=by rw[HI.out,hr,<-ht1];rfl
   have hr2:k-(i+1)=r:=by omega
   have CE:=zk (λw' (hw:Bl wr w')=>zds (w:=w') (hn.q_ hw) (hn2.q_ hw));rw[ht1]at CE
   obtain⟨⟨s0,x0,n0,c0,f0,y0,m0,d0,g0⟩,hCi⟩:∃t,X i=t:=⟨_,rfl⟩;obtain⟨⟨vs0,vx0,vn0,vc0,vf0,vy0,vm0,vd0,vg0⟩,hCi2⟩:∃t,Y i=t:=⟨_,rfl⟩;rw[hCi]at hc CE
   rw[hCi2]at hc2 CE
   replace CE:Hid (∀w' (hw:Bl wr w'),Calls prog 38 #[agg #[.bool s0,slice x0 n0 c0,slice y0 m0 d0],agg #[.bool vs0,slice vx0 vn0 vc0,slice vy0 vm0 vd0]] w' λe w2=>e=.returned (.bool t1)/\Bl w' w2):=CE;have hb1:=zB wr (cells #[.bool s0,slice x0 n0 c0,slice y0 m0 d0] 24);have q1:wr.cell? ⟨b,o+i*3,none⟩=some (.bool s0):=hc 0 _ rfl;have q2:wr.cell? ⟨b,o+i*3+1,none⟩=some (slice x0 n0 c0):=hc 1 _ rfl;have q3:wr.cell? ⟨b,o+i*3+2,none⟩=some (slice y0 m0 d0):=hc 2 _ rfl;have g1':(wr.alloc (cells #[.bool s0,slice x0 n0 c0,slice y0 m0 d0] 24)).cell? ⟨b2,o2+i*3,none⟩=some (.bool vs0):=kCb hb1 (hc2 0 _ rfl);have g2':(wr.alloc (cells #[.bool s0,slice x0 n0 c0,slice y0 m0 d0] 24)).cell? ⟨b2,o2+i*3+1,none⟩=some (slice vx0 vn0 vc0):=kCb hb1 (hc2 1 _ rfl);have g3':(wr.alloc (cells #[.bool s0,slice x0 n0 c0,slice y0 m0 d0] 24)).cell? ⟨b2,o2+i*3+2,none⟩=some (slice vy0 vm0 vd0):=kCb hb1 (hc2 2 _ rfl);have p1:((wr.alloc (cells #[.bool s0,slice x0 n0 c0,slice y0 m0 d0] 24)).alloc (cells #[.bool vs0,slice vx0 vn0 vc0,slice vy0 vm0 vd0] 24)).cell? ⟨wr.heap.size,0,none⟩=some (.bool s0):=by simp[go_sem]
   have p2:((wr.alloc (cells #[.bool s0,slice x0 n0 c0,slice y0 m0 d0] 24)).alloc (cells #[.bool vs0,slice vx0 vn0 vc0,slice vy0 vm0 vd0] 24)).cell? ⟨wr.heap.size,1,none⟩=some (slice x0 n0 c0):=by simp[go_sem]
   have p3:((wr.alloc (cells #[.bool s0,slice x0 n0 c0,slice y0 m0 d0] 24)).alloc (cells #[.bool vs0,slice vx0 vn0 vc0,slice vy0 vm0 vd0] 24)).cell? ⟨wr.heap.size,2,none⟩=some (slice y0 m0 d0):=by simp[go_sem]
   have r1:((wr.alloc (cells #[.bool s0,slice x0 n0 c0,slice y0 m0 d0] 24)).alloc (cells #[.bool vs0,slice vx0 vn0 vc0,slice vy0 vm0 vd0] 24)).cell? ⟨wr.heap.size+1,0,none⟩=some (.bool vs0):=by simp[go_sem]
   have r2:((wr.alloc (cells #[.bool s0,slice x0 n0 c0,slice y0 m0 d0] 24)).alloc (cells #[.bool vs0,slice vx0 vn0 vc0,slice vy0 vm0 vd0] 24)).cell? ⟨wr.heap.size+1,1,none⟩=some (slice vx0 vn0 vc0):=by simp[go_sem]
   have r3:((wr.alloc (cells #[.bool s0,slice x0 n0 c0,slice y0 m0 d0] 24)).alloc (cells #[.bool vs0,slice vx0 vn0 vc0,slice vy0 vm0 vd0] 24)).cell? ⟨wr.heap.size+1,2,none⟩=some (slice vy0 vm0 vd0):=by simp[go_sem]
   have HB6:=zk (zu hb1 (cells #[.bool vs0,slice vx0 vn0 vc0,slice vy0 vm0 vd0] 24));have HT:=zk hT;have HR:=zk hr2
   have i1':((i:Nat):Int)<((k:Nat):Int):=by omega
   clear hT hr2 hr hCi hCi2 ht1 hc hc2 hn hn2 hb1;go_upto_region 7 with fail
   clear q1 g1' q2 g2' q3 g3';generalize((wr.alloc (cells #[.bool s0,slice x0 n0 c0,slice y0 m0 d0] 24)).alloc (cells #[.bool vs0,slice vx0 vn0 vc0,slice vy0 vm0 vd0] 24))=w6 at *;go_wp2_with fail
   refine(CE.out _ HB6.out).mono ?_;rintro e w7 ⟨rfl,hb7⟩;have HB7:=zk (HB.out.trans ((bUp HB6.out hb7).mono HB.out.size));clear hb7 HB6 CE p1 r1 p2 r2 p3 r3;cases t1
   ·go_wp2;go_ret;refine⟨?_,HB7.out⟩;rw[HT.out];rfl
   ·go_wp2;go_roundw
    case rel =>
     refine⟨i+1,by omega,by go_num,HB7.out,?_⟩;show _=_;rw[HT.out,HR.out];rfl
    case measure=>simp[intOf];omega
  ·have e1:i=k:=by omega
   have HE:Hid (eqfB sqB k k X Y=true):=by show _=_;rw[HI.out,e1,Nat.sub_self];rfl
   have i2:¬(((i:Nat):Int)<((k:Nat):Int)):=by omega
   clear e1 HI;go_wp2;go_ret;refine⟨?_,HB.out⟩;rw[HE.out];rfl
def rsB (y:Rat) (i1:Int) (q1:Rat) (i2:Int) (q2 at_:Rat):Bool:=if y=0 then true else if y<0 then decide (i2=0) && decide (q2=at_) else decide (i1=0) && decide (q1=at_)
theorem zjX {L w w' s x n c f y m d g s1 x1 n1 c1 f1 y1 m1 d1 g1 q q1} (h:Rn L w s x n c f y m d g q) (h1:Rn L w' s1 x1 n1 c1 f1 y1 m1 d1 g1 q1):sqB ⟨s,x,n,c,f,y,m,d,g⟩ ⟨s1,x1,n1,c1,f1,y1,m1,d1,g1⟩=decide (q=q1):=by
 have h2:=Rn.inj h h1;rw[Bool.eq_iff_iff,sq_iff,decide_eq_true_eq];exact h2
theorem ziv {w L s x n c f y m d g i1 s1 x1 n1 c1 f1 y1 m1 d1 g1 i2 s2 x2 n2 c2 f2 y2 m2 d2 g2 s3 x3 n3 c3 f3 y3 m3 d3 g3 q q1 q2 q3} (h:Rn L w s x n c f y m d g q) (h1:Rn L w s1 x1 n1 c1 f1 y1 m1 d1 g1 q1) (h2:Rn L w s2 x2 n2 c2 f2 y2 m2 d2 g2 q2) (h3:Rn L w s3 x3 n3 c3 f3 y3 m3 d3 g3 q3) (hL:L<=65536) :
  Calls prog 72 #[agg #[.bool s,slice x n c,slice y m d],agg #[.int .i64 i1,.bool s1,slice x1 n1 c1,slice y1 m1 d1],agg #[.int .i64 i2,.bool s2,slice x2 n2 c2,slice y2 m2 d2],agg #[.bool s3,slice x3 n3 c3,slice y3 m3 d3]] w λe w'=>e=.returned (.bool (rsB q i1 q1 i2 q2 q3))/\Bl w w':=by
 have hb:=zu (zu (zu (zB w (cells #[.bool s,slice x n c,slice y m d] 24)) (cells #[.int .i64 i1,.bool s1,slice x1 n1 c1,slice y1 m1 d1] 40)) (cells #[.int .i64 i2,.bool s2,slice x2 n2 c2,slice y2 m2 d2] 40)) (cells #[.bool s3,slice x3 n3 c3,slice y3 m3 d3] 24);have BY:Bk ((((w.alloc (cells #[.bool s,slice x n c,slice y m d] 24)).alloc (cells #[.int .i64 i1,.bool s1,slice x1 n1 c1,slice y1 m1 d1] 40)).alloc (cells #[.int .i64 i2,.bool s2,slice x2 n2 c2,slice y2 m2 d2] 40)).alloc (cells #[.bool s3,slice x3 n3 c3,slice y3 m3 d3] 24)) w.heap.size [.bool s,slice x n c,slice y m d] 24:=(((zF w [.bool s,slice x n c,slice y m d] 24).q_ (zu (Below.refl _ _) _)).q_ (zu (Below.refl _ _) _)).q_ (zu (Below.refl _ _) _);have BL:Bk ((((w.alloc (cells #[.bool s,slice x n c,slice y m d] 24)).alloc (cells #[.int .i64 i1,.bool s1,slice x1 n1 c1,slice y1 m1 d1] 40)).alloc (cells #[.int .i64 i2,.bool s2,slice x2 n2 c2,slice y2 m2 d2] 40)).alloc (cells #[.bool s3,slice x3 n3 c3,slice y3 m3 d3] 24)) (w.heap.size+1) [.int .i64 i1,.bool s1,slice x1 n1 c1,slice y1 m1 d1] 40:=by
  have:=((zF (w.alloc (cells #[.bool s,slice x n c,slice y m d] 24)) [.int .i64 i1,.bool s1,slice x1 n1 c1,slice y1 m1 d1] 40).q_ (zu (Below.refl _ _) (cells #[.int .i64 i2,.bool s2,slice x2 n2 c2,slice y2 m2 d2] 40))).q_ (zu (Below.refl _ _) (cells #[.bool s3,slice x3 n3 c3,slice y3 m3 d3] 24));rw[zw]at this;exact this
 have BH:Bk ((((w.alloc (cells #[.bool s,slice x n c,slice y m d] 24)).alloc (cells #[.int .i64 i1,.bool s1,slice x1 n1 c1,slice y1 m1 d1] 40)).alloc (cells #[.int .i64 i2,.bool s2,slice x2 n2 c2,slice y2 m2 d2] 40)).alloc (cells #[.bool s3,slice x3 n3 c3,slice y3 m3 d3] 24)) (w.heap.size+2) [.int .i64 i2,.bool s2,slice x2 n2 c2,slice y2 m2 d2] 40:=by
  have:=(zF ((w.alloc (cells #[.bool s,slice x n c,slice y m d] 24)).alloc (cells #[.int .i64 i1,.bool s1,slice x1 n1 c1,slice y1 m1 d1] 40)) [.int .i64 i2,.bool s2,slice x2 n2 c2,slice y2 m2 d2] 40).q_ (zu (Below.refl _ _) (cells #[.bool s3,slice x3 n3 c3,slice y3 m3 d3] 24));rw[zw,zw]at this;exact this
 have BA:Bk ((((w.alloc (cells #[.bool s,slice x n c,slice y m d] 24)).alloc (cells #[.int .i64 i1,.bool s1,slice x1 n1 c1,slice y1 m1 d1] 40)).alloc (cells #[.int .i64 i2,.bool s2,slice x2 n2 c2,slice y2 m2 d2] 40)).alloc (cells #[.bool s3,slice x3 n3 c3,slice y3 m3 d3] 24)) (w.heap.size+1+1+1) [.bool s3,slice x3 n3 c3,slice y3 m3 d3] 24:=by
  have:=zF (((w.alloc (cells #[.bool s,slice x n c,slice y m d] 24)).alloc (cells #[.int .i64 i1,.bool s1,slice x1 n1 c1,slice y1 m1 d1] 40)).alloc (cells #[.int .i64 i2,.bool s2,slice x2 n2 c2,slice y2 m2 d2] 40)) [.bool s3,slice x3 n3 c3,slice y3 m3 d3] 24;rw[zw,zw,zw]at this;exact this
 have HY:=zk (h.q_ hb);have H1:=zk (h1.q_ hb);have H2:=zk (h2.q_ hb);have H3:=zk (h3.q_ hb)
 have HQ0:=zk h.q_zero;have HSN:=zk h.sg
 clear h h1 h2 h3;go_enter func72,ntmps72;go_upto_region 1 with fail
 generalize((((w.alloc (cells #[.bool s,slice x n c,slice y m d] 24)).alloc (cells #[.int .i64 i1,.bool s1,slice x1 n1 c1,slice y1 m1 d1] 40)).alloc (cells #[.int .i64 i2,.bool s2,slice x2 n2 c2,slice y2 m2 d2] 40)).alloc (cells #[.bool s3,slice x3 n3 c3,slice y3 m3 d3] 24))=w1 at *;obtain⟨r0,r1,r2⟩:=bk3 BY;obtain⟨l0,l1,l2,l3⟩:=bk4 BL;obtain⟨k0,k1,k2,k3⟩:=bk4 BH;have HB:=zk hb;clear hb;go_wp2_with fail
 clear r0 r1 r2 l0 l1 l2 l3 k0 k1 k2 k3;refine dSide_c.mono ?_;rintro e w2 ⟨hb2,⟨hn,rfl⟩|⟨hn,hs,rfl⟩|⟨hn,hs,rfl⟩⟩
 ·have HSG:Hid (rsB q i1 q1 i2 q2 q3=true):=by show _=_;rw[rsB,if_pos (HQ0.out.2 hn)]
  clear hn;have hal:=zB w2 (cells #[.int .i64 0,.bool false,slice none 0 0,slice none 0 0] 40);have hb3:=bUp hb2 hal;replace HB:=zJ HB hb3;clear hb2 hal hb3;go_wp2;go_ret;exact⟨by rw[HSG.out];rfl,HB.out⟩
 ·have HSG:Hid (rsB q i1 q1 i2 q2 q3=(decide (i2=0) && decide (q2=q3))):=by
   have h0:q≠0:=λe=>hn (HQ0.out.1 e)
   have h1:q<0:=by have h9:=HSN.out;rw[hs]at h9;exact of_decide_eq_true h9.symm
   show _=_;rw[rsB,if_neg h0,if_pos h1]
  clear hn hs;have hal:=zB w2 (cells #[.int .i64 i2,.bool s2,slice x2 n2 c2,slice y2 m2 d2] 40);have hb3:=bUp hb2 hal;have BA3:=BA.q_ hb3;obtain⟨t0,t1,t2⟩:=bk3 BA3;replace HB:=zJ HB hb3;have R:=zk (H3.out.q_ hb3);have E:=zk (H2.out.q_ hb3)
  clear hb2 hal hb3 BA3;by_cases hi:i2=0
  ·have HD:Hid (decide (i2=0)=true):=decide_eq_true hi;subst hi;have CS:=zk (zjX E.out R.out);go_wp2_with fail
   refine(zds (a:=⟨s2,x2,n2,c2,f2,y2,m2,d2,g2⟩) (b:=⟨s3,x3,n3,c3,f3,y3,m3,d3,g3⟩) (NmV.nms (t:=⟨s2,x2,n2,c2,f2,y2,m2,d2,g2⟩) (q:=q2) E.out hL).1 (NmV.nms (t:=⟨s3,x3,n3,c3,f3,y3,m3,d3,g3⟩) (q:=q3) R.out hL).1).mono ?_;rintro e w4 ⟨rfl,hb4⟩;rw[CS.out];have HB4:=zJ HB hb4;clear hb4 t0 t1 t2;go_wp2;go_ret;exact⟨by rw[HSG.out,HD.out];rfl,HB4.out⟩
  ·have HD:Hid (decide (i2=0)=false):=decide_eq_false hi;have hi2:((i2:Int)==0)=false:=by simp[hi]
   go_wp2;go_ret;exact⟨by rw[HSG.out,HD.out];rfl,HB.out⟩
 ·have HSG:Hid (rsB q i1 q1 i2 q2 q3=(decide (i1=0) && decide (q1=q3))):=by
   have h0:q≠0:=λe=>hn (HQ0.out.1 e)
   have h1:¬q<0:=by have h9:=HSN.out;rw[hs]at h9;exact of_decide_eq_false h9.symm
   show _=_;rw[rsB,if_neg h0,if_neg h1]
  clear hn hs;have hal:=zB w2 (cells #[.int .i64 i1,.bool s1,slice x1 n1 c1,slice y1 m1 d1] 40);have hb3:=bUp hb2 hal;have BA3:=BA.q_ hb3;obtain⟨t0,t1,t2⟩:=bk3 BA3;replace HB:=zJ HB hb3;have R:=zk (H3.out.q_ hb3);have E:=zk (H1.out.q_ hb3)
  clear hb2 hal hb3 BA3;by_cases hi:i1=0
  ·have HD:Hid (decide (i1=0)=true):=decide_eq_true hi;subst hi;have CS:=zk (zjX E.out R.out);go_wp2_with fail
   refine(zds (a:=⟨s1,x1,n1,c1,f1,y1,m1,d1,g1⟩) (b:=⟨s3,x3,n3,c3,f3,y3,m3,d3,g3⟩) (NmV.nms (t:=⟨s1,x1,n1,c1,f1,y1,m1,d1,g1⟩) (q:=q1) E.out hL).1 (NmV.nms (t:=⟨s3,x3,n3,c3,f3,y3,m3,d3,g3⟩) (q:=q3) R.out hL).1).mono ?_;rintro e w4 ⟨rfl,hb4⟩;rw[CS.out];have HB4:=zJ HB hb4;clear hb4 t0 t1 t2;go_wp2;go_ret;exact⟨by rw[HSG.out,HD.out];rfl,HB4.out⟩
  ·have HD:Hid (decide (i1=0)=false):=decide_eq_false hi;have hi2:((i1:Int)==0)=false:=by simp[hi]
   go_wp2;go_ret;exact⟨by rw[HSG.out,HD.out];rfl,HB.out⟩
end Go.Proofs.YtlbgphjdibbkjaaGreat
