/-
 Walks.
-/
import Derived.Test.YtlbgphjdibbkjaaGreatZ5
import Derived.Test.YtlbgphjdibbkjaaGreatZ2
import Derived.Test.YtlbgphjdibbkjaaGreatZ4
import Derived.Deep.RegionHeld3
import Derived.Test.YtlbgphjdibbkjaaGreatZ3
import Derived.BigQuiet
import Derived.BigRegion
set_option maxRecDepth 100000
set_option maxHeartbeats 16000000
namespace Go.Proofs.YtlbgphjdibbkjaaGreat
open Value (slice agg)
open Obj (cells)
open Nat (le_refl le_trans zero_add)
open World (cell?_of_block block_lt_of_cell?)
open List (getElem?_eq_getElem)
open Go.Proofs.Tryz
open Go.RowKit
def zol (L:Nat) (w w':World) (e:Ending) (er:Int) (cs:List CV) (rs:List RV) (ys:List Rat):Prop:=Bl w w' /\
 ((er≠0/\e=.returned (.tuple #[slice none 0 0,.int .i64 er]))∨(er=0/\∃a c,e=.returned (.tuple #[slice a cs.length c,.int .i64 0])/\(cs.length<=c/\c<=9223372036854775807)/\GrO (KV L) w.heap.size w' (slice a cs.length c) (zaA rs ys 0 cs)))
theorem GrO.of {K base w w' v p} (h:GrO K base w v p) (hb:∀b,v.ownBlock=some b->w'.heap[b]?=w.heap[b]?) (hk:Kp w w'):GrO K base w' v p:=by
 obtain⟨T,h1,h2⟩:=h;exact⟨T,h1.of hb,λj q e=>⟨Rn.kp (h2 j q e).1 hk,(h2 j q e).2.kpu hk⟩⟩
theorem GrO.own {K base w v p} (h:GrO K base w v p):∀b,v.ownBlock=some b->base<=b/\b<w.heap.size:=h.gr.own
theorem zjw {w L M off cs rs ao k cap X ys er} (hW:MoW w M) (hx:Rl w ao k X) (hk:k<=1048576) (he:zbB M k X=er) (hv:er=0->MoV L w M off cs rs/\zbk cs rs=true/\Rf L w ao ys/\ys.length=k/\k=rs.length) (hL:L<=30) :
  Calls prog 10 #[M.val,slice ao k cap] w λe w'=>zol L w w' e er cs rs ys:=by
 have CC:=zk (λW (hW2:Bl w W)=>zeT (hW.q_ hW2));have CN:=zk (λW (hW2:Bl w W)=>zdl (w:=W) (cap:=cap) (z:=(M.rk:Int)) (hx.q_ hW2) hk);have HE:=zk he;unfold zbB at he;obtain⟨e0,he0⟩:∃e,zaF M=e:=⟨_,rfl⟩;rw[he0]at CC he
 obtain⟨e1,he1⟩:∃e,pnE k X M.rk=e:=⟨_,rfl⟩;rw[he1]at CN he
 have HE2:=zk he;have HV:=zk hv
 clear hW hx he0 he1 he hv;obtain⟨⟨s,x,n,c,f,y,m,d,g⟩,ca,ck,cc,C,ra,rk,rc,R⟩:=M;replace CC:Hid (∀W,Bl w W->Calls prog 29 #[agg #[.bool s,slice x n c,slice y m d,slice ca ck cc,slice ra rk rc]] W λr w'=>r=.returned (.int .i64 e0)/\Bl W w'):=CC;replace CN:Hid (∀W,Bl w W->Calls prog 30 #[slice ao k cap,.int .i64 (rk:Int)] W λe w'=>e=.returned (.int .i64 e1)/\Bl W w'):=CN;show Calls prog 10 #[agg #[.bool s,slice x n c,slice y m d,slice ca ck cc,slice ra rk rc],slice ao k cap] w _;have hb:=zB w (cells #[.bool s,slice x n c,slice y m d,slice ca ck cc,slice ra rk rc] 28);have r0:(w.alloc (cells #[.bool s,slice x n c,slice y m d,slice ca ck cc,slice ra rk rc] 28)).drew.cell? ⟨w.heap.size,0,none⟩=some (.bool s):=kCd (by simp[go_sem]);have r1:(w.alloc (cells #[.bool s,slice x n c,slice y m d,slice ca ck cc,slice ra rk rc] 28)).drew.cell? ⟨w.heap.size,1,none⟩=some (slice x n c):=kCd (by simp[go_sem]);have r2:(w.alloc (cells #[.bool s,slice x n c,slice y m d,slice ca ck cc,slice ra rk rc] 28)).drew.cell? ⟨w.heap.size,2,none⟩=some (slice y m d):=kCd (by simp[go_sem]);have r3:(w.alloc (cells #[.bool s,slice x n c,slice y m d,slice ca ck cc,slice ra rk rc] 28)).drew.cell? ⟨w.heap.size,3,none⟩=some (slice ca ck cc):=kCd (by simp[go_sem]);have r4:(w.alloc (cells #[.bool s,slice x n c,slice y m d,slice ca ck cc,slice ra rk rc] 28)).drew.cell? ⟨w.heap.size,4,none⟩=some (slice ra rk rc):=kCd (by simp[go_sem]);have HB:=zk (Below.drew hb);have hsz0:w.heap.size<(w.alloc (cells #[.bool s,slice x n c,slice y m d,slice ca ck cc,slice ra rk rc] 28)).drew.heap.size:=by show w.heap.size<(w.alloc _).heap.size;simp
 clear hb;go_enter func10,ntmps10;go_upto_region 1 with fail
 refine wp_region_held_drew (S:=(λw'=>w'.cell? ⟨w.heap.size,0,none⟩=some (.bool s)/\w'.cell? ⟨w.heap.size,1,none⟩=some (slice x n c)/\w'.cell? ⟨w.heap.size,2,none⟩=some (slice y m d)/\w'.cell? ⟨w.heap.size,3,none⟩=some (slice ca ck cc)/\w'.cell? ⟨w.heap.size,4,none⟩=some (slice ra rk rc))) (by kernel_rfl) ?_ (λhHeld=>?_)
 ·exact⟨r0,r1,r2,r3,r4⟩
 generalize(w.alloc (cells #[.bool s,slice x n c,slice y m d,slice ca ck cc,slice ra rk rc] 28)).drew=wd at *;clear r0 r1 r2 r3 r4;refine zK 0 ?_;refine zK 2 ?_;refine zK 3 ?_;simp only[zA,Act.put];refine zK 4 ?_;refine zK 5 ?_;simp only[zA,Act.put];refine rdO 1 (λK hK=>?_);go_simp
 go_at_call 29
 refine(CC.out _ HB.out).mono ?_;rintro e w4 ⟨rfl,hb4⟩
 (try go_wp2_with fail)
 refine hK.out _ _ ?_ (λhH4=>?_)
 ·exact⟨kCb hb4 hHeld.1,kCb hb4 hHeld.2.1,kCb hb4 hHeld.2.2.1,kCb hb4 hHeld.2.2.2.1,kCb hb4 hHeld.2.2.2.2⟩
 clear hK K;have HB4:=zJ HB hb4;try simp only[zA,Act.put]
 refine rdO 6 (λK hK=>?_);go_simp
 go_at_call 30
 refine(CN.out _ HB4.out).mono ?_;rintro e w5 ⟨rfl,hb5⟩
 (try go_wp2_with fail)
 refine hK.out _ _ ?_ (λhH5=>?_)
 ·exact⟨kCb hb5 hH4.1,kCb hb5 hH4.2.1,kCb hb5 hH4.2.2.1,kCb hb5 hH4.2.2.2.1,kCb hb5 hH4.2.2.2.2⟩
 clear hK K;have HB5:=zJ HB4 hb5;obtain⟨r0,r1,r2,r3,r4⟩:=id hH5;try simp only[zA,Act.put]
 refine rdO 7 (λK hK=>?_);go_simp;have hbA:=zB w5 (cells #[.int .i64 e0,.int .i64 e1] 36);have HEl:=zk (zdP (w:=w5) (a:=e0) (b:=e1) (t:=36));have HWA:=zJ HB5 hbA;obtain⟨gA,hgA⟩:∃z,w5.heap.size=z:=⟨_,rfl⟩;rw[hgA]at HEl ⊢
 generalize hwA:w5.alloc (cells #[.int .i64 e0,.int .i64 e1] 36)=wA at *;clear hwA hgA;refine hK.out _ _ ?_ (λhHA=>?_)
 ·((try dsimp only);(refine⟨?_,?_,?_,?_,?_⟩ <;> repeat(with_reducible first|assumption|refine kCb (by assumption) ?_)))
 clear hK K;try simp only[zA,Act.put]
 refine rdO 8 (λK hK=>?_);go_simp
 go_at_call 28
 refine(zgX HEl.out (by decide)).mono ?_;rintro e w9 ⟨rfl,rfl⟩
 (try go_wp2_with fail)
 refine hK.out _ _ ?_ (λhHB=>?_)
 ·exact hHA
 clear hK K;try simp only[zA,Act.put]
 refine zK 9 ?_;simp only[zA,Act.put];refine dnO ?_;simp only[show lsf (two e0 e1) 2=er from HE2.out];obtain⟨r0,r1,r2,r3,r4⟩:=id hHB;have hszA:w.heap.size<w9.heap.size:=by have h1:=hb4.size;have h2:=hb5.size;have h3:=hbA.size;omega
 have HBA:=zk HWA.out;clear HE2 hHeld hH4 hH5 hHA hHB hb4 hb5 hbA HEl CC CN HB HB4 HB5 HWA hsz0;by_cases h0:er=0
 case neg =>
  have h1:(er != 0)=true:=by simpa using h0
  have H0:=zk h0;clear r0 r1 r2 r3 r4;go_wp2
  go_ret2
  exact⟨HBA.out,.inl ⟨H0.out,rfl⟩⟩
 obtain⟨v1,v2,v3,v4,v5⟩:=HV.out h0;have mp:=zbj v2;have ht:∀v ∈ rs,tsB cs.length (-1) v.ts=true:=by
  simp only[zbk,Bool.and_eq_true,decide_eq_true_eq,List.all_eq_true]at v2;obtain⟨_,_,_,h4,_⟩:=v2;exact λv hv=>(h4 v hv).2.1
 subst h0;have l64:=mp.cl;have r64:=mp.rl
 have HC:Hid (∀j v,cs[j]?=some v->(∃b o,ca=some ⟨b,o,none⟩/\Cs w b (o+j*12) (C j).vs)/\ColV L w (C j) v):=v1.cls;have HR:Hid (∀j v,rs[j]?=some v->(∃b o,ra=some ⟨b,o,none⟩/\Cs w b (o+j*10) (R j).vs)/\RowV L w (R j) v):=v1.rls;have hck:ck=cs.length:=v1.ck;have hrk:rk=rs.length:=v1.rk;subst hck;subst hrk
 subst v5;have HY:=zk v3;have HYL:=zk v4;have HTB:Hid (∀v ∈ rs,tsB cs.length (-1) v.ts=true):=ht;have HTL:=zk mp.tl
 clear v1 v2 v3 v4 mp ht HV HE hk;go_wp2_with(at_make;refine zcu _ rfl (.tmp 31) (.tmp 31) 78 rfl 29 24 underlying78 znw .i64 .i64 cs.length cs.length cs.length rfl rfl rfl rfl (by omega) (by unfold maxLen;omega) ?_;intro w3 hk3 hb3;have k43:=kCb hb3 r4)
 have HK3:Hid (w9.cell? ⟨w.heap.size,3,none⟩=some (slice ca cs.length cc)):=zk r3;have HCo:=zk (znQ (base:=w9.heap.size) (le_refl _) hk3);have HB3:=zk hb3;clear hk3 r0 r1 r2 r3 r4;go_wp2_with fail
 clear k43 hb3;go_loopw[36] (λt wr=>∃(i:Nat) (V:Nat->Value) (E:Nat->List Nm),i<=rs.length/\t=.int .i64 i/\Hid (Bl w9 wr)/\Hid (Cr w9.heap.size wr w9.heap.size cs.length V E (λb=>False))/\Hid (∀j,j<cs.length->Lv (2*L+1) wr (E j) (zW (rs.take i) (ys.take i) j))) (λt _=>rs.length-(intOf t).toNat)
 case atStart=>exact⟨0,_,_,by omega,rfl,HB3.out,HCo.out,λj hj=>Lv.nil _ _⟩
 case round =>
  clear HB3 HCo;obtain⟨i,V,E,hi,rfl,HB,HC2,HL⟩:=hrel;by_cases hlt:i<rs.length
  ·obtain⟨v,hv⟩:∃t,rs[i]?=some t:=⟨_,getElem?_eq_getElem (by omega)⟩;have hvm:=List.mem_of_getElem? hv;obtain⟨yq,hyq⟩:∃t,ys[i]?=some t:=⟨_,getElem?_eq_getElem (by have:=HYL.out;omega)⟩;have hbw:=bUp HBA.out HB.out;obtain⟨⟨b,o,hra,hc⟩,hRV⟩:=HR.out i v hv;subst hra;obtain⟨⟨z,⟨i1,⟨s1,x1,n1,c1,f1,y1,m1,d1,g1⟩⟩,⟨i2,⟨s2,x2,n2,c2,f2,y2,m2,d2,g2⟩⟩,ta,tk,tc,tcol,tt⟩,hCi⟩:∃t,R i=t:=⟨_,rfl⟩;rw[hCi]at hc hRV
   have htk2:tk=v.ts.length:=hRV.tk;subst htk2;replace hc:=Cs.q_ hc hbw;obtain⟨q0,q1,q2,q3,q4,q5,q6,q7,q8,q9⟩:=hc.lr;obtain⟨b',o',⟨ss,sx,sn,sc,sf,sy,sm,sd,sg⟩,hax,⟨p0,p1,p2⟩,hr'⟩:=(HY.out.q_ hbw) i yq hyq;subst hax;replace p0:wr.cell? ⟨b',o'+i*3,none⟩=some (.bool ss):=p0;replace p1:wr.cell? ⟨b',o'+i*3+1,none⟩=some (slice sx sn sc):=p1;replace p2:wr.cell? ⟨b',o'+i*3+2,none⟩=some (slice sy sm sd):=p2;replace hr':Rn L wr ss sx sn sc sf sy sm sd sg yq:=hr';have hb1:=zB wr (cells #[.string z,.int .i64 i1,.bool s1,slice x1 n1 c1,slice y1 m1 d1,.int .i64 i2,.bool s2,slice x2 n2 c2,slice y2 m2 d2,slice ta v.ts.length tc] 63);obtain⟨-,-,-,-,-,-,-,-,-,b9⟩:=zef (zF wr [.string z,.int .i64 i1,.bool s1,slice x1 n1 c1,slice y1 m1 d1,.int .i64 i2,.bool s2,slice x2 n2 c2,slice y2 m2 d2,slice ta v.ts.length tc] 63);replace p0:=kCb hb1 p0;replace p1:=kCb hb1 p1;replace p2:=kCb hb1 p2
   replace hr':=hr'.q_ hb1;have HTS:Hid (∀p z q,v.ts[p]?=some (z,q)->tcol p=z/\NmV L w (tt p) q/\∃b o,ta=some ⟨b,o,none⟩/\C4 w b (o+p*4) (.int .i64 (tcol p)) (.bool (tt p).s) (.slice (tt p).x (tt p).n (tt p).c) (.slice (tt p).y (tt p).m (tt p).d)):=hRV.tl;have htk3:=HTL.out v hvm;have HT2:=zk (HTB.out v hvm);have HV:=zk hv;have HYQ:=zk hyq
   have HB1:=zJ HB hb1;have HC1:=zk (HC2.out.q_ hb1);have HL1:Hid (∀j,j<cs.length->Lv (2*L+1) (wr.alloc (cells #[.string z,.int .i64 i1,.bool s1,slice x1 n1 c1,slice y1 m1 d1,.int .i64 i2,.bool s2,slice x2 n2 c2,slice y2 m2 d2,slice ta v.ts.length tc] 63)) (E j) (zW (rs.take i) (ys.take i) j)):=zk (λj hj=>(HL.out j hj).q_ hb1)
   have i1':((i:Nat):Int)<((rs.length:Nat):Int):=by omega
   have hlw:wr.heap.size<(wr.alloc (cells #[.string z,.int .i64 i1,.bool s1,slice x1 n1 c1,slice y1 m1 d1,.int .i64 i2,.bool s2,slice x2 n2 c2,slice y2 m2 d2,slice ta v.ts.length tc] 63)).heap.size:=by simp
   clear hCi hc hRV hbw hv hyq hvm HB HC2 HL;have HR':=zk hr';clear hr';go_wp2_with fail
   clear q0 q1 q2 q3 q4 q5 q6 q7 q8 q9;generalize(wr.alloc (cells #[.string z,.int .i64 i1,.bool s1,slice x1 n1 c1,slice y1 m1 d1,.int .i64 i2,.bool s2,slice x2 n2 c2,slice y2 m2 d2,slice ta v.ts.length tc] 63))=wI at *;clear hb1;generalize wr.heap.size=rb at *;refine(zmM HR'.out (by omega)).mono ?_;rintro e w4 ⟨s6,x6,n6,c6,f6,y6,m6,d6,g6,rfl,hb4,hq6⟩;have hal:=zB w4 (cells #[.bool s6,slice x6 n6 c6,slice y6 m6 d6] 24);have hb5:=bUp hb4 hal;replace b9:=kCb hb5 b9;go_wp2_with fail
   have BK:=zk (zF w4 [.bool s6,slice x6 n6 c6,slice y6 m6 d6] 24);replace BK:Hid (Bk (w4.alloc (cells #[.bool s6,slice x6 n6 c6,slice y6 m6 d6] 24)) w4.heap.size [.bool s6,slice x6 n6 c6,slice y6 m6 d6] 24):=BK;have HN:=zk (hq6.q_ hal);have HB5:=zJ HB1 hb5;have HC5:=zk (((HC1.out.q_ hb4).unx (λb=>b=w4.heap.size) (λb e=>Nat.le_of_eq e.symm)).q_ hal);have HL5:Hid (∀j,j<cs.length->Lv (2*L+1) (w4.alloc (cells #[.bool s6,slice x6 n6 c6,slice y6 m6 d6] 24)) (E j) (zW (rs.take i) (ys.take i) j)):=zk (λj hj=>(HL1.out j hj).q_ hb5);clear hb4 hq6 hal hb5 b9 p0 p1 p2 hlw HR' HB1 HC1 HL1;generalize w4.alloc (cells #[.bool s6,slice x6 n6 c6,slice y6 m6 d6] 24)=w5 at *;generalize w4.heap.size=xb at *;go_loopw[52] (λt wz=>∃(p:Nat) (V:Nat->Value) (E:Nat->List Nm),p<=v.ts.length/\t=.int .i64 p/\Hid (Bl w9 wz)/\Hid (Cr w9.heap.size wz w9.heap.size cs.length V E (λb=>b=xb))/\Hid (Bk wz xb [.bool s6,slice x6 n6 c6,slice y6 m6 d6] 24)/\Hid (Rn L wz s6 x6 n6 c6 f6 y6 m6 d6 g6 (-yq))/\Hid (∀j,j<cs.length->Lv (2*L+1) wz (E j) (zW (rs.take i) (ys.take i) j++zbh yq (v.ts.take p) j))) (λt _=>v.ts.length-(intOf t).toNat)
   case atStart=>exact⟨0,_,_,by omega,rfl,HB5.out,HC5.out,BK.out,HN.out,λj hj=>by rw[List.take_zero];simpa only[zbh,List.append_nil]using HL5.out j hj⟩
   case round =>
    clear HB5 HC5 BK HN HL5;obtain⟨p,V,E,hp,rfl,HB,HC2,BK,HN,HL⟩:=hrel;by_cases hlp:p<v.ts.length
    ·obtain⟨⟨tz,tq⟩,htv⟩:∃t,v.ts[p]?=some t:=⟨_,getElem?_eq_getElem (by omega)⟩;obtain⟨h1,h2,b2,o2,hta,h4⟩:=HTS.out p tz tq htv;obtain⟨hz0,hz1,_⟩:=zdx HT2.out _ (List.mem_of_getElem? htv);replace hz0:(-1:Int)<tz:=hz0;replace hz1:tz<(cs.length:Int):=hz1;obtain⟨zn,rfl⟩:=Int.eq_ofNat_of_zero_le (show 0<=tz by omega);have hzn:zn<cs.length:=by omega
     subst hta;have hbz:=bUp HBA.out HB.out;obtain⟨⟨ts,tx,tn,tc2,tf,ty,tm,td,tg⟩,hTp⟩:∃t,tt p=t:=⟨_,rfl⟩;rw[hTp,h1]at h4
     rw[hTp]at h2
     obtain⟨x0,x1,x2,x3⟩:=h4.q_ hbz;replace x0:wr.cell? ⟨b2,o2+p*4,none⟩=some (.int .i64 zn):=x0;replace x1:wr.cell? ⟨b2,o2+p*4+1,none⟩=some (.bool ts):=x1;replace x2:wr.cell? ⟨b2,o2+p*4+2,none⟩=some (slice tx tn tc2):=x2;replace x3:wr.cell? ⟨b2,o2+p*4+3,none⟩=some (slice ty tm td):=x3;have h2r:Rn L w ts tx tn tc2 tf ty tm td tg tq:=h2;have hbt:=zB wr (cells #[.int .i64 zn,.bool ts,slice tx tn tc2,slice ty tm td] 65);have a0:((wr.alloc (cells #[.int .i64 zn,.bool ts,slice tx tn tc2,slice ty tm td] 65))).cell? ⟨wr.heap.size,0,none⟩=some (.int .i64 zn):=by simp[go_sem]
     have a1:((wr.alloc (cells #[.int .i64 zn,.bool ts,slice tx tn tc2,slice ty tm td] 65))).cell? ⟨wr.heap.size,1,none⟩=some (.bool ts):=by simp[go_sem]
     have a2:((wr.alloc (cells #[.int .i64 zn,.bool ts,slice tx tn tc2,slice ty tm td] 65))).cell? ⟨wr.heap.size,2,none⟩=some (slice tx tn tc2):=by simp[go_sem]
     have a3:((wr.alloc (cells #[.int .i64 zn,.bool ts,slice tx tn tc2,slice ty tm td] 65))).cell? ⟨wr.heap.size,3,none⟩=some (slice ty tm td):=by simp[go_sem]
     have i2':((p:Nat):Int)<((v.ts.length:Nat):Int):=by omega
     have i3':((zn:Nat):Int)<((cs.length:Nat):Int):=by omega
     have HTV:=zk htv;have hva:∀b,(V zn).ownBlock=some b->b<wr.heap.size:=λb e=>((HC2.out.row zn hzn).lt b e).2
     have hxz:=BK.out.lt;have hlz:wr.heap.size<(wr.alloc (cells #[.int .i64 zn,.bool ts,slice tx tn tc2,slice ty tm td] 65)).heap.size:=by simp
     clear htv hz0 hz1 h1 h2 h4 hTp;go_upto_region 12 with fail
     clear x0 x1 x2 x3;have HB5:=zJ HB hbt;have HC5:=zk (HC2.out.q_ hbt);have BK5:=zk (BK.out.q_ hbt);have R1:=zk (HN.out.q_ hbt);have R2:=zk ((h2r.q_ hbz).q_ hbt);have HL5:Hid (∀j,j<cs.length->Lv (2*L+1) (wr.alloc (cells #[.int .i64 zn,.bool ts,slice tx tn tc2,slice ty tm td] 65)) (E j) (zW (rs.take i) (ys.take i) j++zbh yq (v.ts.take p) j)):=zk (λj hj=>(HL.out j hj).q_ hbt)
     clear hbz hbt h2r HB HC2 BK HN HL;generalize wr.heap.size=bx at *;generalize(wr.alloc (cells #[.int .i64 zn,.bool ts,slice tx tn tc2,slice ty tm td] 65))=w5 at *;have o0:=HC5.out.cell hzn;obtain⟨v0,v1,v2⟩:=bk3 BK5.out;refine zag (S:=(λw'=>w'.cell? ⟨bx,0,none⟩=some (.int .i64 zn)/\w'.cell? ⟨bx,1,none⟩=some (.bool ts)/\w'.cell? ⟨bx,2,none⟩=some (slice tx tn tc2)/\w'.cell? ⟨bx,3,none⟩=some (slice ty tm td)/\w'.cell? ⟨xb,0,none⟩=some (.bool s6)/\w'.cell? ⟨xb,1,none⟩=some (slice x6 n6 c6)/\w'.cell? ⟨xb,2,none⟩=some (slice y6 m6 d6)/\w'.cell? ⟨w9.heap.size,zn,none⟩=some (V zn))) 15 (by kernel_rfl) ⟨kCd a0,kCd a1,kCd a2,kCd a3,kCd v0,kCd v1,kCd v2,kCd o0⟩ (λhHeld=>?_);have hbd:=Below.drew (Below.refl w5.heap.size w5);replace HB5:=zJ HB5 hbd;replace HC5:=zk (HC5.out.q_ hbd);replace BK5:=zk (BK5.out.q_ hbd);replace R1:=zk (R1.out.q_ hbd);replace R2:=zk (R2.out.q_ hbd);replace HL5:Hid (∀j,j<cs.length->Lv (2*L+1) w5.drew (E j) (zW (rs.take i) (ys.take i) j++zbh yq (v.ts.take p) j)):=zk (λj hj=>(HL5.out j hj).q_ hbd)
     replace hlz:bx<w5.drew.heap.size:=hlz;clear hbd a0 a1 a2 a3 v0 v1 v2 o0;generalize w5.drew=wd at *;refine skP 0 ?_;refine skP 1 ?_;refine tkP 2 ?_;simp only[zA,Act.put];refine skP 3 ?_;refine skP 4 ?_;refine tkP 5 ?_;simp only[zA,Act.put];refine skP 6 ?_;refine tkP 7 ?_;refine tkP 8 ?_;simp only[zA,Act.put];refine skP 9 ?_;refine tkP 10 ?_;simp only[zA,Act.put];refine rdP 11 (λK hK=>?_);go_simp
     go_at_call 32
     refine(zij (L:=L) R1.out R2.out (by omega)).mono ?_;rintro e w6 ⟨s7,x7,n7,c7,f7,y7,m7,d7,g7,rfl,hb6,hq7⟩
     (try go_wp2_with fail)
     have yy0:=kCb hb6 (hHeld.1);have yy1:=kCb hb6 (hHeld.2.1);have yy2:=kCb hb6 (hHeld.2.2.1);have yy3:=kCb hb6 (hHeld.2.2.2.1);have yy4:=kCb hb6 (hHeld.2.2.2.2.1);have yy5:=kCb hb6 (hHeld.2.2.2.2.2.1);have yy6:=kCb hb6 (hHeld.2.2.2.2.2.2.1);have yy7:=kCb hb6 (hHeld.2.2.2.2.2.2.2);refine hK.out _ _ (λ_=>⟨yy0,yy1,yy2,yy3,yy4,yy5,yy6,yy7⟩) (λhS6=>?_);clear hK K hS6;try simp only[zA,Act.put]
     replace HB5:=zJ HB5 hb6;replace HC5:=zk (HC5.out.q_ hb6);replace BK5:=zk (BK5.out.q_ hb6);replace R1:=zk (R1.out.q_ hb6);replace HL5:Hid (∀j,j<cs.length->Lv (2*L+1) w6 (E j) (zW (rs.take i) (ys.take i) j++zbh yq (v.ts.take p) j)):=zk (λj hj=>(HL5.out j hj).q_ hb6)
     replace hlz:bx<w6.heap.size:=Nat.lt_of_lt_of_le hlz hb6.size;have HQ7:=zk hq7;clear hb6 hq7 R2 hHeld;refine rdP 12 (λK hK=>?_);go_simp;refine hK.out _ _ (λ_=>⟨kCa yy0,kCa yy1,kCa yy2,kCa yy3,kCa yy4,kCa yy5,kCa yy6,kCa yy7⟩) (λhS7=>?_);clear hK K hS7;try simp only[zA,Act.put]
     refine rdP 13 (λK hK=>?_);have hrow:=HC5.out.row zn hzn;have hen:(E zn).length<=65:=by
      rw[(HL5.out zn hzn).1,List.length_append];have h1:=zbF (n:=cs.length) (j:=zn) (rs:=rs.take i) (ys:=ys.take i) (λv hv=>HTB.out v (List.mem_of_mem_take hv));have h2:=zcH (y:=yq) (j:=zn) (zcL p HT2.out);rw[List.length_take]at h1;omega
     have hsz6:w9.heap.size<=w6.heap.size:=HB5.out.size;refine zaj w6 rfl (.tmp 63) (.tmp 68) 29 rfl w9.heap.size 24 56 3 (agg #[.bool false,slice none 0 0,slice none 0 0]) underlying29 zaR rfl (by decide) nz3 (V zn) (E zn).length _ rfl hrow #[.bool s7,slice x7 n7 c7,slice y7 m7 d7] rfl rfl (zdo _ _ _ _ _ _ _) (zcB _ _ _ _ _ _ _) ?p1 ?p2 hsz6 ?_
     case p1=>omega
     case p2=>omega
     intro g8 cap8 w8 hr8 hk8 hb8 hg8 hl8;have hBx:=hg8 bx hlz (λe=>absurd (hva _ e) (Nat.lt_irrefl _));have hXb:=hg8 xb BK5.out.lt (λe=>HC5.out.nx zn hzn xb e rfl);have hO8:=hg8 w9.heap.size HC5.out.lt (HC5.out.ne zn hzn);have uu0:=(cell?_of_block (a:=⟨bx,0,none⟩) hBx).trans yy0;have uu1:=(cell?_of_block (a:=⟨bx,1,none⟩) hBx).trans yy1;have uu2:=(cell?_of_block (a:=⟨bx,2,none⟩) hBx).trans yy2;have uu3:=(cell?_of_block (a:=⟨bx,3,none⟩) hBx).trans yy3;have uu4:=(cell?_of_block (a:=⟨xb,0,none⟩) hXb).trans yy4;have uu5:=(cell?_of_block (a:=⟨xb,1,none⟩) hXb).trans yy5;have uu6:=(cell?_of_block (a:=⟨xb,2,none⟩) hXb).trans yy6;have uu7:=(cell?_of_block (a:=⟨w9.heap.size,zn,none⟩) hO8).trans yy7;have ff:w8.frozen? ⟨w9.heap.size,zn,none⟩=false:=by obtain⟨cur,h1,_⟩:=HC5.out.bl;simp[World.frozen?,hO8,h1]
     refine hK.out _ _ (λ_=>⟨uu0,uu1,uu2,uu3,uu4,uu5,uu6,uu7⟩) (λhS8=>?_);clear hK K hS8;try simp only[zA,Act.put]
     refine rdP 14 (λK hK=>?_);go_simp;refine hK.out _ _ (λ_=>⟨uu0,uu1,uu2,uu3,uu4,uu5,uu6,uu7⟩) (λhS9=>?_);clear hK K hS9;try simp only[zA,Act.put]
     refine rdP 15 (λK hK=>?_);go_simp;refine hK.out _ _ (λh=>by cases h) (λ_=>?_);clear hK K;try simp only[zA,Act.put]
     refine dnP ?_;have HB9:=zk (zL (hb8 w9 HB5.out (le_refl _)) (le_trans hsz6 hk8.size) ((Turned.refl w9.heap.size (w9.heap.size+1) w8).set (x:=⟨w9.heap.size,zn,none⟩) HC5.out.ge (by simp) (slice (some ⟨g8,0,none⟩) ((E zn).length+1) cap8)) (le_refl _));have hkp:Kp w6 (w8.setCell ⟨w9.heap.size,zn,none⟩ (slice (some ⟨g8,0,none⟩) ((E zn).length+1) cap8)):=by
      obtain⟨cur,h1,_,h2,_⟩:=HC5.out.bl;exact hk8.set (x:=⟨w9.heap.size,zn,none⟩) (hO8.trans h1) h2 _
     have HC9:=zk (HC5.out.put hzn (cap8:=cap8) (x:=⟨s7,x7,n7,c7,f7,y7,m7,d7,g7⟩) rfl (λb e=>by rw[e];exact BK5.out.lt) hr8 hg8 hl8);have BK9:=zk (BK5.out.of (w':=w8.setCell ⟨w9.heap.size,zn,none⟩ (slice (some ⟨g8,0,none⟩) ((E zn).length+1) cap8)) (by rw[Below.heap_setCell _ _ _ _ (λe=>HC5.out.xg e.symm)];exact hXb));have HN9:=zk (Rn.kp R1.out hkp);have HL9:Hid (∀j,j<cs.length->Lv (2*L+1) (w8.setCell ⟨w9.heap.size,zn,none⟩ (slice (some ⟨g8,0,none⟩) ((E zn).length+1) cap8)) (if j=zn then E zn++[⟨s7,x7,n7,c7,f7,y7,m7,d7,g7⟩] else E j) (zW (rs.take i) (ys.take i) j++zbh yq (v.ts.take (p+1)) j)):=λj hj=>by
      rw[zcY j HTV.out,<-List.append_assoc];by_cases e:j=zn
      ·subst e;rw[if_pos rfl,if_pos rfl];exact((HL5.out j hj).kp hkp).snoc (Rn.kp HQ7.out hkp)
      ·rw[if_neg e,if_neg (λh=>e (by omega)),List.append_nil];exact(HL5.out j hj).kp hkp
     clear hr8 hk8 hb8 hg8 hl8 hBx hXb hO8 ff hkp hrow HC5 HB5 BK5 R1 HQ7 HL5 hsz6 uu0 yy0 uu1 yy1 uu2 yy2 uu3 yy3 uu4 yy4 uu5 yy5 uu6 yy6 uu7 yy7;go_wp2;go_roundw
     case rel=>exact⟨p+1,_,_,by omega,by go_num,HB9.out,HC9.out,BK9.out,HN9.out,HL9.out⟩
     case measure=>simp[intOf];omega
    ·have e1:p=v.ts.length:=by omega
     have i4':¬(((p:Nat):Int)<((v.ts.length:Nat):Int)):=by omega
     have HC7:=zk (HC2.out.unx (λ_=>False) (λb h=>h.elim));have HL7:Hid (∀j,j<cs.length->Lv (2*L+1) wr (E j) (zW (rs.take (i+1)) (ys.take (i+1)) j)):=λj hj=>by
      have h:=HL.out j hj;rw[List.take_of_length_le (show v.ts.length<=p by omega)]at h
      rw[zck j HV.out HYQ.out];exact h
     clear HC2 HL BK HN HTS e1;go_wp2;go_roundw
     case rel=>exact⟨i+1,_,_,by omega,by go_num,HB.out,HC7.out,HL7.out⟩
     case measure=>simp[intOf];omega
  ·have e1:i=rs.length:=by omega
   have i4':¬(((i:Nat):Int)<((rs.length:Nat):Int)):=by omega
   have HL7:Hid (∀j,j<cs.length->Lv (2*L+1) wr (E j) (zW rs ys j)):=λj hj=>by
    have h:=HL.out j hj;rw[List.take_of_length_le (show rs.length<=i by omega),List.take_of_length_le (by have:=HYL.out;omega)]at h;exact h
   have HV0:Hid (∀j,j<cs.length->∀b,(V j).ownBlock=some b->b<wr.heap.size):=λj hj b e=>((HC2.out.row j hj).lt b e).2
   have HNE:=zk HC2.out.ne;have HDJ:=zk HC2.out.dj;have hgl:=HC2.out.lt;have HCT:=zk HC2.out.ct;have k3:=kCb HB.out HK3.out
   clear HL e1 HC2;go_wp2_with fail
   clear k3;have HS2:=zk (show w.heap.size<=wr.heap.size from(bUp HBA.out HB.out).size);generalize hw2:wr=w2 at *;clear hw2;go_loopw[14,76] (λzv t wz=>∃(i:Nat),i<=cs.length/\t=.int .i64 i/\Hid (Bl w9 wz)/\Hid (w2.heap.size<=wz.heap.size)/\Hid (Ct w9.heap.size wz w9.heap.size cs.length i V E)/\Hid (∀j,j<cs.length->Lv (2*L+1) wz (E j) (zW rs ys j))/\Hid (GrO (KV L) w2.heap.size wz zv (zaA rs ys 0 (cs.take i)))) (λ_ t _=>cs.length-(intOf t).toNat)
   case atStart=>exact⟨0,by omega,rfl,HB.out,le_refl _,HCT.out,HL7.out,zeQ _ _ _⟩
   case round =>
    clear HB HCT HL7;obtain⟨i,hi,rfl,HB,HW2,HCT,HL,HG⟩:=hrel;have hgl2:(zaA rs ys 0 (cs.take i)).length=i:=by rw[zaX,List.length_take];omega
    by_cases hlt:i<cs.length
    ·obtain⟨v,hv⟩:∃t,cs[i]?=some t:=⟨_,getElem?_eq_getElem (by omega)⟩;have hbw:=bUp HBA.out HB.out;obtain⟨⟨b,o,hca,hc⟩,hV⟩:=HC.out i v hv;subst hca;have hcost:=hV.cost.q_ hbw;obtain⟨⟨z,⟨s0,x0,n0,c0,f0,y0,m0,d0,g0⟩,⟨i1,⟨s1,x1,n1,c1,f1,y1,m1,d1,g1⟩⟩,⟨i2,⟨s2,x2,n2,c2,f2,y2,m2,d2,g2⟩⟩⟩,hCi⟩:∃t,C i=t:=⟨_,rfl⟩;rw[hCi]at hc hcost
     replace hcost:Rn L wr s0 x0 n0 c0 f0 y0 m0 d0 g0 v.cost:=hcost;replace hc:=Cs.q_ hc hbw;obtain⟨q0,q1,q2,q3,q4,q5,q6,q7,q8,q9,q10,q11⟩:=hc.lc;have hbt:=zB wr (cells #[.string z,.bool s0,slice x0 n0 c0,slice y0 m0 d0,.int .i64 i1,.bool s1,slice x1 n1 c1,slice y1 m1 d1,.int .i64 i2,.bool s2,slice x2 n2 c2,slice y2 m2 d2] 60);obtain⟨-,a1,a2,a3⟩:=bk4 (zF wr [.string z,.bool s0,slice x0 n0 c0,slice y0 m0 d0,.int .i64 i1,.bool s1,slice x1 n1 c1,slice y1 m1 d1,.int .i64 i2,.bool s2,slice x2 n2 c2,slice y2 m2 d2] 60);have i1':((i:Nat):Int)<((cs.length:Nat):Int):=by omega
     have HV2:=zk hv;clear hCi hc hV hv hbw;go_upto_region 19 with fail
     clear q0 q1 q2 q3 q4 q5 q6 q7 q8 q9 q10 q11;have HB5:=zJ HB hbt;have HC5:=zk (HCT.out.q_ hbt);have HG5:=zk (HG.out.q_ hbt);have R2:=zk (hcost.q_ hbt);have HW5:=zk (le_trans HW2.out hbt.size)
     have HL5:Hid (∀j,j<cs.length->Lv (2*L+1) (wr.alloc (cells #[.string z,.bool s0,slice x0 n0 c0,slice y0 m0 d0,.int .i64 i1,.bool s1,slice x1 n1 c1,slice y1 m1 d1,.int .i64 i2,.bool s2,slice x2 n2 c2,slice y2 m2 d2] 60)) (E j) (zW rs ys j)):=zk (λj hj=>(HL.out j hj).q_ hbt);clear hbt hcost HB HCT HG HW2 HL;generalize wr.heap.size=bx at *;generalize(wr.alloc (cells #[.string z,.bool s0,slice x0 n0 c0,slice y0 m0 d0,.int .i64 i1,.bool s1,slice x1 n1 c1,slice y1 m1 d1,.int .i64 i2,.bool s2,slice x2 n2 c2,slice y2 m2 d2] 60))=w5 at *;have o0:=HC5.out.cell i (le_refl _) hlt;have i3':=i1';refine zag (S:=(λw'=>w'.cell? ⟨bx,1,none⟩=some (.bool s0)/\w'.cell? ⟨bx,2,none⟩=some (slice x0 n0 c0)/\w'.cell? ⟨bx,3,none⟩=some (slice y0 m0 d0)/\w'.cell? ⟨w9.heap.size,i,none⟩=some (V i))) 8 (by kernel_rfl) ⟨kCd a1,kCd a2,kCd a3,kCd o0⟩ (λhHeld=>?_);have hbd:=Below.drew (Below.refl w5.heap.size w5);replace HB5:=zJ HB5 hbd;replace HC5:=zk (HC5.out.q_ hbd);replace HG5:=zk (HG5.out.q_ hbd);replace R2:=zk (R2.out.q_ hbd);replace HW5:=zk (le_trans HW5.out hbd.size);replace HL5:Hid (∀j,j<cs.length->Lv (2*L+1) w5.drew (E j) (zW rs ys j)):=zk (λj hj=>(HL5.out j hj).q_ hbd)
     clear hbd a1 a2 a3 o0;generalize w5.drew=wd at *;refine skP 0 ?_;refine skP 1 ?_;refine skP 2 ?_;simp only[zA,Act.put];refine skP 3 ?_;refine tkP 4 ?_;refine skP 5 ?_;simp only[zA,Act.put];refine tkP 6 ?_;simp only[zA,Act.put];refine rdP 7 (λK hK=>?_);go_simp;refine hK.out _ _ (λ_=>⟨kCa (hHeld.1),kCa (hHeld.2.1),kCa (hHeld.2.2.1),kCa (hHeld.2.2.2)⟩) (λhS7=>?_);clear hK K hS7;try simp only[zA,Act.put]
     refine rdP 8 (λK hK=>?_);have hrow:=HC5.out.row i (le_refl _) hlt;have hen:(E i).length<=64:=by
      rw[(HL5.out i hlt).1];have h1:=zbF (n:=cs.length) (j:=i) (rs:=rs) (ys:=ys) HTB.out;omega
     have hsz5:w9.heap.size<=wd.heap.size:=HB5.out.size;refine zaj wd rfl (.tmp 85) (.tmp 88) 29 rfl w9.heap.size 24 56 3 (agg #[.bool false,slice none 0 0,slice none 0 0]) underlying29 zaR rfl (by decide) nz3 (V i) (E i).length _ rfl hrow #[.bool s0,slice x0 n0 c0,slice y0 m0 d0] rfl rfl (zdo _ _ _ _ _ _ _) (zcB _ _ _ _ _ _ _) ?p1 ?p2 hsz5 ?_
     case p1=>omega
     case p2=>omega
     intro g8 cap8 w8 hr8 hk8 hb8 hg8 hl8;have HB8:=zk (hb8 w9 HB5.out (le_refl _));have hzo:=HG5.out.own;have HG8:=zk (HG5.out.of (w':=w8) (λb e=>hg8 b (hzo b e).2 (λe2=>by have h1:=HV0.out i hlt b e2;have h2:=(hzo b e).1;omega)) hk8);have HC8:=zk (HC5.out.of (w':=w8) (Nat.le_succ i) (hg8 w9.heap.size (Nat.lt_of_lt_of_le hgl HW5.out) (HNE.out i hlt)) (λj h1 h2 b e=>hg8 b (Nat.lt_of_lt_of_le (HV0.out j h2 b e) HW5.out) (λe2=>HDJ.out i j hlt h2 (by omega) b e2 e)));have HL8:Hid (∀j,j<cs.length->Lv (2*L+1) w8 (E j) (zW rs ys j)):=λj hj=>(HL5.out j hj).kp hk8
     have R8:Rn (2*L+1) w8 s0 x0 n0 c0 f0 y0 m0 d0 g0 v.cost:=(Rn.kp R2.out hk8).mono (by omega);have HP8:=zk (zjY (ao:=some ⟨g8,0,none⟩) (n:=(E i).length+1) (cap:=cap8) (E:=E i++[⟨s0,x0,n0,c0,f0,y0,m0,d0,g0⟩]) (by rw[List.length_append,List.length_singleton,show rcells (E i++[⟨s0,x0,n0,c0,f0,y0,m0,d0,g0⟩])=rcells (E i)++rcell ⟨s0,x0,n0,c0,f0,y0,m0,d0,g0⟩ by simp[rcells]];exact hr8) (Lv.snoc (t:=⟨s0,x0,n0,c0,f0,y0,m0,d0,g0⟩) (q:=v.cost) (HL8.out i hlt) R8) (by simp));have HLE:=zk (HL8.out i hlt).1;have HW8:=zk (le_trans HW5.out hk8.size);clear hr8 hk8 hb8 hg8 hl8 hrow R8 R2 HB5 HC5 HG5 HL5 hsz5 hzo HW5 hHeld;refine hK.out _ _ (λh=>by cases h) (λ_=>?_);clear hK K;try simp only[Act.put,List.setIfInBounds_toArray]
     refine rdP 9 (λK hK=>?_);go_simp
     go_at_call 33
     refine(zpf (L:=2*L+1) HP8.out (by rw[List.length_append,<-HLE.out];rfl) (by omega) (by omega)).mono ?_;rintro e w7 ⟨s7,x7,n7,c7,f7,y7,m7,d7,g7,rfl,hb7,hq7,hd7⟩
     (try go_wp2_with fail)
     have HD7:=zk (hd7.base HW8.out);clear hd7;have HQ7:=zk (show Rn (KV L) w7 s7 x7 n7 c7 f7 y7 m7 d7 g7 (psum (zW rs ys i++[v.cost]) 0)from hq7.mono (by unfold KV;have:((E i).length+1)*(2*L+1+1)<=65*(2*L+1+1):=Nat.mul_le_mul_right _ (by omega);omega));replace HB8:=zJ HB8 hb7;replace HC8:=zk (HC8.out.q_ hb7);replace HG8:=zk (HG8.out.q_ hb7);replace HL8:Hid (∀j,j<cs.length->Lv (2*L+1) w7 (E j) (zW rs ys j)):=zk (λj hj=>(HL8.out j hj).q_ hb7);replace HW8:=zk (le_trans HW8.out hb7.size)
     clear hb7 hq7 HP8 HLE hen;refine hK.out _ _ (λh=>by cases h) (λ_=>?_);clear hK K;try simp only[zA,Act.put]
     refine rdP 10 (λK hK=>?_);go_simp;refine hK.out _ _ (λh=>by cases h) (λ_=>?_);clear hK K;try simp only[zA,Act.put]
     refine rdP 11 (λK hK=>?_);have hzo:=HG8.out.own;obtain⟨T,hrow,hT⟩:=HG8.out;rw[hgl2]at hrow
     have hsz8:w2.heap.size<=w7.heap.size:=HW8.out;refine zaj w7 rfl (.tmp 81) (.tmp 91) 29 rfl w2.heap.size 24 56 3 (agg #[.bool false,slice none 0 0,slice none 0 0]) underlying29 zaR rfl (by decide) nz3 u14 i _ rfl hrow #[.bool s7,slice x7 n7 c7,slice y7 m7 d7] rfl rfl (zdo _ _ _ _ _ _ _) (zcB _ _ _ _ _ _ _) ?p3 ?p4 hsz8 ?_
     case p3=>omega
     case p4=>omega
     intro g10 cap10 w10 hr10 hk10 hb10 hg10 hl10;have HB10:=zk (hb10 w9 HB8.out (Nat.le_of_lt hgl));have HC10:=zk (HC8.out.of (w':=w10) (le_refl _) (hg10 w9.heap.size (Nat.lt_of_lt_of_le hgl HW8.out) (λe=>by have:=(hzo _ e).1;omega)) (λj h1 h2 b e=>hg10 b (Nat.lt_of_lt_of_le (HV0.out j h2 b e) HW8.out) (λe2=>by have h3:=HV0.out j h2 b e;have h4:=(hzo b e2).1;omega)));have HL10:Hid (∀j,j<cs.length->Lv (2*L+1) w10 (E j) (zW rs ys j)):=λj hj=>(HL8.out j hj).kp hk10
     have HG10:Hid (GrO (KV L) w2.heap.size w10 (slice (some ⟨g10,0,none⟩) (i+1) cap10) (zaA rs ys 0 (cs.take (i+1)))):=by
      have hp8:=zia hT (by rw[hgl2];exact hr10) hk10 HQ7.out HD7.out;rw[hgl2]at hp8
      rw[zdR rs ys 0 HV2.out,zero_add];exact hp8
     have HW10:=zk (le_trans HW8.out hk10.size);clear hr10 hk10 hb10 hg10 hl10 hrow hT hzo HB8 HC8 HG8 HL8 HW8 HQ7 HD7 hsz8;refine hK.out _ _ (λh=>by cases h) (λ_=>?_);clear hK K;try simp only[Act.put,List.setIfInBounds_toArray]
     refine zaB (i:=12) (v:=?_) rfl (by kernel_rfl) (by kernel_rfl) (by kernel_rfl) (by kernel_rfl) (λ_ _ _ h=>h) (Or.inl ⟨by rfl,?_⟩) (λh=>by cases h) ?_;rotate_left
     (focus (intro w0 hSw;go_simp <;> with_reducible rfl))
     simp only[List.getElem_toArray,List.getElem_cons_succ,List.getElem_cons_zero,Act.put,List.setIfInBounds_toArray,List.set_cons_zero,List.set_cons_succ];refine dnP ?_;go_wp2;go_roundw
     case rel=>exact⟨i+1,by omega,by go_num,HB10.out,HW10.out,HC10.out,HL10.out,HG10.out⟩
     case measure=>simp[intOf];omega
    ·have e1:i=cs.length:=by omega
     have i4':¬(((i:Nat):Int)<((cs.length:Nat):Int)):=by omega
     obtain⟨va,vc,hvs,hvc⟩:=HG.out.slice;rw[hgl2]at hvs hvc
     have HG4:=HG.out;rw[hvs,List.take_of_length_le (show cs.length<=i by omega)]at HG4
     replace HG4:=zk (show GrO (KV L) w.heap.size wr (slice va i vc) (zaA rs ys 0 cs)from HG4.base HS2.out);subst hvs;have HE:=zk (show cs.length=i by omega);have HV4:=zk hvc;clear HG e1 hvc HL HCT;go_wp2
     go_ret2
     exact⟨bUp HBA.out HB.out,.inr ⟨rfl,va,vc,by rw[HE.out];rfl,by rw[HE.out];exact HV4.out,by rw[HE.out];exact HG4.out⟩⟩
theorem Rn.sg {L w s x n c f y m d g q} (h:Rn L w s x n c f y m d g q):s=decide (q<0):=by
 have h1:=h.num.val;have h2:=h.num.wf;have h5:=zz h.num.lm;have hz:=h.q_zero
 cases s
 ·have h3:q.num=vf f n:=by rw[<-h1];rfl
  have h4:0<=q:=Rat.num_nonneg.1 (by omega);rw[decide_eq_false (Rat.not_lt.2 h4)]
 ·have hn:n≠0:=λe=>by subst e;simp[wfB]at h2
  have h3:q.num=- vf f n:=by rw[<-h1];rfl
  have h4:q<0:=Rat.not_le.1 (λe=>by
   have h6:=Rat.num_nonneg.2 e;exact hn (hz.1 (Rat.num_eq_zero.1 (by omega))))
  rw[decide_eq_true h4]
def OXL (K:Nat) (k:Int) (P:Int->Rat->Prop) (w':World) (i:Int) (s:Bool) (x:Option Addr) (n c:Nat) (f:Nat->Int) (y:Option Addr) (m d:Nat) (g:Nat->Int) (er:Int):Prop :=
 er=k/\(k≠0/\(i=0/\n=0/\m=0/\s=false)∨k=0/\∃q,P i q/\En K w' i s x n c f y m d g q)
def zsJ (K:Nat) (k:Int) (P:Int->Rat->Prop) (w w':World) (e:Ending):Prop:=∃i s x n c f y m d g er,e=.returned (.tuple #[agg #[.int .i64 i,.bool s,slice x n c,slice y m d],.int .i64 er])/\Bl w w'/\Hid (OXL K k P w' i s x n c f y m d g er)
theorem znI {w L i s x n c f y m d g s2 x2 n2 c2 f2 y2 m2 d2 g2 p1 p2 q r} (hL4:4<=L) (hL:L<=4096) (h1:Rw w x n c f y m d g) (h2:Rw w x2 n2 c2 f2 y2 m2 d2 g2) (hn:n<=4096) (hm:m<=4096) (hn2:n2<=4096) (hm2:m2<=4096) (hp1:efB i s f n g m=p1) (hp2:rfB s2 f2 n2 g2 m2=p2) (hq1:p1=true->En L w i s x n c f y m d g q) (hq2:p2=true->Rn L w s2 x2 n2 c2 f2 y2 m2 d2 g2 r) :
  Calls prog 67 #[agg #[.int .i64 i,.bool s,slice x n c,slice y m d],agg #[.bool s2,slice x2 n2 c2,slice y2 m2 d2]] w λe w'=>zsJ (2*L+1) (ks (p1 && p2) n2) (zrL i q r s2) w w' e:=by
 have k1:=((zaT w (.int .i64 i) (.bool s) (slice x n c) (slice y m d) 40).alloc (cells #[.bool s2,slice x2 n2 c2,slice y2 m2 d2] 24)).alloc (cells #[.int .i64 0,.bool false,slice none 0 0,slice none 0 0] 40);have k2:=(zbr (w.alloc (cells #[.int .i64 i,.bool s,slice x n c,slice y m d] 40)) (.bool s2) (slice x2 n2 c2) (slice y2 m2 d2) 24).alloc (cells #[.int .i64 0,.bool false,slice none 0 0,slice none 0 0] 40);rw[zw]at k2
 have k5:=zba ((w.alloc (cells #[.int .i64 i,.bool s,slice x n c,slice y m d] 40)).alloc (cells #[.bool s2,slice x2 n2 c2,slice y2 m2 d2] 24)) 40;rw[zw,zw]at k5
 have k3:=zu (zu (zB w (cells #[.int .i64 i,.bool s,slice x n c,slice y m d] 40)) (cells #[.bool s2,slice x2 n2 c2,slice y2 m2 d2] 24)) (cells #[.int .i64 0,.bool false,slice none 0 0,slice none 0 0] 40);have HR1:=zk (h1.q_ k3);have HR2:=zk (h2.q_ k3);have HP1:=zk hp1;have HP2:=zk hp2;have HQ1:=zk (λk=>(hq1 k).q_ k3);have HQ2:=zk (λk=>(hq2 k).q_ k3)
 clear h1 h2 hp1 hp2 hq1 hq2;go_enter func67,ntmps67;go_upto_region 1 with fail
 generalize((w.alloc (cells #[.int .i64 i,.bool s,slice x n c,slice y m d] 40)).alloc (cells #[.bool s2,slice x2 n2 c2,slice y2 m2 d2] 24)).alloc (cells #[.int .i64 0,.bool false,slice none 0 0,slice none 0 0] 40)=w1 at *;have HW:=zk k3;have OB:=zk k5;have BA:=zk k1;have BB:=zk k2
 clear k1 k2 k3 k5;obtain⟨pp,hpp⟩:∃pp,(p1 && p2)=pp:=⟨_,rfl⟩;have HPP:=zk hpp;have CN:Hid (∀W:World,Calls prog 100 #[agg #[.bool s2,slice x2 n2 c2,slice y2 m2 d2]] W λe w'=>e=.returned (agg #[.int .i64 0,.bool s2,slice x2 n2 c2,slice y2 m2 d2])/\Bl W w'):=λW=>enumber_c
 have CAF:Hid (∀(W:World) (B:Nat),Li2 W B (.int .i64 i) (.bool s) (slice x n c) (slice y m d) (.int .i64 0) (.bool s2) (slice x2 n2 c2) (slice y2 m2 d2)->Bl w1 W->Calls prog 99 #[slice (some ⟨B,0,none⟩) 2 2] W λe w'=>e=.returned (.bool pp)/\Bl W w'):=λW B hB hW=>by
  have:=zfF hB (HR1.out.q_ hW) (HR2.out.q_ hW) (by omega) (by omega) (by omega) (by omega);rw[ef0,HP1.out,HP2.out,HPP.out]at this
  exact this
 clear hpp;go_cut [8]from 9 to 14 (λu wx=>∃(wy:World),wy=wx/\u=.bool (!pp)/\Bl w1 wy)
 case first =>
  obtain⟨za,a0,a1,a2,a3⟩:=BA.out;obtain⟨zb,b0,b1,b2⟩:=BB.out;go_region_held3 (λw'=>w'.cell? ⟨w.heap.size,0,none⟩=some (.int .i64 i)/\w'.cell? ⟨w.heap.size,1,none⟩=some (.bool s)/\w'.cell? ⟨w.heap.size,2,none⟩=some (slice x n c)/\w'.cell? ⟨w.heap.size,3,none⟩=some (slice y m d)/\w'.cell? ⟨w.heap.size+1,0,none⟩=some (.bool s2)/\w'.cell? ⟨w.heap.size+1,1,none⟩=some (slice x2 n2 c2)/\w'.cell? ⟨w.heap.size+1,2,none⟩=some (slice y2 m2 d2))
   (refine⟨?_,?_,?_,?_,?_,?_,?_⟩ <;> repeat(with_reducible first|assumption|refine kCd ?_|refine kCa ?_|refine kCb (by assumption) ?_))
   (first
    | (go_at_call 100;with_reducible refine(CN.out _).mono ?_;rintro e v5 ⟨rfl,hb5⟩)
    | (go_at_call 99;with_reducible refine(CAF.out _ _ (by repeat(with_reducible first|exact znq _ _ _ _ _ _ _ _ _ _|refine ztd ?_)) zai).mono ?_;rintro e v6 ⟨rfl,hb6⟩))
  all_goals
   go_wp2_with fail
   go_meet
   exact⟨_,rfl,rfl,zai⟩
 case rest =>
  obtain⟨w3,rfl,rfl,hb⟩:=hcut;have HB3:=zk hb;have HB:=zJ HW HB3.out;have OB3:=zk (OB.out.q_ HB3.out);clear hb CN CAF;cases pp
  ·obtain⟨hz,z0,z1,z2,z3,zf⟩:=OB3.out;go_wp2;exact bodyPost_ret (v:=.tuple #[agg #[.int .i64 0,.bool false,slice none 0 0,slice none 0 0],.int .i64 3]) (by simp[results,results67,go_sem,z0,z1,z2,z3]) rfl ⟨0,false,none,0,0,λ_=>0,none,0,0,λ_=>0,3,rfl,zZ HB.out (by omega),by rw[HPP.out];rfl,.inl ⟨by rw[HPP.out];exact(by decide:(3:Int)≠0),rfl,rfl,rfl,rfl⟩⟩
  have hpq:p1=true/\p2=true:=by simpa using HPP.out
  have E3:=zk ((HQ1.out hpq.1).q_ HB3.out);have S3:=zk ((HQ2.out hpq.2).q_ HB3.out)
  have hi3:i=0∨(i=-1∨i=1)/\q=0:=E3.out.inf;clear hpq;obtain⟨za,a0,a1,a2,a3⟩:=BA.out.q_ HB3.out;obtain⟨zb,b0,b1,b2⟩:=BB.out.q_ HB3.out;go_wp2_with fail
  refine eIsZero_c.mono ?_;rintro e w7 ⟨rfl,hb⟩;have HB7:=zJ HB hb;have HB37:=zJ HB3 hb;have OB7:=zk (OB3.out.q_ hb);have E7:=zk (E3.out.q_ hb);have S7:=zk (S3.out.q_ hb)
  clear hb za a0 a1 a2 a3 zb b0 b1 b2 HB OB3 E3 S3;by_cases hz2:n2=0
  ·rw[decide_eq_true hz2];have HK:Hid (ks (p1 && p2) n2=4):=by show ks (p1 && p2) n2=4;rw[HPP.out,ks,if_pos rfl,if_pos hz2]
   clear hz2;obtain⟨hz,z0,z1,z2,z3,zf⟩:=OB7.out;go_wp2;exact bodyPost_ret (v:=.tuple #[agg #[.int .i64 0,.bool false,slice none 0 0,slice none 0 0],.int .i64 4]) (by simp[results,results67,go_sem,z0,z1,z2,z3]) rfl ⟨0,false,none,0,0,λ_=>0,none,0,0,λ_=>0,4,rfl,zZ HB7.out (by omega),HK.out.symm,.inl ⟨by rw[HK.out];decide,rfl,rfl,rfl,rfl⟩⟩
  rw[decide_eq_false hz2];have HK:Hid (ks (p1 && p2) n2=0):=by show ks (p1 && p2) n2=0;rw[HPP.out,ks,if_pos rfl,if_neg hz2]
  clear hz2;obtain⟨za,a0,a1,a2,a3⟩:=BA.out.q_ HB37.out;obtain⟨zb,b0,b1,b2⟩:=BB.out.q_ HB37.out;rcases hi3 with rfl|⟨hi,hq0⟩
  ·go_wp2_with fail
   refine(ziW E7.out.rn S7.out (by omega)).mono ?_;rintro e w4 ⟨s4,x4,n4,c4,f4,y4,m4,d4,g4,rfl,hb,hr⟩;have HB4:=zk (zu (bUp HB7.out hb) (cells #[.bool s4,slice x4 n4 c4,slice y4 m4 d4] 24));have OB4:=zk ((OB7.out.q_ hb).alloc (cells #[.bool s4,slice x4 n4 c4,slice y4 m4 d4] 24));have R4:=zk (hr.alloc (cells #[.bool s4,slice x4 n4 c4,slice y4 m4 d4] 24));have BX4:=zk (zbr w4 (.bool s4) (slice x4 n4 c4) (slice y4 m4 d4) 24)
   clear hb hr za a0 a1 a2 a3 zb b0 b1 b2;obtain⟨zx,x0,x1,x2'⟩:=BX4.out;go_wp2_with fail
   generalize w4.alloc (cells #[.bool s4,slice x4 n4 c4,slice y4 m4 d4] 24)=w5 at *;generalize w4.heap.size=b5 at *;refine enumber_c.mono ?_;rintro e w6 ⟨rfl,hb⟩;have HB6:=zJ HB4 hb;have OB6:=zk (OB4.out.q_ hb);have R6:=zk (R4.out.q_ hb)
   clear hb zx x0 x1 x2';obtain⟨hz,z0,z1,z2,z3,zf⟩:=OB6.out;go_wp2;exact bodyPost_ret (v:=.tuple #[agg #[.int .i64 0,.bool s4,slice x4 n4 c4,slice y4 m4 d4],.int .i64 0]) (by simp[results,results67,go_sem,z0,z1,z2,z3]) rfl ⟨0,s4,x4,n4,c4,f4,y4,m4,d4,g4,0,rfl,zZ HB6.out (by omega),HK.out.symm,.inr ⟨HK.out,q*r,⟨by cases s2 <;> rfl,rfl⟩,⟨OB6.out.rn (R6.out.mono (by omega)),.inl rfl⟩⟩⟩
  have HQ0:Hid ((0:Rat)=q*r):=by show(0:Rat)=q*r;rw[hq0,Rat.zero_mul]
  clear hq0;rcases hi with rfl|rfl <;> cases s2
  all_goals
   go_wp2_with fail
   refine eInf_c.mono ?_;rintro e w4 ⟨s4,x4,n4,c4,f4,y4,m4,d4,g4,rfl,hb,hr⟩;have HB4:=zJ HB7 hb;have OB4:=zk (OB7.out.q_ hb);have R4:=zk hr
   clear hb hr za a0 a1 a2 a3 zb b0 b1 b2;obtain⟨hz,z0,z1,z2,z3,zf⟩:=OB4.out;go_wp2;first
    | exact bodyPost_ret (v:=.tuple #[agg #[.int .i64 1,.bool s4,slice x4 n4 c4,slice y4 m4 d4],.int .i64 0]) (by simp[results,results67,go_sem,z0,z1,z2,z3]) rfl ⟨1,s4,x4,n4,c4,f4,y4,m4,d4,g4,0,rfl,zZ HB4.out (by omega),HK.out.symm,.inr ⟨HK.out,0,⟨rfl,HQ0.out⟩,⟨OB4.out.rn (R4.out.mono (by omega)),.inr ⟨by decide,rfl⟩⟩⟩⟩
    | exact bodyPost_ret (v:=.tuple #[agg #[.int .i64 (-1),.bool s4,slice x4 n4 c4,slice y4 m4 d4],.int .i64 0]) (by simp[results,results67,go_sem,z0,z1,z2,z3]) rfl ⟨-1,s4,x4,n4,c4,f4,y4,m4,d4,g4,0,rfl,zZ HB4.out (by omega),HK.out.symm,.inr ⟨HK.out,0,⟨rfl,HQ0.out⟩,⟨OB4.out.rn (R4.out.mono (by omega)),.inr ⟨by decide,rfl⟩⟩⟩⟩
def zsI (L:Nat) (w w':World) (e:Ending) (i:Int) (q:Rat):Prop:=∃s x n c f y m d g,e=.returned (.tuple #[agg #[.int .i64 i,.bool s,slice x n c,slice y m d],.int .i64 0])/\Bl w w'/\En L w' i s x n c f y m d g q
theorem zih {w L i s x n c f y m d g s2 x2 n2 c2 f2 y2 m2 d2 g2 q r} (h1:En L w i s x n c f y m d g q) (h2:Rn L w s2 x2 n2 c2 f2 y2 m2 d2 g2 r) (hr:n2≠0) (hL4:4<=L) (hL:L<=4096) :
  Calls prog 67 #[agg #[.int .i64 i,.bool s,slice x n c,slice y m d],agg #[.bool s2,slice x2 n2 c2,slice y2 m2 d2]] w λe w'=>zsI (2*L+1) w w' e (if s2 then -i else i) (q*r):=by
 refine(znI hL4 hL h1.rn.rw h2.rw (le_trans h1.rn.ln hL) (le_trans h1.rn.ld hL) (le_trans h2.ln hL) (le_trans h2.ld hL) h1.ef h2.rf (λ_=>h1) (λ_=>h2)).mono ?_;rintro e w' ⟨i',s',x',n',c',f',y',m',d',g',er,rfl,hb,ho⟩;obtain⟨e1,e2|⟨_,q',⟨e4,e5⟩,e6⟩⟩:=ho.out
 ·exact absurd (by simp[ks,hr]) e2.1
 ·have e7:er=0:=by rw[e1];simp[ks,hr]
  subst e7;subst e4;subst e5
  exact⟨s',x',n',c',f',y',m',d',g',rfl,hb,e6⟩
def zsH (w w':World) (e:Ending) (n:Nat) (s:Bool) (lo hi:Value):Prop:=Bl w w' /\
 ((n=0/\e=.returned (.tuple #[agg #[.int .i64 0,.bool false,slice none 0 0,slice none 0 0],.bool false]))∨(n≠0/\s=true/\e=.returned (.tuple #[hi,.bool true]))∨(n≠0/\s=false/\e=.returned (.tuple #[lo,.bool true])))
theorem dSide_c {w s x n c y m d i1 s1 x1 n1 c1 y1 m1 d1 i2 s2 x2 n2 c2 y2 m2 d2} :
  Calls prog 66 #[agg #[.bool s,slice x n c,slice y m d],agg #[.int .i64 i1,.bool s1,slice x1 n1 c1,slice y1 m1 d1],agg #[.int .i64 i2,.bool s2,slice x2 n2 c2,slice y2 m2 d2]] w λe w'=>zsH w w' e n s (agg #[.int .i64 i1,.bool s1,slice x1 n1 c1,slice y1 m1 d1]) (agg #[.int .i64 i2,.bool s2,slice x2 n2 c2,slice y2 m2 d2]):=by
 have hb:=zu (zu (zu (zB w (cells #[.bool s,slice x n c,slice y m d] 24)) (cells #[.int .i64 i1,.bool s1,slice x1 n1 c1,slice y1 m1 d1] 40)) (cells #[.int .i64 i2,.bool s2,slice x2 n2 c2,slice y2 m2 d2] 40)) (cells #[.int .i64 0,.bool false,slice none 0 0,slice none 0 0] 40);have BY:Bk ((((w.alloc (cells #[.bool s,slice x n c,slice y m d] 24)).alloc (cells #[.int .i64 i1,.bool s1,slice x1 n1 c1,slice y1 m1 d1] 40)).alloc (cells #[.int .i64 i2,.bool s2,slice x2 n2 c2,slice y2 m2 d2] 40)).alloc (cells #[.int .i64 0,.bool false,slice none 0 0,slice none 0 0] 40)) w.heap.size [.bool s,slice x n c,slice y m d] 24:=(((zF w [.bool s,slice x n c,slice y m d] 24).q_ (zu (Below.refl _ _) _)).q_ (zu (Below.refl _ _) _)).q_ (zu (Below.refl _ _) _);have BL:Bk ((((w.alloc (cells #[.bool s,slice x n c,slice y m d] 24)).alloc (cells #[.int .i64 i1,.bool s1,slice x1 n1 c1,slice y1 m1 d1] 40)).alloc (cells #[.int .i64 i2,.bool s2,slice x2 n2 c2,slice y2 m2 d2] 40)).alloc (cells #[.int .i64 0,.bool false,slice none 0 0,slice none 0 0] 40)) (w.heap.size+1) [.int .i64 i1,.bool s1,slice x1 n1 c1,slice y1 m1 d1] 40:=by
  have:=((zF (w.alloc (cells #[.bool s,slice x n c,slice y m d] 24)) [.int .i64 i1,.bool s1,slice x1 n1 c1,slice y1 m1 d1] 40).q_ (zu (Below.refl _ _) (cells #[.int .i64 i2,.bool s2,slice x2 n2 c2,slice y2 m2 d2] 40))).q_ (zu (Below.refl _ _) (cells #[.int .i64 0,.bool false,slice none 0 0,slice none 0 0] 40));rw[zw]at this;exact this
 have BH:Bk ((((w.alloc (cells #[.bool s,slice x n c,slice y m d] 24)).alloc (cells #[.int .i64 i1,.bool s1,slice x1 n1 c1,slice y1 m1 d1] 40)).alloc (cells #[.int .i64 i2,.bool s2,slice x2 n2 c2,slice y2 m2 d2] 40)).alloc (cells #[.int .i64 0,.bool false,slice none 0 0,slice none 0 0] 40)) (w.heap.size+2) [.int .i64 i2,.bool s2,slice x2 n2 c2,slice y2 m2 d2] 40:=by
  have:=(zF ((w.alloc (cells #[.bool s,slice x n c,slice y m d] 24)).alloc (cells #[.int .i64 i1,.bool s1,slice x1 n1 c1,slice y1 m1 d1] 40)) [.int .i64 i2,.bool s2,slice x2 n2 c2,slice y2 m2 d2] 40).q_ (zu (Below.refl _ _) (cells #[.int .i64 0,.bool false,slice none 0 0,slice none 0 0] 40));rw[zw,zw]at this;exact this
 have OB:Ob4 ((((w.alloc (cells #[.bool s,slice x n c,slice y m d] 24)).alloc (cells #[.int .i64 i1,.bool s1,slice x1 n1 c1,slice y1 m1 d1] 40)).alloc (cells #[.int .i64 i2,.bool s2,slice x2 n2 c2,slice y2 m2 d2] 40)).alloc (cells #[.int .i64 0,.bool false,slice none 0 0,slice none 0 0] 40)) (w.heap.size+3):=by
  have:=zba (((w.alloc (cells #[.bool s,slice x n c,slice y m d] 24)).alloc (cells #[.int .i64 i1,.bool s1,slice x1 n1 c1,slice y1 m1 d1] 40)).alloc (cells #[.int .i64 i2,.bool s2,slice x2 n2 c2,slice y2 m2 d2] 40)) 40;rw[zw,zw,zw]at this;exact this
 go_enter func66,ntmps66;go_upto_region 1 with fail
 generalize((((w.alloc (cells #[.bool s,slice x n c,slice y m d] 24)).alloc (cells #[.int .i64 i1,.bool s1,slice x1 n1 c1,slice y1 m1 d1] 40)).alloc (cells #[.int .i64 i2,.bool s2,slice x2 n2 c2,slice y2 m2 d2] 40)).alloc (cells #[.int .i64 0,.bool false,slice none 0 0,slice none 0 0] 40))=w1 at *;obtain⟨r0,r1⟩:=bk2 BY;obtain⟨l0,l1,l2,l3⟩:=bk4 BL;obtain⟨u0,u1,u2,u3⟩:=bk4 BH;obtain⟨hz,z0,z1,z2,z3,zf⟩:=OB;have HB:=zk hb;clear hb BY BL BH;by_cases hn:n=0
 ·subst hn;go_wp2;exact bodyPost_ret (v:=.tuple #[agg #[.int .i64 0,.bool false,slice none 0 0,slice none 0 0],.bool false]) (by simp[results,results66,go_sem,z0,z1,z2,z3]) rfl ⟨zZ HB.out (by omega),.inl ⟨rfl,rfl⟩⟩
 ·have HN:=zk hn;have hn2:((n:Nat):Int)≠0:=by omega
  clear hn;cases s
  ·go_wp2;exact bodyPost_ret (v:=.tuple #[agg #[.int .i64 i1,.bool s1,slice x1 n1 c1,slice y1 m1 d1],.bool true]) (by simp[results,results66,go_sem,z0,z1,z2,z3]) rfl ⟨zZ HB.out (by omega),.inr (.inr ⟨HN.out,rfl,rfl⟩)⟩
  ·go_wp2;exact bodyPost_ret (v:=.tuple #[agg #[.int .i64 i2,.bool s2,slice x2 n2 c2,slice y2 m2 d2],.bool true]) (by simp[results,results66,go_sem,z0,z1,z2,z3]) rfl ⟨zZ HB.out (by omega),.inr (.inl ⟨HN.out,rfl,rfl⟩)⟩
def shI (y:Rat) (i1 i2:Int):Int:=if y=0 then 0 else if y<0 then -i2 else i1
def shQ (y q1 q2:Rat):Rat:=if y=0 then 0 else if y<0 then q2*y else q1*y
def zqq (L:Nat) (w w':World) (e:Ending) (i:Int) (q:Rat):Prop:=∃s x n c f y m d g,e=.returned (agg #[.int .i64 i,.bool s,slice x n c,slice y m d])/\Bl w w'/\En L w' i s x n c f y m d g q
theorem zin {w L s x n c f y m d g i1 s1 x1 n1 c1 f1 y1 m1 d1 g1 i2 s2 x2 n2 c2 f2 y2 m2 d2 g2 q q1 q2} (h:Rn L w s x n c f y m d g q) (h1:En L w i1 s1 x1 n1 c1 f1 y1 m1 d1 g1 q1) (h2:En L w i2 s2 x2 n2 c2 f2 y2 m2 d2 g2 q2) (hL4:4<=L) (hL:L<=4096) :
  Calls prog 34 #[agg #[.bool s,slice x n c,slice y m d],agg #[.int .i64 i1,.bool s1,slice x1 n1 c1,slice y1 m1 d1],agg #[.int .i64 i2,.bool s2,slice x2 n2 c2,slice y2 m2 d2]] w λe w'=>zqq (2*L+1) w w' e (shI q i1 i2) (shQ q q1 q2):=by
 have hb:=zu (zu (zu (zB w (cells #[.bool s,slice x n c,slice y m d] 24)) (cells #[.int .i64 i1,.bool s1,slice x1 n1 c1,slice y1 m1 d1] 40)) (cells #[.int .i64 i2,.bool s2,slice x2 n2 c2,slice y2 m2 d2] 40)) (cells #[.int .i64 0,.bool false,slice none 0 0,slice none 0 0] 40);have BY:Bk ((((w.alloc (cells #[.bool s,slice x n c,slice y m d] 24)).alloc (cells #[.int .i64 i1,.bool s1,slice x1 n1 c1,slice y1 m1 d1] 40)).alloc (cells #[.int .i64 i2,.bool s2,slice x2 n2 c2,slice y2 m2 d2] 40)).alloc (cells #[.int .i64 0,.bool false,slice none 0 0,slice none 0 0] 40)) w.heap.size [.bool s,slice x n c,slice y m d] 24:=(((zF w [.bool s,slice x n c,slice y m d] 24).q_ (zu (Below.refl _ _) _)).q_ (zu (Below.refl _ _) _)).q_ (zu (Below.refl _ _) _);have BL:Bk ((((w.alloc (cells #[.bool s,slice x n c,slice y m d] 24)).alloc (cells #[.int .i64 i1,.bool s1,slice x1 n1 c1,slice y1 m1 d1] 40)).alloc (cells #[.int .i64 i2,.bool s2,slice x2 n2 c2,slice y2 m2 d2] 40)).alloc (cells #[.int .i64 0,.bool false,slice none 0 0,slice none 0 0] 40)) (w.heap.size+1) [.int .i64 i1,.bool s1,slice x1 n1 c1,slice y1 m1 d1] 40:=by
  have:=((zF (w.alloc (cells #[.bool s,slice x n c,slice y m d] 24)) [.int .i64 i1,.bool s1,slice x1 n1 c1,slice y1 m1 d1] 40).q_ (zu (Below.refl _ _) (cells #[.int .i64 i2,.bool s2,slice x2 n2 c2,slice y2 m2 d2] 40))).q_ (zu (Below.refl _ _) (cells #[.int .i64 0,.bool false,slice none 0 0,slice none 0 0] 40));rw[zw]at this;exact this
 have BH:Bk ((((w.alloc (cells #[.bool s,slice x n c,slice y m d] 24)).alloc (cells #[.int .i64 i1,.bool s1,slice x1 n1 c1,slice y1 m1 d1] 40)).alloc (cells #[.int .i64 i2,.bool s2,slice x2 n2 c2,slice y2 m2 d2] 40)).alloc (cells #[.int .i64 0,.bool false,slice none 0 0,slice none 0 0] 40)) (w.heap.size+2) [.int .i64 i2,.bool s2,slice x2 n2 c2,slice y2 m2 d2] 40:=by
  have:=(zF ((w.alloc (cells #[.bool s,slice x n c,slice y m d] 24)).alloc (cells #[.int .i64 i1,.bool s1,slice x1 n1 c1,slice y1 m1 d1] 40)) [.int .i64 i2,.bool s2,slice x2 n2 c2,slice y2 m2 d2] 40).q_ (zu (Below.refl _ _) (cells #[.int .i64 0,.bool false,slice none 0 0,slice none 0 0] 40));rw[zw,zw]at this;exact this
 have OB:Ob4 ((((w.alloc (cells #[.bool s,slice x n c,slice y m d] 24)).alloc (cells #[.int .i64 i1,.bool s1,slice x1 n1 c1,slice y1 m1 d1] 40)).alloc (cells #[.int .i64 i2,.bool s2,slice x2 n2 c2,slice y2 m2 d2] 40)).alloc (cells #[.int .i64 0,.bool false,slice none 0 0,slice none 0 0] 40)) (w.heap.size+3):=by
  have:=zba (((w.alloc (cells #[.bool s,slice x n c,slice y m d] 24)).alloc (cells #[.int .i64 i1,.bool s1,slice x1 n1 c1,slice y1 m1 d1] 40)).alloc (cells #[.int .i64 i2,.bool s2,slice x2 n2 c2,slice y2 m2 d2] 40)) 40;rw[zw,zw,zw]at this;exact this
 have HY:=zk (h.q_ hb);have H1:=zk (h1.q_ hb);have H2:=zk (h2.q_ hb)
 have HQ0:=zk h.q_zero;have HSN:=zk h.sg
 clear h h1 h2;go_enter func34,ntmps34;go_upto_region 1 with fail
 generalize((((w.alloc (cells #[.bool s,slice x n c,slice y m d] 24)).alloc (cells #[.int .i64 i1,.bool s1,slice x1 n1 c1,slice y1 m1 d1] 40)).alloc (cells #[.int .i64 i2,.bool s2,slice x2 n2 c2,slice y2 m2 d2] 40)).alloc (cells #[.int .i64 0,.bool false,slice none 0 0,slice none 0 0] 40))=w1 at *;obtain⟨r0,r1,r2⟩:=bk3 BY;obtain⟨l0,l1,l2,l3⟩:=bk4 BL;obtain⟨k0,k1,k2,k3⟩:=bk4 BH;have HB:=zk hb;replace OB:=zk OB
 clear hb;go_wp2_with fail
 clear r0 r1 r2 l0 k0 l1 k1 l2 k2 l3 k3;refine dSide_c.mono ?_;rintro e w2 ⟨hb2,⟨hn,rfl⟩|⟨hn,hs,rfl⟩|⟨hn,hs,rfl⟩⟩
 ·have HI2:Hid (shI q i1 i2=0/\shQ q q1 q2=0):=by
   have h0:=HQ0.out.2 hn;exact⟨by rw[shI,if_pos h0],by rw[shQ,if_pos h0]⟩
  have hal:=zB w2 (cells #[.int .i64 0,.bool false,slice none 0 0,slice none 0 0] 40);have hb3:=bUp hb2 hal;replace OB:=zk (OB.out.q_ hb3);replace HB:=zJ HB hb3
  clear hb2 hal hb3 hn;go_wp2_with fail
  refine(zrb _).mono ?_;rintro e w4 ⟨s4,x4,n4,c4,f4,y4,m4,d4,g4,rfl,hb4,he4⟩;replace he4:=zk he4;replace OB:=zk (OB.out.q_ hb4);replace HB:=zJ HB hb4
  clear hb4;obtain⟨hz,z0,z1,z2,z3,zf⟩:=OB.out;go_wp2;exact bodyPost_ret (v:=agg #[.int .i64 0,.bool s4,slice x4 n4 c4,slice y4 m4 d4]) (by simp[results,results34,go_sem,z0,z1,z2,z3]) rfl ⟨s4,x4,n4,c4,f4,y4,m4,d4,g4,by rw[HI2.out.1],zZ HB.out (by omega),by rw[HI2.out.1,HI2.out.2];exact⟨OB.out.rn (he4.out.mono (by omega)),.inl rfl⟩⟩
 ·have HN:=zk hn;have HSG:Hid (shI q i1 i2=-i2/\shQ q q1 q2=q2*q):=by
   have h0:q≠0:=λe=>hn (HQ0.out.1 e)
   have h1:q<0:=by have h9:=HSN.out;rw[hs]at h9;exact of_decide_eq_true h9.symm
   exact⟨by rw[shI,if_neg h0,if_pos h1],by rw[shQ,if_neg h0,if_pos h1]⟩
  subst hs;clear hn;have n0:=HN.out;have hal:=zB w2 (cells #[.int .i64 i2,.bool s2,slice x2 n2 c2,slice y2 m2 d2] 40);have hb3:=bUp hb2 hal;have BY3:=BY.q_ hb3;obtain⟨t0,t1,t2⟩:=bk3 BY3;replace OB:=zk (OB.out.q_ hb3);replace HB:=zJ HB hb3;have R:=zk (HY.out.q_ hb3);have E:=zk (H2.out.q_ hb3)
  have HI2:=zk (show shI q i1 i2=-i2/\shQ q q1 q2=q2*q from HSG.out);clear hb2 hal hb3 BY3 HSG;go_wp2_with fail
  clear t0 t1 t2;refine(zih E.out R.out n0 hL4 hL).mono ?_;rintro e w4 ⟨s4,x4,n4,c4,f4,y4,m4,d4,g4,rfl,hb4,he4⟩;replace he4:=zk he4;have hal:=zB w4 (cells #[.int .i64 (-i2),.bool s4,slice x4 n4 c4,slice y4 m4 d4] 40);have hb5:=bUp hb4 hal;replace OB:=zk (OB.out.q_ hb5);replace HB:=zJ HB hb5;replace he4:=zk (he4.out.q_ hal)
  clear hb4 hal hb5;obtain⟨hz,z0,z1,z2,z3,zf⟩:=OB.out;go_wp2;exact bodyPost_ret (v:=agg #[.int .i64 (-i2),.bool s4,slice x4 n4 c4,slice y4 m4 d4]) (by simp[results,results34,go_sem,z0,z1,z2,z3]) rfl ⟨s4,x4,n4,c4,f4,y4,m4,d4,g4,by rw[HI2.out.1],zZ HB.out (by omega),by rw[HI2.out.1,HI2.out.2];exact⟨OB.out.rn he4.out.rn,he4.out.inf⟩⟩
 ·have HN:=zk hn;have HSG:Hid (shI q i1 i2=i1/\shQ q q1 q2=q1*q):=by
   have h0:q≠0:=λe=>hn (HQ0.out.1 e)
   have h1:¬q<0:=by have h9:=HSN.out;rw[hs]at h9;exact of_decide_eq_false h9.symm
   exact⟨by rw[shI,if_neg h0,if_neg h1],by rw[shQ,if_neg h0,if_neg h1]⟩
  subst hs;clear hn;have n0:=HN.out;have hal:=zB w2 (cells #[.int .i64 i1,.bool s1,slice x1 n1 c1,slice y1 m1 d1] 40);have hb3:=bUp hb2 hal;have BY3:=BY.q_ hb3;obtain⟨t0,t1,t2⟩:=bk3 BY3;replace OB:=zk (OB.out.q_ hb3);replace HB:=zJ HB hb3;have R:=zk (HY.out.q_ hb3);have E:=zk (H1.out.q_ hb3)
  have HI2:=zk (show shI q i1 i2=i1/\shQ q q1 q2=q1*q from HSG.out);clear hb2 hal hb3 BY3 HSG;go_wp2_with fail
  clear t0 t1 t2;refine(zih E.out R.out n0 hL4 hL).mono ?_;rintro e w4 ⟨s4,x4,n4,c4,f4,y4,m4,d4,g4,rfl,hb4,he4⟩;replace he4:=zk he4;have hal:=zB w4 (cells #[.int .i64 i1,.bool s4,slice x4 n4 c4,slice y4 m4 d4] 40);have hb5:=bUp hb4 hal;replace OB:=zk (OB.out.q_ hb5);replace HB:=zJ HB hb5;replace he4:=zk (he4.out.q_ hal)
  clear hb4 hal hb5;obtain⟨hz,z0,z1,z2,z3,zf⟩:=OB.out;go_wp2;exact bodyPost_ret (v:=agg #[.int .i64 i1,.bool s4,slice x4 n4 c4,slice y4 m4 d4]) (by simp[results,results34,go_sem,z0,z1,z2,z3]) rfl ⟨s4,x4,n4,c4,f4,y4,m4,d4,g4,by rw[HI2.out.1],zZ HB.out (by omega),by rw[HI2.out.1,HI2.out.2];exact⟨OB.out.rn he4.out.rn,he4.out.inf⟩⟩
theorem zrk {w L ao k cap p} (h:Rf L w ao p) (hk:p.length=k) (hkL:4+k*(L+1)<=199000) (hL:L<=199000) (hk2:k<=1000000) :
  Calls prog 33 #[slice ao k cap] w λe w'=>zcq (4+k*(L+1)) w w' e (psum p 0):=by
 have H:=zk h;have h2:=zaz w 24;have h3:=zB w (cells #[.bool false,slice none 0 0,slice none 0 0] 24);clear h;go_enter func33,ntmps33;go_wp2_with fail
 generalize w.alloc (cells #[.bool false,slice none 0 0,slice none 0 0] 24)=w0 at *;refine(zkf (z:=0) (by omega) (by omega)).mono ?_;rintro e w4 ⟨s0,x0,n0,c0,f0,y0,m0,d0,g0,rfl,hb4,hq4⟩;have OB4:=zk (h2.q_ hb4);have HB4:=zk (bUp h3 hb4);have HQ4:=zk hq4
 clear h2 h3 hb4 hq4;go_wp2_with fail
 have hSx:Sx (w4.alloc (cells #[.bool s0,slice x0 n0 c0,slice y0 m0 d0] 24)) w4.heap.size s0 x0 n0 c0 y0 m0 d0:=⟨by simp,by simp[go_sem],by simp[go_sem],by simp[go_sem],λo=>by simp only[World.frozen?,heap_alloc_new w4 (cells #[.bool s0,slice x0 n0 c0,slice y0 m0 d0] 24)];simp⟩;have hal:=zB w4 (cells #[.bool s0,slice x0 n0 c0,slice y0 m0 d0] 24);have hne:w.heap.size<w4.heap.size:=OB4.out.z;have ST:=zk hSx;have HB5:=zJ HB4 hal;have HQ5:=zk (HQ4.out.q_ hal);have OB5:=zk (OB4.out.q_ hal)
 clear hSx hal HB4 HQ4 OB4;go_loopw[9] (λt wr=>∃(i:Nat) (acc:Rat) (s:Bool) (x:Option Addr) (n c:Nat) (f:Nat->Int) (y:Option Addr) (m d:Nat) (g:Nat->Int),i<=k/\t=.int .i64 i/\Hid (Bl w wr)/\Hid (Sx wr w4.heap.size s x n c y m d)/\Hid (Ob wr w.heap.size)/\Hid (Rn (4+i*(L+1)) wr s x n c f y m d g acc)/\Hid (psum (p.drop i) acc=psum p 0)) (λt _=>k-(intOf t).toNat)
 case atStart=>exact⟨0,0,s0,x0,n0,c0,f0,y0,m0,d0,g0,by omega,rfl,HB5,ST,OB5,(by show Rn _ _ _ _ _ _ _ _ _ _ _ _;exact HQ5.out.mono (by omega)),rfl⟩
 case round =>
  clear HB5 HQ5 OB5 ST;obtain⟨i,acc,s,x,n,c,f,y,m,d,g,hi,rfl,HB,HS,HO,HQ,HE⟩:=hrel;by_cases hlt:i<k
  ·obtain⟨q,haq⟩:∃t,p[i]?=some t:=⟨_,getElem?_eq_getElem (by omega)⟩;obtain⟨b,o,⟨ts,tx,tn,tc,tf,ty,tm,td,tg⟩,hav,hc,hr⟩:=(H.out.q_ HB.out) i q haq;have hav2:=hav;subst hav2;obtain⟨x0,x1,x2⟩:=hc;replace x0:wr.cell? ⟨b,o+i*3,none⟩=some (.bool ts):=x0;replace x1:wr.cell? ⟨b,o+i*3+1,none⟩=some (slice tx tn tc):=x1;replace x2:wr.cell? ⟨b,o+i*3+2,none⟩=some (slice ty tm td):=x2;have HD:Hid (psum (p.drop (i+1)) (acc+q)=psum p 0):=by
    show _=_;have e1:p.drop i=q :: p.drop (i+1):=by
     have hl:i<p.length:=by omega
     have:p[i]=q:=by rw[getElem?_eq_getElem hl]at haq;exact Option.some.inj haq
     rw[<-this];exact List.drop_eq_getElem_cons hl
    rw[<-HE.out,e1];rfl
   have hb5:=zB wr (cells #[.bool ts,slice tx tn tc,slice ty tm td] 24);have HR1:Hid (Rn L (wr.alloc (cells #[.bool ts,slice tx tn tc,slice ty tm td] 24)) ts tx tn tc tf ty tm td tg q):=Rn.q_ hr hb5;replace HS:=zk (HS.out.q_ hb5);replace HO:=zk (HO.out.q_ hb5);replace HQ:=zk (HQ.out.q_ hb5);replace HB:=zJ HB hb5
   have i2:((i:Nat):Int)<((k:Nat):Int):=by omega
   obtain⟨sz,u0,u1,u2,uf⟩:=HS.out;clear hr haq hav HE hb5;go_wp2_with fail
   clear sz u0 u1 u2 uf x0 x1 x2;generalize wr.alloc (cells #[.bool ts,slice tx tn tc,slice ty tm td] 24)=w5 at *;have hKi:4+i*(L+1)<=199000:=by have:i*(L+1)<=k*(L+1):=Nat.mul_le_mul_right _ hi;omega
   refine(zmN (L:=199000) (HQ.out.mono hKi) (HR1.out.mono (by omega)) (by omega)).mono ?_;rintro e w6 ⟨s6,x6,n6,c6,f6,y6,m6,d6,g6,rfl,hb6,hq6⟩;have S6:=HS.out.q_ hb6;have R1:=zk (ziU (bUp HB.out hb6) S6 (HO.out.q_ hb6) (hq6.cut (K:=4+(i+1)*(L+1)) ((zfr (HQ.out.lo HQ.out.ln HQ.out.ld) (HR1.out.lo HR1.out.ln HR1.out.ld)).mono (by rw[Nat.add_mul];omega))) hne);obtain⟨sz,u0,u1,u2,uf⟩:=S6;clear HS HO HQ HR1 HB hb6 hq6 hKi;go_wp2;go_roundw
   case rel=>exact⟨i+1,acc+q,s6,x6,n6,c6,f6,y6,m6,d6,g6,by omega,by go_num,R1.out.bel,R1.out.sx,R1.out.ob,R1.out.rn,HD.out⟩
   case measure=>simp[intOf];omega
  ·have e1:i=k:=by omega
   have HF:Hid (acc=psum p 0):=by
    show _=_;rw[<-HE.out,e1,<-hk,List.drop_length];rfl
   have i2:¬(((i:Nat):Int)<((k:Nat):Int)):=by omega
   obtain⟨sz,u0,u1,u2,uf⟩:=HS.out;obtain⟨hz,z0,z1,z2,zf⟩:=HO.out;have HKK:Hid (i=k):=e1;clear e1 HE;go_wp2;exact bodyPost_ret (v:=agg #[.bool s,slice x n c,slice y m d]) (by simp[results,results33,go_sem,z0,z1,z2]) rfl ⟨s,x,n,c,f,y,m,d,g,rfl,zU HB.out (by omega),by rw[<-HF.out,<-HKK.out];exact HO.out.rn HQ.out⟩
def smI (p:List (Int × Rat)):Int:=if p.any (λt=>decide (t.1≠0)) then -1 else 0
def smQ (p:List (Int × Rat)):Rat:=if p.any (λt=>decide (t.1≠0)) then 0 else psum (p.map (·.2)) 0
theorem zsa {p} {i:Nat} {a q} (h:p[i]?=some (a,q)) (ha:a≠0):smI p=-1/\smQ p=0:=by
 have h1:p.any (λt=>decide (t.1≠0))=true:=List.any_eq_true.2 ⟨(a,q),List.mem_of_getElem? h,by simpa using ha⟩;exact⟨by rw[smI,if_pos h1],by rw[smQ,if_pos h1]⟩
theorem zqQ {p} (h:∀t ∈ p,t.1=0):smI p=0/\smQ p=psum (p.map (·.2)) 0:=by
 have h1:p.any (λt=>decide (t.1≠0))=false:=List.any_eq_false.2 (λt ht=>by simpa using h t ht);exact⟨by rw[smI,h1];rfl,by rw[smQ,h1];rfl⟩
theorem zfa {p:List (Int × Rat)} {i q} (h:∀t ∈ p.take i,t.1=0) (hi:p[i]?=some (0,q)):∀t ∈ p.take (i+1),t.1=0:=λt ht=>by
 rw[List.take_add_one,hi]at ht
 rcases List.mem_append.1 ht with h1|h1
 ·exact h t h1
 ·simp at h1;rw[h1]
theorem zrE {w L ao k cap p} (h:Tf L w ao p) (hk:p.length=k) (hkL:4+k*(L+1)<=199000) (hL:L<=199000) (hk2:k<=1000000) :
  Calls prog 35 #[slice ao k cap] w λe w'=>zqq (4+k*(L+1)) w w' e (smI p) (smQ p):=by
 have H:=zk h;have h2:=zba w 40;have h3:=zB w (cells #[.int .i64 0,.bool false,slice none 0 0,slice none 0 0] 40);have h4:w.heap.size<(w.alloc (cells #[.int .i64 0,.bool false,slice none 0 0,slice none 0 0] 40)).heap.size:=by simp
 clear h;go_enter func35,ntmps35;go_wp2_with fail
 generalize w.alloc (cells #[.int .i64 0,.bool false,slice none 0 0,slice none 0 0] 40)=w1 at *;have OB:=zk h2;have HB0:=zk h3
 clear h2 h3;go_loopw[3,8] (λov t wr=>∃(i:Nat),i<=k/\t=.int .i64 i/\Hid (Bl w1 wr)/\Hid (Gr L w1.heap.size wr ov ((p.take i).map (·.2)))/\Hid (∀t ∈ p.take i,t.1=0)) (λ_ t _=>k-(intOf t).toNat)
 case atStart=>exact⟨0,by omega,rfl,Below.refl _ _,zhb _ _ _,λt ht=>by simp at ht⟩
 case round =>
  obtain⟨i,hi,rfl,HB,HG,HZ⟩:=hrel;have hgl:((p.take i).map (·.2)).length=i:=by rw[List.length_map,List.length_take];omega
  by_cases hlt:i<k
  ·obtain⟨⟨a,q⟩,haq⟩:∃t,p[i]?=some t:=⟨_,getElem?_eq_getElem (by omega)⟩;have hbw:=bUp HB0.out HB.out;obtain⟨b,o,⟨ts,tx,tn,tc,tf,ty,tm,td,tg⟩,hav,hc,hr⟩:=(H.out.q_ hbw) i a q haq;have hav2:=hav;subst hav2;obtain⟨x0,x1,x2,x3⟩:=hc;replace x0:wr.cell? ⟨b,o+i*4,none⟩=some (.int .i64 a):=x0;replace x1:wr.cell? ⟨b,o+i*4+1,none⟩=some (.bool ts):=x1;replace x2:wr.cell? ⟨b,o+i*4+2,none⟩=some (slice tx tn tc):=x2;replace x3:wr.cell? ⟨b,o+i*4+3,none⟩=some (slice ty tm td):=x3;have hb5:=zB wr (cells #[.int .i64 a,.bool ts,slice tx tn tc,slice ty tm td] 40);obtain⟨a0,a1,a2,a3⟩:=bk4 (zF wr [.int .i64 a,.bool ts,slice tx tn tc,slice ty tm td] 40);replace hr:=zk (show Rn L (wr.alloc (cells #[.int .i64 a,.bool ts,slice tx tn tc,slice ty tm td] 40)) ts tx tn tc tf ty tm td tg q from Rn.q_ hr hb5);have i2:((i:Nat):Int)<((k:Nat):Int):=by omega
   have HAQ:=zk haq;have hb5s:=hb5.size;clear haq hav hbw;go_upto_region 5 with fail
   clear x0 x1 x2 x3;replace HB:=zJ HB hb5;replace HG:=zk (HG.out.q_ hb5)
   clear hb5 hb5s;generalize wr.heap.size=bx at *;generalize(wr.alloc (cells #[.int .i64 a,.bool ts,slice tx tn tc,slice ty tm td] 40))=w5 at *;by_cases ha:a=0
   ·subst ha;obtain⟨T,hrow,hT⟩:=HG.out;rw[hgl]at hrow
    have hsz:=HB.out.size;go_wp2_with(at_builtin;go_must (refine zO w5 rfl (.tmp 16) (.tmp 19) 29 rfl w1.heap.size 24 56 3 (agg #[.bool false,slice none 0 0,slice none 0 0]) underlying29 zaR rfl (by decide) nz3 u3 i _ rfl hrow #[.bool ts,slice tx tn tc,slice ty tm td] rfl rfl (zdo _ _ _ _ _ _ _) (zcB _ _ _ _ _ _ _) ?p1 (by decide) hsz ?_))
    case p1=>omega
    intro g8 cap8 w8 hr8 hk8 hb8 hg8;have HB8:=zk (hb8 w1 HB.out (le_refl _));have HG8:Hid (Gr L w1.heap.size w8 (slice (some ⟨g8,0,none⟩) (i+1) cap8) ((p.take (i+1)).map (·.2))):=by
     have hp8:=zeP hT (by rw[hgl];exact hr8) hk8 hr.out;rw[hgl]at hp8
     rw[List.take_add_one,HAQ.out,List.map_append];exact hp8
    have HZ8:=zk (zfa HZ.out HAQ.out);clear hr8 hk8 hb8 hg8 hrow hT HG HB HZ hr hsz a0 a1 a2 a3;go_wp2;go_roundw
    case rel=>exact⟨i+1,by omega,by go_num,HB8.out,HG8.out,HZ8.out⟩
    case measure=>simp[intOf];omega
   ·have HI:=zk (zsa HAQ.out ha);clear HZ HG;go_wp2_with fail
    refine eLow_c.mono ?_;rintro e w6 ⟨s4,x4,n4,c4,f4,y4,m4,d4,g4,rfl,hb6,hq6⟩;have HB6:=zJ HB hb6;have HQ6:=zk hq6;have HO6:=zk (OB.out.q_ HB6.out);obtain⟨hz,z0,z1,z2,z3,zf⟩:=HO6.out;clear hb6 hq6 HB a0 a1 a2 a3;go_wp2;exact bodyPost_ret (v:=agg #[.int .i64 (-1),.bool s4,slice x4 n4 c4,slice y4 m4 d4]) (by simp[results,results35,go_sem,z0,z1,z2,z3]) rfl ⟨s4,x4,n4,c4,f4,y4,m4,d4,g4,by rw[HI.out.1],zZ (bUp HB0.out HB6.out) (by omega),by rw[HI.out.1,HI.out.2];exact⟨HO6.out.rn (HQ6.out.rn.mono (by omega)),.inr ⟨by decide,rfl⟩⟩⟩
  ·have e1:i=k:=by omega
   have i4':¬(((i:Nat):Int)<((k:Nat):Int)):=by omega
   obtain⟨va,vc,hvs,hvc⟩:=HG.out.slice;rw[hgl]at hvs
   have HG4:=HG.out;rw[hvs]at HG4
   replace HG4:=zk (show Rf L wr va (p.map (·.2)) by have:=HG4.rf;rw[List.take_of_length_le (by omega)]at this;exact this);subst hvs;have HI:=zk (zqQ (p:=p) (λt ht=>HZ.out t (by rw[List.take_of_length_le (by omega)];exact ht)));clear HG HZ hvc;go_wp2_with fail
   refine(zrk (L:=L) HG4.out (by rw[List.length_map];omega) hkL hL (by omega)).mono ?_;rintro e w6 ⟨s4,x4,n4,c4,f4,y4,m4,d4,g4,rfl,hb6,hq6⟩;have HB6:=zJ HB hb6;have HQ6:=zk hq6;have HO6:=zk (OB.out.q_ HB6.out);obtain⟨hz,z0,z1,z2,z3,zf⟩:=HO6.out;clear hb6 hq6 HB HG4;go_wp2;exact bodyPost_ret (v:=agg #[.int .i64 0,.bool s4,slice x4 n4 c4,slice y4 m4 d4]) (by simp[results,results35,go_sem,z0,z1,z2,z3]) rfl ⟨s4,x4,n4,c4,f4,y4,m4,d4,g4,by rw[HI.out.1],zZ (bUp HB0.out HB6.out) (by omega),by rw[HI.out.1,HI.out.2];exact⟨HO6.out.rn HQ6.out,.inl rfl⟩⟩
theorem zkv:(prog.info? 40).map (λi=>(i.zero,i.size,i.bytes))=some (some (agg #[.int .i64 0,.bool false,slice none 0 0,slice none 0 0]),4,64):=by kernel_rfl
def Ge (K base:Nat) (w:World) (v:Value) (p:List (Int × Rat)):Prop:=∃(col:Nat->Int) (T:Nat->Nm),RowG 40 4 base w v p.length (zaL (tls p.length col T))/\∀(j:Nat) (i:Int) (q:Rat),p[j]?=some (i,q)->col j=i/\Rn K w (T j).s (T j).x (T j).n (T j).c (T j).f (T j).y (T j).m (T j).d (T j).g q
theorem Ge.q_ {K base w w' v p} (h:Ge K base w v p) (hb:Bl w w'):Ge K base w' v p:=by
 obtain⟨col,T,h1,h2⟩:=h;exact⟨col,T,h1.q_ hb,λj i q e=>⟨(h2 j i q e).1,(h2 j i q e).2.q_ hb⟩⟩
theorem zrA {K base w i s x n c f y m d g q} (h:Rn K w s x n c f y m d g q) (hb:base<=w.heap.size):Ge K base (w.alloc (cells #[.int .i64 i,.bool s,slice x n c,slice y m d] 40)) (slice (some ⟨w.heap.size,0,none⟩) 1 1) [(i,q)]:=by
 refine⟨λ_=>i,λ_=>⟨s,x,n,c,f,y,m,d,g⟩,⟨rfl,.inr ⟨w.heap.size,1,#[.int .i64 i,.bool s,slice x n c,slice y m d],rfl,hb,heap_alloc_new w _,le_refl _,by decide,rfl,rfl,zaa (zlt _ _ _ _ _ _ _ _)⟩⟩,λj i' q' e=>?_⟩;cases j with
 | zero=>cases e;exact⟨rfl,h.alloc _⟩
 | succ j=>simp at e
theorem zkx {K base w0 w' p col T g cap i s x n c f y m d gg q} (hT:∀(j:Nat) (i:Int) (q:Rat),p[j]?=some (i,q)->col j=i/\Rn K w0 (T j).s (T j).x (T j).n (T j).c (T j).f (T j).y (T j).m (T j).d (T j).g q) (hr:RowG 40 4 base w' (slice (some ⟨g,0,none⟩) (p.length+1) cap) (p.length+1) (zaL (tls p.length col T)++#[Value.int .i64 i,.bool s,slice x n c,slice y m d].toList)) (hk:Kp w0 w') (hq:Rn K w0 s x n c f y m d gg q):Ge K base w' (slice (some ⟨g,0,none⟩) (p.length+1) cap) (p++[(i,q)]):=by
 refine⟨λj=>if j=p.length then i else col j,zaD T p.length ⟨s,x,n,c,f,y,m,d,gg⟩,?_,λj i' q' e=>?_⟩
 ·rw[List.length_append,List.length_singleton,zgy];simp only[if_true];rw[show tls p.length (λj=>if j=p.length then i else col j) T=tls p.length col T from List.map_congr_left (λj hj=>by dsimp only;rw[if_neg (by have:=List.mem_range.1 hj;omega)])];exact hr
 ·by_cases hj:j<p.length
  ·rw[List.getElem?_append_left hj]at e
   rw[putN_ne (by omega)];dsimp only;rw[if_neg (by omega)];exact⟨(hT j i' q' e).1,Rn.kp (hT j i' q' e).2 hk⟩
  ·rw[List.getElem?_append_right (by omega)]at e
   have h0:j-p.length=0:=by
    rcases Nat.eq_zero_or_pos (j-p.length)with h|h
    ·exact h
    ·rw[List.getElem?_eq_none (by simp;omega)]at e;cases e
   have hjj:j=p.length:=by omega
   subst hjj;rw[h0]at e
   cases e
   rw[zbs];dsimp only;rw[if_pos rfl];exact⟨rfl,Rn.kp hq hk⟩
theorem Ge.slice {K base w v p} (h:Ge K base w v p):∃ao cap,v=.slice ao p.length cap:=by
 obtain⟨col,T,h1,h2⟩:=h;exact h1.slice
theorem Ge.tf {K base w ao n cap p} (h:Ge K base w (.slice ao n cap) p):Tf K w ao p:=λj i q hj=>by
 obtain⟨col,T,h1,h2⟩:=h;have hl:j<p.length:=by
  rcases Nat.lt_or_ge j p.length with h|h
  ·exact h
  ·rw[List.getElem?_eq_none h]at hj;cases hj
 have hn:n=p.length:=by
  obtain⟨ao',cap',e⟩:=h1.slice;cases e;rfl
 subst hn;obtain⟨b,e,hc⟩:=zgE h1 hl;obtain⟨e1,e2⟩:=h2 j i q hj;exact⟨b,0,T j,e,by rw[<-e1];exact hc,e2⟩
def shR (rs:List RV) (ys:List Rat):List (Int × Rat):=List.zipWith (λv y=>(shI y v.li v.hi,shQ y v.lq v.hq)) rs ys
def shC (cs:List CV) (zs:List Rat):List (Int × Rat):=List.zipWith (λv y=>(shI y v.li v.hi,shQ y v.lq v.hq)) cs zs
theorem zmw {rs ys i v y} (hv:rs[i]?=some v) (hy:ys[i]?=some y):(shR rs ys).take (i+1)=(shR rs ys).take i++[(shI y v.li v.hi,shQ y v.lq v.hq)]:=by
 rw[List.take_add_one]
 congr 1
 unfold shR;rw[List.getElem?_zipWith,hv,hy];rfl
theorem zmx {cs ys i v y} (hv:cs[i]?=some v) (hy:ys[i]?=some y):(shC cs ys).take (i+1)=(shC cs ys).take i++[(shI y v.li v.hi,shQ y v.lq v.hq)]:=by
 rw[List.take_add_one]
 congr 1
 unfold shC;rw[List.getElem?_zipWith,hv,hy];rfl
def bnP (off:Rat) (cs:List CV) (rs:List RV) (ys:List Rat):List (Int × Rat):=(0,off) :: (shR rs ys++shC cs (zaA rs ys 0 cs))
def KS (L:Nat):Nat:=KV L+L+1
def KBo (L:Nat):Nat:=4+129*(KS L+1)
theorem zdW {L} (hL:1<=L):Lo L 0:=by
 have h:=zaQ hL;have h1:pw 1=18446744073709551616:=by decide
 constructor
 ·show((0:Nat):Int)<_;omega
 ·show((1:Nat):Int)<_;omega
theorem zqd {L y q1 q2} (hy:Lo (KV L) y) (h1:Lo L q1) (h2:Lo L q2) (hL:1<=L):Lo (KS L) (shQ y q1 q2):=by
 unfold shQ KS;by_cases h0:y=0
 ·rw[if_pos h0];exact zdW (by omega)
 ·rw[if_neg h0];by_cases h3:y<0
  ·rw[if_pos h3];exact(zfq h2 hy).mono (by omega)
  ·rw[if_neg h3];exact(zfq h1 hy).mono (by omega)
def zos (L:Nat) (w w':World) (e:Ending) (er:Int) (p:List (Int × Rat)):Prop:=Bl w w' /\
 ((er≠0/\e=.returned (.tuple #[agg #[.int .i64 0,.bool false,slice none 0 0,slice none 0 0],.int .i64 er]))∨(er=0/\∃s x n c f y m d g,e=.returned (.tuple #[agg #[.int .i64 (smI p),.bool s,slice x n c,slice y m d],.int .i64 0])/\En (KBo L) w' (smI p) s x n c f y m d g (smQ p)))
theorem zir {w L M off cs rs ao k cap X ys er} (hW:MoW w M) (hx:Rl w ao k X) (hk:k<=1048576) (he:zbB M k X=er) (hv:er=0->MoV L w M off cs rs/\zbk cs rs=true/\Rf L w ao ys/\ys.length=k/\k=rs.length) (hL4:4<=L) (hL:L<=8) :
  Calls prog 11 #[M.val,slice ao k cap] w λe w'=>zos L w w' e er (bnP off cs rs ys):=by
 have CR:Hid (∀W,Bl w W->Calls prog 10 #[M.val,slice ao k cap] W λe w'=>ziD L W w' e er cs rs ys):=λW hW2=>zds (hW.q_ hW2) (hx.q_ hW2) hk he (λh0=>⟨(hv h0).1.q_ hW2,(hv h0).2.1,(hv h0).2.2.1.q_ hW2,(hv h0).2.2.2⟩) (by omega)
 have HV:=zk hv;clear hW hx hv he;obtain⟨⟨s,x,n,c,f,y,m,d,g⟩,ca,ck,cc,C,ra,rk,rc,R⟩:=M;replace CR:Hid (∀W,Bl w W->Calls prog 10 #[agg #[.bool s,slice x n c,slice y m d,slice ca ck cc,slice ra rk rc],slice ao k cap] W λe w'=>ziD L W w' e er cs rs ys):=CR;show Calls prog 11 #[agg #[.bool s,slice x n c,slice y m d,slice ca ck cc,slice ra rk rc],slice ao k cap] w _;have hb:=zu (zB w (cells #[.bool s,slice x n c,slice y m d,slice ca ck cc,slice ra rk rc] 28)) (cells #[.int .i64 0,.bool false,slice none 0 0,slice none 0 0] 40);have BM:=zk ((zF w [.bool s,slice x n c,slice y m d,slice ca ck cc,slice ra rk rc] 28).q_ (zB _ (cells #[.int .i64 0,.bool false,slice none 0 0,slice none 0 0] 40)));have OB:=zba (w.alloc (cells #[.bool s,slice x n c,slice y m d,slice ca ck cc,slice ra rk rc] 28)) 40;rw[zw]at OB
 have HB:=zk hb;replace OB:=zk OB
 clear hb;go_enter func11,ntmps11;go_upto_region 1 with fail
 generalize((w.alloc (cells #[.bool s,slice x n c,slice y m d,slice ca ck cc,slice ra rk rc] 28)).alloc (cells #[.int .i64 0,.bool false,slice none 0 0,slice none 0 0] 40))=w1 at *;obtain⟨r0,r1,r2,r3,r4⟩:=bk5 BM.out;go_wp2_with fail
 clear r0 r1 r2 r3 r4;refine(CR.out _ HB.out).mono ?_;rintro e w2 ⟨hb2,⟨h0,rfl⟩|⟨h0,za,zc,rfl,_,hz⟩⟩
 ·have h1:(er != 0)=true:=by simpa using h0
  have H0:=zk h0;replace OB:=zk (OB.out.q_ hb2);replace HB:=zJ HB hb2
  obtain⟨hz,z0,z1,z2,z3,zf⟩:=OB.out;clear hb2 h0 CR;go_wp2;exact bodyPost_ret (v:=.tuple #[agg #[.int .i64 0,.bool false,slice none 0 0,slice none 0 0],.int .i64 er]) (by simp[results,results11,go_sem,z0,z1,z2,z3]) rfl ⟨zZ HB.out (by omega),.inl ⟨H0.out,rfl⟩⟩
 ·obtain⟨v1,v2,v3,v4,v5⟩:=HV.out h0;have mp:=zbj v2;subst h0;have l64:=mp.cl;have r64:=mp.rl
  have HO:Hid (Rn L w s x n c f y m d g off):=v1.off;have HC:Hid (∀j v,cs[j]?=some v->(∃b o,ca=some ⟨b,o,none⟩/\Cs w b (o+j*12) (C j).vs)/\ColV L w (C j) v):=v1.cls;have HR:Hid (∀j v,rs[j]?=some v->(∃b o,ra=some ⟨b,o,none⟩/\Cs w b (o+j*10) (R j).vs)/\RowV L w (R j) v):=v1.rls;have hck:ck=cs.length:=v1.ck;have hrk:rk=rs.length:=v1.rk;subst hck;subst hrk
  subst v5;have HY:=zk v3;have HYL:=zk v4;have HRB:=zk mp.rb;have HCB:=zk mp.cb
  clear v1 v2 v3 v4 mp HV CR hk;obtain⟨zs,hzs⟩:∃t,zaA rs ys 0 cs=t:=⟨_,rfl⟩;have HZL:Hid (zs.length=cs.length):=by rw[<-hzs];exact zaX _ _ _ _
  have HP:Hid (bnP off cs rs ys=(0,off) :: (shR rs ys++shC cs zs)):=by rw[<-hzs];exact rfl
  rw[hzs]at hz
  have HZ:=zk hz;replace HB:=zJ HB hb2;replace BM:=zk (BM.out.q_ hb2);replace OB:=zk (OB.out.q_ hb2)
  have hsr:(shR rs ys).length=rs.length:=by unfold shR;rw[List.length_zipWith,HYL.out,Nat.min_self]
  have hsc:(shC cs zs).length=cs.length:=by unfold shC;rw[List.length_zipWith,HZL.out,Nat.min_self]
  have hKV:KS L=4+65*(2*L+1+1)+L+1:=rfl;clear hb2 hz hzs;obtain⟨r0,r1,r2,r3,r4⟩:=bk5 BM.out;have hal:=zB w2 (cells #[.int .i64 0,.bool s,slice x n c,slice y m d] 40);have r4':=kCb hal r4;have HG0:=zk (zrA (i:=0) (K:=KS L) (base:=w2.heap.size) ((HO.out.q_ HB.out).mono (by omega)) (le_refl _));go_wp2_with fail
  clear r0 r1 r2 r3 r4 r4' HO;go_loopw[8,30] (λpv t wr=>∃(i:Nat),i<=rs.length/\t=.int .i64 i/\Hid (Bl w2 wr)/\Hid (Ge (KS L) w2.heap.size wr pv ((0,off) :: (shR rs ys).take i))) (λ_ t _=>rs.length-(intOf t).toNat)
  case atStart=>exact⟨0,by omega,rfl,hal,HG0.out⟩
  case round =>
   clear HG0 hal;obtain⟨i,hi,rfl,HB2,HG⟩:=hrel;by_cases hlt:i<rs.length
   ·obtain⟨v,hv⟩:∃t,rs[i]?=some t:=⟨_,getElem?_eq_getElem (by omega)⟩;obtain⟨yq,hyq⟩:∃t,ys[i]?=some t:=⟨_,getElem?_eq_getElem (by have:=HYL.out;omega)⟩;have hbw:=bUp HB.out HB2.out;obtain⟨⟨b,o,hra,hc⟩,hRV⟩:=HR.out i v hv;have hbd:=HRB.out v (List.mem_of_getElem? hv);subst hra;obtain⟨⟨z,⟨i1,⟨s1,x1,n1,c1,f1,y1,m1,d1,g1⟩⟩,⟨i2,⟨s2,x2,n2,c2,f2,y2,m2,d2,g2⟩⟩,ta,tk,tc,tcol,tt⟩,hCi⟩:∃t,R i=t:=⟨_,rfl⟩;rw[hCi]at hc hRV
    have e1:i1=v.li:=hRV.li;have e2:i2=v.hi:=hRV.hi
    have E1:En L w i1 s1 x1 n1 c1 f1 y1 m1 d1 g1 v.lq:=⟨hRV.lq,by rw[e1];exact hbd.1⟩;have E2:En L w i2 s2 x2 n2 c2 f2 y2 m2 d2 g2 v.hq:=⟨hRV.hq,by rw[e2];exact hbd.2⟩
    replace hc:=Cs.q_ hc hbw;obtain⟨q0,q1,q2,q3,q4,q5,q6,q7,q8,q9⟩:=hc.lr;obtain⟨b',o',⟨ss,sx,sn,sc,sf,sy,sm,sd,sg⟩,hax,⟨p0,p1,p2⟩,hr'⟩:=(HY.out.q_ hbw) i yq hyq;subst hax;replace p0:wr.cell? ⟨b',o'+i*3,none⟩=some (.bool ss):=p0;replace p1:wr.cell? ⟨b',o'+i*3+1,none⟩=some (slice sx sn sc):=p1;replace p2:wr.cell? ⟨b',o'+i*3+2,none⟩=some (slice sy sm sd):=p2;replace hr':Rn L wr ss sx sn sc sf sy sm sd sg yq:=hr';have hbt:=zB wr (cells #[.string z,.int .i64 i1,.bool s1,slice x1 n1 c1,slice y1 m1 d1,.int .i64 i2,.bool s2,slice x2 n2 c2,slice y2 m2 d2,slice ta tk tc] 63);obtain⟨-,a1,a2,a3,a4,a5,a6,a7,a8⟩:=bk9 (zF wr [.string z,.int .i64 i1,.bool s1,slice x1 n1 c1,slice y1 m1 d1,.int .i64 i2,.bool s2,slice x2 n2 c2,slice y2 m2 d2,slice ta tk tc] 63);have i1':((i:Nat):Int)<((rs.length:Nat):Int):=by omega
    replace p0:=kCb hbt p0;replace p1:=kCb hbt p1;replace p2:=kCb hbt p2
    have RY:=zk ((hr'.q_ hbt).mono (show _<=KV L by unfold KV;omega));have RE1:=zk (((E1.q_ hbw).q_ hbt).mono (show L<=KV L by unfold KV;omega));have RE2:=zk (((E2.q_ hbw).q_ hbt).mono (show L<=KV L by unfold KV;omega))
    have HLO:=zk (zqd (RY.out.lo RY.out.ln RY.out.ld) (E1.rn.lo E1.rn.ln E1.rn.ld) (E2.rn.lo E2.rn.ln E2.rn.ld) (by omega));have HTK:=zk (zmw hv hyq);rw[<-e1,<-e2]at HTK
    clear hr' E1 E2 hCi hc hRV hbd e1 e2 hbw hv hyq;go_upto_region 8 with fail
    clear q0 q1 q2 q3 q4 q5 q6 q7 q8 q9;replace HB2:=zJ HB2 hbt;replace HG:=zk (HG.out.q_ hbt)
    clear hbt;generalize wr.heap.size=bx at *;generalize(wr.alloc (cells #[.string z,.int .i64 i1,.bool s1,slice x1 n1 c1,slice y1 m1 d1,.int .i64 i2,.bool s2,slice x2 n2 c2,slice y2 m2 d2,slice ta tk tc] 63))=w5 at *;refine zag (S:=(λw'=>w'.cell? ⟨bx,1,none⟩=some (.int .i64 i1)/\w'.cell? ⟨bx,2,none⟩=some (.bool s1)/\w'.cell? ⟨bx,3,none⟩=some (slice x1 n1 c1)/\w'.cell? ⟨bx,4,none⟩=some (slice y1 m1 d1)/\w'.cell? ⟨bx,5,none⟩=some (.int .i64 i2)/\w'.cell? ⟨bx,6,none⟩=some (.bool s2)/\w'.cell? ⟨bx,7,none⟩=some (slice x2 n2 c2)/\w'.cell? ⟨bx,8,none⟩=some (slice y2 m2 d2)/\w'.cell? ⟨b',o'+i*3,none⟩=some (.bool ss)/\w'.cell? ⟨b',o'+i*3+1,none⟩=some (slice sx sn sc)/\w'.cell? ⟨b',o'+i*3+2,none⟩=some (slice sy sm sd))) 9 (by kernel_rfl) ⟨kCd a1,kCd a2,kCd a3,kCd a4,kCd a5,kCd a6,kCd a7,kCd a8,kCd p0,kCd p1,kCd p2⟩ (λhHeld=>?_);have hbd:=Below.drew (Below.refl w5.heap.size w5);replace HB2:=zJ HB2 hbd;replace HG:=zk (HG.out.q_ hbd);replace RY:=zk (RY.out.q_ hbd);replace RE1:=zk (RE1.out.q_ hbd);replace RE2:=zk (RE2.out.q_ hbd)
    clear hbd a1 a2 a3 a4 a5 a6 a7 a8 p0 p1 p2;generalize w5.drew=wd at *;refine skP 0 ?_;refine skP 1 ?_;refine skP 2 ?_;simp only[zA,Act.put];refine skP 3 ?_;refine tkP 4 ?_;refine skP 5 ?_;simp only[zA,Act.put];refine tkP 6 ?_;refine skP 7 ?_;refine tkP 8 ?_;simp only[zA,Act.put];refine rdP 9 (λK hK=>?_);go_simp
    go_at_call 34
    refine(zin (L:=KV L) RY.out RE1.out RE2.out (by unfold KV;omega) (by unfold KV;omega)).mono ?_;rintro e w6 ⟨s7,x7,n7,c7,f7,y7,m7,d7,g7,rfl,hb6,hq6⟩
    (try go_wp2_with fail)
    have HQ6:=zk (hq6.rn.cut HLO.out);replace HB2:=zJ HB2 hb6;replace HG:=zk (HG.out.q_ hb6)
    clear hb6 hq6 RY RE1 RE2 HLO hHeld;refine hK.out _ _ (λh=>by cases h) (λ_=>?_);clear hK K;try simp only[zA,Act.put]
    refine rdP 10 (λK hK=>?_);go_simp;refine hK.out _ _ (λh=>by cases h) (λ_=>?_);clear hK K;try simp only[zA,Act.put]
    refine rdP 11 (λK hK=>?_);have hln:((0,off) :: (shR rs ys).take i).length=i+1:=by rw[List.length_cons,List.length_take];omega
    obtain⟨col,T,hrow,hT⟩:=HG.out;rw[hln]at hrow
    have hsz:=HB2.out.size;refine zaY w6 rfl (.tmp 35) (.tmp 45) 83 rfl w2.heap.size 40 64 4 (agg #[.int .i64 0,.bool false,slice none 0 0,slice none 0 0]) underlying83 zkv rfl (by decide) nz4 u8 (i+1) _ rfl hrow #[.int .i64 (shI yq i1 i2),.bool s7,slice x7 n7 c7,slice y7 m7 d7] rfl rfl (zpj _ _ _ _ _ _ _ _) (zlt _ _ _ _ _ _ _ _) ?p1 (by decide) hsz ?_
    case p1=>omega
    intro g8 cap8 w8 hr8 hk8 hb8 hg8;have HB8:=zk (hb8 w2 HB2.out (le_refl _));have HG8:Hid (Ge (KS L) w2.heap.size w8 (slice (some ⟨g8,0,none⟩) (i+1+1) cap8) ((0,off) :: (shR rs ys).take (i+1))):=by
     have hp8:=zkx hT (by rw[hln];exact hr8) hk8 HQ6.out;rw[hln]at hp8
     rw[HTK.out];exact hp8
    clear hr8 hk8 hb8 hg8 hrow hT HG HB2 HQ6 HTK hsz hln;refine hK.out _ _ (λh=>by cases h) (λ_=>?_);clear hK K;try simp only[Act.put,List.setIfInBounds_toArray]
    refine zaB (i:=12) (v:=?_) rfl (by kernel_rfl) (by kernel_rfl) (by kernel_rfl) (by kernel_rfl) (λ_ _ _ h=>h) (Or.inl ⟨by rfl,?_⟩) (λh=>by cases h) ?_;rotate_left
    (focus (intro w0 hSw;go_simp <;> with_reducible rfl))
    simp only[List.getElem_toArray,List.getElem_cons_succ,List.getElem_cons_zero,Act.put,List.setIfInBounds_toArray,List.set_cons_zero,List.set_cons_succ];refine dnP ?_;go_wp2;go_roundw
    case rel=>exact⟨i+1,by omega,by go_num,HB8.out,HG8.out⟩
    case measure=>simp[intOf];omega
   ·have e1:i=rs.length:=by omega
    have i4':¬(((i:Nat):Int)<((rs.length:Nat):Int)):=by omega
    have HG9:Hid (Ge (KS L) w2.heap.size wr u8 ((0,off) :: (shR rs ys++(shC cs zs).take 0))):=by
     have h:=HG.out;rw[List.take_of_length_le (by omega)]at h
     rw[List.take_zero,List.append_nil];exact h
    have r3:=(BM.out.q_ HB2.out).cell (j:=3) rfl;clear HG e1;go_wp2_with fail
    clear r3;go_loopw[8,51] (λpv t wr=>∃(i:Nat),i<=cs.length/\t=.int .i64 i/\Hid (Bl w2 wr)/\Hid (Ge (KS L) w2.heap.size wr pv ((0,off) :: (shR rs ys++(shC cs zs).take i)))) (λ_ t _=>cs.length-(intOf t).toNat)
    case atStart=>exact⟨0,by omega,rfl,HB2.out,HG9.out⟩
    case round =>
     clear HG9 HB2;obtain⟨i,hi,rfl,HB2,HG⟩:=hrel;by_cases hlt:i<cs.length
     ·obtain⟨v,hv⟩:∃t,cs[i]?=some t:=⟨_,getElem?_eq_getElem (by omega)⟩;obtain⟨yq,hyq⟩:∃t,zs[i]?=some t:=⟨_,getElem?_eq_getElem (by have:=HZL.out;omega)⟩;have hbw:=bUp HB.out HB2.out;obtain⟨⟨b,o,hra,hc⟩,hRV⟩:=HC.out i v hv;have hbd:=HCB.out v (List.mem_of_getElem? hv);subst hra;obtain⟨⟨z,⟨s0,x0,n0,c0,f0,y0,m0,d0,g0⟩,⟨i1,⟨s1,x1,n1,c1,f1,y1,m1,d1,g1⟩⟩,⟨i2,⟨s2,x2,n2,c2,f2,y2,m2,d2,g2⟩⟩⟩,hCi⟩:∃t,C i=t:=⟨_,rfl⟩;rw[hCi]at hc hRV
      have e1:i1=v.li:=hRV.li;have e2:i2=v.hi:=hRV.hi
      have E1:En L w i1 s1 x1 n1 c1 f1 y1 m1 d1 g1 v.lq:=⟨hRV.lq,by rw[e1];exact hbd.1⟩;have E2:En L w i2 s2 x2 n2 c2 f2 y2 m2 d2 g2 v.hq:=⟨hRV.hq,by rw[e2];exact hbd.2⟩
      replace hc:=Cs.q_ hc hbw;obtain⟨q0,q1,q2,q3,q4,q5,q6,q7,q8,q9,q10,q11⟩:=hc.lc;obtain⟨b',o',⟨ss,sx,sn,sc,sf,sy,sm,sd,sg⟩,hax,⟨p0,p1,p2⟩,hr'⟩:=(HZ.out.q_ HB2.out) i yq hyq;subst hax;replace p0:wr.cell? ⟨b',o'+i*3,none⟩=some (.bool ss):=p0;replace p1:wr.cell? ⟨b',o'+i*3+1,none⟩=some (slice sx sn sc):=p1;replace p2:wr.cell? ⟨b',o'+i*3+2,none⟩=some (slice sy sm sd):=p2;replace hr':Rn (KV L) wr ss sx sn sc sf sy sm sd sg yq:=hr';have hbt:=zB wr (cells #[.string z,.bool s0,slice x0 n0 c0,slice y0 m0 d0,.int .i64 i1,.bool s1,slice x1 n1 c1,slice y1 m1 d1,.int .i64 i2,.bool s2,slice x2 n2 c2,slice y2 m2 d2] 60);obtain⟨-,-,-,-,a4,a5,a6,a7,a8,a9,a10,a11⟩:=zee (zF wr [.string z,.bool s0,slice x0 n0 c0,slice y0 m0 d0,.int .i64 i1,.bool s1,slice x1 n1 c1,slice y1 m1 d1,.int .i64 i2,.bool s2,slice x2 n2 c2,slice y2 m2 d2] 60);have i1':((i:Nat):Int)<((cs.length:Nat):Int):=by omega
      replace p0:=kCb hbt p0;replace p1:=kCb hbt p1;replace p2:=kCb hbt p2
      have RY:=zk ((hr'.q_ hbt).mono (show _<=KV L by unfold KV;omega));have RE1:=zk (((E1.q_ hbw).q_ hbt).mono (show L<=KV L by unfold KV;omega));have RE2:=zk (((E2.q_ hbw).q_ hbt).mono (show L<=KV L by unfold KV;omega))
      have HLO:=zk (zqd (RY.out.lo RY.out.ln RY.out.ld) (E1.rn.lo E1.rn.ln E1.rn.ld) (E2.rn.lo E2.rn.ln E2.rn.ld) (by omega));have HTK:=zk (zmx hv hyq);rw[<-e1,<-e2]at HTK
      clear hr' E1 E2 hCi hc hRV hbd e1 e2 hbw hv hyq;go_upto_region 13 with fail
      clear q0 q1 q2 q3 q4 q5 q6 q7 q8 q9 q10 q11;replace HB2:=zJ HB2 hbt;replace HG:=zk (HG.out.q_ hbt)
      clear hbt;generalize wr.heap.size=bx at *;generalize(wr.alloc (cells #[.string z,.bool s0,slice x0 n0 c0,slice y0 m0 d0,.int .i64 i1,.bool s1,slice x1 n1 c1,slice y1 m1 d1,.int .i64 i2,.bool s2,slice x2 n2 c2,slice y2 m2 d2] 60))=w5 at *;refine zag (S:=(λw'=>w'.cell? ⟨bx,4,none⟩=some (.int .i64 i1)/\w'.cell? ⟨bx,5,none⟩=some (.bool s1)/\w'.cell? ⟨bx,6,none⟩=some (slice x1 n1 c1)/\w'.cell? ⟨bx,7,none⟩=some (slice y1 m1 d1)/\w'.cell? ⟨bx,8,none⟩=some (.int .i64 i2)/\w'.cell? ⟨bx,9,none⟩=some (.bool s2)/\w'.cell? ⟨bx,10,none⟩=some (slice x2 n2 c2)/\w'.cell? ⟨bx,11,none⟩=some (slice y2 m2 d2)/\w'.cell? ⟨b',o'+i*3,none⟩=some (.bool ss)/\w'.cell? ⟨b',o'+i*3+1,none⟩=some (slice sx sn sc)/\w'.cell? ⟨b',o'+i*3+2,none⟩=some (slice sy sm sd))) 9 (by kernel_rfl) ⟨kCd a4,kCd a5,kCd a6,kCd a7,kCd a8,kCd a9,kCd a10,kCd a11,kCd p0,kCd p1,kCd p2⟩ (λhHeld=>?_);have hbd:=Below.drew (Below.refl w5.heap.size w5);replace HB2:=zJ HB2 hbd;replace HG:=zk (HG.out.q_ hbd);replace RY:=zk (RY.out.q_ hbd);replace RE1:=zk (RE1.out.q_ hbd);replace RE2:=zk (RE2.out.q_ hbd)
      clear hbd a4 a5 a6 a7 a8 a9 a10 a11 p0 p1 p2;generalize w5.drew=wd at *;refine skP 0 ?_;refine skP 1 ?_;refine skP 2 ?_;simp only[zA,Act.put];refine skP 3 ?_;refine tkP 4 ?_;refine skP 5 ?_;simp only[zA,Act.put];refine tkP 6 ?_;refine skP 7 ?_;refine tkP 8 ?_;simp only[zA,Act.put];refine rdP 9 (λK hK=>?_);go_simp
      go_at_call 34
      refine(zin (L:=KV L) RY.out RE1.out RE2.out (by unfold KV;omega) (by unfold KV;omega)).mono ?_;rintro e w6 ⟨s7,x7,n7,c7,f7,y7,m7,d7,g7,rfl,hb6,hq6⟩
      (try go_wp2_with fail)
      have HQ6:=zk (hq6.rn.cut HLO.out);replace HB2:=zJ HB2 hb6;replace HG:=zk (HG.out.q_ hb6)
      clear hb6 hq6 RY RE1 RE2 HLO hHeld;refine hK.out _ _ (λh=>by cases h) (λ_=>?_);clear hK K;try simp only[zA,Act.put]
      refine rdP 10 (λK hK=>?_);go_simp;refine hK.out _ _ (λh=>by cases h) (λ_=>?_);clear hK K;try simp only[zA,Act.put]
      refine rdP 11 (λK hK=>?_);have hln:((0,off) :: (shR rs ys++(shC cs zs).take i)).length=rs.length+i+1:=by rw[List.length_cons,List.length_append,List.length_take];omega
      obtain⟨col,T,hrow,hT⟩:=HG.out;rw[hln]at hrow
      have hsz:=HB2.out.size;refine zaY w6 rfl (.tmp 56) (.tmp 66) 83 rfl w2.heap.size 40 64 4 (agg #[.int .i64 0,.bool false,slice none 0 0,slice none 0 0]) underlying83 zkv rfl (by decide) nz4 u8 (rs.length+i+1) _ rfl hrow #[.int .i64 (shI yq i1 i2),.bool s7,slice x7 n7 c7,slice y7 m7 d7] rfl rfl (zpj _ _ _ _ _ _ _ _) (zlt _ _ _ _ _ _ _ _) ?p1 (by decide) hsz ?_
      case p1=>omega
      intro g8 cap8 w8 hr8 hk8 hb8 hg8;have HB8:=zk (hb8 w2 HB2.out (le_refl _));have HG8:Hid (Ge (KS L) w2.heap.size w8 (slice (some ⟨g8,0,none⟩) (rs.length+i+1+1) cap8) ((0,off) :: (shR rs ys++(shC cs zs).take (i+1)))):=by
       have hp8:=zkx hT (by rw[hln];exact hr8) hk8 HQ6.out;rw[hln]at hp8
       rw[HTK.out];rw[<-List.append_assoc];exact hp8
      clear hr8 hk8 hb8 hg8 hrow hT HG HB2 HQ6 HTK hsz hln;refine hK.out _ _ (λh=>by cases h) (λ_=>?_);clear hK K;try simp only[Act.put,List.setIfInBounds_toArray]
      refine zaB (i:=12) (v:=?_) rfl (by kernel_rfl) (by kernel_rfl) (by kernel_rfl) (by kernel_rfl) (λ_ _ _ h=>h) (Or.inl ⟨by rfl,?_⟩) (λh=>by cases h) ?_;rotate_left
      (focus (intro w0 hSw;go_simp <;> with_reducible rfl))
      simp only[List.getElem_toArray,List.getElem_cons_succ,List.getElem_cons_zero,Act.put,List.setIfInBounds_toArray,List.set_cons_zero,List.set_cons_succ];refine dnP ?_;go_wp2;go_roundw
      case rel=>exact⟨i+1,by omega,by go_num,HB8.out,HG8.out⟩
      case measure=>simp[intOf];omega
     ·have e1:i=cs.length:=by omega
      have i4':¬(((i:Nat):Int)<((cs.length:Nat):Int)):=by omega
      have HG9:=HG.out;rw[List.take_of_length_le (by omega),<-HP.out]at HG9
      have hln:(bnP off cs rs ys).length=1+rs.length+cs.length:=by rw[HP.out,List.length_cons,List.length_append];omega
      obtain⟨va,vc,hvs⟩:=HG9.slice;rw[hvs]at HG9
      have HT:=zk HG9.tf;rw[hln]at hvs
      subst hvs;have HLN:=zk hln;clear HG HG9 e1 hln;go_wp2_with fail
      have hkl:4+(1+rs.length+cs.length)*(KS L+1)<=KBo L:=by unfold KBo;have h9:(1+rs.length+cs.length)*(KS L+1)<=129*(KS L+1):=Nat.mul_le_mul_right _ (by omega);omega
      refine(zrE HT.out HLN.out (le_trans hkl (by unfold KBo;omega)) (by omega) (by omega)).mono ?_;rintro e w6 ⟨s4,x4,n4,c4,f4,y4,m4,d4,g4,rfl,hb6,hq6⟩;have HQ6:=zk (hq6.mono hkl);replace HB2:=zJ HB2 hb6;replace OB:=zk (OB.out.q_ HB2.out);obtain⟨hz,z0,z1,z2,z3,zf⟩:=OB.out;clear hb6 hq6 HT;go_wp2;exact bodyPost_ret (v:=.tuple #[agg #[.int .i64 (smI (bnP off cs rs ys)),.bool s4,slice x4 n4 c4,slice y4 m4 d4],.int .i64 0]) (by simp[results,results11,go_sem,z0,z1,z2,z3]) rfl ⟨zZ (bUp HB.out HB2.out) (by omega),.inr ⟨rfl,s4,x4,n4,c4,f4,y4,m4,d4,g4,rfl,OB.out.rn HQ6.out.rn,HQ6.out.inf⟩⟩
theorem zkA {f g}:∀{r i:Nat},eqs f g r i=true ↔ ∀j,i<=j->j<i+r->f j=g j
 | 0,i=>⟨λ_ j a b=>by omega,λ_=>rfl⟩
 | r+1,i=>by
  simp only[eqs,Bool.and_eq_true,decide_eq_true_eq,zkA (r:=r)];constructor
  ·rintro⟨h1,h2⟩ j a b;by_cases e:j=i
   ·subst e;exact h1
   ·exact h2 j (by omega) (by omega)
  ·intro h;exact⟨h i (by omega) (by omega),λj a b=>h j (by omega) (by omega)⟩
theorem zpM {n m f g}:eqlB n m f g=true ↔ Alk n m f g:=by
 unfold eqlB Alk;simp only[Bool.and_eq_true,decide_eq_true_eq,zkA];exact⟨λ⟨a,b⟩=>⟨a,λj hj=>b j (by omega) (by omega)⟩,λ⟨a,b⟩=>⟨a,λj _ hj=>b j (by omega)⟩⟩
theorem sq_iff {a b}:sqB a b=true ↔ a.s=b.s/\Alk a.n b.n a.f b.f/\Alk a.m b.m a.g b.g:=by
 unfold sqB;simp only[Bool.and_eq_true,decide_eq_true_eq,zpM]
theorem zpb {w a b} (ha:NmS w a) (hb:NmS w b):Calls prog 16 #[a.val,b.val] w λr w'=>r=.returned (.bool (sqB a b))/\Bl w w' :=
 (zeF a.s a.x a.y a.n a.c a.m a.d a.f a.g b.s b.x b.y b.n b.c b.m b.d b.f b.g w ha.1.rx ha.1.ry hb.1.rx hb.1.ry (le_trans ha.2.1 (by decide)) (le_trans ha.2.2 (by decide)) (le_trans hb.2.1 (by decide)) (le_trans hb.2.2 (by decide))).mono
  λe w' ⟨q,h1,h2,h3⟩=>⟨by rw[h1,Bool.eq_iff_iff.2 (h3.trans sq_iff.symm)],h2⟩
theorem zdr {w a b} (ha:NmS w a) (hb:NmS w b):Calls prog 38 #[a.val,b.val] w λr w'=>r=.returned (.bool (sqB a b))/\Bl w w':=by
 have C1:=zk (λw' (hw:Bl w w')=>zid (w:=w') (c:=a.c) (d:=b.c) (ha.1.rx.q_ hw (le_refl _)) (hb.1.rx.q_ hw (le_refl _)) (by have:=ha.2.1;omega) (by have:=hb.2.1;omega));have C2:=zk (λw' (hw:Bl w w')=>zid (w:=w') (c:=a.d) (d:=b.d) (ha.1.ry.q_ hw (le_refl _)) (hb.1.ry.q_ hw (le_refl _)) (by have:=ha.2.2;omega) (by have:=hb.2.2;omega));obtain⟨t1,ht1⟩:∃t,eqlB a.n b.n a.f b.f=t:=⟨_,rfl⟩;obtain⟨t2,ht2⟩:∃t,eqlB a.m b.m a.g b.g=t:=⟨_,rfl⟩;obtain⟨ans,hans⟩:∃t,sqB a b=t:=⟨_,rfl⟩;have hA:ans=(decide (a.s=b.s) && (t1 && t2)):=by rw[<-hans,<-ht1,<-ht2];rfl
 rw[ht1]at C1
 rw[ht2]at C2
 rw[hans];clear hans ht1 ht2 ha hb;obtain⟨s,x,n,c,f,y,m,d,g⟩:=a;obtain⟨s2,x2,n2,c2,f2,y2,m2,d2,g2⟩:=b;have HA:Hid (ans=(decide (s=s2) && (t1 && t2))):=hA;replace C1:Hid (∀w' (hw:Bl w w'),Calls prog 70 #[slice x n c,slice x2 n2 c2] w' λe w2=>e=.returned (.bool t1)/\Bl w' w2):=C1;replace C2:Hid (∀w' (hw:Bl w w'),Calls prog 70 #[slice y m d,slice y2 m2 d2] w' λe w2=>e=.returned (.bool t2)/\Bl w' w2):=C2;clear hA;show Calls prog 38 #[agg #[.bool s,slice x n c,slice y m d],agg #[.bool s2,slice x2 n2 c2,slice y2 m2 d2]] w _;have HB0:=zk (zu (zB w (cells #[.bool s,slice x n c,slice y m d] 24)) (cells #[.bool s2,slice x2 n2 c2,slice y2 m2 d2] 24));by_cases hs:s=s2
 case neg =>
  have HS:=zk (show decide (s=s2)=false from by simp[hs]);have e1:(s==s2)=false:=by simpa using hs
  go_enter func38,ntmps38;go_wp2;go_ret;refine⟨?_,HB0.out⟩;rw[HA.out,HS.out];rfl
 subst hs;have HS:=zk (show decide (s=s)=true from by simp);have e1:(s==s)=true:=by simp
 go_enter func38,ntmps38;go_wp2_with fail
 refine(C1.out _ HB0.out).mono ?_;rintro r w1 ⟨rfl,hb1⟩;have k1:=kCb hb1 (a:=⟨w.heap.size,2,none⟩) (v:=slice y m d) (by simp[go_sem]);have k2:=kCb hb1 (a:=⟨w.heap.size+1,2,none⟩) (v:=slice y2 m2 d2) (by simp[go_sem]);have HB1:=zJ HB0 hb1;clear hb1 HB0 C1;cases t1
 ·go_wp2;go_ret;refine⟨?_,HB1.out⟩;rw[HA.out,HS.out];rfl
 ·go_wp2_with fail
  refine(C2.out _ HB1.out).mono ?_;rintro r w2 ⟨rfl,hb2⟩;have HB2:=zJ HB1 hb2;clear hb2 HB1 C2;go_wp2;go_ret;refine⟨?_,HB2.out⟩;rw[HA.out,HS.out];cases t2 <;> rfl
theorem zju {w ao bo k l cap cap' X Y} (hx:∀j,j<k->∃b o,ao=some ⟨b,o,none⟩/\Cs w b (o+j*3) (rcell (X j))/\NmS w (X j)) (hy:∀j,j<l->∃b o,bo=some ⟨b,o,none⟩/\Cs w b (o+j*3) (rcell (Y j))/\NmS w (Y j)) (hk:k<=1048576) (hl:l<=1048576) :
  Calls prog 37 #[slice ao k cap,slice bo l cap',.func (.func 38) #[] #[]] w λe w'=>e=.returned (.bool (eqfB sqB k l X Y))/\Bl w w':=by
 have HX:=zk hx;have HY:=zk hy
 clear hx hy;by_cases hkl:k=l
 case neg =>
  have HE:=zk (show eqfB sqB k l X Y=false from by simp[eqfB,hkl]);have e1:((k:Int) != (l:Int))=true:=by simp;omega
  clear hkl;go_enter func37,ntmps37;go_wp2;go_ret;refine⟨?_,Below.refl _ _⟩;rw[HE.out];rfl
 subst hkl;have HE:=zk (show eqfB sqB k k X Y=eqf sqB X Y k 0 from by simp[eqfB]);have e1:((k:Int) != (k:Int))=false:=by simp
 go_enter func37,ntmps37;go_wp2_with fail
 go_loopw[17] (λt wr=>∃(i:Nat),i<=k/\t=.int .i64 i/\Hid (Bl w wr)/\Hid (eqfB sqB k k X Y=eqf sqB X Y (k-i) i)) (λt _=>k-(intOf t).toNat)
 case atStart=>exact⟨0,by omega,rfl,Below.refl _ _,HE.out⟩
 case round =>
  obtain⟨i,hi,rfl,HB,HI⟩:=hrel;by_cases hlt:i<k
  ·obtain⟨b,o,rfl,hc,hn⟩:=HX.out i hlt;obtain⟨b2,o2,rfl,hc2,hn2⟩:=HY.out i hlt;replace hc:=hc.q_ HB.out;replace hc2:=hc2.q_ HB.out;replace hn:=hn.q_ HB.out;replace hn2:=hn2.q_ HB.out
   obtain⟨r,hr⟩:∃r,k-i=r+1:=⟨k-i-1,by omega⟩;obtain⟨t1,ht1⟩:∃t,sqB (X i) (Y i)=t:=⟨_,rfl⟩;have hT:eqfB sqB k k X Y=(t1 && eqf sqB X Y r (i+1)):=by rw[HI.out,hr,<-ht1];rfl
   have hr2:k-(i+1)=r:=by omega
   have CE:=zk (λw' (hw:Bl wr w')=>zdr (w:=w') (hn.q_ hw) (hn2.q_ hw));rw[ht1]at CE
   obtain⟨⟨s0,x0,n0,c0,f0,y0,m0,d0,g0⟩,hCi⟩:∃t,X i=t:=⟨_,rfl⟩;obtain⟨⟨vs0,vx0,vn0,vc0,vf0,vy0,vm0,vd0,vg0⟩,hCi2⟩:∃t,Y i=t:=⟨_,rfl⟩;rw[hCi]at hc CE
   rw[hCi2]at hc2 CE
   replace CE:Hid (∀w' (hw:Bl wr w'),Calls prog 38 #[agg #[.bool s0,slice x0 n0 c0,slice y0 m0 d0],agg #[.bool vs0,slice vx0 vn0 vc0,slice vy0 vm0 vd0]] w' λe w2=>e=.returned (.bool t1)/\Bl w' w2):=CE;have hb1:=zB wr (cells #[.bool s0,slice x0 n0 c0,slice y0 m0 d0] 24);have q1:wr.cell? ⟨b,o+i*3,none⟩=some (.bool s0):=hc 0 _ rfl;have q2:wr.cell? ⟨b,o+i*3+1,none⟩=some (slice x0 n0 c0):=hc 1 _ rfl;have q3:wr.cell? ⟨b,o+i*3+2,none⟩=some (slice y0 m0 d0):=hc 2 _ rfl;have g1':(wr.alloc (cells #[.bool s0,slice x0 n0 c0,slice y0 m0 d0] 24)).cell? ⟨b2,o2+i*3,none⟩=some (.bool vs0):=kCb hb1 (hc2 0 _ rfl);have g2':(wr.alloc (cells #[.bool s0,slice x0 n0 c0,slice y0 m0 d0] 24)).cell? ⟨b2,o2+i*3+1,none⟩=some (slice vx0 vn0 vc0):=kCb hb1 (hc2 1 _ rfl);have g3':(wr.alloc (cells #[.bool s0,slice x0 n0 c0,slice y0 m0 d0] 24)).cell? ⟨b2,o2+i*3+2,none⟩=some (slice vy0 vm0 vd0):=kCb hb1 (hc2 2 _ rfl);have p1:((wr.alloc (cells #[.bool s0,slice x0 n0 c0,slice y0 m0 d0] 24)).alloc (cells #[.bool vs0,slice vx0 vn0 vc0,slice vy0 vm0 vd0] 24)).cell? ⟨wr.heap.size,0,none⟩=some (.bool s0):=by simp[go_sem]
   have p2:((wr.alloc (cells #[.bool s0,slice x0 n0 c0,slice y0 m0 d0] 24)).alloc (cells #[.bool vs0,slice vx0 vn0 vc0,slice vy0 vm0 vd0] 24)).cell? ⟨wr.heap.size,1,none⟩=some (slice x0 n0 c0):=by simp[go_sem]
   have p3:((wr.alloc (cells #[.bool s0,slice x0 n0 c0,slice y0 m0 d0] 24)).alloc (cells #[.bool vs0,slice vx0 vn0 vc0,slice vy0 vm0 vd0] 24)).cell? ⟨wr.heap.size,2,none⟩=some (slice y0 m0 d0):=by simp[go_sem]
   have r1:((wr.alloc (cells #[.bool s0,slice x0 n0 c0,slice y0 m0 d0] 24)).alloc (cells #[.bool vs0,slice vx0 vn0 vc0,slice vy0 vm0 vd0] 24)).cell? ⟨wr.heap.size+1,0,none⟩=some (.bool vs0):=by simp[go_sem]
   have r2:((wr.alloc (cells #[.bool s0,slice x0 n0 c0,slice y0 m0 d0] 24)).alloc (cells #[.bool vs0,slice vx0 vn0 vc0,slice vy0 vm0 vd0] 24)).cell? ⟨wr.heap.size+1,1,none⟩=some (slice vx0 vn0 vc0):=by simp[go_sem]
   have r3:((wr.alloc (cells #[.bool s0,slice x0 n0 c0,slice y0 m0 d0] 24)).alloc (cells #[.bool vs0,slice vx0 vn0 vc0,slice vy0 vm0 vd0] 24)).cell? ⟨wr.heap.size+1,2,none⟩=some (slice vy0 vm0 vd0):=by simp[go_sem]
   have HB6:=zk (zu hb1 (cells #[.bool vs0,slice vx0 vn0 vc0,slice vy0 vm0 vd0] 24));have HT:=zk hT;have HR:=zk hr2
   have i1':((i:Nat):Int)<((k:Nat):Int):=by omega
   clear hT hr2 hr hCi hCi2 ht1 hc hc2 hn hn2 hb1;go_upto_region 7 with fail
   clear q1 g1' q2 g2' q3 g3';generalize((wr.alloc (cells #[.bool s0,slice x0 n0 c0,slice y0 m0 d0] 24)).alloc (cells #[.bool vs0,slice vx0 vn0 vc0,slice vy0 vm0 vd0] 24))=w6 at *;go_wp2_with fail
   refine(CE.out _ HB6.out).mono ?_;rintro e w7 ⟨rfl,hb7⟩;have HB7:=zk (HB.out.trans ((bUp HB6.out hb7).mono HB.out.size));clear hb7 HB6 CE p1 r1 p2 r2 p3 r3;cases t1
   ·go_wp2;go_ret;refine⟨?_,HB7.out⟩;rw[HT.out];rfl
   ·go_wp2;go_roundw
    case rel =>
     refine⟨i+1,by omega,by go_num,HB7.out,?_⟩;show _=_;rw[HT.out,HR.out];rfl
    case measure=>simp[intOf];omega
  ·have e1:i=k:=by omega
   have HE:Hid (eqfB sqB k k X Y=true):=by show _=_;rw[HI.out,e1,Nat.sub_self];rfl
   have i2:¬(((i:Nat):Int)<((k:Nat):Int)):=by omega
   clear e1 HI;go_wp2;go_ret;refine⟨?_,HB.out⟩;rw[HE.out];rfl
def rsB (y:Rat) (i1:Int) (q1:Rat) (i2:Int) (q2 at_:Rat):Bool:=if y=0 then true else if y<0 then decide (i2=0) && decide (q2=at_) else decide (i1=0) && decide (q1=at_)
theorem zjR {L w w' s x n c f y m d g s1 x1 n1 c1 f1 y1 m1 d1 g1 q q1} (h:Rn L w s x n c f y m d g q) (h1:Rn L w' s1 x1 n1 c1 f1 y1 m1 d1 g1 q1):sqB ⟨s,x,n,c,f,y,m,d,g⟩ ⟨s1,x1,n1,c1,f1,y1,m1,d1,g1⟩=decide (q=q1):=by
 have h2:=Rn.inj h h1;rw[Bool.eq_iff_iff,sq_iff,decide_eq_true_eq];exact h2
theorem zio {w L s x n c f y m d g i1 s1 x1 n1 c1 f1 y1 m1 d1 g1 i2 s2 x2 n2 c2 f2 y2 m2 d2 g2 s3 x3 n3 c3 f3 y3 m3 d3 g3 q q1 q2 q3} (h:Rn L w s x n c f y m d g q) (h1:Rn L w s1 x1 n1 c1 f1 y1 m1 d1 g1 q1) (h2:Rn L w s2 x2 n2 c2 f2 y2 m2 d2 g2 q2) (h3:Rn L w s3 x3 n3 c3 f3 y3 m3 d3 g3 q3) (hL:L<=65536) :
  Calls prog 72 #[agg #[.bool s,slice x n c,slice y m d],agg #[.int .i64 i1,.bool s1,slice x1 n1 c1,slice y1 m1 d1],agg #[.int .i64 i2,.bool s2,slice x2 n2 c2,slice y2 m2 d2],agg #[.bool s3,slice x3 n3 c3,slice y3 m3 d3]] w λe w'=>e=.returned (.bool (rsB q i1 q1 i2 q2 q3))/\Bl w w':=by
 have hb:=zu (zu (zu (zB w (cells #[.bool s,slice x n c,slice y m d] 24)) (cells #[.int .i64 i1,.bool s1,slice x1 n1 c1,slice y1 m1 d1] 40)) (cells #[.int .i64 i2,.bool s2,slice x2 n2 c2,slice y2 m2 d2] 40)) (cells #[.bool s3,slice x3 n3 c3,slice y3 m3 d3] 24);have BY:Bk ((((w.alloc (cells #[.bool s,slice x n c,slice y m d] 24)).alloc (cells #[.int .i64 i1,.bool s1,slice x1 n1 c1,slice y1 m1 d1] 40)).alloc (cells #[.int .i64 i2,.bool s2,slice x2 n2 c2,slice y2 m2 d2] 40)).alloc (cells #[.bool s3,slice x3 n3 c3,slice y3 m3 d3] 24)) w.heap.size [.bool s,slice x n c,slice y m d] 24:=(((zF w [.bool s,slice x n c,slice y m d] 24).q_ (zu (Below.refl _ _) _)).q_ (zu (Below.refl _ _) _)).q_ (zu (Below.refl _ _) _);have BL:Bk ((((w.alloc (cells #[.bool s,slice x n c,slice y m d] 24)).alloc (cells #[.int .i64 i1,.bool s1,slice x1 n1 c1,slice y1 m1 d1] 40)).alloc (cells #[.int .i64 i2,.bool s2,slice x2 n2 c2,slice y2 m2 d2] 40)).alloc (cells #[.bool s3,slice x3 n3 c3,slice y3 m3 d3] 24)) (w.heap.size+1) [.int .i64 i1,.bool s1,slice x1 n1 c1,slice y1 m1 d1] 40:=by
  have:=((zF (w.alloc (cells #[.bool s,slice x n c,slice y m d] 24)) [.int .i64 i1,.bool s1,slice x1 n1 c1,slice y1 m1 d1] 40).q_ (zu (Below.refl _ _) (cells #[.int .i64 i2,.bool s2,slice x2 n2 c2,slice y2 m2 d2] 40))).q_ (zu (Below.refl _ _) (cells #[.bool s3,slice x3 n3 c3,slice y3 m3 d3] 24));rw[zw]at this;exact this
 have BH:Bk ((((w.alloc (cells #[.bool s,slice x n c,slice y m d] 24)).alloc (cells #[.int .i64 i1,.bool s1,slice x1 n1 c1,slice y1 m1 d1] 40)).alloc (cells #[.int .i64 i2,.bool s2,slice x2 n2 c2,slice y2 m2 d2] 40)).alloc (cells #[.bool s3,slice x3 n3 c3,slice y3 m3 d3] 24)) (w.heap.size+2) [.int .i64 i2,.bool s2,slice x2 n2 c2,slice y2 m2 d2] 40:=by
  have:=(zF ((w.alloc (cells #[.bool s,slice x n c,slice y m d] 24)).alloc (cells #[.int .i64 i1,.bool s1,slice x1 n1 c1,slice y1 m1 d1] 40)) [.int .i64 i2,.bool s2,slice x2 n2 c2,slice y2 m2 d2] 40).q_ (zu (Below.refl _ _) (cells #[.bool s3,slice x3 n3 c3,slice y3 m3 d3] 24));rw[zw,zw]at this;exact this
 have BA:Bk ((((w.alloc (cells #[.bool s,slice x n c,slice y m d] 24)).alloc (cells #[.int .i64 i1,.bool s1,slice x1 n1 c1,slice y1 m1 d1] 40)).alloc (cells #[.int .i64 i2,.bool s2,slice x2 n2 c2,slice y2 m2 d2] 40)).alloc (cells #[.bool s3,slice x3 n3 c3,slice y3 m3 d3] 24)) (w.heap.size+1+1+1) [.bool s3,slice x3 n3 c3,slice y3 m3 d3] 24:=by
  have:=zF (((w.alloc (cells #[.bool s,slice x n c,slice y m d] 24)).alloc (cells #[.int .i64 i1,.bool s1,slice x1 n1 c1,slice y1 m1 d1] 40)).alloc (cells #[.int .i64 i2,.bool s2,slice x2 n2 c2,slice y2 m2 d2] 40)) [.bool s3,slice x3 n3 c3,slice y3 m3 d3] 24;rw[zw,zw,zw]at this;exact this
 have HY:=zk (h.q_ hb);have H1:=zk (h1.q_ hb);have H2:=zk (h2.q_ hb);have H3:=zk (h3.q_ hb)
 have HQ0:=zk h.q_zero;have HSN:=zk h.sg
 clear h h1 h2 h3;go_enter func72,ntmps72;go_upto_region 1 with fail
 generalize((((w.alloc (cells #[.bool s,slice x n c,slice y m d] 24)).alloc (cells #[.int .i64 i1,.bool s1,slice x1 n1 c1,slice y1 m1 d1] 40)).alloc (cells #[.int .i64 i2,.bool s2,slice x2 n2 c2,slice y2 m2 d2] 40)).alloc (cells #[.bool s3,slice x3 n3 c3,slice y3 m3 d3] 24))=w1 at *;obtain⟨r0,r1,r2⟩:=bk3 BY;obtain⟨l0,l1,l2,l3⟩:=bk4 BL;obtain⟨k0,k1,k2,k3⟩:=bk4 BH;have HB:=zk hb;clear hb;go_wp2_with fail
 clear r0 r1 r2 l0 l1 l2 l3 k0 k1 k2 k3;refine dSide_c.mono ?_;rintro e w2 ⟨hb2,⟨hn,rfl⟩|⟨hn,hs,rfl⟩|⟨hn,hs,rfl⟩⟩
 ·have HSG:Hid (rsB q i1 q1 i2 q2 q3=true):=by show _=_;rw[rsB,if_pos (HQ0.out.2 hn)]
  clear hn;have hal:=zB w2 (cells #[.int .i64 0,.bool false,slice none 0 0,slice none 0 0] 40);have hb3:=bUp hb2 hal;replace HB:=zJ HB hb3;clear hb2 hal hb3;go_wp2;go_ret;exact⟨by rw[HSG.out];rfl,HB.out⟩
 ·have HSG:Hid (rsB q i1 q1 i2 q2 q3=(decide (i2=0) && decide (q2=q3))):=by
   have h0:q≠0:=λe=>hn (HQ0.out.1 e)
   have h1:q<0:=by have h9:=HSN.out;rw[hs]at h9;exact of_decide_eq_true h9.symm
   show _=_;rw[rsB,if_neg h0,if_pos h1]
  clear hn hs;have hal:=zB w2 (cells #[.int .i64 i2,.bool s2,slice x2 n2 c2,slice y2 m2 d2] 40);have hb3:=bUp hb2 hal;have BA3:=BA.q_ hb3;obtain⟨t0,t1,t2⟩:=bk3 BA3;replace HB:=zJ HB hb3;have R:=zk (H3.out.q_ hb3);have E:=zk (H2.out.q_ hb3)
  clear hb2 hal hb3 BA3;by_cases hi:i2=0
  ·have HD:Hid (decide (i2=0)=true):=decide_eq_true hi;subst hi;have CS:=zk (zjR E.out R.out);go_wp2_with fail
   refine(zdr (a:=⟨s2,x2,n2,c2,f2,y2,m2,d2,g2⟩) (b:=⟨s3,x3,n3,c3,f3,y3,m3,d3,g3⟩) (NmV.nms (t:=⟨s2,x2,n2,c2,f2,y2,m2,d2,g2⟩) (q:=q2) E.out hL).1 (NmV.nms (t:=⟨s3,x3,n3,c3,f3,y3,m3,d3,g3⟩) (q:=q3) R.out hL).1).mono ?_;rintro e w4 ⟨rfl,hb4⟩;rw[CS.out];have HB4:=zJ HB hb4;clear hb4 t0 t1 t2;go_wp2;go_ret;exact⟨by rw[HSG.out,HD.out];rfl,HB4.out⟩
  ·have HD:Hid (decide (i2=0)=false):=decide_eq_false hi;have hi2:((i2:Int)==0)=false:=by simp[hi]
   go_wp2;go_ret;exact⟨by rw[HSG.out,HD.out];rfl,HB.out⟩
 ·have HSG:Hid (rsB q i1 q1 i2 q2 q3=(decide (i1=0) && decide (q1=q3))):=by
   have h0:q≠0:=λe=>hn (HQ0.out.1 e)
   have h1:¬q<0:=by have h9:=HSN.out;rw[hs]at h9;exact of_decide_eq_false h9.symm
   show _=_;rw[rsB,if_neg h0,if_neg h1]
  clear hn hs;have hal:=zB w2 (cells #[.int .i64 i1,.bool s1,slice x1 n1 c1,slice y1 m1 d1] 40);have hb3:=bUp hb2 hal;have BA3:=BA.q_ hb3;obtain⟨t0,t1,t2⟩:=bk3 BA3;replace HB:=zJ HB hb3;have R:=zk (H3.out.q_ hb3);have E:=zk (H1.out.q_ hb3)
  clear hb2 hal hb3 BA3;by_cases hi:i1=0
  ·have HD:Hid (decide (i1=0)=true):=decide_eq_true hi;subst hi;have CS:=zk (zjR E.out R.out);go_wp2_with fail
   refine(zdr (a:=⟨s1,x1,n1,c1,f1,y1,m1,d1,g1⟩) (b:=⟨s3,x3,n3,c3,f3,y3,m3,d3,g3⟩) (NmV.nms (t:=⟨s1,x1,n1,c1,f1,y1,m1,d1,g1⟩) (q:=q1) E.out hL).1 (NmV.nms (t:=⟨s3,x3,n3,c3,f3,y3,m3,d3,g3⟩) (q:=q3) R.out hL).1).mono ?_;rintro e w4 ⟨rfl,hb4⟩;rw[CS.out];have HB4:=zJ HB hb4;clear hb4 t0 t1 t2;go_wp2;go_ret;exact⟨by rw[HSG.out,HD.out];rfl,HB4.out⟩
  ·have HD:Hid (decide (i1=0)=false):=decide_eq_false hi;have hi2:((i1:Int)==0)=false:=by simp[hi]
   go_wp2;go_ret;exact⟨by rw[HSG.out,HD.out];rfl,HB.out⟩
structure QcV (K:Nat) (w:World) (c:Lc) (v:CV):Prop where
 nm:c.nm=v.nm
 cost:QnT K w c.cost v.cost
 li:c.lo.i=v.li
 lq:QnT K w c.lo.v v.lq
 hi:c.hi.i=v.hi
 hq:QnT K w c.hi.v v.hq
structure QrV (K:Nat) (w:World) (r:Lr) (v:RV):Prop where
 nm:r.nm=v.nm
 li:r.lo.i=v.li
 lq:QnT K w r.lo.v v.lq
 hi:r.hi.i=v.hi
 hq:QnT K w r.hi.v v.hq
 tk:r.tk=v.ts.length
 tl:Tq K w r.ta v.ts
theorem QcV.q_ {K w w' c v} (h:QcV K w c v) (hb:Bl w w'):QcV K w' c v:=⟨h.nm,h.cost.q_ hb,h.li,h.lq.q_ hb,h.hi,h.hq.q_ hb⟩
theorem QcV.kp {K w w' c v} (h:QcV K w c v) (hb:Kp w w'):QcV K w' c v:=⟨h.nm,h.cost.kp hb,h.li,h.lq.kp hb,h.hi,h.hq.kp hb⟩
theorem QrV.q_ {K w w' c v} (h:QrV K w c v) (hb:Bl w w'):QrV K w' c v:=⟨h.nm,h.li,h.lq.q_ hb,h.hi,h.hq.q_ hb,h.tk,h.tl.q_ hb⟩
theorem Tq.of {K w w' ao l} (h:Tq K w ao l) (hb:l≠[]->∀b o s,ao=some ⟨b,o,s⟩->b<w.heap.size->w'.heap[b]?=w.heap[b]?) (hk:Kp w w'):Tq K w' ao l:=λj a q hj=>by
 obtain⟨b,o,t,e,⟨c0,c1,c2,c3⟩,h2⟩:=h j a q hj;have:=hb (λe=>by rw[e]at hj;simp at hj) b o none e (block_lt_of_cell? w _ c0);exact⟨b,o,t,e,⟨(cell?_of_block (a:=⟨b,o+j*4,none⟩) this).trans c0,(cell?_of_block (a:=⟨b,o+j*4+1,none⟩) this).trans c1,(cell?_of_block (a:=⟨b,o+j*4+2,none⟩) this).trans c2,(cell?_of_block (a:=⟨b,o+j*4+3,none⟩) this).trans c3⟩,h2.kp hk⟩
theorem Tq.lt {K w ao l} (h:Tq K w ao l) (hl:l≠[]):∀b o s,ao=some ⟨b,o,s⟩->b<w.heap.size:=λb o s e=>by
 match l,hl with
 | (a,q) :: r,_ =>
  obtain⟨b',o',t,e',h4,_⟩:=h 0 a q rfl;rw[e]at e';cases e'
  exact block_lt_of_cell? w _ h4.x0
theorem QrV.of {K w w' r v} (h:QrV K w r v) (hb:v.ts≠[]->∀b o s,r.ta=some ⟨b,o,s⟩->b<w.heap.size->w'.heap[b]?=w.heap[b]?) (hk:Kp w w'):QrV K w' r v:=⟨h.nm,h.li,h.lq.kp hk,h.hi,h.hq.kp hk,h.tk,h.tl.of hb hk⟩
structure MqV (K:Nat) (w:World) (M:Mo) (q:Rat) (cs:List CV) (rs:List RV):Prop where
 off:QnT K w M.off q
 ck:M.ck=cs.length
 rk:M.rk=rs.length
 cls:∀j v,cs[j]?=some v->(∃b o,M.ca=some ⟨b,o,none⟩/\Cs w b (o+j*12) (M.C j).vs)/\QcV K w (M.C j) v
 rls:∀j v,rs[j]?=some v->(∃b o,M.ra=some ⟨b,o,none⟩/\Cs w b (o+j*10) (M.R j).vs)/\QrV K w (M.R j) v
theorem MqV.q_ {K w w' M q cs rs} (h:MqV K w M q cs rs) (hb:Bl w w'):MqV K w' M q cs rs :=
 ⟨h.off.q_ hb,h.ck,h.rk,λj v e=>by obtain⟨⟨b,o,h1,h2⟩,h3⟩:=h.cls j v e;exact⟨⟨b,o,h1,h2.q_ hb⟩,h3.q_ hb⟩,λj v e=>by obtain⟨⟨b,o,h1,h2⟩,h3⟩:=h.rls j v e;exact⟨⟨b,o,h1,h2.q_ hb⟩,h3.q_ hb⟩⟩
theorem zrz:(prog.info? 131).map (λi=>(i.zero,i.size,i.bytes))=some (some zC,12,200):=by kernel_rfl
theorem zry:(prog.info? 134).map (λi=>(i.zero,i.size,i.bytes))=some (some zR,10,168):=by kernel_rfl
theorem zqn {li lq hi hq} (h:bdB li lq hi hq=true):(li=0∨(li=-1∨li=1)/\lq=0)/\(hi=0∨(hi=-1∨hi=1)/\hq=0):=by
 simp only[bdB,Bool.and_eq_true,Bool.or_eq_true,decide_eq_true_eq]at h;exact⟨by rcases h.1 with h|h;exact .inl h;exact .inr ⟨.inl h.1,h.2⟩,by rcases h.2 with h|h;exact .inl h;exact .inr ⟨.inr h.1,h.2⟩⟩
def zop (K:Nat) (w w':World) (e:Ending) (k:Nat) (v:List (Int × Rat)):Prop:=∃aw cw,e=.returned (slice aw k cw)/\Bl w w'/\(k<=cw/\cw<=9223372036854775807)/\(∀b o s,aw=some ⟨b,o,s⟩->w.heap.size<=b)/\Hid (Tq K w' aw v)
theorem znE {w L ao k cap col T v} (h:Tl w ao k col T) (hk:k<=10000) (hL:L<=16000) (hlv:v.length=k) (hq:∀j,j<k->∃q,v[j]?=some (col j,q)/\Rn L w (T j).s (T j).x (T j).n (T j).c (T j).f (T j).y (T j).m (T j).d (T j).g q) :
  Calls prog 80 #[slice ao k cap] w λe w'=>zop (2*L) w w' e k v:=by
 have H:=zk h;clear h;go_enter func80,ntmps80;go_wp2_with fail
 go_loopw[3,8] (λov t wr=>∃(i:Nat) (T':Nat->Nm),i<=k/\t=.int .i64 i/\Hid (Bl w wr)/\Hid (RowG 136 4 w.heap.size wr ov i (zaL (tls i col T')))/\Hid (∀j,j<i->∃q,v[j]?=some (col j,q)/\QnT (2*L) wr (T' j) q)) (λ_ t _=>k-(intOf t).toNat)
 case atStart=>exact⟨0,T,by omega,rfl,Below.refl _ _,zak _ _ _ _,λj hj=>by omega⟩
 case round =>
  obtain⟨i,T',hi,rfl,HB,HRow,HT⟩:=hrel;by_cases hlt:i<k
  ·obtain⟨b,o,hao,hc,hn,hn1,hn2⟩:=(H.out.q_ HB.out) i hlt;obtain⟨⟨s,x,n,c,f,y,m,d,g⟩,hTi⟩:∃t,T i=t:=⟨_,rfl⟩;subst hao;rw[hTi]at hc hn hn1 hn2
   obtain⟨z,hz⟩:∃z,col i=z:=⟨_,rfl⟩;rw[hz]at hc
   obtain⟨x0,x1,x2,x3⟩:=hc;replace x0:wr.cell? ⟨b,o+i*4,none⟩=some (.int .i64 z):=x0;replace x1:wr.cell? ⟨b,o+i*4+1,none⟩=some (.bool s):=x1;replace x2:wr.cell? ⟨b,o+i*4+2,none⟩=some (slice x n c):=x2;replace x3:wr.cell? ⟨b,o+i*4+3,none⟩=some (slice y m d):=x3;have i1:((i:Nat):Int)<((k:Nat):Int):=by omega
   obtain⟨q,hvq,hrn⟩:=hq i hlt;rw[hTi]at hrn
   replace hn:Rn L wr s x n c f y m d g q:=hrn.q_ HB.out;clear hn1 hn2;have HVq:=zk hvq;have HN:=zk hn;have HZ:=zk hz;have HTi:=zk hTi
   clear hn hz hTi;go_upto_region 5 with fail
   have hb5:=zB wr (cells #[.int .i64 z,.bool s,slice x n c,slice y m d] 65);obtain⟨a0,a1,a2,a3⟩:=bk4 (zF wr [.int .i64 z,.bool s,slice x n c,slice y m d] 65);have hne:u3.ownBlock≠some wr.heap.size:=λe=>by have:=(HRow.out.lt _ e).2;omega
   replace HN:=zk (HN.out.q_ hb5);replace HRow:=zk (HRow.out.q_ hb5)
   replace HT:Hid (∀j,j<i->∃q,v[j]?=some (col j,q)/\QnT (2*L) (wr.alloc (cells #[.int .i64 z,.bool s,slice x n c,slice y m d] 65)) (T' j) q):=λj hj=>by obtain⟨q,h1,h2⟩:=HT.out j hj;exact⟨q,h1,h2.q_ hb5⟩
   replace HB:=zJ HB hb5;clear x0 x1 x2 x3 hb5;have hsz:w.heap.size<=(wr.alloc (cells #[.int .i64 z,.bool s,slice x n c,slice y m d] 65)).heap.size:=HB.out.size;generalize wr.alloc (cells #[.int .i64 z,.bool s,slice x n c,slice y m d] 65)=w5 at *;have CT:Hid (∀W,Bl w5 W->Calls prog 78 #[agg #[.bool s,slice x n c,slice y m d]] W λe w'=>∃s6 x6 n6 c6 d6 y6 m6 e6 g6,e=.returned (agg #[.bool s6,slice x6 n6 c6,slice y6 m6 e6])/\Bl W w'/\Hid (n6<=2*L/\m6<=2*L/\Qn w' s6 x6 n6 d6 y6 m6 g6 q)):=λW hW=>(zdC (HN.out.q_ hW) (by omega)).mono (λ_ _ ⟨s,x,n,c,d,y,m,c',g,h1,h2,h3,h4,h5⟩=>⟨s,x,n,c,d,y,m,c',g,h1,h2,h3,h4,h5⟩)
   go_region_held3 (λw'=>w'.cell? ⟨wr.heap.size,0,none⟩=some (.int .i64 z)/\w'.cell? ⟨wr.heap.size,1,none⟩=some (.bool s)/\w'.cell? ⟨wr.heap.size,2,none⟩=some (slice x n c)/\w'.cell? ⟨wr.heap.size,3,none⟩=some (slice y m d))
    (refine⟨?_,?_,?_,?_⟩ <;> repeat(with_reducible first|assumption|refine kCd ?_|refine kCa ?_|refine kCb (by assumption) ?_))
    (first
     | (go_at_call 78;with_reducible refine(CT.out _ zai).mono ?_;rintro e w6 ⟨s6,x6,n6,c6,d6,y6,m6,e6,g6,rfl,hb6,HQ⟩;have B6:Bl w5 w6:=zai;have HRow6:=HRow.out.q_ B6;have hz6:w.heap.size<=w6.heap.size:=le_trans hsz B6.size;have a06:=kCb B6 a0;have a16:=kCb B6 a1;have a26:=kCb B6 a2;have a36:=kCb B6 a3;have hlt6:=block_lt_of_cell? w6 _ a06)
     | (refine zaY w6 rfl (.tmp 12) (.tmp 19) 132 rfl w.heap.size 136 64 4 (agg #[.int .i64 0,.bool false,slice none 0 0,slice none 0 0]) underlying132 zrx rfl (by decide) nz4 u3 i (zaL (tls i col T')) rfl HRow6 #[.int .i64 z,.bool s6,slice x6 n6 c6,slice y6 m6 e6] rfl rfl (zpj _ _ _ _ _ _ _ _) (zlt _ _ _ _ _ _ _ _) ?p1 (by decide) hz6 ?_;(case p1=>omega);intro g8 cap8 w8 hr8 hk8 hb8 hg8;have h88:=hg8 wr.heap.size hlt6 hne;have a08:=(cell?_of_block (a:=⟨wr.heap.size,0,none⟩) h88).trans a06;have a18:=(cell?_of_block (a:=⟨wr.heap.size,1,none⟩) h88).trans a16;have a28:=(cell?_of_block (a:=⟨wr.heap.size,2,none⟩) h88).trans a26;have a38:=(cell?_of_block (a:=⟨wr.heap.size,3,none⟩) h88).trans a36))
   all_goals
    (have HB8:=zk (hb8 w (bUp HB.out B6) (le_refl _))
     have HR8:Hid (RowG 136 4 w.heap.size w8 (slice (some ⟨g8,0,none⟩) (i+1) cap8) (i+1) (zaL (tls (i+1) col (zaD T' i ⟨s6,x6,n6,c6,d6,y6,m6,e6,g6⟩)))):=by
      show RowG _ _ _ _ _ _ _;rw[zgy,HZ.out];exact hr8
     have HT8:Hid (∀j,j<i+1->∃q,v[j]?=some (col j,q)/\QnT (2*L) w8 (zaD T' i ⟨s6,x6,n6,c6,d6,y6,m6,e6,g6⟩ j) q):=λj hj=>by
      by_cases e:j=i
      ·subst e;rw[zbs];exact⟨q,HVq.out,QnT.kp (t:=⟨s6,x6,n6,c6,d6,y6,m6,e6,g6⟩) HQ.out hk8⟩
      ·rw[putN_ne e];obtain⟨q,h1,h2⟩:=HT.out j (by omega);exact⟨q,h1,(h2.q_ B6).kp hk8⟩
     clear hr8 hk8 hb8 hg8 h88 a08 a18 a28 a38 a06 a16 a26 a36 hlt6 hne HRow6 B6 hb6 HQ HRow HT HB CT a0 a1 a2 a3 HN hz6;go_wp2;go_roundw
     case rel=>exact⟨i+1,_,by omega,by go_num,HB8.out,HR8.out,HT8.out⟩
     case measure=>simp[intOf];omega)
  ·have e1:i=k:=by omega
   have i1:¬(((i:Nat):Int)<((k:Nat):Int)):=by omega
   rw[e1]at HRow HT
   obtain⟨aw,cw,rfl⟩:=HRow.out.slice;have hcw:k<=cw/\cw<=9223372036854775807:=by
    rcases HRow.out.2 with⟨hv,h0⟩|⟨_,_,_,hv,_,_,h5,h6,_⟩
    ·cases hv;omega
    ·cases hv;unfold maxLen at h6;omega
   clear e1;go_wp2;go_ret;exact⟨aw,cw,rfl,HB.out,hcw,(λb o s e=>(HRow.out.lt b (by rw[e];rfl)).1),(λj a q hj=>by have hlt2:j<k:=by { have:=(List.getElem?_eq_some_iff.1 hj).1;omega };obtain⟨b,hb,h4⟩:=zgE HRow.out hlt2;obtain⟨q',h5,h6⟩:=HT.out j hlt2;rw[hj]at h5;obtain⟨rfl,rfl⟩:a=col j/\q=q':=by { simpa using h5 };exact⟨b,0,T' j,hb,h4,h6⟩)⟩
def FN (K:Nat) (q:Rat) (v:Value) (w:World):Prop:=∃t':Nm,v=t'.val/\QnT K w t' q
def FE (K:Nat) (i:Int) (q:Rat) (v:Value) (w:World):Prop:=∃e':Ex,v=e'.val/\e'.i=i/\QnT K w e'.v q
def FC (K:Nat) (cv:CV) (v:Value) (w:World):Prop:=∃c':Lc,v=agg c'.vs.toArray/\QcV K w c' cv
def FCs (K:Nat) (cv:CV) (v:Value) (w:World):Prop:=∃b,∃c':Lc,v=slice (some ⟨b,0,none⟩) 1 1/\Cs w b 0 c'.vs/\QcV K w c' cv
def FT (K base tk:Nat) (ts:List (Int × Rat)) (v:Value) (w:World):Prop:=∃aw cw,v=slice aw tk cw/\(∀b o s,aw=some ⟨b,o,s⟩->base<=b)/\Tq K w aw ts
def FR (K base:Nat) (rv:RV) (v:Value) (w:World):Prop:=∃r':Lr,v=agg r'.vs.toArray/\QrV K w r' rv/\∀b o s,r'.ta=some ⟨b,o,s⟩->base<=b
def FRs (K base:Nat) (rv:RV) (v:Value) (w:World):Prop:=∃b,∃r':Lr,v=slice (some ⟨b,0,none⟩) 1 1/\Cs w b 0 r'.vs/\QrV K w r' rv/\∀b o s,r'.ta=some ⟨b,o,s⟩->base<=b
theorem FN.q_ {K t v w w'} (h:FN K t v w) (hb:Bl w w'):FN K t v w':=by obtain⟨t',h1,h2⟩:=h;exact⟨t',h1,h2.q_ hb⟩
theorem FE.q_ {K i t v w w'} (h:FE K i t v w) (hb:Bl w w'):FE K i t v w':=by obtain⟨t',h1,h2,h3⟩:=h;exact⟨t',h1,h2,h3.q_ hb⟩
theorem FC.q_ {K t v w w'} (h:FC K t v w) (hb:Bl w w'):FC K t v w':=by obtain⟨t',h1,h2⟩:=h;exact⟨t',h1,h2.q_ hb⟩
theorem FCs.q_ {K t v w w'} (h:FCs K t v w) (hb:Bl w w'):FCs K t v w':=by obtain⟨b,t',h1,h2,h3⟩:=h;exact⟨b,t',h1,h2.q_ hb,h3.q_ hb⟩
theorem FT.q_ {K base tk ts v w w'} (h:FT K base tk ts v w) (hb:Bl w w'):FT K base tk ts v w':=by obtain⟨aw,cw,h1,h2,h3⟩:=h;exact⟨aw,cw,h1,h2,h3.q_ hb⟩
theorem FR.q_ {K base t v w w'} (h:FR K base t v w) (hb:Bl w w'):FR K base t v w':=by obtain⟨t',h1,h2,h3⟩:=h;exact⟨t',h1,h2.q_ hb,h3⟩
theorem FRs.q_ {K base t v w w'} (h:FRs K base t v w) (hb:Bl w w'):FRs K base t v w':=by obtain⟨b,t',h1,h2,h3,h4⟩:=h;exact⟨b,t',h1,h2.q_ hb,h3.q_ hb,h4⟩
structure FrC (w:World) (base b1 b2 b3:Nat) (P Z:List Value) (so:Bool) (zx:Option Addr) (zn zc:Nat) (zy:Option Addr) (zm zd:Nat) (oN:Nm) (K:Nat) (q:Rat) (cs:List CV) (wr:World) (i:Nat) (C':Nat->Lc) (vC:Value):Prop where
 bel:Bl w wr
 p1:Bk wr b1 P 28
 p2:Bk wr b2 Z 96
 p3:Bk wr b3 [.bool so,slice zx zn zc,slice zy zm zd,vC,slice none 0 0] 96
 bs:base<=wr.heap.size
 off:QnT K wr oN q
 row:RowG 131 12 base wr vC i (ccs C' i)
 el:∀j v,j<i->cs[j]?=some v->QcV K wr (C' j) v
theorem FrC.q_ {w base b1 b2 b3 P Z so zx zn zc zy zm zd oN K q cs wr i C' vC w'} (h:FrC w base b1 b2 b3 P Z so zx zn zc zy zm zd oN K q cs wr i C' vC) (hb:Bl wr w'):FrC w base b1 b2 b3 P Z so zx zn zc zy zm zd oN K q cs w' i C' vC :=
 ⟨h.bel.trans (hb.mono h.bel.size),h.p1.q_ hb,h.p2.q_ hb,h.p3.q_ hb,le_trans h.bs hb.size,h.off.q_ hb,h.row.q_ hb,λj v hj e=>(h.el j v hj e).q_ hb⟩
theorem FrC.next {w base b1 b2 b3 P Z so zx zn zc zy zm zd oN K q cs wr i C' vC w8 g8 cap8 c'} (h:FrC w base b1 b2 b3 P Z so zx zn zc zy zm zd oN K q cs wr i C' vC) (h12:b1<b2) (h23:b2<b3) (h3b:b3<base) (hwb:w.heap.size<=b1) (hc:∀v,cs[i]?=some v->QcV K wr c' v) (hr:RowG 131 12 base w8 (slice (some ⟨g8,0,none⟩) (i+1) cap8) (i+1) (ccs C' i++c'.vs)) (hk:Kp wr w8) (hg:wr.grownBy w8 vC.ownBlock) :
  FrC w base b1 b2 b3 P Z so zx zn zc zy zm zd oN K q cs (w8.setCell ⟨b3,3,none⟩ (slice (some ⟨g8,0,none⟩) (i+1) cap8)) (i+1) (putC C' i c') (slice (some ⟨g8,0,none⟩) (i+1) cap8):=by
 have hbs:=h.bs;have hlt:∀k,k<base->w8.heap[k]?=wr.heap[k]?:=λk hk=>hg.block k (by omega) (λe=>by have:=(h.row.lt k e.symm).1;omega)
 have hset:∀k,k≠b3->(w8.setCell ⟨b3,3,none⟩ (slice (some ⟨g8,0,none⟩) (i+1) cap8)).heap[k]?=w8.heap[k]?:=λk hk=>Below.heap_setCell _ _ _ _ hk
 have hp3:Bk w8 b3 [.bool so,slice zx zn zc,slice zy zm zd,vC,slice none 0 0] 96:=h.p3.of (hlt b3 h3b);have hg8:=(hr.lt g8 rfl).1;have hk9:Kp wr (w8.setCell ⟨b3,3,none⟩ (slice (some ⟨g8,0,none⟩) (i+1) cap8)):=hk.set (x:=⟨b3,3,none⟩) hp3 (by obtain⟨aw,cw,e⟩:=h.row.slice;rw[e];exact zjb _ _ _ _ _ _ _ _ _ _ _ _ _) _;refine⟨?_,h.p1.of ((hset b1 (by omega)).trans (hlt b1 (by omega))),h.p2.of ((hset b2 (by omega)).trans (hlt b2 (by omega))),hp3.set 3 _,le_trans hbs hk9.size,h.off.kp hk9,?_,λj v hj ev=>?_⟩
 ·have h8:Bl w w8:=h.bel.grown hg (by have:=h.bel.size;omega) (λk e=>by have:=(h.row.lt k e).1;omega);exact zL h8 h8.size ((Turned.refl w.heap.size (b3+1) w8).set (x:=⟨b3,3,none⟩) (by show w.heap.size<=b3;omega) (by simp) _) (le_refl _)
 ·rw[zkP];exact hr.of (λk hk=>hset k (λe=>by have:g8=k:=(by simpa[Value.ownBlock]using hk);omega))
 ·by_cases e:j=i
  ·subst e;rw[zgM];exact(hc v ev).kp hk9
  ·rw[zgL e];exact(h.el j v (by omega) ev).kp hk9
structure FrR (w:World) (base base2 b2 b3:Nat) (Z:List Value) (so:Bool) (zx:Option Addr) (zn zc:Nat) (zy:Option Addr) (zm zd:Nat) (oN:Nm) (K:Nat) (q:Rat) (cs:List CV) (ck:Nat) (C':Nat->Lc) (vC:Value) (rs:List RV) (wr:World) (i:Nat) (R':Nat->Lr) (vR:Value):Prop where
 bel:Bl w wr
 p2:Bk wr b2 Z 96
 p3:Bk wr b3 [.bool so,slice zx zn zc,slice zy zm zd,vC,vR] 96
 bs:base2<=wr.heap.size
 off:QnT K wr oN q
 rowC:RowG 131 12 base wr vC ck (ccs C' ck)
 elC:∀j v,j<ck->cs[j]?=some v->QcV K wr (C' j) v
 nv:∀k,vC.ownBlock=some k->k<base2
 row:RowG 134 10 base2 wr vR i (rcs R' i)
 el:∀j v,j<i->rs[j]?=some v->QrV K wr (R' j) v/\(v.ts≠[]->∀b o s,(R' j).ta=some ⟨b,o,s⟩->base2<=b/\vR.ownBlock≠some b)
theorem FrR.q_ {w base base2 b2 b3 Z so zx zn zc zy zm zd oN K q cs ck C' vC rs wr i R' vR w'} (h:FrR w base base2 b2 b3 Z so zx zn zc zy zm zd oN K q cs ck C' vC rs wr i R' vR) (hb:Bl wr w'):FrR w base base2 b2 b3 Z so zx zn zc zy zm zd oN K q cs ck C' vC rs w' i R' vR :=
 ⟨h.bel.trans (hb.mono h.bel.size),h.p2.q_ hb,h.p3.q_ hb,le_trans h.bs hb.size,h.off.q_ hb,h.rowC.q_ hb,λj v hj e=>(h.elC j v hj e).q_ hb,h.nv,h.row.q_ hb,λj v hj e=>⟨(h.el j v hj e).1.q_ hb,(h.el j v hj e).2⟩⟩
theorem FrR.next {w base base2 b2 b3 Z so zx zn zc zy zm zd oN K q cs ck C' vC rs wr i R' vR w8 g8 cap8 r'} (h:FrR w base base2 b2 b3 Z so zx zn zc zy zm zd oN K q cs ck C' vC rs wr i R' vR) (h23:b2<b3) (h3b:b3<base2) (hbb:b3<base) (hwb:w.heap.size<=b2) (hc:∀v,rs[i]?=some v->QrV K wr r' v) (hta:∀b o s,r'.ta=some ⟨b,o,s⟩->base2<=b/\vR.ownBlock≠some b) (hr:RowG 134 10 base2 w8 (slice (some ⟨g8,0,none⟩) (i+1) cap8) (i+1) (rcs R' i++r'.vs)) (hk:Kp wr w8) (hg:wr.grownBy w8 vR.ownBlock) (hl:vR.ownBlock=some g8∨wr.heap.size<=g8) :
  FrR w base base2 b2 b3 Z so zx zn zc zy zm zd oN K q cs ck C' vC rs (w8.setCell ⟨b3,4,none⟩ (slice (some ⟨g8,0,none⟩) (i+1) cap8)) (i+1) (zdE R' i r') (slice (some ⟨g8,0,none⟩) (i+1) cap8):=by
 have hbs:=h.bs;have hlt:∀k,k<base2->w8.heap[k]?=wr.heap[k]?:=λk hk=>hg.block k (by omega) (λe=>by have:=(h.row.lt k e.symm).1;omega)
 have hset:∀k,k≠b3->(w8.setCell ⟨b3,4,none⟩ (slice (some ⟨g8,0,none⟩) (i+1) cap8)).heap[k]?=w8.heap[k]?:=λk hk=>Below.heap_setCell _ _ _ _ hk
 have hp3:Bk w8 b3 [.bool so,slice zx zn zc,slice zy zm zd,vC,vR] 96:=h.p3.of (hlt b3 h3b);have hg8:=(hr.lt g8 rfl).1;have hk9:Kp wr (w8.setCell ⟨b3,4,none⟩ (slice (some ⟨g8,0,none⟩) (i+1) cap8)):=hk.set (x:=⟨b3,4,none⟩) hp3 (by obtain⟨aw,cw,e⟩:=h.row.slice;obtain⟨aw2,cw2,e2⟩:=h.rowC.slice;rw[e,e2];exact zjb _ _ _ _ _ _ _ _ _ _ _ _ _) _;have hta8:∀(r:Lr) (v:RV),QrV K wr r v->(v.ts≠[]->∀b o s,r.ta=some ⟨b,o,s⟩->base2<=b/\vR.ownBlock≠some b)->QrV K (w8.setCell ⟨b3,4,none⟩ (slice (some ⟨g8,0,none⟩) (i+1) cap8)) r v/\(v.ts≠[]->∀b o s,r.ta=some ⟨b,o,s⟩->base2<=b/\(Value.slice (some ⟨g8,0,none⟩) (i+1) cap8).ownBlock≠some b):=λr v h1 h2=>by
  refine⟨h1.of (λh3 b o s e hb=>?_) hk9,λh3 b o s e=>?_⟩
  ·obtain⟨k1,k2⟩:=h2 h3 b o s e;rw[hset b (by omega)];exact hg.block b hb (λe=>k2 e.symm)
  ·obtain⟨k1,k2⟩:=h2 h3 b o s e;refine⟨k1,λe2=>?_⟩;have e3:g8=b:=by simpa[Value.ownBlock]using e2
   rcases hl with h4|h4
   ·exact k2 (e3 ▸ h4)
   ·have:=h1.tl.lt h3 b o s e;omega
 refine⟨?_,h.p2.of ((hset b2 (by omega)).trans (hlt b2 (by omega))),hp3.set 4 _,le_trans hbs hk9.size,h.off.kp hk9,h.rowC.of (λk hk=>?_),λj v hj e=>(h.elC j v hj e).kp hk9,h.nv,?_,λj v hj ev=>?_⟩
 ·have h8:Bl w w8:=h.bel.grown hg (by have:=h.bel.size;omega) (λk e=>by have:=(h.row.lt k e).1;omega);exact zL h8 h8.size ((Turned.refl w.heap.size (b3+1) w8).set (x:=⟨b3,4,none⟩) (by show w.heap.size<=b3;omega) (by simp) _) (le_refl _)
 ·have:=(h.rowC.lt k hk).1;rw[hset k (by omega)];exact hlt k (h.nv k hk)
 ·rw[zkd];exact hr.of (λk hk=>hset k (λe=>by have:g8=k:=(by simpa[Value.ownBlock]using hk);omega))
 ·by_cases e:j=i
  ·subst e;rw[zfi];exact hta8 r' v (hc v ev) (λ_=>hta)
  ·rw[zfh e];exact hta8 _ v (h.el j v (by omega) ev).1 (h.el j v (by omega) ev).2
theorem FrR.done {w base base2 b2 b3 so zx zn zc zy zm zd oN K q cs ck C' rs rk R' wr aC cC aR cR w9 v0 v1 v2 v3 v4} (h:FrR w base base2 b2 b3 [.bool false,slice none 0 0,slice none 0 0,slice none 0 0,slice none 0 0] so zx zn zc zy zm zd oN K q cs ck C' (slice aC ck cC) rs wr rk R' (slice aR rk cR)) (h2:b2<base) (h22:b2<base2) (hwb:w.heap.size<=b2)
  (e:w9=((((wr.setCell ⟨b2,0,none⟩ v0).setCell ⟨b2,1,none⟩ v1).setCell ⟨b2,2,none⟩ v2).setCell ⟨b2,3,none⟩ v3).setCell ⟨b2,4,none⟩ v4) (hck:ck=cs.length) (hrk:rk=rs.length) :
  Bl w w9/\MqV K w9 ⟨oN,aC,ck,cC,C',aR,rk,cR,R'⟩ q cs rs:=by
 obtain⟨hk,hne⟩:=zjh h.p2 (zjb _ _ _ _ _ _ _ _ _ _ _ _ _) e;refine⟨by rw[e];exact zeg h.bel hwb,h.off.kp hk,hck,hrk,λj v hv=>?_,λj v hv=>?_⟩
 ·have hj:j<ck:=by rw[hck];exact(List.getElem?_eq_some_iff.1 hv).1
  rcases h.rowC.2 with⟨_,h0⟩|⟨gb,cap,cur,hv',hb,_⟩
  ·exact absurd hj (by rw[h0];exact Nat.not_lt_zero _)
  ·have hr:=h.rowC.of (w':=w9) (λk hk=>hne k (by have:=(h.rowC.lt k hk).1;omega));cases hv'
   refine⟨⟨gb,0,rfl,λp u hp=>?_⟩,(h.elC j v hj hv).kp hk⟩;rw[zero_add];exact hr.cells (zho hp hj)
 ·have hj:j<rk:=by rw[hrk];exact(List.getElem?_eq_some_iff.1 hv).1
  rcases h.row.2 with⟨_,h0⟩|⟨gb,cap,cur,hv',hb,_⟩
  ·exact absurd hj (by rw[h0];exact Nat.not_lt_zero _)
  ·have hr:=h.row.of (w':=w9) (λk hk=>hne k (by have:=(h.row.lt k hk).1;omega));cases hv'
   refine⟨⟨gb,0,rfl,λp u hp=>?_⟩,(h.el j v hj hv).1.of (λh3 b o s e _=>hne b (by have:=((h.el j v hj hv).2 h3 b o s e).1;omega)) hk⟩;rw[zero_add];exact hr.cells (zgI hp hj)
theorem zpr {w M L q cs rs} (h:MoV L w M q cs rs) (hL:L<=1000) (hok:zbk cs rs=true):Calls prog 43 #[M.val] w λe w'=>∃M':Mo,e=.returned M'.val/\Bl w w'/\MqV (2*L) w' M' q cs rs:=by
 generalize hP:(λ(e:Ending) (w':World)=>∃M':Mo,e=.returned M'.val/\Bl w w'/\MqV (2*L) w' M' q cs rs)=P;have HA:Hid (∀w' (M':Mo),Bl w w'->MqV (2*L) w' M' q cs rs->P (.returned M'.val) w'):=by subst hP;exact λw' M' h1 h2=>⟨M',rfl,h1,h2⟩
 clear hP;simp only[zbk,Bool.and_eq_true,decide_eq_true_eq,List.all_eq_true]at hok;obtain⟨hck,hrk,hbc,hbr,_⟩:=hok;have HBC:=zk hbc;have HBR:=zk hbr
 have hlc:=h.ck;have hlr:=h.rk
 obtain⟨ho,hx1,hx2,hC,hR⟩:=h;clear hx1 hx2;obtain⟨⟨s,x,n,c,f,y,m,d,g⟩,ca,ck,cc,C,ra,rk,rc,R⟩:=M;replace hlc:ck=cs.length:=hlc;replace hlr:rk=rs.length:=hlr;rw[<-hlc]at hck
 rw[<-hlr]at hrk
 have HC:Hid (∀j v,cs[j]?=some v->(∃b o,ca=some ⟨b,o,none⟩/\Cs w b (o+j*12) (C j).vs)/\ColV L w (C j) v):=hC;have HRL:Hid (∀j v,rs[j]?=some v->(∃b o,ra=some ⟨b,o,none⟩/\Cs w b (o+j*10) (R j).vs)/\RowV L w (R j) v):=hR;have CO:=zk (λw' (hw:Bl w w')=>zdC (w:=w') (ho.q_ hw) (le_trans hL (by decide)));replace CO:Hid (∀w' (hw:Bl w w'),Calls prog 78 #[agg #[.bool s,slice x n c,slice y m d]] w' λe w2=>∃s x n c d y m c' g,e=.returned (agg #[.bool s,slice x n c,slice y m c'])/\Bl w' w2/\n<=2*L/\m<=2*L/\Qn w2 s x n d y m g q):=CO;have HLC:=zk hlc;have HLR:=zk hlr
 clear ho hC hR hbc hbr hlc hlr;show Calls prog 43 #[agg #[.bool s,slice x n c,slice y m d,slice ca ck cc,slice ra rk rc]] w _;go_enter func43,ntmps43;go_wp2_with fail
 have hb1:=zu (zB w (cells #[.bool s,slice x n c,slice y m d,slice ca ck cc,slice ra rk rc] 28)) (cells #[.bool false,slice none 0 0,slice none 0 0,slice none 0 0,slice none 0 0] 96);have B1:=(zF w [.bool s,slice x n c,slice y m d,slice ca ck cc,slice ra rk rc] 28).q_ (zu (Below.refl _ _) (cells #[.bool false,slice none 0 0,slice none 0 0,slice none 0 0,slice none 0 0] 96));have B2:=zF (w.alloc (cells #[.bool s,slice x n c,slice y m d,slice ca ck cc,slice ra rk rc] 28)) [.bool false,slice none 0 0,slice none 0 0,slice none 0 0,slice none 0 0] 96;rw[zw]at B2
 replace B1:Bk ((w.alloc (cells #[.bool s,slice x n c,slice y m d,slice ca ck cc,slice ra rk rc] 28)).alloc (cells #[.bool false,slice none 0 0,slice none 0 0,slice none 0 0,slice none 0 0] 96)) w.heap.size [.bool s,slice x n c,slice y m d,slice ca ck cc,slice ra rk rc] 28:=B1;replace B2:Bk ((w.alloc (cells #[.bool s,slice x n c,slice y m d,slice ca ck cc,slice ra rk rc] 28)).alloc (cells #[.bool false,slice none 0 0,slice none 0 0,slice none 0 0,slice none 0 0] 96)) (w.heap.size+1) [.bool false,slice none 0 0,slice none 0 0,slice none 0 0,slice none 0 0] 96:=B2;generalize(w.alloc (cells #[.bool s,slice x n c,slice y m d,slice ca ck cc,slice ra rk rc] 28)).alloc (cells #[.bool false,slice none 0 0,slice none 0 0,slice none 0 0,slice none 0 0] 96)=w1 at *;refine(CO.out _ hb1).mono ?_;rintro e w2 ⟨sz,z2,nz,c2,fz,y2,mz,d2,gz,rfl,hb2,hq1,hq2,hq⟩;have B3:=zF w2 [.bool sz,slice z2 nz c2,slice y2 mz d2,slice none 0 0,slice none 0 0] 96;have hb3:=zB w2 (cells #[.bool sz,slice z2 nz c2,slice y2 mz d2,slice none 0 0,slice none 0 0] 96);have l1:=B1.lt;have l2:=B2.lt;have l3:=hb2.size
 replace B1:=(B1.q_ hb2).q_ hb3;replace B2:=(B2.q_ hb2).q_ hb3
 have HB3:=zk ((bUp hb1 hb2).trans (hb3.mono (le_trans hb1.size hb2.size)));have HQ:Hid (QnT (2*L) (w2.alloc (cells #[.bool sz,slice z2 nz c2,slice y2 mz d2,slice none 0 0,slice none 0 0] 96)) ⟨sz,z2,nz,c2,fz,y2,mz,d2,gz⟩ q):=⟨hq1,hq2,hq.q_ hb3⟩;have k3:=B1.cell (j:=3) rfl;have HB1:=zk B1;have HB2:=zk B2
 obtain⟨b3,hb3e⟩:∃z,w2.heap.size=z:=⟨_,rfl⟩;have hl3:w.heap.size+1<b3:=by omega
 have hbs:b3<(w2.alloc (cells #[.bool sz,slice z2 nz c2,slice y2 mz d2,slice none 0 0,slice none 0 0] 96)).heap.size:=by simp;omega
 clear hb1 hb2 hb3 B1 B2 CO hq hq1 hq2 l1 l2 l3;go_wp2_with fail
 generalize w2.alloc (cells #[.bool sz,slice z2 nz c2,slice y2 mz d2,slice none 0 0,slice none 0 0] 96)=w3 at *;rw[hb3e]at B3
 obtain⟨base,hbase⟩:∃z,w3.heap.size=z:=⟨_,rfl⟩;have hbb:b3<base:=by omega
 have HI0:Hid (FrC w base w.heap.size (w.heap.size+1) b3 [.bool s,slice x n c,slice y m d,slice ca ck cc,slice ra rk rc] [.bool false,slice none 0 0,slice none 0 0,slice none 0 0,slice none 0 0] sz z2 nz c2 y2 mz d2 ⟨sz,z2,nz,c2,fz,y2,mz,d2,gz⟩ (2*L) q cs w3 0 C (slice none 0 0)):=⟨HB3.out,HB1.out,HB2.out,B3,by omega,HQ.out,zak _ _ _ _,λj v hj=>by omega⟩;clear HB3 HB1 HB2 B3 HQ k3 hb3e hbs hbase;go_loopw[15] (λt wr=>∃(i:Nat) (C':Nat->Lc) (vC:Value),i<=ck/\t=.int .i64 i/\Hid (FrC w base w.heap.size (w.heap.size+1) b3 [.bool s,slice x n c,slice y m d,slice ca ck cc,slice ra rk rc] [.bool false,slice none 0 0,slice none 0 0,slice none 0 0,slice none 0 0] sz z2 nz c2 y2 mz d2 ⟨sz,z2,nz,c2,fz,y2,mz,d2,gz⟩ (2*L) q cs wr i C' vC)) (λt _=>ck-(intOf t).toNat)
 case atStart=>exact⟨0,C,_,by omega,rfl,HI0.out⟩
 case round =>
  obtain⟨i,C',vC,hi,rfl,HI⟩:=hrel;clear HI0;by_cases hlt:i<ck
  ·obtain⟨cv,hcv⟩:∃v,cs[i]?=some v:=⟨_,getElem?_eq_getElem (by rw[<-HLC.out];exact hlt)⟩;obtain⟨⟨b,o,rfl,hc0⟩,hn0'⟩:=HC.out i cv hcv;have hc:=hc0.q_ HI.out.bel;have hn:=hn0'.q_ HI.out.bel;have hbd:=zqn (HBC.out cv (List.mem_of_getElem? hcv));have HCV:=zk hcv;clear hc0 hn0' hcv;obtain⟨cN,hcN⟩:∃t,C i=t:=⟨_,rfl⟩;rw[hcN]at hc hn
   have HCN:=zk hcN;obtain⟨z,⟨s0,x0,n0,c0,f0,y0,m0,d0,g0⟩,⟨i1,⟨s1,x1,n1,c1,f1,y1,m1,d1,g1⟩⟩,⟨i2,⟨s2,x2,n2,c2',f2,y2',m2,d2',g2⟩⟩⟩:=cN;obtain⟨vnm,vcost,vli,vlq,vhi,vhq⟩:=cv;obtain⟨hnm,hn0,hli,hn1,hhi,hn2⟩:=hn;replace hnm:z=vnm:=hnm;replace hli:i1=vli:=hli;replace hhi:i2=vhi:=hhi;subst hnm;subst hli;subst hhi
   obtain⟨q0,q1,q2,q3,q4,q5,q6,q7,q8,q9,q10,q11⟩:=hc.lc;have HN0:Hid (Rn L wr s0 x0 n0 c0 f0 y0 m0 d0 g0 vcost):=hn0;have HN1:Hid (En L wr i1 s1 x1 n1 c1 f1 y1 m1 d1 g1 vlq):=⟨hn1,hbd.1⟩;have HN2:Hid (En L wr i2 s2 x2 n2 c2' f2 y2' m2 d2' g2 vhq):=⟨hn2,hbd.2⟩;have i1':((i:Nat):Int)<((ck:Nat):Int):=by omega
   clear hcN hc hn0 hn1 hn2 hbd;go_upto_region 5 with fail
   have hb5:=Below.drew (zB wr (cells #[.string z,.bool s0,slice x0 n0 c0,slice y0 m0 d0,.int .i64 i1,.bool s1,slice x1 n1 c1,slice y1 m1 d1,.int .i64 i2,.bool s2,slice x2 n2 c2',slice y2' m2 d2'] 60));have B5:Bk (wr.alloc (cells #[.string z,.bool s0,slice x0 n0 c0,slice y0 m0 d0,.int .i64 i1,.bool s1,slice x1 n1 c1,slice y1 m1 d1,.int .i64 i2,.bool s2,slice x2 n2 c2',slice y2' m2 d2'] 60)).drew wr.heap.size [.string z,.bool s0,slice x0 n0 c0,slice y0 m0 d0,.int .i64 i1,.bool s1,slice x1 n1 c1,slice y1 m1 d1,.int .i64 i2,.bool s2,slice x2 n2 c2',slice y2' m2 d2'] 60:=zF wr [.string z,.bool s0,slice x0 n0 c0,slice y0 m0 d0,.int .i64 i1,.bool s1,slice x1 n1 c1,slice y1 m1 d1,.int .i64 i2,.bool s2,slice x2 n2 c2',slice y2' m2 d2'] 60;have hne:vC.ownBlock≠some wr.heap.size:=λe=>by have:=(HI.out.row.lt _ e).2;omega
   have hbz:=HI.out.bs;replace HI:=zk (HI.out.q_ hb5);replace HN0:=zk (HN0.out.q_ hb5);replace HN1:=zk (HN1.out.q_ hb5);replace HN2:=zk (HN2.out.q_ hb5)
   obtain⟨a0,a1,a2,a3,a4,a5,a6,a7,a8,a9,a10,a11⟩:=zee B5;have HB5:=zk B5;obtain⟨bk,hbk⟩:∃z,wr.heap.size=z:=⟨_,rfl⟩;simp only[hbk]at *;clear hb5 hbk q0 q1 q2 q3 q4 q5 q6 q7 q8 q9 q10 q11 B5;refine wp_region_held_drew (S:=(λw'=>w'.cell? ⟨bk,0,none⟩=some (.string z)/\w'.cell? ⟨bk,1,none⟩=some (.bool s0)/\w'.cell? ⟨bk,2,none⟩=some (slice x0 n0 c0)/\w'.cell? ⟨bk,3,none⟩=some (slice y0 m0 d0)/\w'.cell? ⟨bk,4,none⟩=some (.int .i64 i1)/\w'.cell? ⟨bk,5,none⟩=some (.bool s1)/\w'.cell? ⟨bk,6,none⟩=some (slice x1 n1 c1)/\w'.cell? ⟨bk,7,none⟩=some (slice y1 m1 d1)/\w'.cell? ⟨bk,8,none⟩=some (.int .i64 i2)/\w'.cell? ⟨bk,9,none⟩=some (.bool s2)/\w'.cell? ⟨bk,10,none⟩=some (slice x2 n2 c2')/\w'.cell? ⟨bk,11,none⟩=some (slice y2' m2 d2'))) (by kernel_rfl) ?_ (λhHeld=>?_)
   ·exact⟨a0,a1,a2,a3,a4,a5,a6,a7,a8,a9,a10,a11⟩
   generalize hwd:(wr.alloc (cells #[.string z,.bool s0,slice x0 n0 c0,slice y0 m0 d0,.int .i64 i1,.bool s1,slice x1 n1 c1,slice y1 m1 d1,.int .i64 i2,.bool s2,slice x2 n2 c2',slice y2' m2 d2'] 60)).drew=wd at *;clear hwd;refine zK 0 ?_;refine zK 2 ?_;refine zK 3 ?_;simp only[zA,Act.put];refine zK 4 ?_;refine zK 5 ?_;refine zK 7 ?_;simp only[zA,Act.put];refine zK 8 ?_;refine zK 10 ?_;refine zK 11 ?_;simp only[zA,Act.put];refine(show wpAnyH _ _ _ _ _ (6+3) _ _ _ from zbO (λj v w=>match j with|1=>vC=v|6=>FN (2*L) vcost v w|9=>FE (2*L) i1 vlq v w|12=>FE (2*L) i2 vhq v w|13=>FC (2*L) ⟨z,vcost,i1,vlq,i2,vhq⟩ v w|14=>FCs (2*L) ⟨z,vcost,i1,vlq,i2,vhq⟩ v w|_=>True) [(1,20),(6,25),(9,28),(12,31),(13,32),(14,33)] [1,6,9,12,13,14] [15,16,17] _ _ _ 3 ?k1 ?k4 ?k2 ?k3 ?k5 ?k6 ?k8)
   case k1=>kernel_rfl
   case k4=>kernel_rfl
   case k2=>exact λw w' h hb=>⟨kCb hb h.1,kCb hb h.2.1,kCb hb h.2.2.1,kCb hb h.2.2.2.1,kCb hb h.2.2.2.2.1,kCb hb h.2.2.2.2.2.1,kCb hb h.2.2.2.2.2.2.1,kCb hb h.2.2.2.2.2.2.2.1,kCb hb h.2.2.2.2.2.2.2.2.1,kCb hb h.2.2.2.2.2.2.2.2.2.1,kCb hb h.2.2.2.2.2.2.2.2.2.2.1,kCb hb h.2.2.2.2.2.2.2.2.2.2.2⟩
   case k3 =>
    intro j v w w' h hb
    split at h <;> first|exact FN.q_ h hb|exact FE.q_ h hb|exact FC.q_ h hb|exact FCs.q_ h hb|exact h|trivial
   case k8=>exact hHeld
   case k5 =>
    intro i hi;simp only[List.mem_cons,List.not_mem_nil,or_false]at hi;rcases hi with rfl|rfl|rfl|rfl|rfl|rfl
    ·refine⟨_,rfl,λu w5 hS hb5 hd K hK=>?_⟩;have k5:=(HI.out.p3.q_ hb5).cell (j:=3) rfl;simp only[zbl,zA,Act.put]at hK ⊢;go_simp;exact hK.out _ _ (Below.refl _ _) rfl
    ·refine⟨_,rfl,λu w5 hS hb5 hd K hK=>?_⟩;simp only[zbl,zA,Act.put]at hK ⊢;go_simp
     go_at_call 78
     refine(zdC (HN0.out.q_ hb5) (le_trans hL (by decide))).mono ?_;rintro e w6 ⟨sq,zp,nq9,cp,dp,zq,mq9,cq,gq,rfl,hb6,hq1,hq2,hq⟩
     (try go_wp2_with fail)
     exact hK.out _ _ hb6 ⟨⟨sq,zp,nq9,cp,dp,zq,mq9,cq,gq⟩,rfl,hq1,hq2,hq⟩
    ·refine⟨_,rfl,λu w5 hS hb5 hd K hK=>?_⟩;simp only[zbl,zA,Act.put]at hK ⊢;go_simp
     go_at_call 79
     refine(zeu (HN1.out.q_ hb5) (le_trans hL (by decide))).mono ?_;rintro e w6 ⟨sq,zp,nq9,cp,dp,zq,mq9,cq,gq,rfl,hb6,hq⟩
     (try go_wp2_with fail)
     exact hK.out _ _ hb6 ⟨⟨i1,⟨sq,zp,nq9,cp,dp,zq,mq9,cq,gq⟩⟩,rfl,rfl,hq.out.1,hq.out.2.1,hq.out.2.2.qn⟩
    ·refine⟨_,rfl,λu w5 hS hb5 hd K hK=>?_⟩;simp only[zbl,zA,Act.put]at hK ⊢;go_simp
     go_at_call 79
     refine(zeu (HN2.out.q_ hb5) (le_trans hL (by decide))).mono ?_;rintro e w6 ⟨sq,zp,nq9,cp,dp,zq,mq9,cq,gq,rfl,hb6,hq⟩
     (try go_wp2_with fail)
     exact hK.out _ _ hb6 ⟨⟨i2,⟨sq,zp,nq9,cp,dp,zq,mq9,cq,gq⟩⟩,rfl,rfl,hq.out.1,hq.out.2.1,hq.out.2.2.qn⟩
    ·refine⟨_,rfl,λu w5 hS hb5 hd K hK=>?_⟩;have h6:FN (2*L) vcost (u 6) w5:=hd 6 (by kernel_rfl) (by kernel_rfl);obtain⟨⟨sa6,xa6,na6,ca6,fa6,ya6,ma6,da6,ga6⟩,e6,hv6⟩:=h6;replace e6:u 6=agg #[.bool sa6,slice xa6 na6 ca6,slice ya6 ma6 da6]:=e6;have h9:FE (2*L) i1 vlq (u 9) w5:=hd 9 (by kernel_rfl) (by kernel_rfl);obtain⟨⟨ia9,⟨sa9,xa9,na9,ca9,fa9,ya9,ma9,da9,ga9⟩⟩,e9,hi9,hv9⟩:=h9;replace e9:u 9=agg #[.int .i64 ia9,.bool sa9,slice xa9 na9 ca9,slice ya9 ma9 da9]:=e9;have h12:FE (2*L) i2 vhq (u 12) w5:=hd 12 (by kernel_rfl) (by kernel_rfl);obtain⟨⟨ia12,⟨sa12,xa12,na12,ca12,fa12,ya12,ma12,da12,ga12⟩⟩,e12,hi12,hv12⟩:=h12;replace e12:u 12=agg #[.int .i64 ia12,.bool sa12,slice xa12 na12 ca12,slice ya12 ma12 da12]:=e12;simp only[zbl,zA,Act.put]at hK ⊢;simp only[e6,e9,e12]at hK ⊢;go_simp;exact hK.out _ _ (Below.refl _ _) ⟨⟨z,⟨sa6,xa6,na6,ca6,fa6,ya6,ma6,da6,ga6⟩,⟨ia9,⟨sa9,xa9,na9,ca9,fa9,ya9,ma9,da9,ga9⟩⟩,⟨ia12,⟨sa12,xa12,na12,ca12,fa12,ya12,ma12,da12,ga12⟩⟩⟩,rfl,rfl,hv6,hi9,hv9,hi12,hv12⟩
    ·refine⟨_,rfl,λu w5 hS hb5 hd K hK=>?_⟩;have h13:FC (2*L) ⟨z,vcost,i1,vlq,i2,vhq⟩ (u 13) w5:=hd 13 (by kernel_rfl) (by kernel_rfl);obtain⟨⟨zj,⟨sb,xb,nb,cb,fb,yb,mb,db,gb⟩,⟨ic,⟨sc,xc,nc,cc9,fc,yc,mc,dc,gc⟩⟩,⟨ie,⟨sd,xd,nd,cd,fd,yd,md,dd,gd⟩⟩⟩,e13,hv⟩:=h13;replace e13:u 13=agg #[.string zj,.bool sb,slice xb nb cb,slice yb mb db,.int .i64 ic,.bool sc,slice xc nc cc9,slice yc mc dc,.int .i64 ie,.bool sd,slice xd nd cd,slice yd md dd]:=e13;simp only[zbl,zA,Act.put]at hK ⊢;simp only[e13]at hK ⊢;go_simp;have hn:=zB w5 (cells #[.string zj,.bool sb,slice xb nb cb,slice yb mb db,.int .i64 ic,.bool sc,slice xc nc cc9,slice yc mc dc,.int .i64 ie,.bool sd,slice xd nd cd,slice yd md dd] 131);have hx:=zdt w5 131 [.string zj,.bool sb,slice xb nb cb,slice yb mb db,.int .i64 ic,.bool sc,slice xc nc cc9,slice yc mc dc,.int .i64 ie,.bool sd,slice xd nd cd,slice yd md dd] [.string zj,.bool sb,slice xb nb cb,slice yb mb db,.int .i64 ic,.bool sc,slice xc nc cc9,slice yc mc dc,.int .i64 ie,.bool sd,slice xd nd cd,slice yd md dd] 0 (λj v e=>by rw[zero_add];exact e);exact hK.out _ _ hn ⟨w5.heap.size,⟨zj,⟨sb,xb,nb,cb,fb,yb,mb,db,gb⟩,⟨ic,⟨sc,xc,nc,cc9,fc,yc,mc,dc,gc⟩⟩,⟨ie,⟨sd,xd,nd,cd,fd,yd,md,dd,gd⟩⟩⟩,rfl,hx,hv.q_ hn⟩
   case k6 =>
    intro u w5 hS5 hb5 hg;have h1:vC=u 1:=hg 1 (by simp);have h14:FCs (2*L) ⟨z,vcost,i1,vlq,i2,vhq⟩ (u 14) w5:=hg 14 (by simp);obtain⟨b14,⟨zj,⟨sb,xb,nb,cb,fb,yb,mb,db,gb⟩,⟨ic,⟨sc,xc,nc,cc9,fc,yc,mc,dc,gc⟩⟩,⟨ie,⟨sd,xd,nd,cd,fd,yd,md,dd,gd⟩⟩⟩,e14,hcs,hqc⟩:=h14;replace HI:=zk (HI.out.q_ hb5);obtain⟨i0,hi0,hz0,hz1,hz2⟩:=info_parts zrz;obtain⟨t0,t1,t2,t3,t4,t5,t6,t7,t8,t9,t10,t11⟩:=id hS5;have hbl:=block_lt_of_cell? w5 _ t0;replace hbl:bk<w5.heap.size:=hbl;clear hg;simp only[zbl,zA,Act.put];simp only[<-h1,e14];clear h1 e14;refine rdO 15 (λK hK=>?_);refine zaW w5 rfl (.tmp 20) (.tmp 33) 93 rfl base 131 i0 zC 12 200 underlying93 hi0 hz0 hz1 hz2 rfl (by decide) nzC vC i (ccs C' i) rfl HI.out.row ⟨b14,0,none⟩ 1 1 (Lc.vs ⟨zj,⟨sb,xb,nb,cb,fb,yb,mb,db,gb⟩,⟨ic,⟨sc,xc,nc,cc9,fc,yc,mc,dc,gc⟩⟩,⟨ie,⟨sd,xd,nd,cd,fd,yd,md,dd,gd⟩⟩⟩) rfl rfl ?n1 (zjJ _) (zgr _) (by decide) ?p1 ?p2 HI.out.bs ?_
    case n1=>intro j u hu;rw[addr_add];exact hcs j u hu
    case p1=>unfold maxLen;omega
    case p2=>omega
    intro g8 cap8 w8 hr8 hgr8 hk8 hl8;have hB8:=hgr8.block bk hbl (λe=>hne e.symm);have e0:=(cell?_of_block (a:=⟨bk,0,none⟩) hB8).trans t0;have e1:=(cell?_of_block (a:=⟨bk,1,none⟩) hB8).trans t1;have e2:=(cell?_of_block (a:=⟨bk,2,none⟩) hB8).trans t2;have e3:=(cell?_of_block (a:=⟨bk,3,none⟩) hB8).trans t3;have e4:=(cell?_of_block (a:=⟨bk,4,none⟩) hB8).trans t4;have e5:=(cell?_of_block (a:=⟨bk,5,none⟩) hB8).trans t5;have e6:=(cell?_of_block (a:=⟨bk,6,none⟩) hB8).trans t6;have e7:=(cell?_of_block (a:=⟨bk,7,none⟩) hB8).trans t7;have e8:=(cell?_of_block (a:=⟨bk,8,none⟩) hB8).trans t8;have e9:=(cell?_of_block (a:=⟨bk,9,none⟩) hB8).trans t9;have e10:=(cell?_of_block (a:=⟨bk,10,none⟩) hB8).trans t10;have e11:=(cell?_of_block (a:=⟨bk,11,none⟩) hB8).trans t11;have hp8:=HI.out.p3.of (hgr8.block b3 HI.out.p3.lt (λe=>by have:=(HI.out.row.lt b3 e.symm).1;omega));have f0:=hp8.cell (j:=3) rfl;have ff:=hp8.frozen 3;refine hK.out _ _ ?_ (λhH8=>?_)
    ·exact⟨e0,e1,e2,e3,e4,e5,e6,e7,e8,e9,e10,e11⟩
    clear hK K;try simp only[Act.put,List.setIfInBounds_toArray]
    refine zK 16 ?_;simp only[zA,Act.put];refine rdO 17 (λK hK=>?_);go_simp;refine hK.out _ _ ?_ (λhH9=>?_)
    ·((try dsimp only);(refine⟨?_,?_,?_,?_,?_,?_,?_,?_,?_,?_,?_,?_⟩ <;> repeat(with_reducible first|assumption|refine kCs (by simp only[ne_eq];omega) ?_)))
    clear hK K;try simp only[Act.put]
    refine dnO ?_;have HI9:=zk (HI.out.next (by omega) (by omega) hbb (le_refl _) (λv hv=>by rw[HCV.out]at hv;cases hv;exact hqc) hr8 hk8 hgr8);clear hr8 hgr8 hk8 hl8 hB8 hp8 f0 ff hH8 hH9 HI hqc hcs hHeld HB5 e0 e1 e2 e3 e4 e5 e6 e7 e8 e9 e10 e11;go_wp2;go_roundw
    case rel=>exact⟨i+1,_,_,by omega,by go_num,HI9.out⟩
    case measure=>simp[intOf];omega
  ·have e1:i=ck:=by omega
   have i2':¬(((i:Nat):Int)<((ck:Nat):Int)):=by omega
   rw[e1]at HI
   have k4:=HI.out.p1.cell (j:=4) rfl;obtain⟨base2,hbase2⟩:∃z,wr.heap.size=z:=⟨_,rfl⟩;have hb2:base<=base2:=by have:=HI.out.bs;omega
   have HI2:Hid (FrR w base base2 (w.heap.size+1) b3 [.bool false,slice none 0 0,slice none 0 0,slice none 0 0,slice none 0 0] sz z2 nz c2 y2 mz d2 ⟨sz,z2,nz,c2,fz,y2,mz,d2,gz⟩ (2*L) q cs ck C' vC rs wr 0 R (slice none 0 0)):=⟨HI.out.bel,HI.out.p2,HI.out.p3,by omega,HI.out.off,HI.out.row,HI.out.el,λk hk=>by have:=(HI.out.row.lt k hk).2;omega,zak _ _ _ _,λj v hj=>by omega⟩;clear HI e1 HC hbase2;go_wp2_with fail
   go_loopw[40] (λt wr=>∃(i:Nat) (R':Nat->Lr) (vR:Value),i<=rk/\t=.int .i64 i/\Hid (FrR w base base2 (w.heap.size+1) b3 [.bool false,slice none 0 0,slice none 0 0,slice none 0 0,slice none 0 0] sz z2 nz c2 y2 mz d2 ⟨sz,z2,nz,c2,fz,y2,mz,d2,gz⟩ (2*L) q cs ck C' vC rs wr i R' vR)) (λt _=>rk-(intOf t).toNat)
   case atStart=>exact⟨0,R,_,by omega,rfl,HI2.out⟩
   case round =>
    obtain⟨i,R',vR,hi,rfl,HI⟩:=hrel;clear HI2 k4;by_cases hlt:i<rk
    ·obtain⟨rv,hrv⟩:∃v,rs[i]?=some v:=⟨_,getElem?_eq_getElem (by rw[<-HLR.out];exact hlt)⟩;obtain⟨⟨b,o,rfl,hc0⟩,hn0'⟩:=HRL.out i rv hrv;have hc:=hc0.q_ HI.out.bel;have hn:=hn0'.q_ HI.out.bel;obtain⟨hbd0,hts1,hts2⟩:=HBR.out rv (List.mem_of_getElem? hrv);have hbd:=zqn hbd0;have HRV:=zk hrv;clear hc0 hn0' hrv hbd0 hts1;obtain⟨rN,hrN⟩:∃t,R i=t:=⟨_,rfl⟩;rw[hrN]at hc hn
     have HRN:=zk hrN;obtain⟨z,⟨i1,⟨s1,x1,n1,c1,f1,y1,m1,d1,g1⟩⟩,⟨i2,⟨s2,x2,n2,c2',f2,y2',m2,d2',g2⟩⟩,ta,tk,tc,tcol,tt⟩:=rN;have hT:=hn.tls (le_trans hL (by decide));have hQ:∀j,j<(Lr.mk z ⟨i1,⟨s1,x1,n1,c1,f1,y1,m1,d1,g1⟩⟩ ⟨i2,⟨s2,x2,n2,c2',f2,y2',m2,d2',g2⟩⟩ ta tk tc tcol tt).tk->∃q',rv.ts[j]?=some (tcol j,q')/\Rn L wr (tt j).s (tt j).x (tt j).n (tt j).c (tt j).f (tt j).y (tt j).m (tt j).d (tt j).g q':=λj hj=>by
      rw[hn.tk]at hj
      obtain⟨⟨a,q'⟩,e⟩:∃v,rv.ts[j]?=some v:=⟨_,getElem?_eq_getElem hj⟩;obtain⟨e1,e2,_⟩:=hn.tl j a q' e;exact⟨q',by rw[e,<-e1],e2⟩
     obtain⟨vnm,vli,vlq,vhi,vhq,vts⟩:=rv;obtain⟨hnm,hli,hn1,hhi,hn2,htk,_⟩:=hn;replace hnm:z=vnm:=hnm;replace hli:i1=vli:=hli;replace hhi:i2=vhi:=hhi;replace htk:tk=vts.length:=htk;subst hnm;subst hli;subst hhi
     obtain⟨q0,q1,q2,q3,q4,q5,q6,q7,q8,q9⟩:=hc.lr;have HN1:Hid (En L wr i1 s1 x1 n1 c1 f1 y1 m1 d1 g1 vlq):=⟨hn1,hbd.1⟩;have HN2:Hid (En L wr i2 s2 x2 n2 c2' f2 y2' m2 d2' g2 vhq):=⟨hn2,hbd.2⟩;have HN3:Hid (∀W,Bl wr W->Calls prog 80 #[slice ta tk tc] W λe w'=>zop (2*L) W w' e tk vts):=λW hW=>znE (hT.q_ hW) (le_trans (Nat.le_of_eq htk) (le_trans hts2 (by decide))) (le_trans hL (by decide)) htk.symm (λj hj=>by obtain⟨q',e1,e2⟩:=hQ j hj;exact⟨q',e1,e2.q_ hW⟩)
     have HTK:=zk htk;have i1':((i:Nat):Int)<((rk:Nat):Int):=by omega
     clear hrN hc hn1 hn2 hT hQ hbd htk;go_upto_region 10 with fail
     have hb5:=Below.drew (zB wr (cells #[.string z,.int .i64 i1,.bool s1,slice x1 n1 c1,slice y1 m1 d1,.int .i64 i2,.bool s2,slice x2 n2 c2',slice y2' m2 d2',slice ta tk tc] 63));have B5:Bk (wr.alloc (cells #[.string z,.int .i64 i1,.bool s1,slice x1 n1 c1,slice y1 m1 d1,.int .i64 i2,.bool s2,slice x2 n2 c2',slice y2' m2 d2',slice ta tk tc] 63)).drew wr.heap.size [.string z,.int .i64 i1,.bool s1,slice x1 n1 c1,slice y1 m1 d1,.int .i64 i2,.bool s2,slice x2 n2 c2',slice y2' m2 d2',slice ta tk tc] 63:=zF wr [.string z,.int .i64 i1,.bool s1,slice x1 n1 c1,slice y1 m1 d1,.int .i64 i2,.bool s2,slice x2 n2 c2',slice y2' m2 d2',slice ta tk tc] 63;have hne:vR.ownBlock≠some wr.heap.size:=λe=>by have:=(HI.out.row.lt _ e).2;omega
     have hbz:=HI.out.bs;replace HI:=zk (HI.out.q_ hb5);replace HN1:=zk (HN1.out.q_ hb5);replace HN2:=zk (HN2.out.q_ hb5)
     replace HN3:Hid (∀W,Below (wr.alloc (cells #[.string z,.int .i64 i1,.bool s1,slice x1 n1 c1,slice y1 m1 d1,.int .i64 i2,.bool s2,slice x2 n2 c2',slice y2' m2 d2',slice ta tk tc] 63)).drew.heap.size (wr.alloc (cells #[.string z,.int .i64 i1,.bool s1,slice x1 n1 c1,slice y1 m1 d1,.int .i64 i2,.bool s2,slice x2 n2 c2',slice y2' m2 d2',slice ta tk tc] 63)).drew W->Calls prog 80 #[slice ta tk tc] W λe w'=>zop (2*L) W w' e tk vts):=λW hW=>HN3.out W (bUp hb5 hW)
     obtain⟨a0,a1,a2,a3,a4,a5,a6,a7,a8,a9⟩:=zef B5;have HB5:=zk B5;obtain⟨bk,hbk⟩:∃z,wr.heap.size=z:=⟨_,rfl⟩;simp only[hbk]at *;clear hb5 hbk q0 q1 q2 q3 q4 q5 q6 q7 q8 q9 B5;refine wp_region_held_drew (S:=(λw'=>w'.cell? ⟨bk,0,none⟩=some (.string z)/\w'.cell? ⟨bk,1,none⟩=some (.int .i64 i1)/\w'.cell? ⟨bk,2,none⟩=some (.bool s1)/\w'.cell? ⟨bk,3,none⟩=some (slice x1 n1 c1)/\w'.cell? ⟨bk,4,none⟩=some (slice y1 m1 d1)/\w'.cell? ⟨bk,5,none⟩=some (.int .i64 i2)/\w'.cell? ⟨bk,6,none⟩=some (.bool s2)/\w'.cell? ⟨bk,7,none⟩=some (slice x2 n2 c2')/\w'.cell? ⟨bk,8,none⟩=some (slice y2' m2 d2')/\w'.cell? ⟨bk,9,none⟩=some (slice ta tk tc))) (by kernel_rfl) ?_ (λhHeld=>?_)
     ·exact⟨a0,a1,a2,a3,a4,a5,a6,a7,a8,a9⟩
     generalize hwd:(wr.alloc (cells #[.string z,.int .i64 i1,.bool s1,slice x1 n1 c1,slice y1 m1 d1,.int .i64 i2,.bool s2,slice x2 n2 c2',slice y2' m2 d2',slice ta tk tc] 63)).drew=wd at *;clear hwd;obtain⟨bse,hbse⟩:∃z,wd.heap.size=z:=⟨_,rfl⟩;have hb2s:base2<=bse:=by have:=HI.out.bs;omega
     have hown:∀b,bse<=b->vR.ownBlock≠some b:=λb hb e=>by have:=(HI.out.row.lt b e).2;omega
     have HW:=zk hown;clear hown;refine zK 0 ?_;refine zK 2 ?_;refine zK 3 ?_;simp only[zA,Act.put];refine zK 4 ?_;refine zK 5 ?_;refine zK 7 ?_;simp only[zA,Act.put];refine zK 8 ?_;refine zK 10 ?_;refine zK 11 ?_;simp only[zA,Act.put];refine(show wpAnyH _ _ _ _ _ (6+3) _ _ _ from zbO (λj v w=>match j with|1=>vR=v|6=>FE (2*L) i1 vlq v w|9=>FE (2*L) i2 vhq v w|12=>FT (2*L) bse tk vts v w|13=>FR (2*L) bse ⟨z,i1,vlq,i2,vhq,vts⟩ v w|14=>FRs (2*L) bse ⟨z,i1,vlq,i2,vhq,vts⟩ v w|_=>True) [(1,45),(6,50),(9,53),(12,56),(13,57),(14,58)] [1,6,9,12,13,14] [15,16,17] _ _ _ 3 ?k1 ?k4 ?k2 ?k3 ?k5 ?k6 ?k8)
     case k1=>kernel_rfl
     case k4=>kernel_rfl
     case k2=>exact λw w' h hb=>⟨kCb hb h.1,kCb hb h.2.1,kCb hb h.2.2.1,kCb hb h.2.2.2.1,kCb hb h.2.2.2.2.1,kCb hb h.2.2.2.2.2.1,kCb hb h.2.2.2.2.2.2.1,kCb hb h.2.2.2.2.2.2.2.1,kCb hb h.2.2.2.2.2.2.2.2.1,kCb hb h.2.2.2.2.2.2.2.2.2⟩
     case k3 =>
      intro j v w w' h hb
      split at h <;> first|exact FE.q_ h hb|exact FT.q_ h hb|exact FR.q_ h hb|exact FRs.q_ h hb|exact h|trivial
     case k8=>exact hHeld
     case k5 =>
      intro i hi;simp only[List.mem_cons,List.not_mem_nil,or_false]at hi;rcases hi with rfl|rfl|rfl|rfl|rfl|rfl
      ·refine⟨_,rfl,λu w5 hS hb5 hd K hK=>?_⟩;have k5:=(HI.out.p3.q_ hb5).cell (j:=4) rfl;simp only[zbl,zA,Act.put]at hK ⊢;go_simp;exact hK.out _ _ (Below.refl _ _) rfl
      ·refine⟨_,rfl,λu w5 hS hb5 hd K hK=>?_⟩;simp only[zbl,zA,Act.put]at hK ⊢;go_simp
       go_at_call 79
       refine(zeu (HN1.out.q_ hb5) (le_trans hL (by decide))).mono ?_;rintro e w6 ⟨sq,zp,nq9,cp,dp,zq,mq9,cq,gq,rfl,hb6,hq⟩
       (try go_wp2_with fail)
       exact hK.out _ _ hb6 ⟨⟨i1,⟨sq,zp,nq9,cp,dp,zq,mq9,cq,gq⟩⟩,rfl,rfl,hq.out.1,hq.out.2.1,hq.out.2.2.qn⟩
      ·refine⟨_,rfl,λu w5 hS hb5 hd K hK=>?_⟩;simp only[zbl,zA,Act.put]at hK ⊢;go_simp
       go_at_call 79
       refine(zeu (HN2.out.q_ hb5) (le_trans hL (by decide))).mono ?_;rintro e w6 ⟨sq,zp,nq9,cp,dp,zq,mq9,cq,gq,rfl,hb6,hq⟩
       (try go_wp2_with fail)
       exact hK.out _ _ hb6 ⟨⟨i2,⟨sq,zp,nq9,cp,dp,zq,mq9,cq,gq⟩⟩,rfl,rfl,hq.out.1,hq.out.2.1,hq.out.2.2.qn⟩
      ·refine⟨_,rfl,λu w5 hS hb5 hd K hK=>?_⟩;simp only[zbl,zA,Act.put]at hK ⊢;go_simp
       go_at_call 80
       refine(HN3.out _ hb5).mono ?_;rintro e w6 ⟨aw,cw,rfl,hb6,_,hfr,hq⟩
       (try go_wp2_with fail)
       exact hK.out _ _ hb6 ⟨aw,cw,rfl,λb o s e=>by have h1:=hfr b o s e;have h2:=hb5.size;omega,hq.out⟩
      ·refine⟨_,rfl,λu w5 hS hb5 hd K hK=>?_⟩;have h6:FE (2*L) i1 vlq (u 6) w5:=hd 6 (by kernel_rfl) (by kernel_rfl);obtain⟨⟨ia6,⟨sa6,xa6,na6,ca6,fa6,ya6,ma6,da6,ga6⟩⟩,e6,hi6,hv6⟩:=h6;replace e6:u 6=agg #[.int .i64 ia6,.bool sa6,slice xa6 na6 ca6,slice ya6 ma6 da6]:=e6;have h9:FE (2*L) i2 vhq (u 9) w5:=hd 9 (by kernel_rfl) (by kernel_rfl);obtain⟨⟨ia9,⟨sa9,xa9,na9,ca9,fa9,ya9,ma9,da9,ga9⟩⟩,e9,hi9,hv9⟩:=h9;replace e9:u 9=agg #[.int .i64 ia9,.bool sa9,slice xa9 na9 ca9,slice ya9 ma9 da9]:=e9;have h12:FT (2*L) bse tk vts (u 12) w5:=hd 12 (by kernel_rfl) (by kernel_rfl);obtain⟨aw,cw,e12,hfr,htq⟩:=h12;simp only[zbl,zA,Act.put]at hK ⊢;simp only[e6,e9,e12]at hK ⊢;go_simp;exact hK.out _ _ (Below.refl _ _) ⟨⟨z,⟨ia6,⟨sa6,xa6,na6,ca6,fa6,ya6,ma6,da6,ga6⟩⟩,⟨ia9,⟨sa9,xa9,na9,ca9,fa9,ya9,ma9,da9,ga9⟩⟩,aw,tk,cw,λ_=>0,λ_=>nz9⟩,rfl,⟨rfl,hi6,hv6,hi9,hv9,HTK.out,htq⟩,hfr⟩
      ·refine⟨_,rfl,λu w5 hS hb5 hd K hK=>?_⟩;have h13:FR (2*L) bse ⟨z,i1,vlq,i2,vhq,vts⟩ (u 13) w5:=hd 13 (by kernel_rfl) (by kernel_rfl);obtain⟨⟨zj,⟨ic,⟨sc,xc,nc,cc9,fc,yc,mc,dc,gc⟩⟩,⟨ie,⟨sd,xd,nd,cd,fd,yd,md,dd,gd⟩⟩,ta9,tk9,tc9,tcol9,tt9⟩,e13,hv,hfr⟩:=h13;replace e13:u 13=agg #[.string zj,.int .i64 ic,.bool sc,slice xc nc cc9,slice yc mc dc,.int .i64 ie,.bool sd,slice xd nd cd,slice yd md dd,slice ta9 tk9 tc9]:=e13;simp only[zbl,zA,Act.put]at hK ⊢;simp only[e13]at hK ⊢;go_simp;have hn:=zB w5 (cells #[.string zj,.int .i64 ic,.bool sc,slice xc nc cc9,slice yc mc dc,.int .i64 ie,.bool sd,slice xd nd cd,slice yd md dd,slice ta9 tk9 tc9] 134);have hx:=zdt w5 134 [.string zj,.int .i64 ic,.bool sc,slice xc nc cc9,slice yc mc dc,.int .i64 ie,.bool sd,slice xd nd cd,slice yd md dd,slice ta9 tk9 tc9] [.string zj,.int .i64 ic,.bool sc,slice xc nc cc9,slice yc mc dc,.int .i64 ie,.bool sd,slice xd nd cd,slice yd md dd,slice ta9 tk9 tc9] 0 (λj v e=>by rw[zero_add];exact e);exact hK.out _ _ hn ⟨w5.heap.size,⟨zj,⟨ic,⟨sc,xc,nc,cc9,fc,yc,mc,dc,gc⟩⟩,⟨ie,⟨sd,xd,nd,cd,fd,yd,md,dd,gd⟩⟩,ta9,tk9,tc9,tcol9,tt9⟩,rfl,hx,hv.q_ hn,hfr⟩
     case k6 =>
      intro u w5 hS5 hb5 hg;have h1:vR=u 1:=hg 1 (by simp);have h14:FRs (2*L) bse ⟨z,i1,vlq,i2,vhq,vts⟩ (u 14) w5:=hg 14 (by simp);obtain⟨b14,⟨zj,⟨ic,⟨sc,xc,nc,cc9,fc,yc,mc,dc,gc⟩⟩,⟨ie,⟨sd,xd,nd,cd,fd,yd,md,dd,gd⟩⟩,ta9,tk9,tc9,tcol9,tt9⟩,e14,hcs,hqc,hfr⟩:=h14;replace HI:=zk (HI.out.q_ hb5);obtain⟨i0,hi0,hz0,hz1,hz2⟩:=info_parts zry;obtain⟨t0,t1,t2,t3,t4,t5,t6,t7,t8,t9⟩:=id hS5;have hbl:=block_lt_of_cell? w5 _ t0;replace hbl:bk<w5.heap.size:=hbl;clear hg;simp only[zbl,zA,Act.put];simp only[<-h1,e14];clear h1 e14;refine rdO 15 (λK hK=>?_);refine zaW w5 rfl (.tmp 45) (.tmp 58) 94 rfl base2 134 i0 zR 10 168 underlying94 hi0 hz0 hz1 hz2 rfl (by decide) nzR vR i (rcs R' i) rfl HI.out.row ⟨b14,0,none⟩ 1 1 (Lr.vs ⟨zj,⟨ic,⟨sc,xc,nc,cc9,fc,yc,mc,dc,gc⟩⟩,⟨ie,⟨sd,xd,nd,cd,fd,yd,md,dd,gd⟩⟩,ta9,tk9,tc9,tcol9,tt9⟩) rfl rfl ?n1 (zjI _) (zgq _) (by decide) ?p1 ?p2 HI.out.bs ?_
      case n1=>intro j u hu;rw[addr_add];exact hcs j u hu
      case p1=>unfold maxLen;omega
      case p2=>omega
      intro g8 cap8 w8 hr8 hgr8 hk8 hl8;have hB8:=hgr8.block bk hbl (λe=>hne e.symm);have e0:=(cell?_of_block (a:=⟨bk,0,none⟩) hB8).trans t0;have e1:=(cell?_of_block (a:=⟨bk,1,none⟩) hB8).trans t1;have e2:=(cell?_of_block (a:=⟨bk,2,none⟩) hB8).trans t2;have e3:=(cell?_of_block (a:=⟨bk,3,none⟩) hB8).trans t3;have e4:=(cell?_of_block (a:=⟨bk,4,none⟩) hB8).trans t4;have e5:=(cell?_of_block (a:=⟨bk,5,none⟩) hB8).trans t5;have e6:=(cell?_of_block (a:=⟨bk,6,none⟩) hB8).trans t6;have e7:=(cell?_of_block (a:=⟨bk,7,none⟩) hB8).trans t7;have e8:=(cell?_of_block (a:=⟨bk,8,none⟩) hB8).trans t8;have e9:=(cell?_of_block (a:=⟨bk,9,none⟩) hB8).trans t9;have hp8:=HI.out.p3.of (hgr8.block b3 HI.out.p3.lt (λe=>by have:=(HI.out.row.lt b3 e.symm).1;omega));have f0:=hp8.cell (j:=4) rfl;have ff:=hp8.frozen 4;refine hK.out _ _ ?_ (λhH8=>?_)
      ·exact⟨e0,e1,e2,e3,e4,e5,e6,e7,e8,e9⟩
      clear hK K;try simp only[Act.put,List.setIfInBounds_toArray]
      refine zK 16 ?_;simp only[zA,Act.put];refine rdO 17 (λK hK=>?_);go_simp;refine hK.out _ _ ?_ (λhH9=>?_)
      ·((try dsimp only);(refine⟨?_,?_,?_,?_,?_,?_,?_,?_,?_,?_⟩ <;> repeat(with_reducible first|assumption|refine kCs (by simp only[ne_eq];omega) ?_)))
      clear hK K;try simp only[Act.put]
      refine dnO ?_;have HI9:=zk (HI.out.next (by omega) (by omega) hbb (by omega) (λv hv=>by rw[HRV.out]at hv;cases hv;exact hqc) (λb o s e=>⟨by have:=hfr b o s e;omega,HW.out b (hfr b o s e)⟩) hr8 hk8 hgr8 hl8);clear hr8 hgr8 hk8 hl8 hB8 hp8 f0 ff hH8 hH9 HI hqc hcs hHeld HB5 e0 e1 e2 e3 e4 e5 e6 e7 e8 e9;go_wp2;go_roundw
      case rel=>exact⟨i+1,_,_,by omega,by go_num,HI9.out⟩
      case measure=>simp[intOf];omega
    ·have e1:i=rk:=by omega
     have i2':¬(((i:Nat):Int)<((rk:Nat):Int)):=by omega
     rw[e1]at HI
     obtain⟨aC,cC,rfl⟩:=HI.out.rowC.slice;obtain⟨aR,cR,rfl⟩:=HI.out.row.slice;have o0:=HI.out.p3.cell (j:=0) rfl;have o1:=HI.out.p3.cell (j:=1) rfl;have o2:=HI.out.p3.cell (j:=2) rfl;have o3:=HI.out.p3.cell (j:=3) rfl;have o4:=HI.out.p3.cell (j:=4) rfl;have r0:=HI.out.p2.cell (j:=0) rfl;have r1:=HI.out.p2.cell (j:=1) rfl;have r2:=HI.out.p2.cell (j:=2) rfl;have r3:=HI.out.p2.cell (j:=3) rfl;have r4:=HI.out.p2.cell (j:=4) rfl;have rf:=HI.out.p2.frozen;obtain⟨hx1,hx2⟩:=HI.out.done (v0:=.bool sz) (v1:=slice z2 nz c2) (v2:=slice y2 mz d2) (v3:=slice aC ck cC) (v4:=slice aR rk cR) (by omega) (by omega) (by omega) rfl HLC.out HLR.out;have HX:=zk (HA.out _ _ hx1 hx2);clear hx1 hx2 HI e1;go_wp2;exact bodyPost_ret (v:=agg #[.bool sz,slice z2 nz c2,slice y2 mz d2,slice aC ck cC,slice aR rk cR]) (by simp[results,results43,go_sem,r0,r1,r2,r3,r4]) rfl HX.out
theorem NmS.val {w t K} (h:NmS w t) (hf:nfB t=true) (hk:t.n<=K/\t.m<=K):NmV K w t (nq t):=by
 obtain⟨q,hq⟩:=Nm.rn h hf hk.1 hk.2;rw[hq.nq];exact hq
def zit (c:Lc):CV:=⟨c.nm,nq c.cost,c.lo.i,nq c.lo.v,c.hi.i,nq c.hi.v⟩
def zfc (r:Lr):RV:=⟨r.nm,r.lo.i,nq r.lo.v,r.hi.i,nq r.hi.v,(List.range r.tk).map (λp=>(r.col p,nq (r.T p)))⟩
theorem zdz {α:Type} {f n j} {v:α} (h:((List.range n).map f)[j]?=some v):j<n/\v=f j:=by
 have hlt:j<n:=by have:=(List.getElem?_eq_some_iff.1 h).1;simpa using this
 simp[hlt]at h
 exact⟨hlt,h.symm⟩
theorem zdS {α:Type} {f:Nat->α} {n j} (h:j<n):((List.range n).map f)[j]?=some (f j):=by simp[h]
theorem zqm {w a b K} (ha:NmS w a.v) (hb:NmS w b.v) (ka:a.v.n<=K/\a.v.m<=K) (kb:b.v.n<=K/\b.v.m<=K) (h:abB a b=true):NmV K w a.v (nq a.v)/\NmV K w b.v (nq b.v)/\bdB a.i (nq a.v) b.i (nq b.v)=true:=by
 obtain⟨f1,f2,h1,h2⟩:=zrI h;simp only[exF,efB,Bool.and_eq_true,Bool.or_eq_true,decide_eq_true_eq]at f1 f2;have v1:NmV K w a.v (nq a.v):=ha.val f1.1 ka;have v2:NmV K w b.v (nq b.v):=hb.val f2.1 kb;refine⟨v1,v2,?_⟩;simp only[bdB,Bool.and_eq_true,Bool.or_eq_true,decide_eq_true_eq];constructor
 ·rcases f1.2 with h|⟨h|h,h3⟩
  ·exact .inl h
  ·exact .inr ⟨h,(Rn.q_zero v1).2 h3⟩
  ·exact absurd h h1
 ·rcases f2.2 with h|⟨h|h,h3⟩
  ·exact .inl h
  ·exact absurd h h2
  ·exact .inr ⟨h,(Rn.q_zero v2).2 h3⟩
theorem zqa {w col T} {n K:Nat}:∀{r i:Nat} {last:Int},tfr col T r i last=true->(∀p,i<=p->p<i+r->col p<(n:Int))->(∀p,i<=p->p<i+r->NmV K w (T p) (nq (T p)))->tsB n last ((List.range' i r).map (λp=>(col p,nq (T p))))=true
 | 0,i,last,_,_,_=>rfl
 | r+1,i,last,h,hc,hv=>by
  simp only[tfr,Bool.and_eq_true,decide_eq_true_eq]at h;rw[List.range'_succ,List.map_cons];simp only[tsB,Bool.and_eq_true,decide_eq_true_eq];refine⟨h.1,hc i (by omega) (by omega),λe=>?_,zqa h.2.2.2 (λp a b=>hc p (by omega) (by omega)) (λp a b=>hv p (by omega) (by omega))⟩;have:=(Rn.q_zero (hv i (by omega) (by omega))).1 e;omega
def zbi (M:Mo):List CV:=(List.range M.ck).map (λj=>zit (M.C j))
def zbp (M:Mo):List RV:=(List.range M.rk).map (λj=>zfc (M.R j))
theorem MoR.movC {w M K} (h:MoR w M) (hk:MoK K M) (he:zaF M=0):MoV K w M (nq M.off) (zbi M) (zbp M)/\zbk (zbi M) (zbp M)=true:=by
 obtain⟨l1,l2,hF,n1,n2,t1,t2,hAl⟩:=zhn he;simp only[moF,Bool.and_eq_true]at hF;obtain⟨hF0,hFC,hFR⟩:=hF;have hcol:∀j,j<M.ck->ColV K w (M.C j) (zit (M.C j))/\bdB (zit (M.C j)).li (zit (M.C j)).lq (zit (M.C j)).hi (zit (M.C j)).hq=true:=λj hj=>by
  obtain⟨_,_,_,_,hn⟩:=h.cls j hj;obtain⟨f1,f2⟩:=zhm hFC j (by omega) (by omega);have k:=hk.c j hj;obtain⟨v1,v2,hb⟩:=zqm hn.lo hn.hi k.2.1 k.2.2 f2;exact⟨⟨rfl,hn.cost.val f1 k.1,rfl,v1,rfl,v2⟩,hb⟩
 have hrow:∀j,j<M.rk->RowV K w (M.R j) (zfc (M.R j))/\bdB (zfc (M.R j)).li (zfc (M.R j)).lq (zfc (M.R j)).hi (zfc (M.R j)).hq=true/\tsB M.ck (-1) (zfc (M.R j)).ts=true:=λj hj=>by
  obtain⟨_,_,_,_,hn⟩:=h.rls j hj;obtain⟨f1,f2⟩:=zeC hFR j (by omega) (by omega);have k:=hk.r j hj;obtain⟨v1,v2,hb⟩:=zqm hn.lo hn.hi k.1 k.2.1 f1;have hall:=(zoK f2).1;have hv:∀p,p<(M.R j).tk->NmV K w ((M.R j).T p) (nq ((M.R j).T p)):=λp hp=>by
   obtain⟨_,_,_,_,hr⟩:=hn.tl p hp;exact NmS.val hr (hall p (by omega) (by omega)).2.1 (k.2.2.2 p hp)
  refine⟨⟨rfl,rfl,v1,rfl,v2,by simp[zfc],λp z q e=>?_⟩,hb,?_⟩
  ·obtain⟨hp,e'⟩:=zdz e;obtain⟨b,o,ea,c4,_⟩:=hn.tl p hp;cases e'
   exact⟨rfl,hv p hp,b,o,ea,c4⟩
  ·show tsB M.ck (-1) ((List.range (M.R j).tk).map _)=true;rw[List.range_eq_range'];exact zqa f2 (λp _ hp=>(zkM f2 (zjA hAl j (by omega) (by omega)) p (by omega)).2) (λp _ hp=>hv p (by omega))
 unfold zbi zbp;refine⟨⟨h.off.val hF0 hk.off,by simp,by simp,λj v e=>?_,λj v e=>?_⟩,?_⟩
 ·obtain⟨hj,rfl⟩:=zdz e;obtain⟨b,o,ea,hc,_⟩:=h.cls j hj;exact⟨⟨b,o,ea,hc⟩,(hcol j hj).1⟩
 ·obtain⟨hj,rfl⟩:=zdz e;obtain⟨b,o,ea,hc,_⟩:=h.rls j hj;exact⟨⟨b,o,ea,hc⟩,(hrow j hj).1⟩
 ·have ec:∀j,j<M.ck->nmC ((List.range M.ck).map (λj=>zit (M.C j))) j=(M.C j).nm:=λj hj=>by unfold nmC;rw[zdS hj];rfl
  have er:∀j,j<M.rk->nmR ((List.range M.rk).map (λj=>zfc (M.R j))) j=(M.R j).nm:=λj hj=>by unfold nmR;rw[zdS hj];rfl
  simp only[zbk,Bool.and_eq_true,decide_eq_true_eq,List.all_eq_true,List.length_map,List.length_range,Bool.not_eq_true'];refine⟨l1,l2,λv hv=>?_,λv hv=>?_,?_,?_,?_,?_⟩
  ·obtain⟨j,hj,rfl⟩:=List.mem_map.1 hv;exact(hcol j (List.mem_range.1 hj)).2
  ·obtain⟨j,hj,rfl⟩:=List.mem_map.1 hv;have:=hrow j (List.mem_range.1 hj);refine⟨this.2.1,this.2.2,?_⟩;have h3:=(hk.r j (List.mem_range.1 hj)).2.2.1;simp[zfc];omega
  ·rw[zbq (S':=λj=>(M.C j).nm) (λj _ hj=>ec j (by omega))];exact n1
  ·rw[zbq (S':=λj=>(M.R j).nm) (λj _ hj=>er j (by omega))];exact n2
  ·rw[zbn (S':=λj=>(M.C j).nm) (λj hj=>ec j (by omega))];exact t1
  ·rw[zbn (S':=λj=>(M.R j).nm) (λj hj=>er j (by omega))];exact t2
theorem zmE {K w T s x n c f y m d g q s2 x2 n2 c2 f2 y2 m2 d2 g2 q2} (h:Rn K w s x n c f y m d g q) (h2:Rn K w s2 x2 n2 c2 f2 y2 m2 d2 g2 q2):Rf K (w.alloc (cells #[.bool s,slice x n c,slice y m d,.bool s2,slice x2 n2 c2,slice y2 m2 d2] T)) (some ⟨w.heap.size,0,none⟩) [q,q2]:=λj q' e=>by
 match j,e with
 | 0,e=>cases e;exact⟨w.heap.size,0,⟨s,x,n,c,f,y,m,d,g⟩,rfl,⟨by simp[go_sem],by simp[go_sem],by simp[go_sem]⟩,h.alloc _⟩
 | 1,e=>cases e;exact⟨w.heap.size,0,⟨s2,x2,n2,c2,f2,y2,m2,d2,g2⟩,rfl,⟨by simp[go_sem],by simp[go_sem],by simp[go_sem]⟩,h2.alloc _⟩
theorem zpe {M k X} (h1:zaF M=0) (h2:afB k X=true) (h3:k=M.ck):zcz M k X=0:=by
 unfold zcz;rw[h1,show pnE k X M.ck=0 by unfold pnE;rw[if_pos h2,if_pos (by rw[h3])]];rfl
theorem zbZ {L L' w sa xa na ca fa ya ma da ga sb xb nb cb fb yb mb db gb q} (ha:Rn L w sa xa na ca fa ya ma da ga q) (hb:Rn L' w sb xb nb cb fb yb mb db gb q) (h1:L<=1048576) (h2:L'<=1048576) :
  Calls prog 16 #[agg #[.bool sa,slice xa na ca,slice ya ma da],agg #[.bool sb,slice xb nb cb,slice yb mb db]] w λe w'=>e=.returned (.bool true)/\Bl w w':=by
 have l1:=ha.ln;have l2:=ha.ld;have l3:=hb.ln;have l4:=hb.ld
 refine(zeF sa xa ya na ca ma da fa ga sb xb yb nb cb mb db fb gb w ha.num.rd ha.den.rd hb.num.rd hb.den.rd (by omega) (by omega) (by omega) (by omega)).mono ?_;rintro e w' ⟨c,rfl,h3,h4⟩;refine⟨?_,h3⟩;rw[h4.2 ((ha.inj hb).2 rfl)]
theorem zll {w L L' ao bo k ca cb p} (ha:Rf L w ao p) (hb:Rf L' w bo p) (hk:p.length=k) (hk2:k<=1048576) (h1:L<=1048576) (h2:L'<=1048576) :
  Calls prog 15 #[slice ao k ca,slice bo k cb] w λe w'=>e=.returned (.bool true)/\Bl w w':=by
 have HA:=zk ha;have HB:=zk hb
 have hkk:(((k:Nat):Int) != ((k:Nat):Int))=false:=by simp
 clear ha hb;go_enter func15,ntmps15;go_wp2_with fail
 go_loopw[13] (λt wr=>∃(i:Nat),i<=k/\t=.int .i64 i/\Hid (Bl w wr)) (λt _=>k-(intOf t).toNat)
 case atStart=>exact⟨0,by omega,rfl,Below.refl _ _⟩
 case round =>
  obtain⟨i,hi,rfl,HW⟩:=hrel;by_cases hlt:i<k
  ·obtain⟨q,hq⟩:∃q,p[i]?=some q:=⟨_,getElem?_eq_getElem (by omega)⟩;obtain⟨b,o,⟨ts,tx,tn,tc,tf,ty,tm,td,tg⟩,rfl,hc,hr⟩:=(HA.out.q_ HW.out) i q hq;obtain⟨b',o',⟨ss,sx,sn,sc,sf,sy,sm,sd,sg⟩,rfl,hc',hr'⟩:=(HB.out.q_ HW.out) i q hq;obtain⟨x0,x1,x2⟩:=hc;obtain⟨p0,p1,p2⟩:=hc';replace x0:wr.cell? ⟨b,o+i*3,none⟩=some (.bool ts):=x0;replace x1:wr.cell? ⟨b,o+i*3+1,none⟩=some (slice tx tn tc):=x1;replace x2:wr.cell? ⟨b,o+i*3+2,none⟩=some (slice ty tm td):=x2;replace p0:wr.cell? ⟨b',o'+i*3,none⟩=some (.bool ss):=p0;replace p1:wr.cell? ⟨b',o'+i*3+1,none⟩=some (slice sx sn sc):=p1;replace p2:wr.cell? ⟨b',o'+i*3+2,none⟩=some (slice sy sm sd):=p2;have CS:Hid (∀W,Bl wr W->Calls prog 16 #[agg #[.bool ts,slice tx tn tc,slice ty tm td],agg #[.bool ss,slice sx sn sc,slice sy sm sd]] W λe w'=>e=.returned (.bool true)/\Bl W w'):=λW hW =>
    zbZ (Rn.q_ hr hW) (Rn.q_ hr' hW) h1 h2
   have i2:((i:Nat):Int)<((k:Nat):Int):=by omega
   clear hr hr' hq;go_upto_region 6 with fail
   go_region_held3 (λw'=>w'.cell? ⟨b,o+i*3,none⟩=some (.bool ts)/\w'.cell? ⟨b,o+i*3+1,none⟩=some (slice tx tn tc)/\w'.cell? ⟨b,o+i*3+2,none⟩=some (slice ty tm td)/\w'.cell? ⟨b',o'+i*3,none⟩=some (.bool ss)/\w'.cell? ⟨b',o'+i*3+1,none⟩=some (slice sx sn sc)/\w'.cell? ⟨b',o'+i*3+2,none⟩=some (slice sy sm sd))
    (refine⟨?_,?_,?_,?_,?_,?_⟩ <;> repeat(with_reducible first|assumption|refine kCd ?_|refine kCb (by assumption) ?_))
    ((go_at_call 16;with_reducible refine(CS.out _ (by repeat(with_reducible first|assumption|exact Below.refl _ _|refine zly ?_|refine Below.drew ?_))).mono ?_;rintro e w5 ⟨rfl,hb5⟩))
   all_goals
    (have HW5:Hid (Bl w w5):=zk (HW.out.trans (Below.mono (show Bl wr w5 by repeat(with_reducible first|assumption|exact Below.refl _ _|refine zly ?_|refine Below.drew ?_|refine kBb (by assumption) ?_)) HW.out.size))
     clear x0 x1 x2 p0 p1 p2 CS hb5;go_wp2;go_roundw
     case rel=>exact⟨i+1,by omega,by go_num,(by first|exact HW5.out|exact HW5.out.drew|exact zH HW5.out _)⟩
     case measure=>simp[intOf];omega)
  ·have i2:¬(((i:Nat):Int)<((k:Nat):Int)):=by omega
   go_wp2;go_ret;exact⟨rfl,HW.out⟩
theorem zqI {w M K} (hX:MoX w M) (hN:MoN M) (hk:M.ck<=64->M.rk<=64->MoK K M) (hK:K<=65536):Calls prog 7 #[M.val] w λe w'=>∃M':Mo,e=.returned M'.val/\Bl w w'/\Sm M M'/\MoW w' M'/\MoX w' M'/\(M'.ck<=64->M'.rk<=64->MoK K M') :=
 (zpp hX).mono λe w' ⟨M',h1,h2,h3,h4⟩=>⟨M',h1,h2,h3,λa b=>h4.mor (h3.mon hN) (h3.mok (hk (by rw[<-h3.ck];exact a) (by rw[<-h3.rk];exact b))) hK a b,h4,λa b=>h3.mok (hk (by rw[<-h3.ck];exact a) (by rw[<-h3.rk];exact b))⟩
theorem zsp {K M} (h:lgM K M=true):M.ck<=64->M.rk<=64->MoK K M:=λa b=>zrs h a b
theorem MoX.both {w M K} (h:MoX w M) (hn:MoN M) (hk:M.ck<=64->M.rk<=64->MoK K M) (hK:K<=1000):M.ck<=64->M.rk<=64->MoR w M/\MoS M:=λa b=>⟨h.mor hn (hk a b) (le_trans hK (by decide)) a b,(hk a b).mos hK⟩
theorem Sn.nq {t t':Nm} (h:Sn t t'):nq t'=nq t:=by
 obtain⟨h1,h2,h3,h4,h5⟩:=h;unfold Go.Proofs.YtlbgphjdibbkjaaGreat.nq;rw[h1,h2,h3,h4,h5]
theorem Sm.csOf {M M':Mo} (h:Sm M M'):zbi M'=zbi M:=by
 unfold Go.Proofs.YtlbgphjdibbkjaaGreat.zbi;rw[h.ck];refine List.map_congr_left (λj hj=>?_);have p:=h.C j (List.mem_range.1 hj);unfold zit;rw[p.nm,p.cost.nq,p.li,p.lo.nq,p.hi,p.hv.nq]
theorem Sm.rsOf {M M':Mo} (h:Sm M M'):zbp M'=zbp M:=by
 unfold Go.Proofs.YtlbgphjdibbkjaaGreat.zbp;rw[h.rk];refine List.map_congr_left (λj hj=>?_);have p:=h.R j (List.mem_range.1 hj);unfold zfc;rw[p.nm,p.li,p.lo.nq,p.hi,p.hv.nq,p.tk,p.col]
 congr 1
 exact List.map_congr_left (λq hq=>by rw[(p.T q (List.mem_range.1 hq)).nq])
def zbg (k:Nat) (X:Nat->Nm):List Rat:=(List.range k).map (λj=>nq (X j))
theorem zcy (k:Nat) (X:Nat->Nm):(zbg k X).length=k:=by simp[zbg]
theorem zgO {k X X'} (h:∀j,j<k->Sn (X j) (X' j)):zbg k X'=zbg k X:=List.map_congr_left (λj hj=>(h j (List.mem_range.1 hj)).nq)
theorem Rl.rfC {w ao k K X} (h:Rl w ao k X) (hf:afB k X=true) (hk:∀j,j<k->(X j).n<=K/\(X j).m<=K):Rf K w ao (zbg k X):=λj q e=>by
 obtain⟨hj,rfl⟩:=zdz e;obtain⟨b,o,h1,h2,h3⟩:=h j hj;exact⟨b,o,X j,h1,h2,NmS.val h3 (zht hf j (by omega) (by omega)) (hk j hj)⟩
theorem zfj:∀(p:List Rat) (a:Rat),psum p a=a+psum p 0
 | [],a=>by show a=a+0;grind
 | q :: p,a=>by
  simp only[psum];rw[zfj p (a+q),zfj p (0+q)]
  grind
theorem zcP (q:Rat) (p:List Rat):psum (q :: p) 0=q+psum p 0:=by
 simp only[psum];rw[zfj];grind
def lgL (K k:Nat) (X:Nat->Nm):Bool:=decide (k<=300) && nlg K X k 0
theorem MoK.up {K L M} (h:MoK K M) (hL:K<=L):MoK L M:=by
 have e:∀{a b:Nat},a<=K/\b<=K->a<=L/\b<=L:=λp=>⟨le_trans p.1 hL,le_trans p.2 hL⟩
 exact⟨e h.off,λj hj=>⟨e (h.c j hj).1,e (h.c j hj).2.1,e (h.c j hj).2.2⟩,λj hj=>⟨e (h.r j hj).1,e (h.r j hj).2.1,(h.r j hj).2.2.1,λp hp=>e ((h.r j hj).2.2.2 p hp)⟩⟩
theorem zmV {M k X} (h:zcz M k X=0):zaF M=0/\afB k X=true/\k=M.ck:=by
 obtain⟨h1,h2⟩:=zhz h;refine⟨h1,?_⟩;unfold pnE at h2;by_cases a:afB k X=true
 ·rw[if_pos a]at h2
  by_cases b:k=M.ck
  ·exact⟨a,b⟩
  ·rw[if_neg (by omega)]at h2;cases h2
 ·rw[if_neg a]at h2;cases h2
theorem znO (M:Mo):(zbi M).length=M.ck:=by simp[zbi]
def Tx (w:World) (ao:Option Addr) (k:Nat) (X X':Nat->Nm):Prop:=Rl w ao k X'/\∀j,j<k->Sn (X j) (X' j)
theorem Tx.q_ {w w' ao k X X'} (h:Tx w ao k X X') (hb:Bl w w'):Tx w' ao k X X':=⟨h.1.q_ hb,h.2⟩
def Sh (k:Nat) (X:Nat->Nm):Prop:=k<=300/\∀j,j<k->(X j).n<=6/\(X j).m<=6
theorem Tx.val {w ao k X X'} (h:Tx w ao k X X') (hs:Sh k X) (ha:afB k X=true):Rf 6 w ao (zbg k X):=by
 rw[<-zgO h.2];refine h.1.rfC ?_ (λj hj=>by rw[(h.2 j hj).2.1,(h.2 j hj).2.2.2.1];exact hs.2 j hj);exact(zfG (λj _ b=>h.2 j (by omega))).trans ha
theorem Dn.len_pd {w x n d V K} (h:Dn w x n d V) (hv:(V:Int)<pd K):n<=K:=by
 by_cases hn:n<=K
 ·exact hn
 ·have h1:=zcd h.dg h.fm (by omega);have h2:=zdF (show K<=n-1 by omega);have h3:=h.val;omega
theorem Dn.lt_pd {w x n d V K} (h:Dn w x n d V) (hn:n<=K):(V:Int)<pd K:=by
 have h1:=zcr h.dg;have h2:=zdF hn;have h3:=h.val;omega
theorem Qn.len {w s x n d y m g q K} (h:Qn w s x n d y m g q) (hq:Lo K q):n<=2*K/\m<=2*K :=
 ⟨h.num.dn.len_pd (by rw[zdT];exact hq.1),h.den.len_pd (by rw[zdT];exact hq.2)⟩
theorem Qn.lo {w s x n d y m g q K} (h:Qn w s x n d y m g q) (hn:n<=2*K) (hm:m<=2*K):Lo K q :=
 ⟨by rw[<-zdT];exact h.num.dn.lt_pd hn,by rw[<-zdT];exact h.den.lt_pd hm⟩
def KE (L:Nat):Nat:=2*(4+64*(2*L+2))
theorem zre {K K' w t q} (h:QnT K w t q) (hk:K<=K'):QnT K' w t q:=⟨le_trans h.1 hk,le_trans h.2.1 hk,h.2.2⟩
def KZ (L:Nat):Nat:=3+L+64*(2*L+2)
theorem zgN:∀(a b:List Rat),psum (a++b) 0=psum a 0+psum b 0
 | [],b=>by show psum b 0=0+psum b 0;grind
 | q :: a,b=>by rw[List.cons_append,zcP,zcP,zgN a b];grind
theorem zhL (q:Rat):psum [q] 0=q:=by rw[zcP];show q+0=q;grind
theorem zqg {B}:∀{l:List Rat},(∀q ∈ l,Lo B q)->Lo (1+l.length*(B+1)) (psum l 0)
 | [],_=>Lo.mono (zdW (L:=1) (le_refl 1)) (Nat.le_add_right _ _)
 | q :: l,h=>by
  rw[zcP];exact(zfr (h q List.mem_cons_self) (zqg (λp hp=>h p (List.mem_cons_of_mem _ hp)))).mono (by rw[List.length_cons,Nat.add_mul];omega)
theorem zfy {y j}:∀{ts:List (Int × Rat)} {q:Rat},q ∈ zbh y ts j->∃t ∈ ts,q=-y*t.2
 | [],q,h=>by simp[zbh]at h
 | (z,a) :: r,q,h=>by
  simp only[zbh,List.mem_append]at h;rcases h with h|h
  ·split at h
   ·exact⟨(z,a),List.mem_cons_self,by simpa using h⟩
   ·cases h
  ·obtain⟨t,h1,h2⟩:=zfy h;exact⟨t,List.mem_cons_of_mem _ h1,h2⟩
theorem zgh {j}:∀{rs:List RV} {ys:List Rat} {q:Rat},q ∈ zW rs ys j->∃v ∈ rs,∃y ∈ ys,∃t ∈ v.ts,q=-y*t.2
 | [],_,q,h=>by simp[zW]at h
 | _ :: _,[],q,h=>by simp[zW]at h
 | v :: rs,y :: ys,q,h=>by
  simp only[zW,List.mem_append]at h;rcases h with h|h
  ·obtain⟨t,h1,h2⟩:=zfy h;exact⟨v,List.mem_cons_self,y,List.mem_cons_self,t,h1,h2⟩
  ·obtain⟨v',h1,y',h2,r⟩:=zgh h;exact⟨v',List.mem_cons_of_mem _ h1,y',List.mem_cons_of_mem _ h2,r⟩
def cstQ (cs:List CV) (j:Nat):Rat:=(cs[j]?.map (·.cost)).getD 0
def roQ (cs:List CV) (rs:List RV) (ys:List Rat) (i j:Nat):Rat:=psum (zW (rs.take i) (ys.take i) j) 0+cstQ cs j
def rdQ (cs:List CV) (rs:List RV) (ys:List Rat) (i:Nat) (y:Rat) (ts:List (Int × Rat)) (j:Nat):Rat:=psum (zW (rs.take i) (ys.take i) j++zbh y ts j) 0+cstQ cs j
theorem zmC (cs:List CV) (rs:List RV) (ys:List Rat) (j:Nat):roQ cs rs ys 0 j=cstQ cs j:=by
 show psum [] 0+cstQ cs j=_;show 0+cstQ cs j=_
 grind
theorem zoW (cs:List CV) (rs:List RV) (ys:List Rat) (i:Nat) (y:Rat) (ts:List (Int × Rat)):rdQ cs rs ys i y (ts.take 0)=roQ cs rs ys i:=by
 funext j
 show psum (_++[]) 0+_=_;rw[List.append_nil];rfl
theorem zoV {cs rs ys i v y} (h:rs[i]?=some v) (h2:ys[i]?=some y):rdQ cs rs ys i y v.ts=roQ cs rs ys (i+1):=by
 funext j
 unfold rdQ roQ;rw[zck j h h2]
theorem zmG {cs rs ys i y} {ts:List (Int × Rat)} {p zn:Nat} {a} (h:ts[p]?=some ((zn:Int),a)) (j:Nat):rdQ cs rs ys i y (ts.take (p+1)) j=if zn=j then rdQ cs rs ys i y (ts.take p) j-y*a else rdQ cs rs ys i y (ts.take p) j:=by
 unfold rdQ;rw[zcY j h,<-List.append_assoc,zgN];by_cases e:zn=j
 ·rw[if_pos e,if_pos (by omega),zhL];grind
 ·rw[if_neg e,if_neg (by omega)];show _+(0:Rat)+_=_
  grind
theorem zqX {L cs rs ys i y ts j} (hi:i<rs.length) (hl:rs.length<=64) (hts:∀v ∈ rs,tsB cs.length (-1) v.ts=true) (ht:tsB cs.length (-1) ts=true) (hc:∀v ∈ cs,Lo L v.cost) (hy:∀q ∈ ys,Lo L q) (hy1:Lo L y) (hr:∀v ∈ rs,∀t ∈ v.ts,Lo L t.2) (ht1:∀t ∈ ts,Lo L t.2):Lo (KZ L) (rdQ cs rs ys i y ts j):=by
 have h1:=zbF (j:=j) (rs:=rs.take i) (ys:=ys.take i) (λv hv=>hts v (List.mem_of_mem_take hv));have h2:=zcH (y:=y) (j:=j) ht;have h3:=zqg (B:=L+L+1) (l:=zW (rs.take i) (ys.take i) j++zbh y ts j) (λq hq=>by
  rcases List.mem_append.1 hq with hq|hq
  ·obtain⟨v,hv,y',hy',t,htt,rfl⟩:=zgh hq;exact zfq (znp (hy y' (List.mem_of_mem_take hy'))) (hr v (List.mem_of_mem_take hv) t htt)
  ·obtain⟨t,h4,rfl⟩:=zfy hq;exact zfq (znp hy1) (ht1 t h4))
 have h5:Lo (L+1) (cstQ cs j):=by
  unfold cstQ;cases e:cs[j]? with
  | none=>exact zdW (by omega)
  | some v=>exact(hc v (List.mem_of_getElem? e)).mono (Nat.le_succ _)
 refine(zfr h3 h5).mono ?_;have h6:(zW (rs.take i) (ys.take i) j++zbh y ts j).length<=64:=by
  rw[List.length_append];rw[List.length_take]at h1
  omega
 have h7:=Nat.mul_le_mul_right (L+L+1+1) h6;unfold KZ;have e:2*L+2=L+L+1+1:=by omega
 rw[e];omega
theorem zhI {rs ys}:∀{cs:List CV} {i j:Nat} {v:CV},cs[i]?=some v->(zaA rs ys j cs)[i]?=some (psum (zW rs ys (j+i)++[v.cost]) 0)
 | [],i,j,v,h=>by simp at h
 | v' :: cs,0,j,v,h=>by
  have e:v'=v:=by simpa using h
  subst e;rfl
 | v' :: cs,i+1,j,v,h=>by
  simp only[zaA,List.getElem?_cons_succ];rw[zhI (cs:=cs) (i:=i) (j:=j+1) (by simpa using h),show j+1+i=j+(i+1) by omega]
theorem zoO {cs rs ys j q} (hl:ys.length=rs.length) (h:(zaA rs ys 0 cs)[j]?=some q):roQ cs rs ys rs.length j=q:=by
 have hj:j<cs.length:=by rw[<-zaX rs ys cs 0];exact(List.getElem?_eq_some_iff.1 h).1
 obtain⟨v,hv⟩:∃v,cs[j]?=some v:=⟨_,getElem?_eq_getElem hj⟩;rw[zhI hv,zero_add]at h
 rw[<-Option.some.inj h,roQ,List.take_of_length_le (le_refl _),List.take_of_length_le (by omega),zgN,zhL,cstQ,hv];rfl
theorem Rk.qn {w B n o u s x k f y m g q} (h:Rk w B n) (ho:o<n*3) (hx:Qn w s x k f y m g q):Qn (w.setCell ⟨B,o,none⟩ u) s x k f y m g q :=
 ⟨⟨⟨h.rd ho hx.num.dn.rd,hx.num.dn.dg,hx.num.dn.fm,hx.num.dn.val⟩,hx.num.sgn,hx.num.pos⟩,⟨h.rd ho hx.den.rd,hx.den.dg,hx.den.fm,hx.den.val⟩⟩
def Qr (K:Nat) (w:World) (B n:Nat) (Q:Nat->Rat):Prop:=∀j,j<n->∃t:Nm,C3 w B (j*3) (.bool t.s) (slice t.x t.n t.c) (slice t.y t.m t.d)/\QnT K w t (Q j)
theorem Qr.q_ {K w w' B n Q} (h:Qr K w B n Q) (hb:Bl w w'):Qr K w' B n Q:=λj hj=>by
 obtain⟨t,h1,h2⟩:=h j hj;exact⟨t,h1.q_ hb,h2.q_ hb⟩
theorem zsh {K w B n j Q Q' s x k c f y m d g} (h:Rk w B n) (hq:Qr K w B n Q) (hj:j<n) (hr:QnT K w ⟨s,x,k,c,f,y,m,d,g⟩ (Q' j)) (hs:∀j',j'≠j->Q' j'=Q j') :
  Rk (((w.setCell ⟨B,j*3,none⟩ (.bool s)).setCell ⟨B,j*3+1,none⟩ (slice x k c)).setCell ⟨B,j*3+2,none⟩ (slice y m d)) B n/\Qr K (((w.setCell ⟨B,j*3,none⟩ (.bool s)).setCell ⟨B,j*3+1,none⟩ (slice x k c)).setCell ⟨B,j*3+2,none⟩ (slice y m d)) B n Q':=by
 have k1:=h.set (o:=j*3) (u:=.bool s) (λi h=>by cases h);have k2:=k1.set (o:=j*3+1) (u:=slice x k c) (λi h=>by cases h);have k3:=k2.set (o:=j*3+2) (u:=slice y m d) (λi h=>by cases h);refine⟨k3,λj' hj'=>?_⟩;obtain⟨_,a0,_⟩:=h.has (j*3) (by omega);obtain⟨_,a1,_⟩:=k1.has (j*3+1) (by omega);obtain⟨_,a2,_⟩:=k2.has (j*3+2) (by omega);by_cases e:j'=j
 ·subst e;exact⟨⟨s,x,k,c,f,y,m,d,g⟩,⟨kCo (by omega) (kCo (by omega) (kCe (kI0 a0))),kCo (by omega) (kCe (kI0 a1)),kCe (kI0 a2)⟩,hr.1,hr.2.1,k2.qn (by omega) (k1.qn (by omega) (h.qn (by omega) hr.2.2))⟩
 ·obtain⟨t,⟨c0,c1,c2⟩,ht⟩:=hq j' hj';rw[hs j' e];exact⟨t,⟨kCo (by omega) (kCo (by omega) (kCo (by omega) c0)),kCo (by omega) (kCo (by omega) (kCo (by omega) c1)),kCo (by omega) (kCo (by omega) (kCo (by omega) c2))⟩,ht.1,ht.2.1,k2.qn (by omega) (k1.qn (by omega) (h.qn (by omega) ht.2.2))⟩
def Zl (w:World) (base K:Nat) (ao:Option Addr) (n:Nat) (Q:Nat->Rat):Prop:=0<n->∃B,ao=some ⟨B,0,none⟩/\base<=B/\Rk w B n/\Qr K w B n Q
theorem Zl.q_ {w w' base K ao n Q} (h:Zl w base K ao n Q) (hb:Bl w w'):Zl w' base K ao n Q:=λhn=>by
 obtain⟨B,h1,h2,h3,h4⟩:=h hn;exact⟨B,h1,h2,h3.q_ hb,h4.q_ hb⟩
theorem zrS {e base K n cap w ao T Q} (h:RowG e 3 base w (slice ao n cap) n (rcells (rls n T))) (hq:∀j,j<n->QnT K w (T j) (Q j)):Zl w base K ao n Q:=λhn=>by
 have hc:=λj (hj:j<n)=>zcf h hj
 obtain⟨h1,h2⟩:=h;rcases h2 with⟨_,h0⟩|⟨g,cap',cur,hv,hb,hg,hle,hm,hs,ht,hnu⟩
 ·omega
 ·cases hv
  refine⟨g,rfl,hb,⟨(Array.getElem?_eq_some_iff.1 hg).1,λo ho=>?_,λo=>by simp[World.frozen?,hg]⟩,λj hj=>?_⟩
  ·have hlt:o<cur.size:=by omega
   exact⟨cur[o],by simp[World.cell?,hg,hlt],λi hi=>hnu o i (by rw[Array.getElem?_eq_getElem hlt,hi])⟩
  ·obtain⟨b,hb2,hc3⟩:=hc j hj;cases hb2
   rw[zero_add]at hc3
   exact⟨T j,hc3,hq j hj⟩
theorem Zl.rqs {w base K ao n Q p} (h:Zl w base K ao n Q) (hl:p.length=n) (hp:∀j q,p[j]?=some q->Q j=q):Rqs K w ao p:=λj q hj=>by
 have hlt:j<n:=by rw[<-hl];exact(List.getElem?_eq_some_iff.1 hj).1
 obtain⟨B,h1,_,_,h4⟩:=h (by omega);obtain⟨t,h5,h6⟩:=h4 j hlt;rw[hp j q hj]at h6
 exact⟨B,0,t,h1,by rw[zero_add];exact h5,h6⟩
def zrM (K:Nat) (w w':World) (e:Ending) (k:Nat) (p:List Rat):Prop:=∃aw cw,e=.returned (slice aw k cw)/\Bl w w'/\(k<=cw/\cw<=9223372036854775807)/\Hid (Rqs K w' aw p)/\Hid (0<k->∃B,aw=some ⟨B,0,none⟩/\w.heap.size<=B)
theorem zoY {w L M off cs rs ay k cap ys} (h:MqV (2*L) w M off cs rs) (hy:Rqs (2*L) w ay ys) (hk:ys.length=k) (hkr:k=rs.length) (hm:MvP cs rs) (hts:∀v ∈ rs,tsB cs.length (-1) v.ts=true) (hL:L<=60) :
  Calls prog 42 #[M.val,slice ay k cap] w λe w'=>zrM (2*KZ L) w w' e cs.length (zaA rs ys 0 cs):=by
 have hcl:=hm.cl;have hrl:=hm.rl;subst hkr;have HLQ:Hid (∀i y ts j,i<rs.length->tsB cs.length (-1) ts=true->Lo L y->(∀t ∈ ts,Lo L t.2)->Lo (KZ L) (rdQ cs rs ys i y ts j)):=by
  intro i y ts j hi ht hy1 ht1;refine zqX hi hrl hts ht (λv hv=>?_) (λq hq=>?_) hy1 (λv hv t htt=>?_) ht1
  ·obtain⟨j,hj,e⟩:=List.getElem_of_mem hv;have h1:=(h.cls j v (by rw[getElem?_eq_getElem hj,e])).2.cost;exact h1.2.2.lo h1.1 h1.2.1
  ·obtain⟨j,hj,e⟩:=List.getElem_of_mem hq;obtain⟨_,_,t,_,_,h1⟩:=hy j q (by rw[getElem?_eq_getElem hj,e]);exact h1.2.2.lo h1.1 h1.2.1
  ·obtain⟨j,hj,e⟩:=List.getElem_of_mem hv;obtain⟨p,hp,e2⟩:=List.getElem_of_mem htt;obtain⟨_,_,t3,_,_,h1⟩:=(h.rls j v (by rw[getElem?_eq_getElem hj,e])).2.tl p t.1 t.2 (by rw[getElem?_eq_getElem hp,e2]);exact h1.2.2.lo h1.1 h1.2.1
 obtain⟨⟨s,x,n,c,f,y,m,d,g⟩,ca,ck,cc,C,ra,rk,rc,R⟩:=M;have hck:ck=cs.length:=h.ck;have hrk:rk=rs.length:=h.rk;subst hck;subst hrk;have HC:Hid (∀j v,cs[j]?=some v->(∃b o,ca=some ⟨b,o,none⟩/\Cs w b (o+j*12) (C j).vs)/\QcV (2*L) w (C j) v):=h.cls;have HR:Hid (∀j v,rs[j]?=some v->(∃b o,ra=some ⟨b,o,none⟩/\Cs w b (o+j*10) (R j).vs)/\QrV (2*L) w (R j) v):=h.rls;have HX:=zk hy;have HTS:=zk hts;clear h hy hts hm;have HB0:=zk (zB w (cells #[.bool s,slice x n c,slice y m d,slice ca cs.length cc,slice ra rs.length rc] 96));have BM:=zk (zF w [.bool s,slice x n c,slice y m d,slice ca cs.length cc,slice ra rs.length rc] 96);show Calls prog 42 #[agg #[.bool s,slice x n c,slice y m d,slice ca cs.length cc,slice ra rs.length rc],slice ay rs.length cap] w _;have r3:=BM.out.cell (j:=3) rfl;go_enter func42,ntmps42;go_wp2_with fail
 clear r3;generalize(w.alloc (cells #[.bool s,slice x n c,slice y m d,slice ca cs.length cc,slice ra rs.length rc] 96))=w0 at *;go_loopw[5,15] (λov t wr=>∃(i:Nat) (T':Nat->Nm),i<=cs.length/\t=.int .i64 i/\Hid (Bl w0 wr)/\Hid (RowG 73 3 w0.heap.size wr ov i (rcells (rls i T')))/\Hid (∀j,j<i->QnT (2*KZ L) wr (T' j) (cstQ cs j))) (λ_ t _=>cs.length-(intOf t).toNat)
 case atStart=>exact⟨0,λj=>(C j).cost,by omega,rfl,Below.refl _ _,zak _ _ _ _,λj hj=>by omega⟩
 case round =>
  obtain⟨i,T',hi,rfl,HB,HRow,HT⟩:=hrel;by_cases hlt:i<cs.length
  ·obtain⟨v,hv⟩:∃v,cs[i]?=some v:=⟨_,getElem?_eq_getElem hlt⟩;have hbw:=bUp HB0.out HB.out;obtain⟨⟨b,o,hca,hc0⟩,hn⟩:=HC.out i v hv;subst hca;have hc:=hc0.q_ hbw;have hq:=zre (K':=2*KZ L) (hn.cost.q_ hbw) (by unfold KZ;omega);have hcst:cstQ cs i=v.cost:=by unfold cstQ;rw[hv];rfl
   rw[<-hcst]at hq
   obtain⟨⟨z,⟨s0,x0,n0,c0,f0,y0,m0,d0,g0⟩,⟨i1,⟨s1,x1,n1,c1,f1,y1,m1,d1,g1⟩⟩,⟨i2,⟨s2,x2,n2,c2,f2,y2,m2,d2,g2⟩⟩⟩,hCi⟩:∃t,C i=t:=⟨_,rfl⟩;rw[hCi]at hc hq
   replace hq:QnT (2*KZ L) wr ⟨s0,x0,n0,c0,f0,y0,m0,d0,g0⟩ (cstQ cs i):=hq;obtain⟨q0,q1,q2,q3,q4,q5,q6,q7,q8,q9,q10,q11⟩:=hc.lc;have hbt:=zB wr (cells #[.string z,.bool s0,slice x0 n0 c0,slice y0 m0 d0,.int .i64 i1,.bool s1,slice x1 n1 c1,slice y1 m1 d1,.int .i64 i2,.bool s2,slice x2 n2 c2,slice y2 m2 d2] 131);have BC:=zF wr [.string z,.bool s0,slice x0 n0 c0,slice y0 m0 d0,.int .i64 i1,.bool s1,slice x1 n1 c1,slice y1 m1 d1,.int .i64 i2,.bool s2,slice x2 n2 c2,slice y2 m2 d2] 131;have i1':((i:Nat):Int)<((cs.length:Nat):Int):=by omega
   clear hCi hc hc0 hn hv hcst hbw;go_upto_region 5 with fail
   clear q0 q1 q2 q3 q4 q5 q6 q7 q8 q9 q10 q11;obtain⟨-,a1,a2,a3⟩:=bk4 BC;have HN:=zk (hq.q_ hbt);have HRow5:=zk (HRow.out.q_ hbt);have HB5:=zJ HB hbt
   have HT5:Hid (∀j,j<i->QnT (2*KZ L) (wr.alloc (cells #[.string z,.bool s0,slice x0 n0 c0,slice y0 m0 d0,.int .i64 i1,.bool s1,slice x1 n1 c1,slice y1 m1 d1,.int .i64 i2,.bool s2,slice x2 n2 c2,slice y2 m2 d2] 131)) (T' j) (cstQ cs j)):=λj hj=>(HT.out j hj).q_ hbt
   clear hbt BC hq HB HRow HT;generalize hbx:wr.heap.size=bx at *;generalize wr.alloc (cells #[.string z,.bool s0,slice x0 n0 c0,slice y0 m0 d0,.int .i64 i1,.bool s1,slice x1 n1 c1,slice y1 m1 d1,.int .i64 i2,.bool s2,slice x2 n2 c2,slice y2 m2 d2] 131)=w5 at *;clear hbx;have hsz:=HB5.out.size;go_wp2_with(at_builtin;go_must (refine zO w5 rfl (.tmp 19) (.tmp 22) 91 rfl w0.heap.size 73 56 3 (agg #[.bool false,slice none 0 0,slice none 0 0]) underlying91 zqj rfl (by decide) nz3 u5 i (rcells (rls i T')) rfl HRow5.out #[.bool s0,slice x0 n0 c0,slice y0 m0 d0] rfl rfl (zdo _ _ _ _ _ _ _) (zcB _ _ _ _ _ _ _) ?p1 (by decide) hsz ?_))
   case p1=>omega
   intro g8 cap8 w8 hr8 hk8 hb8 hg8;have HB8:=zk (hb8 w0 HB5.out (le_refl _));have HR8:Hid (RowG 73 3 w0.heap.size w8 (slice (some ⟨g8,0,none⟩) (i+1) cap8) (i+1) (rcells (rls (i+1) (zaD T' i ⟨s0,x0,n0,c0,f0,y0,m0,d0,g0⟩)))):=by
    show RowG _ _ _ _ _ _ _;rw[zcM];exact hr8
   have HT8:Hid (∀j,j<i+1->QnT (2*KZ L) w8 (zaD T' i ⟨s0,x0,n0,c0,f0,y0,m0,d0,g0⟩ j) (cstQ cs j)):=λj hj=>by
    by_cases e:j=i
    ·subst e;rw[zbs];exact HN.out.kp hk8
    ·rw[putN_ne e];exact(HT5.out j (by omega)).kp hk8
   clear hr8 hk8 hb8 hg8 HRow5 HT5 HB5 HN hsz a1 a2 a3;go_wp2;go_roundw
   case rel=>exact⟨i+1,_,by omega,by go_num,HB8.out,HR8.out,HT8.out⟩
   case measure=>simp[intOf];omega
  ·have e1:i=cs.length:=by omega
   have i4':¬(((i:Nat):Int)<((cs.length:Nat):Int)):=by omega
   rw[e1]at HRow HT
   obtain⟨aw,cw,rfl⟩:=HRow.out.slice;have hcw:cs.length<=cw/\cw<=9223372036854775807:=by
    rcases HRow.out.2 with⟨hv,h0⟩|⟨_,_,_,hv,_,_,h5,h6,_⟩
    ·simp only[Value.slice.injEq]at hv;obtain⟨_,_,h9⟩:=hv;omega
    ·simp only[Value.slice.injEq]at hv;obtain⟨_,_,h9⟩:=hv;unfold maxLen at h6;omega
   have HZ:Hid (Zl wr w0.heap.size (2*KZ L) aw cs.length (roQ cs rs ys 0)):=zrS HRow.out (λj hj=>by rw[zmC];exact HT.out j hj);have r4:=(BM.out.q_ HB.out).cell (j:=4) rfl;have HW:=zk HB.out;have HCW:=zk hcw;clear e1 HT HB HRow HC hcw;go_wp2_with fail
   clear r4 i4' hi hlt;generalize wr=w1 at *;go_loopw[28] (λt wr=>∃(i:Nat),i<=rs.length/\t=.int .i64 i/\Hid (Bl w0 wr)/\Hid (Zl wr w0.heap.size (2*KZ L) aw cs.length (roQ cs rs ys i))) (λt _=>rs.length-(intOf t).toNat)
   case atStart=>exact⟨0,by omega,rfl,HW.out,HZ.out⟩
   case round =>
    clear HW HZ;obtain⟨i,hi,rfl,HB,HZ⟩:=hrel;by_cases hlt:i<rs.length
    ·obtain⟨v,hv⟩:∃v,rs[i]?=some v:=⟨_,getElem?_eq_getElem hlt⟩;obtain⟨yq,hyq⟩:∃t,ys[i]?=some t:=⟨_,getElem?_eq_getElem (by omega)⟩;have hbw:=bUp HB0.out HB.out;obtain⟨⟨b,o,hra,hc0⟩,hn⟩:=HR.out i v hv;subst hra;have hc:=hc0.q_ hbw;have hvm:=List.mem_of_getElem? hv;obtain⟨b',o',⟨s3,x3,n3,c3,f3,y3,m3,d3,g3⟩,hay,hcy,hqy⟩:=HX.out i yq hyq;subst hay;have HCY:Hid (C3 w b' (o'+i*3) (.bool s3) (slice x3 n3 c3) (slice y3 m3 d3)):=hcy;have HQY:Hid (n3<=2*L/\m3<=2*L/\Qn w s3 x3 n3 f3 y3 m3 g3 yq):=hqy;have HY1:Hid (Lo L yq):=hqy.2.2.lo hqy.1 hqy.2.1;have htl:=hn.tl;have htk:=hn.tk;have HS:=zk (HTS.out v hvm);have hvl:v.ts.length<=64:=by have:=zgw HS.out (by omega);omega
     have HRW:=zk (zoV (cs:=cs) hv hyq);obtain⟨⟨z,⟨i1,⟨s1,x1,n1,c1,f1,y1,m1,d1,g1⟩⟩,⟨i2,⟨s2,x2,n2,c2,f2,y2,m2,d2,g2⟩⟩,ta,tk,tc,tcol,tt⟩,hCi⟩:∃t,R i=t:=⟨_,rfl⟩;rw[hCi]at hc htl htk
     replace htk:tk=v.ts.length:=htk;subst htk;have HTQ:Hid (Tq (2*L) w ta v.ts):=htl;obtain⟨q0,q1,q2,q3,q4,q5,q6,q7,q8,q9⟩:=hc.lr;have hbt:=zB wr (cells #[.string z,.int .i64 i1,.bool s1,slice x1 n1 c1,slice y1 m1 d1,.int .i64 i2,.bool s2,slice x2 n2 c2,slice y2 m2 d2,slice ta v.ts.length tc] 134);have BC:=zF wr [.string z,.int .i64 i1,.bool s1,slice x1 n1 c1,slice y1 m1 d1,.int .i64 i2,.bool s2,slice x2 n2 c2,slice y2 m2 d2,slice ta v.ts.length tc] 134;have i1':((i:Nat):Int)<((rs.length:Nat):Int):=by omega
     clear hCi hc hc0 hn hv hvm hbw hyq hcy hqy htl;go_upto_region 10 with fail
     clear q0 q1 q2 q3 q4 q5 q6 q7 q8 q9;have a9:=BC.cell (j:=9) rfl;replace HB:=zJ HB hbt;replace HZ:=zk (HZ.out.q_ hbt)
     clear hbt BC;generalize hbx:wr.heap.size=bx at *;generalize wr.alloc (cells #[.string z,.int .i64 i1,.bool s1,slice x1 n1 c1,slice y1 m1 d1,.int .i64 i2,.bool s2,slice x2 n2 c2,slice y2 m2 d2,slice ta v.ts.length tc] 134)=w5 at *;clear hbx;go_wp2_with fail
     clear a9;go_loopw[36] (λt wr=>∃(p:Nat),p<=v.ts.length/\t=.int .i64 p/\Hid (Bl w0 wr)/\Hid (Zl wr w0.heap.size (2*KZ L) aw cs.length (rdQ cs rs ys i yq (v.ts.take p)))) (λt _=>v.ts.length-(intOf t).toNat)
     case atStart=>exact⟨0,by omega,rfl,HB.out,by show Zl _ _ _ _ _ _;rw[zoW];exact HZ.out⟩
     case round =>
      clear HB HZ;obtain⟨p,hp,rfl,HB,HZ⟩:=hrel;by_cases hlp:p<v.ts.length
      ·obtain⟨⟨z2,q⟩,haq⟩:∃t,v.ts[p]?=some t:=⟨_,getElem?_eq_getElem hlp⟩;obtain⟨hz0,hz1,_⟩:=zdx HS.out _ (List.mem_of_getElem? haq);replace hz0:(-1:Int)<z2:=hz0;replace hz1:z2<(cs.length:Int):=hz1;obtain⟨zn,rfl⟩:=Int.eq_ofNat_of_zero_le (show 0<=z2 by omega);have hbw:=bUp HB0.out HB.out;obtain⟨b2,o2,⟨ts,tx,tn,tc2,tf,ty,tm,td,tg⟩,hta,hc,hr⟩:=HTQ.out p (zn:Int) q haq;subst hta;obtain⟨k0,k1,k2,k3⟩:=hc.q_ hbw;replace k0:wr.cell? ⟨b2,o2+p*4,none⟩=some (.int .i64 zn):=k0;replace k1:wr.cell? ⟨b2,o2+p*4+1,none⟩=some (.bool ts):=k1;replace k2:wr.cell? ⟨b2,o2+p*4+2,none⟩=some (slice tx tn tc2):=k2;replace k3:wr.cell? ⟨b2,o2+p*4+3,none⟩=some (slice ty tm td):=k3;have hr2:tn<=2*L/\tm<=2*L/\Qn wr ts tx tn tf ty tm tg q:=hr.q_ hbw;obtain⟨BZ,hao,hge,hk,hqr⟩:=HZ.out (by omega);subst hao;obtain⟨⟨ls,lx,ln,lc,lf,ly,lm,ld,lg⟩,⟨p0,p1,p2⟩,hr0⟩:=hqr zn (by omega);replace p0:wr.cell? ⟨BZ,zn*3,none⟩=some (.bool ls):=p0;replace p1:wr.cell? ⟨BZ,zn*3+1,none⟩=some (slice lx ln lc):=p1;replace p2:wr.cell? ⟨BZ,zn*3+2,none⟩=some (slice ly lm ld):=p2;replace hr0:ln<=2*KZ L/\lm<=2*KZ L/\Qn wr ls lx ln lf ly lm lg (rdQ cs rs ys i yq (v.ts.take p) zn):=hr0;obtain⟨v0,v1,v2⟩:=HCY.out.q_ hbw;replace v0:wr.cell? ⟨b',o'+i*3,none⟩=some (.bool s3):=v0;replace v1:wr.cell? ⟨b',o'+i*3+1,none⟩=some (slice x3 n3 c3):=v1;replace v2:wr.cell? ⟨b',o'+i*3+2,none⟩=some (slice y3 m3 d3):=v2;have hr1:=HQY.out.2.2.q_ hbw;obtain⟨ly1,ly2,_⟩:=HQY.out;have hbt:=zB wr (cells #[.int .i64 zn,.bool ts,slice tx tn tc2,slice ty tm td] 136);obtain⟨a0,a1,a2,a3⟩:=bk4 (zF wr [.int .i64 zn,.bool ts,slice tx tn tc2,slice ty tm td] 136);have i2':((p:Nat):Int)<((v.ts.length:Nat):Int):=by omega
       have i3':((zn:Nat):Int)<((cs.length:Nat):Int):=by omega
       have i5':((i:Nat):Int)<((rs.length:Nat):Int):=by omega
       have hzn:zn<cs.length:=by omega
       have HST:=zk (λj=>zmG (cs:=cs) (rs:=rs) (ys:=ys) (i:=i) (y:=yq) haq j);have HL2:Hid (∀j,Lo (KZ L) (rdQ cs rs ys i yq (v.ts.take (p+1)) j)):=λj=>HLQ.out i yq _ j hlt (zcL _ HS.out) HY1.out (λt ht=>by
        obtain⟨j2,hj2,e2⟩:=List.getElem_of_mem (List.mem_of_mem_take ht);obtain⟨_,_,_,_,_,h1⟩:=HTQ.out j2 t.1 t.2 (by rw[getElem?_eq_getElem hj2,e2]);exact h1.2.2.lo h1.1 h1.2.1)
       clear haq hr hbw hc;go_upto_region 13 with fail
       clear k0 k1 k2 k3;replace p0:=kCb hbt p0;replace p1:=kCb hbt p1;replace p2:=kCb hbt p2;replace v0:=kCb hbt v0;replace v1:=kCb hbt v1;replace v2:=kCb hbt v2;have R0:=zk (hr0.2.2.q_ hbt);have R1:=zk (hr1.q_ hbt);have R2:=zk (hr2.2.2.q_ hbt)
       obtain⟨lz1,lz2,_⟩:=hr0;obtain⟨la1,la2,_⟩:=hr2;replace HB:=zJ HB hbt;have HK:=zk (hk.q_ hbt);have HQR:=zk (hqr.q_ hbt)
       clear hr1 hbt hk hqr HZ;generalize hbx:wr.heap.size=bx at *;generalize wr.alloc (cells #[.int .i64 zn,.bool ts,slice tx tn tc2,slice ty tm td] 136)=w5 at *;clear hbx;have CM:Hid (∀W,Bl w5 W->Calls prog 77 #[agg #[.bool s3,slice x3 n3 c3,slice y3 m3 d3],agg #[.bool ts,slice tx tn tc2,slice ty tm td]] W λe w'=>∃s x n c d y m e' g,e=.returned (agg #[.bool s,slice x n c,slice y m e'])/\Bl W w'/\Hid ((n<=2*(L+L+1)/\m<=2*(L+L+1))/\Qn w' s x n d y m g (yq*q))):=λW hW =>
        (zri (R1.out.q_ hW) (R2.out.q_ hW) (by omega) (by omega) (by omega) (by omega)).mono (λ_ _ ⟨s,x,n,c,d,y,m,c',g,h1,h2,h3,h4,h5⟩=>⟨s,x,n,c,d,y,m,c',g,h1,h2,h5.len (zfq (R1.out.lo ly1 ly2) (R2.out.lo la1 la2)),h5⟩)
       have CA:Hid (∀(W:World) (s1:Bool) (x1:Option Addr) (n1 c1:Nat) (d1:Nat->Int) (y1:Option Addr) (m1 e1:Nat) (g1:Nat->Int),Bl w5 W->(n1<=2*(L+L+1)/\m1<=2*(L+L+1))/\Qn W s1 x1 n1 d1 y1 m1 g1 (yq*q)->Calls prog 76 #[agg #[.bool ls,slice lx ln lc,slice ly lm ld],agg #[.bool s1,slice x1 n1 c1,slice y1 m1 e1]] W λe w'=>∃s x n c d y m e' g,e=.returned (agg #[.bool s,slice x n c,slice y m e'])/\Bl W w'/\Hid (QnT (2*KZ L) w' ⟨s,x,n,c,d,y,m,e',g⟩ (rdQ cs rs ys i yq (v.ts.take (p+1)) zn))):=λW s1 x1 n1 c1 d1 y1 m1 e1 g1 hW hh=>by
        have hkz:2*KZ L<=120000:=by unfold KZ;omega
        refine(zrf (R0.out.q_ hW) hh.2 (by omega) (by omega) (by omega) (by omega)).mono (λ_ _ ⟨s,x,n,c,d,y,m,c',g,h1,h2,h3,h4,h5⟩=>⟨s,x,n,c,d,y,m,c',g,h1,h2,?_⟩);have e2:=HST.out zn;rw[if_pos rfl]at e2
        have h6:=HL2.out zn;rw[<-e2]at h5
        exact⟨(h5.len h6).1,(h5.len h6).2,h5⟩
       refine zag (S:=(λw'=>w'.cell? ⟨bx,0,none⟩=some (.int .i64 zn)/\w'.cell? ⟨bx,1,none⟩=some (.bool ts)/\w'.cell? ⟨bx,2,none⟩=some (slice tx tn tc2)/\w'.cell? ⟨bx,3,none⟩=some (slice ty tm td)/\w'.cell? ⟨BZ,zn*3,none⟩=some (.bool ls)/\w'.cell? ⟨BZ,zn*3+1,none⟩=some (slice lx ln lc)/\w'.cell? ⟨BZ,zn*3+2,none⟩=some (slice ly lm ld)/\w'.cell? ⟨b',o'+i*3,none⟩=some (.bool s3)/\w'.cell? ⟨b',o'+i*3+1,none⟩=some (slice x3 n3 c3)/\w'.cell? ⟨b',o'+i*3+2,none⟩=some (slice y3 m3 d3))) 17 (by kernel_rfl) ⟨kCd a0,kCd a1,kCd a2,kCd a3,kCd p0,kCd p1,kCd p2,kCd v0,kCd v1,kCd v2⟩ (λhHeld=>?_);refine skP 0 ?_;refine skP 1 ?_;refine tkP 2 ?_;simp only[zA,Act.put];refine skP 3 ?_;refine skP 4 ?_;refine tkP 5 ?_;simp only[zA,Act.put];refine skP 6 ?_;refine tkP 7 ?_;refine skP 8 ?_;simp only[zA,Act.put];refine skP 9 ?_;refine skP 10 ?_;refine tkP 11 ?_;simp only[zA,Act.put];refine skP 12 ?_;refine tkP 13 ?_;simp only[zA,Act.put];refine rdP 14 (λK hK=>?_);go_simp
       go_at_call 77
       refine(CM.out _ (Below.drew (Below.refl _ _))).mono ?_;rintro e w6 ⟨s6,x6,n6,c6,f6,y6,m6,d6,g6,rfl,hb6,hq6⟩
       (try go_wp2_with fail)
       have yy0:=kCb hb6 (hHeld.1);have yy1:=kCb hb6 (hHeld.2.1);have yy2:=kCb hb6 (hHeld.2.2.1);have yy3:=kCb hb6 (hHeld.2.2.2.1);have yy4:=kCb hb6 (hHeld.2.2.2.2.1);have yy5:=kCb hb6 (hHeld.2.2.2.2.2.1);have yy6:=kCb hb6 (hHeld.2.2.2.2.2.2.1);have yy7:=kCb hb6 (hHeld.2.2.2.2.2.2.2.1);have yy8:=kCb hb6 (hHeld.2.2.2.2.2.2.2.2.1);have yy9:=kCb hb6 (hHeld.2.2.2.2.2.2.2.2.2);refine hK.out _ _ (λ_=>⟨yy0,yy1,yy2,yy3,yy4,yy5,yy6,yy7,yy8,yy9⟩) (λhS6=>?_);clear hK K hS6;try simp only[zA,Act.put]
       have Bd6:=(Below.drew (Below.refl w5.heap.size w5)).trans (hb6.mono (le_refl _));refine rdP 15 (λK hK=>?_);go_simp
       go_at_call 76
       refine(CA.out w6 s6 x6 n6 c6 f6 y6 m6 d6 g6 Bd6 hq6.out).mono ?_;rintro e w7 ⟨s7,x7,n7,c7,f7,y7,m7,d7,g7,rfl,hb7,hq7⟩
       (try go_wp2_with fail)
       have uu0:=kCb hb7 yy0;have uu1:=kCb hb7 yy1;have uu2:=kCb hb7 yy2;have uu3:=kCb hb7 yy3;have uu4:=kCb hb7 yy4;have uu5:=kCb hb7 yy5;have uu6:=kCb hb7 yy6;have uu7:=kCb hb7 yy7;have uu8:=kCb hb7 yy8;have uu9:=kCb hb7 yy9;refine hK.out _ _ (λ_=>⟨uu0,uu1,uu2,uu3,uu4,uu5,uu6,uu7,uu8,uu9⟩) (λhS7=>?_);clear hK K hS7;try simp only[zA,Act.put]
       have Bd7:=bUp Bd6 hb7;have hk7:=HK.out.q_ Bd7;obtain⟨R1a,R2a⟩:=zsh (j:=zn) (Q':=rdQ cs rs ys i yq (v.ts.take (p+1))) hk7 (HQR.out.q_ Bd7) hzn hq7.out (λj' h2=>by rw[HST.out j',if_neg (λe=>h2 e.symm)]);have HB7:=zk (znZ (o:=zn*3) (u0:=.bool s7) (u1:=slice x7 n7 c7) (u2:=slice y7 m7 d7) (bUp HB.out Bd7) hge);have tf2:=hk7.fz;have HR1:=zk R1a;have HR2:=zk R2a
       clear R1a R2a hq7 hq6 hk7 Bd7 Bd6 hb6 hb7 HK HQR HB R0 R1 R2 CM CA HL2 HST yy0 yy1 yy2 yy3 yy4 yy5 yy6 yy7 yy8 yy9 hHeld a0 a1 a2 a3 p0 p1 p2 v0 v1 v2;refine rdP 16 (λK hK=>?_);go_simp;refine hK.out _ _ (λ_=>⟨uu0,uu1,uu2,uu3,uu4,uu5,uu6,uu7,uu8,uu9⟩) (λhS9=>?_);clear hK K hS9;try simp only[zA,Act.put]
       refine rdP 17 (λK hK=>?_);go_simp;refine hK.out _ _ (λh=>by cases h) (λ_=>?_);clear hK K;try simp only[zA,Act.put]
       refine dnP ?_;clear uu0 uu1 uu2 uu3 uu4 uu5 uu6 uu7 uu8 uu9 tf2;go_wp2;go_roundw
       case rel=>exact⟨p+1,by omega,by go_num,HB7.out,λ_=>⟨BZ,rfl,hge,HR1.out,HR2.out⟩⟩
       case measure=>simp[intOf];omega
      ·have e1:p=v.ts.length:=by omega
       have i4':¬(((p:Nat):Int)<((v.ts.length:Nat):Int)):=by omega
       have HZ3:Hid (Zl wr w0.heap.size (2*KZ L) aw cs.length (roQ cs rs ys (i+1))):=by
        have h1:=HZ.out;rw[e1,List.take_length,HRW.out]at h1
        exact h1
       clear HZ e1 HRW;go_wp2;go_roundw
       case rel=>exact⟨i+1,by omega,by go_num,HB.out,HZ3.out⟩
       case measure=>simp[intOf];omega
    ·have e1:i=rs.length:=by omega
     have i4':¬(((i:Nat):Int)<((rs.length:Nat):Int)):=by omega
     have HF:Hid (Rqs (2*KZ L) wr aw (zaA rs ys 0 cs)):=HZ.out.rqs (zaX rs ys cs 0) (λj q hj=>by rw[e1];exact zoO hk hj);have HO:Hid (0<cs.length->∃B,aw=some ⟨B,0,none⟩/\w.heap.size<=B):=λh=>by obtain⟨B,h1,h2,_⟩:=HZ.out h;exact⟨B,h1,le_trans HB0.out.size h2⟩
     clear HZ e1;go_wp2;go_ret;exact⟨aw,cw,rfl,bUp HB0.out HB.out,HCW.out,HF,HO⟩
theorem zra {w L M off cs rs ay k cap ys} (h:MqV (2*L) w M off cs rs) (hy:Rqs (2*L) w ay ys) (hk:ys.length=k) (hkr:k=rs.length) (hm:MvP cs rs) (hts:∀v ∈ rs,tsB cs.length (-1) v.ts=true) (hL:L<=60) :
  Calls prog 42 #[M.val,slice ay k cap] w λe w'=>zjF (2*KZ L) w w' e cs.length (zaA rs ys 0 cs) :=
 (zoY h hy hk hkr hm hts hL).mono λ_ _ ⟨aw,cw,h1,h2,h3,h4,_⟩=>⟨aw,cw,h1,h2,h3,h4⟩
def ShK (K k:Nat) (X:Nat->Nm):Prop:=k<=300/\∀j,j<k->(X j).n<=K/\(X j).m<=K
theorem zpA {K k X} (h:lgL K k X=true):ShK K k X:=by
 simp only[lgL,Bool.and_eq_true,decide_eq_true_eq]at h;exact⟨h.1,λj hj=>zgS h.2 j (by omega) (by omega)⟩
def TmK (K:Nat) (w:World) (M M':Mo):Prop:=Sm M M'/\MoW w M'/\MoX w M'/\(M'.ck<=64->M'.rk<=64->MoK K M')
theorem TmK.q_ {K w w' M M'} (h:TmK K w M M') (hb:Bl w w'):TmK K w' M M':=⟨h.1,h.2.1.q_ hb,h.2.2.1.q_ hb,h.2.2.2⟩
theorem TmK.valL {K w M M'} (L:Nat) (hL:K<=L) (hK:K<=100) (h:TmK K w M M') (hN:MoN M) (he:zaF M=0):MoV L w M' (nq M.off) (zbi M) (zbp M)/\zbk (zbi M) (zbp M)=true:=by
 obtain⟨s,hw,hx,hk⟩:=h;have he':zaF M'=0:=s.chk.trans he;obtain⟨l1,l2,_⟩:=zhn he';have k6:=hk l1 l2;have:=(hx.mor (s.mon hN) k6 (by omega) l1 l2).movC (k6.up hL) he';rw[s.csOf,s.rsOf,s.off.nq]at this
 exact this
theorem Tx.valK {K w ao k X X'} (h:Tx w ao k X X') (hs:ShK K k X) (ha:afB k X=true):Rf K w ao (zbg k X):=by
 rw[<-zgO h.2];refine h.1.rfC ?_ (λj hj=>by rw[(h.2 j hj).2.1,(h.2 j hj).2.2.2.1];exact hs.2 j hj);exact(zfG (λj _ b=>h.2 j (by omega))).trans ha
theorem zmW {K w ao k X X' M M'} (h:TmK K w M M') (hx:Tx w ao k X X'):zcz M' k X'=zcz M k X:=by
 unfold zcz;rw[h.1.chk,h.1.ck];unfold pnE;rw[show afB k X'=afB k X from zfG (λj _ b=>hx.2 j (by omega))]
theorem zqK {K w ao k X X' M M'} (L:Nat) (hL:K<=L) (hK:K<=100) (h:TmK K w M M') (hN:MoN M) (hx:Tx w ao k X X') (hs:ShK K k X) (he:zcz M k X=0):MoV L w M' (nq M.off) (zbi M) (zbp M)/\zbk (zbi M) (zbp M)=true/\Rf L w ao (zbg k X)/\(zbg k X).length=k/\k=(zbi M).length:=by
 obtain⟨h1,h2,h3⟩:=zmV he;obtain⟨a,b⟩:=h.valL L hL hK hN h1;exact⟨a,b,(hx.valK hs h2).mono hL,zcy _ _,by rw[znO];exact h3⟩
theorem zle {K w M} (hX:MoX w M) (hN:MoN M) (hk:M.ck<=64->M.rk<=64->MoK K M) (hK:K<=100):Calls prog 7 #[M.val] w λe w'=>∃(vm:Value) (M':Mo),e=.returned vm/\Bl w w'/\Hid (vm=M'.val/\TmK K w' M M') :=
 (zqI (K:=K) hX hN hk (by omega)).mono λe w' ⟨M',h1,h2,h3,h4,h5,h6⟩=>⟨M'.val,M',h1,h2,zk ⟨rfl,h3,h4,h5,h6⟩⟩
end Go.Proofs.YtlbgphjdibbkjaaGreat
