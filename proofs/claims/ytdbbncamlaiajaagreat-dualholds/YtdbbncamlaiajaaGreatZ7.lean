/-
 Walks.
-/
import Derived.Test.YtdbbncamlaiajaaGreatZ2
import Derived.Test.YtdbbncamlaiajaaGreatZ6
import Derived.Test.YtdbbncamlaiajaaGreatZ5
import Derived.Test.YtdbbncamlaiajaaGreatZ3
import Derived.BigQuiet
import Derived.Test.YtdbbncamlaiajaaGreatZ4
import Derived.BigRegion
set_option maxRecDepth 100000
set_option maxHeartbeats 16000000
namespace Go.Proofs.YtdbbncamlaiajaaGreat
open Nat (le_refl le_trans zero_add)
open List (getElem?_eq_getElem setIfInBounds_toArray set_cons_zero set_cons_succ mem_of_getElem?)
open Go.Proofs.Tryz
open Go.RowKit
theorem Dn.len_pd {w x n d V K} (h:Dn w x n d V) (hv:(V:Int)<pd K):n<=K:=by
 by_cases hn:n<=K
 ·exact hn
 ·have h1:=zbX h.dg h.fm (by omega);have h2:=zdt (show K<=n-1 by omega);have h3:=h.val;omega
theorem Dn.lt_pd {w x n d V K} (h:Dn w x n d V) (hn:n<=K):(V:Int)<pd K:=by
 have h1:=zck h.dg;have h2:=zdt hn;have h3:=h.val;omega
theorem Qn.len {w s x n d y m g q K} (h:Qn w s x n d y m g q) (hq:Lo K q):n<=2*K/\m<=2*K :=
 ⟨h.num.dn.len_pd (by rw [zdL];exact hq.1),h.den.len_pd (by rw [zdL];exact hq.2)⟩
theorem Qn.lo {w s x n d y m g q K} (h:Qn w s x n d y m g q) (hn:n<=2*K) (hm:m<=2*K):Lo K q :=
 ⟨by rw [<-zdL];exact h.num.dn.lt_pd hn,by rw [<-zdL];exact h.den.lt_pd hm⟩
theorem Sx.qn {w B s x n c y m d u0 u1 u2 s1 x1 n1 d1 y1 m1 g1 q} (S:Sx w B s x n c y m d) (h:Qn w s1 x1 n1 d1 y1 m1 g1 q):Qn (((w.setCell ⟨B,0,none⟩ u0).setCell ⟨B,1,none⟩ u1).setCell ⟨B,2,none⟩ u2) s1 x1 n1 d1 y1 m1 g1 q :=
 ⟨⟨⟨S.rd h.num.dn.rd,h.num.dn.dg,h.num.dn.fm,h.num.dn.val⟩,h.num.sgn,h.num.pos⟩,⟨S.rd h.den.rd,h.den.dg,h.den.fm,h.den.val⟩⟩
theorem znx {w L av ax k kx cv cx v p} (hv:Tq (2*L) w av v) (hx:Rqs (2*L) w ax p) (lv:v.length=k) (lp:p.length=kx) (hk:k<=64) (hL:L<=100) (hbel:∀(j:Nat) (a:Int) (q:Rat),v[j]?=some (a,q)->0<=a/\a<kx) :
  Calls prog 129 #[.slice av k cv,.slice ax kx cx] w fun e w'=>zdE (2*(4+64*(2*L+2))) w w' e (dsum p v 0):=by
 have TV:=zk hv;have TX:=zk hx;have HBe:=zk hbel
 have h2:=zaF w 89;have h3:=zB w (.cells #[.bool false,.slice none 0 0,.slice none 0 0] 89);clear hv hx hbel;go_enter func129,ntmps129;go_wp2_with fail
 generalize w.alloc (.cells #[.bool false,.slice none 0 0,.slice none 0 0] 89)=w0 at *;have OB0:=zk h2;have HB0:=zk h3
 clear h2 h3;refine (zoT _).mono ?_;rintro e w4 ⟨s0,x0,n0,c0,d0,y0,m0,e0,g0,rfl,hb4,hl1,hl2,hq4⟩;have OB4:=zk (OB0.out.q_ hb4);have HB4:=zL HB0 hb4;have HQ4:=zk hq4
 clear OB0 HB0 hb4 hq4 hl1 hl2;go_wp2_with fail
 have hSx:Sx (w4.alloc (.cells #[.bool s0,.slice x0 n0 c0,.slice y0 m0 e0] 89)) w4.heap.size s0 x0 n0 c0 y0 m0 e0:=⟨by simp,by simp [go_sem],by simp [go_sem],by simp [go_sem],fun o=>by simp only [World.frozen?,heap_alloc_new w4 (.cells #[.bool s0,.slice x0 n0 c0,.slice y0 m0 e0] 89)];simp⟩;have hal:=zB w4 (.cells #[.bool s0,.slice x0 n0 c0,.slice y0 m0 e0] 89);have hne:w.heap.size<w4.heap.size:=OB4.out.z;have ST:=zk hSx;have HB5:=zL HB4 hal;have HQ5:=zk (HQ4.out.q_ hal);have OB5:=zk (OB4.out.q_ hal)
 clear hSx hal HB4 HQ4 OB4;generalize w4.alloc (.cells #[.bool s0,.slice x0 n0 c0,.slice y0 m0 e0] 89)=w5' at *;generalize w4.heap.size=B at *;go_loopw [11] (fun t wr=>∃(i:Nat) (acc:Rat) (s:Bool) (x:Option Addr) (n c:Nat) (d:Nat->Int) (y:Option Addr) (m e:Nat) (g:Nat->Int),i<=k/\t=.int .i64 i/\Hid (Bl w wr)/\Hid (Sx wr B s x n c y m e)/\Hid (Ob wr w.heap.size)/\Hid (Lo (4+i*(2*L+2)) acc/\Qn wr s x n d y m g acc)/\Hid (dsum p (v.drop i) acc=dsum p v 0)) (fun t _=>k-(intOf t).toNat)
 case atStart=>exact ⟨0,0,s0,x0,n0,c0,d0,y0,m0,e0,g0,by omega,rfl,HB5,ST,OB5,⟨zph (by omega),HQ5.out⟩,rfl⟩
 case round =>
  clear HB5 HQ5 OB5 ST;obtain ⟨i,acc,s,x,n,c,d,y,m,e,g,hi,rfl,HB,HS,HO,HQ,HE⟩:=hrel;by_cases hlt:i<k
  ·obtain ⟨⟨a,q⟩,haq⟩:∃t,v[i]?=some t:=⟨_,getElem?_eq_getElem (by omega)⟩;obtain ⟨ha0,ha1⟩:=HBe.out i a q haq;obtain ⟨an,rfl⟩:=Int.eq_ofNat_of_zero_le ha0;obtain ⟨b,o,⟨ts,tx,tn,tc,tf,ty,tm,td,tg⟩,hav,hc,hr⟩:=(TV.out.q_ HB.out) i an q haq;obtain ⟨r,hr2⟩:∃r,p[an]?=some r:=⟨_,getElem?_eq_getElem (by omega)⟩;obtain ⟨b0,o0,_,hax0,hc0,_⟩:=TX.out an r hr2;have hb0:=World.block_lt_of_cell? w _ hc0.x0;obtain ⟨b',o',⟨ss,sx,sn,sc,sf,sy,sm,sd,sg⟩,hax,hc',hr'⟩:=(TX.out.q_ HB.out) an r hr2;have nB2:B≠b':=by
    rw [hax0] at hax;have:b0=b':=by simpa using congrArg (fun a=>(a.map Addr.block)) hax
    have hb1:b0<w.heap.size:=hb0;omega
   clear hc0 hb0 hax0;have hav2:=hav;have hax2:=hax
   subst hav2;subst hax2
   obtain ⟨x0',x1',x2',x3'⟩:=hc;obtain ⟨p0,p1,p2⟩:=hc';replace x0':wr.cell? ⟨b,o+i*4,none⟩=some (.int .i64 an):=x0';replace x1':wr.cell? ⟨b,o+i*4+1,none⟩=some (.bool ts):=x1';replace x2':wr.cell? ⟨b,o+i*4+2,none⟩=some (.slice tx tn tc):=x2';replace x3':wr.cell? ⟨b,o+i*4+3,none⟩=some (.slice ty tm td):=x3';replace p0:wr.cell? ⟨b',o'+an*3,none⟩=some (.bool ss):=p0;replace p1:wr.cell? ⟨b',o'+an*3+1,none⟩=some (.slice sx sn sc):=p1;replace p2:wr.cell? ⟨b',o'+an*3+2,none⟩=some (.slice sy sm sd):=p2;have HR1:Hid (tn<=2*L/\tm<=2*L/\Qn wr ts tx tn tf ty tm tg q):=hr;have HR2:Hid (sn<=2*L/\sm<=2*L/\Qn wr ss sx sn sf sy sm sg r):=hr';have i2:((i:Nat):Int)<((k:Nat):Int):=by omega
   have i3:((an:Nat):Int)<((kx:Nat):Int):=by omega
   have HD:Hid (dsum p (v.drop (i+1)) (acc+q*r)=dsum p v 0):=by
    show _=_;have e1:v.drop i=((an:Int),q) :: v.drop (i+1):=by
     have hl:i<v.length:=by omega
     have:v[i]=((an:Int),q):=by rw [getElem?_eq_getElem hl] at haq;exact Option.some.inj haq
     rw [<-this];exact List.drop_eq_getElem_cons hl
    rw [<-HE.out,e1];show _=dsum p _ (acc+q*p.getD (an:Int).toNat 0);rw [Int.toNat_natCast,List.getD_eq_getElem?_getD,hr2];rfl
   have nB1:B≠wr.heap.size:=by have:=HS.out.z;omega
   clear hr hr' haq hr2 hav hax HE;go_upto_region 5 with fail
   have hb5:=zB wr (.cells #[.int .i64 an,.bool ts,.slice tx tn tc,.slice ty tm td] 133);obtain ⟨a0,a1,a2,a3⟩:=bk4 (zD wr [.int .i64 an,.bool ts,.slice tx tn tc,.slice ty tm td] 133);replace p0:=kCb hb5 p0;replace p1:=kCb hb5 p1;replace p2:=kCb hb5 p2
   replace HS:=zk (HS.out.q_ hb5);replace HO:=zk (HO.out.q_ hb5);replace HQ:=zk (And.intro HQ.out.1 (HQ.out.2.q_ hb5));replace HR1:=zk (And.intro HR1.out.1 (And.intro HR1.out.2.1 (HR1.out.2.2.q_ hb5)));replace HR2:=zk (And.intro HR2.out.1 (And.intro HR2.out.2.1 (HR2.out.2.2.q_ hb5)))
   replace HB:=zL HB hb5;clear x0' x1' x2' x3' hb5;generalize wr.alloc (.cells #[.int .i64 an,.bool ts,.slice tx tn tc,.slice ty tm td] 133)=w5 at *;obtain ⟨sz,u0,u1,u2,uf⟩:=HS.out;have hKi:4+i*(2*L+2)<=4+64*(2*L+2):=by
    have h1:i*(2*L+2)<=64*(2*L+2):=Nat.mul_le_mul_right _ (by omega);omega
   obtain ⟨hq1,hq2⟩:=HQ.out.2.len HQ.out.1;have CM:Hid (∀W,Bl w5 W->Calls prog 73 #[.agg #[.bool ts,.slice tx tn tc,.slice ty tm td],.agg #[.bool ss,.slice sx sn sc,.slice sy sm sd]] W fun e w'=>∃s x n c d y m e' g,e=.returned (.agg #[.bool s,.slice x n c,.slice y m e'])/\Bl W w'/\Hid (Lo (2*L+1) (q*r)/\Qn w' s x n d y m g (q*r))):=fun W hW =>
    (zmM (HR1.out.2.2.q_ hW) (HR2.out.2.2.q_ hW) (le_trans HR1.out.1 (by omega)) (le_trans HR1.out.2.1 (by omega)) (le_trans HR2.out.1 (by omega)) (le_trans HR2.out.2.1 (by omega))).mono (fun _ _ ⟨s,x,n,c,d,y,m,c',g,h1,h2,h3,h4,h5⟩=>⟨s,x,n,c,d,y,m,c',g,h1,h2,Lo.mono (zdP (HR1.out.2.2.lo HR1.out.1 HR1.out.2.1) (HR2.out.2.2.lo HR2.out.1 HR2.out.2.1)) (by omega),h5⟩)
   have CA:Hid (∀(W:World) (s1:Bool) (x1:Option Addr) (n1 c1:Nat) (d1:Nat->Int) (y1:Option Addr) (m1 e1:Nat) (g1:Nat->Int),Bl w5 W->Lo (2*L+1) (q*r)/\Qn W s1 x1 n1 d1 y1 m1 g1 (q*r)->Calls prog 82 #[.agg #[.bool s,.slice x n c,.slice y m e],.agg #[.bool s1,.slice x1 n1 c1,.slice y1 m1 e1]] W fun e w'=>∃s x n c d y m e' g,e=.returned (.agg #[.bool s,.slice x n c,.slice y m e'])/\Bl W w'/\Hid (Lo (4+(i+1)*(2*L+2)) (acc+q*r)/\Qn w' s x n d y m g (acc+q*r))):=fun W s1 x1 n1 c1 d1 y1 m1 e1 g1 hW hh=>by
    obtain ⟨k1,k2⟩:=hh.2.len hh.1;refine (zqW (HQ.out.2.q_ hW) hh.2 (by omega) (by omega) (by omega) (by omega)).mono (fun _ _ ⟨s,x,n,c,d,y,m,c',g,h1,h2,h3,h4,h5⟩=>⟨s,x,n,c,d,y,m,c',g,h1,h2,Lo.mono (zfk HQ.out.1 hh.1) ?_,h5⟩);rw [Nat.add_mul];omega
   clear hq1 hq2;refine wp_region_held_drew (S:=fun w'=>w'.cell? ⟨wr.heap.size,0,none⟩=some (.int .i64 an)/\w'.cell? ⟨wr.heap.size,1,none⟩=some (.bool ts)/\w'.cell? ⟨wr.heap.size,2,none⟩=some (.slice tx tn tc)/\w'.cell? ⟨wr.heap.size,3,none⟩=some (.slice ty tm td)/\w'.cell? ⟨b',o'+an*3,none⟩=some (.bool ss)/\w'.cell? ⟨b',o'+an*3+1,none⟩=some (.slice sx sn sc)/\w'.cell? ⟨b',o'+an*3+2,none⟩=some (.slice sy sm sd)) (by kernel_rfl) ?_ (fun hHeld=>?_)
   ·(refine ⟨?_,?_,?_,?_,?_,?_,?_⟩ <;> repeat (with_reducible first | assumption | refine kCd ?_))
   refine zH 1 ?_;simp only [zw,Act.put];refine zH 2 ?_;simp only [zw,Act.put];refine zH 3 ?_;simp only [zw,Act.put];refine zH 4 ?_;simp only [zw,Act.put];refine zH 5 ?_;simp only [zw,Act.put];refine zH 6 ?_;simp only [zw,Act.put];refine zH 7 ?_;simp only [zw,Act.put];refine wpAnyH_ready (rs:=[0,8]) (by kernel_rfl) (by simp) ?_;refine AllReadyH.cons (o:=_) rfl (fun K hK=>?_) ?_
   ·go_simp;refine hK.out _ _ ?_ (fun hHeld2=>?_)
    ·((try dsimp only);(refine ⟨?_,?_,?_,?_,?_,?_,?_⟩ <;> repeat (with_reducible first | assumption | refine kCd ?_)))
    clear hK K;try simp only [zw,Act.put]
    refine wpAnyH_ready (rs:=[8]) (by kernel_rfl) (by simp) ?_;refine AllReadyH.cons (o:=_) rfl (fun K hK=>?_) ?_;rotate_left;exact AllReadyH.nil;go_simp
    go_at_call 73
    with_reducible refine (CM.out _ zai).mono ?_
    rintro e w6 ⟨s8,x8,n8,c8,d8,y8,m8,e8,g8,rfl,hb6,H8⟩;have B6:Bl w5 w6:=zai;have S6:=HS.out.q_ B6;obtain ⟨_,v0,v1,v2,vf6⟩:=id S6
    (try go_wp2_with fail)
    refine hK.out _ _ ?_ (fun hHeld3=>?_)
    ·((try dsimp only);(refine ⟨?_,?_,?_,?_,?_,?_,?_⟩ <;> repeat (with_reducible first | assumption | refine kCb B6 ?_)))
    clear hK K;try simp only [zw,Act.put]
    refine wpAnyH_ready (rs:=[9]) (by kernel_rfl) (by simp) ?_;refine AllReadyH.cons (o:=_) rfl (fun K hK=>?_) ?_;rotate_left;exact AllReadyH.nil;go_simp
    go_at_call 82
    with_reducible refine (CA.out _ s8 x8 n8 c8 d8 y8 m8 e8 g8 zai ⟨H8.out.1,H8.out.2⟩).mono ?_
    rintro e w7 ⟨s9,x9,n9,c9,d9,y9,m9,e9,g9,rfl,hb7,H9⟩;have B7:Bl w5 w7:=zai;have S7:=HS.out.q_ B7;have O7:=HO.out.q_ B7;obtain ⟨_,t0,t1,t2,tf7⟩:=id S7
    (try go_wp2_with fail)
    refine hK.out _ _ ?_ (fun hHeld4=>?_)
    ·((try dsimp only);(refine ⟨?_,?_,?_,?_,?_,?_,?_⟩ <;> repeat (with_reducible first | assumption | refine kCb B7 ?_)))
    clear hK K;try simp only [zw,Act.put]
    refine wpAnyH_ready (rs:=[10]) (by kernel_rfl) (by simp) ?_;refine AllReadyH.cons (o:=_) rfl (fun K hK=>?_) ?_;rotate_left;exact AllReadyH.nil;go_simp;refine hK.out _ _ ?_ (fun hHeld9=>?_)
    ·((try dsimp only);(refine ⟨?_,?_,?_,?_,?_,?_,?_⟩ <;> repeat (with_reducible first | assumption | refine kCs (by simp only [ne_eq];omega) ?_ | refine kCb B7 ?_)))
    clear hK K;try simp only [zw,Act.put]
    refine wpAnyH_done (by kernel_rfl) ?_ _;have R1:=zk (And.intro (S7.st (s1:=s9) (x1:=x9) (n1:=n9) (c1:=c9) (y1:=y9) (m1:=m9) (d1:=e9)) (And.intro (S7.qn (u0:=.bool s9) (u1:=.slice x9 n9 c9) (u2:=.slice y9 m9 e9) H9.out.2) (And.intro (O7.far3 (u0:=.bool s9) (u1:=.slice x9 n9 c9) (u2:=.slice y9 m9 e9) (show B≠w.heap.size by omega)) (below_st (B:=B) (u0:=.bool s9) (u1:=.slice x9 n9 c9) (u2:=.slice y9 m9 e9) (bUp HB.out B7) (by omega)))));have L9:=zk H9.out.1;clear hHeld a0 a1 a2 a3 p0 p1 p2 u0 u1 u2 uf t0 t1 t2 tf7 CM CA S7 O7 B7 H8 H9 HS HO HQ HR1 HR2 HB;generalize ((w7.setCell ⟨B,0,none⟩ (.bool s9)).setCell ⟨B,1,none⟩ (.slice x9 n9 c9)).setCell ⟨B,2,none⟩ (.slice y9 m9 e9)=w9 at *;go_wp2;go_roundw
    case rel=>exact ⟨i+1,acc+q*r,s9,x9,n9,c9,d9,y9,m9,e9,g9,by omega,by go_num,R1.out.2.2.2,R1.out.1,R1.out.2.2.1,⟨L9.out,R1.out.2.1⟩,HD.out⟩
    case measure=>simp [intOf];omega
   refine AllReadyH.cons (o:=_) rfl (fun K hK=>?_) ?_
   ·go_simp
    go_at_call 73
    with_reducible refine (CM.out _ zai).mono ?_
    rintro e w6 ⟨s8,x8,n8,c8,d8,y8,m8,e8,g8,rfl,hb6,H8⟩;have B6:Bl w5 w6:=zai;have S6:=HS.out.q_ B6;obtain ⟨_,v0,v1,v2,vf6⟩:=id S6
    (try go_wp2_with fail)
    refine hK.out _ _ ?_ (fun hHeld3=>?_)
    ·((try dsimp only);(refine ⟨?_,?_,?_,?_,?_,?_,?_⟩ <;> repeat (with_reducible first | assumption | refine kCb B6 ?_)))
    clear hK K;try simp only [zw,Act.put]
    refine wpAnyH_ready (rs:=[0]) (by kernel_rfl) (by simp) ?_;refine AllReadyH.cons (o:=_) rfl (fun K hK=>?_) ?_;rotate_left;exact AllReadyH.nil;go_simp;refine hK.out _ _ ?_ (fun hHeld2=>?_)
    ·((try dsimp only);(refine ⟨?_,?_,?_,?_,?_,?_,?_⟩ <;> repeat (with_reducible first | assumption | refine kCb B6 ?_)))
    clear hK K;try simp only [zw,Act.put]
    refine wpAnyH_ready (rs:=[9]) (by kernel_rfl) (by simp) ?_;refine AllReadyH.cons (o:=_) rfl (fun K hK=>?_) ?_;rotate_left;exact AllReadyH.nil;go_simp
    go_at_call 82
    with_reducible refine (CA.out _ s8 x8 n8 c8 d8 y8 m8 e8 g8 zai ⟨H8.out.1,H8.out.2⟩).mono ?_
    rintro e w7 ⟨s9,x9,n9,c9,d9,y9,m9,e9,g9,rfl,hb7,H9⟩;have B7:Bl w5 w7:=zai;have S7:=HS.out.q_ B7;have O7:=HO.out.q_ B7;obtain ⟨_,t0,t1,t2,tf7⟩:=id S7
    (try go_wp2_with fail)
    refine hK.out _ _ ?_ (fun hHeld4=>?_)
    ·((try dsimp only);(refine ⟨?_,?_,?_,?_,?_,?_,?_⟩ <;> repeat (with_reducible first | assumption | refine kCb B7 ?_)))
    clear hK K;try simp only [zw,Act.put]
    refine wpAnyH_ready (rs:=[10]) (by kernel_rfl) (by simp) ?_;refine AllReadyH.cons (o:=_) rfl (fun K hK=>?_) ?_;rotate_left;exact AllReadyH.nil;go_simp;refine hK.out _ _ ?_ (fun hHeld9=>?_)
    ·((try dsimp only);(refine ⟨?_,?_,?_,?_,?_,?_,?_⟩ <;> repeat (with_reducible first | assumption | refine kCs (by simp only [ne_eq];omega) ?_ | refine kCb B7 ?_)))
    clear hK K;try simp only [zw,Act.put]
    refine wpAnyH_done (by kernel_rfl) ?_ _;have R1:=zk (And.intro (S7.st (s1:=s9) (x1:=x9) (n1:=n9) (c1:=c9) (y1:=y9) (m1:=m9) (d1:=e9)) (And.intro (S7.qn (u0:=.bool s9) (u1:=.slice x9 n9 c9) (u2:=.slice y9 m9 e9) H9.out.2) (And.intro (O7.far3 (u0:=.bool s9) (u1:=.slice x9 n9 c9) (u2:=.slice y9 m9 e9) (show B≠w.heap.size by omega)) (below_st (B:=B) (u0:=.bool s9) (u1:=.slice x9 n9 c9) (u2:=.slice y9 m9 e9) (bUp HB.out B7) (by omega)))));have L9:=zk H9.out.1;clear hHeld a0 a1 a2 a3 p0 p1 p2 u0 u1 u2 uf t0 t1 t2 tf7 CM CA S7 O7 B7 H8 H9 HS HO HQ HR1 HR2 HB;generalize ((w7.setCell ⟨B,0,none⟩ (.bool s9)).setCell ⟨B,1,none⟩ (.slice x9 n9 c9)).setCell ⟨B,2,none⟩ (.slice y9 m9 e9)=w9 at *;go_wp2;go_roundw
    case rel=>exact ⟨i+1,acc+q*r,s9,x9,n9,c9,d9,y9,m9,e9,g9,by omega,by go_num,R1.out.2.2.2,R1.out.1,R1.out.2.2.1,⟨L9.out,R1.out.2.1⟩,HD.out⟩
    case measure=>simp [intOf];omega
   exact AllReadyH.nil
  ·have e1:i=k:=by omega
   have HF:Hid (acc=dsum p v 0):=by
    show _=_;rw [<-HE.out,e1,<-lv,List.drop_length];rfl
   have i2:¬(((i:Nat):Int)<((k:Nat):Int)):=by omega
   have hKi:4+i*(2*L+2)<=4+64*(2*L+2):=by
    have h1:i*(2*L+2)<=64*(2*L+2):=Nat.mul_le_mul_right _ (by omega);omega
   obtain ⟨hq1,hq2⟩:=HQ.out.2.len HQ.out.1;obtain ⟨sz,u0,u1,u2,uf⟩:=HS.out;obtain ⟨hz,z0,z1,z2,zf⟩:=HO.out;clear e1 HE;go_wp2;exact bodyPost_ret (v:=.agg #[.bool s,.slice x n c,.slice y m e]) (by simp [results,results129,go_sem,z0,z1,z2]) rfl ⟨s,x,n,c,d,y,m,e,g,rfl,below_st HB.out (by omega),by omega,by omega,by rw [<-HF.out];exact HO.out.qn HQ.out.2⟩
def KE (L:Nat):Nat:=2*(4+64*(2*L+2))
theorem ziO {K K' w t q} (h:QnT K w t q) (hk:K<=K'):QnT K' w t q:=⟨le_trans h.1 hk,le_trans h.2.1 hk,h.2.2⟩
theorem zlx (cs:List CV) (rs:List RV) (xs:List Rat):zbT cs rs xs=(zci (fun j=>!(bcB cs xs j)) cs.length && zci (fun j=>!(brB rs xs j)) rs.length):=by
 rw [Bool.eq_iff_iff];simp only [zbT,Bool.and_eq_true,decide_eq_true_eq,zkE,allB_iff,Bool.not_eq_true']
theorem zcN {B n j} (h:j<n) (hj:B j=false):zci B n=false:=by
 cases e:zci B n
 ·rfl
 ·have:=allB_iff.1 e j h;rw [hj] at this;cases this
theorem zoR {w L M off cs rs ax k cap xs} (h:MqV (2*L) w M off cs rs) (hx:Rqs (2*L) w ax xs) (hk:xs.length=k) (hkc:k=cs.length) (hm:MvP cs rs) (hL:L<=60) :
  Calls prog 126 #[M.val,.slice ax k cap] w fun e w'=>e=.returned (.bool (zci (fun j=>!(bcB cs xs j)) cs.length && zci (fun j=>!(brB rs xs j)) rs.length))/\Bl w w':=by
 have hP:=zk hm;obtain ⟨⟨s,x,n,c,f,y,m,d,g⟩,ca,ck,cc,C,ra,rk,rc,R⟩:=M;have hck:ck=cs.length:=h.ck;have hrk:rk=rs.length:=h.rk;subst hck;subst hrk;have HC:Hid (∀j v,cs[j]?=some v->(∃b o,ca=some ⟨b,o,none⟩/\Cs w b (o+j*12) (C j).vs)/\QcV (2*L) w (C j) v):=h.cls;have HR:Hid (∀j v,rs[j]?=some v->(∃b o,ra=some ⟨b,o,none⟩/\Cs w b (o+j*10) (R j).vs)/\QrV (2*L) w (R j) v):=h.rls;have HX:=zk hx;clear h hx;subst hkc;have hcl:=hP.out.cl;have hrl:=hP.out.rl;have HB0:=zk (zB w (.cells #[.bool s,.slice x n c,.slice y m d,.slice ca cs.length cc,.slice ra rs.length rc] 93));have BM:=zk (zD w [.bool s,.slice x n c,.slice y m d,.slice ca cs.length cc,.slice ra rs.length rc] 93);obtain ⟨pc,hpc⟩:∃t,(fun j=>!(bcB cs xs j))=t:=⟨_,rfl⟩;obtain ⟨pr,hpr⟩:∃t,(fun j=>!(brB rs xs j))=t:=⟨_,rfl⟩;rw [hpc,hpr];have HPC:=zk hpc;have HPR:=zk hpr
 clear hpc hpr;show Calls prog 126 #[.agg #[.bool s,.slice x n c,.slice y m d,.slice ca cs.length cc,.slice ra rs.length rc],.slice ax cs.length cap] w _;have r3:=BM.out.cell (j:=3) rfl;go_enter func126,ntmps126;go_wp2_with fail
 clear r3;generalize (w.alloc (.cells #[.bool s,.slice x n c,.slice y m d,.slice ca cs.length cc,.slice ra rs.length rc] 93))=w0 at *;go_loopw [12] (fun t wr=>∃(i:Nat),i<=cs.length/\t=.int .i64 i/\Hid (Bl w0 wr)/\Hid (∀j,j<i->pc j=true)) (fun t _=>cs.length-(intOf t).toNat)
 case atStart=>exact ⟨0,by omega,rfl,Below.refl _ _,fun j hj=>by omega⟩
 case round =>
  obtain ⟨i,hi,rfl,HB,HT⟩:=hrel;by_cases hlt:i<cs.length
  ·obtain ⟨v,hv⟩:∃v,cs[i]?=some v:=⟨_,getElem?_eq_getElem hlt⟩;obtain ⟨q,hq⟩:∃t,xs[i]?=some t:=⟨_,getElem?_eq_getElem (by omega)⟩;have hbw:=bUp HB0.out HB.out;obtain ⟨⟨b,o,hca,hc0⟩,hn⟩:=HC.out i v hv;subst hca;have hc:=hc0.q_ hbw;replace hn:=hn.q_ hbw;obtain ⟨b',o',⟨s3,x3,n3,c3,f3,y3,m3,d3,g3⟩,hax,hcx,hqx⟩:=(HX.out.q_ hbw) i q hq;subst hax;have hbd:=hP.out.cb v (mem_of_getElem? hv);obtain ⟨t1,ht1⟩:∃t,pc i=t:=⟨_,rfl⟩;have CA:=zk (fun W (hW:Bl wr W)=>zhB (K:=2*L) (w:=W) (hn.lq.q_ hW) hn.li (hn.hq.q_ hW) hn.hi (hqx.q_ hW) (by omega) hbd);rw [show kpsB q v.li v.lq v.hi v.hq=t1 from by rw [<-ht1,<-HPC.out];simp only [bcB,hv,hq,Bool.not_not]] at CA;obtain ⟨⟨z,⟨s0,x0,n0,c0,f0,y0,m0,d0,g0⟩,⟨i1,⟨s1,x1,n1,c1,f1,y1,m1,d1,g1⟩⟩,⟨i2,⟨s2,x2,n2,c2,f2,y2,m2,d2,g2⟩⟩⟩,hCi⟩:∃t,C i=t:=⟨_,rfl⟩;rw [hCi] at hc CA;replace CA:Hid (∀W,Bl wr W->Calls prog 151 #[.agg #[.int .i64 i1,.bool s1,.slice x1 n1 c1,.slice y1 m1 d1],.agg #[.int .i64 i2,.bool s2,.slice x2 n2 c2,.slice y2 m2 d2],.agg #[.bool s3,.slice x3 n3 c3,.slice y3 m3 d3]] W fun e w2=>e=.returned (.bool t1)/\Bl W w2):=CA;obtain ⟨q0,q1,q2,q3,q4,q5,q6,q7,q8,q9,q10,q11⟩:=hc.lc;obtain ⟨p0,p1,p2⟩:=hcx;replace p0:wr.cell? ⟨b',o'+i*3,none⟩=some (.bool s3):=p0;replace p1:wr.cell? ⟨b',o'+i*3+1,none⟩=some (.slice x3 n3 c3):=p1;replace p2:wr.cell? ⟨b',o'+i*3+2,none⟩=some (.slice y3 m3 d3):=p2;have hbt:=zB wr (.cells #[.string z,.bool s0,.slice x0 n0 c0,.slice y0 m0 d0,.int .i64 i1,.bool s1,.slice x1 n1 c1,.slice y1 m1 d1,.int .i64 i2,.bool s2,.slice x2 n2 c2,.slice y2 m2 d2] 128);have BC:=zD wr [.string z,.bool s0,.slice x0 n0 c0,.slice y0 m0 d0,.int .i64 i1,.bool s1,.slice x1 n1 c1,.slice y1 m1 d1,.int .i64 i2,.bool s2,.slice x2 n2 c2,.slice y2 m2 d2] 128;have HT1:=zk ht1;have i1':((i:Nat):Int)<((cs.length:Nat):Int):=by omega
   clear hCi hc hc0 hn ht1 hv hq hqx hbd hbw;go_upto_region 4 with fail
   clear q0 q1 q2 q3 q4 q5 q6 q7 q8 q9 q10 q11;replace p0:=kCb hbt p0;replace p1:=kCb hbt p1;replace p2:=kCb hbt p2
   obtain ⟨-,-,-,-,a4,a5,a6,a7,a8,a9,a10,a11⟩:=zio BC;replace CA:=zk (fun W (hW:Below (wr.alloc (.cells #[.string z,.bool s0,.slice x0 n0 c0,.slice y0 m0 d0,.int .i64 i1,.bool s1,.slice x1 n1 c1,.slice y1 m1 d1,.int .i64 i2,.bool s2,.slice x2 n2 c2,.slice y2 m2 d2] 128)).heap.size (wr.alloc (.cells #[.string z,.bool s0,.slice x0 n0 c0,.slice y0 m0 d0,.int .i64 i1,.bool s1,.slice x1 n1 c1,.slice y1 m1 d1,.int .i64 i2,.bool s2,.slice x2 n2 c2,.slice y2 m2 d2] 128)) W)=>CA.out W (bUp hbt hW));replace HB:=zL HB hbt;clear hbt BC;generalize hbx:wr.heap.size=bx at *;generalize wr.alloc (.cells #[.string z,.bool s0,.slice x0 n0 c0,.slice y0 m0 d0,.int .i64 i1,.bool s1,.slice x1 n1 c1,.slice y1 m1 d1,.int .i64 i2,.bool s2,.slice x2 n2 c2,.slice y2 m2 d2] 128)=w5 at *;clear hbx;refine wp_region_held_drew (S:=(fun w'=>w'.cell? ⟨bx,4,none⟩=some (.int .i64 i1)/\w'.cell? ⟨bx,5,none⟩=some (.bool s1)/\w'.cell? ⟨bx,6,none⟩=some (.slice x1 n1 c1)/\w'.cell? ⟨bx,7,none⟩=some (.slice y1 m1 d1)/\w'.cell? ⟨bx,8,none⟩=some (.int .i64 i2)/\w'.cell? ⟨bx,9,none⟩=some (.bool s2)/\w'.cell? ⟨bx,10,none⟩=some (.slice x2 n2 c2)/\w'.cell? ⟨bx,11,none⟩=some (.slice y2 m2 d2)/\w'.cell? ⟨b',o'+i*3,none⟩=some (.bool s3)/\w'.cell? ⟨b',o'+i*3+1,none⟩=some (.slice x3 n3 c3)/\w'.cell? ⟨b',o'+i*3+2,none⟩=some (.slice y3 m3 d3))) (by kernel_rfl) ?_ (fun hHeld=>?_)
   ·(refine ⟨?_,?_,?_,?_,?_,?_,?_,?_,?_,?_,?_⟩ <;> repeat (with_reducible first | assumption | refine kCd ?_))
   refine zH 0 ?_;simp only [zw,Act.put];refine zH 1 ?_;simp only [zw,Act.put];refine zH 2 ?_;simp only [zw,Act.put];refine zH 3 ?_;simp only [zw,Act.put];refine zH 4 ?_;simp only [zw,Act.put];refine zH 5 ?_;simp only [zw,Act.put];refine zH 6 ?_;simp only [zw,Act.put];refine zH 7 ?_;simp only [zw,Act.put];refine wpAnyH_ready (rs:=[8]) (by kernel_rfl) (by simp) ?_;refine AllReadyH.cons (o:=_) rfl (fun K hK=>?_) ?_;rotate_left;exact AllReadyH.nil;go_simp
   go_at_call 151
   refine (CA.out _ (Below.drew (Below.refl _ _))).mono ?_;rintro e w6 ⟨rfl,hb6⟩
   (try go_wp2_with fail)
   refine hK.out _ _ ?_ (fun hH=>?_)
   ·((try dsimp only);(refine ⟨?_,?_,?_,?_,?_,?_,?_,?_,?_,?_,?_⟩ <;> repeat (with_reducible first | assumption | refine kCb (by assumption) ?_ | refine kCd ?_)))
   clear hK K;try simp only [zw,Act.put]
   refine zH 9 ?_;simp only [zw,Act.put];refine wpAnyH_done (by kernel_rfl) ?_ _;replace HB:=zk (HB.out.drew.trans (hb6.mono HB.out.drew.size));clear hHeld hH hb6 CA p0 p1 p2 a4 a5 a6 a7 a8 a9 a10 a11;cases t1
   ·have HF:Hid (zci pc cs.length=false):=zcN hlt HT1.out;clear HT1 HT;go_wp2;go_ret;exact ⟨by rw [HF.out];rfl,bUp HB0.out HB.out⟩
   ·have HT2:Hid (∀j,j<i+1->pc j=true):=fun j hj=>by
     by_cases e:j=i
     ·rw [e];exact HT1.out
     ·exact HT.out j (by omega)
    clear HT1 HT;go_wp2;go_roundw
    case rel=>exact ⟨i+1,by omega,by go_num,HB.out,HT2.out⟩
    case measure=>simp [intOf];omega
  ·have e1:i=cs.length:=by omega
   have i4':¬(((i:Nat):Int)<((cs.length:Nat):Int)):=by omega
   rw [e1] at HT;have HAC:Hid (zci pc cs.length=true):=allB_iff.2 HT.out;have r4:=(BM.out.q_ HB.out).cell (j:=4) rfl;have HW:=zk HB.out;clear e1 HT HB;go_wp2_with fail
   clear r4 i4' hi;generalize wr=w1 at *;go_loopw [31] (fun t wr=>∃(i:Nat),i<=rs.length/\t=.int .i64 i/\Hid (Bl w1 wr)/\Hid (∀j,j<i->pr j=true)) (fun t _=>rs.length-(intOf t).toNat)
   case atStart=>exact ⟨0,by omega,rfl,Below.refl _ _,fun j hj=>by omega⟩
   case round =>
    obtain ⟨i,hi,rfl,HB,HT⟩:=hrel;by_cases hlt:i<rs.length
    ·obtain ⟨v,hv⟩:∃v,rs[i]?=some v:=⟨_,getElem?_eq_getElem hlt⟩;have hbw:=(bUp HB0.out HW.out).trans (HB.out.mono (le_trans HB0.out.size HW.out.size));obtain ⟨⟨b,o,hra,hc0⟩,hn⟩:=HR.out i v hv;subst hra;have hc:=hc0.q_ hbw;replace hn:=hn.q_ hbw;have hvm:=mem_of_getElem? hv;have hbd:=hP.out.rb v hvm;obtain ⟨t1,ht1⟩:∃t,pr i=t:=⟨_,rfl⟩;have CA:Hid (∀(t:Nm) W,Bl wr W->QnT (KE L) W t (dsum xs v.ts 0)->Calls prog 151 #[(R i).lo.val,(R i).hi.val,t.val] W fun e w2=>e=.returned (.bool t1)/\Bl W w2):=fun t W hW ht=>by
      have:=zhB (K:=KE L) (w:=W) (ziO (hn.lq.q_ hW) (by unfold KE;omega)) hn.li (ziO (hn.hq.q_ hW) (by unfold KE;omega)) hn.hi ht (by unfold KE;omega) hbd;rw [show kpsB (dsum xs v.ts 0) v.li v.lq v.hi v.hq=t1 from by rw [<-ht1,<-HPR.out];simp only [brB,hv,Bool.not_not,zbu,zcJ]] at this;exact this
     have CD:Hid (∀W,Bl wr W->Calls prog 129 #[.slice (R i).ta (R i).tk (R i).tc,.slice ax cs.length cap] W fun e w2=>zdE (KE L) W w2 e (dsum xs v.ts 0)):=fun W hW=>znx (L:=L) (hn.tl.q_ hW) ((HX.out.q_ hbw).q_ hW) hn.tk.symm hk (by rw [hn.tk];exact hP.out.tl v hvm) (by omega) (fun j a q e=>hP.out.tc v hvm (a,q) (mem_of_getElem? e))
     obtain ⟨⟨z,⟨i1,⟨s1,x1,n1,c1,f1,y1,m1,d1,g1⟩⟩,⟨i2,⟨s2,x2,n2,c2,f2,y2,m2,d2,g2⟩⟩,ta,tk,tc,tcol,tt⟩,hCi⟩:∃t,R i=t:=⟨_,rfl⟩;rw [hCi] at hc CA CD;replace CA:Hid (∀(t:Nm) W,Bl wr W->QnT (KE L) W t (dsum xs v.ts 0)->Calls prog 151 #[.agg #[.int .i64 i1,.bool s1,.slice x1 n1 c1,.slice y1 m1 d1],.agg #[.int .i64 i2,.bool s2,.slice x2 n2 c2,.slice y2 m2 d2],t.val] W fun e w2=>e=.returned (.bool t1)/\Bl W w2):=CA;replace CD:Hid (∀W,Bl wr W->Calls prog 129 #[.slice ta tk tc,.slice ax cs.length cap] W fun e w2=>zdE (KE L) W w2 e (dsum xs v.ts 0)):=CD;obtain ⟨q0,q1,q2,q3,q4,q5,q6,q7,q8,q9⟩:=hc.lr;have hbt:=zB wr (.cells #[.string z,.int .i64 i1,.bool s1,.slice x1 n1 c1,.slice y1 m1 d1,.int .i64 i2,.bool s2,.slice x2 n2 c2,.slice y2 m2 d2,.slice ta tk tc] 131);have BC:=zD wr [.string z,.int .i64 i1,.bool s1,.slice x1 n1 c1,.slice y1 m1 d1,.int .i64 i2,.bool s2,.slice x2 n2 c2,.slice y2 m2 d2,.slice ta tk tc] 131;have HT1:=zk ht1;have i1':((i:Nat):Int)<((rs.length:Nat):Int):=by omega
     clear hCi hc hc0 hn ht1 hv hvm hbd hbw;go_upto_region 10 with fail
     clear q0 q1 q2 q3 q4 q5 q6 q7 q8 q9;obtain ⟨-,a1,a2,a3,a4,a5,a6,a7,a8,a9⟩:=ziq BC;replace CA:=zk (fun (t:Nm) W (hW:Below (wr.alloc (.cells #[.string z,.int .i64 i1,.bool s1,.slice x1 n1 c1,.slice y1 m1 d1,.int .i64 i2,.bool s2,.slice x2 n2 c2,.slice y2 m2 d2,.slice ta tk tc] 131)).heap.size (wr.alloc (.cells #[.string z,.int .i64 i1,.bool s1,.slice x1 n1 c1,.slice y1 m1 d1,.int .i64 i2,.bool s2,.slice x2 n2 c2,.slice y2 m2 d2,.slice ta tk tc] 131)) W)=>CA.out t W (bUp hbt hW));replace CD:=zk (fun W (hW:Below (wr.alloc (.cells #[.string z,.int .i64 i1,.bool s1,.slice x1 n1 c1,.slice y1 m1 d1,.int .i64 i2,.bool s2,.slice x2 n2 c2,.slice y2 m2 d2,.slice ta tk tc] 131)).heap.size (wr.alloc (.cells #[.string z,.int .i64 i1,.bool s1,.slice x1 n1 c1,.slice y1 m1 d1,.int .i64 i2,.bool s2,.slice x2 n2 c2,.slice y2 m2 d2,.slice ta tk tc] 131)) W)=>CD.out W (bUp hbt hW));replace HB:=zL HB hbt;clear hbt BC;generalize hbx:wr.heap.size=bx at *;generalize wr.alloc (.cells #[.string z,.int .i64 i1,.bool s1,.slice x1 n1 c1,.slice y1 m1 d1,.int .i64 i2,.bool s2,.slice x2 n2 c2,.slice y2 m2 d2,.slice ta tk tc] 131)=w5 at *;clear hbx;refine wp_region_held_drew (S:=(fun w'=>w'.cell? ⟨bx,1,none⟩=some (.int .i64 i1)/\w'.cell? ⟨bx,2,none⟩=some (.bool s1)/\w'.cell? ⟨bx,3,none⟩=some (.slice x1 n1 c1)/\w'.cell? ⟨bx,4,none⟩=some (.slice y1 m1 d1)/\w'.cell? ⟨bx,5,none⟩=some (.int .i64 i2)/\w'.cell? ⟨bx,6,none⟩=some (.bool s2)/\w'.cell? ⟨bx,7,none⟩=some (.slice x2 n2 c2)/\w'.cell? ⟨bx,8,none⟩=some (.slice y2 m2 d2)/\w'.cell? ⟨bx,9,none⟩=some (.slice ta tk tc))) (by kernel_rfl) ?_ (fun hHeld=>?_)
     ·(refine ⟨?_,?_,?_,?_,?_,?_,?_,?_,?_⟩ <;> repeat (with_reducible first | assumption | refine kCd ?_))
     refine zH 0 ?_;simp only [zw,Act.put];refine zH 1 ?_;simp only [zw,Act.put];refine zH 2 ?_;simp only [zw,Act.put];refine zH 3 ?_;simp only [zw,Act.put];refine zH 4 ?_;simp only [zw,Act.put];refine zH 5 ?_;simp only [zw,Act.put];refine zH 6 ?_;simp only [zw,Act.put];refine wpAnyH_ready (rs:=[7]) (by kernel_rfl) (by simp) ?_;refine AllReadyH.cons (o:=_) rfl (fun K hK=>?_) ?_;rotate_left;exact AllReadyH.nil;go_simp
     go_at_call 129
     refine (CD.out _ (Below.drew (Below.refl _ _))).mono ?_;rintro e w6 ⟨s4,x4,n4,c4,f4,y4,m4,d4,g4,rfl,hb6,hq1,hq2,hq⟩
     (try go_wp2_with fail)
     refine hK.out _ _ ?_ (fun hH6=>?_)
     ·((try dsimp only);(refine ⟨?_,?_,?_,?_,?_,?_,?_,?_,?_⟩ <;> repeat (with_reducible first | assumption | refine kCb (by assumption) ?_ | refine kCd ?_)))
     clear hK K;try simp only [zw,Act.put]
     refine wpAnyH_ready (rs:=[8]) (by kernel_rfl) (by simp) ?_;refine AllReadyH.cons (o:=_) rfl (fun K hK=>?_) ?_;rotate_left;exact AllReadyH.nil;go_simp
     go_at_call 151
     refine (CA.out ⟨s4,x4,n4,c4,f4,y4,m4,d4,g4⟩ w6 zai ⟨hq1,hq2,hq⟩).mono ?_;rintro e w7 ⟨rfl,hb7⟩
     (try go_wp2_with fail)
     refine hK.out _ _ ?_ (fun hH7=>?_)
     ·((try dsimp only);(refine ⟨?_,?_,?_,?_,?_,?_,?_,?_,?_⟩ <;> repeat (with_reducible first | assumption | refine kCb (by assumption) ?_ | refine kCd ?_)))
     clear hK K;try simp only [zw,Act.put]
     refine zH 9 ?_;simp only [zw,Act.put];refine wpAnyH_done (by kernel_rfl) ?_ _;replace HB:=zk (HB.out.drew.trans (hb6.mono HB.out.drew.size));replace HB:=zL HB hb7;clear hHeld hH6 hH7 hb6 hb7 hq1 hq2 hq CA CD a1 a2 a3 a4 a5 a6 a7 a8 a9;cases t1
     ·have HF:Hid (zci pr rs.length=false):=zcN hlt HT1.out;clear HT1 HT;go_wp2;go_ret;exact ⟨by rw [HF.out,Bool.and_false];rfl,(bUp HB0.out HW.out).trans (HB.out.mono (le_trans HB0.out.size HW.out.size))⟩
     ·have HT2:Hid (∀j,j<i+1->pr j=true):=fun j hj=>by
       by_cases e:j=i
       ·rw [e];exact HT1.out
       ·exact HT.out j (by omega)
      clear HT1 HT;go_wp2;go_roundw
      case rel=>exact ⟨i+1,by omega,by go_num,HB.out,HT2.out⟩
      case measure=>simp [intOf];omega
    ·have e1:i=rs.length:=by omega
     have i4':¬(((i:Nat):Int)<((rs.length:Nat):Int)):=by omega
     rw [e1] at HT;have HAR:Hid (zci pr rs.length=true):=allB_iff.2 HT.out;clear e1 HT;go_wp2;go_ret;exact ⟨by rw [HAC.out,HAR.out];rfl,(bUp HB0.out HW.out).trans (HB.out.mono (le_trans HB0.out.size HW.out.size))⟩
def KZ (L:Nat):Nat:=3+L+64*(2*L+2)
theorem zgG:∀(a b:List Rat),psum (a++b) 0=psum a 0+psum b 0
 | [],b=>by show psum b 0=0+psum b 0;grind
 | q :: a,b=>by rw [List.cons_append,zcC,zcC,zgG a b];grind
theorem zhD (q:Rat):psum [q] 0=q:=by rw [zcC];show q+0=q;grind
theorem zpR {B}:∀{l:List Rat},(∀q ∈ l,Lo B q)->Lo (1+l.length*(B+1)) (psum l 0)
 | [],_=>Lo.mono (zdO (L:=1) (le_refl 1)) (Nat.le_add_right _ _)
 | q :: l,h=>by
  rw [zcC];exact (zfk (h q List.mem_cons_self) (zpR (fun p hp=>h p (List.mem_cons_of_mem _ hp)))).mono (by rw [List.length_cons,Nat.add_mul];omega)
theorem zfr {y j}:∀{ts:List (Int × Rat)} {q:Rat},q ∈ zbw y ts j->∃t ∈ ts,q=-y*t.2
 | [],q,h=>by simp [zbw] at h
 | (z,a) :: r,q,h=>by
  simp only [zbw,List.mem_append] at h;rcases h with h | h
  ·split at h
   ·exact ⟨(z,a),List.mem_cons_self,by simpa using h⟩
   ·cases h
  ·obtain ⟨t,h1,h2⟩:=zfr h;exact ⟨t,List.mem_cons_of_mem _ h1,h2⟩
theorem zgb {j}:∀{rs:List RV} {ys:List Rat} {q:Rat},q ∈ zaj rs ys j->∃v ∈ rs,∃y ∈ ys,∃t ∈ v.ts,q=-y*t.2
 | [],_,q,h=>by simp [zaj] at h
 | _ :: _,[],q,h=>by simp [zaj] at h
 | v :: rs,y :: ys,q,h=>by
  simp only [zaj,List.mem_append] at h;rcases h with h | h
  ·obtain ⟨t,h1,h2⟩:=zfr h;exact ⟨v,List.mem_cons_self,y,List.mem_cons_self,t,h1,h2⟩
  ·obtain ⟨v',h1,y',h2,r⟩:=zgb h;exact ⟨v',List.mem_cons_of_mem _ h1,y',List.mem_cons_of_mem _ h2,r⟩
def cstQ (cs:List CV) (j:Nat):Rat:=(cs[j]?.map (·.cost)).getD 0
def roQ (cs:List CV) (rs:List RV) (ys:List Rat) (i j:Nat):Rat:=psum (zaj (rs.take i) (ys.take i) j) 0+cstQ cs j
def rdQ (cs:List CV) (rs:List RV) (ys:List Rat) (i:Nat) (y:Rat) (ts:List (Int × Rat)) (j:Nat):Rat:=psum (zaj (rs.take i) (ys.take i) j++zbw y ts j) 0+cstQ cs j
theorem zmz (cs:List CV) (rs:List RV) (ys:List Rat) (j:Nat):roQ cs rs ys 0 j=cstQ cs j:=by
 show psum [] 0+cstQ cs j=_;show 0+cstQ cs j=_
 grind
theorem zoP (cs:List CV) (rs:List RV) (ys:List Rat) (i:Nat) (y:Rat) (ts:List (Int × Rat)):rdQ cs rs ys i y (ts.take 0)=roQ cs rs ys i:=by
 funext j
 show psum (_++[]) 0+_=_;rw [List.append_nil];rfl
theorem zoO {cs rs ys i v y} (h:rs[i]?=some v) (h2:ys[i]?=some y):rdQ cs rs ys i y v.ts=roQ cs rs ys (i+1):=by
 funext j
 unfold rdQ roQ;rw [zdi j h h2]
theorem zmD {cs rs ys i y} {ts:List (Int × Rat)} {p zn:Nat} {a} (h:ts[p]?=some ((zn:Int),a)) (j:Nat):rdQ cs rs ys i y (ts.take (p+1)) j=if zn=j then rdQ cs rs ys i y (ts.take p) j-y*a else rdQ cs rs ys i y (ts.take p) j:=by
 unfold rdQ;rw [zdS j h,<-List.append_assoc,zgG];by_cases e:zn=j
 ·rw [if_pos e,if_pos (by omega),zhD];grind
 ·rw [if_neg e,if_neg (by omega)];show _+(0:Rat)+_=_
  grind
theorem zqL {L cs rs ys i y ts j} (hi:i<rs.length) (hl:rs.length<=64) (hts:∀v ∈ rs,tsB cs.length (-1) v.ts=true) (ht:tsB cs.length (-1) ts=true) (hc:∀v ∈ cs,Lo L v.cost) (hy:∀q ∈ ys,Lo L q) (hy1:Lo L y) (hr:∀v ∈ rs,∀t ∈ v.ts,Lo L t.2) (ht1:∀t ∈ ts,Lo L t.2):Lo (KZ L) (rdQ cs rs ys i y ts j):=by
 have h1:=zcK (j:=j) (rs:=rs.take i) (ys:=ys.take i) (fun v hv=>hts v (List.mem_of_mem_take hv));have h2:=zdC (y:=y) (j:=j) ht;have h3:=zpR (B:=L+L+1) (l:=zaj (rs.take i) (ys.take i) j++zbw y ts j) (fun q hq=>by
  rcases List.mem_append.1 hq with hq | hq
  ·obtain ⟨v,hv,y',hy',t,htt,rfl⟩:=zgb hq;exact zdP (zng (hy y' (List.mem_of_mem_take hy'))) (hr v (List.mem_of_mem_take hv) t htt)
  ·obtain ⟨t,h4,rfl⟩:=zfr hq;exact zdP (zng hy1) (ht1 t h4))
 have h5:Lo (L+1) (cstQ cs j):=by
  unfold cstQ;cases e:cs[j]? with
  | none=>exact zdO (by omega)
  | some v=>exact (hc v (mem_of_getElem? e)).mono (Nat.le_succ _)
 refine (zfk h3 h5).mono ?_;have h6:(zaj (rs.take i) (ys.take i) j++zbw y ts j).length<=64:=by
  rw [List.length_append];rw [List.length_take] at h1;omega
 have h7:=Nat.mul_le_mul_right (L+L+1+1) h6;unfold KZ;have e:2*L+2=L+L+1+1:=by omega
 rw [e];omega
theorem zhz {rs ys}:∀{cs:List CV} {i j:Nat} {v:CV},cs[i]?=some v->(zaE rs ys j cs)[i]?=some (psum (zaj rs ys (j+i)++[v.cost]) 0)
 | [],i,j,v,h=>by simp at h
 | v' :: cs,0,j,v,h=>by
  have e:v'=v:=by simpa using h
  subst e;rfl
 | v' :: cs,i+1,j,v,h=>by
  simp only [zaE,List.getElem?_cons_succ];rw [zhz (cs:=cs) (i:=i) (j:=j+1) (by simpa using h),show j+1+i=j+(i+1) by omega]
theorem zoH {cs rs ys j q} (hl:ys.length=rs.length) (h:(zaE rs ys 0 cs)[j]?=some q):roQ cs rs ys rs.length j=q:=by
 have hj:j<cs.length:=by rw [<-zbb rs ys cs 0];exact (List.getElem?_eq_some_iff.1 h).1
 obtain ⟨v,hv⟩:∃v,cs[j]?=some v:=⟨_,getElem?_eq_getElem hj⟩;rw [zhz hv,zero_add] at h;rw [<-Option.some.inj h,roQ,List.take_of_length_le (le_refl _),List.take_of_length_le (by omega),zgG,zhD,cstQ,hv];rfl
theorem Rk.qn {w B n o u s x k f y m g q} (h:Rk w B n) (ho:o<n*3) (hx:Qn w s x k f y m g q):Qn (w.setCell ⟨B,o,none⟩ u) s x k f y m g q :=
 ⟨⟨⟨h.rd ho hx.num.dn.rd,hx.num.dn.dg,hx.num.dn.fm,hx.num.dn.val⟩,hx.num.sgn,hx.num.pos⟩,⟨h.rd ho hx.den.rd,hx.den.dg,hx.den.fm,hx.den.val⟩⟩
def Qr (K:Nat) (w:World) (B n:Nat) (Q:Nat->Rat):Prop:=∀j,j<n->∃t:Nm,C3 w B (j*3) (.bool t.s) (.slice t.x t.n t.c) (.slice t.y t.m t.d)/\QnT K w t (Q j)
theorem Qr.q_ {K w w' B n Q} (h:Qr K w B n Q) (hb:Bl w w'):Qr K w' B n Q:=fun j hj=>by
 obtain ⟨t,h1,h2⟩:=h j hj;exact ⟨t,h1.q_ hb,h2.q_ hb⟩
theorem zrX {K w B n j Q Q' s x k c f y m d g} (h:Rk w B n) (hq:Qr K w B n Q) (hj:j<n) (hr:QnT K w ⟨s,x,k,c,f,y,m,d,g⟩ (Q' j)) (hs:∀j',j'≠j->Q' j'=Q j') :
  Rk (((w.setCell ⟨B,j*3,none⟩ (.bool s)).setCell ⟨B,j*3+1,none⟩ (.slice x k c)).setCell ⟨B,j*3+2,none⟩ (.slice y m d)) B n/\Qr K (((w.setCell ⟨B,j*3,none⟩ (.bool s)).setCell ⟨B,j*3+1,none⟩ (.slice x k c)).setCell ⟨B,j*3+2,none⟩ (.slice y m d)) B n Q':=by
 have k1:=h.set (o:=j*3) (u:=.bool s) (fun i h=>by cases h);have k2:=k1.set (o:=j*3+1) (u:=.slice x k c) (fun i h=>by cases h);have k3:=k2.set (o:=j*3+2) (u:=.slice y m d) (fun i h=>by cases h);refine ⟨k3,fun j' hj'=>?_⟩;obtain ⟨_,a0,_⟩:=h.has (j*3) (by omega);obtain ⟨_,a1,_⟩:=k1.has (j*3+1) (by omega);obtain ⟨_,a2,_⟩:=k2.has (j*3+2) (by omega);by_cases e:j'=j
 ·subst e;exact ⟨⟨s,x,k,c,f,y,m,d,g⟩,⟨kCo (by omega) (kCo (by omega) (kCe (kI0 a0))),kCo (by omega) (kCe (kI0 a1)),kCe (kI0 a2)⟩,hr.1,hr.2.1,k2.qn (by omega) (k1.qn (by omega) (h.qn (by omega) hr.2.2))⟩
 ·obtain ⟨t,⟨c0,c1,c2⟩,ht⟩:=hq j' hj';rw [hs j' e];exact ⟨t,⟨kCo (by omega) (kCo (by omega) (kCo (by omega) c0)),kCo (by omega) (kCo (by omega) (kCo (by omega) c1)),kCo (by omega) (kCo (by omega) (kCo (by omega) c2))⟩,ht.1,ht.2.1,k2.qn (by omega) (k1.qn (by omega) (h.qn (by omega) ht.2.2))⟩
def Zl (w:World) (base K:Nat) (ao:Option Addr) (n:Nat) (Q:Nat->Rat):Prop:=0<n->∃B,ao=some ⟨B,0,none⟩/\base<=B/\Rk w B n/\Qr K w B n Q
theorem Zl.q_ {w w' base K ao n Q} (h:Zl w base K ao n Q) (hb:Bl w w'):Zl w' base K ao n Q:=fun hn=>by
 obtain ⟨B,h1,h2,h3,h4⟩:=h hn;exact ⟨B,h1,h2,h3.q_ hb,h4.q_ hb⟩
theorem zrJ {e base K n cap w ao T Q} (h:RowG e 3 base w (.slice ao n cap) n (rcells (rls n T))) (hq:∀j,j<n->QnT K w (T j) (Q j)):Zl w base K ao n Q:=fun hn=>by
 have hc:=fun j (hj:j<n)=>zdm h hj
 obtain ⟨h1,h2⟩:=h;rcases h2 with ⟨_,h0⟩ | ⟨g,cap',cur,hv,hb,hg,hle,hm,hs,ht,hnu⟩
 ·omega
 ·cases hv
  refine ⟨g,rfl,hb,⟨(Array.getElem?_eq_some_iff.1 hg).1,fun o ho=>?_,fun o=>by simp [World.frozen?,hg]⟩,fun j hj=>?_⟩
  ·have hlt:o<cur.size:=by omega
   exact ⟨cur[o],by simp [World.cell?,hg,hlt],fun i hi=>hnu o i (by rw [Array.getElem?_eq_getElem hlt,hi])⟩
  ·obtain ⟨b,hb2,hc3⟩:=hc j hj;cases hb2
   rw [zero_add] at hc3;exact ⟨T j,hc3,hq j hj⟩
theorem Zl.rqs {w base K ao n Q p} (h:Zl w base K ao n Q) (hl:p.length=n) (hp:∀j q,p[j]?=some q->Q j=q):Rqs K w ao p:=fun j q hj=>by
 have hlt:j<n:=by rw [<-hl];exact (List.getElem?_eq_some_iff.1 hj).1
 obtain ⟨B,h1,_,_,h4⟩:=h (by omega);obtain ⟨t,h5,h6⟩:=h4 j hlt;rw [hp j q hj] at h6;exact ⟨B,0,t,h1,by rw [zero_add];exact h5,h6⟩
theorem zqO {w L M off cs rs ay k cap ys} (h:MqV (2*L) w M off cs rs) (hy:Rqs (2*L) w ay ys) (hk:ys.length=k) (hkr:k=rs.length) (hm:MvP cs rs) (hts:∀v ∈ rs,tsB cs.length (-1) v.ts=true) (hL:L<=60) :
  Calls prog 38 #[M.val,.slice ay k cap] w fun e w'=>zjs (2*KZ L) w w' e cs.length (zaE rs ys 0 cs):=by
 have hcl:=hm.cl;have hrl:=hm.rl;subst hkr;have HLQ:Hid (∀i y ts j,i<rs.length->tsB cs.length (-1) ts=true->Lo L y->(∀t ∈ ts,Lo L t.2)->Lo (KZ L) (rdQ cs rs ys i y ts j)):=by
  intro i y ts j hi ht hy1 ht1;refine zqL hi hrl hts ht (fun v hv=>?_) (fun q hq=>?_) hy1 (fun v hv t htt=>?_) ht1
  ·obtain ⟨j,hj,e⟩:=List.getElem_of_mem hv;have h1:=(h.cls j v (by rw [getElem?_eq_getElem hj,e])).2.cost;exact h1.2.2.lo h1.1 h1.2.1
  ·obtain ⟨j,hj,e⟩:=List.getElem_of_mem hq;obtain ⟨_,_,t,_,_,h1⟩:=hy j q (by rw [getElem?_eq_getElem hj,e]);exact h1.2.2.lo h1.1 h1.2.1
  ·obtain ⟨j,hj,e⟩:=List.getElem_of_mem hv;obtain ⟨p,hp,e2⟩:=List.getElem_of_mem htt;obtain ⟨_,_,t3,_,_,h1⟩:=(h.rls j v (by rw [getElem?_eq_getElem hj,e])).2.tl p t.1 t.2 (by rw [getElem?_eq_getElem hp,e2]);exact h1.2.2.lo h1.1 h1.2.1
 obtain ⟨⟨s,x,n,c,f,y,m,d,g⟩,ca,ck,cc,C,ra,rk,rc,R⟩:=M;have hck:ck=cs.length:=h.ck;have hrk:rk=rs.length:=h.rk;subst hck;subst hrk;have HC:Hid (∀j v,cs[j]?=some v->(∃b o,ca=some ⟨b,o,none⟩/\Cs w b (o+j*12) (C j).vs)/\QcV (2*L) w (C j) v):=h.cls;have HR:Hid (∀j v,rs[j]?=some v->(∃b o,ra=some ⟨b,o,none⟩/\Cs w b (o+j*10) (R j).vs)/\QrV (2*L) w (R j) v):=h.rls;have HX:=zk hy;have HTS:=zk hts;clear h hy hts hm;have HB0:=zk (zB w (.cells #[.bool s,.slice x n c,.slice y m d,.slice ca cs.length cc,.slice ra rs.length rc] 93));have BM:=zk (zD w [.bool s,.slice x n c,.slice y m d,.slice ca cs.length cc,.slice ra rs.length rc] 93);show Calls prog 38 #[.agg #[.bool s,.slice x n c,.slice y m d,.slice ca cs.length cc,.slice ra rs.length rc],.slice ay rs.length cap] w _;have r3:=BM.out.cell (j:=3) rfl;go_enter func38,ntmps38;go_wp2_with fail
 clear r3;generalize (w.alloc (.cells #[.bool s,.slice x n c,.slice y m d,.slice ca cs.length cc,.slice ra rs.length rc] 93))=w0 at *;go_loopw [5,15] (fun ov t wr=>∃(i:Nat) (T':Nat->Nm),i<=cs.length/\t=.int .i64 i/\Hid (Bl w0 wr)/\Hid (RowG 89 3 w0.heap.size wr ov i (rcells (rls i T')))/\Hid (∀j,j<i->QnT (2*KZ L) wr (T' j) (cstQ cs j))) (fun _ t _=>cs.length-(intOf t).toNat)
 case atStart=>exact ⟨0,fun j=>(C j).cost,by omega,rfl,Below.refl _ _,zan _ _ _ _,fun j hj=>by omega⟩
 case round =>
  obtain ⟨i,T',hi,rfl,HB,HRow,HT⟩:=hrel;by_cases hlt:i<cs.length
  ·obtain ⟨v,hv⟩:∃v,cs[i]?=some v:=⟨_,getElem?_eq_getElem hlt⟩;have hbw:=bUp HB0.out HB.out;obtain ⟨⟨b,o,hca,hc0⟩,hn⟩:=HC.out i v hv;subst hca;have hc:=hc0.q_ hbw;have hq:=ziO (K':=2*KZ L) (hn.cost.q_ hbw) (by unfold KZ;omega);have hcst:cstQ cs i=v.cost:=by unfold cstQ;rw [hv];rfl
   rw [<-hcst] at hq;obtain ⟨⟨z,⟨s0,x0,n0,c0,f0,y0,m0,d0,g0⟩,⟨i1,⟨s1,x1,n1,c1,f1,y1,m1,d1,g1⟩⟩,⟨i2,⟨s2,x2,n2,c2,f2,y2,m2,d2,g2⟩⟩⟩,hCi⟩:∃t,C i=t:=⟨_,rfl⟩;rw [hCi] at hc hq;replace hq:QnT (2*KZ L) wr ⟨s0,x0,n0,c0,f0,y0,m0,d0,g0⟩ (cstQ cs i):=hq;obtain ⟨q0,q1,q2,q3,q4,q5,q6,q7,q8,q9,q10,q11⟩:=hc.lc;have hbt:=zB wr (.cells #[.string z,.bool s0,.slice x0 n0 c0,.slice y0 m0 d0,.int .i64 i1,.bool s1,.slice x1 n1 c1,.slice y1 m1 d1,.int .i64 i2,.bool s2,.slice x2 n2 c2,.slice y2 m2 d2] 128);have BC:=zD wr [.string z,.bool s0,.slice x0 n0 c0,.slice y0 m0 d0,.int .i64 i1,.bool s1,.slice x1 n1 c1,.slice y1 m1 d1,.int .i64 i2,.bool s2,.slice x2 n2 c2,.slice y2 m2 d2] 128;have i1':((i:Nat):Int)<((cs.length:Nat):Int):=by omega
   clear hCi hc hc0 hn hv hcst hbw;go_upto_region 5 with fail
   clear q0 q1 q2 q3 q4 q5 q6 q7 q8 q9 q10 q11;obtain ⟨-,a1,a2,a3⟩:=bk4 BC;have HN:=zk (hq.q_ hbt);have HRow5:=zk (HRow.out.q_ hbt);have HB5:=zL HB hbt
   have HT5:Hid (∀j,j<i->QnT (2*KZ L) (wr.alloc (.cells #[.string z,.bool s0,.slice x0 n0 c0,.slice y0 m0 d0,.int .i64 i1,.bool s1,.slice x1 n1 c1,.slice y1 m1 d1,.int .i64 i2,.bool s2,.slice x2 n2 c2,.slice y2 m2 d2] 128)) (T' j) (cstQ cs j)):=fun j hj=>(HT.out j hj).q_ hbt
   clear hbt BC hq HB HRow HT;generalize hbx:wr.heap.size=bx at *;generalize wr.alloc (.cells #[.string z,.bool s0,.slice x0 n0 c0,.slice y0 m0 d0,.int .i64 i1,.bool s1,.slice x1 n1 c1,.slice y1 m1 d1,.int .i64 i2,.bool s2,.slice x2 n2 c2,.slice y2 m2 d2] 128)=w5 at *;clear hbx;have hsz:=HB5.out.size;go_wp2_with (at_builtin;go_must (refine zac w5 rfl (.tmp 19) (.tmp 22) 84 rfl w0.heap.size 89 56 3 (.agg #[.bool false,.slice none 0 0,.slice none 0 0]) underlying84 zpU rfl (by decide) nz3 u5 i (rcells (rls i T')) rfl HRow5.out #[.bool s0,.slice x0 n0 c0,.slice y0 m0 d0] rfl rfl (zgK _ _ _ _ _ _ _) (zff _ _ _ _ _ _ _) ?p1 (by decide) hsz ?_))
   case p1=>omega
   intro g8 cap8 w8 hr8 hk8 hb8 hg8;have HB8:=zk (hb8 w0 HB5.out (le_refl _));have HR8:Hid (RowG 89 3 w0.heap.size w8 (.slice (some ⟨g8,0,none⟩) (i+1) cap8) (i+1) (rcells (rls (i+1) (zaI T' i ⟨s0,x0,n0,c0,f0,y0,m0,d0,g0⟩)))):=by
    show RowG _ _ _ _ _ _ _;rw [zeu];exact hr8
   have HT8:Hid (∀j,j<i+1->QnT (2*KZ L) w8 (zaI T' i ⟨s0,x0,n0,c0,f0,y0,m0,d0,g0⟩ j) (cstQ cs j)):=fun j hj=>by
    by_cases e:j=i
    ·subst e;rw [zbv];exact HN.out.kp hk8
    ·rw [putN_ne e];exact (HT5.out j (by omega)).kp hk8
   clear hr8 hk8 hb8 hg8 HRow5 HT5 HB5 HN hsz a1 a2 a3;go_wp2;go_roundw
   case rel=>exact ⟨i+1,_,by omega,by go_num,HB8.out,HR8.out,HT8.out⟩
   case measure=>simp [intOf];omega
  ·have e1:i=cs.length:=by omega
   have i4':¬(((i:Nat):Int)<((cs.length:Nat):Int)):=by omega
   rw [e1] at HRow HT;obtain ⟨aw,cw,rfl⟩:=HRow.out.slice;have hcw:cs.length<=cw/\cw<=9223372036854775807:=by
    rcases HRow.out.2 with ⟨hv,h0⟩ | ⟨_,_,_,hv,_,_,h5,h6,_⟩
    ·simp only [Value.slice.injEq] at hv;obtain ⟨_,_,h9⟩:=hv;omega
    ·simp only [Value.slice.injEq] at hv;obtain ⟨_,_,h9⟩:=hv;unfold maxLen at h6;omega
   have HZ:Hid (Zl wr w0.heap.size (2*KZ L) aw cs.length (roQ cs rs ys 0)):=zrJ HRow.out (fun j hj=>by rw [zmz];exact HT.out j hj);have r4:=(BM.out.q_ HB.out).cell (j:=4) rfl;have HW:=zk HB.out;have HCW:=zk hcw;clear e1 HT HB HRow HC hcw;go_wp2_with fail
   clear r4 i4' hi hlt;generalize wr=w1 at *;go_loopw [28] (fun t wr=>∃(i:Nat),i<=rs.length/\t=.int .i64 i/\Hid (Bl w0 wr)/\Hid (Zl wr w0.heap.size (2*KZ L) aw cs.length (roQ cs rs ys i))) (fun t _=>rs.length-(intOf t).toNat)
   case atStart=>exact ⟨0,by omega,rfl,HW.out,HZ.out⟩
   case round =>
    clear HW HZ;obtain ⟨i,hi,rfl,HB,HZ⟩:=hrel;by_cases hlt:i<rs.length
    ·obtain ⟨v,hv⟩:∃v,rs[i]?=some v:=⟨_,getElem?_eq_getElem hlt⟩;obtain ⟨yq,hyq⟩:∃t,ys[i]?=some t:=⟨_,getElem?_eq_getElem (by omega)⟩;have hbw:=bUp HB0.out HB.out;obtain ⟨⟨b,o,hra,hc0⟩,hn⟩:=HR.out i v hv;subst hra;have hc:=hc0.q_ hbw;have hvm:=mem_of_getElem? hv;obtain ⟨b',o',⟨s3,x3,n3,c3,f3,y3,m3,d3,g3⟩,hay,hcy,hqy⟩:=HX.out i yq hyq;subst hay;have HCY:Hid (C3 w b' (o'+i*3) (.bool s3) (.slice x3 n3 c3) (.slice y3 m3 d3)):=hcy;have HQY:Hid (n3<=2*L/\m3<=2*L/\Qn w s3 x3 n3 f3 y3 m3 g3 yq):=hqy;have HY1:Hid (Lo L yq):=hqy.2.2.lo hqy.1 hqy.2.1;have htl:=hn.tl;have htk:=hn.tk;have HS:=zk (HTS.out v hvm);have hvl:v.ts.length<=64:=by have:=zgs HS.out (by omega);omega
     have HRW:=zk (zoO (cs:=cs) hv hyq);obtain ⟨⟨z,⟨i1,⟨s1,x1,n1,c1,f1,y1,m1,d1,g1⟩⟩,⟨i2,⟨s2,x2,n2,c2,f2,y2,m2,d2,g2⟩⟩,ta,tk,tc,tcol,tt⟩,hCi⟩:∃t,R i=t:=⟨_,rfl⟩;rw [hCi] at hc htl htk;replace htk:tk=v.ts.length:=htk;subst htk;have HTQ:Hid (Tq (2*L) w ta v.ts):=htl;obtain ⟨q0,q1,q2,q3,q4,q5,q6,q7,q8,q9⟩:=hc.lr;have hbt:=zB wr (.cells #[.string z,.int .i64 i1,.bool s1,.slice x1 n1 c1,.slice y1 m1 d1,.int .i64 i2,.bool s2,.slice x2 n2 c2,.slice y2 m2 d2,.slice ta v.ts.length tc] 131);have BC:=zD wr [.string z,.int .i64 i1,.bool s1,.slice x1 n1 c1,.slice y1 m1 d1,.int .i64 i2,.bool s2,.slice x2 n2 c2,.slice y2 m2 d2,.slice ta v.ts.length tc] 131;have i1':((i:Nat):Int)<((rs.length:Nat):Int):=by omega
     clear hCi hc hc0 hn hv hvm hbw hyq hcy hqy htl;go_upto_region 10 with fail
     clear q0 q1 q2 q3 q4 q5 q6 q7 q8 q9;have a9:=BC.cell (j:=9) rfl;replace HB:=zL HB hbt;replace HZ:=zk (HZ.out.q_ hbt)
     clear hbt BC;generalize hbx:wr.heap.size=bx at *;generalize wr.alloc (.cells #[.string z,.int .i64 i1,.bool s1,.slice x1 n1 c1,.slice y1 m1 d1,.int .i64 i2,.bool s2,.slice x2 n2 c2,.slice y2 m2 d2,.slice ta v.ts.length tc] 131)=w5 at *;clear hbx;go_wp2_with fail
     clear a9;go_loopw [36] (fun t wr=>∃(p:Nat),p<=v.ts.length/\t=.int .i64 p/\Hid (Bl w0 wr)/\Hid (Zl wr w0.heap.size (2*KZ L) aw cs.length (rdQ cs rs ys i yq (v.ts.take p)))) (fun t _=>v.ts.length-(intOf t).toNat)
     case atStart=>exact ⟨0,by omega,rfl,HB.out,by show Zl _ _ _ _ _ _;rw [zoP];exact HZ.out⟩
     case round =>
      clear HB HZ;obtain ⟨p,hp,rfl,HB,HZ⟩:=hrel;by_cases hlp:p<v.ts.length
      ·obtain ⟨⟨z2,q⟩,haq⟩:∃t,v.ts[p]?=some t:=⟨_,getElem?_eq_getElem hlp⟩;obtain ⟨hz0,hz1,_⟩:=zes HS.out _ (mem_of_getElem? haq);replace hz0:(-1:Int)<z2:=hz0;replace hz1:z2<(cs.length:Int):=hz1;obtain ⟨zn,rfl⟩:=Int.eq_ofNat_of_zero_le (show 0<=z2 by omega);have hbw:=bUp HB0.out HB.out;obtain ⟨b2,o2,⟨ts,tx,tn,tc2,tf,ty,tm,td,tg⟩,hta,hc,hr⟩:=HTQ.out p (zn:Int) q haq;subst hta;obtain ⟨k0,k1,k2,k3⟩:=hc.q_ hbw;replace k0:wr.cell? ⟨b2,o2+p*4,none⟩=some (.int .i64 zn):=k0;replace k1:wr.cell? ⟨b2,o2+p*4+1,none⟩=some (.bool ts):=k1;replace k2:wr.cell? ⟨b2,o2+p*4+2,none⟩=some (.slice tx tn tc2):=k2;replace k3:wr.cell? ⟨b2,o2+p*4+3,none⟩=some (.slice ty tm td):=k3;have hr2:tn<=2*L/\tm<=2*L/\Qn wr ts tx tn tf ty tm tg q:=hr.q_ hbw;obtain ⟨BZ,hao,hge,hk,hqr⟩:=HZ.out (by omega);subst hao;obtain ⟨⟨ls,lx,ln,lc,lf,ly,lm,ld,lg⟩,⟨p0,p1,p2⟩,hr0⟩:=hqr zn (by omega);replace p0:wr.cell? ⟨BZ,zn*3,none⟩=some (.bool ls):=p0;replace p1:wr.cell? ⟨BZ,zn*3+1,none⟩=some (.slice lx ln lc):=p1;replace p2:wr.cell? ⟨BZ,zn*3+2,none⟩=some (.slice ly lm ld):=p2;replace hr0:ln<=2*KZ L/\lm<=2*KZ L/\Qn wr ls lx ln lf ly lm lg (rdQ cs rs ys i yq (v.ts.take p) zn):=hr0;obtain ⟨v0,v1,v2⟩:=HCY.out.q_ hbw;replace v0:wr.cell? ⟨b',o'+i*3,none⟩=some (.bool s3):=v0;replace v1:wr.cell? ⟨b',o'+i*3+1,none⟩=some (.slice x3 n3 c3):=v1;replace v2:wr.cell? ⟨b',o'+i*3+2,none⟩=some (.slice y3 m3 d3):=v2;have hr1:=HQY.out.2.2.q_ hbw;obtain ⟨ly1,ly2,_⟩:=HQY.out;have hbt:=zB wr (.cells #[.int .i64 zn,.bool ts,.slice tx tn tc2,.slice ty tm td] 133);obtain ⟨a0,a1,a2,a3⟩:=bk4 (zD wr [.int .i64 zn,.bool ts,.slice tx tn tc2,.slice ty tm td] 133);have i2':((p:Nat):Int)<((v.ts.length:Nat):Int):=by omega
       have i3':((zn:Nat):Int)<((cs.length:Nat):Int):=by omega
       have i5':((i:Nat):Int)<((rs.length:Nat):Int):=by omega
       have hzn:zn<cs.length:=by omega
       have HST:=zk (fun j=>zmD (cs:=cs) (rs:=rs) (ys:=ys) (i:=i) (y:=yq) haq j);have HL2:Hid (∀j,Lo (KZ L) (rdQ cs rs ys i yq (v.ts.take (p+1)) j)):=fun j=>HLQ.out i yq _ j hlt (zdG _ HS.out) HY1.out (fun t ht=>by
        obtain ⟨j2,hj2,e2⟩:=List.getElem_of_mem (List.mem_of_mem_take ht);obtain ⟨_,_,_,_,_,h1⟩:=HTQ.out j2 t.1 t.2 (by rw [getElem?_eq_getElem hj2,e2]);exact h1.2.2.lo h1.1 h1.2.1)
       clear haq hr hbw hc;go_upto_region 13 with fail
       clear k0 k1 k2 k3;replace p0:=kCb hbt p0;replace p1:=kCb hbt p1;replace p2:=kCb hbt p2;replace v0:=kCb hbt v0;replace v1:=kCb hbt v1;replace v2:=kCb hbt v2;have R0:=zk (hr0.2.2.q_ hbt);have R1:=zk (hr1.q_ hbt);have R2:=zk (hr2.2.2.q_ hbt)
       obtain ⟨lz1,lz2,_⟩:=hr0;obtain ⟨la1,la2,_⟩:=hr2;replace HB:=zL HB hbt;have HK:=zk (hk.q_ hbt);have HQR:=zk (hqr.q_ hbt)
       clear hr1 hbt hk hqr HZ;generalize hbx:wr.heap.size=bx at *;generalize wr.alloc (.cells #[.int .i64 zn,.bool ts,.slice tx tn tc2,.slice ty tm td] 133)=w5 at *;clear hbx;have CM:Hid (∀W,Bl w5 W->Calls prog 73 #[.agg #[.bool s3,.slice x3 n3 c3,.slice y3 m3 d3],.agg #[.bool ts,.slice tx tn tc2,.slice ty tm td]] W fun e w'=>∃s x n c d y m e' g,e=.returned (.agg #[.bool s,.slice x n c,.slice y m e'])/\Bl W w'/\Hid ((n<=2*(L+L+1)/\m<=2*(L+L+1))/\Qn w' s x n d y m g (yq*q))):=fun W hW =>
        (zmM (R1.out.q_ hW) (R2.out.q_ hW) (by omega) (by omega) (by omega) (by omega)).mono (fun _ _ ⟨s,x,n,c,d,y,m,c',g,h1,h2,h3,h4,h5⟩=>⟨s,x,n,c,d,y,m,c',g,h1,h2,h5.len (zdP (R1.out.lo ly1 ly2) (R2.out.lo la1 la2)),h5⟩)
       have CA:Hid (∀(W:World) (s1:Bool) (x1:Option Addr) (n1 c1:Nat) (d1:Nat->Int) (y1:Option Addr) (m1 e1:Nat) (g1:Nat->Int),Bl w5 W->(n1<=2*(L+L+1)/\m1<=2*(L+L+1))/\Qn W s1 x1 n1 d1 y1 m1 g1 (yq*q)->Calls prog 72 #[.agg #[.bool ls,.slice lx ln lc,.slice ly lm ld],.agg #[.bool s1,.slice x1 n1 c1,.slice y1 m1 e1]] W fun e w'=>∃s x n c d y m e' g,e=.returned (.agg #[.bool s,.slice x n c,.slice y m e'])/\Bl W w'/\Hid (QnT (2*KZ L) w' ⟨s,x,n,c,d,y,m,e',g⟩ (rdQ cs rs ys i yq (v.ts.take (p+1)) zn))):=fun W s1 x1 n1 c1 d1 y1 m1 e1 g1 hW hh=>by
        have hkz:2*KZ L<=120000:=by unfold KZ;omega
        refine (zqT (R0.out.q_ hW) hh.2 (by omega) (by omega) (by omega) (by omega)).mono (fun _ _ ⟨s,x,n,c,d,y,m,c',g,h1,h2,h3,h4,h5⟩=>⟨s,x,n,c,d,y,m,c',g,h1,h2,?_⟩);have e2:=HST.out zn;rw [if_pos rfl] at e2;have h6:=HL2.out zn;rw [<-e2] at h5;exact ⟨(h5.len h6).1,(h5.len h6).2,h5⟩
       refine zah (S:=(fun w'=>w'.cell? ⟨bx,0,none⟩=some (.int .i64 zn)/\w'.cell? ⟨bx,1,none⟩=some (.bool ts)/\w'.cell? ⟨bx,2,none⟩=some (.slice tx tn tc2)/\w'.cell? ⟨bx,3,none⟩=some (.slice ty tm td)/\w'.cell? ⟨BZ,zn*3,none⟩=some (.bool ls)/\w'.cell? ⟨BZ,zn*3+1,none⟩=some (.slice lx ln lc)/\w'.cell? ⟨BZ,zn*3+2,none⟩=some (.slice ly lm ld)/\w'.cell? ⟨b',o'+i*3,none⟩=some (.bool s3)/\w'.cell? ⟨b',o'+i*3+1,none⟩=some (.slice x3 n3 c3)/\w'.cell? ⟨b',o'+i*3+2,none⟩=some (.slice y3 m3 d3))) 17 (by kernel_rfl) ⟨kCd a0,kCd a1,kCd a2,kCd a3,kCd p0,kCd p1,kCd p2,kCd v0,kCd v1,kCd v2⟩ (fun hHeld=>?_);refine skP 0 ?_;simp only [zw,Act.put];refine skP 1 ?_;simp only [zw,Act.put];refine tkP 2 ?_;simp only [zw,Act.put];refine skP 3 ?_;simp only [zw,Act.put];refine skP 4 ?_;simp only [zw,Act.put];refine tkP 5 ?_;simp only [zw,Act.put];refine skP 6 ?_;simp only [zw,Act.put];refine tkP 7 ?_;simp only [zw,Act.put];refine skP 8 ?_;simp only [zw,Act.put];refine skP 9 ?_;simp only [zw,Act.put];refine skP 10 ?_;simp only [zw,Act.put];refine tkP 11 ?_;simp only [zw,Act.put];refine skP 12 ?_;simp only [zw,Act.put];refine tkP 13 ?_;simp only [zw,Act.put];refine zI (rs:=[14]) (by kernel_rfl) (by simp) ?_;refine AllReadyP.cons (o:=_) rfl (fun K hK=>?_) ?_;rotate_left;exact AllReadyP.nil;go_simp
       go_at_call 73
       refine (CM.out _ (Below.drew (Below.refl _ _))).mono ?_;rintro e w6 ⟨s6,x6,n6,c6,f6,y6,m6,d6,g6,rfl,hb6,hq6⟩
       (try go_wp2_with fail)
       have yy0:=kCb hb6 (hHeld.1);have yy1:=kCb hb6 (hHeld.2.1);have yy2:=kCb hb6 (hHeld.2.2.1);have yy3:=kCb hb6 (hHeld.2.2.2.1);have yy4:=kCb hb6 (hHeld.2.2.2.2.1);have yy5:=kCb hb6 (hHeld.2.2.2.2.2.1);have yy6:=kCb hb6 (hHeld.2.2.2.2.2.2.1);have yy7:=kCb hb6 (hHeld.2.2.2.2.2.2.2.1);have yy8:=kCb hb6 (hHeld.2.2.2.2.2.2.2.2.1);have yy9:=kCb hb6 (hHeld.2.2.2.2.2.2.2.2.2);refine hK.out _ _ (fun _=>⟨yy0,yy1,yy2,yy3,yy4,yy5,yy6,yy7,yy8,yy9⟩) (fun hS6=>?_);clear hK K hS6;try simp only [Act.put,setIfInBounds_toArray,set_cons_zero,set_cons_succ]
       have Bd6:=(Below.drew (Below.refl w5.heap.size w5)).trans (hb6.mono (le_refl _));refine zI (rs:=[15]) (by kernel_rfl) (by simp) ?_;refine AllReadyP.cons (o:=_) rfl (fun K hK=>?_) ?_;rotate_left;exact AllReadyP.nil;go_simp
       go_at_call 72
       refine (CA.out w6 s6 x6 n6 c6 f6 y6 m6 d6 g6 Bd6 hq6.out).mono ?_;rintro e w7 ⟨s7,x7,n7,c7,f7,y7,m7,d7,g7,rfl,hb7,hq7⟩
       (try go_wp2_with fail)
       have uu0:=kCb hb7 yy0;have uu1:=kCb hb7 yy1;have uu2:=kCb hb7 yy2;have uu3:=kCb hb7 yy3;have uu4:=kCb hb7 yy4;have uu5:=kCb hb7 yy5;have uu6:=kCb hb7 yy6;have uu7:=kCb hb7 yy7;have uu8:=kCb hb7 yy8;have uu9:=kCb hb7 yy9;refine hK.out _ _ (fun _=>⟨uu0,uu1,uu2,uu3,uu4,uu5,uu6,uu7,uu8,uu9⟩) (fun hS7=>?_);clear hK K hS7;try simp only [Act.put,setIfInBounds_toArray,set_cons_zero,set_cons_succ]
       have Bd7:=bUp Bd6 hb7;have hk7:=HK.out.q_ Bd7;obtain ⟨R1a,R2a⟩:=zrX (j:=zn) (Q':=rdQ cs rs ys i yq (v.ts.take (p+1))) hk7 (HQR.out.q_ Bd7) hzn hq7.out (fun j' h2=>by rw [HST.out j',if_neg (fun e=>h2 e.symm)]);have HB7:=zk (znR (o:=zn*3) (u0:=.bool s7) (u1:=.slice x7 n7 c7) (u2:=.slice y7 m7 d7) (bUp HB.out Bd7) hge);have tf2:=hk7.fz;have HR1:=zk R1a;have HR2:=zk R2a
       clear R1a R2a hq7 hq6 hk7 Bd7 Bd6 hb6 hb7 HK HQR HB R0 R1 R2 CM CA HL2 HST yy0 yy1 yy2 yy3 yy4 yy5 yy6 yy7 yy8 yy9 hHeld a0 a1 a2 a3 p0 p1 p2 v0 v1 v2;refine zI (rs:=[16]) (by kernel_rfl) (by simp) ?_;refine AllReadyP.cons (o:=_) rfl (fun K hK=>?_) ?_;rotate_left;exact AllReadyP.nil;go_simp;refine hK.out _ _ (fun _=>⟨uu0,uu1,uu2,uu3,uu4,uu5,uu6,uu7,uu8,uu9⟩) (fun hS9=>?_);clear hK K hS9;try simp only [Act.put,setIfInBounds_toArray,set_cons_zero,set_cons_succ]
       refine zI (rs:=[17]) (by kernel_rfl) (by simp) ?_;refine AllReadyP.cons (o:=_) rfl (fun K hK=>?_) ?_;rotate_left;exact AllReadyP.nil;go_simp;refine hK.out _ _ (fun h=>by cases h) (fun _=>?_);clear hK K;try simp only [Act.put,setIfInBounds_toArray,set_cons_zero,set_cons_succ]
       refine zaB (by kernel_rfl) ?_ _;clear uu0 uu1 uu2 uu3 uu4 uu5 uu6 uu7 uu8 uu9 tf2;go_wp2;go_roundw
       case rel=>exact ⟨p+1,by omega,by go_num,HB7.out,fun _=>⟨BZ,rfl,hge,HR1.out,HR2.out⟩⟩
       case measure=>simp [intOf];omega
      ·have e1:p=v.ts.length:=by omega
       have i4':¬(((p:Nat):Int)<((v.ts.length:Nat):Int)):=by omega
       have HZ3:Hid (Zl wr w0.heap.size (2*KZ L) aw cs.length (roQ cs rs ys (i+1))):=by
        have h1:=HZ.out;rw [e1,List.take_length,HRW.out] at h1;exact h1
       clear HZ e1 HRW;go_wp2;go_roundw
       case rel=>exact ⟨i+1,by omega,by go_num,HB.out,HZ3.out⟩
       case measure=>simp [intOf];omega
    ·have e1:i=rs.length:=by omega
     have i4':¬(((i:Nat):Int)<((rs.length:Nat):Int)):=by omega
     have HF:Hid (Rqs (2*KZ L) wr aw (zaE rs ys 0 cs)):=HZ.out.rqs (zbb rs ys cs 0) (fun j q hj=>by rw [e1];exact zoH hk hj);clear HZ e1;go_wp2;go_ret;exact ⟨aw,cw,rfl,bUp HB0.out HB.out,HCW.out,HF⟩
def rsR (rs:List RV) (ys xs:List Rat):List Bool:=List.zipWith (fun v y=>rsB y v.li v.lq v.hi v.hq (zbu xs v)) rs ys
def rsC (cs:List CV) (zs xs:List Rat):List Bool:=List.zipWith (fun v (t:Rat × Rat)=>rsB t.1 v.li v.lq v.hi v.hq t.2) cs (zs.zip xs)
def arB (cs:List CV) (rs:List RV) (xs ys zs:List Rat):Bool:=(rsR rs ys xs).all id && (rsC cs zs xs).all id
theorem zmw {rs ys xs} {i:Nat} {v y} (hv:rs[i]?=some v) (hy:ys[i]?=some y):(rsR rs ys xs)[i]?=some (rsB y v.li v.lq v.hi v.hq (zbu xs v)):=by
 unfold rsR;rw [List.getElem?_zipWith,hv,hy]
theorem zmx {cs zs xs} {i:Nat} {v z x} (hv:cs[i]?=some v) (hz:zs[i]?=some z) (hx:xs[i]?=some x):(rsC cs zs xs)[i]?=some (rsB z v.li v.lq v.hi v.hq x):=by
 unfold rsC;rw [List.getElem?_zipWith,hv,(List.getElem?_zip_eq_some (z:=(z,x))).2 ⟨hz,hx⟩]
theorem znT {l:List Bool} {i} (h:l[i]?=some true) (ha:(l.take i).all id=true):(l.take (i+1)).all id=true:=by
 rw [List.take_add_one,h,List.all_append,ha];rfl
theorem znU {l:List Bool} {i:Nat} (h:l[i]?=some false):l.all id=false:=List.all_eq_false.2 ⟨false,mem_of_getElem? h,by simp⟩
theorem zjm {w L M off cs rs a0 a1 a2 k0 c0 k1 c1 k2 c2 X xs ys zs} (hW:MoW w M) (hx:Rl w a0 k0 X) (hk:k0<=1048576) (he:zcm M k0 X=0) (hv:MoV L w M off cs rs) (hm:zbo cs rs=true) (h0:Rf L w a0 xs) (l0:xs.length=k0) (e0:k0=cs.length) (h1:Rf L w a1 ys) (l1:ys.length=k1) (e1:k1=rs.length) (h2:Rf (KV L) w a2 zs) (l2:zs.length=k2) (e2:k2=cs.length) (hL:L<=30) :
  Calls prog 50 #[M.val,.agg #[.slice a0 k0 c0,.slice a1 k1 c1,.slice a2 k2 c2]] w fun e w'=>e=.returned (.bool (arB cs rs xs ys zs))/\Bl w w':=by
 have CA:Hid (∀W,Bl w W->Calls prog 85 #[M.val,.slice a0 k0 c0] W fun e w'=>zom L W w' e 0 rs xs):=fun W hW2=>zoW (hW.q_ hW2) (hx.q_ hW2) hk he (fun _=>⟨hv.q_ hW2,hm,h0.q_ hW2,l0,e0⟩) hL
 have mp:=zbA hm;have l64:=mp.cl;have r64:=mp.rl
 have HRB:=zk mp.rb;have HCB:=zk mp.cb
 obtain ⟨⟨s,x,n,c,f,y,m,d,g⟩,ca,ck,cc,C,ra,rk,rc,R⟩:=M;have HC:Hid (∀j v,cs[j]?=some v->(∃b o,ca=some ⟨b,o,none⟩/\Cs w b (o+j*12) (C j).vs)/\ColV L w (C j) v):=hv.cls;have HR:Hid (∀j v,rs[j]?=some v->(∃b o,ra=some ⟨b,o,none⟩/\Cs w b (o+j*10) (R j).vs)/\RowV L w (R j) v):=hv.rls;have hck:ck=cs.length:=hv.ck;have hrk:rk=rs.length:=hv.rk;subst hck;subst hrk
 subst e0;subst e1;subst e2
 have HX:=zk h0;have HY:=zk h1;have HZ:=zk h2;have HXL:=zk l0;have HYL:=zk l1;have HZL:=zk l2
 clear hW hx hk he hv hm h0 l0 h1 l1 h2 l2 mp;replace CA:Hid (∀W,Bl w W->Calls prog 85 #[.agg #[.bool s,.slice x n c,.slice y m d,.slice ca cs.length cc,.slice ra rs.length rc],.slice a0 cs.length c0] W fun e w'=>zom L W w' e 0 rs xs):=CA;show Calls prog 50 #[.agg #[.bool s,.slice x n c,.slice y m d,.slice ca cs.length cc,.slice ra rs.length rc],.agg #[.slice a0 cs.length c0,.slice a1 rs.length c1,.slice a2 cs.length c2]] w _;have hb:=zu (zB w (.cells #[.bool s,.slice x n c,.slice y m d,.slice ca cs.length cc,.slice ra rs.length rc] 28)) (.cells #[.slice a0 cs.length c0,.slice a1 rs.length c1,.slice a2 cs.length c2] 50);have BM:=zk ((zD w [.bool s,.slice x n c,.slice y m d,.slice ca cs.length cc,.slice ra rs.length rc] 28).q_ (zB _ (.cells #[.slice a0 cs.length c0,.slice a1 rs.length c1,.slice a2 cs.length c2] 50)));have BP:=zin w (.cells #[.bool s,.slice x n c,.slice y m d,.slice ca cs.length cc,.slice ra rs.length rc] 28) [.slice a0 cs.length c0,.slice a1 rs.length c1,.slice a2 cs.length c2] 50;have HB:=zk hb;replace BP:=zk BP
 clear hb;go_enter func50,ntmps50;go_upto_region 1 with fail
 generalize ((w.alloc (.cells #[.bool s,.slice x n c,.slice y m d,.slice ca cs.length cc,.slice ra rs.length rc] 28)).alloc (.cells #[.slice a0 cs.length c0,.slice a1 rs.length c1,.slice a2 cs.length c2] 50))=w1 at *;obtain ⟨r0,r1,r2,r3,r4⟩:=bk5 BM.out;obtain ⟨t0,t1,t2⟩:=bk3 BP.out;go_wp2_with fail
 clear r0 r1 r2 r3 r4 t0 t1 t2;refine (CA.out _ HB.out).mono ?_;rintro e w2 ⟨hb2,⟨h9,_⟩ | ⟨_,aa,ac,rfl,_,hq⟩⟩
 ·exact absurd rfl h9
 ·have HA:=zk hq;replace HB:=zL HB hb2;replace BM:=zk (BM.out.q_ hb2);replace BP:=zk (BP.out.q_ hb2)
  clear hb2 hq CA;have r4:=BM.out.cell (j:=4) rfl;go_wp2_with fail
  clear r4;go_loopw [21] (fun t wr=>∃(i:Nat),i<=rs.length/\t=.int .i64 i/\Hid (Bl w2 wr)/\Hid (((rsR rs ys xs).take i).all id=true)) (fun t _=>rs.length-(intOf t).toNat)
  case atStart=>exact ⟨0,by omega,rfl,Below.refl _ _,rfl⟩
  case round =>
   obtain ⟨i,hi,rfl,HB2,HO⟩:=hrel;by_cases hlt:i<rs.length
   ·obtain ⟨v,hv⟩:∃t,rs[i]?=some t:=⟨_,getElem?_eq_getElem (by omega)⟩;obtain ⟨yq,hyq⟩:∃t,ys[i]?=some t:=⟨_,getElem?_eq_getElem (by have:=HYL.out;omega)⟩;have hbw:=bUp HB.out HB2.out;obtain ⟨⟨b,o,hra,hc⟩,hRV⟩:=HR.out i v hv;subst hra;obtain ⟨⟨z,⟨i1,⟨s1,x1,n1,e1,f1,y1,m1,d1,g1⟩⟩,⟨i2,⟨s2,x2,n2,e2,f2,y2,m2,d2,g2⟩⟩,ta,tk,tc,tcol,tt⟩,hCi⟩:∃t,R i=t:=⟨_,rfl⟩;rw [hCi] at hc hRV;have q1e:i1=v.li:=hRV.li;have q2e:i2=v.hi:=hRV.hi
    have E1:Rn L w s1 x1 n1 e1 f1 y1 m1 d1 g1 v.lq:=hRV.lq;have E2:Rn L w s2 x2 n2 e2 f2 y2 m2 d2 g2 v.hq:=hRV.hq
    replace hc:=Cs.q_ hc hbw;obtain ⟨q0,q1,q2,q3,q4,q5,q6,q7,q8,q9⟩:=hc.lr;obtain ⟨b',o',⟨ss,sx,sn,sc,sf,sy,sm,sd,sg⟩,hax,⟨p0,p1,p2⟩,hr'⟩:=(HY.out.q_ hbw) i yq hyq;subst hax;replace p0:wr.cell? ⟨b',o'+i*3,none⟩=some (.bool ss):=p0;replace p1:wr.cell? ⟨b',o'+i*3+1,none⟩=some (.slice sx sn sc):=p1;replace p2:wr.cell? ⟨b',o'+i*3+2,none⟩=some (.slice sy sm sd):=p2;replace hr':Rn L wr ss sx sn sc sf sy sm sd sg yq:=hr';obtain ⟨b3,o3,⟨us,ux,un,uc,uf,uy,um,ud,ug⟩,hax,⟨w0,w1',w2'⟩,hr3⟩:=(HA.out.q_ HB2.out) i (zbu xs v) (by rw [List.getElem?_map,hv];rfl);subst hax;have j0:wr.cell? ⟨b3,o3+i*3,none⟩=some (.bool us):=w0;have j1:wr.cell? ⟨b3,o3+i*3+1,none⟩=some (.slice ux un uc):=w1';have j2:wr.cell? ⟨b3,o3+i*3+2,none⟩=some (.slice uy um ud):=w2';replace hr3:Rn (KA L) wr us ux un uc uf uy um ud ug (zbu xs v):=hr3;clear w0 w1' w2';have hbt:=zB wr (.cells #[.string z,.int .i64 i1,.bool s1,.slice x1 n1 e1,.slice y1 m1 d1,.int .i64 i2,.bool s2,.slice x2 n2 e2,.slice y2 m2 d2,.slice ta tk tc] 68);obtain ⟨-,ce1,ce2,ce3,ce4,ce5,ce6,ce7,ce8⟩:=bk9 (zD wr [.string z,.int .i64 i1,.bool s1,.slice x1 n1 e1,.slice y1 m1 d1,.int .i64 i2,.bool s2,.slice x2 n2 e2,.slice y2 m2 d2,.slice ta tk tc] 68);have i1':((i:Nat):Int)<((rs.length:Nat):Int):=by omega
    replace p0:=kCb hbt p0;replace j0:=kCb hbt j0
    replace p1:=kCb hbt p1;replace j1:=kCb hbt j1
    replace p2:=kCb hbt p2;replace j2:=kCb hbt j2
    have v1:=kCb hbt ((BP.out.q_ HB2.out).cell (j:=1) rfl);have RY:=zk ((hr'.q_ hbt).mono (show _<=KV L by unfold KV;omega));have RA:=zk ((hr3.q_ hbt).mono (show _<=KV L by unfold KV;(try unfold KA);omega));have RE1:=zk (((E1.q_ hbw).q_ hbt).mono (show L<=KV L by unfold KV;omega));have RE2:=zk (((E2.q_ hbw).q_ hbt).mono (show L<=KV L by unfold KV;omega))
    have HAT:=zk (zmw (xs:=xs) hv hyq);rw [<-q1e,<-q2e] at HAT;have HB3:=zL HB2 hbt;clear hr' hr3 E1 E2 hCi hc hRV q1e q2e hbw hv hyq;obtain ⟨rb,hrb⟩:∃t,rsB yq i1 v.lq i2 v.hq (zbu xs v)=t:=⟨_,rfl⟩;rw [hrb] at HAT;have HRBB:=zk hrb;clear hrb;go_upto_region 5 with fail
    clear q0 q1 q2 q3 q4 q5 q6 q7 q8 q9 hbt;generalize wr.heap.size=bx at *;generalize (wr.alloc (.cells #[.string z,.int .i64 i1,.bool s1,.slice x1 n1 e1,.slice y1 m1 d1,.int .i64 i2,.bool s2,.slice x2 n2 e2,.slice y2 m2 d2,.slice ta tk tc] 68))=w5 at *;refine zah (S:=(fun w'=>w'.cell? ⟨bx,1,none⟩=some (.int .i64 i1)/\w'.cell? ⟨bx,2,none⟩=some (.bool s1)/\w'.cell? ⟨bx,3,none⟩=some (.slice x1 n1 e1)/\w'.cell? ⟨bx,4,none⟩=some (.slice y1 m1 d1)/\w'.cell? ⟨bx,5,none⟩=some (.int .i64 i2)/\w'.cell? ⟨bx,6,none⟩=some (.bool s2)/\w'.cell? ⟨bx,7,none⟩=some (.slice x2 n2 e2)/\w'.cell? ⟨bx,8,none⟩=some (.slice y2 m2 d2)/\w'.cell? ⟨b',o'+i*3,none⟩=some (.bool ss)/\w'.cell? ⟨b',o'+i*3+1,none⟩=some (.slice sx sn sc)/\w'.cell? ⟨b',o'+i*3+2,none⟩=some (.slice sy sm sd)/\w'.cell? ⟨b3,o3+i*3,none⟩=some (.bool us)/\w'.cell? ⟨b3,o3+i*3+1,none⟩=some (.slice ux un uc)/\w'.cell? ⟨b3,o3+i*3+2,none⟩=some (.slice uy um ud)/\w'.cell? ⟨w.heap.size+1,1,none⟩=some (.slice (some ⟨b',o',none⟩) rs.length c1))) 13 (by kernel_rfl) ⟨kCd ce1,kCd ce2,kCd ce3,kCd ce4,kCd ce5,kCd ce6,kCd ce7,kCd ce8,kCd p0,kCd p1,kCd p2,kCd j0,kCd j1,kCd j2,kCd v1⟩ (fun hHeld=>?_);have hbd:=Below.drew (Below.refl w5.heap.size w5);replace HB3:=zL HB3 hbd;replace RY:=zk (RY.out.q_ hbd);replace RA:=zk (RA.out.q_ hbd);replace RE1:=zk (RE1.out.q_ hbd);replace RE2:=zk (RE2.out.q_ hbd)
    clear hbd ce1 ce2 ce3 ce4 ce5 ce6 ce7 ce8 p0 p1 p2 j0 j1 j2 v1;generalize w5.drew=wd at *;refine skP 0 ?_;simp only [zw,Act.put];refine tkP 1 ?_;simp only [zw,Act.put];refine skP 2 ?_;simp only [zw,Act.put];refine skP 3 ?_;simp only [zw,Act.put];refine tkP 4 ?_;simp only [zw,Act.put];refine skP 5 ?_;simp only [zw,Act.put];refine tkP 6 ?_;simp only [zw,Act.put];refine skP 7 ?_;simp only [zw,Act.put];refine tkP 8 ?_;simp only [zw,Act.put];refine skP 9 ?_;simp only [zw,Act.put];refine skP 10 ?_;simp only [zw,Act.put];refine skP 11 ?_;simp only [zw,Act.put];refine tkP 12 ?_;simp only [zw,Act.put];refine zI (rs:=[13]) (by kernel_rfl) (by simp) ?_;refine AllReadyP.cons (o:=_) rfl (fun K hK=>?_) ?_;rotate_left;exact AllReadyP.nil;go_simp
    go_at_call 86
    refine (zig (L:=KV L) RY.out RE1.out RE2.out RA.out (by unfold KV;omega)).mono ?_;rintro e w6 ⟨rfl,hb6⟩;rw [HRBB.out]
    (try go_wp2_with fail)
    have HB6:=zL HB3 hb6;clear hb6 RY RA RE1 RE2 HRBB hHeld HB3;refine hK.out _ _ (fun h=>by cases h) (fun _=>?_);clear hK K;try simp only [Act.put,setIfInBounds_toArray,set_cons_zero,set_cons_succ]
    refine zaJ (i:=14) (v:=?_) rfl (by kernel_rfl) (by kernel_rfl) (by kernel_rfl) (by kernel_rfl) (fun _ _ _ h=>h) (Or.inl ⟨by rfl,?_⟩) (fun h=>by cases h) ?_;rotate_left
    (focus (intro w0 hSw;go_simp <;> with_reducible rfl))
    simp only [zw,Act.put];refine zaB (by kernel_rfl) ?_ _;cases rb
    ·go_wp2;go_ret;exact ⟨by rw [show arB cs rs xs ys zs=false by unfold arB;rw [znU HAT.out];rfl];rfl,bUp HB.out HB6.out⟩
    ·have HN:=zk (znT HAT.out HO.out);go_wp2;go_roundw
     case rel=>exact ⟨i+1,by omega,by go_num,HB6.out,HN.out⟩
     case measure=>simp [intOf];omega
   ·have e1:i=rs.length:=by omega
    have i4':¬(((i:Nat):Int)<((rs.length:Nat):Int)):=by omega
    have HO1:=HO.out;rw [List.take_of_length_le (by unfold rsR;rw [List.length_zipWith];omega)] at HO1;replace HO1:=zk HO1;replace HB:=zL HB HB2.out;replace BM:=zk (BM.out.q_ HB2.out);replace BP:=zk (BP.out.q_ HB2.out);replace HA:=zk (HA.out.q_ HB2.out)
    have r3:=BM.out.cell (j:=3) rfl;clear HO HB2 e1;go_wp2_with fail
    clear r3;generalize wr=w3 at *;go_loopw [45] (fun t wz=>∃(i:Nat),i<=cs.length/\t=.int .i64 i/\Hid (Bl w3 wz)/\Hid (((rsC cs zs xs).take i).all id=true)) (fun t _=>cs.length-(intOf t).toNat)
    case atStart=>exact ⟨0,by omega,rfl,Below.refl _ _,rfl⟩
    case round =>
     obtain ⟨i,hi,rfl,HB2,HO⟩:=hrel;by_cases hlt:i<cs.length
     ·obtain ⟨v,hv⟩:∃t,cs[i]?=some t:=⟨_,getElem?_eq_getElem (by omega)⟩;obtain ⟨yq,hyq⟩:∃t,zs[i]?=some t:=⟨_,getElem?_eq_getElem (by have:=HZL.out;omega)⟩;obtain ⟨aq,haq⟩:∃t,xs[i]?=some t:=⟨_,getElem?_eq_getElem (by have:=HXL.out;omega)⟩;have hbw:=bUp HB.out HB2.out;obtain ⟨⟨b,o,hra,hc⟩,hRV⟩:=HC.out i v hv;subst hra;obtain ⟨⟨z,⟨s0,x0,n0,e0,f0,y0,m0,d0,g0⟩,⟨i1,⟨s1,x1,n1,e1,f1,y1,m1,d1,g1⟩⟩,⟨i2,⟨s2,x2,n2,e2,f2,y2,m2,d2,g2⟩⟩⟩,hCi⟩:∃t,C i=t:=⟨_,rfl⟩;rw [hCi] at hc hRV;have q1e:i1=v.li:=hRV.li;have q2e:i2=v.hi:=hRV.hi
      have E1:Rn L w s1 x1 n1 e1 f1 y1 m1 d1 g1 v.lq:=hRV.lq;have E2:Rn L w s2 x2 n2 e2 f2 y2 m2 d2 g2 v.hq:=hRV.hq
      replace hc:=Cs.q_ hc hbw;obtain ⟨q0,q1,q2,q3,q4,q5,q6,q7,q8,q9,q10,q11⟩:=hc.lc;obtain ⟨b',o',⟨ss,sx,sn,sc,sf,sy,sm,sd,sg⟩,hax,⟨p0,p1,p2⟩,hr'⟩:=(HZ.out.q_ hbw) i yq hyq;subst hax;replace p0:wr.cell? ⟨b',o'+i*3,none⟩=some (.bool ss):=p0;replace p1:wr.cell? ⟨b',o'+i*3+1,none⟩=some (.slice sx sn sc):=p1;replace p2:wr.cell? ⟨b',o'+i*3+2,none⟩=some (.slice sy sm sd):=p2;replace hr':Rn (KV L) wr ss sx sn sc sf sy sm sd sg yq:=hr';obtain ⟨b3,o3,⟨us,ux,un,uc,uf,uy,um,ud,ug⟩,hax,⟨w0,w1',w2'⟩,hr3⟩:=(HX.out.q_ hbw) i aq haq;subst hax;have j0:wr.cell? ⟨b3,o3+i*3,none⟩=some (.bool us):=w0;have j1:wr.cell? ⟨b3,o3+i*3+1,none⟩=some (.slice ux un uc):=w1';have j2:wr.cell? ⟨b3,o3+i*3+2,none⟩=some (.slice uy um ud):=w2';replace hr3:Rn L wr us ux un uc uf uy um ud ug aq:=hr3;clear w0 w1' w2';have hbt:=zB wr (.cells #[.string z,.bool s0,.slice x0 n0 e0,.slice y0 m0 d0,.int .i64 i1,.bool s1,.slice x1 n1 e1,.slice y1 m1 d1,.int .i64 i2,.bool s2,.slice x2 n2 e2,.slice y2 m2 d2] 65);obtain ⟨-,-,-,-,ce4,ce5,ce6,ce7,ce8,ce9,ce10,ce11⟩:=zio (zD wr [.string z,.bool s0,.slice x0 n0 e0,.slice y0 m0 d0,.int .i64 i1,.bool s1,.slice x1 n1 e1,.slice y1 m1 d1,.int .i64 i2,.bool s2,.slice x2 n2 e2,.slice y2 m2 d2] 65);have i1':((i:Nat):Int)<((cs.length:Nat):Int):=by omega
      replace p0:=kCb hbt p0;replace j0:=kCb hbt j0
      replace p1:=kCb hbt p1;replace j1:=kCb hbt j1
      replace p2:=kCb hbt p2;replace j2:=kCb hbt j2
      have v2:=kCb hbt ((BP.out.q_ HB2.out).cell (j:=2) rfl);have v0:=kCb hbt ((BP.out.q_ HB2.out).cell (j:=0) rfl);have RY:=zk ((hr'.q_ hbt).mono (show _<=KV L by unfold KV;omega));have RA:=zk ((hr3.q_ hbt).mono (show _<=KV L by unfold KV;(try unfold KA);omega));have RE1:=zk (((E1.q_ hbw).q_ hbt).mono (show L<=KV L by unfold KV;omega));have RE2:=zk (((E2.q_ hbw).q_ hbt).mono (show L<=KV L by unfold KV;omega))
      have HAT:=zk (zmx hv hyq haq);rw [<-q1e,<-q2e] at HAT;have HB3:=zL HB2 hbt;clear hr' hr3 E1 E2 hCi hc hRV q1e q2e hbw hv hyq haq;obtain ⟨rb,hrb⟩:∃t,rsB yq i1 v.lq i2 v.hq aq=t:=⟨_,rfl⟩;rw [hrb] at HAT;have HRBB:=zk hrb;clear hrb;go_upto_region 11 with fail
      clear q0 q1 q2 q3 q4 q5 q6 q7 q8 q9 q10 q11 hbt;generalize wr.heap.size=bx at *;generalize (wr.alloc (.cells #[.string z,.bool s0,.slice x0 n0 e0,.slice y0 m0 d0,.int .i64 i1,.bool s1,.slice x1 n1 e1,.slice y1 m1 d1,.int .i64 i2,.bool s2,.slice x2 n2 e2,.slice y2 m2 d2] 65))=w5 at *;refine zah (S:=(fun w'=>w'.cell? ⟨bx,4,none⟩=some (.int .i64 i1)/\w'.cell? ⟨bx,5,none⟩=some (.bool s1)/\w'.cell? ⟨bx,6,none⟩=some (.slice x1 n1 e1)/\w'.cell? ⟨bx,7,none⟩=some (.slice y1 m1 d1)/\w'.cell? ⟨bx,8,none⟩=some (.int .i64 i2)/\w'.cell? ⟨bx,9,none⟩=some (.bool s2)/\w'.cell? ⟨bx,10,none⟩=some (.slice x2 n2 e2)/\w'.cell? ⟨bx,11,none⟩=some (.slice y2 m2 d2)/\w'.cell? ⟨b',o'+i*3,none⟩=some (.bool ss)/\w'.cell? ⟨b',o'+i*3+1,none⟩=some (.slice sx sn sc)/\w'.cell? ⟨b',o'+i*3+2,none⟩=some (.slice sy sm sd)/\w'.cell? ⟨b3,o3+i*3,none⟩=some (.bool us)/\w'.cell? ⟨b3,o3+i*3+1,none⟩=some (.slice ux un uc)/\w'.cell? ⟨b3,o3+i*3+2,none⟩=some (.slice uy um ud)/\w'.cell? ⟨w.heap.size+1,2,none⟩=some (.slice (some ⟨b',o',none⟩) cs.length c2)/\w'.cell? ⟨w.heap.size+1,0,none⟩=some (.slice (some ⟨b3,o3,none⟩) cs.length c0))) 14 (by kernel_rfl) ⟨kCd ce4,kCd ce5,kCd ce6,kCd ce7,kCd ce8,kCd ce9,kCd ce10,kCd ce11,kCd p0,kCd p1,kCd p2,kCd j0,kCd j1,kCd j2,kCd v2,kCd v0⟩ (fun hHeld=>?_);have hbd:=Below.drew (Below.refl w5.heap.size w5);replace HB3:=zL HB3 hbd;replace RY:=zk (RY.out.q_ hbd);replace RA:=zk (RA.out.q_ hbd);replace RE1:=zk (RE1.out.q_ hbd);replace RE2:=zk (RE2.out.q_ hbd)
      clear hbd ce4 ce5 ce6 ce7 ce8 ce9 ce10 ce11 p0 p1 p2 j0 j1 j2 v2 v0;generalize w5.drew=wd at *;refine skP 0 ?_;simp only [zw,Act.put];refine tkP 1 ?_;simp only [zw,Act.put];refine skP 2 ?_;simp only [zw,Act.put];refine skP 3 ?_;simp only [zw,Act.put];refine tkP 4 ?_;simp only [zw,Act.put];refine skP 5 ?_;simp only [zw,Act.put];refine tkP 6 ?_;simp only [zw,Act.put];refine skP 7 ?_;simp only [zw,Act.put];refine tkP 8 ?_;simp only [zw,Act.put];refine skP 9 ?_;simp only [zw,Act.put];refine tkP 10 ?_;simp only [zw,Act.put];refine skP 11 ?_;simp only [zw,Act.put];refine skP 12 ?_;simp only [zw,Act.put];refine tkP 13 ?_;simp only [zw,Act.put];refine zI (rs:=[14]) (by kernel_rfl) (by simp) ?_;refine AllReadyP.cons (o:=_) rfl (fun K hK=>?_) ?_;rotate_left;exact AllReadyP.nil;go_simp
      go_at_call 86
      refine (zig (L:=KV L) RY.out RE1.out RE2.out RA.out (by unfold KV;omega)).mono ?_;rintro e w6 ⟨rfl,hb6⟩;rw [HRBB.out]
      (try go_wp2_with fail)
      have HB6:=zL HB3 hb6;clear hb6 RY RA RE1 RE2 HRBB hHeld HB3;refine hK.out _ _ (fun h=>by cases h) (fun _=>?_);clear hK K;try simp only [Act.put,setIfInBounds_toArray,set_cons_zero,set_cons_succ]
      refine zaJ (i:=15) (v:=?_) rfl (by kernel_rfl) (by kernel_rfl) (by kernel_rfl) (by kernel_rfl) (fun _ _ _ h=>h) (Or.inl ⟨by rfl,?_⟩) (fun h=>by cases h) ?_;rotate_left
      (focus (intro w0 hSw;go_simp <;> with_reducible rfl))
      simp only [zw,Act.put];refine zaB (by kernel_rfl) ?_ _;cases rb
      ·go_wp2;go_ret;exact ⟨by rw [show arB cs rs xs ys zs=false by unfold arB;rw [znU HAT.out];exact Bool.and_false _];rfl,bUp HB.out HB6.out⟩
      ·have HN:=zk (znT HAT.out HO.out);go_wp2;go_roundw
       case rel=>exact ⟨i+1,by omega,by go_num,HB6.out,HN.out⟩
       case measure=>simp [intOf];omega
     ·have e1:i=cs.length:=by omega
      have i4':¬(((i:Nat):Int)<((cs.length:Nat):Int)):=by omega
      have HO2:=HO.out;rw [List.take_of_length_le (by unfold rsC;rw [List.length_zipWith];omega)] at HO2;have HF:Hid (arB cs rs xs ys zs=true):=by show _=_;unfold arB;rw [HO1.out,HO2];rfl
      clear HO HO2 e1;go_wp2;go_ret;exact ⟨by rw [HF.out];rfl,bUp HB.out HB2.out⟩
def kcB (cs:List CV) (ds xs zs:List Rat) (j:Nat):Bool :=
 match cs[j]?,ds[j]?,xs[j]?,zs[j]? with
 | some v,some r,some x,some z=>decide (r=z) && rsB z v.li v.lq v.hi v.hq x
 | _,_,_,_=>true
def krB (rs:List RV) (xs ys:List Rat) (j:Nat):Bool :=
 match rs[j]?,ys[j]? with
 | some v,some y=>rsB y v.li v.lq v.hi v.hq (dsum xs v.ts 0)
 | _,_=>true
def zej (cs:List CV) (rs:List RV) (xs ys zs:List Rat):Bool:=zbT cs rs xs && (zci (kcB cs (zaE rs ys 0 cs) xs zs) cs.length && zci (krB rs xs ys) rs.length)
theorem zgR {cs ds xs zs j v r x z} (h1:cs[j]?=some v) (h2:ds[j]?=some r) (h3:xs[j]?=some x) (h4:zs[j]?=some z):kcB cs ds xs zs j=(decide (r=z) && rsB z v.li v.lq v.hi v.hq x):=by
 unfold kcB;rw [h1,h2,h3,h4]
theorem ziW {rs xs ys j v y} (h1:rs[j]?=some v) (h2:ys[j]?=some y):krB rs xs ys j=rsB y v.li v.lq v.hi v.hq (dsum xs v.ts 0):=by
 unfold krB;rw [h1,h2]
theorem zqR {w L M off cs rs ax ay az xc yc zc xs ys zs} (h:MqV (2*L) w M off cs rs) (hx:Rqs (2*L) w ax xs) (hy:Rqs (2*L) w ay ys) (hz:Rqs (2*L) w az zs) (lx:xs.length=cs.length) (ly:ys.length=rs.length) (lz:zs.length=cs.length) (hm:MvP cs rs) (hts:∀v ∈ rs,tsB cs.length (-1) v.ts=true) (hL:L<=60) :
  Calls prog 91 #[M.val,.slice ax cs.length xc,.slice ay rs.length yc,.slice az cs.length zc] w fun e w'=>e=.returned (.bool (zej cs rs xs ys zs))/\Bl w w':=by
 have hcl:=hm.cl;have hrl:=hm.rl;have hP:=zk hm;have CF:=zk (fun W (hW:Bl w W)=>zoR (cap:=xc) (h.q_ hW) (hx.q_ hW) lx rfl hm hL);have CR:=zk (fun W (hW:Bl w W)=>zqO (cap:=yc) (h.q_ hW) (hy.q_ hW) ly rfl hm hts hL);rw [<-zlx] at CF;obtain ⟨fe,hfe⟩:∃t,zbT cs rs xs=t:=⟨_,rfl⟩;rw [hfe] at CF;obtain ⟨pc,hpc⟩:∃t,kcB cs (zaE rs ys 0 cs) xs zs=t:=⟨_,rfl⟩;obtain ⟨pr,hpr⟩:∃t,krB rs xs ys=t:=⟨_,rfl⟩;have HKK:Hid (zej cs rs xs ys zs=(fe && (zci pc cs.length && zci pr rs.length))):=by show _=_;unfold zej;rw [hfe,hpc,hpr]
 have HPC:=zk hpc;have HPR:=zk hpr
 clear hpc hpr hfe;have lr:=zbb rs ys cs 0;obtain ⟨ds,hds⟩:∃t,zaE rs ys 0 cs=t:=⟨_,rfl⟩;rw [hds] at CR HPC lr;clear hds;obtain ⟨⟨s,x,n,c,f,y,m,d,g⟩,ca,ck,cc,C,ra,rk,rc,R⟩:=M;have hck:ck=cs.length:=h.ck;have hrk:rk=rs.length:=h.rk;subst hck;subst hrk;have HC:Hid (∀j v,cs[j]?=some v->(∃b o,ca=some ⟨b,o,none⟩/\Cs w b (o+j*12) (C j).vs)/\QcV (2*L) w (C j) v):=h.cls;have HR:Hid (∀j v,rs[j]?=some v->(∃b o,ra=some ⟨b,o,none⟩/\Cs w b (o+j*10) (R j).vs)/\QrV (2*L) w (R j) v):=h.rls;have HX:=zk hx;have HY:=zk hy;have HZ:=zk hz
 clear h hx hy hz hts hm;replace CF:Hid (∀W,Bl w W->Calls prog 126 #[.agg #[.bool s,.slice x n c,.slice y m d,.slice ca cs.length cc,.slice ra rs.length rc],.slice ax cs.length xc] W fun e w2=>e=.returned (.bool fe)/\Bl W w2):=CF;replace CR:Hid (∀W,Bl w W->Calls prog 38 #[.agg #[.bool s,.slice x n c,.slice y m d,.slice ca cs.length cc,.slice ra rs.length rc],.slice ay rs.length yc] W fun e w2=>zjs (2*KZ L) W w2 e cs.length ds):=CR;have HB0:=zk (zB w (.cells #[.bool s,.slice x n c,.slice y m d,.slice ca cs.length cc,.slice ra rs.length rc] 93));have BM:=zk (zD w [.bool s,.slice x n c,.slice y m d,.slice ca cs.length cc,.slice ra rs.length rc] 93);show Calls prog 91 #[.agg #[.bool s,.slice x n c,.slice y m d,.slice ca cs.length cc,.slice ra rs.length rc],.slice ax cs.length xc,.slice ay rs.length yc,.slice az cs.length zc] w _;obtain ⟨r0,r1,r2,r3,r4⟩:=bk5 BM.out;go_enter func91,ntmps91;go_wp2_with fail
 clear r0 r1 r2 r3 r4;generalize (w.alloc (.cells #[.bool s,.slice x n c,.slice y m d,.slice ca cs.length cc,.slice ra rs.length rc] 93))=w0 at *;refine (CF.out _ HB0.out).mono ?_;rintro e w1 ⟨rfl,hb⟩;replace HB0:=zL HB0 hb;replace BM:=zk (BM.out.q_ hb)
 clear hb CF;cases fe
 ·go_wp2;go_ret;exact ⟨by rw [HKK.out];rfl,HB0.out⟩
 obtain ⟨r0,r1,r2,r3,r4⟩:=bk5 BM.out;go_wp2_with fail
 clear r0 r1 r2 r3 r4;refine (CR.out _ HB0.out).mono ?_;rintro e w2 ⟨ar,cr,rfl,hb,hcr,hq⟩;replace HB0:=zL HB0 hb;replace BM:=zk (BM.out.q_ hb)
 have HD:=zk hq.out;clear hb hq CR;go_wp2_with fail
 go_loopw [21] (fun t wr=>∃(i:Nat),i<=cs.length/\t=.int .i64 i/\Hid (Bl w2 wr)/\Hid (∀j,j<i->pc j=true)) (fun t _=>cs.length-(intOf t).toNat)
 case atStart=>exact ⟨0,by omega,rfl,Below.refl _ _,fun j hj=>by omega⟩
 case round =>
  obtain ⟨i,hi,rfl,HB,HT⟩:=hrel;by_cases hlt:i<cs.length
  ·obtain ⟨v,hv⟩:∃v,cs[i]?=some v:=⟨_,getElem?_eq_getElem hlt⟩;obtain ⟨xq,hxq⟩:∃t,xs[i]?=some t:=⟨_,getElem?_eq_getElem (by omega)⟩;obtain ⟨zq,hzq⟩:∃t,zs[i]?=some t:=⟨_,getElem?_eq_getElem (by omega)⟩;obtain ⟨dq,hdq⟩:∃t,ds[i]?=some t:=⟨_,getElem?_eq_getElem (by omega)⟩;have hbw:=bUp HB0.out HB.out;obtain ⟨⟨b,o,hca,hc0⟩,hn⟩:=HC.out i v hv;subst hca;have hc:=hc0.q_ hbw;replace hn:=hn.q_ hbw;have hbd:=hP.out.cb v (mem_of_getElem? hv);obtain ⟨b3,o3,⟨s3,x3,n3,c3,f3,y3,m3,d3,g3⟩,hax,hx3,hqx⟩:=(HX.out.q_ hbw) i xq hxq;subst hax;obtain ⟨b4,o4,⟨s4,x4,n4,c4,f4,y4,m4,d4,g4⟩,haz,hz4,hqz⟩:=(HZ.out.q_ hbw) i zq hzq;subst haz;obtain ⟨b5,o5,⟨s5,x5,n5,c5,f5,y5,m5,d5,g5⟩,har,hd5,hqd⟩:=(HD.out.q_ HB.out) i dq hdq;subst har;have hkz:2*KZ L<=100000:=by unfold KZ;omega
   have HV:Hid (pc i=(decide (dq=zq) && rsB zq v.li v.lq v.hi v.hq xq)):=by show _=_;rw [<-HPC.out];exact zgR hv hdq hxq hzq
   obtain ⟨rb,hrb⟩:∃t,rsB zq v.li v.lq v.hi v.hq xq=t:=⟨_,rfl⟩;rw [hrb] at HV;have CA:Hid (∀W,Bl wr W->Calls prog 128 #[(C i).lo.val,(C i).hi.val,.agg #[.bool s3,.slice x3 n3 c3,.slice y3 m3 d3],.agg #[.bool s4,.slice x4 n4 c4,.slice y4 m4 d4]] W fun e w2=>e=.returned (.bool rb)/\Bl W w2):=fun W hW=>by
    have h1:=hn.lq.q_ hW;have h2:=hn.hq.q_ hW;have h3:=hqx.q_ hW;have h4:=hqz.q_ hW
    have h5:=zhu (c1:=(C i).lo.v.c) (d1:=(C i).lo.v.d) (c2:=(C i).hi.v.c) (d2:=(C i).hi.v.d) (c3:=c3) (d3:=d3) (c4:=c4) (d4:=d4) (i1:=(C i).lo.i) (i2:=(C i).hi.i) (w:=W) ⟨h1.2.2,by rw [hn.li];exact hbd.1⟩ ⟨h2.2.2,by rw [hn.hi];exact hbd.2⟩ h3.2.2 h4.2.2 ⟨le_trans h1.1 (by omega),le_trans h1.2.1 (by omega)⟩ ⟨le_trans h2.1 (by omega),le_trans h2.2.1 (by omega)⟩ ⟨le_trans h3.1 (by omega),le_trans h3.2.1 (by omega)⟩ (le_trans h4.1 (by omega));rw [show rsB zq (C i).lo.i v.lq (C i).hi.i v.hq xq=rb from by rw [hn.li,hn.hi];exact hrb] at h5;exact h5
   have CC:Hid (∀W,Bl wr W->Calls prog 127 #[.agg #[.bool s5,.slice x5 n5 c5,.slice y5 m5 d5],.agg #[.bool s4,.slice x4 n4 c4,.slice y4 m4 d4]] W fun e w2=>∃c9,e=.returned (.int .i64 c9)/\Bl W w2/\ziz c9 dq zq):=fun W hW=>ziP (ea:=d5) (eb:=d4) (ca:=c5) (cb:=c4) (hqd.q_ hW).2.2 (hqz.q_ hW).2.2 (le_trans hqd.1 (by omega)) (le_trans hqd.2.1 (by omega)) (le_trans hqz.1 (by omega)) (le_trans hqz.2.1 (by omega))
   obtain ⟨⟨z,⟨s0,x0,n0,c0,f0,y0,m0,d0,g0⟩,⟨i1,⟨s1,x1,n1,c1,f1,y1,m1,d1,g1⟩⟩,⟨i2,⟨s2,x2,n2,c2,f2,y2,m2,d2,g2⟩⟩⟩,hCi⟩:∃t,C i=t:=⟨_,rfl⟩;rw [hCi] at hc CA;replace CA:Hid (∀W,Bl wr W->Calls prog 128 #[.agg #[.int .i64 i1,.bool s1,.slice x1 n1 c1,.slice y1 m1 d1],.agg #[.int .i64 i2,.bool s2,.slice x2 n2 c2,.slice y2 m2 d2],.agg #[.bool s3,.slice x3 n3 c3,.slice y3 m3 d3],.agg #[.bool s4,.slice x4 n4 c4,.slice y4 m4 d4]] W fun e w2=>e=.returned (.bool rb)/\Bl W w2):=CA;obtain ⟨-,-,-,-,q4,q5,q6,q7,q8,q9,q10,q11⟩:=hc.lc;obtain ⟨u30,u31,u32⟩:=hx3;replace u30:wr.cell? ⟨b3,o3+i*3,none⟩=some (.bool s3):=u30;replace u31:wr.cell? ⟨b3,o3+i*3+1,none⟩=some (.slice x3 n3 c3):=u31;replace u32:wr.cell? ⟨b3,o3+i*3+2,none⟩=some (.slice y3 m3 d3):=u32;obtain ⟨u40,u41,u42⟩:=hz4;replace u40:wr.cell? ⟨b4,o4+i*3,none⟩=some (.bool s4):=u40;replace u41:wr.cell? ⟨b4,o4+i*3+1,none⟩=some (.slice x4 n4 c4):=u41;replace u42:wr.cell? ⟨b4,o4+i*3+2,none⟩=some (.slice y4 m4 d4):=u42;obtain ⟨u50,u51,u52⟩:=hd5;replace u50:wr.cell? ⟨b5,o5+i*3,none⟩=some (.bool s5):=u50;replace u51:wr.cell? ⟨b5,o5+i*3+1,none⟩=some (.slice x5 n5 c5):=u51;replace u52:wr.cell? ⟨b5,o5+i*3+2,none⟩=some (.slice y5 m5 d5):=u52;have r3:=(BM.out.q_ HB.out).cell (j:=3) rfl;have hbt:=zB wr (.cells #[.bool s5,.slice x5 n5 c5,.slice y5 m5 d5] 89);have BC:=zD wr [.bool s5,.slice x5 n5 c5,.slice y5 m5 d5] 89;have i1':((i:Nat):Int)<((cs.length:Nat):Int):=by omega
   clear hCi hc hc0 hn hv hxq hzq hdq hqx hqz hqd hbd hbw hrb hkz;go_upto_region 6 with fail
   clear u50 u51 u52;replace q4:=kCb hbt q4;replace q5:=kCb hbt q5;replace q6:=kCb hbt q6;replace q7:=kCb hbt q7;replace q8:=kCb hbt q8;replace q9:=kCb hbt q9;replace q10:=kCb hbt q10;replace q11:=kCb hbt q11;replace u30:=kCb hbt u30;replace u31:=kCb hbt u31;replace u32:=kCb hbt u32;replace u40:=kCb hbt u40;replace u41:=kCb hbt u41;replace u42:=kCb hbt u42;replace r3:=kCb hbt r3;obtain ⟨a0,a1,a2⟩:=bk3 BC;replace CA:=zk (fun W (hW:Below (wr.alloc (.cells #[.bool s5,.slice x5 n5 c5,.slice y5 m5 d5] 89)).heap.size (wr.alloc (.cells #[.bool s5,.slice x5 n5 c5,.slice y5 m5 d5] 89)) W)=>CA.out W (bUp hbt hW));replace CC:=zk (fun W (hW:Below (wr.alloc (.cells #[.bool s5,.slice x5 n5 c5,.slice y5 m5 d5] 89)).heap.size (wr.alloc (.cells #[.bool s5,.slice x5 n5 c5,.slice y5 m5 d5] 89)) W)=>CC.out W (bUp hbt hW));replace HB:=zL HB hbt;clear hbt BC;generalize hbx:wr.heap.size=bx at *;generalize wr.alloc (.cells #[.bool s5,.slice x5 n5 c5,.slice y5 m5 d5] 89)=w5 at *;clear hbx;refine wp_region_held_drew (S:=(fun w'=>w'.cell? ⟨bx,0,none⟩=some (.bool s5)/\w'.cell? ⟨bx,1,none⟩=some (.slice x5 n5 c5)/\w'.cell? ⟨bx,2,none⟩=some (.slice y5 m5 d5)/\w'.cell? ⟨w.heap.size,3,none⟩=some (.slice (some ⟨b,o,none⟩) cs.length cc)/\w'.cell? ⟨b,o+i*12+4,none⟩=some (.int .i64 i1)/\w'.cell? ⟨b,o+i*12+5,none⟩=some (.bool s1)/\w'.cell? ⟨b,o+i*12+6,none⟩=some (.slice x1 n1 c1)/\w'.cell? ⟨b,o+i*12+7,none⟩=some (.slice y1 m1 d1)/\w'.cell? ⟨b,o+i*12+8,none⟩=some (.int .i64 i2)/\w'.cell? ⟨b,o+i*12+9,none⟩=some (.bool s2)/\w'.cell? ⟨b,o+i*12+10,none⟩=some (.slice x2 n2 c2)/\w'.cell? ⟨b,o+i*12+11,none⟩=some (.slice y2 m2 d2)/\w'.cell? ⟨b3,o3+i*3,none⟩=some (.bool s3)/\w'.cell? ⟨b3,o3+i*3+1,none⟩=some (.slice x3 n3 c3)/\w'.cell? ⟨b3,o3+i*3+2,none⟩=some (.slice y3 m3 d3)/\w'.cell? ⟨b4,o4+i*3,none⟩=some (.bool s4)/\w'.cell? ⟨b4,o4+i*3+1,none⟩=some (.slice x4 n4 c4)/\w'.cell? ⟨b4,o4+i*3+2,none⟩=some (.slice y4 m4 d4))) (by kernel_rfl) ?_ (fun hHeld=>?_)
   ·(refine ⟨?_,?_,?_,?_,?_,?_,?_,?_,?_,?_,?_,?_,?_,?_,?_,?_,?_,?_⟩ <;> repeat (with_reducible first | assumption | refine kCd ?_))
   refine zH 0 ?_;simp only [zw,Act.put];refine zH 1 ?_;simp only [zw,Act.put];refine zH 2 ?_;simp only [zw,Act.put];refine zH 3 ?_;simp only [zw,Act.put];refine zH 4 ?_;simp only [zw,Act.put];refine wpAnyH_ready (rs:=[5]) (by kernel_rfl) (by simp) ?_;refine AllReadyH.cons (o:=_) rfl (fun K hK=>?_) ?_;rotate_left;exact AllReadyH.nil;go_simp
   go_at_call 127
   refine (CC.out _ (Below.drew (Below.refl _ _))).mono ?_;rintro e w6 ⟨c9,rfl,hb6,ho⟩
   (try go_wp2_with fail)
   refine hK.out _ _ ?_ (fun hH6=>?_)
   ·((try dsimp only);(refine ⟨?_,?_,?_,?_,?_,?_,?_,?_,?_,?_,?_,?_,?_,?_,?_,?_,?_,?_⟩ <;> repeat (with_reducible first | assumption | refine kCb (by assumption) ?_ | refine kCd ?_)))
   clear hK K;try simp only [zw,Act.put]
   rcases ho with ⟨rfl,ho⟩ | ⟨rfl,ho⟩ | ⟨rfl,ho⟩
   ·refine zH 6 ?_;simp only [zw,Act.put];refine zH 7 ?_;simp only [zw,Act.put];refine skO 8 ?_;simp only [zw,Act.put];refine skO 9 ?_;simp only [zw,Act.put];refine skO 10 ?_;simp only [zw,Act.put];refine skO 11 ?_;simp only [zw,Act.put];refine skO 12 ?_;simp only [zw,Act.put];refine skO 13 ?_;simp only [zw,Act.put];refine skO 14 ?_;simp only [zw,Act.put];refine skO 15 ?_;simp only [zw,Act.put];refine skO 16 ?_;simp only [zw,Act.put];refine skO 17 ?_;simp only [zw,Act.put];refine skO 18 ?_;simp only [zw,Act.put];refine skO 19 ?_;simp only [zw,Act.put];refine skO 20 ?_;simp only [zw,Act.put];refine skO 21 ?_;simp only [zw,Act.put];refine skO 22 ?_;simp only [zw,Act.put];refine skO 23 ?_;simp only [zw,Act.put];refine skO 24 ?_;simp only [zw,Act.put];refine skO 25 ?_;simp only [zw,Act.put];refine skO 26 ?_;simp only [zw,Act.put];refine skO 27 ?_;simp only [zw,Act.put];refine skO 28 ?_;simp only [zw,Act.put];refine skO 29 ?_;simp only [zw,Act.put];refine zH 30 ?_;simp only [zw,Act.put];refine wpAnyH_done (by kernel_rfl) ?_ _;replace HB:=zk (HB.out.drew.trans (hb6.mono HB.out.drew.size));have HF:Hid (zej cs rs xs ys zs=false):=by show _=_;rw [HKK.out,zcN hlt (by rw [HV.out,decide_eq_false (by intro e;subst e;exact Rat.lt_irrefl ho)];rfl)];rfl
    clear hHeld hH6 r3 a0 a1 a2 q4 q5 q6 q7 q8 q9 q10 q11 u30 u31 u32 u40 u41 u42 HV hb6 ho CA CC;go_wp2;go_ret;exact ⟨by rw [HF.out];rfl,bUp HB0.out HB.out⟩
   ·refine zH 6 ?_;simp only [zw,Act.put];refine zH 7 ?_;simp only [zw,Act.put];refine zH 8 ?_;simp only [zw,Act.put];refine zH 9 ?_;simp only [zw,Act.put];refine zH 10 ?_;simp only [zw,Act.put];refine zH 11 ?_;simp only [zw,Act.put];refine zH 12 ?_;simp only [zw,Act.put];refine zH 13 ?_;simp only [zw,Act.put];refine zH 14 ?_;simp only [zw,Act.put];refine zH 15 ?_;simp only [zw,Act.put];refine zH 16 ?_;simp only [zw,Act.put];refine zH 17 ?_;simp only [zw,Act.put];refine zH 18 ?_;simp only [zw,Act.put];refine zH 19 ?_;simp only [zw,Act.put];refine zH 20 ?_;simp only [zw,Act.put];refine zH 21 ?_;simp only [zw,Act.put];refine zH 22 ?_;simp only [zw,Act.put];refine zH 23 ?_;simp only [zw,Act.put];refine zH 24 ?_;simp only [zw,Act.put];refine zH 25 ?_;simp only [zw,Act.put];refine zH 26 ?_;simp only [zw,Act.put];refine zH 27 ?_;simp only [zw,Act.put];refine wpAnyH_ready (rs:=[28]) (by kernel_rfl) (by simp) ?_;refine AllReadyH.cons (o:=_) rfl (fun K hK=>?_) ?_;rotate_left;exact AllReadyH.nil;go_simp
    go_at_call 128
    refine (CA.out _ ((Below.drew (Below.refl _ _)).trans (hb6.mono (le_refl _)))).mono ?_;rintro e w7 ⟨rfl,hb7⟩
    (try go_wp2_with fail)
    refine hK.out _ _ ?_ (fun hH7=>?_)
    ·((try dsimp only);(refine ⟨?_,?_,?_,?_,?_,?_,?_,?_,?_,?_,?_,?_,?_,?_,?_,?_,?_,?_⟩ <;> repeat (with_reducible first | assumption | refine kCb (by assumption) ?_ | refine kCd ?_)))
    clear hK K;try simp only [zw,Act.put]
    refine zH 29 ?_;simp only [zw,Act.put];refine zH 30 ?_;simp only [zw,Act.put];refine wpAnyH_done (by kernel_rfl) ?_ _;replace HB:=zk (HB.out.drew.trans (hb6.mono HB.out.drew.size));replace HB:=zL HB hb7;rw [decide_eq_true ho,Bool.true_and] at HV;clear hHeld hH6 hH7 r3 a0 a1 a2 q4 q5 q6 q7 q8 q9 q10 q11 u30 u31 u32 u40 u41 u42 hb6 hb7 ho CA CC;cases rb
    ·have HF:Hid (zej cs rs xs ys zs=false):=by show _=_;rw [HKK.out,zcN hlt HV.out];rfl
     clear HV HT;go_wp2;go_ret;exact ⟨by rw [HF.out];rfl,bUp HB0.out HB.out⟩
    ·have HT2:Hid (∀j,j<i+1->pc j=true):=fun j hj=>by
      by_cases e:j=i
      ·rw [e];exact HV.out
      ·exact HT.out j (by omega)
     clear HV HT;go_wp2;go_roundw
     case rel=>exact ⟨i+1,by omega,by go_num,HB.out,HT2.out⟩
     case measure=>simp [intOf];omega
   ·refine zH 6 ?_;simp only [zw,Act.put];refine zH 7 ?_;simp only [zw,Act.put];refine skO 8 ?_;simp only [zw,Act.put];refine skO 9 ?_;simp only [zw,Act.put];refine skO 10 ?_;simp only [zw,Act.put];refine skO 11 ?_;simp only [zw,Act.put];refine skO 12 ?_;simp only [zw,Act.put];refine skO 13 ?_;simp only [zw,Act.put];refine skO 14 ?_;simp only [zw,Act.put];refine skO 15 ?_;simp only [zw,Act.put];refine skO 16 ?_;simp only [zw,Act.put];refine skO 17 ?_;simp only [zw,Act.put];refine skO 18 ?_;simp only [zw,Act.put];refine skO 19 ?_;simp only [zw,Act.put];refine skO 20 ?_;simp only [zw,Act.put];refine skO 21 ?_;simp only [zw,Act.put];refine skO 22 ?_;simp only [zw,Act.put];refine skO 23 ?_;simp only [zw,Act.put];refine skO 24 ?_;simp only [zw,Act.put];refine skO 25 ?_;simp only [zw,Act.put];refine skO 26 ?_;simp only [zw,Act.put];refine skO 27 ?_;simp only [zw,Act.put];refine skO 28 ?_;simp only [zw,Act.put];refine skO 29 ?_;simp only [zw,Act.put];refine zH 30 ?_;simp only [zw,Act.put];refine wpAnyH_done (by kernel_rfl) ?_ _;replace HB:=zk (HB.out.drew.trans (hb6.mono HB.out.drew.size));have HF:Hid (zej cs rs xs ys zs=false):=by show _=_;rw [HKK.out,zcN hlt (by rw [HV.out,decide_eq_false (by intro e;subst e;exact Rat.lt_irrefl ho)];rfl)];rfl
    clear hHeld hH6 r3 a0 a1 a2 q4 q5 q6 q7 q8 q9 q10 q11 u30 u31 u32 u40 u41 u42 HV hb6 ho CA CC;go_wp2;go_ret;exact ⟨by rw [HF.out];rfl,bUp HB0.out HB.out⟩
  ·have e1:i=cs.length:=by omega
   have i4':¬(((i:Nat):Int)<((cs.length:Nat):Int)):=by omega
   rw [e1] at HT;have HAC:Hid (zci pc cs.length=true):=allB_iff.2 HT.out;have r4:=(BM.out.q_ HB.out).cell (j:=4) rfl;have HW:=zL HB0 HB.out;clear e1 HT HB HC HD HZ;go_wp2_with fail
   clear r4 i4' hi hlt BM;generalize wr=w3 at *;go_loopw [61] (fun t wr=>∃(i:Nat),i<=rs.length/\t=.int .i64 i/\Hid (Bl w wr)/\Hid (∀j,j<i->pr j=true)) (fun t _=>rs.length-(intOf t).toNat)
   case atStart=>exact ⟨0,by omega,rfl,HW.out,fun j hj=>by omega⟩
   case round =>
    clear HW;obtain ⟨i,hi,rfl,HB,HT⟩:=hrel;by_cases hlt:i<rs.length
    ·obtain ⟨v,hv⟩:∃v,rs[i]?=some v:=⟨_,getElem?_eq_getElem hlt⟩;obtain ⟨yq,hyq⟩:∃t,ys[i]?=some t:=⟨_,getElem?_eq_getElem (by omega)⟩;obtain ⟨⟨b,o,hra,hc0⟩,hn⟩:=HR.out i v hv;subst hra;have hc:=hc0.q_ HB.out;replace hn:=hn.q_ HB.out;have hvm:=mem_of_getElem? hv;have hbd:=hP.out.rb v hvm;obtain ⟨b4,o4,⟨s4,x4,n4,c4,f4,y4,m4,d4,g4⟩,hay,hz4,hqz⟩:=(HY.out.q_ HB.out) i yq hyq;subst hay;have htk:(R i).tk=v.ts.length:=hn.tk;obtain ⟨t1,ht1⟩:∃t,pr i=t:=⟨_,rfl⟩;have hrb:rsB yq v.li v.lq v.hi v.hq (dsum xs v.ts 0)=t1:=by rw [<-ht1,<-HPR.out];exact (ziW hv hyq).symm
     have hke:KE L<=100000:=by unfold KE;omega
     have CA:Hid (∀(t:Nm) W,Bl wr W->QnT (KE L) W t (dsum xs v.ts 0)->Calls prog 128 #[(R i).lo.val,(R i).hi.val,t.val,.agg #[.bool s4,.slice x4 n4 c4,.slice y4 m4 d4]] W fun e w2=>e=.returned (.bool t1)/\Bl W w2):=fun t W hW h3=>by
      have h1:=hn.lq.q_ hW;have h2:=hn.hq.q_ hW;have h4:=hqz.q_ hW
      have h5:=zhu (c1:=(R i).lo.v.c) (d1:=(R i).lo.v.d) (c2:=(R i).hi.v.c) (d2:=(R i).hi.v.d) (c3:=t.c) (d3:=t.d) (c4:=c4) (d4:=d4) (i1:=(R i).lo.i) (i2:=(R i).hi.i) (w:=W) ⟨h1.2.2,by rw [hn.li];exact hbd.1⟩ ⟨h2.2.2,by rw [hn.hi];exact hbd.2⟩ h3.2.2 h4.2.2 ⟨le_trans h1.1 (by omega),le_trans h1.2.1 (by omega)⟩ ⟨le_trans h2.1 (by omega),le_trans h2.2.1 (by omega)⟩ ⟨le_trans h3.1 (by omega),le_trans h3.2.1 (by omega)⟩ (le_trans h4.1 (by omega));rw [show rsB yq (R i).lo.i v.lq (R i).hi.i v.hq (dsum xs v.ts 0)=t1 from by rw [hn.li,hn.hi];exact hrb] at h5;exact h5
     have CD:Hid (∀W,Bl wr W->Calls prog 129 #[.slice (R i).ta (R i).tk (R i).tc,.slice ax cs.length xc] W fun e w2=>zdE (KE L) W w2 e (dsum xs v.ts 0)):=fun W hW=>znx (L:=L) (hn.tl.q_ hW) ((HX.out.q_ HB.out).q_ hW) hn.tk.symm lx (by rw [hn.tk];exact hP.out.tl v hvm) (by omega) (fun j a q e=>hP.out.tc v hvm (a,q) (mem_of_getElem? e))
     rw [htk] at CD;obtain ⟨⟨z,⟨i1,⟨s1,x1,n1,c1,f1,y1,m1,d1,g1⟩⟩,⟨i2,⟨s2,x2,n2,c2,f2,y2,m2,d2,g2⟩⟩,ta,tk,tc,tcol,tt⟩,hCi⟩:∃t,R i=t:=⟨_,rfl⟩;rw [hCi] at hc CA CD htk;replace htk:tk=v.ts.length:=htk;subst htk;replace CA:Hid (∀(t:Nm) W,Bl wr W->QnT (KE L) W t (dsum xs v.ts 0)->Calls prog 128 #[.agg #[.int .i64 i1,.bool s1,.slice x1 n1 c1,.slice y1 m1 d1],.agg #[.int .i64 i2,.bool s2,.slice x2 n2 c2,.slice y2 m2 d2],t.val,.agg #[.bool s4,.slice x4 n4 c4,.slice y4 m4 d4]] W fun e w2=>e=.returned (.bool t1)/\Bl W w2):=CA;replace CD:Hid (∀W,Bl wr W->Calls prog 129 #[.slice ta v.ts.length tc,.slice ax cs.length xc] W fun e w2=>zdE (KE L) W w2 e (dsum xs v.ts 0)):=CD;obtain ⟨q0,q1,q2,q3,q4,q5,q6,q7,q8,q9⟩:=hc.lr;obtain ⟨u40,u41,u42⟩:=hz4;replace u40:wr.cell? ⟨b4,o4+i*3,none⟩=some (.bool s4):=u40;replace u41:wr.cell? ⟨b4,o4+i*3+1,none⟩=some (.slice x4 n4 c4):=u41;replace u42:wr.cell? ⟨b4,o4+i*3+2,none⟩=some (.slice y4 m4 d4):=u42;have hbt:=zB wr (.cells #[.string z,.int .i64 i1,.bool s1,.slice x1 n1 c1,.slice y1 m1 d1,.int .i64 i2,.bool s2,.slice x2 n2 c2,.slice y2 m2 d2,.slice ta v.ts.length tc] 131);have BC:=zD wr [.string z,.int .i64 i1,.bool s1,.slice x1 n1 c1,.slice y1 m1 d1,.int .i64 i2,.bool s2,.slice x2 n2 c2,.slice y2 m2 d2,.slice ta v.ts.length tc] 131;have HT1:=zk ht1;have i1':((i:Nat):Int)<((rs.length:Nat):Int):=by omega
     clear hCi hc hc0 hn ht1 hv hvm hbd hyq hqz hrb hke;go_upto_region 12 with fail
     clear q0 q1 q2 q3 q4 q5 q6 q7 q8 q9;replace u40:=kCb hbt u40;replace u41:=kCb hbt u41;replace u42:=kCb hbt u42;obtain ⟨-,a1,a2,a3,a4,a5,a6,a7,a8,a9⟩:=ziq BC;replace CA:=zk (fun (t:Nm) W (hW:Below (wr.alloc (.cells #[.string z,.int .i64 i1,.bool s1,.slice x1 n1 c1,.slice y1 m1 d1,.int .i64 i2,.bool s2,.slice x2 n2 c2,.slice y2 m2 d2,.slice ta v.ts.length tc] 131)).heap.size (wr.alloc (.cells #[.string z,.int .i64 i1,.bool s1,.slice x1 n1 c1,.slice y1 m1 d1,.int .i64 i2,.bool s2,.slice x2 n2 c2,.slice y2 m2 d2,.slice ta v.ts.length tc] 131)) W)=>CA.out t W (bUp hbt hW));replace CD:=zk (fun W (hW:Below (wr.alloc (.cells #[.string z,.int .i64 i1,.bool s1,.slice x1 n1 c1,.slice y1 m1 d1,.int .i64 i2,.bool s2,.slice x2 n2 c2,.slice y2 m2 d2,.slice ta v.ts.length tc] 131)).heap.size (wr.alloc (.cells #[.string z,.int .i64 i1,.bool s1,.slice x1 n1 c1,.slice y1 m1 d1,.int .i64 i2,.bool s2,.slice x2 n2 c2,.slice y2 m2 d2,.slice ta v.ts.length tc] 131)) W)=>CD.out W (bUp hbt hW));replace HB:=zL HB hbt;clear hbt BC;generalize hbx:wr.heap.size=bx at *;generalize wr.alloc (.cells #[.string z,.int .i64 i1,.bool s1,.slice x1 n1 c1,.slice y1 m1 d1,.int .i64 i2,.bool s2,.slice x2 n2 c2,.slice y2 m2 d2,.slice ta v.ts.length tc] 131)=w5 at *;clear hbx;refine wp_region_held_drew (S:=(fun w'=>w'.cell? ⟨bx,1,none⟩=some (.int .i64 i1)/\w'.cell? ⟨bx,2,none⟩=some (.bool s1)/\w'.cell? ⟨bx,3,none⟩=some (.slice x1 n1 c1)/\w'.cell? ⟨bx,4,none⟩=some (.slice y1 m1 d1)/\w'.cell? ⟨bx,5,none⟩=some (.int .i64 i2)/\w'.cell? ⟨bx,6,none⟩=some (.bool s2)/\w'.cell? ⟨bx,7,none⟩=some (.slice x2 n2 c2)/\w'.cell? ⟨bx,8,none⟩=some (.slice y2 m2 d2)/\w'.cell? ⟨bx,9,none⟩=some (.slice ta v.ts.length tc)/\w'.cell? ⟨b4,o4+i*3,none⟩=some (.bool s4)/\w'.cell? ⟨b4,o4+i*3+1,none⟩=some (.slice x4 n4 c4)/\w'.cell? ⟨b4,o4+i*3+2,none⟩=some (.slice y4 m4 d4))) (by kernel_rfl) ?_ (fun hHeld=>?_)
     ·(refine ⟨?_,?_,?_,?_,?_,?_,?_,?_,?_,?_,?_,?_⟩ <;> repeat (with_reducible first | assumption | refine kCd ?_))
     refine zH 0 ?_;simp only [zw,Act.put];refine zH 1 ?_;simp only [zw,Act.put];refine zH 2 ?_;simp only [zw,Act.put];refine zH 3 ?_;simp only [zw,Act.put];refine zH 4 ?_;simp only [zw,Act.put];refine zH 5 ?_;simp only [zw,Act.put];refine zH 6 ?_;simp only [zw,Act.put];refine zH 8 ?_;simp only [zw,Act.put];refine zH 9 ?_;simp only [zw,Act.put];refine zH 10 ?_;simp only [zw,Act.put];refine zH 11 ?_;simp only [zw,Act.put];refine wpAnyH_ready (rs:=[7]) (by kernel_rfl) (by simp) ?_;refine AllReadyH.cons (o:=_) rfl (fun K hK=>?_) ?_;rotate_left;exact AllReadyH.nil;go_simp
     go_at_call 129
     refine (CD.out _ (Below.drew (Below.refl _ _))).mono ?_;rintro e w6 ⟨s7,x7,n7,c7,f7,y7,m7,d7,g7,rfl,hb6,hq1,hq2,hq⟩
     (try go_wp2_with fail)
     refine hK.out _ _ ?_ (fun hH6=>?_)
     ·((try dsimp only);(refine ⟨?_,?_,?_,?_,?_,?_,?_,?_,?_,?_,?_,?_⟩ <;> repeat (with_reducible first | assumption | refine kCb (by assumption) ?_ | refine kCd ?_)))
     clear hK K;try simp only [zw,Act.put]
     refine wpAnyH_ready (rs:=[12]) (by kernel_rfl) (by simp) ?_;refine AllReadyH.cons (o:=_) rfl (fun K hK=>?_) ?_;rotate_left;exact AllReadyH.nil;go_simp
     go_at_call 128
     refine (CA.out ⟨s7,x7,n7,c7,f7,y7,m7,d7,g7⟩ w6 ((Below.drew (Below.refl _ _)).trans (hb6.mono (le_refl _))) ⟨hq1,hq2,hq⟩).mono ?_;rintro e w7 ⟨rfl,hb7⟩
     (try go_wp2_with fail)
     refine hK.out _ _ ?_ (fun hH7=>?_)
     ·((try dsimp only);(refine ⟨?_,?_,?_,?_,?_,?_,?_,?_,?_,?_,?_,?_⟩ <;> repeat (with_reducible first | assumption | refine kCb (by assumption) ?_ | refine kCd ?_)))
     clear hK K;try simp only [zw,Act.put]
     refine zH 13 ?_;simp only [zw,Act.put];refine wpAnyH_done (by kernel_rfl) ?_ _;replace HB:=zk (HB.out.drew.trans (hb6.mono HB.out.drew.size));replace HB:=zL HB hb7;clear hHeld hH6 hH7 hb6 hb7 hq1 hq2 hq CA CD u40 u41 u42 a1 a2 a3 a4 a5 a6 a7 a8 a9;cases t1
     ·have HF:Hid (zej cs rs xs ys zs=false):=by show _=_;rw [HKK.out,zcN hlt HT1.out,Bool.and_false];rfl
      clear HT1 HT;go_wp2;go_ret;exact ⟨by rw [HF.out];rfl,HB.out⟩
     ·have HT2:Hid (∀j,j<i+1->pr j=true):=fun j hj=>by
       by_cases e:j=i
       ·rw [e];exact HT1.out
       ·exact HT.out j (by omega)
      clear HT1 HT;go_wp2;go_roundw
      case rel=>exact ⟨i+1,by omega,by go_num,HB.out,HT2.out⟩
      case measure=>simp [intOf];omega
    ·have e1:i=rs.length:=by omega
     have i4':¬(((i:Nat):Int)<((rs.length:Nat):Int)):=by omega
     rw [e1] at HT;have HF:Hid (zej cs rs xs ys zs=true):=by show _=_;rw [HKK.out,HAC.out,allB_iff.2 HT.out];rfl
     clear e1 HT;go_wp2;go_ret;exact ⟨by rw [HF.out];rfl,HB.out⟩
def ShK (K k:Nat) (X:Nat->Nm):Prop:=k<=300/\∀j,j<k->(X j).n<=K/\(X j).m<=K
theorem zgQ {K k X} (h:lgL K k X=true):ShK K k X:=by
 simp only [lgL,Bool.and_eq_true,decide_eq_true_eq] at h;exact ⟨h.1,fun j hj=>zgL h.2 j (by omega) (by omega)⟩
def TmK (K:Nat) (w:World) (M M':Mo):Prop:=Sm M M'/\MoW w M'/\MoX w M'/\(M'.ck<=64->M'.rk<=64->MoK K M')
theorem TmK.q_ {K w w' M M'} (h:TmK K w M M') (hb:Bl w w'):TmK K w' M M':=⟨h.1,h.2.1.q_ hb,h.2.2.1.q_ hb,h.2.2.2⟩
theorem TmK.valL {K w M M'} (L:Nat) (hL:K<=L) (hK:K<=100) (h:TmK K w M M') (hN:MoN M) (he:zar M=0):MoV L w M' (nq M.off) (csOf M) (rsOf M)/\zbo (csOf M) (rsOf M)=true:=by
 obtain ⟨s,hw,hx,hk⟩:=h;have he':zar M'=0:=s.chk.trans he;obtain ⟨l1,l2,_⟩:=zhg he';have k6:=hk l1 l2;have:=(hx.mor (s.mon hN) k6 (by omega) l1 l2).movC (k6.up hL) he';rw [s.csOf,s.rsOf,s.off.nq] at this;exact this
theorem Tx.valK {K w ao k X X'} (h:Tx w ao k X X') (hs:ShK K k X) (ha:afB k X=true):Rf K w ao (zaw k X):=by
 rw [<-zgH h.2];refine h.1.rfC ?_ (fun j hj=>by rw [(h.2 j hj).2.1,(h.2 j hj).2.2.2.1];exact hs.2 j hj);exact (zfy (fun j _ b=>h.2 j (by omega))).trans ha
theorem zmS {K w ao k X X' M M'} (h:TmK K w M M') (hx:Tx w ao k X X'):zcm M' k X'=zcm M k X:=by
 unfold zcm;rw [h.1.chk,h.1.ck];unfold pnE;rw [show afB k X'=afB k X from zfy (fun j _ b=>hx.2 j (by omega))]
theorem zqA {K w ao k X X' M M'} (L:Nat) (hL:K<=L) (hK:K<=100) (h:TmK K w M M') (hN:MoN M) (hx:Tx w ao k X X') (hs:ShK K k X) (he:zcm M k X=0):MoV L w M' (nq M.off) (csOf M) (rsOf M)/\zbo (csOf M) (rsOf M)=true/\Rf L w ao (zaw k X)/\(zaw k X).length=k/\k=(csOf M).length:=by
 obtain ⟨h1,h2,h3⟩:=zhE he;obtain ⟨a,b⟩:=h.valL L hL hK hN h1;exact ⟨a,b,(hx.valK hs h2).mono hL,zau _ _,by rw [zbj];exact h3⟩
theorem zkV {K w M} (hX:MoX w M) (hN:MoN M) (hk:M.ck<=64->M.rk<=64->MoK K M) (hK:K<=100):Calls prog 9 #[M.val] w fun e w'=>∃(vm:Value) (M':Mo),e=.returned vm/\Bl w w'/\Hid (vm=M'.val/\TmK K w' M M') :=
 (zqy (K:=K) hX hN hk (by omega)).mono fun e w' ⟨M',h1,h2,h3,h4,h5,h6⟩=>⟨M'.val,M',h1,h2,zk ⟨rfl,h3,h4,h5,h6⟩⟩
theorem zdx {t t'} (h:Sn t t'):nq t'=nq t:=by
 obtain ⟨h1,h2,h3,h4,h5⟩:=h;unfold nq;rw [h1,h2,h3,h4,h5]
theorem Sm.crl {M M':Mo} (h:Sm M M'):crl (ccB M'.C) M'.ck=crl (ccB M.C) M.ck/\crl (rcB M'.R) M'.rk=crl (rcB M.R) M.rk:=by
 refine ⟨?_,?_⟩
 ·rw [zbU (B':=ccB M.C) (fun j hj=>?_),h.ck];rw [h.ck] at hj;have p:=h.C j hj;unfold ccB zlI;rw [p.li,p.hi,zdx p.lo,zdx p.hv]
 ·rw [zbU (B':=rcB M.R) (fun j hj=>?_),h.rk];rw [h.rk] at hj;have p:=h.R j hj;unfold rcB zlI;rw [p.li,p.hi,zdx p.lo,zdx p.hv]
structure In8 (w:World) (M:Mo):Prop where
 x:MoX w M
 n:MoN M
 c:MoC M
 k:M.ck<=64->M.rk<=64->MoK 8 M
theorem In8.q_ {w w' M} (h:In8 w M) (hb:Bl w w'):In8 w' M:=⟨h.x.q_ hb,h.n,h.c,h.k⟩
theorem In8.val {w M} (h:In8 w M) (he:zar M=0):MoV 8 w M (nq M.off) (csOf M) (rsOf M)/\zbo (csOf M) (rsOf M)=true:=by
 obtain ⟨l1,l2,_⟩:=zhg he;exact (h.x.mor h.n (h.k l1 l2) (by decide) l1 l2).movC (h.k l1 l2) he
theorem zfq {w ao k cap X} (hx:Rl w ao k X) (hs:ShK 8 k X) (ha:afB k X=true):Calls prog 40 #[.slice ao k cap] w fun e w'=>∃aw cw,e=.returned (.slice aw k cw)/\Bl w w'/\Hid (Rqs (2*8) w' aw (zaw k X)) :=
 (zpx (L:=8) (p:=zaw k X) hx (by have:=hs.1;omega) (by decide) (zau _ _) (fun j hj=>by
  obtain ⟨b,o,_,_,hn⟩:=hx j hj;exact ⟨nq (X j),zdJ hj,NmS.val (K:=8) hn (zhm ha j (by omega) (by omega)) (hs.2 j hj)⟩)).mono (by
   rintro e w' ⟨aw,cw,rfl,h1,_,h3⟩;exact ⟨aw,cw,rfl,h1,zk h3.out⟩)
theorem zpy {w M} (h:In8 w M) (he:zar M=0):Calls prog 39 #[M.val] w fun e w'=>∃M':Mo,e=.returned M'.val/\Bl w w'/\Hid (MqV (2*8) w' M' (nq M.off) (csOf M) (rsOf M)) :=
 (zpe (h.val he).1 (by decide) (h.val he).2).mono (by
  rintro e w' ⟨M',h1,h2,h3⟩;exact ⟨M',h1,h2,zk h3⟩)
theorem zeA {w z} (h0:-1000<=z) (h1:z<=1000):Calls prog 25 #[.int .i64 z] w fun e w'=>∃v,e=.returned v/\Bl w w'/\GX 8 0 (z:Rat) v w':=by
 have HB:=zk (zB w (.cells #[.int .i64 0,.bool false,.slice none 0 0,.slice none 0 0] 42));have BR:=zk (zD w [.int .i64 0,.bool false,.slice none 0 0,.slice none 0 0] 42);go_enter func25,ntmps25;go_wp2_with fail
 generalize w.alloc (.cells #[.int .i64 0,.bool false,.slice none 0 0,.slice none 0 0] 42)=w0 at *;refine (zbi (z:=z) (by omega) (by omega)).mono ?_;rintro e w1 ⟨s,x,n,c,f,y,m,d,g,rfl,hb,hr⟩;replace HB:=zL HB hb;replace BR:=zk (BR.out.q_ hb)
 obtain ⟨hx1,hx2,hx3⟩:=zeS [.int .i64 0,.bool s,.slice x n c,.slice y m d] BR.out (zZ (fun u hu q=>by simp at hu;rcases hu with rfl | rfl | rfl | rfl <;> simp)) HB.out (le_refl _);obtain ⟨l0,l1,l2,l3⟩:=bk4 BR.out;have ff:=BR.out.frozen;have HX:Hid (Bl w (stl w.heap.size 0 [.int .i64 0,.bool s,.slice x n c,.slice y m d] w1)/\GX 8 0 (z:Rat) (.agg #[.int .i64 0,.bool s,.slice x n c,.slice y m d]) (stl w.heap.size 0 [.int .i64 0,.bool s,.slice x n c,.slice y m d] w1)):=⟨hx1,⟨0,⟨s,x,n,c,f,y,m,d,g⟩⟩,rfl,rfl,(Rn.kp hr hx2).mono (by decide)⟩;clear hx1 hx2 hx3 hb hr HB;go_wp2;exact bodyPost_ret (v:=.agg #[.int .i64 0,.bool s,.slice x n c,.slice y m d]) (by simp [results,results25,go_sem,l0,l1,l2,l3]) rfl ⟨_,rfl,HX.out⟩
theorem zkG {w z}:Calls prog 53 #[.string z] w fun e w'=>∃v,e=.returned v/\Bl w w'/\GC 8 ⟨z,-1,0,0,0,4⟩ v w':=by
 have HB:=zk (zB w (.cells #[.string ⟨#[]⟩,.bool false,.slice none 0 0,.slice none 0 0,.int .i64 0,.bool false,.slice none 0 0,.slice none 0 0,.int .i64 0,.bool false,.slice none 0 0,.slice none 0 0] 65));have O0:Hid (Bk (w.alloc (.cells #[.string ⟨#[]⟩,.bool false,.slice none 0 0,.slice none 0 0,.int .i64 0,.bool false,.slice none 0 0,.slice none 0 0,.int .i64 0,.bool false,.slice none 0 0,.slice none 0 0] 65)) w.heap.size [.string ⟨#[]⟩,.bool false,.slice none 0 0,.slice none 0 0,.int .i64 0,.bool false,.slice none 0 0,.slice none 0 0,.int .i64 0,.bool false,.slice none 0 0,.slice none 0 0] 65):=zD w [.string ⟨#[]⟩,.bool false,.slice none 0 0,.slice none 0 0,.int .i64 0,.bool false,.slice none 0 0,.slice none 0 0,.int .i64 0,.bool false,.slice none 0 0,.slice none 0 0] 65;go_enter func53,ntmps53;go_wp2_with fail
 generalize w.alloc (.cells #[.string ⟨#[]⟩,.bool false,.slice none 0 0,.slice none 0 0,.int .i64 0,.bool false,.slice none 0 0,.slice none 0 0,.int .i64 0,.bool false,.slice none 0 0,.slice none 0 0] 65)=w0 at *;refine (zbi (z:=(-1)) (by decide) (by decide)).mono ?_;rintro e w1 ⟨s1,x1,n1,c1,f1,y1,m1,d1,g1,rfl,hb,hr⟩;replace HB:=zL HB hb;replace O0:=zk (O0.out.q_ hb)
 have R1:=zk (hr.mono (show 4<=8 by decide));clear hb hr;go_wp2_with fail
 refine (zeA (z:=0) (by decide) (by decide)).mono ?_;rintro e w2 ⟨v2,rfl,hb,⟨⟨i2,⟨s2,x2,n2,c2,f2,y2,m2,d2,g2⟩⟩,ev,hi2,hv⟩⟩;replace ev:v2=.agg #[.int .i64 i2,.bool s2,.slice x2 n2 c2,.slice y2 m2 d2]:=ev;subst ev;replace HB:=zL HB hb;replace O0:=zk (O0.out.q_ hb);replace R1:=zk (R1.out.q_ hb)
 replace hi2:i2=0:=hi2;subst hi2;have R2:=zk (show Rn 8 w2 s2 x2 n2 c2 f2 y2 m2 d2 g2 (0:Int) from hv);clear hb hv;go_wp2_with fail
 refine (zeA (z:=4) (by decide) (by decide)).mono ?_;rintro e w3 ⟨v3,rfl,hb,⟨⟨i3,⟨s3,x3,n3,c3,f3,y3,m3,d3,g3⟩⟩,ev,hi3,hv⟩⟩;replace ev:v3=.agg #[.int .i64 i3,.bool s3,.slice x3 n3 c3,.slice y3 m3 d3]:=ev;subst ev;replace HB:=zL HB hb;replace O0:=zk (O0.out.q_ hb);replace R1:=zk (R1.out.q_ hb);replace R2:=zk (R2.out.q_ hb)
 replace hi3:i3=0:=hi3;subst hi3;have R3:=zk (show Rn 8 w3 s3 x3 n3 c3 f3 y3 m3 d3 g3 (4:Int) from hv);clear hb hv;obtain ⟨hx1,hx2,hx3⟩:=zeS [.string z,.bool s1,.slice x1 n1 c1,.slice y1 m1 d1,.int .i64 0,.bool s2,.slice x2 n2 c2,.slice y2 m2 d2,.int .i64 0,.bool s3,.slice x3 n3 c3,.slice y3 m3 d3] O0.out (zZ (fun u hu q=>by simp at hu;rcases hu with rfl | rfl | rfl | rfl | rfl | rfl | rfl | rfl | rfl <;> simp)) HB.out (le_refl _);obtain ⟨l0,l1,l2,l3,l4,l5,l6,l7,l8,l9,l10,l11⟩:=zio O0.out;have ff:=O0.out.frozen;have HX:Hid (Bl w (stl w.heap.size 0 [.string z,.bool s1,.slice x1 n1 c1,.slice y1 m1 d1,.int .i64 0,.bool s2,.slice x2 n2 c2,.slice y2 m2 d2,.int .i64 0,.bool s3,.slice x3 n3 c3,.slice y3 m3 d3] w3)/\GC 8 ⟨z,-1,0,0,0,4⟩ (.agg #[.string z,.bool s1,.slice x1 n1 c1,.slice y1 m1 d1,.int .i64 0,.bool s2,.slice x2 n2 c2,.slice y2 m2 d2,.int .i64 0,.bool s3,.slice x3 n3 c3,.slice y3 m3 d3]) (stl w.heap.size 0 [.string z,.bool s1,.slice x1 n1 c1,.slice y1 m1 d1,.int .i64 0,.bool s2,.slice x2 n2 c2,.slice y2 m2 d2,.int .i64 0,.bool s3,.slice x3 n3 c3,.slice y3 m3 d3] w3)):=⟨hx1,⟨⟨z,⟨s1,x1,n1,c1,f1,y1,m1,d1,g1⟩,⟨0,⟨s2,x2,n2,c2,f2,y2,m2,d2,g2⟩⟩,⟨0,⟨s3,x3,n3,c3,f3,y3,m3,d3,g3⟩⟩⟩,rfl,rfl,Rn.kp R1.out hx2,rfl,Rn.kp R2.out hx2,rfl,Rn.kp R3.out hx2⟩⟩;clear hx1 hx2 hx3 HB O0;go_wp2;exact bodyPost_ret (v:=.agg #[.string z,.bool s1,.slice x1 n1 c1,.slice y1 m1 d1,.int .i64 0,.bool s2,.slice x2 n2 c2,.slice y2 m2 d2,.int .i64 0,.bool s3,.slice x3 n3 c3,.slice y3 m3 d3]) (by simp [results,results53,go_sem,l0,l1,l2,l3,l4,l5,l6,l7,l8,l9,l10,l11]) rfl ⟨_,rfl,HX.out⟩
theorem zhM:Lo 4 (((-1:Int):Rat)/2):=⟨by decide +kernel,by decide +kernel⟩
theorem zcv {w} {z:Int} (h0:-1000<=z) (h1:z<=1000) (hl:Lo 4 ((z:Rat)/2)):Calls prog 21 #[.int .i64 z] w fun e w'=>∃s x n c f y m d g,e=.returned (.agg #[.bool s,.slice x n c,.slice y m d])/\Bl w w'/\Hid (Rn 4 w' s x n c f y m d g ((z:Rat)/2)):=by
 have HB:=zk (zB w (.cells #[.bool false,.slice none 0 0,.slice none 0 0] 24));have O0:=zk (zD w [.bool false,.slice none 0 0,.slice none 0 0] 24);go_enter func21,ntmps21;go_wp2_with fail
 generalize w.alloc (.cells #[.bool false,.slice none 0 0,.slice none 0 0] 24)=w0 at *;refine (zeY (z:=z) (by omega) (by omega)).mono ?_;rintro e w1 ⟨s1,x1,n1,c1,d1,y1,m1,e1,g1,rfl,hb,hn1,hm1,hq⟩;replace HB:=zL HB hb;replace O0:=zk (O0.out.q_ hb)
 have Q1:=zk hq;clear hb hq;go_wp2_with fail
 refine (zeY (z:=2) (by decide) (by decide)).mono ?_;rintro e w2 ⟨s2,x2,n2,c2,d2,y2,m2,e2,g2,rfl,hb,hn2,hm2,hq⟩;replace HB:=zL HB hb;replace O0:=zk (O0.out.q_ hb);replace Q1:=zk (Q1.out.q_ hb)
 have Q2:=zk hq;clear hb hq;go_wp2_with fail
 refine (zqU Q1.out Q2.out (by omega) (by omega) (by omega) (by omega) (by decide)).mono ?_;rintro e w3 ⟨s3,x3,n3,c3,d3,y3,m3,e3,g3,rfl,hb,hn3,hm3,hq⟩;replace HB:=zL HB hb;replace O0:=zk (O0.out.q_ hb);replace Q1:=zk (Q1.out.q_ hb);replace Q2:=zk (Q2.out.q_ hb)
 have Q3:=zk hq;clear hb hq;go_wp2_with fail
 refine (zgD Q3.out (by omega) (by omega)).mono ?_;rintro e w4 ⟨z4,k4,t4,f4,v4,l4,u4,g4,rfl,hb,hr⟩;replace HB:=zL HB hb;replace O0:=zk (O0.out.q_ hb);replace Q1:=zk (Q1.out.q_ hb);replace Q2:=zk (Q2.out.q_ hb);replace Q3:=zk (Q3.out.q_ hb)
 have R4:=zk (hr.out.cut (show Lo 4 ((z:Rat)/((2:Int):Rat)) from hl));clear hb hr Q1 Q2 Q3;obtain ⟨hx1,hx2,hx3⟩:=zeS [.bool s3,.slice z4 k4 t4,.slice v4 l4 u4] O0.out (zZ (fun u hu q=>by simp at hu;rcases hu with rfl | rfl <;> simp)) HB.out (le_refl _);obtain ⟨l0,l1,l2⟩:=bk3 O0.out;have ff:=O0.out.frozen;have HX:Hid (Bl w (stl w.heap.size 0 [.bool s3,.slice z4 k4 t4,.slice v4 l4 u4] w4)/\Hid (Rn 4 (stl w.heap.size 0 [.bool s3,.slice z4 k4 t4,.slice v4 l4 u4] w4) s3 z4 k4 t4 f4 v4 l4 u4 g4 ((z:Rat)/2))):=⟨hx1,zk (Rn.kp R4.out hx2)⟩;clear hx1 hx2 hx3 HB O0;go_wp2;exact bodyPost_ret (v:=.agg #[.bool s3,.slice z4 k4 t4,.slice v4 l4 u4]) (by simp [results,results21,go_sem,l0,l1,l2]) rfl ⟨_,_,_,_,_,_,_,_,_,rfl,HX.out⟩
theorem zrc {w B o s x1 x2 x3 n1 n2 n3 c1 c2 c3 t} (h:Bk w B [.slice x1 n1 c1,.slice x2 n2 c2,.slice x3 n3 c3] t):w.cell? ⟨B,o,none⟩≠some (.bool s):=fun e=>by
 unfold Bk at h;simp only [World.cell?,h] at e
 match o,e with
 | 0,e=>simp at e
 | 1,e=>simp at e
 | 2,e=>simp at e
 | o+3,e=>simp at e
theorem Rf.kpo {L w w' ao B p} (h:Rf L w ao p) (hk:Kp w w') (hne:∀k,k≠B->w'.heap[k]?=w.heap[k]?) (hno:∀o s,w.cell? ⟨B,o,none⟩≠some (.bool s)):Rf L w' ao p:=fun j q e=>by
 obtain ⟨b,o,t,h1,h2,h3⟩:=h j q e;have hb:b≠B:=fun e'=>by subst e';exact hno _ _ h2.x0
 have hc:∀i,w'.cell? ⟨b,i,none⟩=w.cell? ⟨b,i,none⟩:=fun i=>by simp only [World.cell?,hne b hb]
 exact ⟨b,o,t,h1,⟨(hc _).trans h2.x0,(hc _).trans h2.x1,(hc _).trans h2.x2⟩,Rn.kp h3 hk⟩
theorem best11_c {w}:Calls prog 23 #[] w fun e w'=>∃a b c,e=.returned (.agg #[.slice a 2 2,.slice b 1 1,.slice c 2 2])/\Bl w w'/\Hid (Rf 8 w' a [((4:Int):Rat),((1:Int):Rat)]/\Rf 8 w' b [((-1:Int):Rat)/2]/\Rf 8 w' c [((-1:Int):Rat)/2,((0:Int):Rat)]):=by
 have HB:=zk (zB w (.cells #[.slice none 0 0,.slice none 0 0,.slice none 0 0] 50));have O0:=zk (zD w [.slice none 0 0,.slice none 0 0,.slice none 0 0] 50);go_enter func23,ntmps23;go_wp2_with fail
 generalize w.alloc (.cells #[.slice none 0 0,.slice none 0 0,.slice none 0 0] 50)=w0 at *;refine (zbi (z:=4) (by decide) (by decide)).mono ?_;rintro e w1 ⟨s1,x1,n1,c1,f1,y1,m1,d1,g1,rfl,hb,hr⟩;replace HB:=zL HB hb;replace O0:=zk (O0.out.q_ hb)
 have R1:=zk (hr.mono (show 4<=8 by decide));clear hb hr;go_wp2_with fail
 refine (zbi (z:=1) (by decide) (by decide)).mono ?_;rintro e w2 ⟨s2,x2,n2,c2,f2,y2,m2,d2,g2,rfl,hb,hr⟩;replace HB:=zL HB hb;replace O0:=zk (O0.out.q_ hb);replace R1:=zk (R1.out.q_ hb)
 have R2:=zk (hr.mono (show 4<=8 by decide));clear hb hr;have hn:=zB w2 (.cells #[.bool s1,.slice x1 n1 c1,.slice y1 m1 d1,.bool s2,.slice x2 n2 c2,.slice y2 m2 d2] 24);have X1:=zk (show Rf 8 (w2.alloc (.cells #[.bool s1,.slice x1 n1 c1,.slice y1 m1 d1,.bool s2,.slice x2 n2 c2,.slice y2 m2 d2] 24)) (some ⟨w2.heap.size,0,none⟩) [((4:Int):Rat),((1:Int):Rat)] from zmB (R1.out.mono (by decide)) (R2.out.mono (by decide)));replace HB:=zL HB hn;replace O0:=zk (O0.out.q_ hn);replace R1:=zk (R1.out.q_ hn);replace R2:=zk (R2.out.q_ hn)
 clear hn;go_wp2_with fail
 generalize w2.alloc (.cells #[.bool s1,.slice x1 n1 c1,.slice y1 m1 d1,.bool s2,.slice x2 n2 c2,.slice y2 m2 d2] 24)=vX1 at *;generalize w2.heap.size=pX1 at *;refine (zcv (z:=(-1)) (by decide) (by decide) zhM).mono ?_;rintro e w3 ⟨s3,x3,n3,c3,f3,y3,m3,d3,g3,rfl,hb,hr⟩;replace HB:=zL HB hb;replace O0:=zk (O0.out.q_ hb);replace R1:=zk (R1.out.q_ hb);replace R2:=zk (R2.out.q_ hb);replace X1:=zk (X1.out.q_ hb)
 have R3:=zk hr.out;clear hb hr;have hn:=zB w3 (.cells #[.bool s3,.slice x3 n3 c3,.slice y3 m3 d3] 24);have X2:=zk (show Rf 8 (w3.alloc (.cells #[.bool s3,.slice x3 n3 c3,.slice y3 m3 d3] 24)) (some ⟨w3.heap.size,0,none⟩) [((-1:Int):Rat)/2] from (zgU (base:=0) (R3.out.mono (by decide)) (Nat.zero_le _)).rf);replace HB:=zL HB hn;replace O0:=zk (O0.out.q_ hn);replace R1:=zk (R1.out.q_ hn);replace R2:=zk (R2.out.q_ hn);replace X1:=zk (X1.out.q_ hn);replace R3:=zk (R3.out.q_ hn)
 clear hn;go_wp2_with fail
 generalize w3.alloc (.cells #[.bool s3,.slice x3 n3 c3,.slice y3 m3 d3] 24)=vX2 at *;generalize w3.heap.size=pX2 at *;refine (zcv (z:=(-1)) (by decide) (by decide) zhM).mono ?_;rintro e w4 ⟨s4,x4,n4,c4,f4,y4,m4,d4,g4,rfl,hb,hr⟩;replace HB:=zL HB hb;replace O0:=zk (O0.out.q_ hb);replace R1:=zk (R1.out.q_ hb);replace R2:=zk (R2.out.q_ hb);replace X1:=zk (X1.out.q_ hb);replace R3:=zk (R3.out.q_ hb);replace X2:=zk (X2.out.q_ hb)
 have R4:=zk hr.out;clear hb hr;go_wp2_with fail
 refine (zbi (z:=0) (by decide) (by decide)).mono ?_;rintro e w5 ⟨s5,x5,n5,c5,f5,y5,m5,d5,g5,rfl,hb,hr⟩;replace HB:=zL HB hb;replace O0:=zk (O0.out.q_ hb);replace R1:=zk (R1.out.q_ hb);replace R2:=zk (R2.out.q_ hb);replace X1:=zk (X1.out.q_ hb);replace R3:=zk (R3.out.q_ hb);replace X2:=zk (X2.out.q_ hb);replace R4:=zk (R4.out.q_ hb)
 have R5:=zk (hr.mono (show 4<=8 by decide));clear hb hr;have hn:=zB w5 (.cells #[.bool s4,.slice x4 n4 c4,.slice y4 m4 d4,.bool s5,.slice x5 n5 c5,.slice y5 m5 d5] 24);have X3:=zk (show Rf 8 (w5.alloc (.cells #[.bool s4,.slice x4 n4 c4,.slice y4 m4 d4,.bool s5,.slice x5 n5 c5,.slice y5 m5 d5] 24)) (some ⟨w5.heap.size,0,none⟩) [((-1:Int):Rat)/2,((0:Int):Rat)] from zmB (R4.out.mono (by decide)) (R5.out.mono (by decide)));replace HB:=zL HB hn;replace O0:=zk (O0.out.q_ hn);replace R1:=zk (R1.out.q_ hn);replace R2:=zk (R2.out.q_ hn);replace X1:=zk (X1.out.q_ hn);replace R3:=zk (R3.out.q_ hn);replace X2:=zk (X2.out.q_ hn);replace R4:=zk (R4.out.q_ hn);replace R5:=zk (R5.out.q_ hn)
 clear hn R1 R2 R3 R4 R5;obtain ⟨hx1,hx2,hx3⟩:=zeS [.slice (some ⟨pX1,0,none⟩) 2 2,.slice (some ⟨pX2,0,none⟩) 1 1,.slice (some ⟨w5.heap.size,0,none⟩) 2 2] O0.out (zZ (fun u hu q=>by simp at hu;subst hu;simp)) HB.out (le_refl _);obtain ⟨l0,l1,l2⟩:=bk3 O0.out;have ff:=O0.out.frozen;have HX:Hid (Bl w (stl w.heap.size 0 [.slice (some ⟨pX1,0,none⟩) 2 2,.slice (some ⟨pX2,0,none⟩) 1 1,.slice (some ⟨w5.heap.size,0,none⟩) 2 2] (w5.alloc (.cells #[.bool s4,.slice x4 n4 c4,.slice y4 m4 d4,.bool s5,.slice x5 n5 c5,.slice y5 m5 d5] 24)))/\Hid (Rf 8 (stl w.heap.size 0 [.slice (some ⟨pX1,0,none⟩) 2 2,.slice (some ⟨pX2,0,none⟩) 1 1,.slice (some ⟨w5.heap.size,0,none⟩) 2 2] (w5.alloc (.cells #[.bool s4,.slice x4 n4 c4,.slice y4 m4 d4,.bool s5,.slice x5 n5 c5,.slice y5 m5 d5] 24))) (some ⟨pX1,0,none⟩) [((4:Int):Rat),((1:Int):Rat)]/\Rf 8 (stl w.heap.size 0 [.slice (some ⟨pX1,0,none⟩) 2 2,.slice (some ⟨pX2,0,none⟩) 1 1,.slice (some ⟨w5.heap.size,0,none⟩) 2 2] (w5.alloc (.cells #[.bool s4,.slice x4 n4 c4,.slice y4 m4 d4,.bool s5,.slice x5 n5 c5,.slice y5 m5 d5] 24))) (some ⟨pX2,0,none⟩) [((-1:Int):Rat)/2]/\Rf 8 (stl w.heap.size 0 [.slice (some ⟨pX1,0,none⟩) 2 2,.slice (some ⟨pX2,0,none⟩) 1 1,.slice (some ⟨w5.heap.size,0,none⟩) 2 2] (w5.alloc (.cells #[.bool s4,.slice x4 n4 c4,.slice y4 m4 d4,.bool s5,.slice x5 n5 c5,.slice y5 m5 d5] 24))) (some ⟨w5.heap.size,0,none⟩) [((-1:Int):Rat)/2,((0:Int):Rat)])):=⟨hx1,zk ⟨X1.out.kpo hx2 hx3 (fun o s=>zrc O0.out),X2.out.kpo hx2 hx3 (fun o s=>zrc O0.out),X3.out.kpo hx2 hx3 (fun o s=>zrc O0.out)⟩⟩;clear hx1 hx2 hx3 HB O0;go_wp2;exact bodyPost_ret (v:=.agg #[.slice (some ⟨pX1,0,none⟩) 2 2,.slice (some ⟨pX2,0,none⟩) 1 1,.slice (some ⟨w5.heap.size,0,none⟩) 2 2]) (by simp [results,results23,go_sem,l0,l1,l2]) rfl ⟨_,_,_,rfl,HX.out⟩
def k2C:List CV:=[⟨⟨#[120]⟩,-1,0,0,0,4⟩,⟨⟨#[121]⟩,-1,0,0,0,4⟩]
def k2R:List RV:=[⟨⟨#[114]⟩,-1,0,0,6,[(0,1),(1,2)]⟩]
theorem first11_c {w}:Calls prog 20 #[] w fun e w'=>∃M:Mo,e=.returned M.val/\Bl w w'/\Hid (MoV 8 w' M 3 k2C k2R):=by
 have HB:=zk (zB w (.cells #[.bool false,.slice none 0 0,.slice none 0 0,.slice none 0 0,.slice none 0 0] 28));have O0:=zk (zD w [.bool false,.slice none 0 0,.slice none 0 0,.slice none 0 0,.slice none 0 0] 28);go_enter func20,ntmps20;go_wp2_with fail
 generalize w.alloc (.cells #[.bool false,.slice none 0 0,.slice none 0 0,.slice none 0 0,.slice none 0 0] 28)=w0 at *;refine (zbi (z:=3) (by decide) (by decide)).mono ?_;rintro e w1 ⟨s1,x1,n1,c1,f1,y1,m1,d1,g1,rfl,hb,hr⟩;replace HB:=zL HB hb;replace O0:=zk (O0.out.q_ hb)
 have R1:=zk (hr.mono (show 4<=8 by decide));clear hb hr;go_wp2_with fail
 refine (zkG (z:=⟨#[120]⟩)).mono ?_;rintro e w2 ⟨v2,rfl,hb,⟨⟨z2,⟨sb2,xb2,nb2,cb2,fb2,yb2,mb2,db2,gb2⟩,⟨ic2,⟨sc2,xc2,nc2,cc2,fc2,yc2,mc2,dc2,gc2⟩⟩,⟨id2,⟨sd2,xd2,nd2,cd2,fd2,yd2,md2,dd2,gd2⟩⟩⟩,ev,hv⟩⟩;replace ev:v2=.agg #[.string z2,.bool sb2,.slice xb2 nb2 cb2,.slice yb2 mb2 db2,.int .i64 ic2,.bool sc2,.slice xc2 nc2 cc2,.slice yc2 mc2 dc2,.int .i64 id2,.bool sd2,.slice xd2 nd2 cd2,.slice yd2 md2 dd2]:=ev;subst ev;replace HB:=zL HB hb;replace O0:=zk (O0.out.q_ hb);replace R1:=zk (R1.out.q_ hb)
 have R2:=zk hv;clear hb hv;go_wp2_with fail
 refine (zkG (z:=⟨#[121]⟩)).mono ?_;rintro e w3 ⟨v3,rfl,hb,⟨⟨z3,⟨sb3,xb3,nb3,cb3,fb3,yb3,mb3,db3,gb3⟩,⟨ic3,⟨sc3,xc3,nc3,cc3,fc3,yc3,mc3,dc3,gc3⟩⟩,⟨id3,⟨sd3,xd3,nd3,cd3,fd3,yd3,md3,dd3,gd3⟩⟩⟩,ev,hv⟩⟩;replace ev:v3=.agg #[.string z3,.bool sb3,.slice xb3 nb3 cb3,.slice yb3 mb3 db3,.int .i64 ic3,.bool sc3,.slice xc3 nc3 cc3,.slice yc3 mc3 dc3,.int .i64 id3,.bool sd3,.slice xd3 nd3 cd3,.slice yd3 md3 dd3]:=ev;subst ev;replace HB:=zL HB hb;replace O0:=zk (O0.out.q_ hb);replace R1:=zk (R1.out.q_ hb);replace R2:=zk (R2.out.q_ hb)
 have R3:=zk hv;clear hb hv;have hn:=zB w3 (.cells #[.string z2,.bool sb2,.slice xb2 nb2 cb2,.slice yb2 mb2 db2,.int .i64 ic2,.bool sc2,.slice xc2 nc2 cc2,.slice yc2 mc2 dc2,.int .i64 id2,.bool sd2,.slice xd2 nd2 cd2,.slice yd2 md2 dd2,.string z3,.bool sb3,.slice xb3 nb3 cb3,.slice yb3 mb3 db3,.int .i64 ic3,.bool sc3,.slice xc3 nc3 cc3,.slice yc3 mc3 dc3,.int .i64 id3,.bool sd3,.slice xd3 nd3 cd3,.slice yd3 md3 dd3] 65);have HC:Hid (Cs (w3.alloc (.cells #[.string z2,.bool sb2,.slice xb2 nb2 cb2,.slice yb2 mb2 db2,.int .i64 ic2,.bool sc2,.slice xc2 nc2 cc2,.slice yc2 mc2 dc2,.int .i64 id2,.bool sd2,.slice xd2 nd2 cd2,.slice yd2 md2 dd2,.string z3,.bool sb3,.slice xb3 nb3 cb3,.slice yb3 mb3 db3,.int .i64 ic3,.bool sc3,.slice xc3 nc3 cc3,.slice yc3 mc3 dc3,.int .i64 id3,.bool sd3,.slice xd3 nd3 cd3,.slice yd3 md3 dd3] 65)) w3.heap.size 0 [.string z2,.bool sb2,.slice xb2 nb2 cb2,.slice yb2 mb2 db2,.int .i64 ic2,.bool sc2,.slice xc2 nc2 cc2,.slice yc2 mc2 dc2,.int .i64 id2,.bool sd2,.slice xd2 nd2 cd2,.slice yd2 md2 dd2]/\Cs (w3.alloc (.cells #[.string z2,.bool sb2,.slice xb2 nb2 cb2,.slice yb2 mb2 db2,.int .i64 ic2,.bool sc2,.slice xc2 nc2 cc2,.slice yc2 mc2 dc2,.int .i64 id2,.bool sd2,.slice xd2 nd2 cd2,.slice yd2 md2 dd2,.string z3,.bool sb3,.slice xb3 nb3 cb3,.slice yb3 mb3 db3,.int .i64 ic3,.bool sc3,.slice xc3 nc3 cc3,.slice yc3 mc3 dc3,.int .i64 id3,.bool sd3,.slice xd3 nd3 cd3,.slice yd3 md3 dd3] 65)) w3.heap.size 12 [.string z3,.bool sb3,.slice xb3 nb3 cb3,.slice yb3 mb3 db3,.int .i64 ic3,.bool sc3,.slice xc3 nc3 cc3,.slice yc3 mc3 dc3,.int .i64 id3,.bool sd3,.slice xd3 nd3 cd3,.slice yd3 md3 dd3]):=znH w3 65 [.string z2,.bool sb2,.slice xb2 nb2 cb2,.slice yb2 mb2 db2,.int .i64 ic2,.bool sc2,.slice xc2 nc2 cc2,.slice yc2 mc2 dc2,.int .i64 id2,.bool sd2,.slice xd2 nd2 cd2,.slice yd2 md2 dd2] [.string z3,.bool sb3,.slice xb3 nb3 cb3,.slice yb3 mb3 db3,.int .i64 ic3,.bool sc3,.slice xc3 nc3 cc3,.slice yc3 mc3 dc3,.int .i64 id3,.bool sd3,.slice xd3 nd3 cd3,.slice yd3 md3 dd3];replace HB:=zL HB hn;replace O0:=zk (O0.out.q_ hn);replace R1:=zk (R1.out.q_ hn);replace R2:=zk (R2.out.q_ hn);replace R3:=zk (R3.out.q_ hn)
 clear hn;go_wp2_with fail
 generalize hw8:w3.alloc (.cells #[.string z2,.bool sb2,.slice xb2 nb2 cb2,.slice yb2 mb2 db2,.int .i64 ic2,.bool sc2,.slice xc2 nc2 cc2,.slice yc2 mc2 dc2,.int .i64 id2,.bool sd2,.slice xd2 nd2 cd2,.slice yd2 md2 dd2,.string z3,.bool sb3,.slice xb3 nb3 cb3,.slice yb3 mb3 db3,.int .i64 ic3,.bool sc3,.slice xc3 nc3 cc3,.slice yc3 mc3 dc3,.int .i64 id3,.bool sd3,.slice xd3 nd3 cd3,.slice yd3 md3 dd3] 65)=w4 at *;clear hw8;generalize w3.heap.size=bc at *;have HC1:=zk HC.out.1;have HC2:=zk HC.out.2
 clear HC;refine (zql).mono ?_;rintro e w5 ⟨s5,x5,n5,c5,f5,y5,m5,d5,g5,rfl,hb,hF⟩;replace HB:=zL HB hb;replace O0:=zk (O0.out.q_ hb);replace R1:=zk (R1.out.q_ hb);replace R2:=zk (R2.out.q_ hb);replace R3:=zk (R3.out.q_ hb);replace HC1:=zk (HC1.out.q_ hb);replace HC2:=zk (HC2.out.q_ hb)
 clear hb;go_wp2_with fail
 refine (zrL hF.out.2.2 (by have:=hF.out;omega) (by have:=hF.out;omega)).mono ?_;rintro e w6 ⟨x6,n6,c6,f6,y6,m6,d6,g6,rfl,hb,hE⟩;replace HB:=zL HB hb;replace O0:=zk (O0.out.q_ hb);replace R1:=zk (R1.out.q_ hb);replace R2:=zk (R2.out.q_ hb);replace R3:=zk (R3.out.q_ hb);replace HC1:=zk (HC1.out.q_ hb);replace HC2:=zk (HC2.out.q_ hb)
 have R6:=zk (hE.out.rn.mono (show _<=8 by have:=hF.out;omega));clear hb hE hF;generalize s5=s6 at *;go_wp2_with fail
 refine (zeA (z:=6) (by decide) (by decide)).mono ?_;rintro e w7 ⟨v7,rfl,hb,⟨⟨i7,⟨s7,x7,n7,c7,f7,y7,m7,d7,g7⟩⟩,ev,hi7,hv⟩⟩;replace ev:v7=.agg #[.int .i64 i7,.bool s7,.slice x7 n7 c7,.slice y7 m7 d7]:=ev;subst ev;replace HB:=zL HB hb;replace O0:=zk (O0.out.q_ hb);replace R1:=zk (R1.out.q_ hb);replace R2:=zk (R2.out.q_ hb);replace R3:=zk (R3.out.q_ hb);replace HC1:=zk (HC1.out.q_ hb);replace HC2:=zk (HC2.out.q_ hb);replace R6:=zk (R6.out.q_ hb)
 replace hi7:i7=0:=hi7;subst hi7;have R7:=zk (show Rn 8 w7 s7 x7 n7 c7 f7 y7 m7 d7 g7 (6:Int) from hv);clear hb hv;go_wp2_with fail
 refine (zbi (z:=1) (by decide) (by decide)).mono ?_;rintro e w8 ⟨s8,x8,n8,c8,f8,y8,m8,d8,g8,rfl,hb,hr⟩;replace HB:=zL HB hb;replace O0:=zk (O0.out.q_ hb);replace R1:=zk (R1.out.q_ hb);replace R2:=zk (R2.out.q_ hb);replace R3:=zk (R3.out.q_ hb);replace HC1:=zk (HC1.out.q_ hb);replace HC2:=zk (HC2.out.q_ hb);replace R6:=zk (R6.out.q_ hb);replace R7:=zk (R7.out.q_ hb)
 have R8:=zk (hr.mono (show 4<=8 by decide));clear hb hr;go_wp2_with fail
 refine (zbi (z:=2) (by decide) (by decide)).mono ?_;rintro e w9 ⟨s9,x9,n9,c9,f9,y9,m9,d9,g9,rfl,hb,hr⟩;replace HB:=zL HB hb;replace O0:=zk (O0.out.q_ hb);replace R1:=zk (R1.out.q_ hb);replace R2:=zk (R2.out.q_ hb);replace R3:=zk (R3.out.q_ hb);replace HC1:=zk (HC1.out.q_ hb);replace HC2:=zk (HC2.out.q_ hb);replace R6:=zk (R6.out.q_ hb);replace R7:=zk (R7.out.q_ hb);replace R8:=zk (R8.out.q_ hb)
 have R9:=zk (hr.mono (show 4<=8 by decide));clear hb hr;have hn:=zB w9 (.cells #[.int .i64 0,.bool s8,.slice x8 n8 c8,.slice y8 m8 d8,.int .i64 1,.bool s9,.slice x9 n9 c9,.slice y9 m9 d9] 70);have HT:Hid (GT [(0,⟨s8,x8,n8,c8,f8,y8,m8,d8,g8⟩),(1,⟨s9,x9,n9,c9,f9,y9,m9,d9,g9⟩)] (.slice (some ⟨w9.heap.size,0,none⟩) 2 2) (w9.alloc (.cells #[.int .i64 0,.bool s8,.slice x8 n8 c8,.slice y8 m8 d8,.int .i64 1,.bool s9,.slice x9 n9 c9,.slice y9 m9 d9] 70))):=zpv w9 70 0 1 ⟨s8,x8,n8,c8,f8,y8,m8,d8,g8⟩ ⟨s9,x9,n9,c9,f9,y9,m9,d9,g9⟩;replace HB:=zL HB hn;replace O0:=zk (O0.out.q_ hn);replace R1:=zk (R1.out.q_ hn);replace R2:=zk (R2.out.q_ hn);replace R3:=zk (R3.out.q_ hn);replace HC1:=zk (HC1.out.q_ hn);replace HC2:=zk (HC2.out.q_ hn);replace R6:=zk (R6.out.q_ hn);replace R7:=zk (R7.out.q_ hn);replace R8:=zk (R8.out.q_ hn);replace R9:=zk (R9.out.q_ hn)
 clear hn;have hn:=zu (Below.refl (w9.alloc (.cells #[.int .i64 0,.bool s8,.slice x8 n8 c8,.slice y8 m8 d8,.int .i64 1,.bool s9,.slice x9 n9 c9,.slice y9 m9 d9] 70)).heap.size (w9.alloc (.cells #[.int .i64 0,.bool s8,.slice x8 n8 c8,.slice y8 m8 d8,.int .i64 1,.bool s9,.slice x9 n9 c9,.slice y9 m9 d9] 70))) (.cells #[.string ⟨#[114]⟩,.int .i64 (-1),.bool s6,.slice x6 n6 c6,.slice y6 m6 d6,.int .i64 0,.bool s7,.slice x7 n7 c7,.slice y7 m7 d7,.slice (some ⟨w9.heap.size,0,none⟩) 2 2] 68);have HRs:Hid (Cs ((w9.alloc (.cells #[.int .i64 0,.bool s8,.slice x8 n8 c8,.slice y8 m8 d8,.int .i64 1,.bool s9,.slice x9 n9 c9,.slice y9 m9 d9] 70)).alloc (.cells #[.string ⟨#[114]⟩,.int .i64 (-1),.bool s6,.slice x6 n6 c6,.slice y6 m6 d6,.int .i64 0,.bool s7,.slice x7 n7 c7,.slice y7 m7 d7,.slice (some ⟨w9.heap.size,0,none⟩) 2 2] 68)) (w9.alloc (.cells #[.int .i64 0,.bool s8,.slice x8 n8 c8,.slice y8 m8 d8,.int .i64 1,.bool s9,.slice x9 n9 c9,.slice y9 m9 d9] 70)).heap.size 0 [.string ⟨#[114]⟩,.int .i64 (-1),.bool s6,.slice x6 n6 c6,.slice y6 m6 d6,.int .i64 0,.bool s7,.slice x7 n7 c7,.slice y7 m7 d7,.slice (some ⟨w9.heap.size,0,none⟩) 2 2]):=zdh (w9.alloc (.cells #[.int .i64 0,.bool s8,.slice x8 n8 c8,.slice y8 m8 d8,.int .i64 1,.bool s9,.slice x9 n9 c9,.slice y9 m9 d9] 70)) 68 [.string ⟨#[114]⟩,.int .i64 (-1),.bool s6,.slice x6 n6 c6,.slice y6 m6 d6,.int .i64 0,.bool s7,.slice x7 n7 c7,.slice y7 m7 d7,.slice (some ⟨w9.heap.size,0,none⟩) 2 2] [.string ⟨#[114]⟩,.int .i64 (-1),.bool s6,.slice x6 n6 c6,.slice y6 m6 d6,.int .i64 0,.bool s7,.slice x7 n7 c7,.slice y7 m7 d7,.slice (some ⟨w9.heap.size,0,none⟩) 2 2] 0 (fun j v e=>by rw [zero_add];exact e);replace HB:=zL HB hn;replace O0:=zk (O0.out.q_ hn);replace R1:=zk (R1.out.q_ hn);replace R2:=zk (R2.out.q_ hn);replace R3:=zk (R3.out.q_ hn);replace HC1:=zk (HC1.out.q_ hn);replace HC2:=zk (HC2.out.q_ hn);replace R6:=zk (R6.out.q_ hn);replace R7:=zk (R7.out.q_ hn);replace R8:=zk (R8.out.q_ hn);replace R9:=zk (R9.out.q_ hn);replace HT:=zk (HT.out.q_ hn)
 clear hn;rw [zz] at HRs;have HMo:Hid (MoV 8 ((w9.alloc (.cells #[.int .i64 0,.bool s8,.slice x8 n8 c8,.slice y8 m8 d8,.int .i64 1,.bool s9,.slice x9 n9 c9,.slice y9 m9 d9] 70)).alloc (.cells #[.string ⟨#[114]⟩,.int .i64 (-1),.bool s6,.slice x6 n6 c6,.slice y6 m6 d6,.int .i64 0,.bool s7,.slice x7 n7 c7,.slice y7 m7 d7,.slice (some ⟨w9.heap.size,0,none⟩) 2 2] 68)) ⟨⟨s1,x1,n1,c1,f1,y1,m1,d1,g1⟩,some ⟨bc,0,none⟩,2,2,(fun j=>if j=0 then ⟨z2,⟨sb2,xb2,nb2,cb2,fb2,yb2,mb2,db2,gb2⟩,⟨ic2,⟨sc2,xc2,nc2,cc2,fc2,yc2,mc2,dc2,gc2⟩⟩,⟨id2,⟨sd2,xd2,nd2,cd2,fd2,yd2,md2,dd2,gd2⟩⟩⟩ else ⟨z3,⟨sb3,xb3,nb3,cb3,fb3,yb3,mb3,db3,gb3⟩,⟨ic3,⟨sc3,xc3,nc3,cc3,fc3,yc3,mc3,dc3,gc3⟩⟩,⟨id3,⟨sd3,xd3,nd3,cd3,fd3,yd3,md3,dd3,gd3⟩⟩⟩),some ⟨w9.heap.size+1,0,none⟩,1,1,fun _=>⟨⟨#[114]⟩,⟨-1,⟨s6,x6,n6,c6,f6,y6,m6,d6,g6⟩⟩,⟨0,⟨s7,x7,n7,c7,f7,y7,m7,d7,g7⟩⟩,some ⟨w9.heap.size,0,none⟩,2,2,(fun p=>if p=0 then 0 else 1),(fun p=>if p=0 then ⟨s8,x8,n8,c8,f8,y8,m8,d8,g8⟩ else ⟨s9,x9,n9,c9,f9,y9,m9,d9,g9⟩)⟩⟩ 3 k2C k2R):=by
  refine ⟨R1.out,rfl,rfl,fun j v e=>?_,fun j v e=>?_⟩
  ·match j,e with
   | 0,e=>cases e;exact ⟨⟨_,0,rfl,HC1.out⟩,R2.out⟩
   | 1,e=>cases e;exact ⟨⟨_,0,rfl,HC2.out⟩,R3.out⟩
  ·match j,e with
   | 0,e =>
    cases e
    obtain ⟨bt,et,ht⟩:=HT.out;have et2:w9.heap.size=bt:=by injection et with et;injection et with et;injection et
    subst et2;refine ⟨⟨_,0,rfl,HRs.out⟩,rfl,rfl,R6.out,rfl,R7.out,rfl,fun p z q e=>?_⟩
    match p,e with
    | 0,e=>cases e;exact ⟨rfl,R8.out,_,0,rfl,ht 0 _ _ rfl⟩
    | 1,e=>cases e;exact ⟨rfl,R9.out,_,0,rfl,ht 1 _ _ rfl⟩
 obtain ⟨hk1,hk2⟩:=ziX (v0:=.bool s1) (v1:=.slice x1 n1 c1) (v2:=.slice y1 m1 d1) (v3:=.slice (some ⟨bc,0,none⟩) 2 2) (v4:=.slice (some ⟨w9.heap.size+1,0,none⟩) 1 1) O0.out (ziR _ _ _ _ _ _ _ _ _ _ _ _ _) rfl;have HM2:=zk (HMo.out.kp hk1 hk2 (zsL O0.out));have HB2:=zk (zdY (u0:=.bool s1) (u1:=.slice x1 n1 c1) (u2:=.slice y1 m1 d1) (u3:=.slice (some ⟨bc,0,none⟩) 2 2) (u4:=.slice (some ⟨w9.heap.size+1,0,none⟩) 1 1) HB.out (le_refl w.heap.size));obtain ⟨l0,l1,l2,l3,l4⟩:=bk5 O0.out;have ff:=O0.out.frozen;clear hk1 hk2 HMo HB O0 R1 R2 R3 R6 R7 R8 R9 HC1 HC2 HT HRs;go_wp2;exact bodyPost_ret (v:=.agg #[.bool s1,.slice x1 n1 c1,.slice y1 m1 d1,.slice (some ⟨bc,0,none⟩) 2 2,.slice (some ⟨w9.heap.size+1,0,none⟩) 1 1]) (by simp [results,results20,go_sem,l0,l1,l2,l3,l4]) rfl ⟨⟨⟨s1,x1,n1,c1,f1,y1,m1,d1,g1⟩,some ⟨bc,0,none⟩,2,2,(fun j=>if j=0 then ⟨z2,⟨sb2,xb2,nb2,cb2,fb2,yb2,mb2,db2,gb2⟩,⟨ic2,⟨sc2,xc2,nc2,cc2,fc2,yc2,mc2,dc2,gc2⟩⟩,⟨id2,⟨sd2,xd2,nd2,cd2,fd2,yd2,md2,dd2,gd2⟩⟩⟩ else ⟨z3,⟨sb3,xb3,nb3,cb3,fb3,yb3,mb3,db3,gb3⟩,⟨ic3,⟨sc3,xc3,nc3,cc3,fc3,yc3,mc3,dc3,gc3⟩⟩,⟨id3,⟨sd3,xd3,nd3,cd3,fd3,yd3,md3,dd3,gd3⟩⟩⟩),some ⟨w9.heap.size+1,0,none⟩,1,1,fun _=>⟨⟨#[114]⟩,⟨-1,⟨s6,x6,n6,c6,f6,y6,m6,d6,g6⟩⟩,⟨0,⟨s7,x7,n7,c7,f7,y7,m7,d7,g7⟩⟩,some ⟨w9.heap.size,0,none⟩,2,2,(fun p=>if p=0 then 0 else 1),(fun p=>if p=0 then ⟨s8,x8,n8,c8,f8,y8,m8,d8,g8⟩ else ⟨s9,x9,n9,c9,f9,y9,m9,d9,g9⟩)⟩⟩,rfl,HB2.out,HM2.out⟩
theorem zrQ {a b} (h:sqB a b=true):nfB b=nfB a/\nq b=nq a:=by
 obtain ⟨s,x,n,c,f,y,m,d,g⟩:=a;obtain ⟨s',x',n',c',f',y',m',d',g'⟩:=b;obtain ⟨h1,⟨h2,h3⟩,⟨h4,h5⟩⟩:=sq_iff.1 h;simp only at h1 h2 h3 h4 h5;subst h1;subst h2;subst h4
 have e1:vf f' n=vf f n:=(zO h3).symm;have e2:vf g' m=vf g m:=(zO h5).symm;have e3:∀{u v:Nat->Int} {k:Nat},(∀j,j<k->u j=v j)->fmB v k=fmB u k:=fun {u v k} hu=>by
  cases k with
  | zero=>rfl
  | succ k=>unfold fmB;rw [hu (k+1-1) (by omega)]
 constructor
 ·show rfB s f' n g' m=rfB s f n g m;unfold rfB wfB;rw [e1,e2,e3 h3,e3 h5]
 ·show mkRat (wv s f' n) (wv false g' m).toNat=mkRat (wv s f n) (wv false g m).toNat;unfold wv;rw [e1,e2]
theorem zku {α e} {X Y:Nat->α}:∀{r i:Nat},eqf e X Y r i=true ↔ ∀j,i<=j->j<i+r->e (X j) (Y j)=true
 | 0,_=>⟨fun _ j a b=>by omega,fun _=>rfl⟩
 | r+1,i=>by
  simp only [eqf,Bool.and_eq_true,zku (r:=r)];constructor
  ·rintro ⟨h1,h2⟩ j a b;by_cases e:j=i
   ·subst e;exact h1
   ·exact h2 j (by omega) (by omega)
  ·exact fun h=>⟨h i (by omega) (by omega),fun j a b=>h j (by omega) (by omega)⟩
theorem Rl.cs {w ao k X} (h:Rl w ao k X):∀j,j<k->∃b o,ao=some ⟨b,o,none⟩/\Cs w b (o+j*3) (rcell (X j))/\NmS w (X j):=fun j hj=>by
 obtain ⟨b,o,h1,h2,h3⟩:=h j hj;refine ⟨b,o,h1,fun i v e=>?_,h3⟩
 match i,e with
 | 0,e=>cases e;exact h2.x0
 | 1,e=>cases e;exact h2.x1
 | 2,e=>cases e;exact h2.x2
 | i+3,e=>cases e
theorem zpO {L w ao p} (h:Rf L w ao p):∃E:Nat->Nm,∀j q,p[j]?=some q->(∃b o,ao=some ⟨b,o,none⟩/\C3 w b (o+j*3) (.bool (E j).s) (.slice (E j).x (E j).n (E j).c) (.slice (E j).y (E j).m (E j).d))/\NmV L w (E j) q:=by
 refine Classical.axiomOfChoice (r:=fun j (t:Nm)=>∀q,p[j]?=some q->(∃b o,ao=some ⟨b,o,none⟩/\C3 w b (o+j*3) (.bool t.s) (.slice t.x t.n t.c) (.slice t.y t.m t.d))/\NmV L w t q) (fun j=>?_);by_cases hj:j<p.length
 ·obtain ⟨b,o,t,h1,h2,h3⟩:=h j (p[j]) (getElem?_eq_getElem hj);refine ⟨t,fun q e=>?_⟩;rw [getElem?_eq_getElem hj] at e;rw [Option.some.inj e] at h3;exact ⟨⟨b,o,h1,h2⟩,h3⟩
 ·exact ⟨⟨false,none,0,0,fun _=>0,none,0,0,fun _=>0⟩,fun q e=>by rw [List.getElem?_eq_none (by omega)] at e;cases e⟩
theorem zrs {L w w1 ao k k2 E Z p} (hp:p.length=k) (hE:∀j q,p[j]?=some q->NmV L w1 (E j) q) (hZ:Rl w ao k2 Z):eqfB sqB k k2 E Z=(afB k2 Z && decide (zaw k2 Z=p))/\(eqfB sqB k k2 E Z=true->Rf L w ao p/\p.length=k2):=by
 have hg:∀j,j<p.length->p[j]?=some (p.getD j 0):=fun j hj=>by rw [List.getD_eq_getElem?_getD,getElem?_eq_getElem hj];rfl
 have key:eqfB sqB k k2 E Z=true ↔ k=k2/\∀j,j<k->sqB (E j) (Z j)=true:=by
  unfold eqfB;rw [Bool.and_eq_true,decide_eq_true_eq,zku];exact ⟨fun ⟨a,b⟩=>⟨a,fun j hj=>b j (by omega) (by omega)⟩,fun ⟨a,b⟩=>⟨a,fun j _ hj=>b j (by omega)⟩⟩
 have tru:eqfB sqB k k2 E Z=true->(k=k2/\∀j q,p[j]?=some q->NmV L w (Z j) q):=fun h=>by
  obtain ⟨a,b⟩:=key.1 h;refine ⟨a,fun j q e=>?_⟩;have hj:j<p.length:=(List.getElem?_eq_some_iff.1 e).1;have h1:=b j (by omega);have h2:=hE j q e;obtain ⟨h3,h4⟩:=zrQ h1;obtain ⟨_,h5,h6⟩:=sq_iff.1 h1;obtain ⟨b',o',_,_,h7⟩:=hZ j (by omega);have h8:=NmS.val (K:=L) h7 (by rw [h3];exact Rn.rf h2) ⟨by rw [<-h5.1];exact h2.ln,by rw [<-h6.1];exact h2.ld⟩;rw [h4,Rn.nq h2] at h8;exact h8
 refine ⟨?_,fun h=>?_⟩
 ·rw [Bool.eq_iff_iff,Bool.and_eq_true,decide_eq_true_eq];constructor
  ·intro h;obtain ⟨a,b⟩:=tru h;refine ⟨znV (fun j _ hj=>Rn.rf (b j _ (hg j (by omega)))),?_⟩;refine List.ext_getElem? (fun j=>?_);unfold zaw;by_cases hj:j<k2
   ·rw [List.getElem?_map,List.getElem?_range hj,hg j (by omega)];exact congrArg some (Rn.nq (b j _ (hg j (by omega))))
   ·rw [List.getElem?_eq_none (by simp;omega),List.getElem?_eq_none (by omega)]
  ·rintro ⟨a,b⟩;have hl:p.length=k2:=by rw [<-b,zau]
   refine key.2 ⟨by omega,fun j hj=>?_⟩;have h2:=hE j _ (hg j (by omega));obtain ⟨b',o',_,_,h7⟩:=hZ j (by omega);have h8:=NmS.val (K:=65536) h7 (zhm a j (by omega) (by omega)) h7.2;have h9:p.getD j 0=nq (Z j):=by
    have e1:=hg j (by omega);rw [<-b] at e1;unfold zaw at e1;rw [List.getElem?_map,List.getElem?_range (by omega)] at e1;rw [<-b];exact (Option.some.inj e1).symm
   have:=(Rn.inj h2 h8).2 h9;exact sq_iff.2 this
 ·obtain ⟨a,b⟩:=tru h;refine ⟨fun j q e=>?_,by omega⟩;have hj:j<p.length:=(List.getElem?_eq_some_iff.1 e).1;obtain ⟨b',o',h1,h2,_⟩:=hZ j (by omega);exact ⟨b',o',Z j,h1,h2,b j q e⟩
def zdR (e1 e2:Int) (k2:Nat) (Z:Nat->Nm) (cs:List CV) (rs:List RV) (xs ys:List Rat):Bool:=(decide (e1=0) && zbT cs rs xs) && (decide (e2=0) && ((afB k2 Z && decide (zaw k2 Z=zaE rs ys 0 cs)) && arB cs rs xs ys (zaE rs ys 0 cs)))
theorem zih {w L M off cs rs a0 a1 a2 k0 c0 k1 c1 k2 c2 X Y Z xs ys e1 e2} (hW:MoW w M) (hx:Rl w a0 k0 X) (hy:Rl w a1 k1 Y) (hz:Rl w a2 k2 Z) (hk0:k0<=1048576) (hk1:k1<=1048576) (hk2:k2<=1048576) (he1:zcm M k0 X=e1) (he2:zcQ M k1 Y=e2) (hv1:e1=0->MoV L w M off cs rs/\zbo cs rs=true/\Rf L w a0 xs/\xs.length=k0/\k0=cs.length) (hv2:e2=0->MoV L w M off cs rs/\zbo cs rs=true/\Rf L w a1 ys/\ys.length=k1/\k1=rs.length) (hL:L<=30) :
  Calls prog 17 #[M.val,.agg #[.slice a0 k0 c0,.slice a1 k1 c1,.slice a2 k2 c2]] w fun e w'=>e=.returned (.tuple #[.bool (decide (zar M=0) && zdR e1 e2 k2 Z cs rs xs ys),.int .i64 (zar M)])/\Bl w w':=by
 have CC:=zk (fun W (hW2:Bl w W)=>zhh (hW.q_ hW2));have CF:=zk (fun W (hW2:Bl w W)=>zoV (cap:=c0) (hW.q_ hW2) (hx.q_ hW2) hk0 he1 (fun h=>by obtain ⟨v1,v2,v3,v4,v5⟩:=hv1 h;exact ⟨v1.q_ hW2,v2,v3.q_ hW2,v4,v5⟩) hL);have CR:=zk (fun W (hW2:Bl w W)=>zdg (cap:=c1) (hW.q_ hW2) (hy.q_ hW2) hk1 he2 (fun h=>by obtain ⟨v1,v2,v3,v4,v5⟩:=hv2 h;exact ⟨v1.q_ hW2,v2,v3.q_ hW2,v4,v5⟩) hL);have CA:Hid (∀W,Bl w W->e1=0->e2=0->Rf (KV L) W a2 (zaE rs ys 0 cs)->(zaE rs ys 0 cs).length=k2->Calls prog 50 #[M.val,.agg #[.slice a0 k0 c0,.slice a1 k1 c1,.slice a2 k2 c2]] W fun e w2=>e=.returned (.bool (arB cs rs xs ys (zaE rs ys 0 cs)))/\Bl W w2):=fun W hW2 g1 g2 hr hl=>by
  obtain ⟨v1,v2,v3,v4,v5⟩:=hv1 g1;obtain ⟨_,_,u3,u4,u5⟩:=hv2 g2;exact zjm (hW.q_ hW2) (hx.q_ hW2) hk0 (he1.trans g1) (v1.q_ hW2) v2 (v3.q_ hW2) v4 v5 (u3.q_ hW2) u4 u5 hr hl (by rw [<-hl,zbb]) hL
 have HCL:Hid (e2=0->cs.length<=64):=fun g=>by obtain ⟨_,v2,_⟩:=hv2 g;exact (zbA v2).cl
 have HZ:=zk hz;clear hW hx hy hz he1 he2 hv1 hv2;obtain ⟨e0,he0⟩:∃e,zar M=e:=⟨_,rfl⟩;rw [he0] at CC ⊢;clear he0;obtain ⟨fs,hfs⟩:∃t,(decide (e1=0) && zbT cs rs xs)=t:=⟨_,rfl⟩;rw [hfs] at CF;have HFS:=zk hfs;clear hfs;have HLn:=zk (zbb rs ys cs 0);obtain ⟨zs,hzs⟩:∃t,zaE rs ys 0 cs=t:=⟨_,rfl⟩;unfold ziy at CR;rw [hzs] at CR CA HLn;have HZS:=zk hzs;clear hzs;obtain ⟨ar,har⟩:∃t,arB cs rs xs ys zs=t:=⟨_,rfl⟩;rw [har] at CA;have HAR:=zk har;clear har;obtain ⟨⟨s,x,n,c,f,y,m,d,g⟩,ca,ck,cc,C,ra,rk,rc,R⟩:=M;replace CC:Hid (∀W,Bl w W->Calls prog 28 #[.agg #[.bool s,.slice x n c,.slice y m d,.slice ca ck cc,.slice ra rk rc]] W fun r w'=>r=.returned (.int .i64 e0)/\Bl W w'):=CC;replace CF:Hid (∀W,Bl w W->Calls prog 47 #[.agg #[.bool s,.slice x n c,.slice y m d,.slice ca ck cc,.slice ra rk rc],.slice a0 k0 c0] W fun e w'=>e=.returned (.tuple #[.bool fs,.int .i64 e1])/\Bl W w'):=CF;replace CR:Hid (∀W,Bl w W->Calls prog 8 #[.agg #[.bool s,.slice x n c,.slice y m d,.slice ca ck cc,.slice ra rk rc],.slice a1 k1 c1] W fun e w'=>Bl W w'/\((e2≠0/\e=.returned (.tuple #[.slice none 0 0,.int .i64 e2]))∨(e2=0/\∃a c,e=.returned (.tuple #[.slice a cs.length c,.int .i64 0])/\(cs.length<=c/\c<=9223372036854775807)/\Rf (KV L) w' a zs))):=CR;replace CA:Hid (∀W,Bl w W->e1=0->e2=0->Rf (KV L) W a2 zs->zs.length=k2->Calls prog 50 #[.agg #[.bool s,.slice x n c,.slice y m d,.slice ca ck cc,.slice ra rk rc],.agg #[.slice a0 k0 c0,.slice a1 k1 c1,.slice a2 k2 c2]] W fun e w2=>e=.returned (.bool ar)/\Bl W w2):=CA;show Calls prog 17 #[.agg #[.bool s,.slice x n c,.slice y m d,.slice ca ck cc,.slice ra rk rc],.agg #[.slice a0 k0 c0,.slice a1 k1 c1,.slice a2 k2 c2]] w _;have hb:=zu (zB w (.cells #[.bool s,.slice x n c,.slice y m d,.slice ca ck cc,.slice ra rk rc] 28)) (.cells #[.slice a0 k0 c0,.slice a1 k1 c1,.slice a2 k2 c2] 50);have BM:=zk ((zD w [.bool s,.slice x n c,.slice y m d,.slice ca ck cc,.slice ra rk rc] 28).q_ (zB _ (.cells #[.slice a0 k0 c0,.slice a1 k1 c1,.slice a2 k2 c2] 50)));have BP:=zin w (.cells #[.bool s,.slice x n c,.slice y m d,.slice ca ck cc,.slice ra rk rc] 28) [.slice a0 k0 c0,.slice a1 k1 c1,.slice a2 k2 c2] 50;have HB:=zk hb;replace BP:=zk BP
 clear hb;go_enter func17,ntmps17;go_upto_region 1 with fail
 generalize ((w.alloc (.cells #[.bool s,.slice x n c,.slice y m d,.slice ca ck cc,.slice ra rk rc] 28)).alloc (.cells #[.slice a0 k0 c0,.slice a1 k1 c1,.slice a2 k2 c2] 50))=w1 at *;obtain ⟨r0,r1,r2,r3,r4⟩:=bk5 BM.out;go_wp2_with fail
 clear r0 r1 r2 r3 r4
 go_at_call 28
 refine (CC.out _ HB.out).mono ?_;rintro e w2 ⟨rfl,hb2⟩;replace HB:=zL HB hb2;replace BM:=zk (BM.out.q_ hb2);replace BP:=zk (BP.out.q_ hb2)
 clear hb2;clear CC;by_cases h0:e0=0
 case neg =>
  have h1:(e0 != 0)=true:=by simpa using h0
  have HE:Hid (decide (e0=0)=false):=decide_eq_false h0;clear h0 CF CR CA;go_wp2
  go_ret2
  exact ⟨by rw [HE.out];rfl,HB.out⟩
 subst h0;obtain ⟨r0,r1,r2,r3,r4⟩:=bk5 BM.out;obtain ⟨p0,p1,p2⟩:=bk3 BP.out;go_wp2_with fail
 clear r0 r1 r2 r3 r4 p0 p1 p2
 go_at_call 47
 refine (CF.out _ HB.out).mono ?_;rintro e w3 ⟨rfl,hb3⟩;replace HB:=zL HB hb3;replace BM:=zk (BM.out.q_ hb3);replace BP:=zk (BP.out.q_ hb3)
 clear hb3;clear CF;obtain ⟨r0,r1,r2,r3,r4⟩:=bk5 BM.out;obtain ⟨p0,p1,p2⟩:=bk3 BP.out;go_wp2_with fail
 clear r0 r1 r2 r3 r4 p0 p1 p2
 go_at_call 8
 refine (CR.out _ HB.out).mono ?_;clear CR;rintro e w4 ⟨hb4,⟨h9,rfl⟩ | ⟨h9,aa,ac,rfl,hca,hrf⟩⟩
 ·replace HB:=zL HB hb4;replace BM:=zk (BM.out.q_ hb4);replace BP:=zk (BP.out.q_ hb4)
  clear hb4;have h1:(e2 != 0)=true:=by simpa using h9
  have HE:Hid (zdR e1 e2 k2 Z cs rs xs ys=false):=by show _=_;unfold zdR;rw [decide_eq_false h9];simp
  clear h9 CA HZ;cases fs
  ·go_wp2
   go_ret2
   exact ⟨by rw [HE.out];rfl,HB.out⟩
  ·go_wp2
   go_ret2
   exact ⟨by rw [HE.out];rfl,HB.out⟩
 ·replace HB:=zL HB hb4;replace BM:=zk (BM.out.q_ hb4);replace BP:=zk (BP.out.q_ hb4)
  clear hb4;subst h9;have HRF:=zk hrf;have hcl:=HCL.out rfl;clear hrf HCL;cases fs
  case false =>
   have HE:Hid (zdR e1 0 k2 Z cs rs xs ys=false):=by show _=_;unfold zdR;rw [HFS.out];simp
   clear CA HZ HRF;go_wp2
   go_ret2
   exact ⟨by rw [HE.out];rfl,HB.out⟩
  have HE1:Hid (e1=0):=by have h:=HFS.out;rw [Bool.and_eq_true,decide_eq_true_eq] at h;exact h.1
  obtain ⟨E,hE⟩:=zpO HRF.out;have CE:Hid (∀W,Bl w4 W->Calls prog 48 #[.slice aa cs.length ac,.slice a2 k2 c2,.func (.func 49) #[] #[]] W fun e w9=>e=.returned (.bool (eqfB sqB cs.length k2 E Z))/\Bl W w9):=fun W hW2=>by
   have hb9:=bUp HB.out hW2;refine zjk (fun j hj=>?_) (HZ.out.q_ hb9).cs (by omega) hk2;obtain ⟨q,hq⟩:∃t,zs[j]?=some t:=⟨_,getElem?_eq_getElem (by have:=HLn.out;omega)⟩;obtain ⟨⟨b,o,h1,h2⟩,h3⟩:=hE j q hq;refine ⟨b,o,h1,fun i v e=>?_,(NmV.nms (NmV.q_ h3 hW2) (by unfold KV;omega)).1⟩;replace h2:=C3.q_ h2 hW2
   match i,e with
   | 0,e=>cases e;exact h2.x0
   | 1,e=>cases e;exact h2.x1
   | 2,e=>cases e;exact h2.x2
   | i+3,e=>cases e
  have hz9:=fun W (hW2:Bl w W)=>zrs (L:=KV L) (k:=cs.length) (E:=E) HLn.out (fun j q e=>(hE j q e).2) (HZ.out.q_ hW2)
  have HZ9:=zk hz9;have HQ:=zk (hz9 w (Below.refl _ _)).1;clear hE hz9 HZ;obtain ⟨qe,hqe⟩:∃t,eqfB sqB cs.length k2 E Z=t:=⟨_,rfl⟩;rw [hqe] at CE HQ;have HQE:=zk hqe;clear hqe;have p2:=BP.out.cell (j:=2) rfl;go_wp2_with fail
  clear p2
  go_at_call 48
  refine (CE.out _ (Below.refl _ _)).mono ?_;rintro e w5 ⟨rfl,hb5⟩;replace HB:=zL HB hb5;replace BM:=zk (BM.out.q_ hb5);replace BP:=zk (BP.out.q_ hb5)
  clear hb5;clear CE;cases qe
  case false =>
   have HE:Hid (zdR e1 0 k2 Z cs rs xs ys=false):=by show _=_;unfold zdR;rw [HZS.out,<-HQ.out];simp
   clear CA HRF;go_wp2
   go_ret2
   exact ⟨by rw [HE.out];rfl,HB.out⟩
  have HE:Hid (zdR e1 0 k2 Z cs rs xs ys=ar):=by show _=_;unfold zdR;rw [HZS.out,<-HQ.out,HFS.out,HAR.out];simp
  obtain ⟨g1,g2⟩:=(HZ9.out _ HB.out).2 HQE.out;have CA2:=zk (CA.out _ HB.out HE1.out (by first | rfl | trivial) g1 g2);clear CA g1 g2 HZ9 HQ HQE HRF;obtain ⟨r0,r1,r2,r3,r4⟩:=bk5 BM.out;obtain ⟨p0,p1,p2⟩:=bk3 BP.out;go_wp2_with fail
  clear r0 r1 r2 r3 r4 p0 p1 p2
  go_at_call 50
  refine CA2.out.mono ?_;rintro e w6 ⟨rfl,hb6⟩;replace HB:=zL HB hb6;replace BM:=zk (BM.out.q_ hb6);replace BP:=zk (BP.out.q_ hb6)
  clear hb6;go_wp2
  go_ret2
  exact ⟨by rw [HE.out];rfl,HB.out⟩
theorem zeW {L w ao p} (h:Rf L w ao p) (hL:L<=65536):∃E,Rl w ao p.length E/\afB p.length E=true/\zaw p.length E=p:=by
 obtain ⟨E,hE⟩:=zpO h;have hg:∀j,j<p.length->p[j]?=some (p.getD j 0):=fun j hj=>by rw [List.getD_eq_getElem?_getD,getElem?_eq_getElem hj];rfl
 refine ⟨E,fun j hj=>?_,znV (fun j _ hj=>(NmV.nms (hE j _ (hg j (by omega))).2 hL).2),?_⟩
 ·obtain ⟨⟨b,o,h1,h2⟩,h3⟩:=hE j _ (hg j hj);exact ⟨b,o,h1,h2,(NmV.nms h3 hL).1⟩
 ·refine List.ext_getElem? (fun j=>?_);unfold zaw;by_cases hj:j<p.length
  ·rw [List.getElem?_map,List.getElem?_range hj,hg j hj];exact congrArg some (Rn.nq (hE j _ (hg j hj)).2)
  ·rw [List.getElem?_eq_none (by simp;omega),List.getElem?_eq_none (by omega)]
theorem zqX {k X z} (h:afB k X=true) (e:(k:Int)=z):pnE k X z=0:=by unfold pnE;rw [if_pos h,if_pos e]
theorem zeJ {M k X} (h:zar M=0) (h0:afB k X=true) (e0:k=M.rk):zcQ M k X=0:=by
 subst e0;unfold zcQ;rw [h,zqX h0 rfl];rfl
theorem zjl {w L M off cs rs a1 k1 c1 ys} (h:MoV L w M off cs rs) (ho:zbo cs rs=true) (hy:Rf L w a1 ys) (l1:ys.length=k1) (q1:k1=rs.length) (hL:L<=30):Calls prog 8 #[M.val,.slice a1 k1 c1] w fun e w'=>ziy L w w' e 0 cs rs ys:=by
 obtain ⟨h1,h2⟩:=h.chk (by omega) ho;have mp:=zbA ho;have hcl:=mp.cl;have hrl:=mp.rl
 obtain ⟨Y,y1,z1,_⟩:=zeW hy (by omega);rw [l1] at y1 z1;have he:zcQ M k1 Y=0:=zeJ h1 z1 (by rw [h.rk];exact q1);exact zdg (fun _ _=>h2) y1 (by omega) he (fun _=>⟨h,ho,hy,l1,q1⟩) hL
theorem zii {w L M off cs rs a1 k1 c1 ys} (h:MoV L w M off cs rs) (ho:zbo cs rs=true) (hy:Rf L w a1 ys) (l1:ys.length=k1) (q1:k1=rs.length) (hL4:4<=L) (hL:L<=8):Calls prog 13 #[M.val,.slice a1 k1 c1] w fun e w'=>zqe L w w' e 0 (bnP off cs rs ys):=by
 obtain ⟨h1,h2⟩:=h.chk (by omega) ho;have mp:=zbA ho;have hcl:=mp.cl;have hrl:=mp.rl
 obtain ⟨Y,y1,z1,_⟩:=zeW hy (by omega);rw [l1] at y1 z1;have he:zcQ M k1 Y=0:=zeJ h1 z1 (by rw [h.rk];exact q1);exact znG (fun _ _=>h2) y1 (by omega) he (fun _=>⟨h,ho,hy,l1,q1⟩) hL4 hL
theorem znF {w L M off cs rs a1 k1 c1 ys a0 a2 k0 c0 k2 c2 xs zs} (h:MoV L w M off cs rs) (ho:zbo cs rs=true) (hy:Rf L w a1 ys) (l1:ys.length=k1) (q1:k1=rs.length) (hx:Rf L w a0 xs) (l0:xs.length=k0) (q0:k0=cs.length) (hz:Rf L w a2 zs) (l2:zs.length=k2) (hk2:k2<=1000) (hL:L<=30) :
  Calls prog 17 #[M.val,.agg #[.slice a0 k0 c0,.slice a1 k1 c1,.slice a2 k2 c2]] w fun e w'=>e=.returned (.tuple #[.bool (zbT cs rs xs && (decide (zs=zaE rs ys 0 cs) && arB cs rs xs ys (zaE rs ys 0 cs))),.int .i64 0])/\Bl w w':=by
 obtain ⟨h1,h2⟩:=h.chk (by omega) ho;have mp:=zbA ho;have hcl:=mp.cl;have hrl:=mp.rl
 obtain ⟨Y,y1,z1,_⟩:=zeW hy (by omega);rw [l1] at y1 z1;have he:zcQ M k1 Y=0:=zeJ h1 z1 (by rw [h.rk];exact q1);obtain ⟨X,y0,z0,_⟩:=zeW hx (by omega);rw [l0] at y0 z0;obtain ⟨Z,y2,z2,p2⟩:=zeW hz (by omega);rw [l2] at y2 z2 p2;have he0:zcm M k0 X=0:=zkc h1 z0 (by rw [h.ck];exact q0);have:=zih (c0:=c0) (c1:=c1) (c2:=c2) (fun _ _=>h2) y0 y1 y2 (by omega) (by omega) (by omega) he0 he (fun _=>⟨h,ho,hx,l0,q0⟩) (fun _=>⟨h,ho,hy,l1,q1⟩) hL;rw [h1] at this;unfold zdR at this;rw [z2,p2] at this;simpa using this
theorem zkm:zbo k2C k2R=true:=by decide +kernel
theorem zsf:zaE k2R [((-1:Int):Rat)/2] 0 k2C=[((-1:Int):Rat)/2,((0:Int):Rat)]:=by decide +kernel
theorem k2_b1:smI (bnP 3 k2C k2R [((-1:Int):Rat)/2])=0/\smQ (bnP 3 k2C k2R [((-1:Int):Rat)/2])=((-2:Int):Rat):=by decide +kernel
theorem zsg:smI (bnP 3 k2C k2R [((1:Int):Rat)])=-1:=by decide +kernel
theorem k2_h:(zbT k2C k2R [((4:Int):Rat),((1:Int):Rat)] && (decide ([((-1:Int):Rat)/2,((0:Int):Rat)]=zaE k2R [((-1:Int):Rat)/2] 0 k2C) && arB k2C k2R [((4:Int):Rat),((1:Int):Rat)] [((-1:Int):Rat)/2] (zaE k2R [((-1:Int):Rat)/2] 0 k2C)))=true:=by decide +kernel
theorem zlE (w:World):Calls prog 5 #[] w fun e w'=>e=.returned (.bool true)/\Bl w w':=by
 have HB:=zk (Below.refl w.heap.size w);go_enter func5,ntmps5;go_wp2_with fail
 refine first11_c.mono ?_;rintro e v1 ⟨⟨⟨sm,xm,nm,cm,fm,ym,mm,dm,gm⟩,cam,ckm,ccm,Cm,ram,rkm,rcm,Rm⟩,rfl,hb,HM⟩;replace HB:=zL HB hb;clear hb;go_wp2_with fail
 refine (zcv (z:=-1) (by decide) (by decide) zhM).mono ?_;rintro e v2 ⟨sh,xh,nh,ch,fh,yh,mh,dh,gh,rfl,hb,hr⟩;have hn:=zB v2 (.cells #[.bool sh,.slice xh nh ch,.slice yh mh dh] 24);have hbn:=bUp hb hn;replace HB:=zL HB hbn;replace HM:=zk (HM.out.q_ hbn)
 have HX:=zk (show Rf 8 (v2.alloc (.cells #[.bool sh,.slice xh nh ch,.slice yh mh dh] 24)) (some ⟨v2.heap.size,0,none⟩) [((-1:Int):Rat)/2] from (zgU (base:=0) (hr.out.mono (by decide)) (Nat.zero_le _)).rf);clear hb hr hn hbn;go_wp2_with fail
 generalize v2.alloc (.cells #[.bool sh,.slice xh nh ch,.slice yh mh dh] 24)=vvv2 at *;generalize v2.heap.size=ppv2 at *;refine (zjl (L:=8) HM.out zkm HX.out rfl rfl (by decide)).mono ?_;rintro e v3 ⟨hb,⟨h9,_⟩ | ⟨_,za,zc,rfl,_,hrf⟩⟩
 ·exact absurd rfl h9
 rw [zsf] at hrf;rw [show k2C.length=2 from rfl];have HZ:=zk hrf;replace HB:=zL HB hb;clear hb hrf HM HX;go_wp2_with fail
 refine first11_c.mono ?_;rintro e v4 ⟨⟨⟨sm,xm,nm,cm,fm,ym,mm,dm,gm⟩,cam,ckm,ccm,Cm,ram,rkm,rcm,Rm⟩,rfl,hb,HM⟩;replace HB:=zL HB hb;replace HZ:=zk (HZ.out.q_ hb)
 clear hb;go_wp2_with fail
 refine (zcv (z:=-1) (by decide) (by decide) zhM).mono ?_;rintro e v5 ⟨sh,xh,nh,ch,fh,yh,mh,dh,gh,rfl,hb,hr⟩;have hn:=zB v5 (.cells #[.bool sh,.slice xh nh ch,.slice yh mh dh] 24);have hbn:=bUp hb hn;replace HB:=zL HB hbn;replace HZ:=zk (HZ.out.q_ hbn);replace HM:=zk (HM.out.q_ hbn)
 have HX:=zk (show Rf 8 (v5.alloc (.cells #[.bool sh,.slice xh nh ch,.slice yh mh dh] 24)) (some ⟨v5.heap.size,0,none⟩) [((-1:Int):Rat)/2] from (zgU (base:=0) (hr.out.mono (by decide)) (Nat.zero_le _)).rf);clear hb hr hn hbn;go_wp2_with fail
 generalize v5.alloc (.cells #[.bool sh,.slice xh nh ch,.slice yh mh dh] 24)=vvv5 at *;generalize v5.heap.size=ppv5 at *;refine (zii (L:=8) HM.out zkm HX.out rfl rfl (by decide) (by decide)).mono ?_;rintro e v6 ⟨hb,⟨h9,_⟩ | ⟨_,sb,xb,nb,cb,fb,yb,mb,db,gb,rfl,hen⟩⟩
 ·exact absurd rfl h9
 rw [k2_b1.1] at hen ⊢;rw [k2_b1.2] at hen;have hn:=zB v6 (.cells #[.int .i64 0,.bool sb,.slice xb nb cb,.slice yb mb db] 42);have hbn:=bUp hb hn;replace HB:=zL HB hbn;replace HZ:=zk (HZ.out.q_ hbn)
 have Bb:=zk (zD v6 [.int .i64 0,.bool sb,.slice xb nb cb,.slice yb mb db] 42);have Hb:=zk (Rn.q_ hen.rn hn);clear hb hen hn hbn HM HX;go_wp2_with fail
 generalize v6.alloc (.cells #[.int .i64 0,.bool sb,.slice xb nb cb,.slice yb mb db] 42)=vvv6 at *;generalize v6.heap.size=bxb at *;refine first11_c.mono ?_;rintro e v7 ⟨⟨⟨sm,xm,nm,cm,fm,ym,mm,dm,gm⟩,cam,ckm,ccm,Cm,ram,rkm,rcm,Rm⟩,rfl,hb,HM⟩;replace HB:=zL HB hb;replace HZ:=zk (HZ.out.q_ hb);replace Bb:=zk (Bb.out.q_ hb);replace Hb:=zk (Hb.out.q_ hb)
 clear hb;go_wp2_with fail
 refine (zbi (z:=1) (by decide) (by decide)).mono ?_;rintro e v8 ⟨sh,xh,nh,ch,fh,yh,mh,dh,gh,rfl,hb,hr⟩;have hn:=zB v8 (.cells #[.bool sh,.slice xh nh ch,.slice yh mh dh] 24);have hbn:=bUp hb hn;replace HB:=zL HB hbn;replace HZ:=zk (HZ.out.q_ hbn);replace Bb:=zk (Bb.out.q_ hbn);replace Hb:=zk (Hb.out.q_ hbn);replace HM:=zk (HM.out.q_ hbn)
 have HX:=zk (show Rf 8 (v8.alloc (.cells #[.bool sh,.slice xh nh ch,.slice yh mh dh] 24)) (some ⟨v8.heap.size,0,none⟩) [((1:Int):Rat)] from (zgU (base:=0) (hr.mono (by decide)) (Nat.zero_le _)).rf);clear hb hr hn hbn;go_wp2_with fail
 generalize v8.alloc (.cells #[.bool sh,.slice xh nh ch,.slice yh mh dh] 24)=vvv8 at *;generalize v8.heap.size=ppv8 at *;refine (zii (L:=8) HM.out zkm HX.out rfl rfl (by decide) (by decide)).mono ?_;rintro e v9 ⟨hb,⟨h9,_⟩ | ⟨_,sc,xc,nc,cc,fc,yc,mc,dc,gc,rfl,hen⟩⟩
 ·exact absurd rfl h9
 rw [zsg] at hen ⊢;have hn:=zB v9 (.cells #[.int .i64 (-1),.bool sc,.slice xc nc cc,.slice yc mc dc] 42);have hbn:=bUp hb hn;replace HB:=zL HB hbn;replace HZ:=zk (HZ.out.q_ hbn);replace Bb:=zk (Bb.out.q_ hbn);replace Hb:=zk (Hb.out.q_ hbn)
 have Bc:=zk (zD v9 [.int .i64 (-1),.bool sc,.slice xc nc cc,.slice yc mc dc] 42);clear hb hen hn hbn HM HX;go_wp2_with fail
 generalize v9.alloc (.cells #[.int .i64 (-1),.bool sc,.slice xc nc cc,.slice yc mc dc] 42)=vvv9 at *;generalize v9.heap.size=bxc at *;refine first11_c.mono ?_;rintro e v10 ⟨⟨⟨sm,xm,nm,cm,fm,ym,mm,dm,gm⟩,cam,ckm,ccm,Cm,ram,rkm,rcm,Rm⟩,rfl,hb,HM⟩;replace HB:=zL HB hb;replace HZ:=zk (HZ.out.q_ hb);replace Bb:=zk (Bb.out.q_ hb);replace Hb:=zk (Hb.out.q_ hb);replace Bc:=zk (Bc.out.q_ hb)
 clear hb;go_wp2_with fail
 refine best11_c.mono ?_;rintro e v11 ⟨ax,ay,az,rfl,hb,hr⟩;replace HB:=zL HB hb;replace HZ:=zk (HZ.out.q_ hb);replace Bb:=zk (Bb.out.q_ hb);replace Hb:=zk (Hb.out.q_ hb);replace Bc:=zk (Bc.out.q_ hb);replace HM:=zk (HM.out.q_ hb)
 have HP:=zk hr.out;clear hb hr;go_wp2_with fail
 refine (znF (L:=8) HM.out zkm HP.out.2.1 rfl rfl HP.out.1 rfl rfl HP.out.2.2 rfl (by decide) (by decide)).mono ?_;rintro e w5 ⟨rfl,hb⟩;rw [k2_h];replace HB:=zL HB hb;replace HZ:=zk (HZ.out.q_ hb);replace Bb:=zk (Bb.out.q_ hb);replace Hb:=zk (Hb.out.q_ hb);replace Bc:=zk (Bc.out.q_ hb)
 clear hb HM HP;go_upto_region 5 with fail
 obtain ⟨zb,zo,⟨s,x,n,c,f,y,m,d,g⟩,hb1,⟨p0,p1,p2⟩,hr⟩:=HZ.out 0 _ rfl;subst hb1;replace p0:w5.cell? ⟨zb,zo,none⟩=some (.bool s):=p0;replace p1:w5.cell? ⟨zb,zo+1,none⟩=some (.slice x n c):=p1;replace p2:w5.cell? ⟨zb,zo+2,none⟩=some (.slice y m d):=p2;have HR:Hid (Rn (KV 8) w5 s x n c f y m d g (((-1:Int):Rat)/2)):=hr;clear hr HZ;have k0:=Bb.out.cell (j:=0) rfl;have k1:=Bb.out.cell (j:=1) rfl;have k2:=Bb.out.cell (j:=2) rfl;have k3:=Bb.out.cell (j:=3) rfl
 have j0:=Bc.out.cell (j:=0) rfl;have CD:=zk (fun W=>zcv (w:=W) (z:=-1) (by decide) (by decide) zhM);have CE:Hid (∀W,Calls prog 25 #[.int .i64 (-2)] W fun e w'=>∃s x n c f y m d g,e=.returned (.agg #[.int .i64 0,.bool s,.slice x n c,.slice y m d])/\Bl W w'/\Rn 8 w' s x n c f y m d g ((-2:Int):Rat)):=fun W=>(zeA (w:=W) (z:=-2) (by decide) (by decide)).mono (fun e w' ⟨v8,h1,h2,⟨i8,⟨s8,x8,n8,c8,f8,y8,m8,d8,g8⟩⟩,ev,hi8,hv⟩=>by replace hi8:i8=0:=hi8;subst hi8;exact ⟨s8,x8,n8,c8,f8,y8,m8,d8,g8,by rw [h1,ev];rfl,h2,hv⟩)
 have CS:Hid (∀W s2 x2 n2 c2 f2 y2 m2 d2 g2,Bl w5 W->Rn 4 W s2 x2 n2 c2 f2 y2 m2 d2 g2 (((-1:Int):Rat)/2)->Calls prog 24 #[.agg #[.bool s,.slice x n c,.slice y m d],.agg #[.bool s2,.slice x2 n2 c2,.slice y2 m2 d2]] W fun e w'=>e=.returned (.bool true)/\Bl W w'):=fun W s2 x2 n2 c2 f2 y2 m2 d2 g2 hW h2=>zfM (HR.out.q_ hW) h2 (by decide) (by decide)
 have CT:Hid (∀W s3 x3 n3 c3 f3 y3 m3 d3 g3,Bl w5 W->Rn 8 W s3 x3 n3 c3 f3 y3 m3 d3 g3 ((-2:Int):Rat)->Calls prog 15 #[.agg #[.int .i64 0,.bool sb,.slice xb nb cb,.slice yb mb db],.agg #[.int .i64 0,.bool s3,.slice x3 n3 c3,.slice y3 m3 d3]] W fun e w'=>e=.returned (.bool true)/\Bl W w'):=fun W s3 x3 n3 c3 f3 y3 m3 d3 g3 hW h2=>zlQ (fun V hV=>zfM (Rn.q_ (Rn.q_ Hb.out hW) hV) (Rn.q_ h2 hV) (by decide) (by decide))
 go_region_held3 (fun w'=>w'.cell? ⟨zb,zo,none⟩=some (.bool s)/\w'.cell? ⟨zb,zo+1,none⟩=some (.slice x n c)/\w'.cell? ⟨zb,zo+2,none⟩=some (.slice y m d)/\w'.cell? ⟨bxb,0,none⟩=some (.int .i64 0)/\w'.cell? ⟨bxb,1,none⟩=some (.bool sb)/\w'.cell? ⟨bxb,2,none⟩=some (.slice xb nb cb)/\w'.cell? ⟨bxb,3,none⟩=some (.slice yb mb db)/\w'.cell? ⟨bxc,0,none⟩=some (.int .i64 (-1)))
  (refine ⟨?_,?_,?_,?_,?_,?_,?_,?_⟩ <;> repeat (with_reducible first | assumption | refine kCd ?_ | refine kCb (by assumption) ?_))
  (first
   | (go_at_call 21;with_reducible refine (CD.out _).mono ?_;rintro e w6 ⟨s6,x6,n6,c6,f6,y6,m6,d6,g6,rfl,hb6,H6⟩)
   | (go_at_call 25;with_reducible refine (CE.out _).mono ?_;rintro e w8 ⟨s8,x8,n8,c8,f8,y8,m8,d8,g8,rfl,hb8,H8⟩;replace H8:=zk H8)
   | (go_at_call 24;with_reducible refine (CS.out _ s6 x6 n6 c6 f6 y6 m6 d6 g6 zW (H6.out.q_ zW)).mono ?_;rintro e w7 ⟨rfl,hb7⟩)
   | (go_at_call 15;with_reducible refine (CT.out _ s8 x8 n8 c8 f8 y8 m8 d8 g8 zW (H8.out.q_ zW)).mono ?_;rintro e w9 ⟨rfl,hb9⟩))
 all_goals
  have HB9:=zk (HB.out.trans ((show Bl w5 w9 from zW).mono HB.out.size));clear p0 p1 p2 k0 k1 k2 k3 j0 CD CS CE CT HR;go_wp2;go_ret;exact ⟨by first | rfl | simp,HB9.out⟩
structure Fr (F:Nat->Prop) (w w':World):Prop where
 os:w'.os=w.os
 tape:w'.tape=w.tape
 output:w'.output=w.output
 size:w.heap.size<=w'.heap.size
 block:∀k,k<w.heap.size->¬F k->w'.heap[k]?=w.heap[k]?
 kp:∀a k f,Rd .u64 w a k f->Rd .u64 w' a k f
theorem Fr.of {F w w'} (h:Bl w w'):Fr F w w':=⟨h.os,h.tape,h.output,h.size,fun k hk _=>h.block k hk,fun _ _ _ r=>r.kp (Kp.of_below h)⟩
theorem Fr.refl (F:Nat->Prop) (w:World):Fr F w w:=⟨rfl,rfl,rfl,le_refl _,fun _ _ _=>rfl,fun _ _ _ r=>r⟩
theorem Fr.trans {F w w1 w2} (h:Fr F w w1) (k:Fr F w1 w2):Fr F w w2 :=
 ⟨k.os.trans h.os,k.tape.trans h.tape,k.output.trans h.output,le_trans h.size k.size,fun j hj hn=>(k.block j (Nat.lt_of_lt_of_le hj h.size) hn).trans (h.block j hj hn),fun _ _ _ r=>k.kp _ _ _ (h.kp _ _ _ r)⟩
theorem Fr.rn {F w w' L s x n c f y m d g q} (h:Fr F w w') (r:Rn L w s x n c f y m d g q):Rn L w' s x n c f y m d g q :=
 ⟨⟨h.kp _ _ _ r.num.rd,r.num.lm,r.num.wf,r.num.cap,r.num.nil,r.num.val⟩,⟨h.kp _ _ _ r.den.rd,r.den.lm,r.den.wf,r.den.cap,r.den.nil,r.den.val⟩,r.ln,r.ld⟩
theorem Fr.imp {F G w w'} (h:Fr F w w') (hi:∀k,F k->G k):Fr G w w':=⟨h.os,h.tape,h.output,h.size,fun k hk hn=>h.block k hk (fun hf=>hn (hi k hf)),h.kp⟩
theorem Fr.q_ {F w0 w w'} (h0:Bl w0 w) (h:Fr F w w') (hF:∀k,F k->w0.heap.size<=k):Bl w0 w' :=
 ⟨h.os.trans h0.os,h.tape.trans h0.tape,h.output.trans h0.output,le_trans h0.size h.size,fun k hk=>(h.block k (Nat.lt_of_lt_of_le hk h0.size) (fun hf=>by have:=hF k hf;omega)).trans (h0.block k hk)⟩
theorem Fr.bk {F w w' B vs t} (h:Fr F w w') (hb:Bk w B vs t) (hn:¬F B):Bk w' B vs t:=(h.block B hb.lt hn).trans hb
theorem Fr.cell {F w w' b o v} (h:Fr F w w') (hn:¬F b) (hc:w.cell? ⟨b,o,none⟩=some v):w'.cell? ⟨b,o,none⟩=some v:=(World.cell?_of_block (a:=⟨b,o,none⟩) (h.block b (World.block_lt_of_cell? w _ hc) hn)).trans hc
theorem Tf.fr {F L w w' ao v} (h:Tf L w ao v) (hf:Fr F w w') (hn:∀b o,ao=some ⟨b,o,none⟩->¬F b):Tf L w' ao v:=fun j a q e=>by
 obtain ⟨b,o,t,h1,h2,h3⟩:=h j a q e;have hb:=hn b o h1;exact ⟨b,o,t,h1,⟨hf.cell hb h2.x0,hf.cell hb h2.x1,hf.cell hb h2.x2,hf.cell hb h2.x3⟩,hf.rn h3⟩
structure BV where
 q:Rat
 i:Int
 a:Rat
 up:Bool
 ts:List (Int × Rat)
theorem zfV {w w':World} {B o} (h:w'.heap[B]?=w.heap[B]?):w'.frozen? ⟨B,o,none⟩=w.frozen? ⟨B,o,none⟩:=by
 simp only [World.frozen?,h]
theorem Rk.fr {F w w' B n} (h:Rk w B n) (hf:Fr F w w') (hn:¬F B):Rk w' B n :=
 ⟨Nat.lt_of_lt_of_le h.z hf.size,fun o ho=>by obtain ⟨u,h1,h2⟩:=h.has o ho;exact ⟨u,hf.cell hn h1,h2⟩,fun o=>(zfV (hf.block B h.z hn)).trans (h.fz o)⟩
theorem Sx.fr {F w w' B s x n c y m d} (h:Sx w B s x n c y m d) (hf:Fr F w w') (hn:¬F B):Sx w' B s x n c y m d :=
 ⟨Nat.lt_of_lt_of_le h.z hf.size,hf.cell hn h.x0,hf.cell hn h.x1,hf.cell hn h.x2,fun o=>(zfV (hf.block B h.z hn)).trans (h.fz o)⟩
theorem Bk.sx {w B s x n c y m d t} (h:Bk w B [.bool s,.slice x n c,.slice y m d] t):Sx w B s x n c y m d:=⟨h.lt,h.cell (j:=0) rfl,h.cell (j:=1) rfl,h.cell (j:=2) rfl,h.frozen⟩
theorem Ob.sx {w B} (h:Ob w B):Sx w B false none 0 0 none 0 0:=⟨h.z,h.z0,h.z1,h.z2,h.zf⟩
theorem Ob.fr {F w w' B} (h:Ob w B) (hf:Fr F w w') (hn:¬F B):Ob w' B:=by
 have:=h.sx.fr hf hn;exact ⟨this.z,this.x0,this.x1,this.x2,this.fz⟩
theorem Rf.fr {F L w w' B o p} (h:Rf L w (some ⟨B,o,none⟩) p) (hf:Fr F w w') (hn:¬F B):Rf L w' (some ⟨B,o,none⟩) p:=fun j q e=>by
 obtain ⟨b,o',t,e1,h1,h2⟩:=h j q e;cases e1
 exact ⟨_,_,t,rfl,⟨hf.cell hn h1.x0,hf.cell hn h1.x1,hf.cell hn h1.x2⟩,hf.rn h2⟩
structure T4 (w:World) (b0 b1 b2 b3:Option Addr) (k0:Nat) (X0 Y0:Nat->Nm) (k1:Nat) (X1 Y1:Nat->Nm) (k2:Nat) (X2 Y2:Nat->Nm) (k3:Nat) (X3 Y3:Nat->Nm):Prop where
 t0:Tx w b0 k0 X0 Y0
 t1:Tx w b1 k1 X1 Y1
 t2:Tx w b2 k2 X2 Y2
 t3:Tx w b3 k3 X3 Y3
theorem T4.q_ {w w' b0 b1 b2 b3 k0 X0 Y0 k1 X1 Y1 k2 X2 Y2 k3 X3 Y3} (h:T4 w b0 b1 b2 b3 k0 X0 Y0 k1 X1 Y1 k2 X2 Y2 k3 X3 Y3) (hb:Bl w w'):T4 w' b0 b1 b2 b3 k0 X0 Y0 k1 X1 Y1 k2 X2 Y2 k3 X3 Y3:=⟨h.t0.q_ hb,h.t1.q_ hb,h.t2.q_ hb,h.t3.q_ hb⟩
theorem zcq (M:Mo):(rsOf M).length=M.rk:=by simp [rsOf]
theorem zlM {α β γ:Type} {f a b} {q:γ} (h:q ∈ List.zipWith f a b):∃(i:Nat) (x:α) (y:β),a[i]?=some x/\b[i]?=some y/\q=f x y:=by
 obtain ⟨i,hi⟩:=List.getElem?_of_mem h;rw [List.getElem?_zipWith] at hi;cases ha:a[i]? with
 | none=>rw [ha] at hi;cases hi
 | some x =>
  cases hb:b[i]? with
  | none=>rw [ha,hb] at hi;cases hi
  | some y=>rw [ha,hb] at hi;exact ⟨i,x,y,ha,hb,(Option.some.inj hi).symm⟩
theorem zqf {α β:Type} {a:List α} {b} {i:Nat} {t:α × β} (h:(a.zip b)[i]?=some t):a[i]?=some t.1/\b[i]?=some t.2:=List.getElem?_zip_eq_some.1 h
theorem zie {M k X} (h:zcQ M k X=0):zar M=0/\afB k X=true/\k=M.rk:=by
 obtain ⟨h1,h2⟩:=zhr h;refine ⟨h1,?_⟩;unfold pnE at h2;by_cases a:afB k X=true
 ·rw [if_pos a] at h2;by_cases b:k=M.rk
  ·exact ⟨a,b⟩
  ·rw [if_neg (by omega)] at h2;cases h2
 ·rw [if_neg a] at h2;cases h2
theorem znD {K w ao k X X' M M'} (h:TmK K w M M') (hx:Tx w ao k X X'):zcQ M' k X'=zcQ M k X:=by
 unfold zcQ;rw [h.1.chk,h.1.rk];unfold pnE;rw [show afB k X'=afB k X from zfy (fun j _ b=>hx.2 j (by omega))]
theorem zpB {K w ao k X X' M M'} (L:Nat) (hL:K<=L) (hK:K<=100) (h:TmK K w M M') (hN:MoN M) (hx:Tx w ao k X X') (hs:ShK K k X) (he:zcQ M k X=0):MoV L w M' (nq M.off) (csOf M) (rsOf M)/\zbo (csOf M) (rsOf M)=true/\Rf L w ao (zaw k X)/\(zaw k X).length=k/\k=(rsOf M).length:=by
 obtain ⟨h1,h2,h3⟩:=zie he;obtain ⟨a,b⟩:=h.valL L hL hK hN h1;exact ⟨a,b,(hx.valK hs h2).mono hL,zau _ _,by rw [zcq];exact h3⟩
def zfm (M:Mo) (k0:Nat) (X0:Nat->Nm) (k1:Nat) (X1:Nat->Nm) (k2:Nat) (X2:Nat->Nm):Bool:=decide (zar M=0) && zdR (zcm M k0 X0) (zcQ M k1 X1) k2 X2 (csOf M) (rsOf M) (zaw k0 X0) (zaw k1 X1)
theorem zlp {K w M M' a0 a1 a2 k0 c0 k1 c1 k2 c2 X0 X1 X2 Y0 Y1 Y2} (h:TmK K w M M') (hN:MoN M) (t0:Tx w a0 k0 X0 Y0) (t1:Tx w a1 k1 X1 Y1) (t2:Tx w a2 k2 X2 Y2) (s0:ShK K k0 X0) (s1:ShK K k1 X1) (s2:ShK K k2 X2) (hK:K<=30) :
  Calls prog 17 #[M'.val,.agg #[.slice a0 k0 c0,.slice a1 k1 c1,.slice a2 k2 c2]] w fun e w'=>e=.returned (.tuple #[.bool (zfm M k0 X0 k1 X1 k2 X2),.int .i64 (zar M)])/\Bl w w':=by
 have:=zih (c0:=c0) (c1:=c1) (c2:=c2) h.2.1 t0.1 t1.1 t2.1 (by have:=s0.1;omega) (by have:=s1.1;omega) (by have:=s2.1;omega) (zmS h t0) (znD h t1) (fun he=>zqA K (by omega) (by omega) h hN t0 s0 he) (fun he=>zpB K (by omega) (by omega) h hN t1 s1 he) hK;unfold zfm;rw [h.1.chk] at this;unfold zdR at this ⊢;rw [show afB k2 Y2=afB k2 X2 from zfy (fun j _ b=>t2.2 j (by omega)),zgH t2.2] at this;exact this
theorem zln {w a0 a1 a2 k0 c0 k1 c1 k2 c2 X0 X1 X2} (h0:Rr w a0 k0 X0) (h1:Rr w a1 k1 X1) (h2:Rr w a2 k2 X2) (b0:k0<=9223372036854775807) (b1:k1<=9223372036854775807) (b2:k2<=9223372036854775807) :
  Calls prog 16 #[.agg #[.slice a0 k0 c0,.slice a1 k1 c1,.slice a2 k2 c2]] w fun e w'=>e=.returned (.bool (lgL 8 k0 X0 && (lgL 8 k1 X1 && lgL 8 k2 X2)))/\Bl w w':=by
 have C0:Hid (∀W,Bl w W->Calls prog 7 #[.slice a0 k0 c0,.int .i64 8] W fun e w'=>e=.returned (.bool (lgL 8 k0 X0))/\Bl W w'):=fun W hW=>zdK 8 (h0.q_ hW) b0
 have C1:Hid (∀W,Bl w W->Calls prog 7 #[.slice a1 k1 c1,.int .i64 8] W fun e w'=>e=.returned (.bool (lgL 8 k1 X1))/\Bl W w'):=fun W hW=>zdK 8 (h1.q_ hW) b1
 have C2:Hid (∀W,Bl w W->Calls prog 7 #[.slice a2 k2 c2,.int .i64 8] W fun e w'=>e=.returned (.bool (lgL 8 k2 X2))/\Bl W w'):=fun W hW=>zdK 8 (h2.q_ hW) b2
 obtain ⟨p0,hp0⟩:∃p,lgL 8 k0 X0=p:=⟨_,rfl⟩;rw [hp0] at C0 ⊢;obtain ⟨p1,hp1⟩:∃p,lgL 8 k1 X1=p:=⟨_,rfl⟩;rw [hp1] at C1 ⊢;obtain ⟨p2,hp2⟩:∃p,lgL 8 k2 X2=p:=⟨_,rfl⟩;rw [hp2] at C2 ⊢;clear h0 h1 h2 hp0 hp1 hp2;have BK:=zk (zD w [.slice a0 k0 c0,.slice a1 k1 c1,.slice a2 k2 c2] 50);have HB:=zk (zB w (.cells #[.slice a0 k0 c0,.slice a1 k1 c1,.slice a2 k2 c2] 50));go_enter func16,ntmps16;have t0:=BK.out.cell (j:=0) rfl;go_wp2_with fail
 clear t0;generalize (w.alloc (.cells #[.slice a0 k0 c0,.slice a1 k1 c1,.slice a2 k2 c2] 50))=w0 at *;refine (C0.out _ HB.out).mono ?_;rintro e v0 ⟨rfl,hb⟩;replace HB:=zL HB hb;replace BK:=zk (BK.out.q_ hb)
 clear hb;cases p0
 ·go_wp2;go_ret;exact ⟨by simp,HB.out⟩
 have t1:=BK.out.cell (j:=1) rfl;go_wp2_with fail
 clear t1;refine (C1.out _ HB.out).mono ?_;rintro e v1 ⟨rfl,hb⟩;replace HB:=zL HB hb;replace BK:=zk (BK.out.q_ hb)
 clear hb;cases p1
 ·go_wp2;go_ret;exact ⟨by simp,HB.out⟩
 have t2:=BK.out.cell (j:=2) rfl;go_wp2_with fail
 clear t2;refine (C2.out _ HB.out).mono ?_;rintro e v2 ⟨rfl,hb⟩;replace HB:=zL HB hb;replace BK:=zk (BK.out.q_ hb)
 clear hb;go_wp2;go_ret;exact ⟨by simp,HB.out⟩
structure T3 (w:World) (b0 b1 b2:Option Addr) (k0:Nat) (X0 Y0:Nat->Nm) (k1:Nat) (X1 Y1:Nat->Nm) (k2:Nat) (X2 Y2:Nat->Nm):Prop where
 t0:Tx w b0 k0 X0 Y0
 t1:Tx w b1 k1 X1 Y1
 t2:Tx w b2 k2 X2 Y2
theorem T3.q_ {w w' b0 b1 b2 k0 X0 Y0 k1 X1 Y1 k2 X2 Y2} (h:T3 w b0 b1 b2 k0 X0 Y0 k1 X1 Y1 k2 X2 Y2) (hb:Bl w w'):T3 w' b0 b1 b2 k0 X0 Y0 k1 X1 Y1 k2 X2 Y2:=⟨h.t0.q_ hb,h.t1.q_ hb,h.t2.q_ hb⟩
theorem zmc {w K a0 a1 a2 k0 c0 k1 c1 k2 c2 X0 X1 X2} (h0:Rl w a0 k0 X0) (h1:Rl w a1 k1 X1) (h2:Rl w a2 k2 X2) (s0:ShK K k0 X0) (s1:ShK K k1 X1) (s2:ShK K k2 X2) (hK:K<=100) :
  Calls prog 18 #[.agg #[.slice a0 k0 c0,.slice a1 k1 c1,.slice a2 k2 c2]] w fun e w'=>∃b0 d0 Y0 b1 d1 Y1 b2 d2 Y2,e=.returned (.agg #[.slice b0 k0 d0,.slice b1 k1 d1,.slice b2 k2 d2])/\Bl w w'/\Hid (T3 w' b0 b1 b2 k0 X0 Y0 k1 X1 Y1 k2 X2 Y2) :=
 (zkW (c0:=c0) (c1:=c1) (c2:=c2) h0 h1 h2 (by have:=s0.1;omega) (by have:=s1.1;omega) (by have:=s2.1;omega) (fun j hj=>by have:=s0.2 j hj;omega) (fun j hj=>by have:=s1.2 j hj;omega) (fun j hj=>by have:=s2.2 j hj;omega)).mono fun e w' ⟨b0,d0,Y0,b1,d1,Y1,b2,d2,Y2,h1,h2,_,h4⟩=>⟨b0,d0,Y0,b1,d1,Y1,b2,d2,Y2,h1,h2,zk ⟨h4.out.1,h4.out.2.1,h4.out.2.2⟩⟩
structure HdP (M:Mo) (k0:Nat) (X0:Nat->Nm) (k1:Nat) (X1:Nat->Nm) (k2:Nat) (X2:Nat->Nm):Prop where
 ck:zar M=0
 px:zcm M k0 X0=0
 dy:zcQ M k1 X1=0
 fe:zbT (csOf M) (rsOf M) (zaw k0 X0)=true
 fz:afB k2 X2=true
 z:zaw k2 X2=zaE (rsOf M) (zaw k1 X1) 0 (csOf M)
 ar:arB (csOf M) (rsOf M) (zaw k0 X0) (zaw k1 X1) (zaE (rsOf M) (zaw k1 X1) 0 (csOf M))=true
theorem zps {M k0 k1 k2 X0 X1 X2}:zfm M k0 X0 k1 X1 k2 X2=true ↔ HdP M k0 X0 k1 X1 k2 X2:=by
 simp only [zfm,zdR,Bool.and_eq_true,decide_eq_true_eq];exact ⟨fun ⟨a,⟨b,c⟩,d,⟨e,f⟩,g⟩=>⟨a,b,d,c,e,f,g⟩,fun h=>⟨h.ck,⟨h.px,h.fe⟩,h.dy,⟨h.fz,h.z⟩,h.ar⟩⟩
theorem MoK.mono {K L M} (h:MoK K M) (hK:K<=L):MoK L M :=
 ⟨⟨le_trans h.off.1 hK,le_trans h.off.2 hK⟩,fun j hj=>by
  obtain ⟨⟨a,b⟩,⟨c,d⟩,e,f⟩:=h.c j hj;exact ⟨⟨le_trans a hK,le_trans b hK⟩,⟨le_trans c hK,le_trans d hK⟩,le_trans e hK,le_trans f hK⟩,fun j hj=>by
  obtain ⟨⟨a,b⟩,⟨c,d⟩,e,f⟩:=h.r j hj;exact ⟨⟨le_trans a hK,le_trans b hK⟩,⟨le_trans c hK,le_trans d hK⟩,e,fun p hp=>⟨le_trans (f p hp).1 hK,le_trans (f p hp).2 hK⟩⟩⟩
theorem zhT {cs rs xs ys zs} (lx:xs.length=cs.length) (ly:ys.length=rs.length) (lz:zs.length=cs.length):zej cs rs xs ys zs=true ↔ zbT cs rs xs=true/\zs=zaE rs ys 0 cs/\arB cs rs xs ys (zaE rs ys 0 cs)=true:=by
 have lr:=zbb rs ys cs 0;obtain ⟨ds,hds⟩:∃t,zaE rs ys 0 cs=t:=⟨_,rfl⟩;unfold zej;rw [hds] at lr ⊢;simp only [Bool.and_eq_true,allB_iff];refine and_congr_right fun _=>⟨fun ⟨h1,h2⟩=>?_,fun ⟨h1,h2⟩=>?_⟩
 ·have e:zs=ds:=by
   refine List.ext_getElem? fun j=>?_
   by_cases hj:j<cs.length
   ·have q1:=getElem?_eq_getElem (l:=cs) hj;have q2:=getElem?_eq_getElem (l:=ds) (show j<ds.length by omega);have q3:=getElem?_eq_getElem (l:=xs) (show j<xs.length by omega);have q4:=getElem?_eq_getElem (l:=zs) (show j<zs.length by omega);have:=h1 j hj;rw [zgR q1 q2 q3 q4] at this;simp only [Bool.and_eq_true,decide_eq_true_eq] at this;rw [q2,q4,this.1]
   ·rw [List.getElem?_eq_none (by omega),List.getElem?_eq_none (by omega)]
  refine ⟨e,?_⟩;subst e;simp only [arB,Bool.and_eq_true,List.all_eq_true,id];refine ⟨fun b hb=>?_,fun b hb=>?_⟩
  ·obtain ⟨i,v,y,hv,hy,rfl⟩:=zlM hb;have:=h2 i (List.getElem?_eq_some_iff.1 hv).1;rw [ziW hv hy] at this;rw [zbu,<-zcJ];exact this
  ·obtain ⟨i,v,t,hv,ht,rfl⟩:=zlM hb;obtain ⟨hz,hx⟩:=zqf ht;have:=h1 i (List.getElem?_eq_some_iff.1 hv).1;rw [zgR hv hz hx hz] at this;simp only [Bool.and_eq_true,decide_eq_true_eq] at this;exact this.2
 ·subst h1;simp only [arB,Bool.and_eq_true,List.all_eq_true,id] at h2;refine ⟨fun j hj=>?_,fun j hj=>?_⟩
  ·have q1:=getElem?_eq_getElem (l:=cs) hj;have q3:=getElem?_eq_getElem (l:=xs) (show j<xs.length by omega);have q4:=getElem?_eq_getElem (l:=zs) (show j<zs.length by omega);rw [zgR q1 q4 q3 q4,decide_eq_true rfl,Bool.true_and];exact h2.2 _ (mem_of_getElem? (zmx q1 q4 q3))
  ·have q1:=getElem?_eq_getElem (l:=rs) hj;have q3:=getElem?_eq_getElem (l:=ys) (show j<ys.length by omega);rw [ziW q1 q3,zcJ];exact h2.1 _ (mem_of_getElem? (zmw q1 q3))
theorem zlq {M k0 k1 k2 X Y Z} (h0:zar M=0):zfm M k0 X k1 Y k2 Z=(decide (k0=M.ck) && (decide (k2=M.ck) && (decide (k1=M.rk) && (afB k0 X && (afB k1 Y && (afB k2 Z && zej (csOf M) (rsOf M) (zaw k0 X) (zaw k1 Y) (zaw k2 Z))))))):=by
 rw [Bool.eq_iff_iff,zps];simp only [Bool.and_eq_true,decide_eq_true_eq];constructor
 ·intro h;obtain ⟨_,b,c⟩:=zhE h.px;obtain ⟨_,b',c'⟩:=zie h.dy;have hz:k2=M.ck:=by
   have:=congrArg List.length h.z;rw [zau,zbb,zbj] at this;exact this
  refine ⟨c,hz,c',b,b',h.fz,(zhT (by rw [zau,zbj];exact c) (by rw [zau,zcq];exact c') (by rw [zau,zbj];exact hz)).2 ⟨h.fe,h.z,h.ar⟩⟩
 ·rintro ⟨c,hz,c',b,b',b2,h⟩;obtain ⟨h1,h2,h3⟩:=(zhT (by rw [zau,zbj];exact c) (by rw [zau,zcq];exact c') (by rw [zau,zbj];exact hz)).1 h;exact ⟨h0,zkc h0 b c,zeJ h0 b' c',h1,b2,h2,h3⟩
theorem zpa {cs rs} (h:zbo cs rs=true):∀v ∈ rs,tsB cs.length (-1) v.ts=true:=fun v hv=>by
 simp only [zbo,Bool.and_eq_true,decide_eq_true_eq,List.all_eq_true] at h;exact (h.2.2.2.1 v hv).2.1
theorem zmI {w M a0 a1 a2 k0 c0 k1 c1 k2 c2 X Y Z} (hI:In8 w M) (h0:zar M=0) (hx:Rl w a0 k0 X) (sx:ShK 8 k0 X) (hy:Rl w a1 k1 Y) (sy:ShK 8 k1 Y) (hz:Rl w a2 k2 Z) (sz:ShK 8 k2 Z) :
  Calls prog 52 #[M.val,.agg #[.slice a0 k0 c0,.slice a1 k1 c1,.slice a2 k2 c2]] w fun e w'=>e=.returned (.bool (zfm M k0 X k1 Y k2 Z))/\Bl w w':=by
 obtain ⟨hv,hm⟩:=hI.val h0;have HP:=zk (zlq (k0:=k0) (X:=X) (k1:=k1) (Y:=Y) (k2:=k2) (Z:=Z) h0);have C0:=zk (fun W (hW:Bl w W)=>zgW (w:=W) (cap:=c0) (hx.q_ hW) (by have:=sx.1;omega) (fun j hj=>by have:=sx.2 j hj;omega));have C1:=zk (fun W (hW:Bl w W)=>zgW (w:=W) (cap:=c1) (hy.q_ hW) (by have:=sy.1;omega) (fun j hj=>by have:=sy.2 j hj;omega));have C2:=zk (fun W (hW:Bl w W)=>zgW (w:=W) (cap:=c2) (hz.q_ hW) (by have:=sz.1;omega) (fun j hj=>by have:=sz.2 j hj;omega));obtain ⟨b0,hb0⟩:∃e,afB k0 X=e:=⟨_,rfl⟩;have D0:=zk (fun (hb:b0=true) W (hW:Bl w W)=>zfq (cap:=c0) (hx.q_ hW) sx (hb0.trans hb));rw [hb0] at C0 HP;obtain ⟨b1,hb1⟩:∃e,afB k1 Y=e:=⟨_,rfl⟩;have D1:=zk (fun (hb:b1=true) W (hW:Bl w W)=>zfq (cap:=c1) (hy.q_ hW) sy (hb1.trans hb));rw [hb1] at C1 HP;obtain ⟨b2,hb2⟩:∃e,afB k2 Z=e:=⟨_,rfl⟩;have D2:=zk (fun (hb:b2=true) W (hW:Bl w W)=>zfq (cap:=c2) (hz.q_ hW) sz (hb2.trans hb));rw [hb2] at C2 HP;have CM:=zk (fun W (hW:Bl w W)=>zpy (hI.q_ hW) h0);have HT:=zbA hm;have HS:=zpa hm;obtain ⟨kk,hkk⟩:∃e,zej (csOf M) (rsOf M) (zaw k0 X) (zaw k1 Y) (zaw k2 Z)=e:=⟨_,rfl⟩;rw [hkk] at HP;have CK:Hid (k0=M.ck->k2=M.ck->k1=M.rk->∀W (M':Mo) a c a' c' a3 c3,MqV (2*8) W M' (nq M.off) (csOf M) (rsOf M)->Rqs (2*8) W a (zaw k0 X)->Rqs (2*8) W a' (zaw k1 Y)->Rqs (2*8) W a3 (zaw k2 Z)->Calls prog 91 #[M'.val,.slice a k0 c,.slice a' k1 c',.slice a3 k2 c3] W fun e w'=>e=.returned (.bool kk)/\Bl W w'):=fun e0 e2 e1 W M' a c a' c' a3 c3 g1 g2 g3 g4=>by
  have l0:(zaw k0 X).length=(csOf M).length:=by rw [zau,zbj];exact e0
  have l1:(zaw k1 Y).length=(rsOf M).length:=by rw [zau,zcq];exact e1
  have l2:(zaw k2 Z).length=(csOf M).length:=by rw [zau,zbj];exact e2
  have:=zqR (xc:=c) (yc:=c') (zc:=c3) (L:=8) g1 g2 g3 g4 l0 l1 l2 HT HS (by decide);rw [hkk,show (csOf M).length=k0 from by rw [zbj];exact e0.symm,show (rsOf M).length=k1 from by rw [zcq];exact e1.symm] at this;rw [show k2=k0 from e2.trans e0.symm];exact this
 obtain ⟨cs,hcs⟩:∃e,csOf M=e:=⟨_,rfl⟩;obtain ⟨rs,hrs⟩:∃e,rsOf M=e:=⟨_,rfl⟩;obtain ⟨of,hof⟩:∃e,nq M.off=e:=⟨_,rfl⟩;rw [hcs,hrs,hof] at CK;simp only [hcs,hrs,hof] at CM;obtain ⟨hh,hhe⟩:∃e,zfm M k0 X k1 Y k2 Z=e:=⟨_,rfl⟩;rw [hhe] at HP ⊢;clear hI h0 hx hy hz sx sy sz hv hm HT HS hkk hcs hrs hof hhe hb0 hb1 hb2;obtain ⟨⟨s,x,n,c,f,y,m,d,g⟩,ca,ck,cc,C,ra,rk,rc,R⟩:=M;replace CM:Hid (∀W,Bl w W->Calls prog 39 #[.agg #[.bool s,.slice x n c,.slice y m d,.slice ca ck cc,.slice ra rk rc]] W fun e w'=>∃M':Mo,e=.returned M'.val/\Bl W w'/\Hid (MqV (2*8) w' M' of cs rs)):=CM;replace CK:Hid (k0=ck->k2=ck->k1=rk->∀W (M':Mo) a c a' c' a3 c3,MqV (2*8) W M' of cs rs->Rqs (2*8) W a (zaw k0 X)->Rqs (2*8) W a' (zaw k1 Y)->Rqs (2*8) W a3 (zaw k2 Z)->Calls prog 91 #[M'.val,.slice a k0 c,.slice a' k1 c',.slice a3 k2 c3] W fun e w'=>e=.returned (.bool kk)/\Bl W w'):=CK;replace HP:Hid (hh=(decide (k0=ck) && (decide (k2=ck) && (decide (k1=rk) && (b0 && (b1 && (b2 && kk))))))):=HP;show Calls prog 52 #[.agg #[.bool s,.slice x n c,.slice y m d,.slice ca ck cc,.slice ra rk rc],.agg #[.slice a0 k0 c0,.slice a1 k1 c1,.slice a2 k2 c2]] w _;have HB:=zk (zu (zB w (.cells #[.bool s,.slice x n c,.slice y m d,.slice ca ck cc,.slice ra rk rc] 28)) (.cells #[.slice a0 k0 c0,.slice a1 k1 c1,.slice a2 k2 c2] 50));have BM:=zk ((zD w [.bool s,.slice x n c,.slice y m d,.slice ca ck cc,.slice ra rk rc] 28).q_ (zB _ (.cells #[.slice a0 k0 c0,.slice a1 k1 c1,.slice a2 k2 c2] 50)));have BA:=zk (zin w (.cells #[.bool s,.slice x n c,.slice y m d,.slice ca ck cc,.slice ra rk rc] 28) [.slice a0 k0 c0,.slice a1 k1 c1,.slice a2 k2 c2] 50);go_enter func52,ntmps52;go_upto_region 1 with fail
 generalize ((w.alloc (.cells #[.bool s,.slice x n c,.slice y m d,.slice ca ck cc,.slice ra rk rc] 28)).alloc (.cells #[.slice a0 k0 c0,.slice a1 k1 c1,.slice a2 k2 c2] 50))=v0 at *;by_cases h0:k0=ck
 case neg =>
  have q1:(((k0:Nat):Int) != ((ck:Nat):Int))=true:=bne_iff_ne.2 (by omega);have h9:hh=false:=by rw [HP.out,decide_eq_false h0];simp
  subst h9;obtain ⟨r0,r1,r2,r3,r4⟩:=bk5 BM.out;obtain ⟨t0,t1,t2⟩:=bk3 BA.out;go_wp2;go_ret;exact ⟨by first | rfl | simp,HB.out⟩
 have q5:(((k0:Nat):Int) != ((ck:Nat):Int))=false:=bne_eq_false_iff_eq.2 (by omega);by_cases h2:k2=ck
 case neg =>
  have q1:(((k2:Nat):Int) != ((ck:Nat):Int))=true:=bne_iff_ne.2 (by omega);have h9:hh=false:=by rw [HP.out,decide_eq_false h2];simp
  subst h9;obtain ⟨r0,r1,r2,r3,r4⟩:=bk5 BM.out;obtain ⟨t0,t1,t2⟩:=bk3 BA.out;go_wp2;go_ret;exact ⟨by first | rfl | simp,HB.out⟩
 have q6:(((k2:Nat):Int) != ((ck:Nat):Int))=false:=bne_eq_false_iff_eq.2 (by omega);by_cases h1:k1=rk
 case neg =>
  have q1:(((k1:Nat):Int) != ((rk:Nat):Int))=true:=bne_iff_ne.2 (by omega);have h9:hh=false:=by rw [HP.out,decide_eq_false h1];simp
  subst h9;obtain ⟨r0,r1,r2,r3,r4⟩:=bk5 BM.out;obtain ⟨t0,t1,t2⟩:=bk3 BA.out;go_wp2;go_ret;exact ⟨by first | rfl | simp,HB.out⟩
 have q7:(((k1:Nat):Int) != ((rk:Nat):Int))=false:=bne_eq_false_iff_eq.2 (by omega);replace HP:Hid (hh=(b0 && (b1 && (b2 && kk)))):=by
  show _=_;rw [HP.out,decide_eq_true h0,decide_eq_true h1,decide_eq_true h2];rfl
 replace CK:=zk (CK.out h0 h2 h1);clear h0 h1 h2;obtain ⟨r0,r1,r2,r3,r4⟩:=bk5 BM.out;obtain ⟨t0,t1,t2⟩:=bk3 BA.out;go_wp2_with fail
 clear r0 r1 r2 r3 r4 t0 t1 t2;refine (C0.out _ HB.out).mono ?_;rintro e v1 ⟨rfl,hb⟩;replace HB:=zL HB hb;replace BM:=zk (BM.out.q_ hb);replace BA:=zk (BA.out.q_ hb)
 clear hb;clear C0;cases b0
 ·have h9:hh=false:=by rw [HP.out];simp
  subst h9;go_wp2;go_ret;exact ⟨by first | rfl | simp,HB.out⟩
 replace D0:=zk (D0.out (by first | rfl | trivial));obtain ⟨r0,r1,r2,r3,r4⟩:=bk5 BM.out;obtain ⟨t0,t1,t2⟩:=bk3 BA.out;go_wp2_with fail
 clear r0 r1 r2 r3 r4 t0 t1 t2;refine (C1.out _ HB.out).mono ?_;rintro e v2 ⟨rfl,hb⟩;replace HB:=zL HB hb;replace BM:=zk (BM.out.q_ hb);replace BA:=zk (BA.out.q_ hb)
 clear hb;clear C1;cases b1
 ·have h9:hh=false:=by rw [HP.out];simp
  subst h9;go_wp2;go_ret;exact ⟨by first | rfl | simp,HB.out⟩
 replace D1:=zk (D1.out (by first | rfl | trivial));obtain ⟨r0,r1,r2,r3,r4⟩:=bk5 BM.out;obtain ⟨t0,t1,t2⟩:=bk3 BA.out;go_wp2_with fail
 clear r0 r1 r2 r3 r4 t0 t1 t2;refine (C2.out _ HB.out).mono ?_;rintro e v3 ⟨rfl,hb⟩;replace HB:=zL HB hb;replace BM:=zk (BM.out.q_ hb);replace BA:=zk (BA.out.q_ hb)
 clear hb;clear C2;cases b2
 ·have h9:hh=false:=by rw [HP.out];simp
  subst h9;go_wp2;go_ret;exact ⟨by first | rfl | simp,HB.out⟩
 replace D2:=zk (D2.out (by first | rfl | trivial));have h9:hh=kk:=by rw [HP.out];rfl
 subst h9;go_upto_region 3 with fail
 have EM:=zk (fun W (hW:Bl v3 W)=>CM.out W (bUp HB.out hW));have E0:=zk (fun W (hW:Bl v3 W)=>D0.out W (bUp HB.out hW));have E1:=zk (fun W (hW:Bl v3 W)=>D1.out W (bUp HB.out hW));have E2:=zk (fun W (hW:Bl v3 W)=>D2.out W (bUp HB.out hW));clear CM D0 D1 D2;obtain ⟨r0,r1,r2,r3,r4⟩:=bk5 BM.out;obtain ⟨t0,t1,t2⟩:=bk3 BA.out;go_region_held3 (fun w'=>w'.cell? ⟨w.heap.size,0,none⟩=some (.bool s)/\w'.cell? ⟨w.heap.size,1,none⟩=some (.slice x n c)/\w'.cell? ⟨w.heap.size,2,none⟩=some (.slice y m d)/\w'.cell? ⟨w.heap.size,3,none⟩=some (.slice ca ck cc)/\w'.cell? ⟨w.heap.size,4,none⟩=some (.slice ra rk rc)/\w'.cell? ⟨w.heap.size+1,0,none⟩=some (.slice a0 k0 c0)/\w'.cell? ⟨w.heap.size+1,1,none⟩=some (.slice a1 k1 c1)/\w'.cell? ⟨w.heap.size+1,2,none⟩=some (.slice a2 k2 c2))
  (refine ⟨?_,?_,?_,?_,?_,?_,?_,?_⟩ <;> repeat (with_reducible first | assumption | refine kCd ?_ | refine kCb (by assumption) ?_))
  (first
   | (go_at_call 39;with_reducible refine (EM.out _ zW).mono ?_;rintro e u3 ⟨M3,rfl,hb3,H3⟩)
   | (go_at_call 40;with_reducible refine (E0.out _ zW).mono ?_;rintro e u0 ⟨z0,e0,rfl,hb0,H0⟩)
   | (go_at_call 40;with_reducible refine (E1.out _ zW).mono ?_;rintro e u1 ⟨z1,e1,rfl,hb1,H1⟩)
   | (go_at_call 40;with_reducible refine (E2.out _ zW).mono ?_;rintro e u2 ⟨z2,e2,rfl,hb2,H2⟩)
   | (go_at_call 91;with_reducible refine (CK.out _ M3 z0 e0 z1 e1 z2 e2 (H3.out.q_ zW) (H0.out.q_ zW) (H1.out.q_ zW) (H2.out.q_ zW)).mono ?_;rintro e u5 ⟨rfl,hb5⟩))
 all_goals
  have hb:Bl v3 u5:=zW;replace HB:=zL HB hb;clear hb;go_wp2;go_ret;exact ⟨by first | rfl | simp,by first | exact HB.out | exact HB.out.drew | exact zK HB.out _⟩
theorem zjf {w M a0 a1 a2 k0 c0 k1 c1 k2 c2 X Y Z} (hI:In8 w M) (hx:Rl w a0 k0 X) (sx:ShK 8 k0 X) (hy:Rl w a1 k1 Y) (sy:ShK 8 k1 Y) (hz:Rl w a2 k2 Z) (sz:ShK 8 k2 Z) :
  Calls prog 19 #[M.val,.agg #[.slice a0 k0 c0,.slice a1 k1 c1,.slice a2 k2 c2]] w fun e w'=>e=.returned (.tuple #[.bool (zfm M k0 X k1 Y k2 Z),.int .i64 (zar M)])/\Bl w w':=by
 have CC:=zk (fun W (hW:Bl w W)=>zjg (w:=W) ((hI.x.q_ hW).both hI.n hI.k (by decide)) hI.c);obtain ⟨er,her⟩:∃e,zar M=e:=⟨_,rfl⟩;obtain ⟨rr,hrr⟩:∃e,zfm M k0 X k1 Y k2 Z=e:=⟨_,rfl⟩;have CR:Hid (er=0->∀W,Bl w W->Calls prog 52 #[M.val,.agg #[.slice a0 k0 c0,.slice a1 k1 c1,.slice a2 k2 c2]] W fun e w'=>e=.returned (.bool rr)/\Bl W w'):=fun h0 W hW=>by
  have:=zmI (c0:=c0) (c1:=c1) (c2:=c2) (hI.q_ hW) (her.trans h0) (hx.q_ hW) sx (hy.q_ hW) sy (hz.q_ hW) sz;rw [hrr] at this;exact this
 have HE:Hid (er≠0->rr=false):=fun h=>by rw [<-hrr];unfold zfm;rw [her,decide_eq_false h];rfl
 rw [her,hrr];rw [her] at CC;clear hI hx hy hz sx sy sz her hrr;obtain ⟨⟨s,x,n,c,f,y,m,d,g⟩,ca,ck,cc,C,ra,rk,rc,R⟩:=M;replace CC:Hid (∀W,Bl w W->Calls prog 51 #[.agg #[.bool s,.slice x n c,.slice y m d,.slice ca ck cc,.slice ra rk rc]] W fun e w'=>e=.returned (.int .i64 er)/\Bl W w'):=CC;replace CR:Hid (er=0->∀W,Bl w W->Calls prog 52 #[.agg #[.bool s,.slice x n c,.slice y m d,.slice ca ck cc,.slice ra rk rc],.agg #[.slice a0 k0 c0,.slice a1 k1 c1,.slice a2 k2 c2]] W fun e w'=>e=.returned (.bool rr)/\Bl W w'):=CR;show Calls prog 19 #[.agg #[.bool s,.slice x n c,.slice y m d,.slice ca ck cc,.slice ra rk rc],.agg #[.slice a0 k0 c0,.slice a1 k1 c1,.slice a2 k2 c2]] w _;have HB:=zk (zu (zB w (.cells #[.bool s,.slice x n c,.slice y m d,.slice ca ck cc,.slice ra rk rc] 28)) (.cells #[.slice a0 k0 c0,.slice a1 k1 c1,.slice a2 k2 c2] 50));have BM:=zk ((zD w [.bool s,.slice x n c,.slice y m d,.slice ca ck cc,.slice ra rk rc] 28).q_ (zB _ (.cells #[.slice a0 k0 c0,.slice a1 k1 c1,.slice a2 k2 c2] 50)));have BA:=zk (zin w (.cells #[.bool s,.slice x n c,.slice y m d,.slice ca ck cc,.slice ra rk rc] 28) [.slice a0 k0 c0,.slice a1 k1 c1,.slice a2 k2 c2] 50);go_enter func19,ntmps19;obtain ⟨r0,r1,r2,r3,r4⟩:=bk5 BM.out;obtain ⟨t0,t1,t2⟩:=bk3 BA.out;go_wp2_with fail
 clear r0 r1 r2 r3 r4 t0 t1 t2;generalize ((w.alloc (.cells #[.bool s,.slice x n c,.slice y m d,.slice ca ck cc,.slice ra rk rc] 28)).alloc (.cells #[.slice a0 k0 c0,.slice a1 k1 c1,.slice a2 k2 c2] 50))=v0 at *;refine (CC.out _ HB.out).mono ?_;rintro e v1 ⟨rfl,hb⟩;replace HB:=zL HB hb;replace BM:=zk (BM.out.q_ hb);replace BA:=zk (BA.out.q_ hb)
 clear hb;clear CC;by_cases h0:er=0
 case neg =>
  have h1:(er != 0)=true:=by simpa using h0
  have h2:=HE.out h0;subst h2;clear CR h0;go_wp2
  go_ret2
  exact ⟨rfl,HB.out⟩
 subst h0;obtain ⟨r0,r1,r2,r3,r4⟩:=bk5 BM.out;obtain ⟨t0,t1,t2⟩:=bk3 BA.out;go_wp2_with fail
 clear r0 r1 r2 r3 r4 t0 t1 t2;refine (CR.out (by first | rfl | trivial) _ HB.out).mono ?_;rintro e v2 ⟨rfl,hb⟩;replace HB:=zL HB hb;replace BM:=zk (BM.out.q_ hb);replace BA:=zk (BA.out.q_ hb)
 clear hb;clear CR HE;go_wp2
 go_ret2
 exact ⟨rfl,HB.out⟩
theorem zib {w M a0 a1 a2 k0 c0 k1 c1 k2 c2 X Y Z} (hX:MoX w M) (hN:MoN M) (hC:MoC M) (hx:Rr w a0 k0 X) (hy:Rr w a1 k1 Y) (hz:Rr w a2 k2 Z) (bx:k0<=9223372036854775807) (by':k1<=9223372036854775807) (bz:k2<=9223372036854775807) :
  Calls prog 4 #[M.val,.agg #[.slice a0 k0 c0,.slice a1 k1 c1,.slice a2 k2 c2]] w fun e w'=>e=.returned (.bool true)/\Bl w w':=by
 obtain ⟨lb,hlb⟩:∃t,lgM 8 M=t:=⟨_,rfl⟩;obtain ⟨la,hla⟩:∃t,(lgL 8 k0 X && (lgL 8 k1 Y && lgL 8 k2 Z))=t:=⟨_,rfl⟩;have CL:=zk (fun w' (hw:Bl w w')=>zne (w:=w') (K:=8) (hX.q_ hw).light.1 (hX.q_ hw).light.2);rw [hlb] at CL;have CA:=zk (fun w' (hw:Bl w w')=>zln (c0:=c0) (c1:=c1) (c2:=c2) (hx.q_ hw) (hy.q_ hw) (hz.q_ hw) bx by' bz);rw [hla] at CA;obtain ⟨N,hN'⟩:∃N,N=M:=⟨_,rfl⟩;have HC:Hid (lb=true->la=true->In8 w N/\(Rl w a0 k0 X/\ShK 8 k0 X)/\(Rl w a1 k1 Y/\ShK 8 k1 Y)/\(Rl w a2 k2 Z/\ShK 8 k2 Z)):=fun e1 e2=>by
  subst hN';subst e1;subst e2
  simp only [Bool.and_eq_true] at hla;have key:∀{a:Option Addr} {k:Nat} {X:Nat->Nm},Rr w a k X->lgL 8 k X=true->Rl w a k X:=fun h q=>by
   simp only [lgL,Bool.and_eq_true] at q;exact h.rl q.2 (by decide)
  exact ⟨⟨hX,hN,hC,zse hlb⟩,⟨key hx hla.1,zgQ hla.1⟩,⟨key hy hla.2.1,zgQ hla.2.1⟩,⟨key hz hla.2.2,zgQ hla.2.2⟩⟩
 clear hX hN hC hx hy hz hlb hla bx by' bz
 obtain ⟨⟨s,x,n,c,f,y,m,d,g⟩,ca,ck,cc,C,ra,rk,rc,R⟩:=M;have hNv:Hid (N.val=.agg #[.bool s,.slice x n c,.slice y m d,.slice ca ck cc,.slice ra rk rc]):=by rw [hN'];exact rfl
 clear hN';replace CL:Hid (∀w',Bl w w'->Calls prog 6 #[.agg #[.bool s,.slice x n c,.slice y m d,.slice ca ck cc,.slice ra rk rc],.int .i64 8] w' fun e w2=>e=.returned (.bool lb)/\Bl w' w2):=CL;show Calls prog 4 #[.agg #[.bool s,.slice x n c,.slice y m d,.slice ca ck cc,.slice ra rk rc],.agg #[.slice a0 k0 c0,.slice a1 k1 c1,.slice a2 k2 c2]] w _;have HB:=zk (zu (zB w (.cells #[.bool s,.slice x n c,.slice y m d,.slice ca ck cc,.slice ra rk rc] 28)) (.cells #[.slice a0 k0 c0,.slice a1 k1 c1,.slice a2 k2 c2] 50));have BM:=zk ((zD w [.bool s,.slice x n c,.slice y m d,.slice ca ck cc,.slice ra rk rc] 28).q_ (zB _ (.cells #[.slice a0 k0 c0,.slice a1 k1 c1,.slice a2 k2 c2] 50)));have BA:=zk (zin w (.cells #[.bool s,.slice x n c,.slice y m d,.slice ca ck cc,.slice ra rk rc] 28) [.slice a0 k0 c0,.slice a1 k1 c1,.slice a2 k2 c2] 50);go_enter func4,ntmps4;go_wp2_with fail
 generalize ((w.alloc (.cells #[.bool s,.slice x n c,.slice y m d,.slice ca ck cc,.slice ra rk rc] 28)).alloc (.cells #[.slice a0 k0 c0,.slice a1 k1 c1,.slice a2 k2 c2] 50))=v0 at *;refine (zlE _).mono ?_;rintro e v1 ⟨rfl,hb⟩;replace HB:=zL HB hb;replace BM:=zk (BM.out.q_ hb);replace BA:=zk (BA.out.q_ hb)
 clear hb;obtain ⟨r0,r1,r2,r3,r4⟩:=bk5 BM.out;go_wp2_with fail
 clear r0 r1 r2 r3 r4;refine (CL.out _ HB.out).mono ?_;rintro e v2 ⟨rfl,hb⟩;replace HB:=zL HB hb;replace BM:=zk (BM.out.q_ hb);replace BA:=zk (BA.out.q_ hb)
 clear hb;clear CL;cases lb
 ·go_wp2;go_ret;exact ⟨rfl,HB.out⟩
 obtain ⟨t0,t1,t2⟩:=bk3 BA.out;go_wp2_with fail
 clear t0 t1 t2;refine (CA.out _ HB.out).mono ?_;rintro e v3 ⟨rfl,hb⟩;replace HB:=zL HB hb;replace BM:=zk (BM.out.q_ hb);replace BA:=zk (BA.out.q_ hb)
 clear hb;clear CA;cases la
 ·go_wp2;go_ret;exact ⟨rfl,HB.out⟩
 replace HC:=zk (HC.out (by first | rfl | trivial) (by first | rfl | trivial));have T1:Hid (∀W,Bl w W->Calls prog 9 #[.agg #[.bool s,.slice x n c,.slice y m d,.slice ca ck cc,.slice ra rk rc]] W fun e w'=>∃(vm:Value) (M':Mo),e=.returned vm/\Bl W w'/\Hid (vm=M'.val/\TmK 8 w' N M')):=fun W hW=>by
  have:=zkV (HC.out.1.x.q_ hW) HC.out.1.n HC.out.1.k (by decide);rw [hNv.out] at this;exact this
 have T2:=zk (fun W (hW:Bl w W)=>zmc (c0:=c0) (c1:=c1) (c2:=c2) (HC.out.2.1.1.q_ hW) (HC.out.2.2.1.1.q_ hW) (HC.out.2.2.2.1.q_ hW) HC.out.2.1.2 HC.out.2.2.1.2 HC.out.2.2.2.2 (by decide));obtain ⟨hh,hhe⟩:∃t,zfm N k0 X k1 Y k2 Z=t:=⟨_,rfl⟩;obtain ⟨ec,hec⟩:∃t,zar N=t:=⟨_,rfl⟩;have VH:Hid (∀W vm M' b0 d0 Y0 b1 d1 Y1 b2 d2 Y2,(vm=M'.val/\TmK 8 W N M')->T3 W b0 b1 b2 k0 X Y0 k1 Y Y1 k2 Z Y2->Calls prog 17 #[vm,.agg #[.slice b0 k0 d0,.slice b1 k1 d1,.slice b2 k2 d2]] W fun e w'=>e=.returned (.tuple #[.bool hh,.int .i64 ec])/\Bl W w'):=fun W vm M' b0 d0 Y0 b1 d1 Y1 b2 d2 Y2 h1 h2=>by
  have:=zlp (K:=8) (c0:=d0) (c1:=d1) (c2:=d2) h1.2 HC.out.1.n h2.t0 h2.t1 h2.t2 HC.out.2.1.2 HC.out.2.2.1.2 HC.out.2.2.2.2 (by decide);rw [hhe,hec,<-h1.1] at this;exact this
 have DH:Hid (∀W,Bl w W->Calls prog 19 #[.agg #[.bool s,.slice x n c,.slice y m d,.slice ca ck cc,.slice ra rk rc],.agg #[.slice a0 k0 c0,.slice a1 k1 c1,.slice a2 k2 c2]] W fun e w'=>e=.returned (.tuple #[.bool hh,.int .i64 ec])/\Bl W w'):=fun W hW=>by
  have:=zjf (c0:=c0) (c1:=c1) (c2:=c2) (HC.out.1.q_ hW) (HC.out.2.1.1.q_ hW) HC.out.2.1.2 (HC.out.2.2.1.1.q_ hW) HC.out.2.2.1.2 (HC.out.2.2.2.1.q_ hW) HC.out.2.2.2.2;rw [hhe,hec,hNv.out] at this;exact this
 clear HC hNv hhe hec;go_upto_region 5 with fail
 obtain ⟨r0,r1,r2,r3,r4⟩:=bk5 BM.out;obtain ⟨t0,t1,t2⟩:=bk3 BA.out;have T1n:=zk (fun W (hW:Bl v3 W)=>T1.out W (bUp HB.out hW));have T2n:=zk (fun W (hW:Bl v3 W)=>T2.out W (bUp HB.out hW));clear T1 T2;go_region_held3 (fun w'=>w'.cell? ⟨w.heap.size,0,none⟩=some (.bool s)/\w'.cell? ⟨w.heap.size,1,none⟩=some (.slice x n c)/\w'.cell? ⟨w.heap.size,2,none⟩=some (.slice y m d)/\w'.cell? ⟨w.heap.size,3,none⟩=some (.slice ca ck cc)/\w'.cell? ⟨w.heap.size,4,none⟩=some (.slice ra rk rc)/\w'.cell? ⟨w.heap.size+1,0,none⟩=some (.slice a0 k0 c0)/\w'.cell? ⟨w.heap.size+1,1,none⟩=some (.slice a1 k1 c1)/\w'.cell? ⟨w.heap.size+1,2,none⟩=some (.slice a2 k2 c2))
  (refine ⟨?_,?_,?_,?_,?_,?_,?_,?_⟩ <;> repeat (with_reducible first | assumption | refine kCd ?_ | refine kCb (by assumption) ?_))
  (first
   | (go_at_call 9;with_reducible refine (T1n.out _ zW).mono ?_;rintro e u1 ⟨vm,M1,rfl,hb1,H1⟩)
   | (go_at_call 18;with_reducible refine (T2n.out _ zW).mono ?_;rintro e u2 ⟨b0,d0,Y0,b1,d1,Y1,b2,d2,Y2,rfl,hb2,H2⟩)
   | (go_at_call 17;with_reducible refine (VH.out _ vm M1 b0 d0 Y0 b1 d1 Y1 b2 d2 Y2 ⟨H1.out.1,H1.out.2.q_ zW⟩ (H2.out.q_ zW)).mono ?_;rintro e v4 ⟨rfl,hb3⟩))
 have hb:Bl v3 v4:=zW;replace HB:=zL HB hb;replace BM:=zk (BM.out.q_ hb);replace BA:=zk (BA.out.q_ hb)
 clear hb;clear r0 r1 r2 r3 r4 t0 t1 t2 T1n T2n hb1 hb2 hb3 H1 H2;obtain ⟨r0,r1,r2,r3,r4⟩:=bk5 BM.out;obtain ⟨t0,t1,t2⟩:=bk3 BA.out;go_wp2_with fail
 clear r0 r1 r2 r3 r4;clear t0 t1 t2;refine (DH.out _ HB.out).mono ?_;rintro e v5 ⟨rfl,hb⟩;replace HB:=zL HB hb;replace BM:=zk (BM.out.q_ hb);replace BA:=zk (BA.out.q_ hb)
 clear hb;clear DH VH;have e1:(hh==hh)=true:=by simp
 have e2:(ec==ec)=true:=by simp
 go_wp2;go_ret;exact ⟨by simp,HB.out⟩
end Go.Proofs.YtdbbncamlaiajaaGreat
