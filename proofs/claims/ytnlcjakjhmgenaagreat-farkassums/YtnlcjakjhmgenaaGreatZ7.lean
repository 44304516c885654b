/-
 Walks.
-/
import Derived.Test.YtnlcjakjhmgenaaGreatZ6
import Derived.Test.YtnlcjakjhmgenaaGreatZ2
import Derived.Test.YtnlcjakjhmgenaaGreatZ5
import Derived.BigQuiet
import Derived.BigRegion
set_option maxRecDepth 100000
set_option maxHeartbeats 16000000
namespace Go.Proofs.YtnlcjakjhmgenaaGreat
open Value (slice agg)
open Obj (cells)
open Nat (le_refl le_trans zero_add)
open World (cell?_of_block)
open List (getElem?_eq_getElem)
open Go.Proofs.Tryz
open Go.RowKit
theorem zjN {w L i1 i2 s1 x1 n1 c1 f1 y1 m1 d1 g1 q1 s2 x2 n2 c2 f2 y2 m2 d2 g2 q2 s3 x3 n3 c3 f3 y3 m3 d3 g3 q3 s4 x4 n4 c4 f4 y4 m4 d4 g4 q4} (h1:Qn w s1 x1 n1 f1 y1 m1 g1 q1) (l1:n1<=2*L/\m1<=2*L) (h2:Qn w s2 x2 n2 f2 y2 m2 g2 q2) (l2:n2<=2*L/\m2<=2*L) (h3:Qn w s3 x3 n3 f3 y3 m3 g3 q3) (l3:n3<=2*L/\m3<=2*L) (h4:Qn w s4 x4 n4 f4 y4 m4 g4 q4) (l4:n4<=2*L/\m4<=2*L) (hL:L<=1000) :
  Calls prog 89 #[agg #[.int .i64 i1,.bool s1,slice x1 n1 c1,slice y1 m1 d1],agg #[.int .i64 i2,.bool s2,slice x2 n2 c2,slice y2 m2 d2],agg #[.bool s3,slice x3 n3 c3,slice y3 m3 d3],agg #[.bool s4,slice x4 n4 c4,slice y4 m4 d4]] w λe w'=>zgb (2*((L+L+1)+(L+L+1)+1)) w w' e (q3*q1-q4*q2):=by
 have hb:=zu (zu (zu (zu (zA w (cells #[.int .i64 i1,.bool s1,slice x1 n1 c1,slice y1 m1 d1] 136)) (cells #[.int .i64 i2,.bool s2,slice x2 n2 c2,slice y2 m2 d2] 136)) (cells #[.bool s3,slice x3 n3 c3,slice y3 m3 d3] 91)) (cells #[.bool s4,slice x4 n4 c4,slice y4 m4 d4] 91)) (cells #[.bool false,slice none 0 0,slice none 0 0] 91);have B1:=((((zH w [.int .i64 i1,.bool s1,slice x1 n1 c1,slice y1 m1 d1] 136).q_ (zA _ (cells #[.int .i64 i2,.bool s2,slice x2 n2 c2,slice y2 m2 d2] 136))).q_ (zA _ (cells #[.bool s3,slice x3 n3 c3,slice y3 m3 d3] 91))).q_ (zA _ (cells #[.bool s4,slice x4 n4 c4,slice y4 m4 d4] 91))).q_ (zA _ (cells #[.bool false,slice none 0 0,slice none 0 0] 91));have B2:=(((zaV w (cells #[.int .i64 i1,.bool s1,slice x1 n1 c1,slice y1 m1 d1] 136) [.int .i64 i2,.bool s2,slice x2 n2 c2,slice y2 m2 d2] 136).q_ (zA _ (cells #[.bool s3,slice x3 n3 c3,slice y3 m3 d3] 91))).q_ (zA _ (cells #[.bool s4,slice x4 n4 c4,slice y4 m4 d4] 91))).q_ (zA _ (cells #[.bool false,slice none 0 0,slice none 0 0] 91));have B3:=zaV (w.alloc (cells #[.int .i64 i1,.bool s1,slice x1 n1 c1,slice y1 m1 d1] 136)) (cells #[.int .i64 i2,.bool s2,slice x2 n2 c2,slice y2 m2 d2] 136) [.bool s3,slice x3 n3 c3,slice y3 m3 d3] 91;rw[zw]at B3
 replace B3:=(B3.q_ (zA _ (cells #[.bool s4,slice x4 n4 c4,slice y4 m4 d4] 91))).q_ (zA _ (cells #[.bool false,slice none 0 0,slice none 0 0] 91));have B4:=zaV ((w.alloc (cells #[.int .i64 i1,.bool s1,slice x1 n1 c1,slice y1 m1 d1] 136)).alloc (cells #[.int .i64 i2,.bool s2,slice x2 n2 c2,slice y2 m2 d2] 136)) (cells #[.bool s3,slice x3 n3 c3,slice y3 m3 d3] 91) [.bool s4,slice x4 n4 c4,slice y4 m4 d4] 91;rw[zw,zw]at B4
 replace B4:=B4.q_ (zA _ (cells #[.bool false,slice none 0 0,slice none 0 0] 91));have BZ:=zaV (((w.alloc (cells #[.int .i64 i1,.bool s1,slice x1 n1 c1,slice y1 m1 d1] 136)).alloc (cells #[.int .i64 i2,.bool s2,slice x2 n2 c2,slice y2 m2 d2] 136)).alloc (cells #[.bool s3,slice x3 n3 c3,slice y3 m3 d3] 91)) (cells #[.bool s4,slice x4 n4 c4,slice y4 m4 d4] 91) [.bool false,slice none 0 0,slice none 0 0] 91;rw[zw,zw,zw]at BZ
 have H1:=zk (h1.q_ hb);have H2:=zk (h2.q_ hb);have H3:=zk (h3.q_ hb);have H4:=zk (h4.q_ hb);have HB:=zk hb;replace BZ:=zk BZ
 have HL1:=zk (h1.lo l1.1 l1.2);have HL2:=zk (h2.lo l2.1 l2.2);have HL3:=zk (h3.lo l3.1 l3.2);have HL4:=zk (h4.lo l4.1 l4.2)
 obtain⟨a0,a1,a2,a3⟩:=bk4 B1;obtain⟨b0,b1,b2,b3⟩:=bk4 B2;obtain⟨t0,t1,t2⟩:=bk3 B3;obtain⟨u0,u1,u2⟩:=bk3 B4;clear hb h1 h2 h3 h4 B1 B2 B3 B4 a0 b0;go_enter func89,ntmps89;go_upto_region 1 with fail
 generalize(((((w.alloc (cells #[.int .i64 i1,.bool s1,slice x1 n1 c1,slice y1 m1 d1] 136)).alloc (cells #[.int .i64 i2,.bool s2,slice x2 n2 c2,slice y2 m2 d2] 136)).alloc (cells #[.bool s3,slice x3 n3 c3,slice y3 m3 d3] 91)).alloc (cells #[.bool s4,slice x4 n4 c4,slice y4 m4 d4] 91)).alloc (cells #[.bool false,slice none 0 0,slice none 0 0] 91))=w1 at *;have hbd:=Below.drew (Below.refl w1.heap.size w1);replace HB:=zI HB hbd;replace BZ:=zk (BZ.out.q_ hbd);replace H1:=zk (H1.out.q_ hbd);replace H2:=zk (H2.out.q_ hbd);replace H3:=zk (H3.out.q_ hbd);replace H4:=zk (H4.out.q_ hbd)
 clear hbd;refine wp_region_held_drew (S:=(λw'=>w'.cell? ⟨w.heap.size,1,none⟩=some (.bool s1)/\w'.cell? ⟨w.heap.size,2,none⟩=some (slice x1 n1 c1)/\w'.cell? ⟨w.heap.size,3,none⟩=some (slice y1 m1 d1)/\w'.cell? ⟨w.heap.size+1,1,none⟩=some (.bool s2)/\w'.cell? ⟨w.heap.size+1,2,none⟩=some (slice x2 n2 c2)/\w'.cell? ⟨w.heap.size+1,3,none⟩=some (slice y2 m2 d2)/\w'.cell? ⟨w.heap.size+1+1,0,none⟩=some (.bool s3)/\w'.cell? ⟨w.heap.size+1+1,1,none⟩=some (slice x3 n3 c3)/\w'.cell? ⟨w.heap.size+1+1,2,none⟩=some (slice y3 m3 d3)/\w'.cell? ⟨w.heap.size+1+1+1,0,none⟩=some (.bool s4)/\w'.cell? ⟨w.heap.size+1+1+1,1,none⟩=some (slice x4 n4 c4)/\w'.cell? ⟨w.heap.size+1+1+1,2,none⟩=some (slice y4 m4 d4))) (by kernel_rfl) ?_ (λhHeld=>?_)
 ·exact⟨kCd a1,kCd a2,kCd a3,kCd b1,kCd b2,kCd b3,kCd t0,kCd t1,kCd t2,kCd u0,kCd u1,kCd u2⟩
 generalize w1.drew=wd at *;clear a1 a2 a3 b1 b2 b3 t0 t1 t2 u0 u1 u2;refine zB 0 ?_;refine zB 1 ?_;refine zB 2 ?_;simp only[zv,Act.put];refine zB 4 ?_;refine zB 5 ?_;refine zB 6 ?_;simp only[zv,Act.put];refine(show wpAnyH _ _ _ _ _ (3+1) _ _ _ from zbv (λj v w=>match j with|3=>GQn (2*(L+L+1)) (q3*q1) v w|7=>GQn (2*(L+L+1)) (q4*q2) v w|8=>GQn (2*((L+L+1)+(L+L+1)+1)) (q3*q1-q4*q2) v w|_=>True) [(3,12),(7,16),(8,17)] [3,7,8] [] [9] _ _ _ 1 ?k1 ?k4 ?kn ?kq ?k2 ?k3 ?k5 ?kt ?k6 ?k8)
 case k1=>kernel_rfl
 case k4=>kernel_rfl
 case kn=>kernel_rfl
 case kq=>exact λ_ _ _ _ _ h=>h
 case k2=>exact λw w' h hb=>⟨kCb hb h.1,kCb hb h.2.1,kCb hb h.2.2.1,kCb hb h.2.2.2.1,kCb hb h.2.2.2.2.1,kCb hb h.2.2.2.2.2.1,kCb hb h.2.2.2.2.2.2.1,kCb hb h.2.2.2.2.2.2.2.1,kCb hb h.2.2.2.2.2.2.2.2.1,kCb hb h.2.2.2.2.2.2.2.2.2.1,kCb hb h.2.2.2.2.2.2.2.2.2.2.1,kCb hb h.2.2.2.2.2.2.2.2.2.2.2⟩
 case k3 =>
  intro j v w w' h hb
  split at h <;> first|exact GQn.q_ h hb|exact h|trivial
 case k8=>exact hHeld
 case k5 =>
  intro i hi;simp only[List.mem_cons,List.not_mem_nil,or_false]at hi;rcases hi with rfl|rfl|rfl
  ·refine⟨_,rfl,λu w5 hS hb5 hd K hK=>?_⟩;have hw5:=bUp HB.out hb5;simp only[zal,zv,Act.put]at hK ⊢;go_simp
   go_at_call 90
   refine(ziW (H3.out.q_ hb5) (H1.out.q_ hb5) (by omega) (by omega) (by omega) (by omega)).mono ?_;rintro e w6 ⟨s7,x7,n7,c7,f7,y7,m7,d7,g7,rfl,hb6,hr1,hr2,hr⟩;have hl:=hr.len (zbm HL3.out HL1.out)
   (try go_wp2_with fail)
   exact hK.out _ _ hb6 ⟨s7,x7,n7,c7,f7,y7,m7,d7,g7,rfl,hl.1,hl.2,hr⟩
  ·refine⟨_,rfl,λu w5 hS hb5 hd K hK=>?_⟩;have hw5:=bUp HB.out hb5;simp only[zal,zv,Act.put]at hK ⊢;go_simp
   go_at_call 90
   refine(ziW (H4.out.q_ hb5) (H2.out.q_ hb5) (by omega) (by omega) (by omega) (by omega)).mono ?_;rintro e w6 ⟨s7,x7,n7,c7,f7,y7,m7,d7,g7,rfl,hb6,hr1,hr2,hr⟩;have hl:=hr.len (zbm HL4.out HL2.out)
   (try go_wp2_with fail)
   exact hK.out _ _ hb6 ⟨s7,x7,n7,c7,f7,y7,m7,d7,g7,rfl,hl.1,hl.2,hr⟩
  ·refine⟨_,rfl,λu w5 hS hb5 hd K hK=>?_⟩;have hw5:=bUp HB.out hb5;have hc:Calls prog 87 #[u 3,u 7] w5 λe w'=>∃v,e=.returned v/\Bl w5 w'/\GQn (2*((L+L+1)+(L+L+1)+1)) (q3*q1-q4*q2) v w':=by
    have h3:GQn (2*(L+L+1)) (q3*q1) (u 3) w5:=hd 3 (by kernel_rfl) (by kernel_rfl);have h7:GQn (2*(L+L+1)) (q4*q2) (u 7) w5:=hd 7 (by kernel_rfl) (by kernel_rfl);obtain⟨s7,x7,n7,c7,f7,y7,m7,d7,g7,e3,k3⟩:=h3;obtain⟨s8,x8,n8,c8,f8,y8,m8,d8,g8,e7,k7⟩:=h7;rw[e3,e7];have r1:n7<=2*(L+L+1):=k3.1;have r2:m7<=2*(L+L+1):=k3.2.1;have r3:n8<=2*(L+L+1):=k7.1;have r4:m8<=2*(L+L+1):=k7.2.1
    refine(ziV k3.2.2 k7.2.2 (by show n7<=_;omega) (by show m7<=_;omega) (by show n8<=_;omega) (by show m8<=_;omega)).mono ?_;rintro e w6 ⟨s9,x9,n9,c9,f9,y9,m9,d9,g9,rfl,hb6,hr1,hr2,hr⟩;have hl:=hr.len (K:=(L+L+1)+(L+L+1)+1) (by have:=zci (zbm HL3.out HL1.out) (zhr (zbm HL4.out HL2.out));rwa[<-Rat.sub_eq_add_neg]at this);exact⟨_,rfl,hb6,s9,x9,n9,c9,f9,y9,m9,d9,g9,rfl,hl.1,hl.2,hr⟩
   simp only[zal,zv,Act.put]at hK ⊢;go_simp
   go_at_call 87
   refine hc.mono ?_;rintro e w6 ⟨v,rfl,hb6,hr⟩
   (try go_wp2_with fail)
   exact hK.out _ _ hb6 hr
 case kt =>
  intro i hi;cases hi
 case k6 =>
  intro u w6 hS6 hb6 hg;have h6:GQn (2*((L+L+1)+(L+L+1)+1)) (q3*q1-q4*q2) (u 8) w6:=hg 8 (by simp);obtain⟨s9,x9,n9,c9,f9,y9,m9,d9,g9,e6,hq⟩:=h6;simp only[zal,zv,Act.put];simp only[e6];clear e6 hg;replace HB:=zI HB hb6;replace BZ:=zk (BZ.out.q_ hb6)
  obtain⟨hx1,hx2,hx3,hbk⟩:=st3 s9 x9 n9 c9 y9 m9 d9 rfl BZ.out HB.out (by omega);obtain⟨l0,l1,l2⟩:=bk3 BZ.out;have ff:=BZ.out.frozen;refine rdO 9 (λK hK=>?_);go_simp;obtain⟨z0,z1,z2⟩:=bk3 hbk;generalize(((w6.setCell ⟨w.heap.size+1+1+1+1,0,none⟩ (.bool s9)).setCell ⟨w.heap.size+1+1+1+1,1,none⟩ (slice x9 n9 c9)).setCell ⟨w.heap.size+1+1+1+1,2,none⟩ (slice y9 m9 d9))=zF at *;have HQ:=zk (hq.kp hx2);have HX:=zk hx1;refine hK.out _ _ ?_ (λhHd=>?_)
  ·exact⟨(cell?_of_block (a:=⟨w.heap.size,1,none⟩) (hx3 (w.heap.size) (by omega))).trans (hS6.1),(cell?_of_block (a:=⟨w.heap.size,2,none⟩) (hx3 (w.heap.size) (by omega))).trans (hS6.2.1),(cell?_of_block (a:=⟨w.heap.size,3,none⟩) (hx3 (w.heap.size) (by omega))).trans (hS6.2.2.1),(cell?_of_block (a:=⟨w.heap.size+1,1,none⟩) (hx3 (w.heap.size+1) (by omega))).trans (hS6.2.2.2.1),(cell?_of_block (a:=⟨w.heap.size+1,2,none⟩) (hx3 (w.heap.size+1) (by omega))).trans (hS6.2.2.2.2.1),(cell?_of_block (a:=⟨w.heap.size+1,3,none⟩) (hx3 (w.heap.size+1) (by omega))).trans (hS6.2.2.2.2.2.1),(cell?_of_block (a:=⟨w.heap.size+1+1,0,none⟩) (hx3 (w.heap.size+1+1) (by omega))).trans (hS6.2.2.2.2.2.2.1),(cell?_of_block (a:=⟨w.heap.size+1+1,1,none⟩) (hx3 (w.heap.size+1+1) (by omega))).trans (hS6.2.2.2.2.2.2.2.1),(cell?_of_block (a:=⟨w.heap.size+1+1,2,none⟩) (hx3 (w.heap.size+1+1) (by omega))).trans (hS6.2.2.2.2.2.2.2.2.1),(cell?_of_block (a:=⟨w.heap.size+1+1+1,0,none⟩) (hx3 (w.heap.size+1+1+1) (by omega))).trans (hS6.2.2.2.2.2.2.2.2.2.1),(cell?_of_block (a:=⟨w.heap.size+1+1+1,1,none⟩) (hx3 (w.heap.size+1+1+1) (by omega))).trans (hS6.2.2.2.2.2.2.2.2.2.2.1),(cell?_of_block (a:=⟨w.heap.size+1+1+1,2,none⟩) (hx3 (w.heap.size+1+1+1) (by omega))).trans (hS6.2.2.2.2.2.2.2.2.2.2.2)⟩
  clear hK K;try simp only[zv,Act.put]
  refine dnO ?_;clear hHd hHeld hS6 hx1 hx2 hx3 hbk hq ff l0 l1 l2 hb6 BZ H1 H2 H3 H4;go_wp2;exact bodyPost_ret (v:=agg #[.bool s9,slice x9 n9 c9,slice y9 m9 d9]) (by simp[results,results89,go_sem,z0,z1,z2]) rfl ⟨s9,x9,n9,c9,f9,y9,m9,d9,g9,rfl,HX.out,HQ.out.1,HQ.out.2.1,HQ.out.2.2⟩
theorem zly {w a0 a1 a2 a3 k0 c0 k1 c1 k2 c2 k3 c3 X0 X1 X2 X3} (h0:Rl w a0 k0 X0) (z0:ShK 8 k0 X0) (h1:Rl w a1 k1 X1) (z1:ShK 8 k1 X1) (h2:Rl w a2 k2 X2) (z2:ShK 8 k2 X2) (h3:Rl w a3 k3 X3) (z3:ShK 8 k3 X3) :
  Calls prog 44 #[agg #[slice a0 k0 c0,slice a1 k1 c1,slice a2 k2 c2,slice a3 k3 c3]] w λe w'=>e=.returned (.bool (afB k0 X0 && (afB k1 X1 && (afB k2 X2 && afB k3 X3))))/\Bl w w':=by
 have C0:=zk (λW (hW:Bl w W)=>zfk (w:=W) (cap:=c0) (h0.q_ hW) (by have:=z0.1;omega) (λj hj=>by have:=z0.2 j hj;omega));obtain⟨p0,hp0⟩:∃p,afB k0 X0=p:=⟨_,rfl⟩;rw[hp0]at C0 ⊢
 have C1:=zk (λW (hW:Bl w W)=>zfk (w:=W) (cap:=c1) (h1.q_ hW) (by have:=z1.1;omega) (λj hj=>by have:=z1.2 j hj;omega));obtain⟨p1,hp1⟩:∃p,afB k1 X1=p:=⟨_,rfl⟩;rw[hp1]at C1 ⊢
 have C2:=zk (λW (hW:Bl w W)=>zfk (w:=W) (cap:=c2) (h2.q_ hW) (by have:=z2.1;omega) (λj hj=>by have:=z2.2 j hj;omega));obtain⟨p2,hp2⟩:∃p,afB k2 X2=p:=⟨_,rfl⟩;rw[hp2]at C2 ⊢
 have C3:=zk (λW (hW:Bl w W)=>zfk (w:=W) (cap:=c3) (h3.q_ hW) (by have:=z3.1;omega) (λj hj=>by have:=z3.2 j hj;omega));obtain⟨p3,hp3⟩:∃p,afB k3 X3=p:=⟨_,rfl⟩;rw[hp3]at C3 ⊢
 clear h0 h1 h2 h3 z0 z1 z2 z3 hp0 hp1 hp2 hp3;have BK:=zk (zH w [slice a0 k0 c0,slice a1 k1 c1,slice a2 k2 c2,slice a3 k3 c3] 31);have HB:=zk (zA w (cells #[slice a0 k0 c0,slice a1 k1 c1,slice a2 k2 c2,slice a3 k3 c3] 31));go_enter func44,ntmps44;have t0:=BK.out.cell (j:=0) rfl;go_wp2_with fail
 clear t0;generalize w.alloc (cells #[slice a0 k0 c0,slice a1 k1 c1,slice a2 k2 c2,slice a3 k3 c3] 31)=w0 at *;refine(C0.out _ HB.out).mono ?_;rintro e v0 ⟨rfl,hb⟩;replace HB:=zI HB hb;replace BK:=zk (BK.out.q_ hb)
 clear hb;cases p0
 ·go_wp2;go_ret;exact⟨by simp,HB.out⟩
 have t1:=BK.out.cell (j:=1) rfl;go_wp2_with fail
 clear t1;refine(C1.out _ HB.out).mono ?_;rintro e v1 ⟨rfl,hb⟩;replace HB:=zI HB hb;replace BK:=zk (BK.out.q_ hb)
 clear hb;cases p1
 ·go_wp2;go_ret;exact⟨by simp,HB.out⟩
 have t2:=BK.out.cell (j:=2) rfl;go_wp2_with fail
 clear t2;refine(C2.out _ HB.out).mono ?_;rintro e v2 ⟨rfl,hb⟩;replace HB:=zI HB hb;replace BK:=zk (BK.out.q_ hb)
 clear hb;cases p2
 ·go_wp2;go_ret;exact⟨by simp,HB.out⟩
 have t3:=BK.out.cell (j:=3) rfl;go_wp2_with fail
 clear t3;refine(C3.out _ HB.out).mono ?_;rintro e v3 ⟨rfl,hb⟩;replace HB:=zI HB hb;replace BK:=zk (BK.out.q_ hb)
 clear hb;go_wp2;go_ret;exact⟨by simp,HB.out⟩
theorem znz {w} {M:Mo} {a0 a1 a2 a3 k0 c0 k1 c1 k2 c2 k3 c3} :
  Calls prog 46 #[M.val,agg #[slice a0 k0 c0,slice a1 k1 c1,slice a2 k2 c2,slice a3 k3 c3]] w λe w'=>e=.returned (.bool (decide (k0=M.rk) && (decide (k1=M.rk) && (decide (k2=M.ck) && decide (k3=M.ck)))))/\Bl w w':=by
 obtain⟨⟨s,x,n,c,f,y,m,d,g⟩,ca,ck,cc,C,ra,rk,rc,R⟩:=M;show Calls prog 46 #[agg #[.bool s,slice x n c,slice y m d,slice ca ck cc,slice ra rk rc],agg #[slice a0 k0 c0,slice a1 k1 c1,slice a2 k2 c2,slice a3 k3 c3]] w λe w'=>e=.returned (.bool (decide (k0=rk) && (decide (k1=rk) && (decide (k2=ck) && decide (k3=ck)))))/\Bl w w'
 have BM:=(zH w [.bool s,slice x n c,slice y m d,slice ca ck cc,slice ra rk rc] 28).q_ (zA _ (cells #[slice a0 k0 c0,slice a1 k1 c1,slice a2 k2 c2,slice a3 k3 c3] 31));have BK:=zaV w (cells #[.bool s,slice x n c,slice y m d,slice ca ck cc,slice ra rk rc] 28) [slice a0 k0 c0,slice a1 k1 c1,slice a2 k2 c2,slice a3 k3 c3] 31;have HB:=zk (zu (zA w (cells #[.bool s,slice x n c,slice y m d,slice ca ck cc,slice ra rk rc] 28)) (cells #[slice a0 k0 c0,slice a1 k1 c1,slice a2 k2 c2,slice a3 k3 c3] 31));obtain⟨-,-,-,r3,r4⟩:=bk5 BM;obtain⟨t0,t1,t2,t3⟩:=bk4 BK;clear BM BK;by_cases e0:k0=rk
 case neg =>
  have i0:(((k0:Nat):Int)==((rk:Nat):Int))=false:=beq_eq_false_iff_ne.2 (by omega);go_enter func46,ntmps46;go_wp2;go_ret;exact⟨by simp[e0],HB.out⟩
 have i0:(((k0:Nat):Int)==((rk:Nat):Int))=true:=beq_iff_eq.2 (by omega);replace e0:=zk e0;by_cases e1:k1=rk
 case neg =>
  have i1:(((k1:Nat):Int)==((rk:Nat):Int))=false:=beq_eq_false_iff_ne.2 (by omega);go_enter func46,ntmps46;go_wp2;go_ret;exact⟨by simp[e0.out,e1],HB.out⟩
 have i1:(((k1:Nat):Int)==((rk:Nat):Int))=true:=beq_iff_eq.2 (by omega);replace e1:=zk e1;by_cases e2:k2=ck
 case neg =>
  have i2:(((k2:Nat):Int)==((ck:Nat):Int))=false:=beq_eq_false_iff_ne.2 (by omega);go_enter func46,ntmps46;go_wp2;go_ret;exact⟨by simp[e0.out,e1.out,e2],HB.out⟩
 have i2:(((k2:Nat):Int)==((ck:Nat):Int))=true:=beq_iff_eq.2 (by omega);replace e2:=zk e2;by_cases e3:k3=ck
 case neg =>
  have i3:(((k3:Nat):Int)==((ck:Nat):Int))=false:=beq_eq_false_iff_ne.2 (by omega);go_enter func46,ntmps46;go_wp2;go_ret;exact⟨by simp[e0.out,e1.out,e2.out,e3],HB.out⟩
 have i3:(((k3:Nat):Int)==((ck:Nat):Int))=true:=beq_iff_eq.2 (by omega);replace e3:=zk e3;go_enter func46,ntmps46;go_wp2;go_ret;exact⟨by simp[e0.out,e1.out,e2.out,e3.out],HB.out⟩
structure In8 (w:World) (M:Mo):Prop where
 x:MoX w M
 n:MoN M
 c:MoC M
 k:M.ck<=64->M.rk<=64->MoK 8 M
theorem In8.q_ {w w' M} (h:In8 w M) (hb:Bl w w'):In8 w' M:=⟨h.x.q_ hb,h.n,h.c,h.k⟩
theorem In8.val {w M} (h:In8 w M) (he:zar M=0):MoV 8 w M (nq M.off) (zag M) (zam M)/\zbC (zag M) (zam M)=true:=by
 obtain⟨l1,l2,_⟩:=zdQ he;exact(h.x.mor h.n (h.k l1 l2) (by decide) l1 l2).movC (h.k l1 l2) he
theorem lsf_two (a b:Int):lsf (two a b) 2=lstep a b:=by
 simp[lsf,two,lstep]
theorem zng (e:Int):lstep (lstep e 3) 7=lstep e 3:=by
 unfold lstep;split <;> split <;> omega
theorem zdM {w ao k cap X} (hx:Rl w ao k X) (hs:ShK 8 k X) (ha:afB k X=true):Calls prog 85 #[slice ao k cap] w λe w'=>∃aw cw,e=.returned (slice aw k cw)/\Bl w w'/\Hid (Rqs (2*8) w' aw (zN k X)) :=
 (zpy (L:=8) (p:=zN k X) hx (by have:=hs.1;omega) (by decide) (zbg _ _) (λj hj=>by
  obtain⟨b,o,_,_,hn⟩:=hx j hj;exact⟨nq (X j),zcJ hj,NmS.val (K:=8) hn (zkS ha j (by omega) (by omega)) (hs.2 j hj)⟩)).mono (by
   rintro e w' ⟨aw,cw,rfl,h1,_,h3⟩;exact⟨aw,cw,rfl,h1,zk h3.out⟩)
theorem zpz {w M} (h:In8 w M) (he:zar M=0):Calls prog 48 #[M.val] w λe w'=>∃M':Mo,e=.returned M'.val/\Bl w w'/\Hid (MqV (2*8) w' M' (nq M.off) (zag M) (zam M)) :=
 (zki (h.val he).1 (by decide) (h.val he).2).mono (by
  rintro e w' ⟨M',h1,h2,h3⟩;exact⟨M',h1,h2,zk h3⟩)
theorem zle {w w6 B us ty} (a0:Option Addr) (k0 c0:Nat) (a1:Option Addr) (k1 c1:Nat) (a2:Option Addr) (k2 c2:Nat) (a3:Option Addr) (k3 c3:Nat) (hu:us.length=4) (hn:NoU us.toArray) (h:Bk w6 B us ty) (hb:Bl w w6) (hB:w.heap.size<=B) :
  Bl w ((((w6.setCell ⟨B,0,none⟩ (slice a0 k0 c0)).setCell ⟨B,1,none⟩ (slice a1 k1 c1)).setCell ⟨B,2,none⟩ (slice a2 k2 c2)).setCell ⟨B,3,none⟩ (slice a3 k3 c3))/\Kp w6 ((((w6.setCell ⟨B,0,none⟩ (slice a0 k0 c0)).setCell ⟨B,1,none⟩ (slice a1 k1 c1)).setCell ⟨B,2,none⟩ (slice a2 k2 c2)).setCell ⟨B,3,none⟩ (slice a3 k3 c3)) /\
  (∀k,k≠B->((((w6.setCell ⟨B,0,none⟩ (slice a0 k0 c0)).setCell ⟨B,1,none⟩ (slice a1 k1 c1)).setCell ⟨B,2,none⟩ (slice a2 k2 c2)).setCell ⟨B,3,none⟩ (slice a3 k3 c3)).heap[k]?=w6.heap[k]?)/\Bk ((((w6.setCell ⟨B,0,none⟩ (slice a0 k0 c0)).setCell ⟨B,1,none⟩ (slice a1 k1 c1)).setCell ⟨B,2,none⟩ (slice a2 k2 c2)).setCell ⟨B,3,none⟩ (slice a3 k3 c3)) B [slice a0 k0 c0,slice a1 k1 c1,slice a2 k2 c2,slice a3 k3 c3] ty:=by
 obtain⟨h1,h2,h3⟩:=zcv [slice a0 k0 c0,slice a1 k1 c1,slice a2 k2 c2,slice a3 k3 c3] h hn hb hB;have h4:=ziQ [slice a0 k0 c0,slice a1 k1 c1,slice a2 k2 c2,slice a3 k3 c3] us 0 _ hu h;simp only[stl,zero_add,Nat.reduceAdd,List.take_zero,List.nil_append]at h1 h2 h3 h4;exact⟨h1,h2,h3,h4⟩
structure Q4 (K:Nat) (w:World) (b0 b1 b2 b3:Option Addr) (p0 p1 p2 p3:List Rat):Prop where
 q0:Rqs K w b0 p0
 q1:Rqs K w b1 p1
 q2:Rqs K w b2 p2
 q3:Rqs K w b3 p3
theorem Q4.q_ {K w w' b0 b1 b2 b3 p0 p1 p2 p3} (h:Q4 K w b0 b1 b2 b3 p0 p1 p2 p3) (hb:Bl w w'):Q4 K w' b0 b1 b2 b3 p0 p1 p2 p3:=⟨h.q0.q_ hb,h.q1.q_ hb,h.q2.q_ hb,h.q3.q_ hb⟩
theorem Rqs.elsewhere {K w w' B ao p L ty} (h:Rqs K w ao p) (hB:Bk w B L ty) (hs:∀(j:Nat) (b:Bool),L[j]?≠some (Value.bool b)) (hk:Kp w w') (hh:∀k,k≠B->w'.heap[k]?=w.heap[k]?):Rqs K w' ao p :=
 (RqF.st (B:=B) ⟨h,λj q hj b o e=>by
  obtain⟨b',o',t,h1,⟨c0,_,_⟩,_⟩:=h j q hj;rw[h1]at e
  have e1:b'=b:=by have:=Option.some.inj e;exact congrArg Addr.block this
  subst e1;intro e2;subst e2;unfold Bk at hB;simp only[World.cell?,hB]at c0;exact hs _ _ (by simpa using c0)⟩ hk hh).1
theorem znu {w a0 a1 a2 a3 k0 c0 k1 c1 k2 c2 k3 c3 X0 X1 X2 X3} (h0:Rl w a0 k0 X0) (z0:ShK 8 k0 X0) (f0:afB k0 X0=true) (h1:Rl w a1 k1 X1) (z1:ShK 8 k1 X1) (f1:afB k1 X1=true) (h2:Rl w a2 k2 X2) (z2:ShK 8 k2 X2) (f2:afB k2 X2=true) (h3:Rl w a3 k3 X3) (z3:ShK 8 k3 X3) (f3:afB k3 X3=true) :
  Calls prog 49 #[agg #[slice a0 k0 c0,slice a1 k1 c1,slice a2 k2 c2,slice a3 k3 c3]] w λe w'=>∃b0 e0 b1 e1 b2 e2 b3 e3,e=.returned (agg #[slice b0 k0 e0,slice b1 k1 e1,slice b2 k2 e2,slice b3 k3 e3])/\Bl w w'/\Hid (Q4 (2*8) w' b0 b1 b2 b3 (zN k0 X0) (zN k1 X1) (zN k2 X2) (zN k3 X3)):=by
 have C0:=zk (λW (hW:Bl w W)=>zdM (cap:=c0) (h0.q_ hW) z0 f0);obtain⟨p0,hp0⟩:∃t,zN k0 X0=t:=⟨_,rfl⟩;rw[hp0]at C0 ⊢
 have C1:=zk (λW (hW:Bl w W)=>zdM (cap:=c1) (h1.q_ hW) z1 f1);obtain⟨p1,hp1⟩:∃t,zN k1 X1=t:=⟨_,rfl⟩;rw[hp1]at C1 ⊢
 have C2:=zk (λW (hW:Bl w W)=>zdM (cap:=c2) (h2.q_ hW) z2 f2);obtain⟨p2,hp2⟩:∃t,zN k2 X2=t:=⟨_,rfl⟩;rw[hp2]at C2 ⊢
 have C3:=zk (λW (hW:Bl w W)=>zdM (cap:=c3) (h3.q_ hW) z3 f3);obtain⟨p3,hp3⟩:∃t,zN k3 X3=t:=⟨_,rfl⟩;rw[hp3]at C3 ⊢
 clear h0 z0 f0 hp0 h1 z1 f1 hp1 h2 z2 f2 hp2 h3 z3 f3 hp3;have HB:=zk (zu (zA w (cells #[slice a0 k0 c0,slice a1 k1 c1,slice a2 k2 c2,slice a3 k3 c3] 31)) (cells #[slice none 0 0,slice none 0 0,slice none 0 0,slice none 0 0] 99));have BZ:=zk (zaV w (cells #[slice a0 k0 c0,slice a1 k1 c1,slice a2 k2 c2,slice a3 k3 c3] 31) [slice none 0 0,slice none 0 0,slice none 0 0,slice none 0 0] 99);obtain⟨t0,t1,t2,t3⟩:=bk4 ((zH w [slice a0 k0 c0,slice a1 k1 c1,slice a2 k2 c2,slice a3 k3 c3] 31).q_ (zA _ (cells #[slice none 0 0,slice none 0 0,slice none 0 0,slice none 0 0] 99)));go_enter func49,ntmps49;go_upto_region 1 with fail
 generalize(w.alloc (cells #[slice a0 k0 c0,slice a1 k1 c1,slice a2 k2 c2,slice a3 k3 c3] 31)).alloc (cells #[slice none 0 0,slice none 0 0,slice none 0 0,slice none 0 0] 99)=w1 at *;refine wp_region_held_drew (S:=(λw'=>w'.cell? ⟨w.heap.size,0,none⟩=some (slice a0 k0 c0)/\w'.cell? ⟨w.heap.size,1,none⟩=some (slice a1 k1 c1)/\w'.cell? ⟨w.heap.size,2,none⟩=some (slice a2 k2 c2)/\w'.cell? ⟨w.heap.size,3,none⟩=some (slice a3 k3 c3))) (by kernel_rfl) ?_ (λhHeld=>?_)
 ·(refine⟨?_,?_,?_,?_⟩ <;> repeat(with_reducible first|assumption|refine kCd ?_))
 have hbd:=Below.drew (Below.refl w1.heap.size w1);replace HB:=zI HB hbd;replace BZ:=zk (BZ.out.q_ hbd)
 generalize w1.drew=wd at *;clear hbd t0 t1 t2 t3;obtain⟨t0,t1,t2,t3⟩:=id hHeld;refine zB 0 ?_;refine zB 1 ?_;refine zB 3 ?_;simp only[zv,Act.put];refine zB 4 ?_;refine zB 6 ?_;refine zB 7 ?_;simp only[zv,Act.put];refine zB 9 ?_;refine zB 10 ?_;simp only[zv,Act.put];refine rdO 2 (λK hK=>?_);go_simp
 go_at_call 85
 refine(C0.out _ HB.out).mono ?_;rintro e w6 ⟨b0,e0,rfl,hb0,H0⟩
 (try go_wp2_with fail)
 refine hK.out _ _ ?_ (λhH0=>?_)
 ·((try dsimp only);(refine⟨?_,?_,?_,?_⟩ <;> repeat(with_reducible first|assumption|refine kCb (by assumption) ?_)))
 clear hK K;try simp only[zv,Act.put]
 replace HB:=zI HB hb0;replace BZ:=zk (BZ.out.q_ hb0)
 clear C0 t0 t1 t2 t3 hb0;obtain⟨t0,t1,t2,t3⟩:=id hH0;clear hHeld;refine rdO 5 (λK hK=>?_);go_simp
 go_at_call 85
 refine(C1.out _ HB.out).mono ?_;rintro e w7 ⟨b1,e1,rfl,hb1,H1⟩
 (try go_wp2_with fail)
 refine hK.out _ _ ?_ (λhH1=>?_)
 ·((try dsimp only);(refine⟨?_,?_,?_,?_⟩ <;> repeat(with_reducible first|assumption|refine kCb (by assumption) ?_)))
 clear hK K;try simp only[zv,Act.put]
 replace HB:=zI HB hb1;replace BZ:=zk (BZ.out.q_ hb1)
 replace H0:=zk (H0.out.q_ hb1);clear C1 t0 t1 t2 t3 hb1;obtain⟨t0,t1,t2,t3⟩:=id hH1;clear hH0;refine rdO 8 (λK hK=>?_);go_simp
 go_at_call 85
 refine(C2.out _ HB.out).mono ?_;rintro e w8 ⟨b2,e2,rfl,hb2,H2⟩
 (try go_wp2_with fail)
 refine hK.out _ _ ?_ (λhH2=>?_)
 ·((try dsimp only);(refine⟨?_,?_,?_,?_⟩ <;> repeat(with_reducible first|assumption|refine kCb (by assumption) ?_)))
 clear hK K;try simp only[zv,Act.put]
 replace HB:=zI HB hb2;replace BZ:=zk (BZ.out.q_ hb2)
 replace H0:=zk (H0.out.q_ hb2);replace H1:=zk (H1.out.q_ hb2);clear C2 t0 t1 t2 t3 hb2;obtain⟨t0,t1,t2,t3⟩:=id hH2;clear hH1;refine rdO 11 (λK hK=>?_);go_simp
 go_at_call 85
 refine(C3.out _ HB.out).mono ?_;rintro e w9 ⟨b3,e3,rfl,hb3,H3⟩
 (try go_wp2_with fail)
 refine hK.out _ _ ?_ (λhH3=>?_)
 ·((try dsimp only);(refine⟨?_,?_,?_,?_⟩ <;> repeat(with_reducible first|assumption|refine kCb (by assumption) ?_)))
 clear hK K;try simp only[zv,Act.put]
 replace HB:=zI HB hb3;replace BZ:=zk (BZ.out.q_ hb3)
 replace H0:=zk (H0.out.q_ hb3);replace H1:=zk (H1.out.q_ hb3);replace H2:=zk (H2.out.q_ hb3);clear C3 t0 t1 t2 t3 hb3;obtain⟨t0,t1,t2,t3⟩:=id hH3;clear hH2;refine zB 12 ?_;simp only[zv,Act.put];refine rdO 13 (λK hK=>?_);obtain⟨hx1,hx2,hx3,hbk⟩:=zle b0 k0 e0 b1 k1 e1 b2 k2 e2 b3 k3 e3 rfl (zM (λu hu q=>by simp at hu;rcases hu with rfl;simp)) BZ.out HB.out (by omega);obtain⟨l0,l1,l2,l3⟩:=bk4 BZ.out;have ff:=BZ.out.frozen;have G0:=H0.out.elsewhere BZ.out (λj b e=>by match j,e with|0,e=>cases e|1,e=>cases e|2,e=>cases e|3,e=>cases e|j+4,e=>simp at e) hx2 hx3;have G1:=H1.out.elsewhere BZ.out (λj b e=>by match j,e with|0,e=>cases e|1,e=>cases e|2,e=>cases e|3,e=>cases e|j+4,e=>simp at e) hx2 hx3;have G2:=H2.out.elsewhere BZ.out (λj b e=>by match j,e with|0,e=>cases e|1,e=>cases e|2,e=>cases e|3,e=>cases e|j+4,e=>simp at e) hx2 hx3;have G3:=H3.out.elsewhere BZ.out (λj b e=>by match j,e with|0,e=>cases e|1,e=>cases e|2,e=>cases e|3,e=>cases e|j+4,e=>simp at e) hx2 hx3;have HQ:=zk (Q4.mk G0 G1 G2 G3);clear G0 G1 G2 G3 H0 H1 H2 H3;go_simp;obtain⟨z0,z1,z2,z3⟩:=bk4 hbk;generalize((((w9.setCell ⟨w.heap.size+1,0,none⟩ (slice b0 k0 e0)).setCell ⟨w.heap.size+1,1,none⟩ (slice b1 k1 e1)).setCell ⟨w.heap.size+1,2,none⟩ (slice b2 k2 e2)).setCell ⟨w.heap.size+1,3,none⟩ (slice b3 k3 e3))=zF at *;have HX:=zk hx1;refine hK.out _ _ ?_ (λhHd=>?_)
 ·exact⟨(cell?_of_block (a:=⟨w.heap.size,0,none⟩) (hx3 (w.heap.size) (by omega))).trans t0,(cell?_of_block (a:=⟨w.heap.size,1,none⟩) (hx3 (w.heap.size) (by omega))).trans t1,(cell?_of_block (a:=⟨w.heap.size,2,none⟩) (hx3 (w.heap.size) (by omega))).trans t2,(cell?_of_block (a:=⟨w.heap.size,3,none⟩) (hx3 (w.heap.size) (by omega))).trans t3⟩
 clear hK K;try simp only[zv,Act.put]
 refine dnO ?_;clear hHd hH3 hx1 hx2 hx3 hbk ff l0 l1 l2 l3 BZ t0 t1 t2 t3;go_wp2;exact bodyPost_ret (v:=agg #[slice b0 k0 e0,slice b1 k1 e1,slice b2 k2 e2,slice b3 k3 e3]) (by simp[results,results49,go_sem,z0,z1,z2,z3]) rfl ⟨b0,e0,b1,e1,b2,e2,b3,e3,rfl,HX.out,HQ⟩
theorem zcH {c} {q:Rat} (h:Ord c q.num 0):(c != 0)=decide (q≠0):=by
 rcases qnum_ord h with⟨rfl,k⟩|⟨rfl,k⟩|⟨rfl,k⟩
 ·rw[decide_eq_true (show q≠0 from λe=>by subst e;exact Rat.lt_irrefl k)];rfl
 ·rw[decide_eq_false (show ¬q≠0 from λe=>e k)];rfl
 ·rw[decide_eq_true (show q≠0 from λe=>by subst e;exact Rat.lt_irrefl k)];rfl
def frQ (i1 i2:Int) (a b:Rat):Bool:=(decide (i1≠0) && decide (a≠0)) || (decide (i2≠0) && decide (b≠0))
theorem zkP {cs:List CV} {l2 l3:List Rat} {i v a b} (hv:cs[i]?=some v) (ha:l2[i]?=some a) (hb:l3[i]?=some b):(bdC 0 (cs.take (i+1)) (l2.take (i+1)) (l3.take (i+1))).any infB=((bdC 0 (cs.take i) (l2.take i) (l3.take i)).any infB || frQ v.li v.hi a b):=by
 rw[zdR i 0 cs l2 l3 v a b hv ha hb,List.any_append,List.any_append,Bool.or_assoc];simp[infB,frQ]
theorem zkM {rs:List RV} {l0 l1:List Rat} {i v a b} (hv:rs[i]?=some v) (ha:l0[i]?=some a) (hb:l1[i]?=some b):(bdR (rs.take (i+1)) (l0.take (i+1)) (l1.take (i+1))).any infB=((bdR (rs.take i) (l0.take i) (l1.take i)).any infB || frQ v.li v.hi a b):=by
 rw[zcD i rs l0 l1 v a b hv ha hb,List.any_append,List.any_append,Bool.or_assoc];simp[infB,frQ]
theorem zkN:∀(i:Nat) (j:Int) (cs:List CV) (ps qs:List Rat) (t:BV),t ∈ bdC j (cs.take i) (ps.take i) (qs.take i)->t ∈ bdC j cs ps qs
 | 0,_,_,_,_,_,h=>by simp[bdC]at h
 | _+1,_,[],_,_,_,h=>by simp[bdC]at h
 | _+1,_,_ :: _,[],_,_,h=>by simp[bdC]at h
 | _+1,_,_ :: _,_ :: _,[],_,h=>by simp[bdC]at h
 | i+1,j,v :: cs,p :: ps,q :: qs,t,h=>by
  simp only[List.take_succ_cons,bdC,List.mem_cons]at h ⊢;rcases h with h|h|h
  ·exact .inl h
  ·exact .inr (.inl h)
  ·exact .inr (.inr (zkN i (j+1) cs ps qs t h))
theorem zkL:∀(i:Nat) (rs:List RV) (ps qs:List Rat) (t:BV),t ∈ bdR (rs.take i) (ps.take i) (qs.take i)->t ∈ bdR rs ps qs
 | 0,_,_,_,_,h=>by simp[bdR]at h
 | _+1,[],_,_,_,h=>by simp[bdR]at h
 | _+1,_ :: _,[],_,_,h=>by simp[bdR]at h
 | _+1,_ :: _,_ :: _,[],_,h=>by simp[bdR]at h
 | i+1,v :: rs,p :: ps,q :: qs,t,h=>by
  simp only[List.take_succ_cons,bdR,List.mem_cons]at h ⊢;rcases h with h|h|h
  ·exact .inl h
  ·exact .inr (.inl h)
  ·exact .inr (.inr (zkL i rs ps qs t h))
theorem znw {cs l2 l3} {i:Nat} {v a b} (hv:cs[i]?=some v) (ha:l2[i]?=some a) (hb:l3[i]?=some b) (h:frQ v.li v.hi a b=true):(bdC 0 cs l2 l3).any infB=true:=by
 have h1:=zkP hv ha hb;rw[h,Bool.or_true]at h1
 obtain⟨t,h2,h3⟩:=List.any_eq_true.1 h1;refine List.any_eq_true.2 ⟨t,?_,h3⟩;exact zkN (i+1) 0 cs l2 l3 t h2
theorem znv {rs l0 l1} {i:Nat} {v a b} (hv:rs[i]?=some v) (ha:l0[i]?=some a) (hb:l1[i]?=some b) (h:frQ v.li v.hi a b=true):(bdR rs l0 l1).any infB=true:=by
 have h1:=zkM hv ha hb;rw[h,Bool.or_true]at h1
 obtain⟨t,h2,h3⟩:=List.any_eq_true.1 h1;refine List.any_eq_true.2 ⟨t,?_,h3⟩;exact zkL (i+1) rs l0 l1 t h2
theorem zpa {w L M off cs rs b0 b1 b2 b3 e0 e1 e2 e3 l0 l1 l2 l3} (h:MqV (2*L) w M off cs rs) (hq:Q4 (2*L) w b0 b1 b2 b3 l0 l1 l2 l3) (n0:l0.length=rs.length) (n1:l1.length=rs.length) (n2:l2.length=cs.length) (n3:l3.length=cs.length) (hm:MvP cs rs) (hL:L<=100) :
  Calls prog 47 #[M.val,agg #[slice b0 rs.length e0,slice b1 rs.length e1,slice b2 cs.length e2,slice b3 cs.length e3]] w λe w'=>e=.returned (.bool ((bdA cs rs l0 l1 l2 l3).any infB))/\Bl w w':=by
 have hcl:=hm.cl;have hrl:=hm.rl;obtain⟨fc,hfc⟩:∃t,(bdC 0 cs l2 l3).any infB=t:=⟨_,rfl⟩;obtain⟨fr,hfr⟩:∃t,(bdR rs l0 l1).any infB=t:=⟨_,rfl⟩;have hA:(bdA cs rs l0 l1 l2 l3).any infB=(fr || fc):=by unfold bdA;rw[List.any_append,hfr,hfc]
 rw[hA];have HFC:=zk hfc;have HFR:=zk hfr
 clear hA hfc hfr;obtain⟨⟨s,x,n,c,f,y,m,d,g⟩,ca,ck,cc,C,ra,rk,rc,R⟩:=M;have hck:ck=cs.length:=h.ck;have hrk:rk=rs.length:=h.rk;subst hck;subst hrk;have HC:Hid (∀j v,cs[j]?=some v->(∃b o,ca=some ⟨b,o,none⟩/\Cs w b (o+j*12) (C j).vs)/\QcV (2*L) w (C j) v):=h.cls;have HR:Hid (∀j v,rs[j]?=some v->(∃b o,ra=some ⟨b,o,none⟩/\Cs w b (o+j*10) (R j).vs)/\QrV (2*L) w (R j) v):=h.rls;have HQ:=zk hq;clear h hq hm;show Calls prog 47 #[agg #[.bool s,slice x n c,slice y m d,slice ca cs.length cc,slice ra rs.length rc],agg #[slice b0 rs.length e0,slice b1 rs.length e1,slice b2 cs.length e2,slice b3 cs.length e3]] w _;have HB0:=zk (zu (zA w (cells #[.bool s,slice x n c,slice y m d,slice ca cs.length cc,slice ra rs.length rc] 95)) (cells #[slice b0 rs.length e0,slice b1 rs.length e1,slice b2 cs.length e2,slice b3 cs.length e3] 99));have BM:=zk ((zH w [.bool s,slice x n c,slice y m d,slice ca cs.length cc,slice ra rs.length rc] 95).q_ (zA _ (cells #[slice b0 rs.length e0,slice b1 rs.length e1,slice b2 cs.length e2,slice b3 cs.length e3] 99)));have BC:=zk (zaV w (cells #[.bool s,slice x n c,slice y m d,slice ca cs.length cc,slice ra rs.length rc] 95) [slice b0 rs.length e0,slice b1 rs.length e1,slice b2 cs.length e2,slice b3 cs.length e3] 99);have r3:=BM.out.cell (j:=3) rfl;go_enter func47,ntmps47;go_wp2_with fail
 clear r3;generalize(w.alloc (cells #[.bool s,slice x n c,slice y m d,slice ca cs.length cc,slice ra rs.length rc] 95)).alloc (cells #[slice b0 rs.length e0,slice b1 rs.length e1,slice b2 cs.length e2,slice b3 cs.length e3] 99)=w1 at *;go_loopw[12] (λt wr=>∃(i:Nat),i<=cs.length/\t=.int .i64 i/\Hid (Bl w wr)/\Hid (Bl w1 wr)/\Hid ((bdC 0 (cs.take i) (l2.take i) (l3.take i)).any infB=false)) (λt _=>cs.length-(intOf t).toNat)
 case atStart=>exact⟨0,by omega,rfl,HB0.out,Below.refl _ _,rfl⟩
 case round =>
  clear HB0;obtain⟨i,hi,rfl,HB,HW,HT⟩:=hrel;by_cases hlt:i<cs.length
  ·obtain⟨v,hv⟩:∃v,cs[i]?=some v:=⟨_,getElem?_eq_getElem hlt⟩;obtain⟨aq,haq⟩:∃t,l2[i]?=some t:=⟨_,getElem?_eq_getElem (by omega)⟩;obtain⟨bq,hbq⟩:∃t,l3[i]?=some t:=⟨_,getElem?_eq_getElem (by omega)⟩;obtain⟨⟨b,o,hca,hc0⟩,hn⟩:=HC.out i v hv;subst hca;have hc:=hc0.q_ HB.out;obtain⟨b5,o5,⟨s5,x5,n5,c5,f5,y5,m5,d5,g5⟩,h5,hz5,hq5⟩:=(HQ.out.q_ HB.out).q2 i aq haq;subst h5;obtain⟨b6,o6,⟨s6,x6,n6,c6,f6,y6,m6,d6,g6⟩,h6,hz6,hq6⟩:=(HQ.out.q_ HB.out).q3 i bq hbq;subst h6;have hli:=hn.li;have hhi:=hn.hi
   have HTR:=zk (znw hv haq hbq);have HIN:=zk (zkP hv haq hbq);clear hv haq hbq hn;obtain⟨⟨z,⟨s0,x0,n0,c0,f0,y0,m0,d0,g0⟩,⟨i1,⟨s1,x1,n1,c1,f1,y1,m1,d1,g1⟩⟩,⟨i2,⟨s2,x2,n2,c2,f2,y2,m2,d2,g2⟩⟩⟩,hCi⟩:∃t,C i=t:=⟨_,rfl⟩;rw[hCi]at hc hli hhi
   replace hli:i1=v.li:=hli;replace hhi:i2=v.hi:=hhi
   rw[<-hli,<-hhi]at HTR HIN
   clear hli hhi hCi hc0;obtain⟨q0,q1,q2,q3,q4,q5,q6,q7,q8,q9,q10,q11⟩:=hc.lc;obtain⟨u50,u51,u52⟩:=hz5;replace u50:wr.cell? ⟨b5,o5+i*3,none⟩=some (.bool s5):=u50;replace u51:wr.cell? ⟨b5,o5+i*3+1,none⟩=some (slice x5 n5 c5):=u51;replace u52:wr.cell? ⟨b5,o5+i*3+2,none⟩=some (slice y5 m5 d5):=u52;obtain⟨u60,u61,u62⟩:=hz6;replace u60:wr.cell? ⟨b6,o6+i*3,none⟩=some (.bool s6):=u60;replace u61:wr.cell? ⟨b6,o6+i*3+1,none⟩=some (slice x6 n6 c6):=u61;replace u62:wr.cell? ⟨b6,o6+i*3+2,none⟩=some (slice y6 m6 d6):=u62;have i1':((i:Nat):Int)<((cs.length:Nat):Int):=by omega
   have hbt:=zA wr (cells #[.string z,.bool s0,slice x0 n0 c0,slice y0 m0 d0,.int .i64 i1,.bool s1,slice x1 n1 c1,slice y1 m1 d1,.int .i64 i2,.bool s2,slice x2 n2 c2,slice y2 m2 d2] 138);have BX:=zH wr [.string z,.bool s0,slice x0 n0 c0,slice y0 m0 d0,.int .i64 i1,.bool s1,slice x1 n1 c1,slice y1 m1 d1,.int .i64 i2,.bool s2,slice x2 n2 c2,slice y2 m2 d2] 138;clear hc;go_upto_region 4 with fail
   clear q0 q1 q2 q3 q4 q5 q6 q7 q8 q9 q10 q11;replace u50:=kCb hbt u50;replace u51:=kCb hbt u51;replace u52:=kCb hbt u52;replace u60:=kCb hbt u60;replace u61:=kCb hbt u61;replace u62:=kCb hbt u62;obtain⟨-,-,-,-,p0,-,-,-,p1⟩:=bk9 BX;have BC5:=(BC.out.q_ HW.out).q_ hbt;obtain⟨k0,k1,k2,k3⟩:=bk4 BC5;have HQ5:=zk (hq5.q_ hbt);have HQ6:=zk (hq6.q_ hbt)
   replace HB:=zI HB hbt;replace HW:=zI HW hbt
   clear hbt BX BC5 hq5 hq6;generalize hbx:wr.heap.size=bx at *;generalize(wr.alloc (cells #[.string z,.bool s0,slice x0 n0 c0,slice y0 m0 d0,.int .i64 i1,.bool s1,slice x1 n1 c1,slice y1 m1 d1,.int .i64 i2,.bool s2,slice x2 n2 c2,slice y2 m2 d2] 138))=w5 at *;clear hbx;by_cases hz1:i1=0
   case pos =>
    have j1:(i1 != 0)=false:=by simp[hz1]
    have Z1:=zk hz1;clear hz1;by_cases hz2:i2=0
    case pos =>
     have j2:(i2 != 0)=false:=by simp[hz2]
     have Z2:=zk hz2;clear hz2;have HT2:Hid ((bdC 0 (cs.take (i+1)) (l2.take (i+1)) (l3.take (i+1))).any infB=false):=by show _=_;rw[HIN.out,HT.out];simp[frQ,Z2.out,Z1.out]
     clear HT HIN HTR;go_wp2;go_roundw
     case rel=>exact⟨i+1,by omega,by go_num,HB.out,HW.out,HT2.out⟩
     case measure=>simp[intOf];omega
    have j2:(i2 != 0)=true:=by simpa using hz2
    have Z2:=zk hz2;clear hz2;go_wp2_with fail
    refine(zce HQ6.out.2.2 (le_trans HQ6.out.1 (by omega))).mono ?_;rintro e w7b ⟨cc7b,rfl,hb,ho⟩;have hs7b:=zcH ho;replace HB:=zI HB hb;replace HW:=zI HW hb
    replace p0:=kCb hb p0;replace p1:=kCb hb p1;replace k0:=kCb hb k0;replace k1:=kCb hb k1;replace k2:=kCb hb k2;replace k3:=kCb hb k3;replace u50:=kCb hb u50;replace u51:=kCb hb u51;replace u52:=kCb hb u52;replace u60:=kCb hb u60;replace u61:=kCb hb u61;replace u62:=kCb hb u62;replace HQ5:=zk (HQ5.out.q_ hb);replace HQ6:=zk (HQ6.out.q_ hb)
    clear hb ho;by_cases hb2:bq=0
    case pos =>
     rw[decide_eq_false (by simpa using hb2)]at hs7b
     have B2:=zk hb2;clear hb2;have HT2:Hid ((bdC 0 (cs.take (i+1)) (l2.take (i+1)) (l3.take (i+1))).any infB=false):=by show _=_;rw[HIN.out,HT.out];simp[frQ,B2.out,Z1.out]
     clear HT HIN HTR;go_wp2;go_roundw
     case rel=>exact⟨i+1,by omega,by go_num,HB.out,HW.out,HT2.out⟩
     case measure=>simp[intOf];omega
    rw[decide_eq_true hb2]at hs7b
    have B2:=zk hb2;clear hb2;have HF:Hid (fc=true):=by show _=_;rw[<-HFC.out];exact HTR.out (by simp[frQ,Z2.out,B2.out])
    clear HT HIN HTR;go_wp2;go_ret;exact⟨by rw[HF.out];simp,HB.out⟩
   have j1:(i1 != 0)=true:=by simpa using hz1
   have Z1:=zk hz1;clear hz1;go_wp2_with fail
   refine(zce HQ5.out.2.2 (le_trans HQ5.out.1 (by omega))).mono ?_;rintro e w7a ⟨cc7a,rfl,hb,ho⟩;have hs7a:=zcH ho;replace HB:=zI HB hb;replace HW:=zI HW hb
   replace p0:=kCb hb p0;replace p1:=kCb hb p1;replace k0:=kCb hb k0;replace k1:=kCb hb k1;replace k2:=kCb hb k2;replace k3:=kCb hb k3;replace u50:=kCb hb u50;replace u51:=kCb hb u51;replace u52:=kCb hb u52;replace u60:=kCb hb u60;replace u61:=kCb hb u61;replace u62:=kCb hb u62;replace HQ5:=zk (HQ5.out.q_ hb);replace HQ6:=zk (HQ6.out.q_ hb)
   clear hb ho;by_cases ha2:aq=0
   case pos =>
    rw[decide_eq_false (by simpa using ha2)]at hs7a
    have A2:=zk ha2;clear ha2;by_cases hz2:i2=0
    case pos =>
     have j2:(i2 != 0)=false:=by simp[hz2]
     have Z2:=zk hz2;clear hz2;have HT2:Hid ((bdC 0 (cs.take (i+1)) (l2.take (i+1)) (l3.take (i+1))).any infB=false):=by show _=_;rw[HIN.out,HT.out];simp[frQ,Z2.out,A2.out]
     clear HT HIN HTR;go_wp2;go_roundw
     case rel=>exact⟨i+1,by omega,by go_num,HB.out,HW.out,HT2.out⟩
     case measure=>simp[intOf];omega
    have j2:(i2 != 0)=true:=by simpa using hz2
    have Z2:=zk hz2;clear hz2;go_wp2_with fail
    refine(zce HQ6.out.2.2 (le_trans HQ6.out.1 (by omega))).mono ?_;rintro e w8b ⟨cc8b,rfl,hb,ho⟩;have hs8b:=zcH ho;replace HB:=zI HB hb;replace HW:=zI HW hb
    replace p0:=kCb hb p0;replace p1:=kCb hb p1;replace k0:=kCb hb k0;replace k1:=kCb hb k1;replace k2:=kCb hb k2;replace k3:=kCb hb k3;replace u50:=kCb hb u50;replace u51:=kCb hb u51;replace u52:=kCb hb u52;replace u60:=kCb hb u60;replace u61:=kCb hb u61;replace u62:=kCb hb u62;replace HQ5:=zk (HQ5.out.q_ hb);replace HQ6:=zk (HQ6.out.q_ hb)
    clear hb ho;by_cases hb2:bq=0
    case pos =>
     rw[decide_eq_false (by simpa using hb2)]at hs8b
     have B2:=zk hb2;clear hb2;have HT2:Hid ((bdC 0 (cs.take (i+1)) (l2.take (i+1)) (l3.take (i+1))).any infB=false):=by show _=_;rw[HIN.out,HT.out];simp[frQ,B2.out,A2.out]
     clear HT HIN HTR;go_wp2;go_roundw
     case rel=>exact⟨i+1,by omega,by go_num,HB.out,HW.out,HT2.out⟩
     case measure=>simp[intOf];omega
    rw[decide_eq_true hb2]at hs8b
    have B2:=zk hb2;clear hb2;have HF:Hid (fc=true):=by show _=_;rw[<-HFC.out];exact HTR.out (by simp[frQ,Z2.out,B2.out])
    clear HT HIN HTR;go_wp2;go_ret;exact⟨by rw[HF.out];simp,HB.out⟩
   rw[decide_eq_true ha2]at hs7a
   have A2:=zk ha2;clear ha2;have HF:Hid (fc=true):=by show _=_;rw[<-HFC.out];exact HTR.out (by simp[frQ,Z1.out,A2.out])
   clear HT HIN HTR;go_wp2;go_ret;exact⟨by rw[HF.out];simp,HB.out⟩
  ·have e1:i=cs.length:=by omega
   have i4':¬(((i:Nat):Int)<((cs.length:Nat):Int)):=by omega
   have HF1:Hid (fc=false):=by show _=_;have:=HT.out;rw[e1,List.take_of_length_le (le_refl _),List.take_of_length_le (by omega),List.take_of_length_le (by omega)]at this;rw[<-HFC.out];exact this
   have r4:=(BM.out.q_ HW.out).cell (j:=4) rfl;clear e1 HT;go_wp2_with fail
   clear r4 i4' hi hlt;have HB0:=HB;have HW1:=HW
   clear HB HW;generalize wr=w3 at *;go_loopw[49] (λt wr=>∃(i:Nat),i<=rs.length/\t=.int .i64 i/\Hid (Bl w wr)/\Hid (Bl w1 wr)/\Hid ((bdR (rs.take i) (l0.take i) (l1.take i)).any infB=false)) (λt _=>rs.length-(intOf t).toNat)
   case atStart=>exact⟨0,by omega,rfl,HB0.out,HW1.out,rfl⟩
   case round =>
    clear HB0 HW1;obtain⟨i,hi,rfl,HB,HW,HT⟩:=hrel;by_cases hlt:i<rs.length
    ·obtain⟨v,hv⟩:∃v,rs[i]?=some v:=⟨_,getElem?_eq_getElem hlt⟩;obtain⟨aq,haq⟩:∃t,l0[i]?=some t:=⟨_,getElem?_eq_getElem (by omega)⟩;obtain⟨bq,hbq⟩:∃t,l1[i]?=some t:=⟨_,getElem?_eq_getElem (by omega)⟩;obtain⟨⟨b,o,hca,hc0⟩,hn⟩:=HR.out i v hv;subst hca;have hc:=hc0.q_ HB.out;obtain⟨b5,o5,⟨s5,x5,n5,c5,f5,y5,m5,d5,g5⟩,h5,hz5,hq5⟩:=(HQ.out.q_ HB.out).q0 i aq haq;subst h5;obtain⟨b6,o6,⟨s6,x6,n6,c6,f6,y6,m6,d6,g6⟩,h6,hz6,hq6⟩:=(HQ.out.q_ HB.out).q1 i bq hbq;subst h6;have hli:=hn.li;have hhi:=hn.hi
     have HTR:=zk (znv hv haq hbq);have HIN:=zk (zkM hv haq hbq);clear hv haq hbq hn;obtain⟨⟨z,⟨i1,⟨s1,x1,n1,c1,f1,y1,m1,d1,g1⟩⟩,⟨i2,⟨s2,x2,n2,c2,f2,y2,m2,d2,g2⟩⟩,ta,tk,tc,tcol,tt⟩,hCi⟩:∃t,R i=t:=⟨_,rfl⟩;rw[hCi]at hc hli hhi
     replace hli:i1=v.li:=hli;replace hhi:i2=v.hi:=hhi
     rw[<-hli,<-hhi]at HTR HIN
     clear hli hhi hCi hc0;obtain⟨q0,q1,q2,q3,q4,q5,q6,q7,q8,q9⟩:=hc.lr;obtain⟨u50,u51,u52⟩:=hz5;replace u50:wr.cell? ⟨b5,o5+i*3,none⟩=some (.bool s5):=u50;replace u51:wr.cell? ⟨b5,o5+i*3+1,none⟩=some (slice x5 n5 c5):=u51;replace u52:wr.cell? ⟨b5,o5+i*3+2,none⟩=some (slice y5 m5 d5):=u52;obtain⟨u60,u61,u62⟩:=hz6;replace u60:wr.cell? ⟨b6,o6+i*3,none⟩=some (.bool s6):=u60;replace u61:wr.cell? ⟨b6,o6+i*3+1,none⟩=some (slice x6 n6 c6):=u61;replace u62:wr.cell? ⟨b6,o6+i*3+2,none⟩=some (slice y6 m6 d6):=u62;have i1':((i:Nat):Int)<((rs.length:Nat):Int):=by omega
     have hbt:=zA wr (cells #[.string z,.int .i64 i1,.bool s1,slice x1 n1 c1,slice y1 m1 d1,.int .i64 i2,.bool s2,slice x2 n2 c2,slice y2 m2 d2,slice ta tk tc] 141);have BX:=zH wr [.string z,.int .i64 i1,.bool s1,slice x1 n1 c1,slice y1 m1 d1,.int .i64 i2,.bool s2,slice x2 n2 c2,slice y2 m2 d2,slice ta tk tc] 141;clear hc;go_upto_region 10 with fail
     clear q0 q1 q2 q3 q4 q5 q6 q7 q8 q9;replace u50:=kCb hbt u50;replace u51:=kCb hbt u51;replace u52:=kCb hbt u52;replace u60:=kCb hbt u60;replace u61:=kCb hbt u61;replace u62:=kCb hbt u62;obtain⟨-,p0,-,-,-,p1⟩:=bk6 BX;have BC5:=(BC.out.q_ HW.out).q_ hbt;obtain⟨k0,k1,k2,k3⟩:=bk4 BC5;have HQ5:=zk (hq5.q_ hbt);have HQ6:=zk (hq6.q_ hbt)
     replace HB:=zI HB hbt;replace HW:=zI HW hbt
     clear hbt BX BC5 hq5 hq6;generalize hbx:wr.heap.size=bx at *;generalize(wr.alloc (cells #[.string z,.int .i64 i1,.bool s1,slice x1 n1 c1,slice y1 m1 d1,.int .i64 i2,.bool s2,slice x2 n2 c2,slice y2 m2 d2,slice ta tk tc] 141))=w5 at *;clear hbx;by_cases hz1:i1=0
     case pos =>
      have j1:(i1 != 0)=false:=by simp[hz1]
      have Z1:=zk hz1;clear hz1;by_cases hz2:i2=0
      case pos =>
       have j2:(i2 != 0)=false:=by simp[hz2]
       have Z2:=zk hz2;clear hz2;have HT2:Hid ((bdR (rs.take (i+1)) (l0.take (i+1)) (l1.take (i+1))).any infB=false):=by show _=_;rw[HIN.out,HT.out];simp[frQ,Z2.out,Z1.out]
       clear HT HIN HTR;go_wp2;go_roundw
       case rel=>exact⟨i+1,by omega,by go_num,HB.out,HW.out,HT2.out⟩
       case measure=>simp[intOf];omega
      have j2:(i2 != 0)=true:=by simpa using hz2
      have Z2:=zk hz2;clear hz2;go_wp2_with fail
      refine(zce HQ6.out.2.2 (le_trans HQ6.out.1 (by omega))).mono ?_;rintro e w7b ⟨cc7b,rfl,hb,ho⟩;have hs7b:=zcH ho;replace HB:=zI HB hb;replace HW:=zI HW hb
      replace p0:=kCb hb p0;replace p1:=kCb hb p1;replace k0:=kCb hb k0;replace k1:=kCb hb k1;replace k2:=kCb hb k2;replace k3:=kCb hb k3;replace u50:=kCb hb u50;replace u51:=kCb hb u51;replace u52:=kCb hb u52;replace u60:=kCb hb u60;replace u61:=kCb hb u61;replace u62:=kCb hb u62;replace HQ5:=zk (HQ5.out.q_ hb);replace HQ6:=zk (HQ6.out.q_ hb)
      clear hb ho;by_cases hb2:bq=0
      case pos =>
       rw[decide_eq_false (by simpa using hb2)]at hs7b
       have B2:=zk hb2;clear hb2;have HT2:Hid ((bdR (rs.take (i+1)) (l0.take (i+1)) (l1.take (i+1))).any infB=false):=by show _=_;rw[HIN.out,HT.out];simp[frQ,B2.out,Z1.out]
       clear HT HIN HTR;go_wp2;go_roundw
       case rel=>exact⟨i+1,by omega,by go_num,HB.out,HW.out,HT2.out⟩
       case measure=>simp[intOf];omega
      rw[decide_eq_true hb2]at hs7b
      have B2:=zk hb2;clear hb2;have HF:Hid (fr=true):=by show _=_;rw[<-HFR.out];exact HTR.out (by simp[frQ,Z2.out,B2.out])
      clear HT HIN HTR;go_wp2;go_ret;exact⟨by rw[HF.out];simp,HB.out⟩
     have j1:(i1 != 0)=true:=by simpa using hz1
     have Z1:=zk hz1;clear hz1;go_wp2_with fail
     refine(zce HQ5.out.2.2 (le_trans HQ5.out.1 (by omega))).mono ?_;rintro e w7a ⟨cc7a,rfl,hb,ho⟩;have hs7a:=zcH ho;replace HB:=zI HB hb;replace HW:=zI HW hb
     replace p0:=kCb hb p0;replace p1:=kCb hb p1;replace k0:=kCb hb k0;replace k1:=kCb hb k1;replace k2:=kCb hb k2;replace k3:=kCb hb k3;replace u50:=kCb hb u50;replace u51:=kCb hb u51;replace u52:=kCb hb u52;replace u60:=kCb hb u60;replace u61:=kCb hb u61;replace u62:=kCb hb u62;replace HQ5:=zk (HQ5.out.q_ hb);replace HQ6:=zk (HQ6.out.q_ hb)
     clear hb ho;by_cases ha2:aq=0
     case pos =>
      rw[decide_eq_false (by simpa using ha2)]at hs7a
      have A2:=zk ha2;clear ha2;by_cases hz2:i2=0
      case pos =>
       have j2:(i2 != 0)=false:=by simp[hz2]
       have Z2:=zk hz2;clear hz2;have HT2:Hid ((bdR (rs.take (i+1)) (l0.take (i+1)) (l1.take (i+1))).any infB=false):=by show _=_;rw[HIN.out,HT.out];simp[frQ,Z2.out,A2.out]
       clear HT HIN HTR;go_wp2;go_roundw
       case rel=>exact⟨i+1,by omega,by go_num,HB.out,HW.out,HT2.out⟩
       case measure=>simp[intOf];omega
      have j2:(i2 != 0)=true:=by simpa using hz2
      have Z2:=zk hz2;clear hz2;go_wp2_with fail
      refine(zce HQ6.out.2.2 (le_trans HQ6.out.1 (by omega))).mono ?_;rintro e w8b ⟨cc8b,rfl,hb,ho⟩;have hs8b:=zcH ho;replace HB:=zI HB hb;replace HW:=zI HW hb
      replace p0:=kCb hb p0;replace p1:=kCb hb p1;replace k0:=kCb hb k0;replace k1:=kCb hb k1;replace k2:=kCb hb k2;replace k3:=kCb hb k3;replace u50:=kCb hb u50;replace u51:=kCb hb u51;replace u52:=kCb hb u52;replace u60:=kCb hb u60;replace u61:=kCb hb u61;replace u62:=kCb hb u62;replace HQ5:=zk (HQ5.out.q_ hb);replace HQ6:=zk (HQ6.out.q_ hb)
      clear hb ho;by_cases hb2:bq=0
      case pos =>
       rw[decide_eq_false (by simpa using hb2)]at hs8b
       have B2:=zk hb2;clear hb2;have HT2:Hid ((bdR (rs.take (i+1)) (l0.take (i+1)) (l1.take (i+1))).any infB=false):=by show _=_;rw[HIN.out,HT.out];simp[frQ,B2.out,A2.out]
       clear HT HIN HTR;go_wp2;go_roundw
       case rel=>exact⟨i+1,by omega,by go_num,HB.out,HW.out,HT2.out⟩
       case measure=>simp[intOf];omega
      rw[decide_eq_true hb2]at hs8b
      have B2:=zk hb2;clear hb2;have HF:Hid (fr=true):=by show _=_;rw[<-HFR.out];exact HTR.out (by simp[frQ,Z2.out,B2.out])
      clear HT HIN HTR;go_wp2;go_ret;exact⟨by rw[HF.out];simp,HB.out⟩
     rw[decide_eq_true ha2]at hs7a
     have A2:=zk ha2;clear ha2;have HF:Hid (fr=true):=by show _=_;rw[<-HFR.out];exact HTR.out (by simp[frQ,Z1.out,A2.out])
     clear HT HIN HTR;go_wp2;go_ret;exact⟨by rw[HF.out];simp,HB.out⟩
    ·have e1:i=rs.length:=by omega
     have i4':¬(((i:Nat):Int)<((rs.length:Nat):Int)):=by omega
     have HF2:Hid (fr=false):=by show _=_;have:=HT.out;rw[e1,List.take_of_length_le (le_refl _),List.take_of_length_le (by omega),List.take_of_length_le (by omega)]at this;rw[<-HFR.out];exact this
     clear e1 HT;go_wp2;go_ret;exact⟨by rw[HF1.out,HF2.out];rfl,HB.out⟩
def KX (L:Nat):Nat:=2*(1+128*(2*L+2))+5*L+10
theorem zeP {f B}:∀{l:List BV},(∀b ∈ l,Lo B (f b))->Lo (1+l.length*(B+1)) (sumF f l)
 | [],_=>(zgs (L:=1) (le_refl 1)).mono (Nat.le_add_right _ _)
 | b :: l,h=>(zci (h b List.mem_cons_self) (zeP (λp hp=>h p (List.mem_cons_of_mem _ hp)))).mono (by rw[List.length_cons,Nat.add_mul];omega)
theorem zju:∀{rs:List RV} {ps qs:List Rat} {b:BV},b ∈ bdR rs ps qs->∃v ∈ rs,(b.q ∈ ps/\b.a=v.lq∨b.q ∈ qs/\b.a=v.hq)/\b.ts=v.ts
 | [],_,_,_,h=>by simp[bdR]at h
 | _ :: _,[],_,_,h=>by simp[bdR]at h
 | _ :: _,_ :: _,[],_,h=>by simp[bdR]at h
 | v :: rs,p :: ps,q :: qs,b,h=>by
  simp only[bdR,List.mem_cons]at h;rcases h with rfl|rfl|h
  ·exact⟨v,List.mem_cons_self,.inl ⟨List.mem_cons_self,rfl⟩,rfl⟩
  ·exact⟨v,List.mem_cons_self,.inr ⟨List.mem_cons_self,rfl⟩,rfl⟩
  ·obtain⟨v',h1,h2,h3⟩:=zju h;refine⟨v',List.mem_cons_of_mem _ h1,?_,h3⟩;rcases h2 with⟨h2,e⟩|⟨h2,e⟩
   ·exact .inl ⟨List.mem_cons_of_mem _ h2,e⟩
   ·exact .inr ⟨List.mem_cons_of_mem _ h2,e⟩
theorem zoa:∀{j:Int} {cs:List CV} {ps qs:List Rat} {b:BV},b ∈ bdC j cs ps qs->∃v ∈ cs,b.q ∈ ps/\b.a=v.lq∨b.q ∈ qs/\b.a=v.hq
 | _,[],_,_,_,h=>by simp[bdC]at h
 | _,_ :: _,[],_,_,h=>by simp[bdC]at h
 | _,_ :: _,_ :: _,[],_,h=>by simp[bdC]at h
 | j,v :: cs,p :: ps,q :: qs,b,h=>by
  simp only[bdC,List.mem_cons]at h;rcases h with rfl|rfl|h
  ·exact⟨v,List.mem_cons_self,.inl ⟨List.mem_cons_self,rfl⟩⟩
  ·exact⟨v,List.mem_cons_self,.inr ⟨List.mem_cons_self,rfl⟩⟩
  ·obtain⟨v',h1,h2⟩:=zoa h;refine⟨v',List.mem_cons_of_mem _ h1,?_⟩;rcases h2 with⟨h2,e⟩|⟨h2,e⟩
   ·exact .inl ⟨List.mem_cons_of_mem _ h2,e⟩
   ·exact .inr ⟨List.mem_cons_of_mem _ h2,e⟩
def ciQ (l2 l3:List Rat) (j:Nat):Rat:=l2.getD j 0-l3.getD j 0
theorem zkO:∀{cs:List CV} {ps qs:List Rat} {z j:Nat},j<z->cmbQ (bdC (z:Int) cs ps qs) j=0
 | [],_,_,_,_,_=>rfl
 | _ :: _,[],_,_,_,_=>rfl
 | _ :: _,_ :: _,[],_,_,_=>rfl
 | v :: cs,p :: ps,q :: qs,z,j,h=>by
  show wtQ _*((if (z:Int)=(j:Int) then (1:Rat) else 0)+0)+(wtQ _*((if (z:Int)=(j:Int) then (1:Rat) else 0)+0)+cmbQ (bdC ((z:Int)+1) cs ps qs) j)=0;rw[if_neg (by omega),show((z:Int)+1)=((z+1:Nat):Int)from rfl,zkO (by omega)]
  grind
theorem zkQ:∀{cs:List CV} {ps qs:List Rat} {z j:Nat},ps.length=cs.length->qs.length=cs.length->cmbQ (bdC (z:Int) cs ps qs) (z+j)=ciQ ps qs j
 | [],[],[],z,j,_,_=>by show(0:Rat)=0-0;grind
 | v :: cs,p :: ps,q :: qs,z,0,h1,h2=>by
  show wtQ _*((if (z:Int)=((z+0:Nat):Int) then (1:Rat) else 0)+0)+(wtQ _*((if (z:Int)=((z+0:Nat):Int) then (1:Rat) else 0)+0)+cmbQ (bdC ((z:Int)+1) cs ps qs) (z+0))=p-q;rw[if_pos (by simp),show((z:Int)+1)=((z+1:Nat):Int)from rfl,zkO (by omega)];simp only[wtQ]
  grind
 | v :: cs,p :: ps,q :: qs,z,j+1,h1,h2=>by
  show wtQ _*((if (z:Int)=((z+(j+1):Nat):Int) then (1:Rat) else 0)+0)+(wtQ _*((if (z:Int)=((z+(j+1):Nat):Int) then (1:Rat) else 0)+0)+cmbQ (bdC ((z:Int)+1) cs ps qs) (z+(j+1)))=ciQ ps qs j;rw[if_neg (by omega),show((z:Int)+1)=((z+1:Nat):Int)from rfl,show z+(j+1)=(z+1)+j by omega,zkQ (by simpa using h1) (by simpa using h2)]
  grind
def coQ (rs:List RV) (l0 l1 l2 l3:List Rat) (i j:Nat):Rat:=ciQ l2 l3 j+cmbQ (bdR (rs.take i) (l0.take i) (l1.take i)) j
def ctQ (rs:List RV) (l0 l1 l2 l3:List Rat) (i:Nat) (d:Rat) (ts:List (Int × Rat)) (j:Nat):Rat:=coQ rs l0 l1 l2 l3 i j+d*coefT ts j
theorem znL (rs:List RV) (l0 l1 l2 l3:List Rat):coQ rs l0 l1 l2 l3 0=ciQ l2 l3:=by
 funext j;show ciQ l2 l3 j+0=_;grind
theorem zpH (rs:List RV) (l0 l1 l2 l3:List Rat) (i:Nat) (d:Rat) (ts:List (Int × Rat)):ctQ rs l0 l1 l2 l3 i d (ts.take 0)=coQ rs l0 l1 l2 l3 i:=by
 funext j;show coQ rs l0 l1 l2 l3 i j+d*0=_;grind
theorem zpG {rs l0 l1} (l2 l3:List Rat) {i v p q} (h:rs[i]?=some v) (h0:l0[i]?=some p) (h1:l1[i]?=some q):ctQ rs l0 l1 l2 l3 i (p-q) v.ts=coQ rs l0 l1 l2 l3 (i+1):=by
 funext j
 unfold ctQ coQ;rw[zcD i rs l0 l1 v p q h h0 h1];show _=ciQ l2 l3 j+sumF _ (_++[_]++[_]);rw[zaE,zaE];show _+cmbQ _ j+_=_+(cmbQ _ j+wtQ _*_+wtQ _*_);simp only[wtQ]
 grind
theorem znI {rs l0 l1 l2 l3 i d} {ts:List (Int × Rat)} {p zn:Nat} {a} (h:ts[p]?=some ((zn:Int),a)) (j:Nat):ctQ rs l0 l1 l2 l3 i d (ts.take (p+1)) j=if zn=j then ctQ rs l0 l1 l2 l3 i d (ts.take p) j+d*a else ctQ rs l0 l1 l2 l3 i d (ts.take p) j:=by
 unfold ctQ;rw[List.take_add_one,h];show _+d*coefT (_++[_]) j=_;rw[zdn];by_cases e:zn=j
 ·rw[if_pos e,if_pos (by omega)];grind
 ·rw[if_neg e,if_neg (by omega)];grind
theorem zkr {L} {l:List Rat} (hL:1<=L) (h:∀q ∈ l,Lo L q) (j:Nat):Lo L (l.getD j 0):=by
 rw[List.getD_eq_getElem?_getD];cases e:l[j]? with
 | none=>exact zgs hL
 | some q=>exact h q (List.mem_of_getElem? e)
theorem znM {L l2 l3} (hL:1<=L) (h2:∀q ∈ l2,Lo L q) (h3:∀q ∈ l3,Lo L q) (j:Nat):Lo (L+L+1) (ciQ l2 l3 j):=by
 have:=zci (zkr hL h2 j) (zhr (zkr hL h3 j));unfold ciQ
 rwa[<-Rat.sub_eq_add_neg]at this
theorem znY {rs:List RV} {p q:List Rat} (h:rs.length<=64) (i:Nat):(bdR (rs.take i) (p.take i) (q.take i)).length<=128:=by
 have:=zfq (rs.take i) (p.take i) (q.take i);rw[List.length_take]at this;omega
theorem zpP {cs:List CV} {p q:List Rat} (h:cs.length<=64) (i:Nat):(bdC 0 (cs.take i) (p.take i) (q.take i)).length<=128:=by
 have:=zhL 0 (cs.take i) (p.take i) (q.take i);rw[List.length_take]at this;omega
structure LoC (L:Nat) (cs:List CV) (rs:List RV) (l0 l1 l2 l3:List Rat):Prop where
 p:1<=L
 a0:∀q ∈ l0,Lo L q
 a1:∀q ∈ l1,Lo L q
 a2:∀q ∈ l2,Lo L q
 a3:∀q ∈ l3,Lo L q
 cb:∀v ∈ cs,Lo L v.lq/\Lo L v.hq
 rb:∀v ∈ rs,Lo L v.lq/\Lo L v.hq
 ts:∀v ∈ rs,∀t ∈ v.ts,Lo L t.2
 tb:∀v ∈ rs,tsB cs.length (-1) v.ts=true
 cl:cs.length<=64
 rl:rs.length<=64
theorem LoC.ct {L cs rs l0 l1 l2 l3} (h:LoC L cs rs l0 l1 l2 l3) (i:Nat) {d} (hd:Lo (L+L+1) d) {n z ts} (ht:tsB n z ts=true) (ha:∀t ∈ ts,Lo L t.2) (j:Nat):Lo (KX L) (ctQ rs l0 l1 l2 l3 i d ts j):=by
 have h1:=zeP (f:=λb=>wtQ b*coefT b.ts j) (B:=L+L+1) (l:=bdR (rs.take i) (l0.take i) (l1.take i)) (λb hb=>by
  obtain⟨v,hv,h2,h3⟩:=zju hb;have hv':=List.mem_of_mem_take hv;refine zbm (zgr ?_) (by rw[h3];exact zff h.p (h.tb v hv') (h.ts v hv'));rcases h2 with⟨h2,_⟩|⟨h2,_⟩
  ·exact h.a0 _ (List.mem_of_mem_take h2)
  ·exact h.a1 _ (List.mem_of_mem_take h2))
 have h2:=znY (p:=l0) (q:=l1) h.rl i;have h3:=zci (zci (znM h.p h.a2 h.a3 j) h1) (zbm hd (zff (j:=j) h.p ht ha));refine h3.mono ?_;have h4:=Nat.mul_le_mul_right (L+L+1+1) h2;unfold KX;have e:2*L+2=L+L+1+1:=by omega
 rw[e];omega
theorem LoC.ci {L cs rs l0 l1 l2 l3} (h:LoC L cs rs l0 l1 l2 l3) (j:Nat):Lo (KX L) (ciQ l2 l3 j):=(znM h.p h.a2 h.a3 j).mono (by unfold KX;omega)
def ssC (cs:List CV) (l2 l3:List Rat) (i:Nat):Rat:=cmbS (bdC 0 (cs.take i) (l2.take i) (l3.take i))
def ssR (cs:List CV) (rs:List RV) (l0 l1 l2 l3:List Rat) (i:Nat):Rat:=cmbS (bdC 0 cs l2 l3)+cmbS (bdR (rs.take i) (l0.take i) (l1.take i))
theorem zoP {cs l2 l3 i v p q} (h:cs[i]?=some v) (h0:l2[i]?=some p) (h1:l3[i]?=some q):ssC cs l2 l3 (i+1)=ssC cs l2 l3 i+(p*v.lq-q*v.hq):=by
 unfold ssC;rw[zdR i 0 cs l2 l3 v p q h h0 h1];show sumF _ (_++[_]++[_])=_;rw[zaE,zaE];show cmbS _+wtQ _*_+wtQ _*_=_;simp only[wtQ]
 grind
theorem zhX (cs:List CV) (rs:List RV) (l0 l1 l2 l3:List Rat) (h2:l2.length=cs.length) (h3:l3.length=cs.length):ssR cs rs l0 l1 l2 l3 0=ssC cs l2 l3 cs.length:=by
 unfold ssR ssC;rw[List.take_length (l:=cs),show l2.take cs.length=l2 from List.take_of_length_le (by omega),show l3.take cs.length=l3 from List.take_of_length_le (by omega)];show _+(0:Rat)=_
 grind
theorem zoO {cs rs l0 l1} (l2 l3:List Rat) {i v p q} (h:rs[i]?=some v) (h0:l0[i]?=some p) (h1:l1[i]?=some q):ssR cs rs l0 l1 l2 l3 (i+1)=ssR cs rs l0 l1 l2 l3 i+(p*v.lq-q*v.hq):=by
 unfold ssR;rw[zcD i rs l0 l1 v p q h h0 h1];show _+sumF _ (_++[_]++[_])=_;rw[zaE,zaE];show _+(cmbS _+wtQ _*_+wtQ _*_)=_;simp only[wtQ]
 grind
theorem LoC.sc {L cs rs l0 l1 l2 l3} (h:LoC L cs rs l0 l1 l2 l3) (i:Nat):Lo (1+128*(2*L+2)) (ssC cs l2 l3 i):=by
 refine(zeP (B:=L+L+1) (λb hb=>?_)).mono ?_
 ·obtain⟨v,hv,h2⟩:=zoa hb;have hv':=h.cb v (List.mem_of_mem_take hv);rcases h2 with⟨h2,e⟩|⟨h2,e⟩
  ·exact zbm (zgr (h.a2 _ (List.mem_of_mem_take h2))) (by rw[e];exact hv'.1)
  ·exact zbm (zgr (h.a3 _ (List.mem_of_mem_take h2))) (by rw[e];exact hv'.2)
 ·have h4:=Nat.mul_le_mul_right (L+L+1+1) (zpP (p:=l2) (q:=l3) h.cl i);have e:2*L+2=L+L+1+1:=by omega
  rw[e];omega
theorem LoC.scK {L cs rs l0 l1 l2 l3} (h:LoC L cs rs l0 l1 l2 l3) (i:Nat):Lo (KX L) (ssC cs l2 l3 i):=(h.sc i).mono (by unfold KX;omega)
theorem zrN {w:World} {B o u0 u1 u2}:(((w.setCell ⟨B,o,none⟩ u0).setCell ⟨B,o+1,none⟩ u1).setCell ⟨B,o+2,none⟩ u2).heap.size=w.heap.size:=by simp[World.setCell]
theorem LoC.sr {L cs rs l0 l1 l2 l3} (h:LoC L cs rs l0 l1 l2 l3) (n2:l2.length=cs.length) (n3:l3.length=cs.length) (i:Nat):Lo (KX L) (ssR cs rs l0 l1 l2 l3 i):=by
 have h0:=h.sc cs.length;rw[<-zhX cs rs l0 l1 l2 l3 n2 n3]at h0
 have h1:=zeP (f:=λb=>wtQ b*b.a) (B:=L+L+1) (l:=bdR (rs.take i) (l0.take i) (l1.take i)) (λb hb=>by
  obtain⟨v,hv,h2,_⟩:=zju hb;have hv':=h.rb v (List.mem_of_mem_take hv);rcases h2 with⟨h2,e⟩|⟨h2,e⟩
  ·exact zbm (zgr (h.a0 _ (List.mem_of_mem_take h2))) (by rw[e];exact hv'.1)
  ·exact zbm (zgr (h.a1 _ (List.mem_of_mem_take h2))) (by rw[e];exact hv'.2))
 have e2:ssR cs rs l0 l1 l2 l3 0=cmbS (bdC 0 cs l2 l3):=by show _+(0:Rat)=_;grind
 rw[e2]at h0
 refine(zci h0 h1).mono ?_;have h4:=Nat.mul_le_mul_right (L+L+1+1) (znY (p:=l0) (q:=l1) h.rl i);unfold KX;have e:2*L+2=L+L+1+1:=by omega
 rw[e];omega
structure CBx (w:World) (b:Nat) (L2 L3 L5:List Value):Prop where
 m:Bk w b L2 95
 k:Bk w (b+1) L3 99
 z:Bk w (b+1+1) L5 91
theorem CBx.q_ {w w' b L2 L3 L5} (h:CBx w b L2 L3 L5) (hb:Bl w w'):CBx w' b L2 L3 L5:=⟨h.m.q_ hb,h.k.q_ hb,h.z.q_ hb⟩
theorem CBx.of {w w' b L2 L3 L5} (h:CBx w b L2 L3 L5) (hh:∀k,k<b+1+1+1->w'.heap[k]?=w.heap[k]?):CBx w' b L2 L3 L5:=⟨h.m.of (hh _ (by omega)),h.k.of (hh _ (by omega)),h.z.of (hh _ (by omega))⟩
theorem SbQ.of {K w w' B q} (h:SbQ K w B q) (hB:w'.heap[B]?=w.heap[B]?) (hk:Kp w w'):SbQ K w' B q:=by
 obtain⟨s,x,n,c,f,y,m,d,g,e,h⟩:=h;exact⟨s,x,n,c,f,y,m,d,g,e.of hB,h.kp hk⟩
theorem zrE {w w' base K ao n Q B} (h:Zl w base K ao n Q) (hB:B<base) (hk:Kp w w') (hh:∀k,k≠B->w'.heap[k]?=w.heap[k]?):Zl w' base K ao n Q:=λhn=>by
 obtain⟨G,h1,h2,h3,h4⟩:=h hn;have hg:=hh G (by omega);refine⟨G,h1,h2,h3.of hg,λj hj=>?_⟩;obtain⟨t,⟨c0,c1,c2⟩,h6⟩:=h4 j hj;exact⟨t,⟨(cell?_of_block (a:=⟨G,_,none⟩) hg).trans c0,(cell?_of_block (a:=⟨G,_,none⟩) hg).trans c1,(cell?_of_block (a:=⟨G,_,none⟩) hg).trans c2⟩,h6.kp hk⟩
theorem Rk.qnt3 {w B n o K t q u0 u1 u2} (h:Rk w B n) (ho:o+2<n*3) (h0:∀i,u0≠Value.int .u64 i) (h1:∀i,u1≠Value.int .u64 i) (hx:QnT K w t q):QnT K (((w.setCell ⟨B,o,none⟩ u0).setCell ⟨B,o+1,none⟩ u1).setCell ⟨B,o+2,none⟩ u2) t q :=
 ⟨hx.1,hx.2.1,((h.set h0).set h1).qn ho ((h.set h0).qn (by omega) (h.qn (by omega) hx.2.2))⟩
theorem zjP {w:World} {B o u0 u1 u2} (k:Nat) (hk:k≠B):(((w.setCell ⟨B,o,none⟩ u0).setCell ⟨B,o+1,none⟩ u1).setCell ⟨B,o+2,none⟩ u2).heap[k]?=w.heap[k]? :=
 (Below.heap_setCell _ _ _ _ hk).trans ((Below.heap_setCell _ _ _ _ hk).trans (Below.heap_setCell _ _ _ _ hk))
theorem SbQ.of3 {w B n o K G q u0 u1 u2} (h:Rk w B n) (ho:o+2<n*3) (h0:∀i,u0≠Value.int .u64 i) (h1:∀i,u1≠Value.int .u64 i) (hx:SbQ K w G q) (hG:G≠B):SbQ K (((w.setCell ⟨B,o,none⟩ u0).setCell ⟨B,o+1,none⟩ u1).setCell ⟨B,o+2,none⟩ u2) G q:=by
 obtain⟨s,x,n',c,f,y,m,d,g,e,hq⟩:=hx;exact⟨s,x,n',c,f,y,m,d,g,e.of (zjP G hG),h.qnt3 ho h0 h1 hq⟩
theorem zpJ {cs rs l0 l1 l2 l3} (n0:l0.length=rs.length) (n1:l1.length=rs.length) (n2:l2.length=cs.length) (n3:l3.length=cs.length) (j:Nat):coQ rs l0 l1 l2 l3 rs.length j=cmbQ (bdA cs rs l0 l1 l2 l3) j:=by
 unfold coQ bdA;rw[List.take_length,List.take_of_length_le (by omega),List.take_of_length_le (by omega)];show _=sumF _ (_++_);rw[zfA];have:=zkQ (cs:=cs) (ps:=l2) (qs:=l3) (z:=0) (j:=j) n2 n3;rw[zero_add]at this
 show _=cmbQ _ j+cmbQ (bdC ((0:Nat):Int) cs l2 l3) j;rw[this];grind
theorem zqG {cs rs l0 l1 l2 l3} (n0:l0.length=rs.length) (n1:l1.length=rs.length):ssR cs rs l0 l1 l2 l3 rs.length=cmbS (bdA cs rs l0 l1 l2 l3):=by
 unfold ssR bdA;rw[List.take_length,List.take_of_length_le (by omega),List.take_of_length_le (by omega)];show _=sumF _ (_++_);rw[zfA];show _=cmbS _+cmbS _
 grind
def zqg (K:Nat) (w w':World) (e:Ending) (k:Nat) (p:List Rat) (q:Rat):Prop:=∃a cap s x n c f y m d g,e=.returned (.tuple #[slice a k cap,agg #[.bool s,slice x n c,slice y m d]])/\Bl w w'/\(k<=cap/\cap<=9223372036854775807)/\Hid (Rqs K w' a p)/\Hid (QnT K w' ⟨s,x,n,c,f,y,m,d,g⟩ q)
theorem ziU {w L M off cs rs b0 b1 b2 b3 e0 e1 e2 e3 l0 l1 l2 l3} (h:MqV (2*L) w M off cs rs) (hq:Q4 (2*L) w b0 b1 b2 b3 l0 l1 l2 l3) (n0:l0.length=rs.length) (n1:l1.length=rs.length) (n2:l2.length=cs.length) (n3:l3.length=cs.length) (hm:MvP cs rs) (hts:∀v ∈ rs,tsB cs.length (-1) v.ts=true) (hL1:1<=L) (hL:L<=20) :
  Calls prog 50 #[M.val,agg #[slice b0 rs.length e0,slice b1 rs.length e1,slice b2 cs.length e2,slice b3 cs.length e3]] w λe w'=>zqg (2*KX L) w w' e cs.length ((List.range cs.length).map (cmbQ (bdA cs rs l0 l1 l2 l3))) (cmbS (bdA cs rs l0 l1 l2 l3)):=by
 have hcl:=hm.cl;have hrl:=hm.rl;have HNL2:=zk n2;have HNL3:=zk n3
 have HLO:Hid (LoC L cs rs l0 l1 l2 l3):=by
  refine zk ⟨hL1,λq hq'=>?_,λq hq'=>?_,λq hq'=>?_,λq hq'=>?_,λv hv=>?_,λv hv=>?_,λv hv t htt=>?_,hts,hcl,hrl⟩
  ·obtain⟨j,hj,e⟩:=List.getElem_of_mem hq';obtain⟨_,_,t,_,_,h1⟩:=hq.q0 j q (by rw[getElem?_eq_getElem hj,e]);exact h1.2.2.lo h1.1 h1.2.1
  ·obtain⟨j,hj,e⟩:=List.getElem_of_mem hq';obtain⟨_,_,t,_,_,h1⟩:=hq.q1 j q (by rw[getElem?_eq_getElem hj,e]);exact h1.2.2.lo h1.1 h1.2.1
  ·obtain⟨j,hj,e⟩:=List.getElem_of_mem hq';obtain⟨_,_,t,_,_,h1⟩:=hq.q2 j q (by rw[getElem?_eq_getElem hj,e]);exact h1.2.2.lo h1.1 h1.2.1
  ·obtain⟨j,hj,e⟩:=List.getElem_of_mem hq';obtain⟨_,_,t,_,_,h1⟩:=hq.q3 j q (by rw[getElem?_eq_getElem hj,e]);exact h1.2.2.lo h1.1 h1.2.1
  ·obtain⟨j,hj,e⟩:=List.getElem_of_mem hv;have h1:=(h.cls j v (by rw[getElem?_eq_getElem hj,e])).2;exact⟨h1.lq.2.2.lo h1.lq.1 h1.lq.2.1,h1.hq.2.2.lo h1.hq.1 h1.hq.2.1⟩
  ·obtain⟨j,hj,e⟩:=List.getElem_of_mem hv;have h1:=(h.rls j v (by rw[getElem?_eq_getElem hj,e])).2;exact⟨h1.lq.2.2.lo h1.lq.1 h1.lq.2.1,h1.hq.2.2.lo h1.hq.1 h1.hq.2.1⟩
  ·obtain⟨j,hj,e⟩:=List.getElem_of_mem hv;obtain⟨p,hp,e2⟩:=List.getElem_of_mem htt;obtain⟨_,_,t3,_,_,h1⟩:=(h.rls j v (by rw[getElem?_eq_getElem hj,e])).2.tl p t.1 t.2 (by rw[getElem?_eq_getElem hp,e2]);exact h1.2.2.lo h1.1 h1.2.1
 have HCA:Hid (∀j,coQ rs l0 l1 l2 l3 rs.length j=cmbQ (bdA cs rs l0 l1 l2 l3) j):=λj=>zpJ n0 n1 n2 n3 j
 have HSA:Hid (ssR cs rs l0 l1 l2 l3 rs.length=cmbS (bdA cs rs l0 l1 l2 l3)):=zqG n0 n1;obtain⟨fq,hfq⟩:∃t,cmbQ (bdA cs rs l0 l1 l2 l3)=t:=⟨_,rfl⟩;obtain⟨fs,hfs⟩:∃t,cmbS (bdA cs rs l0 l1 l2 l3)=t:=⟨_,rfl⟩;rw[hfq]at HCA
 rw[hfs]at HSA
 rw[hfq,hfs];clear hfq hfs;obtain⟨⟨s,x,n,c,f,y,m,d,g⟩,ca,ck,cc,C,ra,rk,rc,R⟩:=M;have hck:ck=cs.length:=h.ck;have hrk:rk=rs.length:=h.rk;subst hck;subst hrk;have HC:Hid (∀j v,cs[j]?=some v->(∃b o,ca=some ⟨b,o,none⟩/\Cs w b (o+j*12) (C j).vs)/\QcV (2*L) w (C j) v):=h.cls;have HR:Hid (∀j v,rs[j]?=some v->(∃b o,ra=some ⟨b,o,none⟩/\Cs w b (o+j*10) (R j).vs)/\QrV (2*L) w (R j) v):=h.rls;have HQ:=zk hq;clear h hq hm hts;show Calls prog 50 #[agg #[.bool s,slice x n c,slice y m d,slice ca cs.length cc,slice ra rs.length rc],agg #[slice b0 rs.length e0,slice b1 rs.length e1,slice b2 cs.length e2,slice b3 cs.length e3]] w _;have hb3:=zu (zu (zA w (cells #[.bool s,slice x n c,slice y m d,slice ca cs.length cc,slice ra rs.length rc] 95)) (cells #[slice b0 rs.length e0,slice b1 rs.length e1,slice b2 cs.length e2,slice b3 cs.length e3] 99)) (cells #[.bool false,slice none 0 0,slice none 0 0] 91);have h2:=((zH w [.bool s,slice x n c,slice y m d,slice ca cs.length cc,slice ra rs.length rc] 95).q_ (zA _ (cells #[slice b0 rs.length e0,slice b1 rs.length e1,slice b2 cs.length e2,slice b3 cs.length e3] 99))).q_ (zA _ (cells #[.bool false,slice none 0 0,slice none 0 0] 91));have h3:=(zaV w (cells #[.bool s,slice x n c,slice y m d,slice ca cs.length cc,slice ra rs.length rc] 95) [slice b0 rs.length e0,slice b1 rs.length e1,slice b2 cs.length e2,slice b3 cs.length e3] 99).q_ (zA _ (cells #[.bool false,slice none 0 0,slice none 0 0] 91));have h5:=zaV (w.alloc (cells #[.bool s,slice x n c,slice y m d,slice ca cs.length cc,slice ra rs.length rc] 95)) (cells #[slice b0 rs.length e0,slice b1 rs.length e1,slice b2 cs.length e2,slice b3 cs.length e3] 99) [.bool false,slice none 0 0,slice none 0 0] 91;rw[zw]at h5
 have HB:=zk hb3;have BX:=zk (CBx.mk h2 h3 h5);have hsz:=h5.lt;clear hb3 h2 h3 h5;go_enter func50,ntmps50;go_wp2_with fail
 generalize((w.alloc (cells #[.bool s,slice x n c,slice y m d,slice ca cs.length cc,slice ra rs.length rc] 95)).alloc (cells #[slice b0 rs.length e0,slice b1 rs.length e1,slice b2 cs.length e2,slice b3 cs.length e3] 99)).alloc (cells #[.bool false,slice none 0 0,slice none 0 0] 91)=w1 at *;refine(zjZ _).mono ?_;rintro e w4 ⟨s8,x8,n8,c8,d8,y8,m8,e8,g8,rfl,hb,hr1,hr2,hr⟩;have hs4:=hb.size;replace HB:=zI HB hb;replace BX:=zk (BX.out.q_ hb)
 have hbt:=zA w4 (cells #[.bool s8,slice x8 n8 c8,slice y8 m8 e8] 91);have BS:Hid (SbQ (2*KX L) (w4.alloc (cells #[.bool s8,slice x8 n8 c8,slice y8 m8 e8] 91)) w4.heap.size (ssC cs l2 l3 0)):=⟨s8,x8,n8,c8,d8,y8,m8,e8,g8,zH w4 [.bool s8,slice x8 n8 c8,slice y8 m8 e8] 91,le_trans hr1 (by unfold KX;omega),le_trans hr2 (by unfold KX;omega),hr.q_ hbt⟩;have hs2:w4.heap.size<(w4.alloc (cells #[.bool s8,slice x8 n8 c8,slice y8 m8 e8] 91)).heap.size:=by rw[zw];omega
 replace HB:=zI HB hbt;replace BX:=zk (BX.out.q_ hbt)
 clear hb hbt hr1 hr2 hr;go_upto_region 3 with fail
 generalize hbs:w4.heap.size=bs at *;generalize w4.alloc (cells #[.bool s8,slice x8 n8 c8,slice y8 m8 e8] 91)=w2 at *;have hbs3:w.heap.size+1+1<bs:=by omega
 clear hbs hs4 hsz;have r3:=BX.out.m.cell (j:=3) rfl;go_wp2_with fail
 clear r3;go_loopw[6,19] (λov t wr=>∃(i:Nat) (T':Nat->Nm),i<=cs.length/\t=.int .i64 i/\Hid (Bl w wr)/\Hid (CBx wr w.heap.size [.bool s,slice x n c,slice y m d,slice ca cs.length cc,slice ra rs.length rc] [slice b0 rs.length e0,slice b1 rs.length e1,slice b2 cs.length e2,slice b3 cs.length e3] [.bool false,slice none 0 0,slice none 0 0])/\Hid (SbQ (2*KX L) wr bs (ssC cs l2 l3 i))/\Hid (w2.heap.size<=wr.heap.size)/\Hid (RowG 91 3 w2.heap.size wr ov i (zaw (rls i T')))/\Hid (∀j,j<i->QnT (2*KX L) wr (T' j) (ciQ l2 l3 j))) (λ_ t _=>cs.length-(intOf t).toNat)
 case atStart=>exact⟨0,λ_=>⟨false,none,0,0,λ_=>0,none,0,0,λ_=>0⟩,by omega,rfl,HB.out,BX.out,BS.out,le_refl _,zai _ _ _ _,λj hj=>by omega⟩
 case round =>
  clear HB BX BS;obtain⟨i,T',hi,rfl,HB,BX,BS,HSZ,HRow,HT⟩:=hrel;by_cases hlt:i<cs.length
  ·obtain⟨v,hv⟩:∃v,cs[i]?=some v:=⟨_,getElem?_eq_getElem hlt⟩;obtain⟨aq,haq⟩:∃t,l2[i]?=some t:=⟨_,getElem?_eq_getElem (by omega)⟩;obtain⟨bq,hbq⟩:∃t,l3[i]?=some t:=⟨_,getElem?_eq_getElem (by omega)⟩;obtain⟨⟨b,o,hca,hc0⟩,hn⟩:=HC.out i v hv;subst hca;have hc:=hc0.q_ HB.out;obtain⟨o5A,o5,⟨s5,x5,n5,c5,f5,y5,m5,d5,g5⟩,h5,hz5,hq5⟩:=HQ.out.q2 i aq haq;subst h5;have HZ5:Hid (C3 w o5A (o5+i*3) (.bool s5) (slice x5 n5 c5) (slice y5 m5 d5)):=hz5;have HQ5:Hid (n5<=2*L/\m5<=2*L/\Qn w s5 x5 n5 f5 y5 m5 g5 aq):=hq5;obtain⟨o6A,o6,⟨s6,x6,n6,c6,f6,y6,m6,d6,g6⟩,h6,hz6,hq6⟩:=HQ.out.q3 i bq hbq;subst h6;have HZ6:Hid (C3 w o6A (o6+i*3) (.bool s6) (slice x6 n6 c6) (slice y6 m6 d6)):=hz6;have HQ6:Hid (n6<=2*L/\m6<=2*L/\Qn w s6 x6 n6 f6 y6 m6 g6 bq):=hq6;have HV1:Hid (QnT (2*L) w (C i).lo.v v.lq):=hn.lq;have HV2:Hid (QnT (2*L) w (C i).hi.v v.hq):=hn.hq
   have HSU:=zk (zoP hv haq hbq);have HCI:Hid (aq-bq=ciQ l2 l3 i):=by show _=l2.getD i 0-l3.getD i 0;rw[List.getD_eq_getElem?_getD,List.getD_eq_getElem?_getD,haq,hbq];rfl
   have hli:=hn.li;have hhi:=hn.hi
   obtain⟨⟨z,⟨s0,x0,n0,c0,f0,y0,m0,d0,g0⟩,⟨i1,⟨s1,x1,n1,c1,f1,y1,m1,d1,g1⟩⟩,⟨i2,⟨s2,x2,n2,c2,f2,y2,m2,d2,g2⟩⟩⟩,hCi⟩:∃t,C i=t:=⟨_,rfl⟩;rw[hCi]at hc HV1 HV2
   replace HV1:Hid (QnT (2*L) w ⟨s1,x1,n1,c1,f1,y1,m1,d1,g1⟩ v.lq):=HV1;replace HV2:Hid (QnT (2*L) w ⟨s2,x2,n2,c2,f2,y2,m2,d2,g2⟩ v.hq):=HV2
   obtain⟨q0,q1,q2,q3,q4,q5,q6,q7,q8,q9,q10,q11⟩:=hc.lc;have i1':((i:Nat):Int)<((cs.length:Nat):Int):=by omega
   have hbt:=zA wr (cells #[.string z,.bool s0,slice x0 n0 c0,slice y0 m0 d0,.int .i64 i1,.bool s1,slice x1 n1 c1,slice y1 m1 d1,.int .i64 i2,.bool s2,slice x2 n2 c2,slice y2 m2 d2] 138);have BT:=zk (zH wr [.string z,.bool s0,slice x0 n0 c0,slice y0 m0 d0,.int .i64 i1,.bool s1,slice x1 n1 c1,slice y1 m1 d1,.int .i64 i2,.bool s2,slice x2 n2 c2,slice y2 m2 d2] 138);clear hCi hc hc0 hn hv haq hbq hq5 hq6 hz5 hz6 hli hhi;have HOW:Hid (∀g,u6.ownBlock=some g->w2.heap.size<=g/\g<wr.heap.size):=HRow.out.lt;go_upto_region 6 with fail
   clear q0 q1 q2 q3 q4 q5 q6 q7 q8 q9 q10 q11;replace HB:=zI HB hbt;replace BX:=zk (BX.out.q_ hbt);replace BS:=zk (BS.out.q_ hbt);replace HSZ:=zk (le_trans HSZ.out hbt.size);replace HRow:=zk (HRow.out.q_ hbt);replace HT:=zk (λj hj=>(HT.out j hj).q_ hbt)
   clear hbt;generalize hbx:wr.heap.size=bx at *;generalize(wr.alloc (cells #[.string z,.bool s0,slice x0 n0 c0,slice y0 m0 d0,.int .i64 i1,.bool s1,slice x1 n1 c1,slice y1 m1 d1,.int .i64 i2,.bool s2,slice x2 n2 c2,slice y2 m2 d2] 138))=w5 at *;clear hbx;obtain⟨-,-,k2,k3⟩:=bk4 BX.out.k;obtain⟨u50,u51,u52⟩:=HZ5.out.q_ HB.out;obtain⟨u60,u61,u62⟩:=HZ6.out.q_ HB.out;replace u50:w5.cell? ⟨o5A,o5+i*3,none⟩=some (.bool s5):=u50;replace u51:w5.cell? ⟨o5A,o5+i*3+1,none⟩=some (slice x5 n5 c5):=u51;replace u52:w5.cell? ⟨o5A,o5+i*3+2,none⟩=some (slice y5 m5 d5):=u52;replace u60:w5.cell? ⟨o6A,o6+i*3,none⟩=some (.bool s6):=u60;replace u61:w5.cell? ⟨o6A,o6+i*3+1,none⟩=some (slice x6 n6 c6):=u61;replace u62:w5.cell? ⟨o6A,o6+i*3+2,none⟩=some (slice y6 m6 d6):=u62;refine wp_region_held_drew (S:=(λw'=>w'.cell? ⟨w.heap.size+1,2,none⟩=some (slice (some ⟨o5A,o5,none⟩) cs.length e2)/\w'.cell? ⟨w.heap.size+1,3,none⟩=some (slice (some ⟨o6A,o6,none⟩) cs.length e3)/\w'.cell? ⟨o5A,o5+i*3,none⟩=some (.bool s5)/\w'.cell? ⟨o5A,o5+i*3+1,none⟩=some (slice x5 n5 c5)/\w'.cell? ⟨o5A,o5+i*3+2,none⟩=some (slice y5 m5 d5)/\w'.cell? ⟨o6A,o6+i*3,none⟩=some (.bool s6)/\w'.cell? ⟨o6A,o6+i*3+1,none⟩=some (slice x6 n6 c6)/\w'.cell? ⟨o6A,o6+i*3+2,none⟩=some (slice y6 m6 d6))) (by kernel_rfl) ?_ (λhHeld=>?_)
   ·(refine⟨?_,?_,?_,?_,?_,?_,?_,?_⟩ <;> repeat(with_reducible first|assumption|refine kCd ?_))
   have hbd:=Below.drew (Below.refl w5.heap.size w5);replace HB:=zI HB hbd;replace BX:=zk (BX.out.q_ hbd);replace BS:=zk (BS.out.q_ hbd);replace HSZ:=zk (le_trans HSZ.out hbd.size);replace HRow:=zk (HRow.out.q_ hbd);replace HT:=zk (λj hj=>(HT.out j hj).q_ hbd);replace BT:=zk (BT.out.q_ hbd)
   generalize w5.drew=wd at *;clear hbd k2 k3 u50 u51 u52 u60 u61 u62;obtain⟨k2,k3,u50,u51,u52,u60,u61,u62⟩:=id hHeld;refine zB 0 ?_;refine zB 1 ?_;refine zB 2 ?_;simp only[zv,Act.put];refine zB 3 ?_;refine zB 4 ?_;refine zB 5 ?_;simp only[zv,Act.put];refine zB 6 ?_;refine zB 7 ?_;refine zB 8 ?_;simp only[zv,Act.put];refine zB 9 ?_;refine zB 10 ?_;simp only[zv,Act.put];refine rdO 11 (λK hK=>?_);go_simp
   go_at_call 87
   refine(ziV (HQ5.out.2.2.q_ HB.out) (HQ6.out.2.2.q_ HB.out) (le_trans HQ5.out.1 (by omega)) (le_trans HQ5.out.2.1 (by omega)) (le_trans HQ6.out.1 (by omega)) (le_trans HQ6.out.2.1 (by omega))).mono ?_;rintro e w6 ⟨s7,x7,n7,c7,f7,y7,m7,d7,g7,rfl,hb6,hr1,hr2,hr⟩
   (try go_wp2_with fail)
   refine hK.out _ _ ?_ (λhH6=>?_)
   ·((try dsimp only);(refine⟨?_,?_,?_,?_,?_,?_,?_,?_⟩ <;> repeat(with_reducible first|assumption|refine kCb (by assumption) ?_)))
   clear hK K;try simp only[zv,Act.put]
   replace HB:=zI HB hb6;replace BX:=zk (BX.out.q_ hb6);replace BS:=zk (BS.out.q_ hb6);replace HSZ:=zk (le_trans HSZ.out hb6.size);replace HRow:=zk (HRow.out.q_ hb6);replace HT:=zk (λj hj=>(HT.out j hj).q_ hb6);replace BT:=zk (BT.out.q_ hb6)
   rw[HCI.out]at hr
   have HN:=zk (And.intro (hr.len (HLO.out.ci i)) hr);clear hHeld hr1 hr2 hr hb6 k2 k3 u50 u51 u52 u60 u61 u62;obtain⟨k2,k3,u50,u51,u52,u60,u61,u62⟩:=id hH6;refine rdO 12 (λK hK=>?_);go_simp;refine hK.out _ _ ?_ (λhH9=>?_)
   ·((try dsimp only);(refine⟨?_,?_,?_,?_,?_,?_,?_,?_⟩ <;> repeat(with_reducible first|assumption|refine kCb (zA _ _) ?_)))
   clear hK K;try simp only[zv,Act.put]
   refine rdO 13 (λK hK=>?_);refine zcr w6 rfl (.tmp 24) (.tmp 36) 97 rfl w2.heap.size 91 56 3 (agg #[.bool false,slice none 0 0,slice none 0 0]) underlying97 zqb rfl (by decide) nz3 u6 i _ rfl HRow.out #[.bool s7,slice x7 n7 c7,slice y7 m7 d7] rfl rfl (zmS _ _ _ _ _ _ _) (ziZ _ _ _ _ _ _ _) (by omega) (by decide) HSZ.out ?_;intro g9 cap9 w9 hr9 hk9 hb9 hg9;have HB9:Hid (Bl w w9):=hb9 w HB.out (by omega);have hown:∀k,k<w2.heap.size->w9.heap[k]?=w6.heap[k]?:=λk hk=>hg9 k (by have:=HSZ.out;omega) (λe=>by have:=(HOW.out k e).1;omega)
   have BX9:=zk (BX.out.of (λk hk=>hown k (by omega)));have BS9:=zk (BS.out.of (hown bs hs2) hk9);have BT9:=zk (BT.out.of (hg9 bx BT.out.lt (λe=>by have:=(HOW.out bx e).2;omega)));have HSZ9:Hid (w2.heap.size<=w9.heap.size):=le_trans HSZ.out hk9.size;have HR9:Hid (RowG 91 3 w2.heap.size w9 (slice (some ⟨g9,0,none⟩) (i+1) cap9) (i+1) (zaw (rls (i+1) (zaN T' i ⟨s7,x7,n7,c7,f7,y7,m7,d7,g7⟩)))):=by
    show RowG _ _ _ _ _ _ _;rw[zeS];exact hr9
   have HT9:Hid (∀j,j<i+1->QnT (2*KX L) w9 (zaN T' i ⟨s7,x7,n7,c7,f7,y7,m7,d7,g7⟩ j) (ciQ l2 l3 j)):=λj hj=>by
    by_cases e:j=i
    ·subst e;rw[zbJ];exact QnT.kp (t:=⟨s7,x7,n7,c7,f7,y7,m7,d7,g7⟩) ⟨HN.out.1.1,HN.out.1.2,HN.out.2⟩ hk9
    ·rw[putN_ne e];exact(HT.out j (by omega)).kp hk9
   clear k2 k3 u50 u51 u52 u60 u61 u62 hr9 hk9 hb9 hg9 hown HB BX BS BT HSZ HRow HT HOW HN HCI hH6;have HB:=HB9;have BX:=BX9;have BS:=BS9;have BT:=BT9;have HSZ:=HSZ9;have HRow:=HR9;have HT:=HT9
   clear HB9 BX9 BS9 BT9 HSZ9 HR9 HT9;obtain⟨-,-,k2,k3⟩:=bk4 BX.out.k;obtain⟨u50,u51,u52⟩:=HZ5.out.q_ HB.out;obtain⟨u60,u61,u62⟩:=HZ6.out.q_ HB.out;replace u50:w9.cell? ⟨o5A,o5+i*3,none⟩=some (.bool s5):=u50;replace u51:w9.cell? ⟨o5A,o5+i*3+1,none⟩=some (slice x5 n5 c5):=u51;replace u52:w9.cell? ⟨o5A,o5+i*3+2,none⟩=some (slice y5 m5 d5):=u52;replace u60:w9.cell? ⟨o6A,o6+i*3,none⟩=some (.bool s6):=u60;replace u61:w9.cell? ⟨o6A,o6+i*3+1,none⟩=some (slice x6 n6 c6):=u61;replace u62:w9.cell? ⟨o6A,o6+i*3+2,none⟩=some (slice y6 m6 d6):=u62;refine hK.out _ _ ⟨k2,k3,u50,u51,u52,u60,u61,u62⟩ (λhH8=>?_);clear hK K;try simp only[Act.put,List.setIfInBounds_toArray]
   refine zB 14 ?_;simp only[zv,Act.put];refine dnO ?_;clear hH8 hH9;go_upto_region 7 with fail
   obtain⟨-,-,-,-,a4,a5,a6,a7,a8,a9,a10,a11⟩:=znT BT.out;obtain⟨s9,x9,n9,c9,f9,y9,m9,d9,g9,hs9,hq9⟩:=BS.out;have RS:=zk hq9;have BK:=zk hs9
   obtain⟨t0,t1,t2⟩:=bk3 hs9;clear hs9 hq9 BS;have CS:Hid (∀W,Bl w9 W->Calls prog 89 #[agg #[.int .i64 i1,.bool s1,slice x1 n1 c1,slice y1 m1 d1],agg #[.int .i64 i2,.bool s2,slice x2 n2 c2,slice y2 m2 d2],agg #[.bool s5,slice x5 n5 c5,slice y5 m5 d5],agg #[.bool s6,slice x6 n6 c6,slice y6 m6 d6]] W λe w'=>zgb (2*((L+L+1)+(L+L+1)+1)) W w' e (aq*v.lq-bq*v.hq)):=λW hW=>by
    have h0:=bUp HB.out hW;have h1:=HV1.out.q_ h0;have h2:=HV2.out.q_ h0
    exact zjN h1.2.2 ⟨h1.1,h1.2.1⟩ h2.2.2 ⟨h2.1,h2.2.1⟩ (HQ5.out.2.2.q_ h0) ⟨HQ5.out.1,HQ5.out.2.1⟩ (HQ6.out.2.2.q_ h0) ⟨HQ6.out.1,HQ6.out.2.1⟩ (by omega)
   have CA:Hid (∀(W:World) (s1:Bool) (x1:Option Addr) (n1 c1:Nat) (d1:Nat->Int) (y1:Option Addr) (m1 e1:Nat) (g1:Nat->Int),Bl w9 W->(n1<=2*((L+L+1)+(L+L+1)+1)/\m1<=2*((L+L+1)+(L+L+1)+1))/\Qn W s1 x1 n1 d1 y1 m1 g1 (aq*v.lq-bq*v.hq)->Calls prog 88 #[agg #[.bool s9,slice x9 n9 c9,slice y9 m9 d9],agg #[.bool s1,slice x1 n1 c1,slice y1 m1 e1]] W λe w'=>∃s x n c d y m e' g,e=.returned (agg #[.bool s,slice x n c,slice y m e'])/\Bl W w'/\Hid (QnT (2*KX L) w' ⟨s,x,n,c,d,y,m,e',g⟩ (ssC cs l2 l3 (i+1)))):=λW s1 x1 n1 c1 d1 y1 m1 e1 g1 hW hh=>by
    have hkx:2*KX L<=200000:=by unfold KX;omega
    have r0:=RS.out.q_ hW;have t1:n9<=2*KX L:=r0.1;have t2:m9<=2*KX L:=r0.2.1
    refine(zeV r0.2.2 hh.2 (by show n9+m1<=_;omega) (by show n1+m9<=_;omega) (by show m9+m1<=_;omega)).mono (λ_ _ ⟨s,x,n,c,d,y,m,c',g,h1,h2,h3,h4,h5⟩=>⟨s,x,n,c,d,y,m,c',g,h1,h2,?_⟩);rw[<-HSU.out]at h5
    have h6:=HLO.out.scK (i+1);exact⟨(h5.len h6).1,(h5.len h6).2,h5⟩
   refine zaa (S:=(λw'=>w'.cell? ⟨bs,0,none⟩=some (.bool s9)/\w'.cell? ⟨bs,1,none⟩=some (slice x9 n9 c9)/\w'.cell? ⟨bs,2,none⟩=some (slice y9 m9 d9)/\w'.cell? ⟨bx,4,none⟩=some (.int .i64 i1)/\w'.cell? ⟨bx,5,none⟩=some (.bool s1)/\w'.cell? ⟨bx,6,none⟩=some (slice x1 n1 c1)/\w'.cell? ⟨bx,7,none⟩=some (slice y1 m1 d1)/\w'.cell? ⟨bx,8,none⟩=some (.int .i64 i2)/\w'.cell? ⟨bx,9,none⟩=some (.bool s2)/\w'.cell? ⟨bx,10,none⟩=some (slice x2 n2 c2)/\w'.cell? ⟨bx,11,none⟩=some (slice y2 m2 d2)/\w'.cell? ⟨w.heap.size+1,2,none⟩=some (slice (some ⟨o5A,o5,none⟩) cs.length e2)/\w'.cell? ⟨w.heap.size+1,3,none⟩=some (slice (some ⟨o6A,o6,none⟩) cs.length e3)/\w'.cell? ⟨o5A,o5+i*3,none⟩=some (.bool s5)/\w'.cell? ⟨o5A,o5+i*3+1,none⟩=some (slice x5 n5 c5)/\w'.cell? ⟨o5A,o5+i*3+2,none⟩=some (slice y5 m5 d5)/\w'.cell? ⟨o6A,o6+i*3,none⟩=some (.bool s6)/\w'.cell? ⟨o6A,o6+i*3+1,none⟩=some (slice x6 n6 c6)/\w'.cell? ⟨o6A,o6+i*3+2,none⟩=some (slice y6 m6 d6))) 17 (by kernel_rfl) ⟨kCd t0,kCd t1,kCd t2,kCd a4,kCd a5,kCd a6,kCd a7,kCd a8,kCd a9,kCd a10,kCd a11,kCd k2,kCd k3,kCd u50,kCd u51,kCd u52,kCd u60,kCd u61,kCd u62⟩ (λhHeld=>?_);refine tkP 0 ?_;refine skP 1 ?_;refine tkP 2 ?_;simp only[zv,Act.put];refine skP 3 ?_;refine tkP 4 ?_;refine skP 5 ?_;simp only[zv,Act.put];refine tkP 6 ?_;refine skP 7 ?_;refine skP 8 ?_;simp only[zv,Act.put];refine tkP 9 ?_;refine skP 10 ?_;refine tkP 11 ?_;simp only[zv,Act.put];refine skP 12 ?_;refine skP 13 ?_;refine tkP 14 ?_;simp only[zv,Act.put];refine rdP 15 (λK hK=>?_);go_simp
   go_at_call 89
   refine(CS.out _ (Below.drew (Below.refl _ _))).mono ?_;rintro e w6 ⟨s6_,x6_,n6_,c6_,f6_,y6_,m6_,d6_,g6_,rfl,hb6,hr1,hr2,hr⟩
   (try go_wp2_with fail)
   have yy0:=kCb hb6 (hHeld.1);have yy1:=kCb hb6 (hHeld.2.1);have yy2:=kCb hb6 (hHeld.2.2.1);have yy3:=kCb hb6 (hHeld.2.2.2.1);have yy4:=kCb hb6 (hHeld.2.2.2.2.1);have yy5:=kCb hb6 (hHeld.2.2.2.2.2.1);have yy6:=kCb hb6 (hHeld.2.2.2.2.2.2.1);have yy7:=kCb hb6 (hHeld.2.2.2.2.2.2.2.1);have yy8:=kCb hb6 (hHeld.2.2.2.2.2.2.2.2.1);have yy9:=kCb hb6 (hHeld.2.2.2.2.2.2.2.2.2.1);have yy10:=kCb hb6 (hHeld.2.2.2.2.2.2.2.2.2.2.1);have yy11:=kCb hb6 (hHeld.2.2.2.2.2.2.2.2.2.2.2.1);have yy12:=kCb hb6 (hHeld.2.2.2.2.2.2.2.2.2.2.2.2.1);have yy13:=kCb hb6 (hHeld.2.2.2.2.2.2.2.2.2.2.2.2.2.1);have yy14:=kCb hb6 (hHeld.2.2.2.2.2.2.2.2.2.2.2.2.2.2.1);have yy15:=kCb hb6 (hHeld.2.2.2.2.2.2.2.2.2.2.2.2.2.2.2.1);have yy16:=kCb hb6 (hHeld.2.2.2.2.2.2.2.2.2.2.2.2.2.2.2.2.1);have yy17:=kCb hb6 (hHeld.2.2.2.2.2.2.2.2.2.2.2.2.2.2.2.2.2.1);have yy18:=kCb hb6 (hHeld.2.2.2.2.2.2.2.2.2.2.2.2.2.2.2.2.2.2);refine hK.out _ _ (λ_=>⟨yy0,yy1,yy2,yy3,yy4,yy5,yy6,yy7,yy8,yy9,yy10,yy11,yy12,yy13,yy14,yy15,yy16,yy17,yy18⟩) (λhS6=>?_);clear hK K hS6;try simp only[zv,Act.put]
   have Bd6:=(Below.drew (Below.refl w9.heap.size w9)).trans (hb6.mono (le_refl _));refine rdP 16 (λK hK=>?_);go_simp
   go_at_call 88
   refine(CA.out w6 s6_ x6_ n6_ c6_ f6_ y6_ m6_ d6_ g6_ Bd6 ⟨⟨hr1,hr2⟩,hr⟩).mono ?_;rintro e w7 ⟨s7,x7,n7,c7,f7,y7,m7,d7,g7,rfl,hb7,hq7⟩
   (try go_wp2_with fail)
   have uu0:=kCb hb7 yy0;have uu1:=kCb hb7 yy1;have uu2:=kCb hb7 yy2;have uu3:=kCb hb7 yy3;have uu4:=kCb hb7 yy4;have uu5:=kCb hb7 yy5;have uu6:=kCb hb7 yy6;have uu7:=kCb hb7 yy7;have uu8:=kCb hb7 yy8;have uu9:=kCb hb7 yy9;have uu10:=kCb hb7 yy10;have uu11:=kCb hb7 yy11;have uu12:=kCb hb7 yy12;have uu13:=kCb hb7 yy13;have uu14:=kCb hb7 yy14;have uu15:=kCb hb7 yy15;have uu16:=kCb hb7 yy16;have uu17:=kCb hb7 yy17;have uu18:=kCb hb7 yy18;refine hK.out _ _ (λ_=>⟨uu0,uu1,uu2,uu3,uu4,uu5,uu6,uu7,uu8,uu9,uu10,uu11,uu12,uu13,uu14,uu15,uu16,uu17,uu18⟩) (λhS7=>?_);clear hK K hS7;try simp only[zv,Act.put]
   have Bd7:=bUp Bd6 hb7;clear yy0 yy1 yy2 yy3 yy4 yy5 yy6 yy7 yy8 yy9 yy10 yy11 yy12 yy13 yy14 yy15 yy16 yy17 yy18 hHeld t0 t1 t2 a4 a5 a6 a7 a8 a9 a10 a11 k2 k3 u50 u51 u52 u60 u61 u62 CS CA Bd6 hb6 hb7 hr1 hr2 hr;replace HB:=zI HB Bd7;replace BX:=zk (BX.out.q_ Bd7);replace BK:=zk (BK.out.q_ Bd7);replace HSZ:=zk (le_trans HSZ.out Bd7.size);replace HRow:=zk (HRow.out.q_ Bd7);replace HT:=zk (λj hj=>(HT.out j hj).q_ Bd7)
   obtain⟨hx1,hx2,hx3,hbk⟩:=st3 s7 x7 n7 c7 y7 m7 d7 rfl BK.out HB.out (by omega);have tf2:=BK.out.frozen;have BSn:Hid (SbQ (2*KX L) _ bs (ssC cs l2 l3 (i+1))):=⟨s7,x7,n7,c7,f7,y7,m7,d7,g7,hbk,hq7.out.kp hx2⟩;have BXn:=zk (BX.out.of (λk hk=>hx3 k (by omega)));have HRn:=zk (HRow.out.of (λg hg=>hx3 g (by have:=(HRow.out.lt g hg).1;omega)));have HTn:=zk (λj hj=>(HT.out j hj).kp hx2);have HSn:Hid (w2.heap.size<=_):=le_trans HSZ.out hx2.size;have HBn:=zk hx1;clear hx1 hx2 hx3 hbk hq7 Bd7 HB BX BK HSZ HRow HT RS HSU BT HQ5 HQ6 HZ5 HZ6 HV1 HV2;refine rdP 17 (λK hK=>?_);go_simp;refine hK.out _ _ (λh=>by cases h) (λ_=>?_);clear hK K;try simp only[zv,Act.put]
   refine dnP ?_;clear uu0 uu1 uu2 uu3 uu4 uu5 uu6 uu7 uu8 uu9 uu10 uu11 uu12 uu13 uu14 uu15 uu16 uu17 uu18 tf2;go_wp2;go_roundw
   case rel=>exact⟨i+1,_,by omega,by go_num,HBn.out,BXn.out,BSn.out,HSn.out,HRn.out,HTn.out⟩
   case measure=>simp[intOf];omega
  ·have e1_:i=cs.length:=by omega
   have i4':¬(((i:Nat):Int)<((cs.length:Nat):Int)):=by omega
   rw[e1_]at HRow HT BS
   rw[<-zhX cs rs l0 l1 l2 l3 n2 n3]at BS
   obtain⟨aw,cw,rfl⟩:=HRow.out.slice;have hcw:cs.length<=cw/\cw<=9223372036854775807:=by
    rcases HRow.out.2 with⟨hv,h0⟩|⟨_,_,_,hv,_,_,h5,h6,_⟩
    ·simp only[Value.slice.injEq]at hv;obtain⟨_,_,h9⟩:=hv;omega
    ·simp only[Value.slice.injEq]at hv;obtain⟨_,_,h9⟩:=hv;unfold maxLen at h6;omega
   have HZ:Hid (Zl wr w2.heap.size (2*KX L) aw cs.length (coQ rs l0 l1 l2 l3 0)):=zrF HRow.out (λj hj=>by rw[znL];exact HT.out j hj);have r4:=BX.out.m.cell (j:=4) rfl;have HCW:=zk hcw;clear e1_ HT HRow HC hcw;go_wp2_with fail
   clear r4 i4' hi hlt;have HB0:=HB;have BX0:=BX;have BS0:=BS;have HS0:=HSZ;have HZ0:=HZ
   clear HB BX BS HSZ HZ;generalize wr=w3 at *;go_loopw[59] (λt wr=>∃(i:Nat),i<=rs.length/\t=.int .i64 i/\Hid (Bl w wr)/\Hid (CBx wr w.heap.size [.bool s,slice x n c,slice y m d,slice ca cs.length cc,slice ra rs.length rc] [slice b0 rs.length e0,slice b1 rs.length e1,slice b2 cs.length e2,slice b3 cs.length e3] [.bool false,slice none 0 0,slice none 0 0])/\Hid (SbQ (2*KX L) wr bs (ssR cs rs l0 l1 l2 l3 i))/\Hid (w2.heap.size<=wr.heap.size)/\Hid (Zl wr w2.heap.size (2*KX L) aw cs.length (coQ rs l0 l1 l2 l3 i))) (λt _=>rs.length-(intOf t).toNat)
   case atStart=>exact⟨0,by omega,rfl,HB0.out,BX0.out,BS0.out,HS0.out,HZ0.out⟩
   case round =>
    clear HB0 BX0 BS0 HS0 HZ0;obtain⟨i,hi,rfl,HB,BX,BS,HSZ,HZ⟩:=hrel;by_cases hlt:i<rs.length
    ·obtain⟨v,hv⟩:∃v,rs[i]?=some v:=⟨_,getElem?_eq_getElem hlt⟩;obtain⟨aq,haq⟩:∃t,l0[i]?=some t:=⟨_,getElem?_eq_getElem (by omega)⟩;obtain⟨bq,hbq⟩:∃t,l1[i]?=some t:=⟨_,getElem?_eq_getElem (by omega)⟩;obtain⟨⟨b,o,hca,hc0⟩,hn⟩:=HR.out i v hv;subst hca;have hc:=hc0.q_ HB.out;obtain⟨o5A,o5,⟨s5,x5,n5,c5,f5,y5,m5,d5,g5⟩,h5,hz5,hq5⟩:=HQ.out.q0 i aq haq;subst h5;have HZ5:Hid (C3 w o5A (o5+i*3) (.bool s5) (slice x5 n5 c5) (slice y5 m5 d5)):=hz5;have HQ5:Hid (n5<=2*L/\m5<=2*L/\Qn w s5 x5 n5 f5 y5 m5 g5 aq):=hq5;obtain⟨o6A,o6,⟨s6,x6,n6,c6,f6,y6,m6,d6,g6⟩,h6,hz6,hq6⟩:=HQ.out.q1 i bq hbq;subst h6;have HZ6:Hid (C3 w o6A (o6+i*3) (.bool s6) (slice x6 n6 c6) (slice y6 m6 d6)):=hz6;have HQ6:Hid (n6<=2*L/\m6<=2*L/\Qn w s6 x6 n6 f6 y6 m6 g6 bq):=hq6;have HV1:Hid (QnT (2*L) w (R i).lo.v v.lq):=hn.lq;have HV2:Hid (QnT (2*L) w (R i).hi.v v.hq):=hn.hq
     have HSU:=zk (zoO (cs:=cs) l2 l3 hv haq hbq);have HRW:=zk (zpG l2 l3 hv haq hbq);have hvm:=List.mem_of_getElem? hv;have htl:=hn.tl;have htk:=hn.tk;have HS:=zk (HLO.out.tb v hvm);have hvl:v.ts.length<=64:=by have:=zeO HS.out (by omega);omega
     have HTL:=zk (HLO.out.ts v hvm);obtain⟨⟨z,⟨i1,⟨s1,x1,n1,c1,f1,y1,m1,d1,g1⟩⟩,⟨i2,⟨s2,x2,n2,c2,f2,y2,m2,d2,g2⟩⟩,ta,tk,tc,tcol,tt⟩,hCi⟩:∃t,R i=t:=⟨_,rfl⟩;rw[hCi]at hc htl htk HV1 HV2
     replace HV1:Hid (QnT (2*L) w ⟨s1,x1,n1,c1,f1,y1,m1,d1,g1⟩ v.lq):=HV1;replace HV2:Hid (QnT (2*L) w ⟨s2,x2,n2,c2,f2,y2,m2,d2,g2⟩ v.hq):=HV2
     replace htk:tk=v.ts.length:=htk;subst htk;have HTQ:Hid (Tq (2*L) w ta v.ts):=htl;obtain⟨q0,q1,q2,q3,q4,q5,q6,q7,q8,q9⟩:=hc.lr;have i1':((i:Nat):Int)<((rs.length:Nat):Int):=by omega
     have hbt:=zA wr (cells #[.string z,.int .i64 i1,.bool s1,slice x1 n1 c1,slice y1 m1 d1,.int .i64 i2,.bool s2,slice x2 n2 c2,slice y2 m2 d2,slice ta v.ts.length tc] 141);have BT:=zk (zH wr [.string z,.int .i64 i1,.bool s1,slice x1 n1 c1,slice y1 m1 d1,.int .i64 i2,.bool s2,slice x2 n2 c2,slice y2 m2 d2,slice ta v.ts.length tc] 141);have HGB:Hid (∀G,aw=some ⟨G,0,none⟩->0<cs.length->w2.heap.size<=G/\G<wr.heap.size):=λG e hn=>by
      obtain⟨G2,h1,h2,h3,_⟩:=HZ.out hn;rw[e]at h1;cases h1;exact⟨h2,h3.z⟩
     clear hCi hc hc0 hn hv haq hbq hq5 hq6 hz5 hz6 hvm htl;go_upto_region 12 with fail
     clear q0 q1 q2 q3 q4 q5 q6 q7 q8 q9;replace HB:=zI HB hbt;replace BX:=zk (BX.out.q_ hbt);replace BS:=zk (BS.out.q_ hbt);replace HSZ:=zk (le_trans HSZ.out hbt.size);replace HZ:=zk (HZ.out.q_ hbt)
     clear hbt;generalize hbx:wr.heap.size=bx at *;generalize(wr.alloc (cells #[.string z,.int .i64 i1,.bool s1,slice x1 n1 c1,slice y1 m1 d1,.int .i64 i2,.bool s2,slice x2 n2 c2,slice y2 m2 d2,slice ta v.ts.length tc] 141))=w5 at *;clear hbx;obtain⟨k0,k1,-,-⟩:=bk4 BX.out.k;obtain⟨u50,u51,u52⟩:=HZ5.out.q_ HB.out;obtain⟨u60,u61,u62⟩:=HZ6.out.q_ HB.out;replace u50:w5.cell? ⟨o5A,o5+i*3,none⟩=some (.bool s5):=u50;replace u51:w5.cell? ⟨o5A,o5+i*3+1,none⟩=some (slice x5 n5 c5):=u51;replace u52:w5.cell? ⟨o5A,o5+i*3+2,none⟩=some (slice y5 m5 d5):=u52;replace u60:w5.cell? ⟨o6A,o6+i*3,none⟩=some (.bool s6):=u60;replace u61:w5.cell? ⟨o6A,o6+i*3+1,none⟩=some (slice x6 n6 c6):=u61;replace u62:w5.cell? ⟨o6A,o6+i*3+2,none⟩=some (slice y6 m6 d6):=u62;have HD1:Hid (Lo (L+L+1) (aq-bq)):=by have:=zci (HQ5.out.2.2.lo HQ5.out.1 HQ5.out.2.1) (zhr (HQ6.out.2.2.lo HQ6.out.1 HQ6.out.2.1));show Lo _ _;rwa[<-Rat.sub_eq_add_neg]at this
     have hbd:=Below.drew (Below.refl w5.heap.size w5);replace HB:=zI HB hbd;replace BX:=zk (BX.out.q_ hbd);replace BS:=zk (BS.out.q_ hbd);replace HSZ:=zk (le_trans HSZ.out hbd.size);replace HZ:=zk (HZ.out.q_ hbd);replace BT:=zk (BT.out.q_ hbd)
     clear hbd;refine wp_region_held_drew (S:=(λw'=>w'.cell? ⟨w.heap.size+1,0,none⟩=some (slice (some ⟨o5A,o5,none⟩) rs.length e0)/\w'.cell? ⟨w.heap.size+1,1,none⟩=some (slice (some ⟨o6A,o6,none⟩) rs.length e1)/\w'.cell? ⟨o5A,o5+i*3,none⟩=some (.bool s5)/\w'.cell? ⟨o5A,o5+i*3+1,none⟩=some (slice x5 n5 c5)/\w'.cell? ⟨o5A,o5+i*3+2,none⟩=some (slice y5 m5 d5)/\w'.cell? ⟨o6A,o6+i*3,none⟩=some (.bool s6)/\w'.cell? ⟨o6A,o6+i*3+1,none⟩=some (slice x6 n6 c6)/\w'.cell? ⟨o6A,o6+i*3+2,none⟩=some (slice y6 m6 d6))) (by kernel_rfl) ?_ (λhHeld=>?_)
     ·exact⟨kCd k0,kCd k1,kCd u50,kCd u51,kCd u52,kCd u60,kCd u61,kCd u62⟩
     generalize w5.drew=wd at *;clear k0 k1 u50 u51 u52 u60 u61 u62;refine zB 0 ?_;refine zB 1 ?_;refine zB 2 ?_;simp only[zv,Act.put];refine zB 3 ?_;refine zB 4 ?_;refine zB 5 ?_;simp only[zv,Act.put];refine zB 6 ?_;refine zB 7 ?_;refine zB 8 ?_;simp only[zv,Act.put];refine zB 9 ?_;simp only[zv,Act.put];refine(show wpAnyH _ _ _ _ _ (2+1) _ _ _ from zbv (λj v w=>match j with|10=>GQn (2*(L+L+1)) (aq-bq) v w|11=>GBx wd.heap.size [.bool false,slice none 0 0,slice none 0 0] 91 v w|_=>True) [(10,74),(11,12)] [10,11] [] [12] _ _ _ 1 ?k1 ?k4 ?kn ?kq ?k2 ?k3 ?k5 ?kt ?k6 ?k8)
     case k1=>kernel_rfl
     case k4=>kernel_rfl
     case kn=>kernel_rfl
     case kq=>exact λ_ _ _ _ _ h=>h
     case k2=>exact λw w' h hb=>⟨kCb hb h.1,kCb hb h.2.1,kCb hb h.2.2.1,kCb hb h.2.2.2.1,kCb hb h.2.2.2.2.1,kCb hb h.2.2.2.2.2.1,kCb hb h.2.2.2.2.2.2.1,kCb hb h.2.2.2.2.2.2.2⟩
     case k3 =>
      intro j v w w' h hb
      split at h <;> first|exact GQn.q_ h hb|exact GBx.q_ h hb|exact h|trivial
     case k8=>exact hHeld
     case k5 =>
      intro i hi;simp only[List.mem_cons,List.not_mem_nil,or_false]at hi;rcases hi with rfl|rfl
      ·refine⟨_,rfl,λu w5 hS hb5 hd K hK=>?_⟩;have hw5:=bUp HB.out hb5;simp only[zal,zv,Act.put]at hK ⊢;go_simp
       go_at_call 87
       refine(ziV (HQ5.out.2.2.q_ hw5) (HQ6.out.2.2.q_ hw5) (le_trans HQ5.out.1 (by omega)) (le_trans HQ5.out.2.1 (by omega)) (le_trans HQ6.out.1 (by omega)) (le_trans HQ6.out.2.1 (by omega))).mono ?_;rintro e w6 ⟨s7,x7,n7,c7,f7,y7,m7,d7,g7,rfl,hb6,hr1,hr2,hr⟩;have hl:=hr.len (K:=L+L+1) HD1.out
       (try go_wp2_with fail)
       exact hK.out _ _ hb6 ⟨s7,x7,n7,c7,f7,y7,m7,d7,g7,rfl,hl.1,hl.2,hr⟩
      ·refine⟨_,rfl,λu w5 hS hb5 hd K hK=>?_⟩;have hw5:=bUp HB.out hb5;simp only[zal,zv,Act.put]at hK ⊢;go_simp;exact hK.out _ _ (zA w5 _) ⟨w5.heap.size,rfl,zH w5 [.bool false,slice none 0 0,slice none 0 0] 91,hb5.size⟩
     case kt =>
      intro i hi;cases hi
     case k6 =>
      intro u w6 hS6 hb6 hg;have h6:GQn (2*(L+L+1)) (aq-bq) (u 10) w6:=hg 10 (by simp);have h9:GBx wd.heap.size [.bool false,slice none 0 0,slice none 0 0] 91 (u 11) w6:=hg 11 (by simp);obtain⟨s7,x7,n7,c7,f7,y7,m7,d7,g7,e6,hq7⟩:=h6;obtain⟨bd,e9,hBX,hge⟩:=h9;simp only[zal,zv,Act.put];simp only[e6,e9];clear e6 e9 hg;obtain⟨hx1,hx2,hx3,hbk⟩:=st3 s7 x7 n7 c7 y7 m7 d7 rfl hBX hb6 hge;obtain⟨l0_,l1_,l2_⟩:=bk3 hBX;have ff:=hBX.frozen;have hbd1:bx<bd:=by have:=BT.out.lt;omega
      refine rdO 12 (λK hK=>?_);go_simp;generalize(((w6.setCell ⟨bd,0,none⟩ (.bool s7)).setCell ⟨bd,1,none⟩ (slice x7 n7 c7)).setCell ⟨bd,2,none⟩ (slice y7 m7 d7))=zF at *;have SD:Hid (SbQ (2*(L+L+1)) zF bd (aq-bq)):=⟨s7,x7,n7,c7,f7,y7,m7,d7,g7,hbk,hq7.kp hx2⟩;have hx9:=hx1;replace HB:=zI HB hx9;replace BX:=zk (BX.out.q_ hx9);replace BS:=zk (BS.out.q_ hx9);replace HSZ:=zk (le_trans HSZ.out hx9.size);replace HZ:=zk (HZ.out.q_ hx9);replace BT:=zk (BT.out.q_ hx9)
      refine hK.out _ _ ?_ (λhHd=>?_)
      ·exact⟨kCb hx1 hHeld.1,kCb hx1 hHeld.2.1,kCb hx1 hHeld.2.2.1,kCb hx1 hHeld.2.2.2.1,kCb hx1 hHeld.2.2.2.2.1,kCb hx1 hHeld.2.2.2.2.2.1,kCb hx1 hHeld.2.2.2.2.2.2.1,kCb hx1 hHeld.2.2.2.2.2.2.2⟩
      clear hK K;try simp only[zv,Act.put]
      refine dnO ?_;clear hHd hHeld hS6 hb6 hx1 hx2 hx3 hx9 hbk hq7 ff hBX hge l0_ l1_ l2_;have a9:=BT.out.cell (j:=9) rfl;go_wp2_with fail
      clear a9;have HB1:=HB;have BX1:=BX;have BS1:=BS;have HS1:=HSZ;have HZ1:=HZ;have BT1:=BT;have SD1:=SD
      clear HB BX BS HSZ HZ BT SD;go_loopw[78] (λt wr=>∃(p:Nat),p<=v.ts.length/\t=.int .i64 p/\Hid (Bl w wr)/\Hid (CBx wr w.heap.size [.bool s,slice x n c,slice y m d,slice ca cs.length cc,slice (some ⟨b,o,none⟩) rs.length rc] [slice (some ⟨o5A,o5,none⟩) rs.length e0,slice (some ⟨o6A,o6,none⟩) rs.length e1,slice b2 cs.length e2,slice b3 cs.length e3] [.bool false,slice none 0 0,slice none 0 0])/\Hid (SbQ (2*KX L) wr bs (ssR cs rs l0 l1 l2 l3 i))/\Hid (w2.heap.size<=wr.heap.size)/\Hid (Bk wr bx [.string z,.int .i64 i1,.bool s1,slice x1 n1 c1,slice y1 m1 d1,.int .i64 i2,.bool s2,slice x2 n2 c2,slice y2 m2 d2,slice ta v.ts.length tc] 141)/\Hid (SbQ (2*(L+L+1)) wr bd (aq-bq))/\Hid (Zl wr w2.heap.size (2*KX L) aw cs.length (ctQ rs l0 l1 l2 l3 i (aq-bq) (v.ts.take p)))) (λt _=>v.ts.length-(intOf t).toNat)
      case atStart=>exact⟨0,by omega,rfl,HB1.out,BX1.out,BS1.out,HS1.out,BT1.out,SD1.out,by show Zl _ _ _ _ _ _;rw[zpH];exact HZ1.out⟩
      case round =>
       clear HB1 BX1 BS1 HS1 HZ1 BT1 SD1;obtain⟨p,hp,rfl,HB,BX,BS,HSZ,BT,SD,HZ⟩:=hrel;by_cases hlp:p<v.ts.length
       ·obtain⟨⟨z2,q⟩,haq⟩:∃t,v.ts[p]?=some t:=⟨_,getElem?_eq_getElem hlp⟩;obtain⟨hz0,hz1,_⟩:=zeN HS.out _ (List.mem_of_getElem? haq);replace hz0:(-1:Int)<z2:=hz0;replace hz1:z2<(cs.length:Int):=hz1;obtain⟨zn,rfl⟩:=Int.eq_ofNat_of_zero_le (show 0<=z2 by omega);obtain⟨b2_,o2_,⟨ts,tx,tn,tc2,tf,ty,tm,td,tg⟩,hta,hc,hr⟩:=HTQ.out p (zn:Int) q haq;subst hta;obtain⟨k0,k1,k2,k3⟩:=hc.q_ HB.out;replace k0:wr.cell? ⟨b2_,o2_+p*4,none⟩=some (.int .i64 (zn:Int)):=k0;replace k1:wr.cell? ⟨b2_,o2_+p*4+1,none⟩=some (.bool ts):=k1;replace k2:wr.cell? ⟨b2_,o2_+p*4+2,none⟩=some (slice tx tn tc2):=k2;replace k3:wr.cell? ⟨b2_,o2_+p*4+3,none⟩=some (slice ty tm td):=k3;have hr2:tn<=2*L/\tm<=2*L/\Qn wr ts tx tn tf ty tm tg q:=hr.q_ HB.out;obtain⟨BZ,hao,hge,hk,hqr⟩:=HZ.out (by omega);have hgb:=(HGB.out BZ hao (by omega)).2;subst hao;obtain⟨⟨ls,lx,ln,lc,lf,ly,lm,ld,lg⟩,⟨p0,p1,p2⟩,hr0⟩:=hqr zn (by omega);replace p0:wr.cell? ⟨BZ,zn*3,none⟩=some (.bool ls):=p0;replace p1:wr.cell? ⟨BZ,zn*3+1,none⟩=some (slice lx ln lc):=p1;replace p2:wr.cell? ⟨BZ,zn*3+2,none⟩=some (slice ly lm ld):=p2;replace hr0:ln<=2*KX L/\lm<=2*KX L/\Qn wr ls lx ln lf ly lm lg (ctQ rs l0 l1 l2 l3 i (aq-bq) (v.ts.take p) zn):=hr0;obtain⟨s3,x3,n3_,c3,f3,y3,m3,d3,g3,hsd,hr1⟩:=SD.out;obtain⟨v0,v1,v2⟩:=bk3 hsd;replace hr1:n3_<=2*(L+L+1)/\m3<=2*(L+L+1)/\Qn wr s3 x3 n3_ f3 y3 m3 g3 (aq-bq):=hr1;have hbt:=zA wr (cells #[.int .i64 (zn:Int),.bool ts,slice tx tn tc2,slice ty tm td] 149);obtain⟨a0,a1,a2,a3⟩:=bk4 (zH wr [.int .i64 (zn:Int),.bool ts,slice tx tn tc2,slice ty tm td] 149);have i2':((p:Nat):Int)<((v.ts.length:Nat):Int):=by omega
        have i3':((zn:Nat):Int)<((cs.length:Nat):Int):=by omega
        have hzn:zn<cs.length:=by omega
        have HST:=zk (λj=>znI (rs:=rs) (l0:=l0) (l1:=l1) (l2:=l2) (l3:=l3) (i:=i) (d:=aq-bq) haq j);have HL2:Hid (∀j,Lo (KX L) (ctQ rs l0 l1 l2 l3 i (aq-bq) (v.ts.take (p+1)) j)):=λj=>HLO.out.ct i HD1.out (zfx _ HS.out) (λt ht=>HTL.out t (List.mem_of_mem_take ht)) j
        clear haq hr hc hsd;go_upto_region 16 with fail
        clear k0 k1 k2 k3;replace p0:=kCb hbt p0;replace p1:=kCb hbt p1;replace p2:=kCb hbt p2;replace v0:=kCb hbt v0;replace v1:=kCb hbt v1;replace v2:=kCb hbt v2;have R0:=zk (hr0.2.2.q_ hbt);have R1:=zk (hr1.2.2.q_ hbt);have R2:=zk (hr2.2.2.q_ hbt)
        obtain⟨lz1,lz2,_⟩:=hr0;obtain⟨la1,la2,_⟩:=hr2;obtain⟨ly1,ly2,_⟩:=hr1;have HK:=zk (hk.q_ hbt);have HQR:=zk (hqr.q_ hbt)
        replace HB:=zI HB hbt;replace BX:=zk (BX.out.q_ hbt);replace BS:=zk (BS.out.q_ hbt);replace HSZ:=zk (le_trans HSZ.out hbt.size);replace BT:=zk (BT.out.q_ hbt);replace SD:=zk (SD.out.q_ hbt)
        clear hbt hk hqr HZ;generalize hbx4:wr.heap.size=bx4 at *;generalize wr.alloc (cells #[.int .i64 (zn:Int),.bool ts,slice tx tn tc2,slice ty tm td] 149)=w5 at *;clear hbx4;have CM:Hid (∀W,Bl w5 W->Calls prog 90 #[agg #[.bool s3,slice x3 n3_ c3,slice y3 m3 d3],agg #[.bool ts,slice tx tn tc2,slice ty tm td]] W λe w'=>∃s x n c d y m e' g,e=.returned (agg #[.bool s,slice x n c,slice y m e'])/\Bl W w'/\Hid ((n<=2*((L+L+1)+L+1)/\m<=2*((L+L+1)+L+1))/\Qn w' s x n d y m g ((aq-bq)*q))):=λW hW =>
         (ziW (R1.out.q_ hW) (R2.out.q_ hW) (by omega) (by omega) (by omega) (by omega)).mono (λ_ _ ⟨s,x,n,c,d,y,m,c',g,h1,h2,h3,h4,h5⟩=>⟨s,x,n,c,d,y,m,c',g,h1,h2,h5.len (zbm HD1.out (R2.out.lo la1 la2)),h5⟩)
        have CA:Hid (∀(W:World) (s1:Bool) (x1:Option Addr) (n1 c1:Nat) (d1:Nat->Int) (y1:Option Addr) (m1 e1:Nat) (g1:Nat->Int),Bl w5 W->(n1<=2*((L+L+1)+L+1)/\m1<=2*((L+L+1)+L+1))/\Qn W s1 x1 n1 d1 y1 m1 g1 ((aq-bq)*q)->Calls prog 88 #[agg #[.bool ls,slice lx ln lc,slice ly lm ld],agg #[.bool s1,slice x1 n1 c1,slice y1 m1 e1]] W λe w'=>∃s x n c d y m e' g,e=.returned (agg #[.bool s,slice x n c,slice y m e'])/\Bl W w'/\Hid (QnT (2*KX L) w' ⟨s,x,n,c,d,y,m,e',g⟩ (ctQ rs l0 l1 l2 l3 i (aq-bq) (v.ts.take (p+1)) zn))):=λW s1 x1 n1 c1 d1 y1 m1 e1 g1 hW hh=>by
         have hkx:2*KX L<=200000:=by unfold KX;omega
         refine(zeV (R0.out.q_ hW) hh.2 (by omega) (by omega) (by omega)).mono (λ_ _ ⟨s,x,n,c,d,y,m,c',g,h1,h2,h3,h4,h5⟩=>⟨s,x,n,c,d,y,m,c',g,h1,h2,?_⟩);have e2:=HST.out zn;rw[if_pos rfl]at e2
         have h6:=HL2.out zn;rw[<-e2]at h5
         exact⟨(h5.len h6).1,(h5.len h6).2,h5⟩
        refine zaa (S:=(λw'=>w'.cell? ⟨bx4,0,none⟩=some (.int .i64 (zn:Int))/\w'.cell? ⟨bx4,1,none⟩=some (.bool ts)/\w'.cell? ⟨bx4,2,none⟩=some (slice tx tn tc2)/\w'.cell? ⟨bx4,3,none⟩=some (slice ty tm td)/\w'.cell? ⟨BZ,zn*3,none⟩=some (.bool ls)/\w'.cell? ⟨BZ,zn*3+1,none⟩=some (slice lx ln lc)/\w'.cell? ⟨BZ,zn*3+2,none⟩=some (slice ly lm ld)/\w'.cell? ⟨bd,0,none⟩=some (.bool s3)/\w'.cell? ⟨bd,1,none⟩=some (slice x3 n3_ c3)/\w'.cell? ⟨bd,2,none⟩=some (slice y3 m3 d3))) 14 (by kernel_rfl) ⟨kCd a0,kCd a1,kCd a2,kCd a3,kCd p0,kCd p1,kCd p2,kCd v0,kCd v1,kCd v2⟩ (λhHeld=>?_);refine skP 0 ?_;refine skP 1 ?_;refine tkP 2 ?_;simp only[zv,Act.put];refine skP 3 ?_;refine skP 4 ?_;refine tkP 5 ?_;simp only[zv,Act.put];refine skP 6 ?_;refine tkP 7 ?_;refine tkP 8 ?_;simp only[zv,Act.put];refine skP 9 ?_;refine tkP 10 ?_;simp only[zv,Act.put];refine rdP 11 (λK hK=>?_);go_simp
        go_at_call 90
        refine(CM.out _ (Below.drew (Below.refl _ _))).mono ?_;rintro e w6 ⟨s6_,x6_,n6_,c6_,f6_,y6_,m6_,d6_,g6_,rfl,hb6,hq6⟩
        (try go_wp2_with fail)
        have yy0:=kCb hb6 (hHeld.1);have yy1:=kCb hb6 (hHeld.2.1);have yy2:=kCb hb6 (hHeld.2.2.1);have yy3:=kCb hb6 (hHeld.2.2.2.1);have yy4:=kCb hb6 (hHeld.2.2.2.2.1);have yy5:=kCb hb6 (hHeld.2.2.2.2.2.1);have yy6:=kCb hb6 (hHeld.2.2.2.2.2.2.1);have yy7:=kCb hb6 (hHeld.2.2.2.2.2.2.2.1);have yy8:=kCb hb6 (hHeld.2.2.2.2.2.2.2.2.1);have yy9:=kCb hb6 (hHeld.2.2.2.2.2.2.2.2.2);refine hK.out _ _ (λ_=>⟨yy0,yy1,yy2,yy3,yy4,yy5,yy6,yy7,yy8,yy9⟩) (λhS6=>?_);clear hK K hS6;try simp only[zv,Act.put]
        have Bd6:=(Below.drew (Below.refl w5.heap.size w5)).trans (hb6.mono (le_refl _));refine rdP 12 (λK hK=>?_);go_simp
        go_at_call 88
        refine(CA.out w6 s6_ x6_ n6_ c6_ f6_ y6_ m6_ d6_ g6_ Bd6 hq6.out).mono ?_;rintro e w7 ⟨s7,x7,n7,c7,f7,y7,m7,d7,g7,rfl,hb7,hq7⟩
        (try go_wp2_with fail)
        have uu0:=kCb hb7 yy0;have uu1:=kCb hb7 yy1;have uu2:=kCb hb7 yy2;have uu3:=kCb hb7 yy3;have uu4:=kCb hb7 yy4;have uu5:=kCb hb7 yy5;have uu6:=kCb hb7 yy6;have uu7:=kCb hb7 yy7;have uu8:=kCb hb7 yy8;have uu9:=kCb hb7 yy9;refine hK.out _ _ (λ_=>⟨uu0,uu1,uu2,uu3,uu4,uu5,uu6,uu7,uu8,uu9⟩) (λhS7=>?_);clear hK K hS7;try simp only[zv,Act.put]
        have Bd7:=bUp Bd6 hb7;have hk7:=HK.out.q_ Bd7;obtain⟨R1a,R2a⟩:=zrQ (j:=zn) (Q':=ctQ rs l0 l1 l2 l3 i (aq-bq) (v.ts.take (p+1))) hk7 (HQR.out.q_ Bd7) hzn hq7.out (λj' h2=>by rw[HST.out j',if_neg (λe=>h2 e.symm)]);have HB7:=zk (zaW (o:=zn*3) (u0:=.bool s7) (u1:=slice x7 n7 c7) (u2:=slice y7 m7 d7) (bUp HB.out Bd7) (show w.heap.size<=BZ by omega));have tf2:=hk7.fz;have BX7:=zk ((BX.out.q_ Bd7).of (λk hk=>zjP (B:=BZ) (o:=zn*3) (u0:=.bool s7) (u1:=slice x7 n7 c7) (u2:=slice y7 m7 d7) k (by omega)));have BS7:=zk (SbQ.of3 (u0:=.bool s7) (u1:=slice x7 n7 c7) (u2:=slice y7 m7 d7) hk7 (o:=zn*3) (by omega) (λi h=>by cases h) (λi h=>by cases h) (BS.out.q_ Bd7) (by omega));have SD7:=zk (SbQ.of3 (u0:=.bool s7) (u1:=slice x7 n7 c7) (u2:=slice y7 m7 d7) hk7 (o:=zn*3) (by omega) (λi h=>by cases h) (λi h=>by cases h) (SD.out.q_ Bd7) (by omega));have BT7:=zk ((BT.out.q_ Bd7).of (zjP (B:=BZ) (o:=zn*3) (u0:=.bool s7) (u1:=slice x7 n7 c7) (u2:=slice y7 m7 d7) bx (by omega)));have HS7:Hid (w2.heap.size<=(((w7.setCell ⟨BZ,zn*3,none⟩ (.bool s7)).setCell ⟨BZ,zn*3+1,none⟩ (slice x7 n7 c7)).setCell ⟨BZ,zn*3+2,none⟩ (slice y7 m7 d7)).heap.size):=by have h1:=HSZ.out;have h2:=Bd7.size;show w2.heap.size<=_;rw[zrN];omega
        have HR1:=zk R1a;have HR2:=zk R2a
        clear R1a R2a hq7 hq6 hk7 Bd7 Bd6 hb6 hb7 HK HQR HB BX BS HSZ BT SD R0 R1 R2 CM CA HL2 HST yy0 yy1 yy2 yy3 yy4 yy5 yy6 yy7 yy8 yy9 hHeld a0 a1 a2 a3 p0 p1 p2 v0 v1 v2;refine rdP 13 (λK hK=>?_);go_simp;refine hK.out _ _ (λ_=>⟨uu0,uu1,uu2,uu3,uu4,uu5,uu6,uu7,uu8,uu9⟩) (λhS9=>?_);clear hK K hS9;try simp only[zv,Act.put]
        refine rdP 14 (λK hK=>?_);go_simp;refine hK.out _ _ (λh=>by cases h) (λ_=>?_);clear hK K;try simp only[zv,Act.put]
        refine dnP ?_;clear uu0 uu1 uu2 uu3 uu4 uu5 uu6 uu7 uu8 uu9 tf2;go_wp2;go_roundw
        case rel=>exact⟨p+1,by omega,by go_num,HB7.out,BX7.out,BS7.out,HS7.out,BT7.out,SD7.out,λ_=>⟨BZ,rfl,hge,HR1.out,HR2.out⟩⟩
        case measure=>simp[intOf];omega
       ·have e1_:p=v.ts.length:=by omega
        have i4':¬(((p:Nat):Int)<((v.ts.length:Nat):Int)):=by omega
        have HZ3:Hid (Zl wr w2.heap.size (2*KX L) aw cs.length (coQ rs l0 l1 l2 l3 (i+1))):=by
         have h1:=HZ.out;rw[e1_,List.take_length,HRW.out]at h1
         exact h1
        clear HZ e1_ HRW SD;go_upto_region 18 with fail
        clear i4' hp hlp;obtain⟨-,a1,a2,a3,a4,a5,a6,a7,a8⟩:=bk9 BT.out;obtain⟨s9,x9,n9,c9,f9,y9,m9,d9,g9,hs9,hq9⟩:=BS.out;have RS:=zk hq9;have BK:=zk hs9
        obtain⟨t0,t1,t2⟩:=bk3 hs9;obtain⟨k0,k1,-,-⟩:=bk4 BX.out.k;obtain⟨u50,u51,u52⟩:=HZ5.out.q_ HB.out;obtain⟨u60,u61,u62⟩:=HZ6.out.q_ HB.out;replace u50:wr.cell? ⟨o5A,o5+i*3,none⟩=some (.bool s5):=u50;replace u51:wr.cell? ⟨o5A,o5+i*3+1,none⟩=some (slice x5 n5 c5):=u51;replace u52:wr.cell? ⟨o5A,o5+i*3+2,none⟩=some (slice y5 m5 d5):=u52;replace u60:wr.cell? ⟨o6A,o6+i*3,none⟩=some (.bool s6):=u60;replace u61:wr.cell? ⟨o6A,o6+i*3+1,none⟩=some (slice x6 n6 c6):=u61;replace u62:wr.cell? ⟨o6A,o6+i*3+2,none⟩=some (slice y6 m6 d6):=u62;clear hs9 hq9 BS;have CS:Hid (∀W,Bl wr W->Calls prog 89 #[agg #[.int .i64 i1,.bool s1,slice x1 n1 c1,slice y1 m1 d1],agg #[.int .i64 i2,.bool s2,slice x2 n2 c2,slice y2 m2 d2],agg #[.bool s5,slice x5 n5 c5,slice y5 m5 d5],agg #[.bool s6,slice x6 n6 c6,slice y6 m6 d6]] W λe w'=>zgb (2*((L+L+1)+(L+L+1)+1)) W w' e (aq*v.lq-bq*v.hq)):=λW hW=>by
         have h0:=bUp HB.out hW;have h1:=HV1.out.q_ h0;have h2:=HV2.out.q_ h0
         exact zjN h1.2.2 ⟨h1.1,h1.2.1⟩ h2.2.2 ⟨h2.1,h2.2.1⟩ (HQ5.out.2.2.q_ h0) ⟨HQ5.out.1,HQ5.out.2.1⟩ (HQ6.out.2.2.q_ h0) ⟨HQ6.out.1,HQ6.out.2.1⟩ (by omega)
        have CA:Hid (∀(W:World) (s1:Bool) (x1:Option Addr) (n1 c1:Nat) (d1:Nat->Int) (y1:Option Addr) (m1 e1:Nat) (g1:Nat->Int),Bl wr W->(n1<=2*((L+L+1)+(L+L+1)+1)/\m1<=2*((L+L+1)+(L+L+1)+1))/\Qn W s1 x1 n1 d1 y1 m1 g1 (aq*v.lq-bq*v.hq)->Calls prog 88 #[agg #[.bool s9,slice x9 n9 c9,slice y9 m9 d9],agg #[.bool s1,slice x1 n1 c1,slice y1 m1 e1]] W λe w'=>∃s x n c d y m e' g,e=.returned (agg #[.bool s,slice x n c,slice y m e'])/\Bl W w'/\Hid (QnT (2*KX L) w' ⟨s,x,n,c,d,y,m,e',g⟩ (ssR cs rs l0 l1 l2 l3 (i+1)))):=λW s1 x1 n1 c1 d1 y1 m1 e1 g1 hW hh=>by
         have hkx:2*KX L<=200000:=by unfold KX;omega
         have r0:=RS.out.q_ hW;have t1:n9<=2*KX L:=r0.1;have t2:m9<=2*KX L:=r0.2.1
         refine(zeV r0.2.2 hh.2 (by show n9+m1<=_;omega) (by show n1+m9<=_;omega) (by show m9+m1<=_;omega)).mono (λ_ _ ⟨s,x,n,c,d,y,m,c',g,h1,h2,h3,h4,h5⟩=>⟨s,x,n,c,d,y,m,c',g,h1,h2,?_⟩);rw[<-HSU.out]at h5
         have h6:=HLO.out.sr HNL2.out HNL3.out (i+1);exact⟨(h5.len h6).1,(h5.len h6).2,h5⟩
        refine zaa (S:=(λw'=>w'.cell? ⟨bs,0,none⟩=some (.bool s9)/\w'.cell? ⟨bs,1,none⟩=some (slice x9 n9 c9)/\w'.cell? ⟨bs,2,none⟩=some (slice y9 m9 d9)/\w'.cell? ⟨bx,1,none⟩=some (.int .i64 i1)/\w'.cell? ⟨bx,2,none⟩=some (.bool s1)/\w'.cell? ⟨bx,3,none⟩=some (slice x1 n1 c1)/\w'.cell? ⟨bx,4,none⟩=some (slice y1 m1 d1)/\w'.cell? ⟨bx,5,none⟩=some (.int .i64 i2)/\w'.cell? ⟨bx,6,none⟩=some (.bool s2)/\w'.cell? ⟨bx,7,none⟩=some (slice x2 n2 c2)/\w'.cell? ⟨bx,8,none⟩=some (slice y2 m2 d2)/\w'.cell? ⟨w.heap.size+1,0,none⟩=some (slice (some ⟨o5A,o5,none⟩) rs.length e0)/\w'.cell? ⟨w.heap.size+1,1,none⟩=some (slice (some ⟨o6A,o6,none⟩) rs.length e1)/\w'.cell? ⟨o5A,o5+i*3,none⟩=some (.bool s5)/\w'.cell? ⟨o5A,o5+i*3+1,none⟩=some (slice x5 n5 c5)/\w'.cell? ⟨o5A,o5+i*3+2,none⟩=some (slice y5 m5 d5)/\w'.cell? ⟨o6A,o6+i*3,none⟩=some (.bool s6)/\w'.cell? ⟨o6A,o6+i*3+1,none⟩=some (slice x6 n6 c6)/\w'.cell? ⟨o6A,o6+i*3+2,none⟩=some (slice y6 m6 d6))) 17 (by kernel_rfl) ⟨kCd t0,kCd t1,kCd t2,kCd a1,kCd a2,kCd a3,kCd a4,kCd a5,kCd a6,kCd a7,kCd a8,kCd k0,kCd k1,kCd u50,kCd u51,kCd u52,kCd u60,kCd u61,kCd u62⟩ (λhHeld=>?_);refine tkP 0 ?_;refine skP 1 ?_;refine tkP 2 ?_;simp only[zv,Act.put];refine skP 3 ?_;refine tkP 4 ?_;refine skP 5 ?_;simp only[zv,Act.put];refine tkP 6 ?_;refine skP 7 ?_;refine skP 8 ?_;simp only[zv,Act.put];refine tkP 9 ?_;refine skP 10 ?_;refine tkP 11 ?_;simp only[zv,Act.put];refine skP 12 ?_;refine skP 13 ?_;refine tkP 14 ?_;simp only[zv,Act.put];refine rdP 15 (λK hK=>?_);go_simp
        go_at_call 89
        refine(CS.out _ (Below.drew (Below.refl _ _))).mono ?_;rintro e w6 ⟨s6_,x6_,n6_,c6_,f6_,y6_,m6_,d6_,g6_,rfl,hb6,hr1,hr2,hr⟩
        (try go_wp2_with fail)
        have yy0:=kCb hb6 (hHeld.1);have yy1:=kCb hb6 (hHeld.2.1);have yy2:=kCb hb6 (hHeld.2.2.1);have yy3:=kCb hb6 (hHeld.2.2.2.1);have yy4:=kCb hb6 (hHeld.2.2.2.2.1);have yy5:=kCb hb6 (hHeld.2.2.2.2.2.1);have yy6:=kCb hb6 (hHeld.2.2.2.2.2.2.1);have yy7:=kCb hb6 (hHeld.2.2.2.2.2.2.2.1);have yy8:=kCb hb6 (hHeld.2.2.2.2.2.2.2.2.1);have yy9:=kCb hb6 (hHeld.2.2.2.2.2.2.2.2.2.1);have yy10:=kCb hb6 (hHeld.2.2.2.2.2.2.2.2.2.2.1);have yy11:=kCb hb6 (hHeld.2.2.2.2.2.2.2.2.2.2.2.1);have yy12:=kCb hb6 (hHeld.2.2.2.2.2.2.2.2.2.2.2.2.1);have yy13:=kCb hb6 (hHeld.2.2.2.2.2.2.2.2.2.2.2.2.2.1);have yy14:=kCb hb6 (hHeld.2.2.2.2.2.2.2.2.2.2.2.2.2.2.1);have yy15:=kCb hb6 (hHeld.2.2.2.2.2.2.2.2.2.2.2.2.2.2.2.1);have yy16:=kCb hb6 (hHeld.2.2.2.2.2.2.2.2.2.2.2.2.2.2.2.2.1);have yy17:=kCb hb6 (hHeld.2.2.2.2.2.2.2.2.2.2.2.2.2.2.2.2.2.1);have yy18:=kCb hb6 (hHeld.2.2.2.2.2.2.2.2.2.2.2.2.2.2.2.2.2.2);refine hK.out _ _ (λ_=>⟨yy0,yy1,yy2,yy3,yy4,yy5,yy6,yy7,yy8,yy9,yy10,yy11,yy12,yy13,yy14,yy15,yy16,yy17,yy18⟩) (λhS6=>?_);clear hK K hS6;try simp only[zv,Act.put]
        have Bd6:=(Below.drew (Below.refl wr.heap.size wr)).trans (hb6.mono (le_refl _));refine rdP 16 (λK hK=>?_);go_simp
        go_at_call 88
        refine(CA.out w6 s6_ x6_ n6_ c6_ f6_ y6_ m6_ d6_ g6_ Bd6 ⟨⟨hr1,hr2⟩,hr⟩).mono ?_;rintro e w7 ⟨s7,x7,n7,c7,f7,y7,m7,d7,g7,rfl,hb7,hq7⟩
        (try go_wp2_with fail)
        have uu0:=kCb hb7 yy0;have uu1:=kCb hb7 yy1;have uu2:=kCb hb7 yy2;have uu3:=kCb hb7 yy3;have uu4:=kCb hb7 yy4;have uu5:=kCb hb7 yy5;have uu6:=kCb hb7 yy6;have uu7:=kCb hb7 yy7;have uu8:=kCb hb7 yy8;have uu9:=kCb hb7 yy9;have uu10:=kCb hb7 yy10;have uu11:=kCb hb7 yy11;have uu12:=kCb hb7 yy12;have uu13:=kCb hb7 yy13;have uu14:=kCb hb7 yy14;have uu15:=kCb hb7 yy15;have uu16:=kCb hb7 yy16;have uu17:=kCb hb7 yy17;have uu18:=kCb hb7 yy18;refine hK.out _ _ (λ_=>⟨uu0,uu1,uu2,uu3,uu4,uu5,uu6,uu7,uu8,uu9,uu10,uu11,uu12,uu13,uu14,uu15,uu16,uu17,uu18⟩) (λhS7=>?_);clear hK K hS7;try simp only[zv,Act.put]
        have Bd7:=bUp Bd6 hb7;clear yy0 yy1 yy2 yy3 yy4 yy5 yy6 yy7 yy8 yy9 yy10 yy11 yy12 yy13 yy14 yy15 yy16 yy17 yy18 hHeld t0 t1 t2 a1 a2 a3 a4 a5 a6 a7 a8 k0 k1 u50 u51 u52 u60 u61 u62 CS CA Bd6 hb6 hb7 hr1 hr2 hr;replace HB:=zI HB Bd7;replace BX:=zk (BX.out.q_ Bd7);replace BK:=zk (BK.out.q_ Bd7);replace HSZ:=zk (le_trans HSZ.out Bd7.size);replace HZ3:=zk (HZ3.out.q_ Bd7)
        obtain⟨hx1,hx2,hx3,hbk⟩:=st3 s7 x7 n7 c7 y7 m7 d7 rfl BK.out HB.out (by omega);have tf2:=BK.out.frozen;have BSn:Hid (SbQ (2*KX L) _ bs (ssR cs rs l0 l1 l2 l3 (i+1))):=⟨s7,x7,n7,c7,f7,y7,m7,d7,g7,hbk,hq7.out.kp hx2⟩;have BXn:=zk (BX.out.of (λk hk=>hx3 k (by omega)));have HZn:=zk (zrE HZ3.out hs2 hx2 hx3);have HSn:Hid (w2.heap.size<=_):=le_trans HSZ.out hx2.size;have HBn:=zk hx1;clear hx1 hx2 hx3 hbk hq7 Bd7 HB BX BK HSZ HZ3 RS HSU BT HQ5 HQ6 HZ5 HZ6 HV1 HV2;refine rdP 17 (λK hK=>?_);go_simp;refine hK.out _ _ (λh=>by cases h) (λ_=>?_);clear hK K;try simp only[zv,Act.put]
        refine dnP ?_;clear uu0 uu1 uu2 uu3 uu4 uu5 uu6 uu7 uu8 uu9 uu10 uu11 uu12 uu13 uu14 uu15 uu16 uu17 uu18 tf2;go_wp2;go_roundw
        case rel=>exact⟨i+1,by omega,by go_num,HBn.out,BXn.out,BSn.out,HSn.out,HZn.out⟩
        case measure=>simp[intOf];omega
    ·have e1_:i=rs.length:=by omega
     have i4':¬(((i:Nat):Int)<((rs.length:Nat):Int)):=by omega
     rw[e1_]at BS HZ
     rw[HSA.out]at BS
     have HF1:Rqs (2*KX L) wr aw ((List.range cs.length).map fq):=HZ.out.rqs (by simp) (λj q hj=>by
      rw[HCA.out j];have hlt2:j<cs.length:=by have:=(List.getElem?_eq_some_iff.1 hj).1;simpa using this
      rw[zcJ hlt2]at hj
      exact Option.some.inj hj)
     have HF:Hid (RqF (2*KX L) wr (w.heap.size+1+1) aw ((List.range cs.length).map fq)):=⟨HF1,λj q hj b o e=>by
      have h9:j<cs.length:=by have:=(List.getElem?_eq_some_iff.1 hj).1;simpa using this
      obtain⟨G,h1,h2,_⟩:=HZ.out (by omega);rw[h1]at e;cases e;omega⟩
     clear HF1;obtain⟨s9,x9,n9,c9,f9,y9,m9,d9,g9,hs9,hq9⟩:=BS.out;have RS:=zk hq9;have BK:=zk hs9
     clear e1_ BS HZ hs9 hq9;go_upto_region 20 with fail
     clear i4' hi hlt;obtain⟨t0,t1,t2⟩:=bk3 BK.out;refine wp_region_held_drew (S:=(λw'=>w'.cell? ⟨bs,0,none⟩=some (.bool s9)/\w'.cell? ⟨bs,1,none⟩=some (slice x9 n9 c9)/\w'.cell? ⟨bs,2,none⟩=some (slice y9 m9 d9))) (by kernel_rfl) ?_ (λhHeld=>?_)
     ·(refine⟨?_,?_,?_⟩ <;> repeat(with_reducible first|assumption|refine kCd ?_))
     have hbd:=Below.drew (Below.refl wr.heap.size wr);replace HB:=zI HB hbd;replace BX:=zk (BX.out.q_ hbd);replace RS:=zk (RS.out.q_ hbd);replace HF:=zk (HF.out.q_ hbd)
     generalize wr.drew=wd at *;clear hbd t0 t1 t2 BK;obtain⟨t0,t1,t2⟩:=id hHeld;refine zB 0 ?_;refine zB 1 ?_;refine zB 2 ?_;simp only[zv,Act.put];refine rdO 3 (λK hK=>?_);obtain⟨hx1,hx2,hx3,hbk⟩:=st3 s9 x9 n9 c9 y9 m9 d9 rfl BX.out.z HB.out (by omega);obtain⟨l0_,l1_,l2_⟩:=bk3 BX.out.z;have ff:=BX.out.z.frozen;have HQn:=zk (RS.out.kp hx2);have HFn:=zk (HF.out.st hx2 hx3).1;go_simp;obtain⟨z0,z1,z2⟩:=bk3 hbk;generalize(((wd.setCell ⟨w.heap.size+1+1,0,none⟩ (.bool s9)).setCell ⟨w.heap.size+1+1,1,none⟩ (slice x9 n9 c9)).setCell ⟨w.heap.size+1+1,2,none⟩ (slice y9 m9 d9))=zF at *;have HX:=zk hx1;refine hK.out _ _ ?_ (λhHd=>?_)
     ·exact⟨(cell?_of_block (a:=⟨bs,0,none⟩) (hx3 bs (by omega))).trans t0,(cell?_of_block (a:=⟨bs,1,none⟩) (hx3 bs (by omega))).trans t1,(cell?_of_block (a:=⟨bs,2,none⟩) (hx3 bs (by omega))).trans t2⟩
     clear hK K;try simp only[zv,Act.put]
     refine dnO ?_;clear hHd hHeld hx1 hx2 hx3 hbk ff l0_ l1_ l2_ t0 t1 t2 BX RS HF HB;go_wp2;exact bodyPost_ret (v:=.tuple #[slice aw cs.length cw,agg #[.bool s9,slice x9 n9 c9,slice y9 m9 d9]]) (by simp[results,results50,go_sem,z0,z1,z2]) rfl ⟨aw,cw,s9,x9,n9,c9,f9,y9,m9,d9,g9,rfl,HX.out,HCW.out,HFn,HQn⟩
theorem zmY {cs rs} (h:zbC cs rs=true):∀v ∈ rs,tsB cs.length (-1) v.ts=true:=λv hv=>by
 simp only[zbC,Bool.and_eq_true,decide_eq_true_eq,List.all_eq_true]at h;exact(h.2.2.2.1 v hv).2.1
def zrs (K:Nat) (w w':World) (e:Ending) (k:Nat) (p:List Rat):Prop:=∃a c,e=.returned (slice a k c)/\Bl w w'/\(k<=c/\c<=9223372036854775807)/\Hid (Rf K w' a p)
theorem zrK {w K ao k cap p} (h:Rqs K w ao p) (hp:p.length=k) (hk:k<=10000) (hK:K<=200000) :
  Calls prog 51 #[slice ao k cap] w λe w'=>zrs (2*K) w w' e k p:=by
 have H:=zk h;clear h;have HPL:=zk hp;go_enter func51,ntmps51;go_wp2_with fail
 go_loopw[3,8] (λov t wr=>∃(i:Nat),i<=k/\t=.int .i64 i/\Hid (Bl w wr)/\Hid (Gr (2*K) w.heap.size wr ov (p.take i))) (λ_ t _=>k-(intOf t).toNat)
 case atStart=>exact⟨0,by omega,rfl,Below.refl _ _,zno _ _ _⟩
 case round =>
  obtain⟨i,hi,rfl,HB,HG⟩:=hrel;by_cases hlt:i<k
  ·obtain⟨q,hq⟩:∃q,p[i]?=some q:=⟨_,getElem?_eq_getElem (by omega)⟩;obtain⟨b,o,⟨s,x,n,c,f,y,m,d,g⟩,hao,hc,hn⟩:=(H.out.q_ HB.out) i q hq;subst hao;obtain⟨x0,x1,x2⟩:=hc;replace x0:wr.cell? ⟨b,o+i*3,none⟩=some (.bool s):=x0;replace x1:wr.cell? ⟨b,o+i*3+1,none⟩=some (slice x n c):=x1;replace x2:wr.cell? ⟨b,o+i*3+2,none⟩=some (slice y m d):=x2;have i1:((i:Nat):Int)<((k:Nat):Int):=by omega
   have HQ:=zk hq;have hb5:=zA wr (cells #[.bool s,slice x n c,slice y m d] 91);have HN:=zk (hn.q_ hb5);have HB5:=zI HB hb5;have HG5:=zk (HG.out.q_ hb5)
   have hli:(p.take i).length=i:=by rw[List.length_take];omega
   have HLI:=zk hli;clear hn hb5 hq hli;go_wp2_with fail
   clear x0 x1 x2 HB HG;generalize wr.alloc (cells #[.bool s,slice x n c,slice y m d] 91)=w5 at *;refine(zcd HN.out.2.2 (le_trans HN.out.1 hK) (le_trans HN.out.2.1 hK)).mono ?_;rintro e w6 ⟨zp,np,cp,fp,zq,nq9,cq,fq,rfl,hb6,hr⟩;have HB6:=zI HB5 hb6;have HG6:=zk (HG5.out.q_ hb6)
   have HR:Hid (Rn (2*K) w6 s zp np cp fp zq nq9 cq fq q):=hr.out.mono (by have h1:n<=K:=HN.out.1;have h2:m<=K:=HN.out.2.1;show n+m<=2*K;omega);clear hb6 HB5 HG5 HN hr;have hsz:=HB6.out.size;obtain⟨T9,hrow,hT⟩:=HG6.out;rw[HLI.out]at hrow
   have HROW:=zk hrow;have HTT:=zk hT
   clear hrow hT HG6;go_wp2_with(at_builtin;go_must (refine zW w6 rfl (.tmp 12) (.tmp 15) 29 rfl w.heap.size 24 56 3 (agg #[.bool false,slice none 0 0,slice none 0 0]) underlying29 zfi rfl (by decide) nz3 u3 i (zaw (rls i T9)) rfl HROW.out #[.bool s,slice zp np cp,slice zq nq9 cq] rfl rfl (zmS _ _ _ _ _ _ _) (ziZ _ _ _ _ _ _ _) ?p1 (by decide) hsz ?_))
   case p1=>omega
   intro g8 cap8 w8 hr8 hk8 hb8 hg8;have HB8:=zk (hb8 w HB6.out (le_refl _));have HG8:Hid (Gr (2*K) w.heap.size w8 (slice (some ⟨g8,0,none⟩) (i+1) cap8) (p.take (i+1))):=by
    have hp9:=zko (p:=p.take i) HTT.out (by rw[HLI.out];exact hr8) hk8 HR.out;rw[HLI.out]at hp9
    rw[List.take_add_one,HQ.out];exact hp9
   clear hr8 hk8 hb8 hg8 HB6 hsz HROW HTT HLI HQ HR;go_wp2;go_roundw
   case rel=>exact⟨i+1,by omega,by go_num,HB8.out,HG8.out⟩
   case measure=>simp[intOf];omega
  ·have e1:i=k:=by omega
   have i1:¬(((i:Nat):Int)<((k:Nat):Int)):=by omega
   obtain⟨va,vc,hvs,hvc⟩:=HG.out.slice;rw[List.take_of_length_le (by omega)]at hvs hvc
   rw[hp]at hvs hvc
   have HG4:=HG.out;rw[hvs]at HG4
   replace HG4:=zk (show Rf (2*K) wr va p by have:=HG4.rf;rw[List.take_of_length_le (by omega)]at this;exact this);subst hvs;have HV4:=zk hvc;clear HG e1 hvc;go_wp2;go_ret;exact⟨va,vc,rfl,HB.out,HV4.out,HG4⟩
theorem Rqs.off {K w w' B ao p L ty} (h:Rqs K w ao p) (hB:Bk w B L ty) (hz:∀(j:Nat) (b:Bool) (y:Option Addr) (m d:Nat),L[j]?=some (.bool b)->L[j+2]?=some (slice y m d)->m=0) (hk:Kp w w') (hh:∀k,k≠B->w'.heap[k]?=w.heap[k]?):Rqs K w' ao p :=
 (RqF.st (B:=B) ⟨h,λj q hj b o e=>by
  obtain⟨b',o',t,h1,⟨c0,_,c2⟩,h3⟩:=h j q hj;rw[h1]at e
  have e1:b'=b:=by have:=Option.some.inj e;exact congrArg Addr.block this
  subst e1;intro e2;subst e2;unfold Bk at hB;simp only[World.cell?,hB]at c0 c2;have hm:t.m=0:=hz _ _ _ _ _ (by simpa using c0) (by simpa using c2);have h4:=h3.2.2.den.val;rw[hm]at h4
  exact q.den_nz (by have h9:(0:Int)=(q.den:Int):=h4;omega)⟩ hk hh).1
def GMq (of:Rat) (cs:List CV) (rs:List RV) (v:Value) (w:World):Prop:=∃M':Mo,v=M'.val/\MqV (2*8) w M' of cs rs
theorem GMq.q_ {of cs rs v w w'} (h:GMq of cs rs v w) (hb:Bl w w'):GMq of cs rs v w':=by obtain⟨M',e,h⟩:=h;exact⟨M',e,h.q_ hb⟩
def GC4 (k0 k1 k2 k3:Nat) (l0 l1 l2 l3:List Rat) (v:Value) (w:World):Prop:=∃b0 e0 b1 e1 b2 e2 b3 e3,v=agg #[slice b0 k0 e0,slice b1 k1 e1,slice b2 k2 e2,slice b3 k3 e3]/\Q4 (2*8) w b0 b1 b2 b3 l0 l1 l2 l3
theorem GC4.q_ {k0 k1 k2 k3 l0 l1 l2 l3 v w w'} (h:GC4 k0 k1 k2 k3 l0 l1 l2 l3 v w) (hb:Bl w w'):GC4 k0 k1 k2 k3 l0 l1 l2 l3 v w':=by
 obtain⟨b0,e0,b1,e1,b2,e2,b3,e3,e,h⟩:=h;exact⟨b0,e0,b1,e1,b2,e2,b3,e3,e,h.q_ hb⟩
def ANs (er:Int) (K:Nat) (w:World) (a:Option Addr) (n:Nat) (p:List Rat):Prop:=er≠0/\n=0∨er=0/\n=p.length/\Rf K w a p
theorem ANs.q_ {er K w w' a n p} (h:ANs er K w a n p) (hb:Bl w w'):ANs er K w' a n p:=by
 rcases h with h|⟨h1,h2,h3⟩
 ·exact .inl h
 ·exact .inr ⟨h1,h2,h3.q_ hb⟩
theorem zcx {w er K K' a b n m ca cb p} (h1:ANs er K w a n p) (h2:ANs er K' w b m p) (hp:er=0->p.length<=64) (hK:K<=1048576) (hK':K'<=1048576) :
  Calls prog 14 #[slice a n ca,slice b m cb] w λe w'=>e=.returned (.bool true)/\Bl w w':=by
 rcases h1 with⟨h0,rfl⟩|⟨h0,rfl,h1⟩
 ·rcases h2 with⟨_,rfl⟩|⟨h9,_⟩
  ·exact zgn (L:=1) (L':=1) (p:=[]) (λj q hj=>by simp at hj) (λj q hj=>by simp at hj) rfl (by decide) (by decide) (by decide)
  ·exact absurd h9 h0
 ·rcases h2 with⟨h9,_⟩|⟨_,rfl,h2⟩
  ·exact absurd h0 h9
  ·exact zgn h1 h2 rfl (by have:=hp h0;omega) hK hK'
def VNs (er:Int) (K:Nat) (w:World) (t:Nm) (q:Rat):Prop:=er≠0/\t=⟨false,none,0,0,λ_=>0,none,0,0,λ_=>0⟩∨er=0/\NmV K w t q
theorem VNs.q_ {er K w w' t q} (h:VNs er K w t q) (hb:Bl w w'):VNs er K w' t q:=by
 rcases h with h|⟨h1,h2⟩
 ·exact .inl h
 ·exact .inr ⟨h1,h2.q_ hb⟩
theorem zie (w:World):NmS w ⟨false,none,0,0,λ_=>0,none,0,0,λ_=>0⟩:=⟨⟨λj h=>absurd h (Nat.not_lt_zero j),λj h=>absurd h (Nat.not_lt_zero j),by decide,λ_=>⟨rfl,rfl⟩,λj h=>absurd h (Nat.not_lt_zero j),λj h=>absurd h (Nat.not_lt_zero j),by decide,λ_=>⟨rfl,rfl⟩⟩,by decide,by decide⟩
theorem zmC {w er K K' t t2 q} (h1:VNs er K w t q) (h2:VNs er K' w t2 q) (hK:K<=1048576) (hK':K'<=1048576) :
  Calls prog 15 #[agg #[.bool t.s,slice t.x t.n t.c,slice t.y t.m t.d],agg #[.bool t2.s,slice t2.x t2.n t2.c,slice t2.y t2.m t2.d]] w λe w'=>e=.returned (.bool true)/\Bl w w':=by
 rcases h1 with⟨h0,rfl⟩|⟨h0,h1⟩
 ·rcases h2 with⟨_,rfl⟩|⟨h9,_⟩
  ·exact zpc (zie w) (zie w)
  ·exact absurd h9 h0
 ·rcases h2 with⟨h9,_⟩|⟨_,h2⟩
  ·exact absurd h0 h9
  ·exact zcK h1 h2 hK hK'
def cE (er:Int) (bs:List BV):Int:=if er=0 then (if bs.any infB=true then 8 else 0) else er
def cN (er:Int) (bs:List BV) (n:Nat):Nat:=if cE er bs=0 then n else 0
def GT3v (GA GB:Value->World->Prop) (c:Value) (v:Value) (w:World):Prop:=∃a b,v=.tuple #[a,b,c]/\GA a w/\GB b w
def GT4 (k0:Nat) (X0:Nat->Nm) (k1:Nat) (X1:Nat->Nm) (k2:Nat) (X2:Nat->Nm) (k3:Nat) (X3:Nat->Nm) (v:Value) (w:World):Prop:=∃b0 d0 Y0 b1 d1 Y1 b2 d2 Y2 b3 d3 Y3,v=agg #[slice b0 k0 d0,slice b1 k1 d1,slice b2 k2 d2,slice b3 k3 d3]/\T4 w b0 b1 b2 b3 k0 X0 Y0 k1 X1 Y1 k2 X2 Y2 k3 X3 Y3
theorem GT3v.q_ {GA GB c v w w'} (hA:∀a,GA a w->GA a w') (hB:∀a,GB a w->GB a w') (h:GT3v GA GB c v w):GT3v GA GB c v w':=by obtain⟨a,b,e,h1,h2⟩:=h;exact⟨a,b,e,hA a h1,hB b h2⟩
theorem GT4.q_ {k0 X0 k1 X1 k2 X2 k3 X3 v w w'} (h:GT4 k0 X0 k1 X1 k2 X2 k3 X3 v w) (hb:Bl w w'):GT4 k0 X0 k1 X1 k2 X2 k3 X3 v w':=by
 obtain⟨b0,d0,Y0,b1,d1,Y1,b2,d2,Y2,b3,d3,Y3,e,h⟩:=h;exact⟨b0,d0,Y0,b1,d1,Y1,b2,d2,Y2,b3,d3,Y3,e,h.q_ hb⟩
theorem zpN {er bs} (h:cE er bs=0):er=0/\bs.any infB=false:=by
 unfold cE at h;by_cases e:er=0
 ·rw[if_pos e]at h
  cases hi:bs.any infB
  ·exact⟨e,rfl⟩
  ·rw[hi]at h;cases h
 ·rw[if_neg e]at h;exact absurd h e
theorem Rf.box {L w w' ao B t p} (h:Rf L w ao p) (hB:Bk w B [.bool false,slice none 0 0,slice none 0 0] t) (hk:Kp w w') (hne:∀k,k≠B->w'.heap[k]?=w.heap[k]?):Rf L w' ao p:=λj q e=>by
 obtain⟨b,o,t,h1,h2,h3⟩:=h j q e;have hb:b≠B:=λe'=>by
  subst e';have hc:=h2.x2;unfold Bk at hB;simp only[World.cell?,hB]at hc
  match hoj:o+j*3,hc with
  | 0,hc =>
   have hc2:Value.slice none 0 0=Value.slice t.y t.m t.d:=by simpa using hc
   injection hc2 with _ hm _;have:=h3.den.pos (by have:=q.den_pos;omega);omega
  | k+1,hc=>simp at hc
 have hc:∀i,w'.cell? ⟨b,i,none⟩=w.cell? ⟨b,i,none⟩:=λi=>by simp only[World.cell?,hne b hb]
 exact⟨b,o,t,h1,⟨(hc _).trans h2.x0,(hc _).trans h2.x1,(hc _).trans h2.x2⟩,Rn.kp h3 hk⟩
theorem zmR (k:Nat) (X:Nat->Nm) (n:Nat):pnE k X n=if afB k X=true then (if k=n then 0 else 7) else 3:=by
 unfold pnE;by_cases h:k=n
 ·rw[if_pos h,if_pos (show((k:Nat):Int)=((n:Nat):Int)from congrArg _ h)]
 ·rw[if_neg h,if_neg (show ¬((k:Nat):Int)=((n:Nat):Int)from λe=>h (Int.ofNat.inj e))]
theorem zsg {a b c d} (ha:a=0∨a=3∨a=7) (hb:b=0∨b=3∨b=7) (hc:c=0∨c=3∨c=7) (hd:d=0∨d=3∨d=7):lsf (fqu a b c d) 4=if a=3∨b=3∨c=3∨d=3 then 3 else if a=7∨b=7∨c=7∨d=7 then 7 else 0:=by
 rcases ha with rfl|rfl|rfl <;> rcases hb with rfl|rfl|rfl <;> rcases hc with rfl|rfl|rfl <;> rcases hd with rfl|rfl|rfl <;> decide
theorem zeX (k:Nat) (X:Nat->Nm) (n:Nat):pnE k X n=0∨pnE k X n=3∨pnE k X n=7:=by
 rw[zmR];split
 ·split
  ·exact .inl rfl
  ·exact .inr (.inr rfl)
 ·exact .inr (.inl rfl)
theorem pn3 {k X} {n:Nat}:pnE k X n=3 ↔ afB k X=false:=by
 rw[zmR];split
 ·rename_i h;rw[h];split <;> simp
 ·rename_i h;simpa using h
theorem pn7 {k X} {n:Nat}:pnE k X n=7 ↔ afB k X=true/\k≠n:=by
 rw[zmR];split
 ·rename_i h;split <;> simp[*]
 ·rename_i h;simp[h]
theorem zpM (M:Mo) (k0 k1 k2 k3:Nat) (X0 X1 X2 X3:Nat->Nm):cbE M k0 X0 k1 X1 k2 X2 k3 X3=(if (decide (k0=M.rk) && (decide (k1=M.rk) && (decide (k2=M.ck) && decide (k3=M.ck))))=true then (if (afB k0 X0 && (afB k1 X1 && (afB k2 X2 && afB k3 X3)))=true then zar M else lstep (zar M) 3) else lstep (if (afB k0 X0 && (afB k1 X1 && (afB k2 X2 && afB k3 X3)))=true then zar M else lstep (zar M) 3) 7):=by
 unfold cbE zit;rw[lsf_two,zsg (zeX _ _ _) (zeX _ _ _) (zeX _ _ _) (zeX _ _ _)];simp only[pn3,pn7];have hz:∀e:Int,lstep e 0=e:=λe=>by unfold lstep;split <;> omega
 by_cases hf:(afB k0 X0 && (afB k1 X1 && (afB k2 X2 && afB k3 X3)))=true
 ·rw[if_pos hf];simp only[Bool.and_eq_true]at hf;obtain⟨f0,f1,f2,f3⟩:=hf;rw[if_neg (by simp[f0,f1,f2,f3])];by_cases ht:(decide (k0=M.rk) && (decide (k1=M.rk) && (decide (k2=M.ck) && decide (k3=M.ck))))=true
  ·rw[if_pos ht];simp only[Bool.and_eq_true,decide_eq_true_eq]at ht;rw[if_neg (by simp[ht.1,ht.2.1,ht.2.2.1,ht.2.2.2]),hz]
  ·rw[if_neg ht,if_pos];simp only[Bool.and_eq_true,decide_eq_true_eq]at ht;simp only[f0,f1,f2,f3,true_and];by_cases h0:k0=M.rk
   ·by_cases h1:k1=M.rk
    ·by_cases h2:k2=M.ck
     ·exact .inr (.inr (.inr (λh3=>ht ⟨h0,h1,h2,h3⟩)))
     ·exact .inr (.inr (.inl h2))
    ·exact .inr (.inl h1)
   ·exact .inl h0
 ·rw[if_neg hf,zng,ite_self,if_pos];cases h0:afB k0 X0
  ·exact .inl rfl
  ·cases h1:afB k1 X1
   ·exact .inr (.inl rfl)
   ·cases h2:afB k2 X2
    ·exact .inr (.inr (.inl rfl))
    ·cases h3:afB k3 X3
     ·exact .inr (.inr (.inr rfl))
     ·exact absurd (by simp[h0,h1,h2,h3]) hf
theorem zbK {w} {k:Nat} (hk:k<=10000) :
  Calls prog 93 #[.int .i64 k] w λe w'=>∃v a c,e=.returned v/\v=slice a k c/\Bl w w'/\Hid (Gr 4 w.heap.size w' v (List.replicate k 0)):=by
 go_enter func93,ntmps93;go_wp2_with fail
 go_loopw[3,4] (λov t wr=>∃(i:Nat),i<=k/\t=.int .i64 i/\Hid (Bl w wr)/\Hid (Gr 4 w.heap.size wr ov (List.replicate i 0))) (λ_ t _=>k-(intOf t).toNat)
 case atStart=>exact⟨0,by omega,rfl,Below.refl _ _,zno _ _ _⟩
 case round =>
  obtain⟨i,hi,rfl,HB,HG⟩:=hrel;by_cases hlt:i<k
  ·have i1:((i:Nat):Int)<((k:Nat):Int):=by omega
   go_wp2_with fail
   refine(zjZ _).mono ?_;rintro e w4 ⟨s8,x8,n8,c8,d8,y8,m8,e8,g8,rfl,hb,hr1,hr2,hr⟩;replace HB:=zI HB hb;replace HG:=zk (HG.out.q_ hb)
   have HQ:=zk (And.intro hr1 (And.intro hr2 hr));clear hb hr1 hr2 hr;go_wp2_with fail
   refine(zcd HQ.out.2.2 (le_trans HQ.out.1 (by decide)) (le_trans HQ.out.2.1 (by decide))).mono ?_;rintro e w6 ⟨zp,np,cp,fp,zq,nq9,cq,fq,rfl,hb6,hr⟩;have HB6:=zI HB hb6;have HG6:=zk (HG.out.q_ hb6)
   have HR:Hid (Rn 4 w6 s8 zp np cp fp zq nq9 cq fq 0):=hr.out.mono (by have h1:=HQ.out.1;have h2:=HQ.out.2.1;omega);clear hb6 HB HG HQ hr;have hsz:=HB6.out.size;obtain⟨T9,hrow,hT⟩:=HG6.out;rw[List.length_replicate]at hrow
   have HROW:=zk hrow;have HTT:=zk hT
   clear hrow hT HG6;go_wp2_with(at_builtin;go_must (refine zW w6 rfl (.tmp 10) (.tmp 13) 29 rfl w.heap.size 24 56 3 (agg #[.bool false,slice none 0 0,slice none 0 0]) underlying29 zfi rfl (by decide) nz3 u3 i (zaw (rls i T9)) rfl HROW.out #[.bool s8,slice zp np cp,slice zq nq9 cq] rfl rfl (zmS _ _ _ _ _ _ _) (ziZ _ _ _ _ _ _ _) ?p1 (by decide) hsz ?_))
   case p1=>omega
   intro g8_ cap8 w8 hr8 hk8 hb8 hg8;have HB8:=zk (hb8 w HB6.out (le_refl _));have HG8:Hid (Gr 4 w.heap.size w8 (slice (some ⟨g8_,0,none⟩) (i+1) cap8) (List.replicate (i+1) 0)):=by
    have hp9:=zko (p:=List.replicate i 0) HTT.out (by rw[List.length_replicate];exact hr8) hk8 HR.out;rw[List.length_replicate]at hp9
    rw[List.replicate_succ'];exact hp9
   clear hr8 hk8 hb8 hg8 HB6 hsz HROW HTT HR;go_wp2;go_roundw
   case rel=>exact⟨i+1,by omega,by go_num,HB8.out,HG8.out⟩
   case measure=>simp[intOf];omega
  ·have e1:i=k:=by omega
   have i1:¬(((i:Nat):Int)<((k:Nat):Int)):=by omega
   rw[e1]at HG
   obtain⟨va,vc,hvs,hvc⟩:=HG.out.slice;rw[List.length_replicate]at hvs
   have HV:=zk hvs;clear e1 hvc hvs;go_wp2;go_ret;exact⟨_,rfl,⟨va,vc,HV.out⟩,HB.out,HG⟩
def GLq (K k:Nat) (p:List Rat) (v:Value) (w:World):Prop:=∃a c,v=slice a k c/\Rqs K w a p
theorem GLq.q_ {K k p v w w'} (h:GLq K k p v w) (hb:Bl w w'):GLq K k p v w':=by obtain⟨a,c,e,h⟩:=h;exact⟨a,c,e,h.q_ hb⟩
def GT2q (GA GB:Value->World->Prop) (v:Value) (w:World):Prop:=∃a b,v=.tuple #[a,b]/\GA a w/\GB b w
theorem GT2q.q_ {GA GB v w w'} (hA:∀a,GA a w->GA a w') (hB:∀a,GB a w->GB a w') (h:GT2q GA GB v w):GT2q GA GB v w':=by obtain⟨a,b,e,h1,h2⟩:=h;exact⟨a,b,e,hA a h1,hB b h2⟩
def zqi (w w':World) (e:Ending) (er:Int) (p:List Rat) (q:Rat):Prop:=∃a n c,∃t:Nm,e=.returned (.tuple #[slice a n c,agg #[.bool t.s,slice t.x t.n t.c,slice t.y t.m t.d],.int .i64 er])/\Bl w w'/\Hid (ANs er (2*(2*KX 8)) w' a n p)/\Hid (VNs er (2*(2*KX 8)) w' t q)
theorem zhA {w M a0 a1 a2 a3 k0 c0 k1 c1 k2 c2 k3 c3 X0 X1 X2 X3} (hI:In8 w M) (h0:Rl w a0 k0 X0) (z0:ShK 8 k0 X0) (h1:Rl w a1 k1 X1) (z1:ShK 8 k1 X1) (h2:Rl w a2 k2 X2) (z2:ShK 8 k2 X2) (h3:Rl w a3 k3 X3) (z3:ShK 8 k3 X3) :
  Calls prog 13 #[M.val,agg #[slice a0 k0 c0,slice a1 k1 c1,slice a2 k2 c2,slice a3 k3 c3]] w λe w'=>zqi w w' e (cE (cbE M k0 X0 k1 X1 k2 X2 k3 X3) (bdA (zag M) (zam M) (zN k0 X0) (zN k1 X1) (zN k2 X2) (zN k3 X3))) ((List.range (zag M).length).map (cmbQ (bdA (zag M) (zam M) (zN k0 X0) (zN k1 X1) (zN k2 X2) (zN k3 X3)))) (cmbS (bdA (zag M) (zam M) (zN k0 X0) (zN k1 X1) (zN k2 X2) (zN k3 X3))):=by
 have HE:=zk (zpM M k0 k1 k2 k3 X0 X1 X2 X3);have CD:=zk (λW (hW:Bl w W)=>zdk (w:=W) ((hI.x.q_ hW).both hI.n hI.k (by decide)) hI.c);have CF:=zk (λW=>znz (w:=W) (M:=M) (a0:=a0) (a1:=a1) (a2:=a2) (a3:=a3) (k0:=k0) (c0:=c0) (k1:=k1) (c1:=c1) (k2:=k2) (c2:=c2) (k3:=k3) (c3:=c3));have CO:=zk (λW (hW:Bl w W)=>zly (c0:=c0) (c1:=c1) (c2:=c2) (c3:=c3) (h0.q_ hW) z0 (h1.q_ hW) z1 (h2.q_ hW) z2 (h3.q_ hW) z3);obtain⟨er,her⟩:∃t,cbE M k0 X0 k1 X1 k2 X2 k3 X3=t:=⟨_,rfl⟩;have HK:Hid (er=0->zar M=0/\(afB k0 X0=true/\afB k1 X1=true/\afB k2 X2=true/\afB k3 X3=true)/\k0=M.rk/\k1=M.rk/\k2=M.ck/\k3=M.ck):=λe=>zhJ (her.trans e)
 obtain⟨fit,hfit⟩:∃t,(decide (k0=M.rk) && (decide (k1=M.rk) && (decide (k2=M.ck) && decide (k3=M.ck))))=t:=⟨_,rfl⟩;obtain⟨frm,hfrm⟩:∃t,(afB k0 X0 && (afB k1 X1 && (afB k2 X2 && afB k3 X3)))=t:=⟨_,rfl⟩;rw[hfit,hfrm,her]at HE
 rw[hfit]at CF
 rw[hfrm]at CO
 rw[her];clear hfit hfrm her;have CC:Hid (er=0->∀W,Bl w W->Calls prog 49 #[agg #[slice a0 k0 c0,slice a1 k1 c1,slice a2 k2 c2,slice a3 k3 c3]] W λe w'=>∃b0 e0 b1 e1 b2 e2 b3 e3,e=.returned (agg #[slice b0 k0 e0,slice b1 k1 e1,slice b2 k2 e2,slice b3 k3 e3])/\Bl W w'/\Hid (Q4 (2*8) w' b0 b1 b2 b3 (zN k0 X0) (zN k1 X1) (zN k2 X2) (zN k3 X3))):=λe W hW=>by
  obtain⟨_,⟨f0,f1,f2,f3⟩,_⟩:=HK.out e;exact znu (h0.q_ hW) z0 f0 (h1.q_ hW) z1 f1 (h2.q_ hW) z2 f2 (h3.q_ hW) z3 f3
 have CM:Hid (er=0->∀W,Bl w W->Calls prog 48 #[M.val] W λe w'=>∃M':Mo,e=.returned M'.val/\Bl W w'/\Hid (MqV (2*8) w' M' (nq M.off) (zag M) (zam M))):=λe W hW=>zpz (hI.q_ hW) (HK.out e).1
 have HL:Hid (er=0->(zN k0 X0).length=(zam M).length/\(zN k1 X1).length=(zam M).length/\(zN k2 X2).length=(zag M).length/\(zN k3 X3).length=(zag M).length/\((zam M).length=k0/\(zam M).length=k1/\(zag M).length=k2/\(zag M).length=k3)):=λe=>by
  obtain⟨_,_,g0,g1,g2,g3⟩:=HK.out e;rw[zbg,zbg,zbg,zbg,zfD,zfV];exact⟨g0,g1,g2,g3,g0.symm,g1.symm,g2.symm,g3.symm⟩
 have CR:Hid (er=0->∀W (M':Mo) b0 e0 b1 e1 b2 e2 b3 e3,MqV (2*8) W M' (nq M.off) (zag M) (zam M)->Q4 (2*8) W b0 b1 b2 b3 (zN k0 X0) (zN k1 X1) (zN k2 X2) (zN k3 X3)->Calls prog 47 #[M'.val,agg #[slice b0 k0 e0,slice b1 k1 e1,slice b2 k2 e2,slice b3 k3 e3]] W λe w'=>e=.returned (.bool ((bdA (zag M) (zam M) (zN k0 X0) (zN k1 X1) (zN k2 X2) (zN k3 X3)).any infB))/\Bl W w'):=λe W M' b0 e0 b1 e1 b2 e2 b3 e3 g1 g2=>by
  obtain⟨j0,j1,j2,j3,i0,i1,i2,i3⟩:=HL.out e;have hm:=(hI.val (HK.out e).1).2;have:=zpa (e0:=e0) (e1:=e1) (e2:=e2) (e3:=e3) (L:=8) g1 g2 j0 j1 j2 j3 (zbB hm) (by decide);have hv:(Value.agg #[slice b0 k0 e0,slice b1 k1 e1,slice b2 k2 e2,slice b3 k3 e3])=agg #[.slice b0 (zam M).length e0,.slice b1 (zam M).length e1,.slice b2 (zag M).length e2,.slice b3 (zag M).length e3]:=by rw[i0,i2,show k1=k0 from i1.symm.trans i0,show k3=k2 from i3.symm.trans i2]
  rw[hv];exact this
 have CB:Hid (er=0->∀W (M':Mo) b0 e0 b1 e1 b2 e2 b3 e3,MqV (2*8) W M' (nq M.off) (zag M) (zam M)->Q4 (2*8) W b0 b1 b2 b3 (zN k0 X0) (zN k1 X1) (zN k2 X2) (zN k3 X3)->Calls prog 50 #[M'.val,agg #[slice b0 k0 e0,slice b1 k1 e1,slice b2 k2 e2,slice b3 k3 e3]] W λe w'=>zqg (2*KX 8) W w' e (zag M).length ((List.range (zag M).length).map (cmbQ (bdA (zag M) (zam M) (zN k0 X0) (zN k1 X1) (zN k2 X2) (zN k3 X3)))) (cmbS (bdA (zag M) (zam M) (zN k0 X0) (zN k1 X1) (zN k2 X2) (zN k3 X3)))):=λe W M' b0 e0 b1 e1 b2 e2 b3 e3 g1 g2=>by
  obtain⟨j0,j1,j2,j3,i0,i1,i2,i3⟩:=HL.out e;have hm:=(hI.val (HK.out e).1).2;have:=ziU (e0:=e0) (e1:=e1) (e2:=e2) (e3:=e3) (L:=8) g1 g2 j0 j1 j2 j3 (zbB hm) (zmY hm) (by decide) (by decide);have hv:(Value.agg #[slice b0 k0 e0,slice b1 k1 e1,slice b2 k2 e2,slice b3 k3 e3])=agg #[.slice b0 (zam M).length e0,.slice b1 (zam M).length e1,.slice b2 (zag M).length e2,.slice b3 (zag M).length e3]:=by rw[i0,i2,show k1=k0 from i1.symm.trans i0,show k3=k2 from i3.symm.trans i2]
  rw[hv];exact this
 have HCL:Hid (er=0->(zag M).length<=64):=λe=>(zbB (hI.val (HK.out e).1).2).cl
 obtain⟨inf,hinf⟩:∃t,(bdA (zag M) (zam M) (zN k0 X0) (zN k1 X1) (zN k2 X2) (zN k3 X3)).any infB=t:=⟨_,rfl⟩;rw[hinf]at CR
 have HCE:Hid (cE er (bdA (zag M) (zam M) (zN k0 X0) (zN k1 X1) (zN k2 X2) (zN k3 X3))=if er=0 then (if inf=true then 8 else 0) else er):=by show _=_;unfold cE;rw[hinf]
 obtain⟨ce,hce⟩:∃t,cE er (bdA (zag M) (zam M) (zN k0 X0) (zN k1 X1) (zN k2 X2) (zN k3 X3))=t:=⟨_,rfl⟩;rw[hce]at HCE ⊢
 clear hinf hce;obtain⟨pl,hpl⟩:∃t,(List.range (zag M).length).map (cmbQ (bdA (zag M) (zam M) (zN k0 X0) (zN k1 X1) (zN k2 X2) (zN k3 X3)))=t:=⟨_,rfl⟩;have HPN:Hid (pl.length=(zag M).length):=by show _=_;rw[<-hpl];simp
 obtain⟨fs,hfs⟩:∃t,cmbS (bdA (zag M) (zam M) (zN k0 X0) (zN k1 X1) (zN k2 X2) (zN k3 X3))=t:=⟨_,rfl⟩;rw[hpl,hfs]at CB ⊢
 clear hpl hfs;obtain⟨ec,hec⟩:∃t,zar M=t:=⟨_,rfl⟩;rw[hec]at CD HE
 obtain⟨cs,hcs⟩:∃e,zag M=e:=⟨_,rfl⟩;obtain⟨rs,hrs⟩:∃e,zam M=e:=⟨_,rfl⟩;obtain⟨of,hof⟩:∃e,nq M.off=e:=⟨_,rfl⟩;rw[hcs,hrs,hof]at CR CB
 simp only[hcs,hrs,hof]at CM;rw[hcs]at HPN HCL
 clear hI h0 h1 h2 h3 z0 z1 z2 z3 hec hcs hrs hof HK HL;obtain⟨⟨s,x,n,c,f,y,m,d,g⟩,ca,ck,cc,C,ra,rk,rc,R⟩:=M;replace CD:Hid (∀W,Bl w W->Calls prog 32 #[agg #[.bool s,slice x n c,slice y m d,slice ca ck cc,slice ra rk rc]] W λe w'=>e=.returned (.int .i64 ec)/\Bl W w'):=CD;replace CF:Hid (∀W,Calls prog 46 #[agg #[.bool s,slice x n c,slice y m d,slice ca ck cc,slice ra rk rc],agg #[slice a0 k0 c0,slice a1 k1 c1,slice a2 k2 c2,slice a3 k3 c3]] W λe w'=>e=.returned (.bool fit)/\Bl W w'):=CF;replace CM:Hid (er=0->∀W,Bl w W->Calls prog 48 #[agg #[.bool s,slice x n c,slice y m d,slice ca ck cc,slice ra rk rc]] W λe w'=>∃M':Mo,e=.returned M'.val/\Bl W w'/\Hid (MqV (2*8) w' M' of cs rs)):=CM;show Calls prog 13 #[agg #[.bool s,slice x n c,slice y m d,slice ca ck cc,slice ra rk rc],agg #[slice a0 k0 c0,slice a1 k1 c1,slice a2 k2 c2,slice a3 k3 c3]] w _;have HB:=zk (zu (zu (zA w (cells #[.bool s,slice x n c,slice y m d,slice ca ck cc,slice ra rk rc] 28)) (cells #[slice a0 k0 c0,slice a1 k1 c1,slice a2 k2 c2,slice a3 k3 c3] 31)) (cells #[.bool false,slice none 0 0,slice none 0 0] 24));have BM:=zk (((zH w [.bool s,slice x n c,slice y m d,slice ca ck cc,slice ra rk rc] 28).q_ (zA _ (cells #[slice a0 k0 c0,slice a1 k1 c1,slice a2 k2 c2,slice a3 k3 c3] 31))).q_ (zA _ (cells #[.bool false,slice none 0 0,slice none 0 0] 24)));have BA:=zk ((zaV w (cells #[.bool s,slice x n c,slice y m d,slice ca ck cc,slice ra rk rc] 28) [slice a0 k0 c0,slice a1 k1 c1,slice a2 k2 c2,slice a3 k3 c3] 31).q_ (zA _ (cells #[.bool false,slice none 0 0,slice none 0 0] 24)));have BZ:=zaV (w.alloc (cells #[.bool s,slice x n c,slice y m d,slice ca ck cc,slice ra rk rc] 28)) (cells #[slice a0 k0 c0,slice a1 k1 c1,slice a2 k2 c2,slice a3 k3 c3] 31) [.bool false,slice none 0 0,slice none 0 0] 24;rw[zw]at BZ
 replace BZ:=zk BZ;go_enter func13,ntmps13;go_upto_region 1 with fail
 generalize((w.alloc (cells #[.bool s,slice x n c,slice y m d,slice ca ck cc,slice ra rk rc] 28)).alloc (cells #[slice a0 k0 c0,slice a1 k1 c1,slice a2 k2 c2,slice a3 k3 c3] 31)).alloc (cells #[.bool false,slice none 0 0,slice none 0 0] 24)=v0 at *;obtain⟨r0,r1,r2,r3,r4⟩:=bk5 BM.out;obtain⟨t0,t1,t2,t3⟩:=bk4 BA.out;go_wp2_with fail
 clear r0 r1 r2 r3 r4 t0 t1 t2 t3;refine(CD.out _ HB.out).mono ?_;rintro e v1 ⟨rfl,hb⟩;replace HB:=zI HB hb;replace BM:=zk (BM.out.q_ hb);replace BA:=zk (BA.out.q_ hb);replace BZ:=zk (BZ.out.q_ hb)
 clear hb;clear CD;obtain⟨r0,r1,r2,r3,r4⟩:=bk5 BM.out;obtain⟨t0,t1,t2,t3⟩:=bk4 BA.out;go_wp2_with fail
 clear r0 r1 r2 r3 r4 t0 t1 t2 t3;refine(CO.out _ HB.out).mono ?_;rintro e v2 ⟨rfl,hb⟩;replace HB:=zI HB hb;replace BM:=zk (BM.out.q_ hb);replace BA:=zk (BA.out.q_ hb);replace BZ:=zk (BZ.out.q_ hb)
 clear hb;clear CO;obtain⟨e1,he1⟩:∃t,(if frm=true then ec else lstep ec 3)=t:=⟨_,rfl⟩;have HE1:=zk he1.symm;replace HE:Hid (er=if fit=true then e1 else lstep e1 7):=by show _=_;rw[HE.out,<-he1]
 clear he1
 go_upto_if 14 with fail
 go_cut [7]from 15 to 17 (λv wx=>∃wz:World,wz=wx/\v=.int .i64 e1/\Hid (Bl v2 wz))
 case first =>
  cases frm
  ·go_wp2_with fail
   refine(zfU ziP (by decide)).mono ?_;rintro e w5 ⟨rfl,rfl⟩;rw[lsf_two];have HV:Hid (e1=lstep ec 3):=HE1;go_wp2_with fail
   go_meet
   exact⟨_,rfl,by rw[HV.out],zk (zA _ _)⟩
  ·have HV:Hid (e1=ec):=HE1;go_wp2_with fail
   go_meet
   exact⟨_,rfl,by rw[HV.out],zk (Below.refl _ _)⟩
 case rest =>
  obtain⟨v3,rfl,rfl,hb⟩:=hcut;replace hb:=hb.out;replace HB:=zI HB hb;replace BM:=zk (BM.out.q_ hb);replace BA:=zk (BA.out.q_ hb);replace BZ:=zk (BZ.out.q_ hb)
  clear hb;clear HE1;have HE1:=HE;clear HE;obtain⟨r0,r1,r2,r3,r4⟩:=bk5 BM.out;obtain⟨t0,t1,t2,t3⟩:=bk4 BA.out;go_wp2_with fail
  clear r0 r1 r2 r3 r4 t0 t1 t2 t3;refine(CF.out _).mono ?_;rintro e v4 ⟨rfl,hb⟩;replace HB:=zI HB hb;replace BM:=zk (BM.out.q_ hb);replace BA:=zk (BA.out.q_ hb);replace BZ:=zk (BZ.out.q_ hb)
  clear hb;clear CF
  go_upto_if 21 with fail
  go_cut [7]from 22 to 24 (λv wx=>∃wz:World,wz=wx/\v=.int .i64 er/\Hid (Bl v4 wz))
  case first =>
   cases fit
   ·go_wp2_with fail
    refine(zfU ziP (by decide)).mono ?_;rintro e w5 ⟨rfl,rfl⟩;rw[lsf_two];have HV:Hid (er=lstep e1 7):=HE1;go_wp2_with fail
    go_meet
    exact⟨_,rfl,by rw[HV.out],zk (zA _ _)⟩
   ·have HV:Hid (er=e1):=HE1;go_wp2_with fail
    go_meet
    exact⟨_,rfl,by rw[HV.out],zk (Below.refl _ _)⟩
  case rest =>
   obtain⟨v5,rfl,rfl,hb⟩:=hcut;replace hb:=hb.out;replace HB:=zI HB hb;replace BM:=zk (BM.out.q_ hb);replace BA:=zk (BA.out.q_ hb);replace BZ:=zk (BZ.out.q_ hb)
   clear hb;clear HE1;by_cases h0:er=0
   case neg =>
    have h1:(er==0)=false:=by simpa using h0
    have h2:(er != 0)=true:=by simpa using h0
    have HF:Hid (ce=er):=by show _=_;rw[HCE.out,if_neg h0]
    have HN:=zk h0;clear h0 CM CC CR CB HCE;go_upto_region 6 with fail
    obtain⟨r0,r1,r2,r3,r4⟩:=bk5 BM.out;refine wp_region_held_drew (S:=(λw'=>w'.cell? ⟨w.heap.size,0,none⟩=some (.bool s))) (by kernel_rfl) ?_ (λhHeld=>?_)
    ·exact kCd r0
    have hbd:=Below.drew (Below.refl v5.heap.size v5);replace HB:=zI HB hbd;replace BZ:=zk (BZ.out.q_ hbd)
    generalize v5.drew=wd at *;clear hbd r0 r1 r2 r3 r4 BM BA;refine zB 0 ?_;refine zB 1 ?_;refine zB 2 ?_;simp only[zv,Act.put];refine skO 3 ?_;refine skO 4 ?_;refine skO 5 ?_;simp only[zv,Act.put];refine skO 6 ?_;refine skO 7 ?_;refine zB 8 ?_;simp only[zv,Act.put];refine dnO ?_;clear hHeld;obtain⟨z0,z1,z2⟩:=bk3 BZ.out;have zf:=BZ.out.frozen;obtain⟨hx1,hx2,hx3,hbk⟩:=st3 false none 0 0 none 0 0 rfl BZ.out HB.out (by omega);obtain⟨o0,o1,o2⟩:=bk3 hbk;have HX:=zk hx1;clear hx1 hx2 hx3 hbk;go_wp2;exact bodyPost_ret (v:=.tuple #[slice none 0 0,agg #[.bool false,slice none 0 0,slice none 0 0],.int .i64 er]) (by simp[results,results13,go_sem,o0,o1,o2]) rfl ⟨none,0,0,⟨false,none,0,0,λ_=>0,none,0,0,λ_=>0⟩,by rw[HF.out],HX.out,zk (.inl ⟨by rw[HF.out];exact HN.out,rfl⟩),zk (.inl ⟨by rw[HF.out];exact HN.out,rfl⟩)⟩
   have h1:(er==0)=true:=by simpa using h0
   have H0:=zk h0;replace CM:=zk (CM.out h0);replace CC:=zk (CC.out h0);replace CR:=zk (CR.out h0);replace CB:=zk (CB.out h0);replace HCL:=zk (HCL.out h0)
   subst h0;go_upto_region 6 with fail
   obtain⟨r0,r1,r2,r3,r4⟩:=bk5 BM.out;obtain⟨t0,t1,t2,t3⟩:=bk4 BA.out;refine wp_region_held_drew (S:=(λw'=>w'.cell? ⟨w.heap.size,0,none⟩=some (.bool s)/\w'.cell? ⟨w.heap.size,1,none⟩=some (slice x n c)/\w'.cell? ⟨w.heap.size,2,none⟩=some (slice y m d)/\w'.cell? ⟨w.heap.size,3,none⟩=some (slice ca ck cc)/\w'.cell? ⟨w.heap.size,4,none⟩=some (slice ra rk rc)/\w'.cell? ⟨w.heap.size+1,0,none⟩=some (slice a0 k0 c0)/\w'.cell? ⟨w.heap.size+1,1,none⟩=some (slice a1 k1 c1)/\w'.cell? ⟨w.heap.size+1,2,none⟩=some (slice a2 k2 c2)/\w'.cell? ⟨w.heap.size+1,3,none⟩=some (slice a3 k3 c3))) (by kernel_rfl) ?_ (λhHeld=>?_)
   ·exact⟨kCd r0,kCd r1,kCd r2,kCd r3,kCd r4,kCd t0,kCd t1,kCd t2,kCd t3⟩
   have hbd:=Below.drew (Below.refl v5.heap.size v5);replace HB:=zI HB hbd;replace BM:=zk (BM.out.q_ hbd);replace BA:=zk (BA.out.q_ hbd);replace BZ:=zk (BZ.out.q_ hbd)
   generalize v5.drew=wd at *;clear hbd;clear r0 r1 r2 r3 r4 t0 t1 t2 t3;obtain⟨r0,r1,r2,r3,r4,t0,t1,t2,t3⟩:=id hHeld;refine zB 0 ?_;refine zB 1 ?_;refine zB 2 ?_;simp only[zv,Act.put];refine zB 3 ?_;refine zB 5 ?_;simp only[zv,Act.put];refine rdO 4 (λK hK=>?_);go_simp
   go_at_call 48
   refine(CM.out _ HB.out).mono ?_;rintro e w6 ⟨M',rfl,hb6,hM⟩
   (try go_wp2_with fail)
   refine hK.out _ _ ?_ (λhH6=>?_)
   ·((try dsimp only);(refine⟨?_,?_,?_,?_,?_,?_,?_,?_,?_⟩ <;> repeat(with_reducible first|assumption|refine kCb (by assumption) ?_)))
   clear hK K;try simp only[zv,Act.put]
   replace HB:=zI HB hb6;replace BM:=zk (BM.out.q_ hb6);replace BA:=zk (BA.out.q_ hb6);replace BZ:=zk (BZ.out.q_ hb6)
   clear hb6;clear r0 r1 r2 r3 r4 t0 t1 t2 t3;obtain⟨r0,r1,r2,r3,r4,t0,t1,t2,t3⟩:=id hH6;refine rdO 6 (λK hK=>?_);go_simp
   go_at_call 49
   refine(CC.out _ HB.out).mono ?_;rintro e w7 ⟨b0,e0,b1,e1,b2,e2,b3,e3,rfl,hb7,hQ⟩
   (try go_wp2_with fail)
   refine hK.out _ _ ?_ (λhH7=>?_)
   ·((try dsimp only);(refine⟨?_,?_,?_,?_,?_,?_,?_,?_,?_⟩ <;> repeat(with_reducible first|assumption|refine kCb (by assumption) ?_)))
   clear hK K;try simp only[zv,Act.put]
   replace HB:=zI HB hb7;replace BM:=zk (BM.out.q_ hb7);replace BA:=zk (BA.out.q_ hb7);replace BZ:=zk (BZ.out.q_ hb7)
   replace hM:=zk (hM.out.q_ hb7);clear hb7;clear r0 r1 r2 r3 r4 t0 t1 t2 t3;obtain⟨r0,r1,r2,r3,r4,t0,t1,t2,t3⟩:=id hH7;refine rdO 7 (λK hK=>?_);go_simp
   go_at_call 47
   refine(CR.out _ M' b0 e0 b1 e1 b2 e2 b3 e3 hM.out hQ.out).mono ?_;rintro e w8 ⟨rfl,hb8⟩
   (try go_wp2_with fail)
   refine hK.out _ _ ?_ (λhH8=>?_)
   ·((try dsimp only);(refine⟨?_,?_,?_,?_,?_,?_,?_,?_,?_⟩ <;> repeat(with_reducible first|assumption|refine kCb (by assumption) ?_)))
   clear hK K;try simp only[zv,Act.put]
   replace HB:=zI HB hb8;replace BM:=zk (BM.out.q_ hb8);replace BA:=zk (BA.out.q_ hb8);replace BZ:=zk (BZ.out.q_ hb8)
   clear hb8 hM hQ r0 r1 r2 r3 r4 t0 t1 t2 t3;refine zB 8 ?_;simp only[zv,Act.put];refine dnO ?_;clear hHeld hH6 hH7 hH8 CR;cases inf
   ·have HF:Hid (ce=0):=by show _=_;rw[HCE.out];rfl
    clear HCE;go_upto_region 10 with fail
    obtain⟨r0,r1,r2,r3,r4⟩:=bk5 BM.out;obtain⟨t0,t1,t2,t3⟩:=bk4 BA.out;have hbd:=Below.drew (Below.refl w8.heap.size w8);replace HB:=zI HB hbd;replace BM:=zk (BM.out.q_ hbd);replace BA:=zk (BA.out.q_ hbd);replace BZ:=zk (BZ.out.q_ hbd)
    clear hbd;refine wp_region_held_drew (S:=(λw'=>w'.cell? ⟨w.heap.size,0,none⟩=some (.bool s)/\w'.cell? ⟨w.heap.size,1,none⟩=some (slice x n c)/\w'.cell? ⟨w.heap.size,2,none⟩=some (slice y m d)/\w'.cell? ⟨w.heap.size,3,none⟩=some (slice ca ck cc)/\w'.cell? ⟨w.heap.size,4,none⟩=some (slice ra rk rc)/\w'.cell? ⟨w.heap.size+1,0,none⟩=some (slice a0 k0 c0)/\w'.cell? ⟨w.heap.size+1,1,none⟩=some (slice a1 k1 c1)/\w'.cell? ⟨w.heap.size+1,2,none⟩=some (slice a2 k2 c2)/\w'.cell? ⟨w.heap.size+1,3,none⟩=some (slice a3 k3 c3))) (by kernel_rfl) ?_ (λhHeld=>?_)
    ·exact⟨kCd r0,kCd r1,kCd r2,kCd r3,kCd r4,kCd t0,kCd t1,kCd t2,kCd t3⟩
    generalize w8.drew=wd2 at *;clear r0 r1 r2 r3 r4 t0 t1 t2 t3;refine zB 0 ?_;refine zB 2 ?_;simp only[zv,Act.put];refine(show wpAnyH _ _ _ _ _ (7+2) _ _ _ from zbv (λj v w=>match j with|1=>GMq of cs rs v w|3=>GC4 k0 k1 k2 k3 (zN k0 X0) (zN k1 X1) (zN k2 X2) (zN k3 X3) v w|4=>GT2q (GLq (2*KX 8) cs.length pl) (GQn (2*KX 8) fs) v w|5=>GT2q (GLq (2*KX 8) cs.length pl) (GQn (2*KX 8) fs) v w|6=>GLq (2*KX 8) cs.length pl v w|7=>GQn (2*KX 8) fs v w|8=>GBx wd2.heap.size [.bool false,slice none 0 0,slice none 0 0] 91 v w|_=>True) [(1,40),(3,42),(4,43),(8,9),(5,38),(6,44),(7,45)] [1,3,4,8] [5,6,7] [9,10] _ _ _ 2 ?k1 ?k4 ?kn ?kq ?k2 ?k3 ?k5 ?kt ?k6 ?k8)
    case k1=>kernel_rfl
    case k4=>kernel_rfl
    case kn=>kernel_rfl
    case kq=>exact λ_ _ _ _ _ h=>h
    case k2=>exact λw w' h hb=>⟨kCb hb h.1,kCb hb h.2.1,kCb hb h.2.2.1,kCb hb h.2.2.2.1,kCb hb h.2.2.2.2.1,kCb hb h.2.2.2.2.2.1,kCb hb h.2.2.2.2.2.2.1,kCb hb h.2.2.2.2.2.2.2.1,kCb hb h.2.2.2.2.2.2.2.2⟩
    case k3 =>
     intro j v w w' h hb
     split at h <;> first|exact GMq.q_ h hb|exact GC4.q_ h hb|exact GT2q.q_ (λa h=>GLq.q_ h hb) (λa h=>GQn.q_ h hb) h|exact GLq.q_ h hb|exact GQn.q_ h hb|exact GBx.q_ h hb|exact h|trivial
    case k8=>exact hHeld
    case k5 =>
     intro i hi;simp only[List.mem_cons,List.not_mem_nil,or_false]at hi;rcases hi with rfl|rfl|rfl|rfl
     ·refine⟨_,rfl,λu w5 hS hb5 hd K hK=>?_⟩;have hw5:=bUp HB.out hb5;simp only[zal,zv,Act.put]at hK ⊢;go_simp
      go_at_call 48
      refine(CM.out _ hw5).mono ?_;rintro e w6 ⟨M',rfl,hb6,hh⟩
      (try go_wp2_with fail)
      exact hK.out _ _ hb6 ⟨M',rfl,hh.out⟩
     ·refine⟨_,rfl,λu w5 hS hb5 hd K hK=>?_⟩;have hw5:=bUp HB.out hb5;simp only[zal,zv,Act.put]at hK ⊢;go_simp
      go_at_call 49
      refine(CC.out _ hw5).mono ?_;rintro e w6 ⟨b0,e0,b1,e1,b2,e2,b3,e3,rfl,hb6,hh⟩
      (try go_wp2_with fail)
      exact hK.out _ _ hb6 ⟨b0,e0,b1,e1,b2,e2,b3,e3,rfl,hh.out⟩
     ·refine⟨_,rfl,λu w5 hS hb5 hd K hK=>?_⟩;have hw5:=bUp HB.out hb5;have hc:Calls prog 50 #[u 1,u 3] w5 λe w'=>∃v,e=.returned v/\Bl w5 w'/\GT2q (GLq (2*KX 8) cs.length pl) (GQn (2*KX 8) fs) v w':=by
       have h1:GMq of cs rs (u 1) w5:=hd 1 (by kernel_rfl) (by kernel_rfl);have h3:GC4 k0 k1 k2 k3 (zN k0 X0) (zN k1 X1) (zN k2 X2) (zN k3 X3) (u 3) w5:=hd 3 (by kernel_rfl) (by kernel_rfl);obtain⟨M',e1,hM⟩:=h1;obtain⟨b0,e0,b1,e1b,b2,e2,b3,e3,e3b,hQ⟩:=h3;rw[e1,e3b];refine(CB.out _ M' b0 e0 b1 e1b b2 e2 b3 e3 hM hQ).mono ?_;rintro e w6 ⟨la,lc,s8,x8,n8,c8,f8,y8,m8,d8,g8,rfl,hb6,_,hl,hn⟩;exact⟨_,rfl,hb6,_,_,rfl,⟨la,lc,rfl,hl.out⟩,⟨s8,x8,n8,c8,f8,y8,m8,d8,g8,rfl,hn.out⟩⟩
      simp only[zal,zv,Act.put]at hK ⊢;go_simp
      go_at_call 50
      refine hc.mono ?_;rintro e w6 ⟨v,rfl,hb6,hr⟩
      (try go_wp2_with fail)
      exact hK.out _ _ hb6 hr
     ·refine⟨_,rfl,λu w5 hS hb5 hd K hK=>?_⟩;have hw5:=bUp HB.out hb5;simp only[zal,zv,Act.put]at hK ⊢;go_simp;exact hK.out _ _ (zA w5 _) ⟨w5.heap.size,rfl,zH w5 [.bool false,slice none 0 0,slice none 0 0] 91,hb5.size⟩
    case kt =>
     intro i hi;simp only[List.mem_cons,List.not_mem_nil,or_false]at hi;rcases hi with rfl|rfl|rfl
     ·refine⟨_,rfl,λu w5 hS hd=>?_⟩;have h4:GT2q (GLq (2*KX 8) cs.length pl) (GQn (2*KX 8) fs) (u 4) w5:=hd 4 (by kernel_rfl) (by kernel_rfl);obtain⟨va,vb,e4,hA,hB⟩:=h4;simp only[zal,zv,Act.put];simp only[e4];exact⟨.tuple #[va,vb],Or.inl ⟨by rfl,λw0 hSw=>by go_simp <;> with_reducible rfl⟩,⟨va,vb,rfl,hA,hB⟩⟩
     ·refine⟨_,rfl,λu w5 hS hd=>?_⟩;have h5:GT2q (GLq (2*KX 8) cs.length pl) (GQn (2*KX 8) fs) (u 5) w5:=hd 5 (by kernel_rfl) (by kernel_rfl);obtain⟨va,vb,e5,hA,hB⟩:=h5;simp only[zal,zv,Act.put];simp only[e5];exact⟨va,Or.inl ⟨by rfl,λw0 hSw=>by go_simp <;> with_reducible rfl⟩,hA⟩
     ·refine⟨_,rfl,λu w5 hS hd=>?_⟩;have h5:GT2q (GLq (2*KX 8) cs.length pl) (GQn (2*KX 8) fs) (u 5) w5:=hd 5 (by kernel_rfl) (by kernel_rfl);obtain⟨va,vb,e5,hA,hB⟩:=h5;simp only[zal,zv,Act.put];simp only[e5];exact⟨vb,Or.inl ⟨by rfl,λw0 hSw=>by go_simp <;> with_reducible rfl⟩,hB⟩
    case k6 =>
     intro u w6 hS6 hb6 hg;have h6:GLq (2*KX 8) cs.length pl (u 6) w6:=hg 6 (by simp);have h7:GQn (2*KX 8) fs (u 7) w6:=hg 7 (by simp);have h8:GBx wd2.heap.size [.bool false,slice none 0 0,slice none 0 0] 91 (u 8) w6:=hg 8 (by simp);obtain⟨la,lc,e6,hl⟩:=h6;obtain⟨s7,x7,n7,c7,f7,y7,m7,d7,g7,e7,hq7⟩:=h7;obtain⟨bx7,e8,hBX,hge⟩:=h8;simp only[zal,zv,Act.put];simp only[e6,e7,e8];clear e6 e7 e8 hg;obtain⟨hx1,hx2,hx3,hbk⟩:=st3 s7 x7 n7 c7 y7 m7 d7 rfl hBX hb6 hge;obtain⟨l0_,l1_,l2_⟩:=bk3 hBX;have ff:=hBX.frozen;have hl2:=hl.off hBX (λj b y m d e1 e2=>by match j,e1,e2 with|0,_,e2=>simp at e2;exact e2.2.1.symm|1,e1,_=>simp at e1|2,e1,_=>simp at e1|j+3,e1,_=>simp at e1) hx2 hx3;refine zB 9 ?_;simp only[zv,Act.put];refine rdO 10 (λK hK=>?_);have BZ0:=BZ;go_simp;generalize(((w6.setCell ⟨bx7,0,none⟩ (.bool s7)).setCell ⟨bx7,1,none⟩ (slice x7 n7 c7)).setCell ⟨bx7,2,none⟩ (slice y7 m7 d7))=zF at *;have HLs:=zk hl2;have HN7:=zk (hq7.kp hx2);have B7:=zk hbk
     replace HB:=zI HB hx1;replace BZ:=zk (BZ.out.q_ hx1)
     have HNE:Hid (bx7≠w.heap.size+1+1):=λe=>by have h5:=BZ0.out.lt;have h6:=hge;omega
     refine hK.out _ _ ?_ (λhHd=>?_)
     ·exact⟨kCb hx1 hHeld.1,kCb hx1 hHeld.2.1,kCb hx1 hHeld.2.2.1,kCb hx1 hHeld.2.2.2.1,kCb hx1 hHeld.2.2.2.2.1,kCb hx1 hHeld.2.2.2.2.2.1,kCb hx1 hHeld.2.2.2.2.2.2.1,kCb hx1 hHeld.2.2.2.2.2.2.2.1,kCb hx1 hHeld.2.2.2.2.2.2.2.2⟩
     clear hK K;try simp only[zv,Act.put]
     refine dnO ?_;clear hHd hHeld hS6 hb6 hx1 hx2 hx3 hbk hl hl2 hq7 ff hBX hge l0_ l1_ l2_ CM CC CB BM BA;go_upto_region 11 with fail
     obtain⟨q0,q1,q2⟩:=bk3 B7.out;have hbd:=Below.drew (Below.refl zF.heap.size zF);replace HB:=zI HB hbd;replace BZ:=zk (BZ.out.q_ hbd);replace HLs:=zk (HLs.out.q_ hbd);replace HN7:=zk (HN7.out.q_ hbd)
     clear hbd;refine wp_region_held_drew (S:=(λw'=>w'.cell? ⟨bx7,0,none⟩=some (.bool s7)/\w'.cell? ⟨bx7,1,none⟩=some (slice x7 n7 c7)/\w'.cell? ⟨bx7,2,none⟩=some (slice y7 m7 d7))) (by kernel_rfl) ?_ (λhHeld=>?_)
     ·exact⟨kCd q0,kCd q1,kCd q2⟩
     generalize zF.drew=we at *;clear q0 q1 q2 B7;obtain⟨q0,q1,q2⟩:=id hHeld;refine zB 0 ?_;refine zB 2 ?_;simp only[zv,Act.put];refine rdO 1 (λK hK=>?_);go_simp
     go_at_call 51
     refine(zrK HLs.out HPN.out (le_trans HCL.out (by decide)) (by decide)).mono ?_;rintro e w9 ⟨oa,oc,rfl,hb9,hoc,HO⟩
     (try go_wp2_with fail)
     refine hK.out _ _ ?_ (λhH9=>?_)
     ·((try dsimp only);(refine⟨?_,?_,?_⟩ <;> repeat(with_reducible first|assumption|refine kCb (by assumption) ?_)))
     clear hK K;try simp only[zv,Act.put]
     replace HB:=zI HB hb9;replace BZ:=zk (BZ.out.q_ hb9);replace HN7:=zk (HN7.out.q_ hb9)
     clear hb9 HLs hoc q0 q1 q2;obtain⟨q0,q1,q2⟩:=id hH9;refine rdO 3 (λK hK=>?_);go_simp
     go_at_call 52
     refine(zcd HN7.out.2.2 (le_trans HN7.out.1 (by decide)) (le_trans HN7.out.2.1 (by decide))).mono ?_;rintro e wt ⟨zp,np,cp,fp,zq,nq9,cq,fq,rfl,hbt,hr⟩
     (try go_wp2_with fail)
     refine hK.out _ _ ?_ (λhHt=>?_)
     ·((try dsimp only);(refine⟨?_,?_,?_⟩ <;> repeat(with_reducible first|assumption|refine kCb (by assumption) ?_)))
     clear hK K;try simp only[zv,Act.put]
     replace HB:=zI HB hbt;replace BZ:=zk (BZ.out.q_ hbt);replace HO:=zk (HO.out.q_ hbt)
     have HRn:=zk (hr.out.mono (show n7+m7<=2*(2*KX 8) by have h1:n7<=2*KX 8:=HN7.out.1;have h2:m7<=2*KX 8:=HN7.out.2.1;omega));clear hbt HN7 hr q0 q1 q2;obtain⟨q0,q1,q2⟩:=id hHt;refine zB 4 ?_;simp only[zv,Act.put];refine rdO 5 (λK hK=>?_);obtain⟨hx1,hx2,hx3,hbk⟩:=st3 s7 zp np cp zq nq9 cq rfl BZ.out HB.out (by omega);obtain⟨l0_,l1_,l2_⟩:=bk3 BZ.out;have ff:=BZ.out.frozen;have hne:bx7≠w.heap.size+1+1:=HNE.out;have HOn:=zk (HO.out.box BZ.out hx2 hx3);have HRk:=zk (Rn.kp HRn.out hx2)
     go_simp;obtain⟨o0,o1,o2⟩:=bk3 hbk;generalize(((wt.setCell ⟨w.heap.size+1+1,0,none⟩ (.bool s7)).setCell ⟨w.heap.size+1+1,1,none⟩ (slice zp np cp)).setCell ⟨w.heap.size+1+1,2,none⟩ (slice zq nq9 cq))=zG at *;have HX:=zk hx1;refine hK.out _ _ ?_ (λhHd=>?_)
     ·exact⟨(cell?_of_block (a:=⟨bx7,0,none⟩) (hx3 bx7 hne)).trans q0,(cell?_of_block (a:=⟨bx7,1,none⟩) (hx3 bx7 hne)).trans q1,(cell?_of_block (a:=⟨bx7,2,none⟩) (hx3 bx7 hne)).trans q2⟩
     clear hK K;try simp only[zv,Act.put]
     refine zB 6 ?_;simp only[zv,Act.put];refine dnO ?_;clear hHd hHeld hH9 hHt hx1 hx2 hx3 hbk ff l0_ l1_ l2_ q0 q1 q2 BZ HB HO HRn;go_wp2;exact bodyPost_ret (v:=.tuple #[slice oa cs.length oc,agg #[.bool s7,slice zp np cp,slice zq nq9 cq],.int .i64 0]) (by simp[results,results13,go_sem,o0,o1,o2]) rfl ⟨oa,_,oc,⟨s7,zp,np,cp,fp,zq,nq9,cq,fq⟩,by rw[HF.out],HX.out,zk (.inr ⟨HF.out,HPN.out.symm,HOn.out⟩),zk (.inr ⟨HF.out,HRk.out⟩)⟩
   ·have HF:Hid (ce=8):=by show _=_;rw[HCE.out];rfl
    clear CM CC CB HCE;obtain⟨z0,z1,z2⟩:=bk3 BZ.out;have zf:=BZ.out.frozen;obtain⟨hx1,hx2,hx3,hbk⟩:=st3 false none 0 0 none 0 0 rfl BZ.out HB.out (by omega);obtain⟨o0,o1,o2⟩:=bk3 hbk;have HX:=zk hx1;clear hx1 hx2 hx3 hbk;go_wp2;exact bodyPost_ret (v:=.tuple #[slice none 0 0,agg #[.bool false,slice none 0 0,slice none 0 0],.int .i64 8]) (by simp[results,results13,go_sem,o0,o1,o2]) rfl ⟨none,0,0,⟨false,none,0,0,λ_=>0,none,0,0,λ_=>0⟩,by rw[HF.out],HX.out,zk (.inl ⟨by rw[HF.out];decide,rfl⟩),zk (.inl ⟨by rw[HF.out];decide,rfl⟩)⟩
def Nl (w:World) (lo hi:Nat) (a:Option Addr) (k:Nat) (j:Option Nat):Prop:=0<k->∃B,a=some ⟨B,0,none⟩/\lo<=B/\B<hi/\Rk w B k/\Rq 4 w B k (λi=>if j=some i then 1 else 0)
theorem Nl.q_ {w w' lo hi a k j} (h:Nl w lo hi a k j) (hb:Bl w w'):Nl w' lo hi a k j:=λhk=>by
 obtain⟨B,h1,h2,h3,h4,h5⟩:=h hk;exact⟨B,h1,h2,h3,h4.q_ hb,h5.q_ hb⟩
theorem Nl.mono {w lo hi lo' a k j} (h:Nl w lo hi a k j) (hl:lo'<=lo):Nl w lo' hi a k j:=λhk=>by
 obtain⟨B,h1,h2,h3,h4,h5⟩:=h hk;exact⟨B,h1,by omega,h3,h4,h5⟩
theorem Nl.fr {w w' lo hi a k j C} (h:Nl w lo hi a k j) (hf:Fr (λq=>q=C) w w') (hc:C<lo∨hi<=C):Nl w' lo hi a k j:=λhk=>by
 obtain⟨B,h1,h2,h3,h4,h5⟩:=h hk;exact⟨B,h1,h2,h3,h4.fr hf (by omega),h5.fr hf (by omega)⟩
theorem Nl.kp {w w' lo hi a k j C} (h:Nl w lo hi a k j) (hk:Kp w w') (hx:∀q,q≠C->w'.heap[q]?=w.heap[q]?) (hc:C<lo∨hi<=C):Nl w' lo hi a k j:=λh0=>by
 obtain⟨B,h1,h2,h3,h4,h5⟩:=h h0;have e:=hx B (by omega);refine⟨B,h1,h2,h3,h4.of e,λi hi=>?_⟩;obtain⟨t,⟨a0,a1,a2⟩,h6⟩:=h5 i hi;exact⟨t,⟨(cell?_of_block e).trans a0,(cell?_of_block e).trans a1,(cell?_of_block e).trans a2⟩,h6.kp hk⟩
theorem Nl.an {w lo hi a k j er} (h:Nl w lo hi a k j) (he:er=0):ANs er 4 w a k (zdc k j):=.inr ⟨he,(zbf k j).symm,λi q hi=>by
 have hlt:i<k:=by rw[<-zbf k j];exact(List.getElem?_eq_some_iff.1 hi).1
 obtain⟨B,rfl,_,_,_,h5⟩:=h (by omega);exact zbw h5 (λ_ _=>rfl) i q hi⟩
theorem zkp {w lo a k c} (h:Gr 4 lo w (slice a k c) (List.replicate k 0)):Nl w lo w.heap.size a k none:=λhk=>by
 obtain⟨T,h,hq⟩:=h;rw[List.length_replicate]at h
 have hc:=λj (hj:j<k)=>zdv h hj
 obtain⟨h1,h2⟩:=h;rcases h2 with⟨_,h0⟩|⟨g,cap',cur,hv,hb,hg,hle,hm,hs,ht,hnu⟩
 ·omega
 ·cases hv
  have hz:=(Array.getElem?_eq_some_iff.1 hg).1;refine⟨g,rfl,hb,hz,⟨hz,λo ho=>?_,λo=>by simp[World.frozen?,hg]⟩,λj hj=>?_⟩
  ·have hlt:o<cur.size:=by omega
   exact⟨cur[o],by simp[World.cell?,hg,hlt],λi hi=>hnu o i (by rw[Array.getElem?_eq_getElem hlt,hi])⟩
  ·obtain⟨b,hb2,hc3⟩:=hc j hj;cases hb2
   rw[zero_add]at hc3
   exact⟨T j,hc3,hq j 0 (by simp[hj])⟩
def zol (w w':World) (e:Ending) (rk ck:Nat):Prop:=∃a0 c0 a1 c1 a2 c2 a3 c3 n1 n2 n3 n4,e=.returned (agg #[slice a0 rk c0,slice a1 rk c1,slice a2 ck c2,slice a3 ck c3])/\Bl w w'/\(w.heap.size<=n1/\n1<=n2/\n2<=n3/\n3<=n4/\n4<=w'.heap.size)/\Hid (Nl w' w.heap.size n1 a0 rk none)/\Hid (Nl w' n1 n2 a1 rk none)/\Hid (Nl w' n2 n3 a2 ck none)/\Hid (Nl w' n3 n4 a3 ck none)
theorem zlT {w} {M:Mo} (hr:M.rk<=10000) (hc:M.ck<=10000):Calls prog 55 #[M.val] w λe w'=>zol w w' e M.rk M.ck:=by
 obtain⟨⟨s,x,n,c,f,y,m,d,g⟩,ca,ck,cc,C,ra,rk,rc,R⟩:=M;dsimp only at hr hc;show Calls prog 55 #[agg #[.bool s,slice x n c,slice y m d,slice ca ck cc,slice ra rk rc]] w λe w'=>zol w w' e rk ck
 have HRK:=zk hr;have HCK:=zk hc
 clear hr hc;have HB:=zk (zu (zA w (cells #[.bool s,slice x n c,slice y m d,slice ca ck cc,slice ra rk rc] 28)) (cells #[slice none 0 0,slice none 0 0,slice none 0 0,slice none 0 0] 31));have BM:=zk ((zH w [.bool s,slice x n c,slice y m d,slice ca ck cc,slice ra rk rc] 28).q_ (zA _ (cells #[slice none 0 0,slice none 0 0,slice none 0 0,slice none 0 0] 31)));have BZ:=zk (zaV w (cells #[.bool s,slice x n c,slice y m d,slice ca ck cc,slice ra rk rc] 28) [slice none 0 0,slice none 0 0,slice none 0 0,slice none 0 0] 31);go_enter func55,ntmps55;go_upto_region 1 with fail
 generalize(w.alloc (cells #[.bool s,slice x n c,slice y m d,slice ca ck cc,slice ra rk rc] 28)).alloc (cells #[slice none 0 0,slice none 0 0,slice none 0 0,slice none 0 0] 31)=v0 at *;obtain⟨_,_,_,r3,r4⟩:=bk5 BM.out;have hbd:=Below.drew (Below.refl v0.heap.size v0);replace HB:=zI HB hbd;replace BZ:=zk (BZ.out.q_ hbd)
 clear hbd;refine wp_region_held_drew (S:=(λw'=>w'.cell? ⟨w.heap.size,3,none⟩=some (slice ca ck cc)/\w'.cell? ⟨w.heap.size,4,none⟩=some (slice ra rk rc))) (by kernel_rfl) ?_ (λhHeld=>?_)
 ·exact⟨kCd r3,kCd r4⟩
 generalize v0.drew=wd at *;clear r3 r4 BM;obtain⟨t3,t4⟩:=id hHeld;have hlt:=BZ.out.lt;refine zB 0 ?_;refine zB 1 ?_;refine zB 2 ?_;simp only[zv,Act.put];refine zB 4 ?_;refine zB 5 ?_;refine zB 6 ?_;simp only[zv,Act.put];refine zB 8 ?_;refine zB 9 ?_;refine zB 10 ?_;simp only[zv,Act.put];refine zB 12 ?_;refine zB 13 ?_;refine zB 14 ?_;simp only[zv,Act.put];refine rdO 3 (λK hK=>?_);go_simp
 go_at_call 93
 refine(zbK HRK.out).mono ?_;rintro e w0 ⟨_,a0,c0,rfl,rfl,hb,hG⟩
 (try go_wp2_with fail)
 refine hK.out _ _ ?_ (λhH0=>?_)
 ·((try dsimp only);(refine⟨?_,?_⟩ <;> repeat(with_reducible first|assumption|refine kCb (by assumption) ?_)))
 clear hK K;try simp only[zv,Act.put]
 replace HB:=zI HB hb;replace BZ:=zk (BZ.out.q_ hb)
 have H0:=zk (zkp hG.out);have s0:=hb.size;clear hb hG t3 t4;obtain⟨t3,t4⟩:=id hH0;refine rdO 7 (λK hK=>?_);go_simp
 go_at_call 93
 refine(zbK HRK.out).mono ?_;rintro e w1 ⟨_,a1,c1,rfl,rfl,hb,hG⟩
 (try go_wp2_with fail)
 refine hK.out _ _ ?_ (λhH1=>?_)
 ·((try dsimp only);(refine⟨?_,?_⟩ <;> repeat(with_reducible first|assumption|refine kCb (by assumption) ?_)))
 clear hK K;try simp only[zv,Act.put]
 replace HB:=zI HB hb;replace BZ:=zk (BZ.out.q_ hb);replace H0:=zk (H0.out.q_ hb)
 have H1:=zk (zkp hG.out);have s1:=hb.size;clear hb hG t3 t4;obtain⟨t3,t4⟩:=id hH1;refine rdO 11 (λK hK=>?_);go_simp
 go_at_call 93
 refine(zbK HCK.out).mono ?_;rintro e w2 ⟨_,a2,c2,rfl,rfl,hb,hG⟩
 (try go_wp2_with fail)
 refine hK.out _ _ ?_ (λhH2=>?_)
 ·((try dsimp only);(refine⟨?_,?_⟩ <;> repeat(with_reducible first|assumption|refine kCb (by assumption) ?_)))
 clear hK K;try simp only[zv,Act.put]
 replace HB:=zI HB hb;replace BZ:=zk (BZ.out.q_ hb);replace H0:=zk (H0.out.q_ hb);replace H1:=zk (H1.out.q_ hb)
 have H2:=zk (zkp hG.out);have s2:=hb.size;clear hb hG t3 t4;obtain⟨t3,t4⟩:=id hH2;refine rdO 15 (λK hK=>?_);go_simp
 go_at_call 93
 refine(zbK HCK.out).mono ?_;rintro e w3 ⟨_,a3,c3,rfl,rfl,hb,hG⟩
 (try go_wp2_with fail)
 refine hK.out _ _ ?_ (λhH3=>?_)
 ·((try dsimp only);(refine⟨?_,?_⟩ <;> repeat(with_reducible first|assumption|refine kCb (by assumption) ?_)))
 clear hK K;try simp only[zv,Act.put]
 replace HB:=zI HB hb;replace BZ:=zk (BZ.out.q_ hb);replace H0:=zk (H0.out.q_ hb);replace H1:=zk (H1.out.q_ hb);replace H2:=zk (H2.out.q_ hb)
 have H3:=zk (zkp hG.out);have s3:=hb.size;clear hb hG t3 t4;obtain⟨t3,t4⟩:=id hH3;refine zB 16 ?_;simp only[zv,Act.put];refine rdO 17 (λK hK=>?_);obtain⟨hx1,hx2,hx3,hbk⟩:=zle a0 rk c0 a1 rk c1 a2 ck c2 a3 ck c3 rfl (zM (λu hu q=>by simp at hu;subst hu;simp)) BZ.out HB.out (by omega);obtain⟨l0_,l1_,l2_,l3_⟩:=bk4 BZ.out;have ff:=BZ.out.frozen;replace H0:=zk (H0.out.kp hx2 hx3 (by omega));replace H1:=zk (H1.out.kp hx2 hx3 (by omega));replace H2:=zk (H2.out.kp hx2 hx3 (by omega));replace H3:=zk (H3.out.kp hx2 hx3 (by omega));go_simp;obtain⟨o0,o1,o2,o3⟩:=bk4 hbk;have hsz:=hx2.size;generalize((((w3.setCell ⟨w.heap.size+1,0,none⟩ (slice a0 rk c0)).setCell ⟨w.heap.size+1,1,none⟩ (slice a1 rk c1)).setCell ⟨w.heap.size+1,2,none⟩ (slice a2 ck c2)).setCell ⟨w.heap.size+1,3,none⟩ (slice a3 ck c3))=zG at *;have HX:=zk hx1;refine hK.out _ _ ?_ (λhHd=>?_)
 ·exact⟨(cell?_of_block (a:=⟨w.heap.size,3,none⟩) (hx3 w.heap.size (by omega))).trans t3,(cell?_of_block (a:=⟨w.heap.size,4,none⟩) (hx3 w.heap.size (by omega))).trans t4⟩
 clear hK K;try simp only[zv,Act.put]
 refine dnO ?_;clear hHd hHeld hH0 hH1 hH2 hH3 hx1 hx2 hx3 hbk ff l0_ l1_ l2_ l3_ BZ HB;go_wp2;exact bodyPost_ret (v:=agg #[slice a0 rk c0,slice a1 rk c1,slice a2 ck c2,slice a3 ck c3]) (by simp[results,results55,go_sem,o0,o1,o2,o3]) rfl ⟨a0,c0,a1,c1,a2,c2,a3,c3,_,_,_,_,rfl,HX.out,⟨by omega,s1,s2,s3,hsz⟩,zk (H0.out.mono (by omega)),H1,H2,H3⟩
theorem zmD {w er K a0 n0 c0 a1 n1 c1 a2 n2 c2 a3 n3 c3 b0 m0 d0 b1 m1 d1 b2 m2 d2 b3 m3 d3 l0 l1 l2 l3} (p0:ANs er K w a0 n0 l0) (q0:ANs er K w b0 m0 l0) (p1:ANs er K w a1 n1 l1) (q1:ANs er K w b1 m1 l1) (p2:ANs er K w a2 n2 l2) (q2:ANs er K w b2 m2 l2) (p3:ANs er K w a3 n3 l3) (q3:ANs er K w b3 m3 l3) (hl:er=0->l0.length<=64/\l1.length<=64/\l2.length<=64/\l3.length<=64) (hK:K<=1048576) :
  Calls prog 18 #[agg #[slice a0 n0 c0,slice a1 n1 c1,slice a2 n2 c2,slice a3 n3 c3],agg #[slice b0 m0 d0,slice b1 m1 d1,slice b2 m2 d2,slice b3 m3 d3]] w λe w'=>e=.returned (.bool true)/\Bl w w':=by
 have S0:=zk (λW (hW:Bl w W)=>zcx (ca:=c0) (cb:=d0) (p0.q_ hW) (q0.q_ hW) (λh=>(hl h).1) hK hK);have S1:=zk (λW (hW:Bl w W)=>zcx (ca:=c1) (cb:=d1) (p1.q_ hW) (q1.q_ hW) (λh=>(hl h).2.1) hK hK);have S2:=zk (λW (hW:Bl w W)=>zcx (ca:=c2) (cb:=d2) (p2.q_ hW) (q2.q_ hW) (λh=>(hl h).2.2.1) hK hK);have S3:=zk (λW (hW:Bl w W)=>zcx (ca:=c3) (cb:=d3) (p3.q_ hW) (q3.q_ hW) (λh=>(hl h).2.2.2) hK hK);clear p0 p1 p2 p3 q0 q1 q2 q3 hl hK;have HB:=zk (zu (zA w (cells #[slice a0 n0 c0,slice a1 n1 c1,slice a2 n2 c2,slice a3 n3 c3] 31)) (cells #[slice b0 m0 d0,slice b1 m1 d1,slice b2 m2 d2,slice b3 m3 d3] 31));have BA:=zk ((zH w [slice a0 n0 c0,slice a1 n1 c1,slice a2 n2 c2,slice a3 n3 c3] 31).q_ (zA _ (cells #[slice b0 m0 d0,slice b1 m1 d1,slice b2 m2 d2,slice b3 m3 d3] 31)));have BB:=zk (zaV w (cells #[slice a0 n0 c0,slice a1 n1 c1,slice a2 n2 c2,slice a3 n3 c3] 31) [slice b0 m0 d0,slice b1 m1 d1,slice b2 m2 d2,slice b3 m3 d3] 31);go_enter func18,ntmps18;go_upto_region 1 with fail
 generalize(w.alloc (cells #[slice a0 n0 c0,slice a1 n1 c1,slice a2 n2 c2,slice a3 n3 c3] 31)).alloc (cells #[slice b0 m0 d0,slice b1 m1 d1,slice b2 m2 d2,slice b3 m3 d3] 31)=v0 at *;obtain⟨r0,r1,r2,r3⟩:=bk4 BA.out;obtain⟨t0,t1,t2,t3⟩:=bk4 BB.out;go_wp2_with fail
 clear r0 r1 r2 r3 t0 t1 t2 t3;refine(S0.out _ HB.out).mono ?_;rintro e w1 ⟨rfl,hb⟩;replace HB:=zI HB hb;replace BA:=zk (BA.out.q_ hb);replace BB:=zk (BB.out.q_ hb)
 clear hb S0;obtain⟨r0,r1,r2,r3⟩:=bk4 BA.out;obtain⟨t0,t1,t2,t3⟩:=bk4 BB.out;go_wp2_with fail
 clear r0 r1 r2 r3 t0 t1 t2 t3;refine(S1.out _ HB.out).mono ?_;rintro e w2 ⟨rfl,hb⟩;replace HB:=zI HB hb;replace BA:=zk (BA.out.q_ hb);replace BB:=zk (BB.out.q_ hb)
 clear hb S1;obtain⟨r0,r1,r2,r3⟩:=bk4 BA.out;obtain⟨t0,t1,t2,t3⟩:=bk4 BB.out;go_wp2_with fail
 clear r0 r1 r2 r3 t0 t1 t2 t3;refine(S2.out _ HB.out).mono ?_;rintro e w3 ⟨rfl,hb⟩;replace HB:=zI HB hb;replace BA:=zk (BA.out.q_ hb);replace BB:=zk (BB.out.q_ hb)
 clear hb S2;obtain⟨r0,r1,r2,r3⟩:=bk4 BA.out;obtain⟨t0,t1,t2,t3⟩:=bk4 BB.out;go_wp2_with fail
 clear r0 r1 r2 r3 t0 t1 t2 t3;refine(S3.out _ HB.out).mono ?_;rintro e w4 ⟨rfl,hb⟩;replace HB:=zI HB hb;replace BA:=zk (BA.out.q_ hb);replace BB:=zk (BB.out.q_ hb)
 clear hb S3;go_wp2;go_ret;exact⟨by first|rfl|simp,HB.out⟩
theorem zhe (w:World):Calls prog 57 #[] w λe w'=>zgb 2 w w' e 1:=by
 have h2:=zaF w 91;have h3:=zA w (cells #[.bool false,slice none 0 0,slice none 0 0] 91);go_enter func57,ntmps57;go_wp2_with fail
 generalize w.alloc (cells #[.bool false,slice none 0 0,slice none 0 0] 91)=w1 at *;have OB:=zk h2;have HW:=zk h3
 clear h2 h3;refine(zhf (z:=1) (by decide) (by decide)).mono ?_;rintro e w2 ⟨s2,x2,n2,c2,d2,y2,m2,e2,g2,rfl,hb,hl1,hl2,hq⟩;have HB2:=zk hb;have HQ:=zk hq;have L1:=zk hl1;have L2:=zk hl2
 clear hb hq hl1 hl2;obtain⟨hz,z0,z1,z2,zf⟩:=OB.out.q_ HB2.out;go_wp2;exact bodyPost_ret (v:=agg #[.bool s2,slice x2 n2 c2,slice y2 m2 e2]) (by simp[results,results57,go_sem,z0,z1,z2]) rfl ⟨s2,x2,n2,c2,d2,y2,m2,e2,g2,rfl,zZ (bUp HW.out HB2.out) (by omega),L1.out,L2.out,(OB.out.q_ HB2.out).qn HQ.out⟩
theorem zmE {L w B n Q j b o z s x k c y m d} (hq:Rq L w B n Q) (hj:j<n) (h:w.cell? ⟨b,o,none⟩=some (.int .i64 z)):(((w.setCell ⟨B,j*3,none⟩ (.bool s)).setCell ⟨B,j*3+1,none⟩ (slice x k c)).setCell ⟨B,j*3+2,none⟩ (slice y m d)).cell? ⟨b,o,none⟩=some (.int .i64 z):=by
 obtain⟨t,⟨a0,a1,a2⟩,_⟩:=hq j hj;by_cases e:b=B
 ·subst e;have e0:o≠j*3:=λe=>by rw[e,a0]at h;cases h
  have e1:o≠j*3+1:=λe=>by rw[e,a1]at h;cases h
  have e2:o≠j*3+2:=λe=>by rw[e,a2]at h;cases h
  exact kCo (by omega) (kCo (by omega) (kCo (by omega) h))
 ·exact(cell?_of_block (a:=⟨b,o,none⟩) (zjP b e)).trans h
def csE (er:Int) (cs:List CV) (rs:List RV):Int:=if er=0 then (if crl (cvC cs) cs.length=[]/\crl (cvR rs) rs.length=[] then 9 else 0) else er
def zgc (w w':World) (e:Ending) (er:Int) (lr lc:List Rat):Prop:=∃a0 n0 c0 a1 n1 c1 a2 n2 c2 a3 n3 c3,e=.returned (.tuple #[agg #[slice a0 n0 c0,slice a1 n1 c1,slice a2 n2 c2,slice a3 n3 c3],.int .i64 er])/\Bl w w'/\Hid (ANs er 4 w' a0 n0 lr)/\Hid (ANs er 4 w' a1 n1 lr)/\Hid (ANs er 4 w' a2 n2 lc)/\Hid (ANs er 4 w' a3 n3 lc)
theorem zdO {w w' er} (hb:Bl w w') (lr lc:List Rat) (he:er≠0):zgc w w' (.returned (.tuple #[agg #[slice none 0 0,slice none 0 0,slice none 0 0,slice none 0 0],.int .i64 er])) er lr lc:=⟨none,0,0,none,0,0,none,0,0,none,0,0,rfl,hb,zk (.inl ⟨he,rfl⟩),zk (.inl ⟨he,rfl⟩),zk (.inl ⟨he,rfl⟩),zk (.inl ⟨he,rfl⟩)⟩
theorem CsgAns.crz {w w' e er cs rs} (h:CsgAns w w' e er cs rs):zgc w w' e (csE er cs rs) (zdc rs.length (jrw cs rs)) (zdc cs.length (jcl cs)):=by
 obtain⟨hb,⟨h0,rfl⟩|⟨rfl,h1,rfl⟩|⟨rfl,h1,B0,B1,B2,B3,rfl,r0,r1,r2,r3⟩⟩:=h
 ·rw[csE,if_neg h0];exact zdO hb _ _ h0
 ·rw[csE,if_pos rfl,if_pos h1];exact zdO hb _ _ (by decide)
 ·rw[csE,if_pos rfl,if_neg h1];exact⟨_,_,_,_,_,_,_,_,_,_,_,_,rfl,hb,zk (.inr ⟨rfl,(zbf _ _).symm,r0⟩),zk (.inr ⟨rfl,(zbf _ _).symm,r1⟩),zk (.inr ⟨rfl,(zbf _ _).symm,r2⟩),zk (.inr ⟨rfl,(zbf _ _).symm,r3⟩)⟩
theorem zgi {w M} (hI:In8 w M):Calls prog 17 #[M.val] w λe w'=>zgc w w' e (csE (zar M) (zag M) (zam M)) (zdc (zam M).length (jrw (zag M) (zam M))) (zdc (zag M).length (jcl (zag M))):=by
 have CD:=zk (λW (hW:Bl w W)=>zdk (w:=W) ((hI.x.q_ hW).both hI.n hI.k (by decide)) hI.c);have CC:=zk (λW (hW:Bl w W)=>zhz (w:=W) ((hI.x.q_ hW).both hI.n hI.k (by decide)) hI.c hI.k (by decide));have CZ:=zk (λW (h1:M.rk<=10000) (h2:M.ck<=10000)=>zlT (w:=W) h1 h2);have HV:Hid (zar M=0->(crl (ccB M.C) M.ck=crl (cvC (zag M)) (zag M).length/\crl (rcB M.R) M.rk=crl (cvR (zam M)) (zam M).length)/\M.ck=(zag M).length/\M.rk=(zam M).length/\(zag M).length<=64/\(zam M).length<=64):=λh=>by obtain⟨v1,v2⟩:=hI.val h;have mp:=zbB v2;exact⟨v1.crl,v1.ck,v1.rk,mp.cl,mp.rl⟩
 unfold zdT at CC;obtain⟨er,he⟩:∃t,zar M=t:=⟨_,rfl⟩;rw[he]at CD CC HV
 rw[he];clear hI he;obtain⟨cs,hcs⟩:∃t,zag M=t:=⟨_,rfl⟩;obtain⟨rs,hrs⟩:∃t,zam M=t:=⟨_,rfl⟩;rw[hcs,hrs]at HV
 rw[hcs,hrs];clear hcs hrs;obtain⟨⟨s,x,n,c,f,y,m,d,g⟩,ca,ck,cc,C,ra,rk,rc,R⟩:=M;dsimp only at HV CC CZ;obtain⟨lx,hlx⟩:∃t,crl (ccB C) ck=t:=⟨_,rfl⟩;obtain⟨ly,hly⟩:∃t,crl (rcB R) rk=t:=⟨_,rfl⟩;rw[hlx,hly]at CC HV
 have hxl:lx.length<=ck:=by rw[<-hlx];exact zby _ _
 have hyl:ly.length<=rk:=by rw[<-hly];exact zby _ _
 clear hlx hly;replace CD:Hid (∀W,Bl w W->Calls prog 32 #[agg #[.bool s,slice x n c,slice y m d,slice ca ck cc,slice ra rk rc]] W λe w'=>e=.returned (.int .i64 er)/\Bl W w'):=CD;replace CC:Hid (∀W,Bl w W->Calls prog 56 #[agg #[.bool s,slice x n c,slice y m d,slice ca ck cc,slice ra rk rc]] W λe w'=>(er≠0/\e=.returned (.tuple #[slice none 0 0,slice none 0 0,.int .i64 er])/\Bl W w')∨(er=0/\∃xa xc ya yc,e=.returned (.tuple #[slice xa lx.length xc,slice ya ly.length yc,.int .i64 0])/\Bl W w'/\Il w' xa lx/\Il w' ya ly)):=CC;replace CZ:Hid (∀W,rk<=10000->ck<=10000->Calls prog 55 #[agg #[.bool s,slice x n c,slice y m d,slice ca ck cc,slice ra rk rc]] W λe w'=>zol W w' e rk ck):=CZ;show Calls prog 17 #[agg #[.bool s,slice x n c,slice y m d,slice ca ck cc,slice ra rk rc]] w _;have HB:=zk (zu (zA w (cells #[.bool s,slice x n c,slice y m d,slice ca ck cc,slice ra rk rc] 28)) (cells #[slice none 0 0,slice none 0 0,slice none 0 0,slice none 0 0] 31));have BM:=zk ((zH w [.bool s,slice x n c,slice y m d,slice ca ck cc,slice ra rk rc] 28).q_ (zA _ (cells #[slice none 0 0,slice none 0 0,slice none 0 0,slice none 0 0] 31)));have BZ:=zk (zaV w (cells #[.bool s,slice x n c,slice y m d,slice ca ck cc,slice ra rk rc] 28) [slice none 0 0,slice none 0 0,slice none 0 0,slice none 0 0] 31);go_enter func17,ntmps17;go_upto_region 1 with fail
 generalize(w.alloc (cells #[.bool s,slice x n c,slice y m d,slice ca ck cc,slice ra rk rc] 28)).alloc (cells #[slice none 0 0,slice none 0 0,slice none 0 0,slice none 0 0] 31)=v0 at *;obtain⟨r0,r1,r2,r3,r4⟩:=bk5 BM.out;go_wp2_with fail
 clear r0 r1 r2 r3 r4;refine(CD.out _ HB.out).mono ?_;rintro e v1 ⟨rfl,hb⟩;replace HB:=zI HB hb;replace BM:=zk (BM.out.q_ hb);replace BZ:=zk (BZ.out.q_ hb)
 clear hb;clear CD;by_cases h0:er=0
 case neg =>
  have h1:(er != 0)=true:=by simpa using h0
  have HF:Hid (csE er cs rs=er):=by show _=_;rw[csE,if_neg h0]
  have HN:=zk h0;clear h0 CC CZ HV BM;obtain⟨hx1,hx2,hx3,hbk⟩:=zle none 0 0 none 0 0 none 0 0 none 0 0 rfl (zM (λu hu q=>by simp at hu;subst hu;simp)) BZ.out HB.out (by omega);obtain⟨l0_,l1_,l2_,l3_⟩:=bk4 BZ.out;have ff:=BZ.out.frozen;obtain⟨o0,o1,o2,o3⟩:=bk4 hbk;have HX:=zk hx1;clear hx1 hx2 hx3 hbk;go_wp2;exact bodyPost_ret (v:=.tuple #[agg #[slice none 0 0,slice none 0 0,slice none 0 0,slice none 0 0],.int .i64 er]) (by simp[results,results17,go_sem,o0,o1,o2,o3]) rfl (by rw[HF.out];exact zdO HX.out _ _ HN.out)
 obtain⟨⟨ex,ey⟩,e1,e2,e3,e4⟩:=HV.out h0;subst h0;rw[e1]at hxl;rw[e2]at hyl
 subst e1;subst e2
 have EX:=zk ex.symm;have EY:=zk ey.symm;have E3:=zk e3;have E4:=zk e4
 clear ex ey e3 e4 HV;obtain⟨r0,r1,r2,r3,r4⟩:=bk5 BM.out;go_wp2_with fail
 clear r0 r1 r2 r3 r4;refine(CZ.out _ (le_trans E4.out (by decide)) (le_trans E3.out (by decide))).mono ?_;rintro e v2 ⟨a0,c0,a1,c1,a2,c2,a3,c3,n1,n2,n3,n4,rfl,hb,⟨q0,q1,q2,q3,q4⟩,H0,H1,H2,H3⟩;have hw:=BZ.out.lt;replace HB:=zI HB hb;replace BM:=zk (BM.out.q_ hb);replace BZ:=zk (BZ.out.q_ hb)
 clear hb;clear CZ;have hbn:=zA v2 (cells #[slice a0 rs.length c0,slice a1 rs.length c1,slice a2 cs.length c2,slice a3 cs.length c3] 31);have BC:=zk (zH v2 [slice a0 rs.length c0,slice a1 rs.length c1,slice a2 cs.length c2,slice a3 cs.length c3] 31);replace BC:Hid (Bk (v2.alloc (cells #[slice a0 rs.length c0,slice a1 rs.length c1,slice a2 cs.length c2,slice a3 cs.length c3] 31)) v2.heap.size [slice a0 rs.length c0,slice a1 rs.length c1,slice a2 cs.length c2,slice a3 cs.length c3] 31):=BC;replace HB:=zI HB hbn;replace BM:=zk (BM.out.q_ hbn);replace BZ:=zk (BZ.out.q_ hbn);replace H0:=zk (H0.out.q_ hbn);replace H1:=zk (H1.out.q_ hbn);replace H2:=zk (H2.out.q_ hbn);replace H3:=zk (H3.out.q_ hbn)
 clear hbn;obtain⟨r0,r1,r2,r3,r4⟩:=bk5 BM.out;go_wp2_with fail
 clear r0 r1 r2 r3 r4;generalize v2.alloc (cells #[slice a0 rs.length c0,slice a1 rs.length c1,slice a2 cs.length c2,slice a3 cs.length c3] 31)=v3 at *;generalize v2.heap.size=xc at *;refine(CC.out _ HB.out).mono ?_;clear CC;rintro e v4 (⟨h9,_⟩|⟨_,xa,xd,ya,yd,rfl,hb,hxa,hya⟩)
 ·exact absurd rfl h9
 replace HB:=zI HB hb;replace BM:=zk (BM.out.q_ hb);replace BZ:=zk (BZ.out.q_ hb);replace BC:=zk (BC.out.q_ hb);replace H0:=zk (H0.out.q_ hb);replace H1:=zk (H1.out.q_ hb);replace H2:=zk (H2.out.q_ hb);replace H3:=zk (H3.out.q_ hb)
 clear hb;have HX:=zk hxa;have HY:=zk hya
 clear hxa hya BM;have hxz:=BC.out.lt;by_cases hx:lx.length=0
 case pos =>
  have i0':¬((0:Int)<((lx.length:Nat):Int)):=by omega
  by_cases hy:ly.length=0
  case pos =>
   have i4':¬((0:Int)<((ly.length:Nat):Int)):=by omega
   have HF:Hid (csE 0 cs rs=9):=by show _=_;rw[csE,if_pos rfl,if_pos ⟨EX.out.trans (List.eq_nil_of_length_eq_zero hx),EY.out.trans (List.eq_nil_of_length_eq_zero hy)⟩]
   clear HX HY H0 H1 H2 H3;obtain⟨hx1,hx2,hx3,hbk⟩:=zle none 0 0 none 0 0 none 0 0 none 0 0 rfl (zM (λu hu q=>by simp at hu;subst hu;simp)) BZ.out HB.out (by omega);obtain⟨l0_,l1_,l2_,l3_⟩:=bk4 BZ.out;have ff:=BZ.out.frozen;obtain⟨o0,o1,o2,o3⟩:=bk4 hbk;have HX:=zk hx1;clear hx1 hx2 hx3 hbk;go_wp2;exact bodyPost_ret (v:=.tuple #[agg #[slice none 0 0,slice none 0 0,slice none 0 0,slice none 0 0],.int .i64 9]) (by simp[results,results17,go_sem,o0,o1,o2,o3]) rfl (by rw[HF.out];exact zdO HX.out _ _ (by decide))
  have HJ:Hid (jcl cs=none):=by show _=_;rw[jcl,EX.out,List.eq_nil_of_length_eq_zero hx];rfl
  have HJ2:Hid (∀z l,ly=z :: l->jrw cs rs=some z.toNat):=λz l h=>by rw[jrw,EX.out,if_pos (List.eq_nil_of_length_eq_zero hx),EY.out,h];rfl
  have HN:Hid (¬(crl (cvC cs) cs.length=[]/\crl (cvR rs) rs.length=[])):=λh=>hy (by rw[<-EY.out,h.2];rfl)
  have HF:Hid (csE 0 cs rs=0):=by show _=_;rw[csE,if_pos rfl,if_neg HN.out]
  obtain⟨z,l,hl⟩:∃z l,ly=z :: l:=by
   cases hc:ly with
   | nil=>exact absurd (by rw[hc];rfl) hy
   | cons z l=>exact⟨z,l,rfl⟩
  obtain⟨jn,rfl,hjn⟩:=zdP (EY.out.trans hl);obtain⟨bi,oi,hxe,hci⟩:=HY.out 0 (jn:Int) (by rw[hl];rfl);replace hci:v4.cell? ⟨bi,oi,none⟩=some (.int .i64 jn):=hci;subst hxe;have hbi:bi<v4.heap.size:=World.block_lt_of_cell? v4 _ hci;have i1':(0:Int)<((ly.length:Nat):Int):=by rw[hl,List.length_cons];omega
  have i3':0<ly.length:=by omega
  have i2':((jn:Nat):Int)<((rs.length:Nat):Int):=by omega
  have HLL:=zk hl;clear hl HX HY;obtain⟨B0,hA0,lo0,hi0,hk0,hq0⟩:=H0.out (by omega);subst hA0;have RK0:=zk hk0;have RQ0:=zk hq0
  clear hk0 hq0 H0;obtain⟨B1,hA1,lo1,hi1,hk1,hq1⟩:=H1.out (by omega);subst hA1;have RK1:=zk hk1;have RQ1:=zk hq1
  clear hk1 hq1 H1;go_upto_region 10 with fail
  have d0:=BC.out.cell (j:=0) rfl;have d1:=BC.out.cell (j:=1) rfl
  refine zaa (S:=(λw'=>w'.cell? ⟨xc,0,none⟩=some (slice (some ⟨B0,0,none⟩) rs.length c0)/\w'.cell? ⟨xc,1,none⟩=some (slice (some ⟨B1,0,none⟩) rs.length c1)/\w'.cell? ⟨bi,oi,none⟩=some (.int .i64 jn))) 17 (by kernel_rfl) ⟨kCd d0,kCd d1,kCd hci⟩ (λhHeld=>?_);clear d0 d1 hci;have hbd:=Below.drew (Below.refl v4.heap.size v4);have hbi2:bi<v4.drew.heap.size:=hbi;have hxz2:xc<v4.drew.heap.size:=hxz;replace HB:=zI HB hbd;replace BZ:=zk (BZ.out.q_ hbd);replace BC:=zk (BC.out.q_ hbd)
  replace RK0:=zk (RK0.out.q_ hbd);replace RQ0:=zk (RQ0.out.q_ hbd);replace RK1:=zk (RK1.out.q_ hbd);replace RQ1:=zk (RQ1.out.q_ hbd)
  replace H2:=zk (H2.out.q_ hbd);replace H3:=zk (H3.out.q_ hbd)
  clear hbd hbi hxz;generalize v4.drew=v5 at *;refine skP 0 ?_;refine tkP 1 ?_;refine skP 2 ?_;simp only[zv,Act.put];refine skP 3 ?_;refine tkP 4 ?_;refine skP 5 ?_;simp only[zv,Act.put];refine tkP 6 ?_;refine skP 7 ?_;refine skP 8 ?_;simp only[zv,Act.put];refine tkP 9 ?_;simp only[zv,Act.put];refine rdP 10 (λK hK=>?_);go_simp
  go_at_call 57
  refine(zhe _).mono ?_;rintro e v6 ⟨s6,x6,n6,c6,f6,y6,m6,d6,g6,rfl,hb,p1,p2,p3⟩
  (try go_wp2_with fail)
  have t6:=And.intro (kCb hb hHeld.1) (And.intro (kCb hb hHeld.2.1) (kCb hb hHeld.2.2));refine hK.out _ _ (λ_=>t6) (λhS9=>?_);clear hK K hS9;try simp only[zv,Act.put]
  replace HB:=zI HB hb;replace BZ:=zk (BZ.out.q_ hb);replace BC:=zk (BC.out.q_ hb)
  replace RK0:=zk (RK0.out.q_ hb);replace RQ0:=zk (RQ0.out.q_ hb);replace RK1:=zk (RK1.out.q_ hb);replace RQ1:=zk (RQ1.out.q_ hb)
  replace H2:=zk (H2.out.q_ hb);replace H3:=zk (H3.out.q_ hb)
  have HQ:=zk (And.intro p1 (And.intro p2 p3));clear hb p1 p2 p3;refine rdP 11 (λK hK=>?_);go_simp
  go_at_call 52
  refine(zcd HQ.out.2.2 (le_trans HQ.out.1 (by decide)) (le_trans HQ.out.2.1 (by decide))).mono ?_;rintro e v7 ⟨x8,n8,c8,f8,y8,m8,d8,g8,rfl,hb,hr⟩
  (try go_wp2_with fail)
  have t7:=And.intro (kCb hb t6.1) (And.intro (kCb hb t6.2.1) (kCb hb t6.2.2));refine hK.out _ _ (λ_=>t7) (λhS9=>?_);clear hK K hS9;try simp only[zv,Act.put]
  replace HB:=zI HB hb;replace BZ:=zk (BZ.out.q_ hb);replace BC:=zk (BC.out.q_ hb)
  replace RK0:=zk (RK0.out.q_ hb);replace RQ0:=zk (RQ0.out.q_ hb);replace RK1:=zk (RK1.out.q_ hb);replace RQ1:=zk (RQ1.out.q_ hb)
  replace H2:=zk (H2.out.q_ hb);replace H3:=zk (H3.out.q_ hb)
  have RN8:Hid (Rn 4 v7 s6 x8 n8 c8 f8 y8 m8 d8 g8 1):=hr.out.mono (by have h1:=HQ.out.1;have h2:=HQ.out.2.1;omega);clear hb hr HQ;generalize s6=s8 at *;refine rdP 12 (λK hK=>?_);go_simp
  go_at_call 57
  refine(zhe _).mono ?_;rintro e v8 ⟨s6,x6,n6,c6,f6,y6,m6,d6,g6,rfl,hb,p1,p2,p3⟩
  (try go_wp2_with fail)
  have t8:=And.intro (kCb hb t7.1) (And.intro (kCb hb t7.2.1) (kCb hb t7.2.2));refine hK.out _ _ (λ_=>t8) (λhS9=>?_);clear hK K hS9;try simp only[zv,Act.put]
  replace HB:=zI HB hb;replace BZ:=zk (BZ.out.q_ hb);replace BC:=zk (BC.out.q_ hb)
  replace RK0:=zk (RK0.out.q_ hb);replace RQ0:=zk (RQ0.out.q_ hb);replace RK1:=zk (RK1.out.q_ hb);replace RQ1:=zk (RQ1.out.q_ hb)
  replace H2:=zk (H2.out.q_ hb);replace H3:=zk (H3.out.q_ hb)
  replace RN8:=zk (RN8.out.q_ hb);have HQ:=zk (And.intro p1 (And.intro p2 p3));clear hb p1 p2 p3;refine rdP 13 (λK hK=>?_);go_simp
  go_at_call 52
  refine(zcd HQ.out.2.2 (le_trans HQ.out.1 (by decide)) (le_trans HQ.out.2.1 (by decide))).mono ?_;rintro e v9 ⟨x9,n9,c9,f9,y9,m9,d9,g9,rfl,hb,hr⟩
  (try go_wp2_with fail)
  have t9:=And.intro (kCb hb t8.1) (And.intro (kCb hb t8.2.1) (kCb hb t8.2.2));refine hK.out _ _ (λ_=>t9) (λhS9=>?_);clear hK K hS9;try simp only[zv,Act.put]
  replace HB:=zI HB hb;replace BZ:=zk (BZ.out.q_ hb);replace BC:=zk (BC.out.q_ hb)
  replace RK0:=zk (RK0.out.q_ hb);replace RQ0:=zk (RQ0.out.q_ hb);replace RK1:=zk (RK1.out.q_ hb);replace RQ1:=zk (RQ1.out.q_ hb)
  replace H2:=zk (H2.out.q_ hb);replace H3:=zk (H3.out.q_ hb)
  replace RN8:=zk (RN8.out.q_ hb);have RN9:Hid (Rn 4 v9 s6 x9 n9 c9 f9 y9 m9 d9 g9 1):=hr.out.mono (by have h1:=HQ.out.1;have h2:=HQ.out.2.1;omega);clear hb hr HQ;generalize s6=s9 at *;refine rdP 14 (λK hK=>?_);go_simp;refine hK.out _ _ (λ_=>t9) (λhS9=>?_);clear hK K hS9;try simp only[zv,Act.put]
  refine rdP 15 (λK hK=>?_);have hk:=RK0.out;have tf:=hk.fz;obtain⟨_,k0,_⟩:=hk.has (jn*3) (by omega);obtain⟨_,k1,_⟩:=hk.has (jn*3+1) (by omega);obtain⟨_,k2,_⟩:=hk.has (jn*3+2) (by omega);have FG:=zk (zdx (s:=s8) (x:=x8) (k:=n8) (c:=c8) (y:=y8) (m:=m8) (d:=d8) hk hjn);obtain⟨R1a,R2a⟩:=zcU (i':=rs.length) (j:=jn) (Q':=λi=>if some jn=some i then 1 else 0) hk RQ0.out hjn (by rw[if_pos rfl];exact RN8.out) (λj' h1 h2=>⟨h1,by show(if _ then _ else _)=_;rw[if_neg (λe=>h2 (Option.some.inj e).symm)];rfl⟩);have QA0:=zk R1a;have QK0:=zk R2a
  clear R1a R2a hk;go_simp;have t10:=And.intro (FG.out.cell (show ¬(xc=B0) by omega) t9.1) (And.intro (FG.out.cell (show ¬(xc=B0) by omega) t9.2.1) (zmE (s:=s8) (x:=x8) (k:=n8) (c:=c8) (y:=y8) (m:=m8) (d:=d8) RQ0.out hjn t9.2.2));refine hK.out _ _ (λ_=>t10) (λhS9=>?_);clear hK K hS9;try simp only[zv,Act.put]
  have HBs:=zk (zaW (o:=jn*3) (u0:=.bool s8) (u1:=slice x8 n8 c8) (u2:=slice y8 m8 d8) HB.out (show w.heap.size<=B0 by omega));replace BZ:=zk (FG.out.bk BZ.out (by omega));replace BC:=zk (FG.out.bk BC.out (by omega));replace RN9:=zk (FG.out.rn RN9.out)
  replace RK1:=zk (RK1.out.fr FG.out (by omega));replace RQ1:=zk (RQ1.out.fr FG.out (by omega))
  replace H2:=zk (H2.out.fr FG.out (by omega));replace H3:=zk (H3.out.fr FG.out (by omega))
  clear RK0 RQ0 FG k0 k1 k2 tf HB;generalize((v9.setCell ⟨B0,jn*3,none⟩ (.bool s8)).setCell ⟨B0,jn*3+1,none⟩ (slice x8 n8 c8)).setCell ⟨B0,jn*3+2,none⟩ (slice y8 m8 d8)=v10 at *;refine rdP 16 (λK hK=>?_);go_simp;refine hK.out _ _ (λ_=>t10) (λhS9=>?_);clear hK K hS9;try simp only[zv,Act.put]
  refine rdP 17 (λK hK=>?_);have hk:=RK1.out;have tf:=hk.fz;obtain⟨_,k0,_⟩:=hk.has (jn*3) (by omega);obtain⟨_,k1,_⟩:=hk.has (jn*3+1) (by omega);obtain⟨_,k2,_⟩:=hk.has (jn*3+2) (by omega);have FG:=zk (zdx (s:=s9) (x:=x9) (k:=n9) (c:=c9) (y:=y9) (m:=m9) (d:=d9) hk hjn);obtain⟨R1a,R2a⟩:=zcU (i':=rs.length) (j:=jn) (Q':=λi=>if some jn=some i then 1 else 0) hk RQ1.out hjn (by rw[if_pos rfl];exact RN9.out) (λj' h1 h2=>⟨h1,by show(if _ then _ else _)=_;rw[if_neg (λe=>h2 (Option.some.inj e).symm)];rfl⟩);have QA1:=zk R1a;have QK1:=zk R2a
  clear R1a R2a hk;go_simp;refine hK.out _ _ (λh=>by cases h) (λ_=>?_);clear hK K;try simp only[zv,Act.put]
  have HBf:=zk (zaW (o:=jn*3) (u0:=.bool s9) (u1:=slice x9 n9 c9) (u2:=slice y9 m9 d9) HBs.out (show w.heap.size<=B1 by omega));replace BZ:=zk (FG.out.bk BZ.out (by omega));replace BC:=zk (FG.out.bk BC.out (by omega));replace QK0:=zk (QK0.out.fr FG.out (by omega));replace QA0:=zk (QA0.out.fr FG.out (by omega))
  replace H2:=zk (H2.out.fr FG.out (by omega));replace H3:=zk (H3.out.fr FG.out (by omega))
  clear RK1 RQ1 FG k0 k1 k2 tf HBs RN8 RN9 t6 t7 t8 t9 t10 hHeld;refine dnP ?_;generalize((v10.setCell ⟨B1,jn*3,none⟩ (.bool s9)).setCell ⟨B1,jn*3+1,none⟩ (slice x9 n9 c9)).setCell ⟨B1,jn*3+2,none⟩ (slice y9 m9 d9)=v11 at *;have H0:Hid (Nl v11 v1.heap.size n1 (some ⟨B0,0,none⟩) rs.length (some jn)):=λ_=>⟨B0,rfl,lo0,hi0,QA0.out,QK0.out⟩
  have H1:Hid (Nl v11 n1 n2 (some ⟨B1,0,none⟩) rs.length (some jn)):=λ_=>⟨B1,rfl,lo1,hi1,QA1.out,QK1.out⟩
  clear QA0 QK0 QA1 QK1 lo0 hi0 lo1 hi1;obtain⟨b0,b1,b2,b3⟩:=bk4 BC.out;obtain⟨l0,l1,l2,l3⟩:=bk4 BZ.out;have ff:=BZ.out.frozen;obtain⟨hx1,hx2,hx3,hbk⟩:=zle (some ⟨B0,0,none⟩) rs.length c0 (some ⟨B1,0,none⟩) rs.length c1 a2 cs.length c2 a3 cs.length c3 rfl (zM (λu hu q=>by simp at hu;subst hu;simp)) BZ.out HBf.out (by omega);obtain⟨o0,o1,o2,o3⟩:=bk4 hbk;replace H0:=zk (H0.out.kp hx2 hx3 (by omega));replace H1:=zk (H1.out.kp hx2 hx3 (by omega));replace H2:=zk (H2.out.kp hx2 hx3 (by omega));replace H3:=zk (H3.out.kp hx2 hx3 (by omega));have HX:=zk hx1;clear hx1 hx2 hx3 hbk HBf BZ BC;go_wp2;exact bodyPost_ret (v:=.tuple #[agg #[slice (some ⟨B0,0,none⟩) rs.length c0,slice (some ⟨B1,0,none⟩) rs.length c1,slice a2 cs.length c2,slice a3 cs.length c3],.int .i64 0]) (by simp[results,results17,go_sem,o0,o1,o2,o3]) rfl (by rw[HF.out,show jrw cs rs=some jn from by rw[HJ2.out _ _ HLL.out];rfl,HJ.out];exact⟨_,_,_,_,_,_,_,_,_,_,_,_,rfl,HX.out,zk (H0.out.an rfl),zk (H1.out.an rfl),zk (H2.out.an rfl),zk (H3.out.an rfl)⟩)
 have i0':(0:Int)<((lx.length:Nat):Int):=by omega
 have HJ:Hid (jrw cs rs=none):=by show _=_;rw[jrw,EX.out,if_neg (λh=>hx (by rw[h];rfl))]
 have HJ2:Hid (∀z l,lx=z :: l->jcl cs=some z.toNat):=λz l h=>by rw[jcl,EX.out,h];rfl
 have HN:Hid (¬(crl (cvC cs) cs.length=[]/\crl (cvR rs) rs.length=[])):=λh=>hx (by rw[<-EX.out,h.1];rfl)
 have HF:Hid (csE 0 cs rs=0):=by show _=_;rw[csE,if_pos rfl,if_neg HN.out]
 obtain⟨z,l,hl⟩:∃z l,lx=z :: l:=by
  cases hc:lx with
  | nil=>exact absurd (by rw[hc];rfl) hx
  | cons z l=>exact⟨z,l,rfl⟩
 obtain⟨jn,rfl,hjn⟩:=zdP (EX.out.trans hl);obtain⟨bi,oi,hxe,hci⟩:=HX.out 0 (jn:Int) (by rw[hl];rfl);replace hci:v4.cell? ⟨bi,oi,none⟩=some (.int .i64 jn):=hci;subst hxe;have hbi:bi<v4.heap.size:=World.block_lt_of_cell? v4 _ hci;have i1':(0:Int)<((lx.length:Nat):Int):=by rw[hl,List.length_cons];omega
 have i3':0<lx.length:=by omega
 have i2':((jn:Nat):Int)<((cs.length:Nat):Int):=by omega
 have HLL:=zk hl;clear hl HX HY;obtain⟨B2,hA2,lo2,hi2,hk2,hq2⟩:=H2.out (by omega);subst hA2;have RK2:=zk hk2;have RQ2:=zk hq2
 clear hk2 hq2 H2;obtain⟨B3,hA3,lo3,hi3,hk3,hq3⟩:=H3.out (by omega);subst hA3;have RK3:=zk hk3;have RQ3:=zk hq3
 clear hk3 hq3 H3;go_upto_region 8 with fail
 have d0:=BC.out.cell (j:=2) rfl;have d1:=BC.out.cell (j:=3) rfl
 refine zaa (S:=(λw'=>w'.cell? ⟨xc,2,none⟩=some (slice (some ⟨B2,0,none⟩) cs.length c2)/\w'.cell? ⟨xc,3,none⟩=some (slice (some ⟨B3,0,none⟩) cs.length c3)/\w'.cell? ⟨bi,oi,none⟩=some (.int .i64 jn))) 17 (by kernel_rfl) ⟨kCd d0,kCd d1,kCd hci⟩ (λhHeld=>?_);clear d0 d1 hci;have hbd:=Below.drew (Below.refl v4.heap.size v4);have hbi2:bi<v4.drew.heap.size:=hbi;have hxz2:xc<v4.drew.heap.size:=hxz;replace HB:=zI HB hbd;replace BZ:=zk (BZ.out.q_ hbd);replace BC:=zk (BC.out.q_ hbd)
 replace RK2:=zk (RK2.out.q_ hbd);replace RQ2:=zk (RQ2.out.q_ hbd);replace RK3:=zk (RK3.out.q_ hbd);replace RQ3:=zk (RQ3.out.q_ hbd)
 replace H0:=zk (H0.out.q_ hbd);replace H1:=zk (H1.out.q_ hbd)
 clear hbd hbi hxz;generalize v4.drew=v5 at *;refine skP 0 ?_;refine tkP 1 ?_;refine skP 2 ?_;simp only[zv,Act.put];refine skP 3 ?_;refine tkP 4 ?_;refine skP 5 ?_;simp only[zv,Act.put];refine tkP 6 ?_;refine skP 7 ?_;refine skP 8 ?_;simp only[zv,Act.put];refine tkP 9 ?_;simp only[zv,Act.put];refine rdP 10 (λK hK=>?_);go_simp
 go_at_call 57
 refine(zhe _).mono ?_;rintro e v6 ⟨s6,x6,n6,c6,f6,y6,m6,d6,g6,rfl,hb,p1,p2,p3⟩
 (try go_wp2_with fail)
 have t6:=And.intro (kCb hb hHeld.1) (And.intro (kCb hb hHeld.2.1) (kCb hb hHeld.2.2));refine hK.out _ _ (λ_=>t6) (λhS9=>?_);clear hK K hS9;try simp only[zv,Act.put]
 replace HB:=zI HB hb;replace BZ:=zk (BZ.out.q_ hb);replace BC:=zk (BC.out.q_ hb)
 replace RK2:=zk (RK2.out.q_ hb);replace RQ2:=zk (RQ2.out.q_ hb);replace RK3:=zk (RK3.out.q_ hb);replace RQ3:=zk (RQ3.out.q_ hb)
 replace H0:=zk (H0.out.q_ hb);replace H1:=zk (H1.out.q_ hb)
 have HQ:=zk (And.intro p1 (And.intro p2 p3));clear hb p1 p2 p3;refine rdP 11 (λK hK=>?_);go_simp
 go_at_call 52
 refine(zcd HQ.out.2.2 (le_trans HQ.out.1 (by decide)) (le_trans HQ.out.2.1 (by decide))).mono ?_;rintro e v7 ⟨x8,n8,c8,f8,y8,m8,d8,g8,rfl,hb,hr⟩
 (try go_wp2_with fail)
 have t7:=And.intro (kCb hb t6.1) (And.intro (kCb hb t6.2.1) (kCb hb t6.2.2));refine hK.out _ _ (λ_=>t7) (λhS9=>?_);clear hK K hS9;try simp only[zv,Act.put]
 replace HB:=zI HB hb;replace BZ:=zk (BZ.out.q_ hb);replace BC:=zk (BC.out.q_ hb)
 replace RK2:=zk (RK2.out.q_ hb);replace RQ2:=zk (RQ2.out.q_ hb);replace RK3:=zk (RK3.out.q_ hb);replace RQ3:=zk (RQ3.out.q_ hb)
 replace H0:=zk (H0.out.q_ hb);replace H1:=zk (H1.out.q_ hb)
 have RN8:Hid (Rn 4 v7 s6 x8 n8 c8 f8 y8 m8 d8 g8 1):=hr.out.mono (by have h1:=HQ.out.1;have h2:=HQ.out.2.1;omega);clear hb hr HQ;generalize s6=s8 at *;refine rdP 12 (λK hK=>?_);go_simp
 go_at_call 57
 refine(zhe _).mono ?_;rintro e v8 ⟨s6,x6,n6,c6,f6,y6,m6,d6,g6,rfl,hb,p1,p2,p3⟩
 (try go_wp2_with fail)
 have t8:=And.intro (kCb hb t7.1) (And.intro (kCb hb t7.2.1) (kCb hb t7.2.2));refine hK.out _ _ (λ_=>t8) (λhS9=>?_);clear hK K hS9;try simp only[zv,Act.put]
 replace HB:=zI HB hb;replace BZ:=zk (BZ.out.q_ hb);replace BC:=zk (BC.out.q_ hb)
 replace RK2:=zk (RK2.out.q_ hb);replace RQ2:=zk (RQ2.out.q_ hb);replace RK3:=zk (RK3.out.q_ hb);replace RQ3:=zk (RQ3.out.q_ hb)
 replace H0:=zk (H0.out.q_ hb);replace H1:=zk (H1.out.q_ hb)
 replace RN8:=zk (RN8.out.q_ hb);have HQ:=zk (And.intro p1 (And.intro p2 p3));clear hb p1 p2 p3;refine rdP 13 (λK hK=>?_);go_simp
 go_at_call 52
 refine(zcd HQ.out.2.2 (le_trans HQ.out.1 (by decide)) (le_trans HQ.out.2.1 (by decide))).mono ?_;rintro e v9 ⟨x9,n9,c9,f9,y9,m9,d9,g9,rfl,hb,hr⟩
 (try go_wp2_with fail)
 have t9:=And.intro (kCb hb t8.1) (And.intro (kCb hb t8.2.1) (kCb hb t8.2.2));refine hK.out _ _ (λ_=>t9) (λhS9=>?_);clear hK K hS9;try simp only[zv,Act.put]
 replace HB:=zI HB hb;replace BZ:=zk (BZ.out.q_ hb);replace BC:=zk (BC.out.q_ hb)
 replace RK2:=zk (RK2.out.q_ hb);replace RQ2:=zk (RQ2.out.q_ hb);replace RK3:=zk (RK3.out.q_ hb);replace RQ3:=zk (RQ3.out.q_ hb)
 replace H0:=zk (H0.out.q_ hb);replace H1:=zk (H1.out.q_ hb)
 replace RN8:=zk (RN8.out.q_ hb);have RN9:Hid (Rn 4 v9 s6 x9 n9 c9 f9 y9 m9 d9 g9 1):=hr.out.mono (by have h1:=HQ.out.1;have h2:=HQ.out.2.1;omega);clear hb hr HQ;generalize s6=s9 at *;refine rdP 14 (λK hK=>?_);go_simp;refine hK.out _ _ (λ_=>t9) (λhS9=>?_);clear hK K hS9;try simp only[zv,Act.put]
 refine rdP 15 (λK hK=>?_);have hk:=RK2.out;have tf:=hk.fz;obtain⟨_,k0,_⟩:=hk.has (jn*3) (by omega);obtain⟨_,k1,_⟩:=hk.has (jn*3+1) (by omega);obtain⟨_,k2,_⟩:=hk.has (jn*3+2) (by omega);have FG:=zk (zdx (s:=s8) (x:=x8) (k:=n8) (c:=c8) (y:=y8) (m:=m8) (d:=d8) hk hjn);obtain⟨R1a,R2a⟩:=zcU (i':=cs.length) (j:=jn) (Q':=λi=>if some jn=some i then 1 else 0) hk RQ2.out hjn (by rw[if_pos rfl];exact RN8.out) (λj' h1 h2=>⟨h1,by show(if _ then _ else _)=_;rw[if_neg (λe=>h2 (Option.some.inj e).symm)];rfl⟩);have QA2:=zk R1a;have QK2:=zk R2a
 clear R1a R2a hk;go_simp;have t10:=And.intro (FG.out.cell (show ¬(xc=B2) by omega) t9.1) (And.intro (FG.out.cell (show ¬(xc=B2) by omega) t9.2.1) (zmE (s:=s8) (x:=x8) (k:=n8) (c:=c8) (y:=y8) (m:=m8) (d:=d8) RQ2.out hjn t9.2.2));refine hK.out _ _ (λ_=>t10) (λhS9=>?_);clear hK K hS9;try simp only[zv,Act.put]
 have HBs:=zk (zaW (o:=jn*3) (u0:=.bool s8) (u1:=slice x8 n8 c8) (u2:=slice y8 m8 d8) HB.out (show w.heap.size<=B2 by omega));replace BZ:=zk (FG.out.bk BZ.out (by omega));replace BC:=zk (FG.out.bk BC.out (by omega));replace RN9:=zk (FG.out.rn RN9.out)
 replace RK3:=zk (RK3.out.fr FG.out (by omega));replace RQ3:=zk (RQ3.out.fr FG.out (by omega))
 replace H0:=zk (H0.out.fr FG.out (by omega));replace H1:=zk (H1.out.fr FG.out (by omega))
 clear RK2 RQ2 FG k0 k1 k2 tf HB;generalize((v9.setCell ⟨B2,jn*3,none⟩ (.bool s8)).setCell ⟨B2,jn*3+1,none⟩ (slice x8 n8 c8)).setCell ⟨B2,jn*3+2,none⟩ (slice y8 m8 d8)=v10 at *;refine rdP 16 (λK hK=>?_);go_simp;refine hK.out _ _ (λ_=>t10) (λhS9=>?_);clear hK K hS9;try simp only[zv,Act.put]
 refine rdP 17 (λK hK=>?_);have hk:=RK3.out;have tf:=hk.fz;obtain⟨_,k0,_⟩:=hk.has (jn*3) (by omega);obtain⟨_,k1,_⟩:=hk.has (jn*3+1) (by omega);obtain⟨_,k2,_⟩:=hk.has (jn*3+2) (by omega);have FG:=zk (zdx (s:=s9) (x:=x9) (k:=n9) (c:=c9) (y:=y9) (m:=m9) (d:=d9) hk hjn);obtain⟨R1a,R2a⟩:=zcU (i':=cs.length) (j:=jn) (Q':=λi=>if some jn=some i then 1 else 0) hk RQ3.out hjn (by rw[if_pos rfl];exact RN9.out) (λj' h1 h2=>⟨h1,by show(if _ then _ else _)=_;rw[if_neg (λe=>h2 (Option.some.inj e).symm)];rfl⟩);have QA3:=zk R1a;have QK3:=zk R2a
 clear R1a R2a hk;go_simp;refine hK.out _ _ (λh=>by cases h) (λ_=>?_);clear hK K;try simp only[zv,Act.put]
 have HBf:=zk (zaW (o:=jn*3) (u0:=.bool s9) (u1:=slice x9 n9 c9) (u2:=slice y9 m9 d9) HBs.out (show w.heap.size<=B3 by omega));replace BZ:=zk (FG.out.bk BZ.out (by omega));replace BC:=zk (FG.out.bk BC.out (by omega));replace QK2:=zk (QK2.out.fr FG.out (by omega));replace QA2:=zk (QA2.out.fr FG.out (by omega))
 replace H0:=zk (H0.out.fr FG.out (by omega));replace H1:=zk (H1.out.fr FG.out (by omega))
 clear RK3 RQ3 FG k0 k1 k2 tf HBs RN8 RN9 t6 t7 t8 t9 t10 hHeld;refine dnP ?_;generalize((v10.setCell ⟨B3,jn*3,none⟩ (.bool s9)).setCell ⟨B3,jn*3+1,none⟩ (slice x9 n9 c9)).setCell ⟨B3,jn*3+2,none⟩ (slice y9 m9 d9)=v11 at *;have H2:Hid (Nl v11 n2 n3 (some ⟨B2,0,none⟩) cs.length (some jn)):=λ_=>⟨B2,rfl,lo2,hi2,QA2.out,QK2.out⟩
 have H3:Hid (Nl v11 n3 n4 (some ⟨B3,0,none⟩) cs.length (some jn)):=λ_=>⟨B3,rfl,lo3,hi3,QA3.out,QK3.out⟩
 clear QA2 QK2 QA3 QK3 lo2 hi2 lo3 hi3;obtain⟨b0,b1,b2,b3⟩:=bk4 BC.out;obtain⟨l0,l1,l2,l3⟩:=bk4 BZ.out;have ff:=BZ.out.frozen;obtain⟨hx1,hx2,hx3,hbk⟩:=zle a0 rs.length c0 a1 rs.length c1 (some ⟨B2,0,none⟩) cs.length c2 (some ⟨B3,0,none⟩) cs.length c3 rfl (zM (λu hu q=>by simp at hu;subst hu;simp)) BZ.out HBf.out (by omega);obtain⟨o0,o1,o2,o3⟩:=bk4 hbk;replace H0:=zk (H0.out.kp hx2 hx3 (by omega));replace H1:=zk (H1.out.kp hx2 hx3 (by omega));replace H2:=zk (H2.out.kp hx2 hx3 (by omega));replace H3:=zk (H3.out.kp hx2 hx3 (by omega));have HX:=zk hx1;clear hx1 hx2 hx3 hbk HBf BZ BC;go_wp2;exact bodyPost_ret (v:=.tuple #[agg #[slice a0 rs.length c0,slice a1 rs.length c1,slice (some ⟨B2,0,none⟩) cs.length c2,slice (some ⟨B3,0,none⟩) cs.length c3],.int .i64 0]) (by simp[results,results17,go_sem,o0,o1,o2,o3]) rfl (by rw[HF.out,HJ.out,show jcl cs=some jn from by rw[HJ2.out _ _ HLL.out];rfl];exact⟨_,_,_,_,_,_,_,_,_,_,_,_,rfl,HX.out,zk (H0.out.an rfl),zk (H1.out.an rfl),zk (H2.out.an rfl),zk (H3.out.an rfl)⟩)
end Go.Proofs.YtnlcjakjhmgenaaGreat
