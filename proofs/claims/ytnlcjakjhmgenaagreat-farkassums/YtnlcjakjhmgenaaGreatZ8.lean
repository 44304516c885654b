/-
 Walks.
-/
import Derived.Test.YtnlcjakjhmgenaaGreatZ7
import Derived.BigQuiet
set_option maxRecDepth 100000
set_option maxHeartbeats 16000000
namespace Go.Proofs.YtnlcjakjhmgenaaGreat
open Nat (le_trans)
open List (setIfInBounds_toArray set_cons_zero set_cons_succ foldl_cons foldl_nil)
open Go.Proofs.Tryz
open Go.RowKit
theorem zhb (w:World):Calls prog 57 #[] w fun e w'=>zgb 2 w w' e 1:=by
 have h2:=zaG w 91;have h3:=zB w (.cells #[.bool false,.slice none 0 0,.slice none 0 0] 91);go_enter func57,ntmps57;go_wp2_with fail
 generalize w.alloc (.cells #[.bool false,.slice none 0 0,.slice none 0 0] 91)=w1 at *;have OB:=zk h2;have HW:=zk h3
 clear h2 h3;refine (zhc (z:=1) (by decide) (by decide)).mono ?_;rintro e w2 ⟨s2,x2,n2,c2,d2,y2,m2,e2,g2,rfl,hb,hl1,hl2,hq⟩;have HB2:=zk hb;have HQ:=zk hq;have L1:=zk hl1;have L2:=zk hl2
 clear hb hq hl1 hl2;obtain ⟨hz,z0,z1,z2,zf⟩:=OB.out.q_ HB2.out;go_wp2;exact bodyPost_ret (v:=.agg #[.bool s2,.slice x2 n2 c2,.slice y2 m2 e2]) (by simp [results,results57,go_sem,z0,z1,z2]) rfl ⟨s2,x2,n2,c2,d2,y2,m2,e2,g2,rfl,zaa (bUp HW.out HB2.out) (by omega),L1.out,L2.out,(OB.out.q_ HB2.out).qn HQ.out⟩
theorem zmG {L w B n Q j b o z s x k c y m d} (hq:Rq L w B n Q) (hj:j<n) (h:w.cell? ⟨b,o,none⟩=some (.int .i64 z)):(((w.setCell ⟨B,j*3,none⟩ (.bool s)).setCell ⟨B,j*3+1,none⟩ (.slice x k c)).setCell ⟨B,j*3+2,none⟩ (.slice y m d)).cell? ⟨b,o,none⟩=some (.int .i64 z):=by
 obtain ⟨t,⟨a0,a1,a2⟩,_⟩:=hq j hj;by_cases e:b=B
 ·subst e;have e0:o≠j*3:=fun e=>by rw [e,a0] at h;cases h
  have e1:o≠j*3+1:=fun e=>by rw [e,a1] at h;cases h
  have e2:o≠j*3+2:=fun e=>by rw [e,a2] at h;cases h
  exact kCo (by omega) (kCo (by omega) (kCo (by omega) h))
 ·exact (World.cell?_of_block (a:=⟨b,o,none⟩) (zjP b e)).trans h
def csE (er:Int) (cs:List CV) (rs:List RV):Int:=if er=0 then (if crl (cvC cs) cs.length=[]/\crl (cvR rs) rs.length=[] then 9 else 0) else er
def zgc (w w':World) (e:Ending) (er:Int) (lr lc:List Rat):Prop:=∃a0 n0 c0 a1 n1 c1 a2 n2 c2 a3 n3 c3,e=.returned (.tuple #[.agg #[.slice a0 n0 c0,.slice a1 n1 c1,.slice a2 n2 c2,.slice a3 n3 c3],.int .i64 er])/\Bl w w'/\Hid (ANs er 4 w' a0 n0 lr)/\Hid (ANs er 4 w' a1 n1 lr)/\Hid (ANs er 4 w' a2 n2 lc)/\Hid (ANs er 4 w' a3 n3 lc)
theorem zdQ {w w' er} (hb:Bl w w') (lr lc:List Rat) (he:er≠0):zgc w w' (.returned (.tuple #[.agg #[.slice none 0 0,.slice none 0 0,.slice none 0 0,.slice none 0 0],.int .i64 er])) er lr lc:=⟨none,0,0,none,0,0,none,0,0,none,0,0,rfl,hb,zk (.inl ⟨he,rfl⟩),zk (.inl ⟨he,rfl⟩),zk (.inl ⟨he,rfl⟩),zk (.inl ⟨he,rfl⟩)⟩
theorem CsgAns.crz {w w' e er cs rs} (h:CsgAns w w' e er cs rs):zgc w w' e (csE er cs rs) (zdd rs.length (jrw cs rs)) (zdd cs.length (jcl cs)):=by
 obtain ⟨hb,⟨h0,rfl⟩ | ⟨rfl,h1,rfl⟩ | ⟨rfl,h1,B0,B1,B2,B3,rfl,r0,r1,r2,r3⟩⟩:=h
 ·rw [csE,if_neg h0];exact zdQ hb _ _ h0
 ·rw [csE,if_pos rfl,if_pos h1];exact zdQ hb _ _ (by decide)
 ·rw [csE,if_pos rfl,if_neg h1];exact ⟨_,_,_,_,_,_,_,_,_,_,_,_,rfl,hb,zk (.inr ⟨rfl,(zbg _ _).symm,r0⟩),zk (.inr ⟨rfl,(zbg _ _).symm,r1⟩),zk (.inr ⟨rfl,(zbg _ _).symm,r2⟩),zk (.inr ⟨rfl,(zbg _ _).symm,r3⟩)⟩
theorem zgg {w M} (hI:In8 w M):Calls prog 17 #[M.val] w fun e w'=>zgc w w' e (csE (zak M) (zah M) (zap M)) (zdd (zap M).length (jrw (zah M) (zap M))) (zdd (zah M).length (jcl (zah M))):=by
 have CD:=zk (fun W (hW:Bl w W)=>zdl (w:=W) ((hI.x.q_ hW).both hI.n hI.k (by decide)) hI.c);have CC:=zk (fun W (hW:Bl w W)=>zhw (w:=W) ((hI.x.q_ hW).both hI.n hI.k (by decide)) hI.c hI.k (by decide));have CZ:=zk (fun W (h1:M.rk<=10000) (h2:M.ck<=10000)=>zlU (w:=W) h1 h2);have HV:Hid (zak M=0->(crl (ccB M.C) M.ck=crl (cvC (zah M)) (zah M).length/\crl (rcB M.R) M.rk=crl (cvR (zap M)) (zap M).length)/\M.ck=(zah M).length/\M.rk=(zap M).length/\(zah M).length<=64/\(zap M).length<=64):=fun h=>by obtain ⟨v1,v2⟩:=hI.val h;have mp:=zbA v2;exact ⟨v1.crl,v1.ck,v1.rk,mp.cl,mp.rl⟩
 unfold CrAns at CC;obtain ⟨er,he⟩:∃t,zak M=t:=⟨_,rfl⟩;rw [he] at CD CC HV;rw [he];clear hI he;obtain ⟨cs,hcs⟩:∃t,zah M=t:=⟨_,rfl⟩;obtain ⟨rs,hrs⟩:∃t,zap M=t:=⟨_,rfl⟩;rw [hcs,hrs] at HV;rw [hcs,hrs];clear hcs hrs;obtain ⟨⟨s,x,n,c,f,y,m,d,g⟩,ca,ck,cc,C,ra,rk,rc,R⟩:=M;dsimp only at HV CC CZ;obtain ⟨lx,hlx⟩:∃t,crl (ccB C) ck=t:=⟨_,rfl⟩;obtain ⟨ly,hly⟩:∃t,crl (rcB R) rk=t:=⟨_,rfl⟩;rw [hlx,hly] at CC HV;have hxl:lx.length<=ck:=by rw [<-hlx];exact zbx _ _
 have hyl:ly.length<=rk:=by rw [<-hly];exact zbx _ _
 clear hlx hly;replace CD:Hid (∀W,Bl w W->Calls prog 32 #[.agg #[.bool s,.slice x n c,.slice y m d,.slice ca ck cc,.slice ra rk rc]] W fun e w'=>e=.returned (.int .i64 er)/\Bl W w'):=CD;replace CC:Hid (∀W,Bl w W->Calls prog 56 #[.agg #[.bool s,.slice x n c,.slice y m d,.slice ca ck cc,.slice ra rk rc]] W fun e w'=>(er≠0/\e=.returned (.tuple #[.slice none 0 0,.slice none 0 0,.int .i64 er])/\Bl W w')∨(er=0/\∃xa xc ya yc,e=.returned (.tuple #[.slice xa lx.length xc,.slice ya ly.length yc,.int .i64 0])/\Bl W w'/\Il w' xa lx/\Il w' ya ly)):=CC;replace CZ:Hid (∀W,rk<=10000->ck<=10000->Calls prog 55 #[.agg #[.bool s,.slice x n c,.slice y m d,.slice ca ck cc,.slice ra rk rc]] W fun e w'=>zom W w' e rk ck):=CZ;show Calls prog 17 #[.agg #[.bool s,.slice x n c,.slice y m d,.slice ca ck cc,.slice ra rk rc]] w _;have HB:=zk (zu (zB w (.cells #[.bool s,.slice x n c,.slice y m d,.slice ca ck cc,.slice ra rk rc] 28)) (.cells #[.slice none 0 0,.slice none 0 0,.slice none 0 0,.slice none 0 0] 31));have BM:=zk ((zI w [.bool s,.slice x n c,.slice y m d,.slice ca ck cc,.slice ra rk rc] 28).q_ (zB _ (.cells #[.slice none 0 0,.slice none 0 0,.slice none 0 0,.slice none 0 0] 31)));have BZ:=zk (zaX w (.cells #[.bool s,.slice x n c,.slice y m d,.slice ca ck cc,.slice ra rk rc] 28) [.slice none 0 0,.slice none 0 0,.slice none 0 0,.slice none 0 0] 31);go_enter func17,ntmps17;go_upto_region 1 with fail
 generalize (w.alloc (.cells #[.bool s,.slice x n c,.slice y m d,.slice ca ck cc,.slice ra rk rc] 28)).alloc (.cells #[.slice none 0 0,.slice none 0 0,.slice none 0 0,.slice none 0 0] 31)=v0 at *;obtain ⟨r0,r1,r2,r3,r4⟩:=bk5 BM.out;go_wp2_with fail
 clear r0 r1 r2 r3 r4;refine (CD.out _ HB.out).mono ?_;rintro e v1 ⟨rfl,hb⟩;replace HB:=zJ HB hb;replace BM:=zk (BM.out.q_ hb);replace BZ:=zk (BZ.out.q_ hb)
 clear hb;clear CD;by_cases h0:er=0
 case neg =>
  have h1:(er != 0)=true:=by simpa using h0
  have HF:Hid (csE er cs rs=er):=by show _=_;rw [csE,if_neg h0]
  have HN:=zk h0;clear h0 CC CZ HV BM;obtain ⟨hx1,hx2,hx3,hbk⟩:=zlf none 0 0 none 0 0 none 0 0 none 0 0 rfl (zO (fun u hu q=>by simp at hu;subst hu;simp)) BZ.out HB.out (by omega);obtain ⟨l0_,l1_,l2_,l3_⟩:=bk4 BZ.out;have ff:=BZ.out.frozen;obtain ⟨o0,o1,o2,o3⟩:=bk4 hbk;have HX:=zk hx1;clear hx1 hx2 hx3 hbk;go_wp2;exact bodyPost_ret (v:=.tuple #[.agg #[.slice none 0 0,.slice none 0 0,.slice none 0 0,.slice none 0 0],.int .i64 er]) (by simp [results,results17,go_sem,o0,o1,o2,o3]) rfl (by rw [HF.out];exact zdQ HX.out _ _ HN.out)
 obtain ⟨⟨ex,ey⟩,e1,e2,e3,e4⟩:=HV.out h0;subst h0;rw [e1] at hxl;rw [e2] at hyl
 subst e1;subst e2
 have EX:=zk ex.symm;have EY:=zk ey.symm;have E3:=zk e3;have E4:=zk e4
 clear ex ey e3 e4 HV;obtain ⟨r0,r1,r2,r3,r4⟩:=bk5 BM.out;go_wp2_with fail
 clear r0 r1 r2 r3 r4;refine (CZ.out _ (le_trans E4.out (by decide)) (le_trans E3.out (by decide))).mono ?_;rintro e v2 ⟨a0,c0,a1,c1,a2,c2,a3,c3,n1,n2,n3,n4,rfl,hb,⟨q0,q1,q2,q3,q4⟩,H0,H1,H2,H3⟩;have hw:=BZ.out.lt;replace HB:=zJ HB hb;replace BM:=zk (BM.out.q_ hb);replace BZ:=zk (BZ.out.q_ hb)
 clear hb;clear CZ;have hbn:=zB v2 (.cells #[.slice a0 rs.length c0,.slice a1 rs.length c1,.slice a2 cs.length c2,.slice a3 cs.length c3] 31);have BC:=zk (zI v2 [.slice a0 rs.length c0,.slice a1 rs.length c1,.slice a2 cs.length c2,.slice a3 cs.length c3] 31);replace BC:Hid (Bk (v2.alloc (.cells #[.slice a0 rs.length c0,.slice a1 rs.length c1,.slice a2 cs.length c2,.slice a3 cs.length c3] 31)) v2.heap.size [.slice a0 rs.length c0,.slice a1 rs.length c1,.slice a2 cs.length c2,.slice a3 cs.length c3] 31):=BC;replace HB:=zJ HB hbn;replace BM:=zk (BM.out.q_ hbn);replace BZ:=zk (BZ.out.q_ hbn);replace H0:=zk (H0.out.q_ hbn);replace H1:=zk (H1.out.q_ hbn);replace H2:=zk (H2.out.q_ hbn);replace H3:=zk (H3.out.q_ hbn)
 clear hbn;obtain ⟨r0,r1,r2,r3,r4⟩:=bk5 BM.out;go_wp2_with fail
 clear r0 r1 r2 r3 r4;generalize v2.alloc (.cells #[.slice a0 rs.length c0,.slice a1 rs.length c1,.slice a2 cs.length c2,.slice a3 cs.length c3] 31)=v3 at *;generalize v2.heap.size=xc at *;refine (CC.out _ HB.out).mono ?_;clear CC;rintro e v4 (⟨h9,_⟩ | ⟨_,xa,xd,ya,yd,rfl,hb,hxa,hya⟩)
 ·exact absurd rfl h9
 replace HB:=zJ HB hb;replace BM:=zk (BM.out.q_ hb);replace BZ:=zk (BZ.out.q_ hb);replace BC:=zk (BC.out.q_ hb);replace H0:=zk (H0.out.q_ hb);replace H1:=zk (H1.out.q_ hb);replace H2:=zk (H2.out.q_ hb);replace H3:=zk (H3.out.q_ hb)
 clear hb;have HX:=zk hxa;have HY:=zk hya
 clear hxa hya BM;have hxz:=BC.out.lt;by_cases hx:lx.length=0
 case pos =>
  have i0':¬((0:Int)<((lx.length:Nat):Int)):=by omega
  by_cases hy:ly.length=0
  case pos =>
   have i4':¬((0:Int)<((ly.length:Nat):Int)):=by omega
   have HF:Hid (csE 0 cs rs=9):=by show _=_;rw [csE,if_pos rfl,if_pos ⟨EX.out.trans (List.eq_nil_of_length_eq_zero hx),EY.out.trans (List.eq_nil_of_length_eq_zero hy)⟩]
   clear HX HY H0 H1 H2 H3;obtain ⟨hx1,hx2,hx3,hbk⟩:=zlf none 0 0 none 0 0 none 0 0 none 0 0 rfl (zO (fun u hu q=>by simp at hu;subst hu;simp)) BZ.out HB.out (by omega);obtain ⟨l0_,l1_,l2_,l3_⟩:=bk4 BZ.out;have ff:=BZ.out.frozen;obtain ⟨o0,o1,o2,o3⟩:=bk4 hbk;have HX:=zk hx1;clear hx1 hx2 hx3 hbk;go_wp2;exact bodyPost_ret (v:=.tuple #[.agg #[.slice none 0 0,.slice none 0 0,.slice none 0 0,.slice none 0 0],.int .i64 9]) (by simp [results,results17,go_sem,o0,o1,o2,o3]) rfl (by rw [HF.out];exact zdQ HX.out _ _ (by decide))
  have HJ:Hid (jcl cs=none):=by show _=_;rw [jcl,EX.out,List.eq_nil_of_length_eq_zero hx];rfl
  have HJ2:Hid (∀z l,ly=z :: l->jrw cs rs=some z.toNat):=fun z l h=>by rw [jrw,EX.out,if_pos (List.eq_nil_of_length_eq_zero hx),EY.out,h];rfl
  have HN:Hid (¬(crl (cvC cs) cs.length=[]/\crl (cvR rs) rs.length=[])):=fun h=>hy (by rw [<-EY.out,h.2];rfl)
  have HF:Hid (csE 0 cs rs=0):=by show _=_;rw [csE,if_pos rfl,if_neg HN.out]
  obtain ⟨z,l,hl⟩:∃z l,ly=z :: l:=by
   cases hc:ly with
   | nil=>exact absurd (by rw [hc];rfl) hy
   | cons z l=>exact ⟨z,l,rfl⟩
  obtain ⟨jn,rfl,hjn⟩:=zdR (EY.out.trans hl);obtain ⟨bi,oi,hxe,hci⟩:=HY.out 0 (jn:Int) (by rw [hl];rfl);replace hci:v4.cell? ⟨bi,oi,none⟩=some (.int .i64 jn):=hci;subst hxe;have hbi:bi<v4.heap.size:=World.block_lt_of_cell? v4 _ hci;have i1':(0:Int)<((ly.length:Nat):Int):=by rw [hl,List.length_cons];omega
  have i3':0<ly.length:=by omega
  have i2':((jn:Nat):Int)<((rs.length:Nat):Int):=by omega
  have HLL:=zk hl;clear hl HX HY;obtain ⟨B0,hA0,lo0,hi0,hk0,hq0⟩:=H0.out (by omega);subst hA0;have RK0:=zk hk0;have RQ0:=zk hq0
  clear hk0 hq0 H0;obtain ⟨B1,hA1,lo1,hi1,hk1,hq1⟩:=H1.out (by omega);subst hA1;have RK1:=zk hk1;have RQ1:=zk hq1
  clear hk1 hq1 H1;go_upto_region 10 with fail
  have d0:=BC.out.cell (j:=0) rfl;have d1:=BC.out.cell (j:=1) rfl
  refine zab (S:=(fun w'=>w'.cell? ⟨xc,0,none⟩=some (.slice (some ⟨B0,0,none⟩) rs.length c0)/\w'.cell? ⟨xc,1,none⟩=some (.slice (some ⟨B1,0,none⟩) rs.length c1)/\w'.cell? ⟨bi,oi,none⟩=some (.int .i64 jn))) 17 (by kernel_rfl) ⟨kCd d0,kCd d1,kCd hci⟩ (fun hHeld=>?_);clear d0 d1 hci;have hbd:=Below.drew (Below.refl v4.heap.size v4);have hbi2:bi<v4.drew.heap.size:=hbi;have hxz2:xc<v4.drew.heap.size:=hxz;replace HB:=zJ HB hbd;replace BZ:=zk (BZ.out.q_ hbd);replace BC:=zk (BC.out.q_ hbd)
  replace RK0:=zk (RK0.out.q_ hbd);replace RQ0:=zk (RQ0.out.q_ hbd);replace RK1:=zk (RK1.out.q_ hbd);replace RQ1:=zk (RQ1.out.q_ hbd)
  replace H2:=zk (H2.out.q_ hbd);replace H3:=zk (H3.out.q_ hbd)
  clear hbd hbi hxz;generalize v4.drew=v5 at *;refine skP 0 ?_;simp only [zv,Act.put];refine tkP 1 ?_;simp only [zv,Act.put];refine skP 2 ?_;simp only [zv,Act.put];refine skP 3 ?_;simp only [zv,Act.put];refine tkP 4 ?_;simp only [zv,Act.put];refine skP 5 ?_;simp only [zv,Act.put];refine tkP 6 ?_;simp only [zv,Act.put];refine skP 7 ?_;simp only [zv,Act.put];refine skP 8 ?_;simp only [zv,Act.put];refine tkP 9 ?_;simp only [zv,Act.put];refine zw (rs:=[10]) (by kernel_rfl) (by simp) ?_;refine AllReadyP.cons (o:=_) rfl (fun K hK=>?_) ?_;rotate_left;exact AllReadyP.nil;go_simp
  go_at_call 57
  refine (zhb _).mono ?_;rintro e v6 ⟨s6,x6,n6,c6,f6,y6,m6,d6,g6,rfl,hb,p1,p2,p3⟩
  (try go_wp2_with fail)
  have t6:=And.intro (kCb hb hHeld.1) (And.intro (kCb hb hHeld.2.1) (kCb hb hHeld.2.2));refine hK.out _ _ (fun _=>t6) (fun hS9=>?_);clear hK K hS9;try simp only [Act.put,setIfInBounds_toArray,set_cons_zero,set_cons_succ]
  replace HB:=zJ HB hb;replace BZ:=zk (BZ.out.q_ hb);replace BC:=zk (BC.out.q_ hb)
  replace RK0:=zk (RK0.out.q_ hb);replace RQ0:=zk (RQ0.out.q_ hb);replace RK1:=zk (RK1.out.q_ hb);replace RQ1:=zk (RQ1.out.q_ hb)
  replace H2:=zk (H2.out.q_ hb);replace H3:=zk (H3.out.q_ hb)
  have HQ:=zk (And.intro p1 (And.intro p2 p3));clear hb p1 p2 p3;refine zw (rs:=[11]) (by kernel_rfl) (by simp) ?_;refine AllReadyP.cons (o:=_) rfl (fun K hK=>?_) ?_;rotate_left;exact AllReadyP.nil;go_simp
  go_at_call 52
  refine (zce HQ.out.2.2 (le_trans HQ.out.1 (by decide)) (le_trans HQ.out.2.1 (by decide))).mono ?_;rintro e v7 ⟨x8,n8,c8,f8,y8,m8,d8,g8,rfl,hb,hr⟩
  (try go_wp2_with fail)
  have t7:=And.intro (kCb hb t6.1) (And.intro (kCb hb t6.2.1) (kCb hb t6.2.2));refine hK.out _ _ (fun _=>t7) (fun hS9=>?_);clear hK K hS9;try simp only [Act.put,setIfInBounds_toArray,set_cons_zero,set_cons_succ]
  replace HB:=zJ HB hb;replace BZ:=zk (BZ.out.q_ hb);replace BC:=zk (BC.out.q_ hb)
  replace RK0:=zk (RK0.out.q_ hb);replace RQ0:=zk (RQ0.out.q_ hb);replace RK1:=zk (RK1.out.q_ hb);replace RQ1:=zk (RQ1.out.q_ hb)
  replace H2:=zk (H2.out.q_ hb);replace H3:=zk (H3.out.q_ hb)
  have RN8:Hid (Rn 4 v7 s6 x8 n8 c8 f8 y8 m8 d8 g8 1):=hr.out.mono (by have h1:=HQ.out.1;have h2:=HQ.out.2.1;omega);clear hb hr HQ;generalize s6=s8 at *;refine zw (rs:=[12]) (by kernel_rfl) (by simp) ?_;refine AllReadyP.cons (o:=_) rfl (fun K hK=>?_) ?_;rotate_left;exact AllReadyP.nil;go_simp
  go_at_call 57
  refine (zhb _).mono ?_;rintro e v8 ⟨s6,x6,n6,c6,f6,y6,m6,d6,g6,rfl,hb,p1,p2,p3⟩
  (try go_wp2_with fail)
  have t8:=And.intro (kCb hb t7.1) (And.intro (kCb hb t7.2.1) (kCb hb t7.2.2));refine hK.out _ _ (fun _=>t8) (fun hS9=>?_);clear hK K hS9;try simp only [Act.put,setIfInBounds_toArray,set_cons_zero,set_cons_succ]
  replace HB:=zJ HB hb;replace BZ:=zk (BZ.out.q_ hb);replace BC:=zk (BC.out.q_ hb)
  replace RK0:=zk (RK0.out.q_ hb);replace RQ0:=zk (RQ0.out.q_ hb);replace RK1:=zk (RK1.out.q_ hb);replace RQ1:=zk (RQ1.out.q_ hb)
  replace H2:=zk (H2.out.q_ hb);replace H3:=zk (H3.out.q_ hb)
  replace RN8:=zk (RN8.out.q_ hb);have HQ:=zk (And.intro p1 (And.intro p2 p3));clear hb p1 p2 p3;refine zw (rs:=[13]) (by kernel_rfl) (by simp) ?_;refine AllReadyP.cons (o:=_) rfl (fun K hK=>?_) ?_;rotate_left;exact AllReadyP.nil;go_simp
  go_at_call 52
  refine (zce HQ.out.2.2 (le_trans HQ.out.1 (by decide)) (le_trans HQ.out.2.1 (by decide))).mono ?_;rintro e v9 ⟨x9,n9,c9,f9,y9,m9,d9,g9,rfl,hb,hr⟩
  (try go_wp2_with fail)
  have t9:=And.intro (kCb hb t8.1) (And.intro (kCb hb t8.2.1) (kCb hb t8.2.2));refine hK.out _ _ (fun _=>t9) (fun hS9=>?_);clear hK K hS9;try simp only [Act.put,setIfInBounds_toArray,set_cons_zero,set_cons_succ]
  replace HB:=zJ HB hb;replace BZ:=zk (BZ.out.q_ hb);replace BC:=zk (BC.out.q_ hb)
  replace RK0:=zk (RK0.out.q_ hb);replace RQ0:=zk (RQ0.out.q_ hb);replace RK1:=zk (RK1.out.q_ hb);replace RQ1:=zk (RQ1.out.q_ hb)
  replace H2:=zk (H2.out.q_ hb);replace H3:=zk (H3.out.q_ hb)
  replace RN8:=zk (RN8.out.q_ hb);have RN9:Hid (Rn 4 v9 s6 x9 n9 c9 f9 y9 m9 d9 g9 1):=hr.out.mono (by have h1:=HQ.out.1;have h2:=HQ.out.2.1;omega);clear hb hr HQ;generalize s6=s9 at *;refine zw (rs:=[14]) (by kernel_rfl) (by simp) ?_;refine AllReadyP.cons (o:=_) rfl (fun K hK=>?_) ?_;rotate_left;exact AllReadyP.nil;go_simp;refine hK.out _ _ (fun _=>t9) (fun hS9=>?_);clear hK K hS9;try simp only [Act.put,setIfInBounds_toArray,set_cons_zero,set_cons_succ]
  refine zw (rs:=[15]) (by kernel_rfl) (by simp) ?_;refine AllReadyP.cons (o:=_) rfl (fun K hK=>?_) ?_;rotate_left;exact AllReadyP.nil;have hk:=RK0.out;have tf:=hk.fz;obtain ⟨_,k0,_⟩:=hk.has (jn*3) (by omega);obtain ⟨_,k1,_⟩:=hk.has (jn*3+1) (by omega);obtain ⟨_,k2,_⟩:=hk.has (jn*3+2) (by omega);have FG:=zk (zdx (s:=s8) (x:=x8) (k:=n8) (c:=c8) (y:=y8) (m:=m8) (d:=d8) hk hjn);obtain ⟨R1a,R2a⟩:=zcV (i':=rs.length) (j:=jn) (Q':=fun i=>if some jn=some i then 1 else 0) hk RQ0.out hjn (by rw [if_pos rfl];exact RN8.out) (fun j' h1 h2=>⟨h1,by show (if _ then _ else _)=_;rw [if_neg (fun e=>h2 (Option.some.inj e).symm)];rfl⟩);have QA0:=zk R1a;have QK0:=zk R2a
  clear R1a R2a hk;go_simp;have t10:=And.intro (FG.out.cell (show ¬(xc=B0) by omega) t9.1) (And.intro (FG.out.cell (show ¬(xc=B0) by omega) t9.2.1) (zmG (s:=s8) (x:=x8) (k:=n8) (c:=c8) (y:=y8) (m:=m8) (d:=d8) RQ0.out hjn t9.2.2));refine hK.out _ _ (fun _=>t10) (fun hS9=>?_);clear hK K hS9;try simp only [Act.put,setIfInBounds_toArray,set_cons_zero,set_cons_succ]
  have HBs:=zk (zaY (o:=jn*3) (u0:=.bool s8) (u1:=.slice x8 n8 c8) (u2:=.slice y8 m8 d8) HB.out (show w.heap.size<=B0 by omega));replace BZ:=zk (FG.out.bk BZ.out (by omega));replace BC:=zk (FG.out.bk BC.out (by omega));replace RN9:=zk (FG.out.rn RN9.out)
  replace RK1:=zk (RK1.out.fr FG.out (by omega));replace RQ1:=zk (RQ1.out.fr FG.out (by omega))
  replace H2:=zk (H2.out.fr FG.out (by omega));replace H3:=zk (H3.out.fr FG.out (by omega))
  clear RK0 RQ0 FG k0 k1 k2 tf HB;generalize ((v9.setCell ⟨B0,jn*3,none⟩ (.bool s8)).setCell ⟨B0,jn*3+1,none⟩ (.slice x8 n8 c8)).setCell ⟨B0,jn*3+2,none⟩ (.slice y8 m8 d8)=v10 at *;refine zw (rs:=[16]) (by kernel_rfl) (by simp) ?_;refine AllReadyP.cons (o:=_) rfl (fun K hK=>?_) ?_;rotate_left;exact AllReadyP.nil;go_simp;refine hK.out _ _ (fun _=>t10) (fun hS9=>?_);clear hK K hS9;try simp only [Act.put,setIfInBounds_toArray,set_cons_zero,set_cons_succ]
  refine zw (rs:=[17]) (by kernel_rfl) (by simp) ?_;refine AllReadyP.cons (o:=_) rfl (fun K hK=>?_) ?_;rotate_left;exact AllReadyP.nil;have hk:=RK1.out;have tf:=hk.fz;obtain ⟨_,k0,_⟩:=hk.has (jn*3) (by omega);obtain ⟨_,k1,_⟩:=hk.has (jn*3+1) (by omega);obtain ⟨_,k2,_⟩:=hk.has (jn*3+2) (by omega);have FG:=zk (zdx (s:=s9) (x:=x9) (k:=n9) (c:=c9) (y:=y9) (m:=m9) (d:=d9) hk hjn);obtain ⟨R1a,R2a⟩:=zcV (i':=rs.length) (j:=jn) (Q':=fun i=>if some jn=some i then 1 else 0) hk RQ1.out hjn (by rw [if_pos rfl];exact RN9.out) (fun j' h1 h2=>⟨h1,by show (if _ then _ else _)=_;rw [if_neg (fun e=>h2 (Option.some.inj e).symm)];rfl⟩);have QA1:=zk R1a;have QK1:=zk R2a
  clear R1a R2a hk;go_simp;refine hK.out _ _ (fun h=>by cases h) (fun _=>?_);clear hK K;try simp only [Act.put,setIfInBounds_toArray,set_cons_zero,set_cons_succ]
  have HBf:=zk (zaY (o:=jn*3) (u0:=.bool s9) (u1:=.slice x9 n9 c9) (u2:=.slice y9 m9 d9) HBs.out (show w.heap.size<=B1 by omega));replace BZ:=zk (FG.out.bk BZ.out (by omega));replace BC:=zk (FG.out.bk BC.out (by omega));replace QK0:=zk (QK0.out.fr FG.out (by omega));replace QA0:=zk (QA0.out.fr FG.out (by omega))
  replace H2:=zk (H2.out.fr FG.out (by omega));replace H3:=zk (H3.out.fr FG.out (by omega))
  clear RK1 RQ1 FG k0 k1 k2 tf HBs RN8 RN9 t6 t7 t8 t9 t10 hHeld;refine zal (by kernel_rfl) ?_ _;generalize ((v10.setCell ⟨B1,jn*3,none⟩ (.bool s9)).setCell ⟨B1,jn*3+1,none⟩ (.slice x9 n9 c9)).setCell ⟨B1,jn*3+2,none⟩ (.slice y9 m9 d9)=v11 at *;have H0:Hid (Nl v11 v1.heap.size n1 (some ⟨B0,0,none⟩) rs.length (some jn)):=fun _=>⟨B0,rfl,lo0,hi0,QA0.out,QK0.out⟩
  have H1:Hid (Nl v11 n1 n2 (some ⟨B1,0,none⟩) rs.length (some jn)):=fun _=>⟨B1,rfl,lo1,hi1,QA1.out,QK1.out⟩
  clear QA0 QK0 QA1 QK1 lo0 hi0 lo1 hi1;obtain ⟨b0,b1,b2,b3⟩:=bk4 BC.out;obtain ⟨l0,l1,l2,l3⟩:=bk4 BZ.out;have ff:=BZ.out.frozen;obtain ⟨hx1,hx2,hx3,hbk⟩:=zlf (some ⟨B0,0,none⟩) rs.length c0 (some ⟨B1,0,none⟩) rs.length c1 a2 cs.length c2 a3 cs.length c3 rfl (zO (fun u hu q=>by simp at hu;subst hu;simp)) BZ.out HBf.out (by omega);obtain ⟨o0,o1,o2,o3⟩:=bk4 hbk;replace H0:=zk (H0.out.kp hx2 hx3 (by omega));replace H1:=zk (H1.out.kp hx2 hx3 (by omega));replace H2:=zk (H2.out.kp hx2 hx3 (by omega));replace H3:=zk (H3.out.kp hx2 hx3 (by omega));have HX:=zk hx1;clear hx1 hx2 hx3 hbk HBf BZ BC;go_wp2;exact bodyPost_ret (v:=.tuple #[.agg #[.slice (some ⟨B0,0,none⟩) rs.length c0,.slice (some ⟨B1,0,none⟩) rs.length c1,.slice a2 cs.length c2,.slice a3 cs.length c3],.int .i64 0]) (by simp [results,results17,go_sem,o0,o1,o2,o3]) rfl (by rw [HF.out,show jrw cs rs=some jn from by rw [HJ2.out _ _ HLL.out];rfl,HJ.out];exact ⟨_,_,_,_,_,_,_,_,_,_,_,_,rfl,HX.out,zk (H0.out.an rfl),zk (H1.out.an rfl),zk (H2.out.an rfl),zk (H3.out.an rfl)⟩)
 have i0':(0:Int)<((lx.length:Nat):Int):=by omega
 have HJ:Hid (jrw cs rs=none):=by show _=_;rw [jrw,EX.out,if_neg (fun h=>hx (by rw [h];rfl))]
 have HJ2:Hid (∀z l,lx=z :: l->jcl cs=some z.toNat):=fun z l h=>by rw [jcl,EX.out,h];rfl
 have HN:Hid (¬(crl (cvC cs) cs.length=[]/\crl (cvR rs) rs.length=[])):=fun h=>hx (by rw [<-EX.out,h.1];rfl)
 have HF:Hid (csE 0 cs rs=0):=by show _=_;rw [csE,if_pos rfl,if_neg HN.out]
 obtain ⟨z,l,hl⟩:∃z l,lx=z :: l:=by
  cases hc:lx with
  | nil=>exact absurd (by rw [hc];rfl) hx
  | cons z l=>exact ⟨z,l,rfl⟩
 obtain ⟨jn,rfl,hjn⟩:=zdR (EX.out.trans hl);obtain ⟨bi,oi,hxe,hci⟩:=HX.out 0 (jn:Int) (by rw [hl];rfl);replace hci:v4.cell? ⟨bi,oi,none⟩=some (.int .i64 jn):=hci;subst hxe;have hbi:bi<v4.heap.size:=World.block_lt_of_cell? v4 _ hci;have i1':(0:Int)<((lx.length:Nat):Int):=by rw [hl,List.length_cons];omega
 have i3':0<lx.length:=by omega
 have i2':((jn:Nat):Int)<((cs.length:Nat):Int):=by omega
 have HLL:=zk hl;clear hl HX HY;obtain ⟨B2,hA2,lo2,hi2,hk2,hq2⟩:=H2.out (by omega);subst hA2;have RK2:=zk hk2;have RQ2:=zk hq2
 clear hk2 hq2 H2;obtain ⟨B3,hA3,lo3,hi3,hk3,hq3⟩:=H3.out (by omega);subst hA3;have RK3:=zk hk3;have RQ3:=zk hq3
 clear hk3 hq3 H3;go_upto_region 8 with fail
 have d0:=BC.out.cell (j:=2) rfl;have d1:=BC.out.cell (j:=3) rfl
 refine zab (S:=(fun w'=>w'.cell? ⟨xc,2,none⟩=some (.slice (some ⟨B2,0,none⟩) cs.length c2)/\w'.cell? ⟨xc,3,none⟩=some (.slice (some ⟨B3,0,none⟩) cs.length c3)/\w'.cell? ⟨bi,oi,none⟩=some (.int .i64 jn))) 17 (by kernel_rfl) ⟨kCd d0,kCd d1,kCd hci⟩ (fun hHeld=>?_);clear d0 d1 hci;have hbd:=Below.drew (Below.refl v4.heap.size v4);have hbi2:bi<v4.drew.heap.size:=hbi;have hxz2:xc<v4.drew.heap.size:=hxz;replace HB:=zJ HB hbd;replace BZ:=zk (BZ.out.q_ hbd);replace BC:=zk (BC.out.q_ hbd)
 replace RK2:=zk (RK2.out.q_ hbd);replace RQ2:=zk (RQ2.out.q_ hbd);replace RK3:=zk (RK3.out.q_ hbd);replace RQ3:=zk (RQ3.out.q_ hbd)
 replace H0:=zk (H0.out.q_ hbd);replace H1:=zk (H1.out.q_ hbd)
 clear hbd hbi hxz;generalize v4.drew=v5 at *;refine skP 0 ?_;simp only [zv,Act.put];refine tkP 1 ?_;simp only [zv,Act.put];refine skP 2 ?_;simp only [zv,Act.put];refine skP 3 ?_;simp only [zv,Act.put];refine tkP 4 ?_;simp only [zv,Act.put];refine skP 5 ?_;simp only [zv,Act.put];refine tkP 6 ?_;simp only [zv,Act.put];refine skP 7 ?_;simp only [zv,Act.put];refine skP 8 ?_;simp only [zv,Act.put];refine tkP 9 ?_;simp only [zv,Act.put];refine zw (rs:=[10]) (by kernel_rfl) (by simp) ?_;refine AllReadyP.cons (o:=_) rfl (fun K hK=>?_) ?_;rotate_left;exact AllReadyP.nil;go_simp
 go_at_call 57
 refine (zhb _).mono ?_;rintro e v6 ⟨s6,x6,n6,c6,f6,y6,m6,d6,g6,rfl,hb,p1,p2,p3⟩
 (try go_wp2_with fail)
 have t6:=And.intro (kCb hb hHeld.1) (And.intro (kCb hb hHeld.2.1) (kCb hb hHeld.2.2));refine hK.out _ _ (fun _=>t6) (fun hS9=>?_);clear hK K hS9;try simp only [Act.put,setIfInBounds_toArray,set_cons_zero,set_cons_succ]
 replace HB:=zJ HB hb;replace BZ:=zk (BZ.out.q_ hb);replace BC:=zk (BC.out.q_ hb)
 replace RK2:=zk (RK2.out.q_ hb);replace RQ2:=zk (RQ2.out.q_ hb);replace RK3:=zk (RK3.out.q_ hb);replace RQ3:=zk (RQ3.out.q_ hb)
 replace H0:=zk (H0.out.q_ hb);replace H1:=zk (H1.out.q_ hb)
 have HQ:=zk (And.intro p1 (And.intro p2 p3));clear hb p1 p2 p3;refine zw (rs:=[11]) (by kernel_rfl) (by simp) ?_;refine AllReadyP.cons (o:=_) rfl (fun K hK=>?_) ?_;rotate_left;exact AllReadyP.nil;go_simp
 go_at_call 52
 refine (zce HQ.out.2.2 (le_trans HQ.out.1 (by decide)) (le_trans HQ.out.2.1 (by decide))).mono ?_;rintro e v7 ⟨x8,n8,c8,f8,y8,m8,d8,g8,rfl,hb,hr⟩
 (try go_wp2_with fail)
 have t7:=And.intro (kCb hb t6.1) (And.intro (kCb hb t6.2.1) (kCb hb t6.2.2));refine hK.out _ _ (fun _=>t7) (fun hS9=>?_);clear hK K hS9;try simp only [Act.put,setIfInBounds_toArray,set_cons_zero,set_cons_succ]
 replace HB:=zJ HB hb;replace BZ:=zk (BZ.out.q_ hb);replace BC:=zk (BC.out.q_ hb)
 replace RK2:=zk (RK2.out.q_ hb);replace RQ2:=zk (RQ2.out.q_ hb);replace RK3:=zk (RK3.out.q_ hb);replace RQ3:=zk (RQ3.out.q_ hb)
 replace H0:=zk (H0.out.q_ hb);replace H1:=zk (H1.out.q_ hb)
 have RN8:Hid (Rn 4 v7 s6 x8 n8 c8 f8 y8 m8 d8 g8 1):=hr.out.mono (by have h1:=HQ.out.1;have h2:=HQ.out.2.1;omega);clear hb hr HQ;generalize s6=s8 at *;refine zw (rs:=[12]) (by kernel_rfl) (by simp) ?_;refine AllReadyP.cons (o:=_) rfl (fun K hK=>?_) ?_;rotate_left;exact AllReadyP.nil;go_simp
 go_at_call 57
 refine (zhb _).mono ?_;rintro e v8 ⟨s6,x6,n6,c6,f6,y6,m6,d6,g6,rfl,hb,p1,p2,p3⟩
 (try go_wp2_with fail)
 have t8:=And.intro (kCb hb t7.1) (And.intro (kCb hb t7.2.1) (kCb hb t7.2.2));refine hK.out _ _ (fun _=>t8) (fun hS9=>?_);clear hK K hS9;try simp only [Act.put,setIfInBounds_toArray,set_cons_zero,set_cons_succ]
 replace HB:=zJ HB hb;replace BZ:=zk (BZ.out.q_ hb);replace BC:=zk (BC.out.q_ hb)
 replace RK2:=zk (RK2.out.q_ hb);replace RQ2:=zk (RQ2.out.q_ hb);replace RK3:=zk (RK3.out.q_ hb);replace RQ3:=zk (RQ3.out.q_ hb)
 replace H0:=zk (H0.out.q_ hb);replace H1:=zk (H1.out.q_ hb)
 replace RN8:=zk (RN8.out.q_ hb);have HQ:=zk (And.intro p1 (And.intro p2 p3));clear hb p1 p2 p3;refine zw (rs:=[13]) (by kernel_rfl) (by simp) ?_;refine AllReadyP.cons (o:=_) rfl (fun K hK=>?_) ?_;rotate_left;exact AllReadyP.nil;go_simp
 go_at_call 52
 refine (zce HQ.out.2.2 (le_trans HQ.out.1 (by decide)) (le_trans HQ.out.2.1 (by decide))).mono ?_;rintro e v9 ⟨x9,n9,c9,f9,y9,m9,d9,g9,rfl,hb,hr⟩
 (try go_wp2_with fail)
 have t9:=And.intro (kCb hb t8.1) (And.intro (kCb hb t8.2.1) (kCb hb t8.2.2));refine hK.out _ _ (fun _=>t9) (fun hS9=>?_);clear hK K hS9;try simp only [Act.put,setIfInBounds_toArray,set_cons_zero,set_cons_succ]
 replace HB:=zJ HB hb;replace BZ:=zk (BZ.out.q_ hb);replace BC:=zk (BC.out.q_ hb)
 replace RK2:=zk (RK2.out.q_ hb);replace RQ2:=zk (RQ2.out.q_ hb);replace RK3:=zk (RK3.out.q_ hb);replace RQ3:=zk (RQ3.out.q_ hb)
 replace H0:=zk (H0.out.q_ hb);replace H1:=zk (H1.out.q_ hb)
 replace RN8:=zk (RN8.out.q_ hb);have RN9:Hid (Rn 4 v9 s6 x9 n9 c9 f9 y9 m9 d9 g9 1):=hr.out.mono (by have h1:=HQ.out.1;have h2:=HQ.out.2.1;omega);clear hb hr HQ;generalize s6=s9 at *;refine zw (rs:=[14]) (by kernel_rfl) (by simp) ?_;refine AllReadyP.cons (o:=_) rfl (fun K hK=>?_) ?_;rotate_left;exact AllReadyP.nil;go_simp;refine hK.out _ _ (fun _=>t9) (fun hS9=>?_);clear hK K hS9;try simp only [Act.put,setIfInBounds_toArray,set_cons_zero,set_cons_succ]
 refine zw (rs:=[15]) (by kernel_rfl) (by simp) ?_;refine AllReadyP.cons (o:=_) rfl (fun K hK=>?_) ?_;rotate_left;exact AllReadyP.nil;have hk:=RK2.out;have tf:=hk.fz;obtain ⟨_,k0,_⟩:=hk.has (jn*3) (by omega);obtain ⟨_,k1,_⟩:=hk.has (jn*3+1) (by omega);obtain ⟨_,k2,_⟩:=hk.has (jn*3+2) (by omega);have FG:=zk (zdx (s:=s8) (x:=x8) (k:=n8) (c:=c8) (y:=y8) (m:=m8) (d:=d8) hk hjn);obtain ⟨R1a,R2a⟩:=zcV (i':=cs.length) (j:=jn) (Q':=fun i=>if some jn=some i then 1 else 0) hk RQ2.out hjn (by rw [if_pos rfl];exact RN8.out) (fun j' h1 h2=>⟨h1,by show (if _ then _ else _)=_;rw [if_neg (fun e=>h2 (Option.some.inj e).symm)];rfl⟩);have QA2:=zk R1a;have QK2:=zk R2a
 clear R1a R2a hk;go_simp;have t10:=And.intro (FG.out.cell (show ¬(xc=B2) by omega) t9.1) (And.intro (FG.out.cell (show ¬(xc=B2) by omega) t9.2.1) (zmG (s:=s8) (x:=x8) (k:=n8) (c:=c8) (y:=y8) (m:=m8) (d:=d8) RQ2.out hjn t9.2.2));refine hK.out _ _ (fun _=>t10) (fun hS9=>?_);clear hK K hS9;try simp only [Act.put,setIfInBounds_toArray,set_cons_zero,set_cons_succ]
 have HBs:=zk (zaY (o:=jn*3) (u0:=.bool s8) (u1:=.slice x8 n8 c8) (u2:=.slice y8 m8 d8) HB.out (show w.heap.size<=B2 by omega));replace BZ:=zk (FG.out.bk BZ.out (by omega));replace BC:=zk (FG.out.bk BC.out (by omega));replace RN9:=zk (FG.out.rn RN9.out)
 replace RK3:=zk (RK3.out.fr FG.out (by omega));replace RQ3:=zk (RQ3.out.fr FG.out (by omega))
 replace H0:=zk (H0.out.fr FG.out (by omega));replace H1:=zk (H1.out.fr FG.out (by omega))
 clear RK2 RQ2 FG k0 k1 k2 tf HB;generalize ((v9.setCell ⟨B2,jn*3,none⟩ (.bool s8)).setCell ⟨B2,jn*3+1,none⟩ (.slice x8 n8 c8)).setCell ⟨B2,jn*3+2,none⟩ (.slice y8 m8 d8)=v10 at *;refine zw (rs:=[16]) (by kernel_rfl) (by simp) ?_;refine AllReadyP.cons (o:=_) rfl (fun K hK=>?_) ?_;rotate_left;exact AllReadyP.nil;go_simp;refine hK.out _ _ (fun _=>t10) (fun hS9=>?_);clear hK K hS9;try simp only [Act.put,setIfInBounds_toArray,set_cons_zero,set_cons_succ]
 refine zw (rs:=[17]) (by kernel_rfl) (by simp) ?_;refine AllReadyP.cons (o:=_) rfl (fun K hK=>?_) ?_;rotate_left;exact AllReadyP.nil;have hk:=RK3.out;have tf:=hk.fz;obtain ⟨_,k0,_⟩:=hk.has (jn*3) (by omega);obtain ⟨_,k1,_⟩:=hk.has (jn*3+1) (by omega);obtain ⟨_,k2,_⟩:=hk.has (jn*3+2) (by omega);have FG:=zk (zdx (s:=s9) (x:=x9) (k:=n9) (c:=c9) (y:=y9) (m:=m9) (d:=d9) hk hjn);obtain ⟨R1a,R2a⟩:=zcV (i':=cs.length) (j:=jn) (Q':=fun i=>if some jn=some i then 1 else 0) hk RQ3.out hjn (by rw [if_pos rfl];exact RN9.out) (fun j' h1 h2=>⟨h1,by show (if _ then _ else _)=_;rw [if_neg (fun e=>h2 (Option.some.inj e).symm)];rfl⟩);have QA3:=zk R1a;have QK3:=zk R2a
 clear R1a R2a hk;go_simp;refine hK.out _ _ (fun h=>by cases h) (fun _=>?_);clear hK K;try simp only [Act.put,setIfInBounds_toArray,set_cons_zero,set_cons_succ]
 have HBf:=zk (zaY (o:=jn*3) (u0:=.bool s9) (u1:=.slice x9 n9 c9) (u2:=.slice y9 m9 d9) HBs.out (show w.heap.size<=B3 by omega));replace BZ:=zk (FG.out.bk BZ.out (by omega));replace BC:=zk (FG.out.bk BC.out (by omega));replace QK2:=zk (QK2.out.fr FG.out (by omega));replace QA2:=zk (QA2.out.fr FG.out (by omega))
 replace H0:=zk (H0.out.fr FG.out (by omega));replace H1:=zk (H1.out.fr FG.out (by omega))
 clear RK3 RQ3 FG k0 k1 k2 tf HBs RN8 RN9 t6 t7 t8 t9 t10 hHeld;refine zal (by kernel_rfl) ?_ _;generalize ((v10.setCell ⟨B3,jn*3,none⟩ (.bool s9)).setCell ⟨B3,jn*3+1,none⟩ (.slice x9 n9 c9)).setCell ⟨B3,jn*3+2,none⟩ (.slice y9 m9 d9)=v11 at *;have H2:Hid (Nl v11 n2 n3 (some ⟨B2,0,none⟩) cs.length (some jn)):=fun _=>⟨B2,rfl,lo2,hi2,QA2.out,QK2.out⟩
 have H3:Hid (Nl v11 n3 n4 (some ⟨B3,0,none⟩) cs.length (some jn)):=fun _=>⟨B3,rfl,lo3,hi3,QA3.out,QK3.out⟩
 clear QA2 QK2 QA3 QK3 lo2 hi2 lo3 hi3;obtain ⟨b0,b1,b2,b3⟩:=bk4 BC.out;obtain ⟨l0,l1,l2,l3⟩:=bk4 BZ.out;have ff:=BZ.out.frozen;obtain ⟨hx1,hx2,hx3,hbk⟩:=zlf a0 rs.length c0 a1 rs.length c1 (some ⟨B2,0,none⟩) cs.length c2 (some ⟨B3,0,none⟩) cs.length c3 rfl (zO (fun u hu q=>by simp at hu;subst hu;simp)) BZ.out HBf.out (by omega);obtain ⟨o0,o1,o2,o3⟩:=bk4 hbk;replace H0:=zk (H0.out.kp hx2 hx3 (by omega));replace H1:=zk (H1.out.kp hx2 hx3 (by omega));replace H2:=zk (H2.out.kp hx2 hx3 (by omega));replace H3:=zk (H3.out.kp hx2 hx3 (by omega));have HX:=zk hx1;clear hx1 hx2 hx3 hbk HBf BZ BC;go_wp2;exact bodyPost_ret (v:=.tuple #[.agg #[.slice a0 rs.length c0,.slice a1 rs.length c1,.slice (some ⟨B2,0,none⟩) cs.length c2,.slice (some ⟨B3,0,none⟩) cs.length c3],.int .i64 0]) (by simp [results,results17,go_sem,o0,o1,o2,o3]) rfl (by rw [HF.out,HJ.out,show jcl cs=some jn from by rw [HJ2.out _ _ HLL.out];rfl];exact ⟨_,_,_,_,_,_,_,_,_,_,_,_,rfl,HX.out,zk (H0.out.an rfl),zk (H1.out.an rfl),zk (H2.out.an rfl),zk (H3.out.an rfl)⟩)
def GAn (er:Int) (K:Nat) (p:List Rat) (v:Value) (w:World):Prop:=∃a n c,v=.slice a n c/\ANs er K w a n p
def GVn (er:Int) (K:Nat) (q:Rat) (v:Value) (w:World):Prop:=∃s x n c f y m d g,v=.agg #[.bool s,.slice x n c,.slice y m d]/\VNs er K w ⟨s,x,n,c,f,y,m,d,g⟩ q
theorem GAn.q_ {er K p v w w'} (h:GAn er K p v w) (hb:Bl w w'):GAn er K p v w':=by obtain ⟨a,n,c,e,h⟩:=h;exact ⟨a,n,c,e,h.q_ hb⟩
theorem GVn.q_ {er K q v w w'} (h:GVn er K q v w) (hb:Bl w w'):GVn er K q v w':=by obtain ⟨s,x,n,c,f,y,m,d,g,e,h⟩:=h;exact ⟨s,x,n,c,f,y,m,d,g,e,h.q_ hb⟩
theorem ANs.box {er K w w' a n p B t} (h:ANs er K w a n p) (hB:Bk w B [.bool false,.slice none 0 0,.slice none 0 0] t) (hk:Kp w w') (hne:∀k,k≠B->w'.heap[k]?=w.heap[k]?):ANs er K w' a n p:=by
 rcases h with h | ⟨h1,h2,h3⟩
 ·exact .inl h
 ·exact .inr ⟨h1,h2,h3.box hB hk hne⟩
theorem VNs.kp {er K w w' t q} (h:VNs er K w t q) (hk:Kp w w'):VNs er K w' t q:=by
 rcases h with h | ⟨h1,h2⟩
 ·exact .inl h
 ·exact .inr ⟨h1,Rn.kp h2 hk⟩
theorem CmbAns.an {L w w' e er cs bs} (h:CmbAns L w w' e er cs bs):∃v,e=.returned v/\Bl w w'/\GT3v (GAn (cE er bs) (KC L) ((List.range cs.length).map (cmbQ bs))) (GVn (cE er bs) (KC L) (cmbS bs)) (.int .i64 (cE er bs)) v w':=by
 obtain ⟨hb,⟨h0,rfl⟩ | ⟨h0,hi,rfl⟩ | ⟨h0,hi,B,s,x,n,c,f,y,m,d,g,hB,rfl,hr,hn⟩⟩:=h
 ·have e1:cE er bs=er:=by unfold cE;rw [if_neg h0]
  rw [e1];exact ⟨_,rfl,hb,_,_,rfl,⟨none,0,0,rfl,.inl ⟨h0,rfl⟩⟩,⟨false,none,0,0,fun _=>0,none,0,0,fun _=>0,rfl,.inl ⟨h0,rfl⟩⟩⟩
 ·have e1:cE er bs=8:=by unfold cE;rw [if_pos h0,if_pos hi]
  rw [e1];exact ⟨_,rfl,hb,_,_,rfl,⟨none,0,0,rfl,.inl ⟨by decide,rfl⟩⟩,⟨false,none,0,0,fun _=>0,none,0,0,fun _=>0,rfl,.inl ⟨by decide,rfl⟩⟩⟩
 ·have e1:cE er bs=0:=by unfold cE;rw [if_pos h0,hi];rfl
  rw [e1];exact ⟨_,rfl,hb,_,_,rfl,⟨_,_,_,rfl,.inr ⟨rfl,by simp,hr⟩⟩,⟨s,x,n,c,f,y,m,d,g,rfl,.inr ⟨rfl,hn⟩⟩⟩
theorem znL {er cs rs} (h:csE er cs rs=0):er=0:=by
 unfold csE at h;by_cases e:er=0
 ·exact e
 ·rw [if_neg e] at h;exact absurd h e
theorem zlI {w M M' a0 a1 a2 a3 k0 c0 k1 c1 k2 c2 k3 c3 X0 X1 X2 X3 Y0 Y1 Y2 Y3} (h:TmK 8 w M M') (hN:MoN M) (t:T4 w a0 a1 a2 a3 k0 X0 Y0 k1 X1 Y1 k2 X2 Y2 k3 X3 Y3) (s0:ShK 8 k0 X0) (s1:ShK 8 k1 X1) (s2:ShK 8 k2 X2) (s3:ShK 8 k3 X3) :
  Calls prog 12 #[M'.val,.agg #[.slice a0 k0 c0,.slice a1 k1 c1,.slice a2 k2 c2,.slice a3 k3 c3]] w fun e w'=>CmbAns 8 w w' e (cbE M k0 X0 k1 X1 k2 X2 k3 X3) (zah M) (bdA (zah M) (zap M) (zN k0 X0) (zN k1 X1) (zN k2 X2) (zN k3 X3)):=by
 have hE:cbE M' k0 Y0 k1 Y1 k2 Y2 k3 Y3=cbE M k0 X0 k1 X1 k2 X2 k3 X3:=by unfold cbE zir;rw [h.1.chk,h.1.ck,h.1.rk,zhf t.t0,zhf t.t1,zhf t.t2,zhf t.t3]
 exact zdj (L:=8) (c0:=c0) (c1:=c1) (c2:=c2) (c3:=c3) (off:=nq M.off) h.2.1 t.t0.1 t.t1.1 t.t2.1 t.t3.1 (by have:=s0.1;omega) (by have:=s1.1;omega) (by have:=s2.1;omega) (by have:=s3.1;omega) hE (fun he=>by
  obtain ⟨h1,⟨f0,f1,f2,f3⟩,g0,g1,g2,g3⟩:=zhG he;obtain ⟨a,b⟩:=h.valL 8 (by decide) (by decide) hN h1;exact ⟨a,b,⟨t.t0.valK s0 f0,t.t1.valK s1 f1,t.t2.valK s2 f2,t.t3.valK s3 f3⟩,⟨zbh _ _,zbh _ _,zbh _ _,zbh _ _⟩,by rw [zfF];exact g0,by rw [zfF];exact g1,by rw [zfW];exact g2,by rw [zfW];exact g3⟩) (by decide) (by decide)
theorem zjq {w M M'} (h:TmK 8 w M M') (hN:MoN M):Calls prog 16 #[M'.val] w fun e w'=>CsgAns w w' e (zak M) (zah M) (zap M) :=
 zew (L:=8) (off:=nq M.off) h.2.1 (fun a b=>(h.2.2.2 a b).mob (by decide)) h.1.chk (fun he=>h.valL 8 (by decide) (by decide) hN he)
theorem zht {w M a0 a1 a2 a3 k0 c0 k1 c1 k2 c2 k3 c3 X0 X1 X2 X3} (hX:MoX w M) (hN:MoN M) (hC:MoC M) (g0:Rr w a0 k0 X0) (g1:Rr w a1 k1 X1) (g2:Rr w a2 k2 X2) (g3:Rr w a3 k3 X3) (y0:k0<=9223372036854775807) (y1:k1<=9223372036854775807) (y2:k2<=9223372036854775807) (y3:k3<=9223372036854775807) :
  Calls prog 4 #[M.val,.agg #[.slice a0 k0 c0,.slice a1 k1 c1,.slice a2 k2 c2,.slice a3 k3 c3]] w fun e w'=>e=.returned (.bool true)/\Bl w w':=by
 obtain ⟨lb,hlb⟩:∃t,lgM 8 M=t:=⟨_,rfl⟩;obtain ⟨la,hla⟩:∃t,(lgL 8 k0 X0 && (lgL 8 k1 X1 && (lgL 8 k2 X2 && lgL 8 k3 X3)))=t:=⟨_,rfl⟩;have CL:=zk (fun w' (hw:Bl w w')=>znh (w:=w') (K:=8) (hX.q_ hw).light.1 (hX.q_ hw).light.2);rw [hlb] at CL;have CA:=zk (fun w' (hw:Bl w w')=>zlr (c0:=c0) (c1:=c1) (c2:=c2) (c3:=c3) 8 (g0.q_ hw) (g1.q_ hw) (g2.q_ hw) (g3.q_ hw) y0 y1 y2 y3);rw [hla] at CA;obtain ⟨N,hN'⟩:∃N,N=M:=⟨_,rfl⟩;have HC:Hid (lb=true->la=true->In8 w N/\(Rl w a0 k0 X0/\ShK 8 k0 X0)/\(Rl w a1 k1 X1/\ShK 8 k1 X1)/\(Rl w a2 k2 X2/\ShK 8 k2 X2)/\(Rl w a3 k3 X3/\ShK 8 k3 X3)):=fun e1 e2=>by
  subst hN';subst e1;subst e2
  simp only [Bool.and_eq_true] at hla;have key:∀{a:Option Addr} {k:Nat} {X:Nat->Nm},Rr w a k X->lgL 8 k X=true->Rl w a k X:=fun h q=>by
   simp only [lgL,Bool.and_eq_true] at q;exact h.rl q.2 (by decide)
  exact ⟨⟨hX,hN,hC,zrY hlb⟩,⟨key g0 hla.1,zfh hla.1⟩,⟨key g1 hla.2.1,zfh hla.2.1⟩,⟨key g2 hla.2.2.1,zfh hla.2.2.1⟩,⟨key g3 hla.2.2.2,zfh hla.2.2.2⟩⟩
 clear hX hN hC g0 g1 g2 g3 hlb hla y0 y1 y2 y3;obtain ⟨⟨s,x,n,c,f,y,m,d,g⟩,ca,ck,cc,C,ra,rk,rc,R⟩:=M;have hNv:Hid (N.val=.agg #[.bool s,.slice x n c,.slice y m d,.slice ca ck cc,.slice ra rk rc]):=by rw [hN'];exact rfl
 clear hN';replace CL:Hid (∀w',Bl w w'->Calls prog 6 #[.agg #[.bool s,.slice x n c,.slice y m d,.slice ca ck cc,.slice ra rk rc],.int .i64 8] w' fun e w2=>e=.returned (.bool lb)/\Bl w' w2):=CL;show Calls prog 4 #[.agg #[.bool s,.slice x n c,.slice y m d,.slice ca ck cc,.slice ra rk rc],.agg #[.slice a0 k0 c0,.slice a1 k1 c1,.slice a2 k2 c2,.slice a3 k3 c3]] w _;have HB:=zk (zu (zB w (.cells #[.bool s,.slice x n c,.slice y m d,.slice ca ck cc,.slice ra rk rc] 28)) (.cells #[.slice a0 k0 c0,.slice a1 k1 c1,.slice a2 k2 c2,.slice a3 k3 c3] 31));have BM:=zk ((zI w [.bool s,.slice x n c,.slice y m d,.slice ca ck cc,.slice ra rk rc] 28).q_ (zB _ (.cells #[.slice a0 k0 c0,.slice a1 k1 c1,.slice a2 k2 c2,.slice a3 k3 c3] 31)));have BA:=zk (zaX w (.cells #[.bool s,.slice x n c,.slice y m d,.slice ca ck cc,.slice ra rk rc] 28) [.slice a0 k0 c0,.slice a1 k1 c1,.slice a2 k2 c2,.slice a3 k3 c3] 31);go_enter func4,ntmps4;go_wp2_with fail
 generalize ((w.alloc (.cells #[.bool s,.slice x n c,.slice y m d,.slice ca ck cc,.slice ra rk rc] 28)).alloc (.cells #[.slice a0 k0 c0,.slice a1 k1 c1,.slice a2 k2 c2,.slice a3 k3 c3] 31))=v0 at *;refine (zlM _).mono ?_;rintro e v1 ⟨rfl,hb⟩;replace HB:=zJ HB hb;replace BM:=zk (BM.out.q_ hb);replace BA:=zk (BA.out.q_ hb)
 clear hb;obtain ⟨r0,r1,r2,r3,r4⟩:=bk5 BM.out;go_wp2_with fail
 clear r0 r1 r2 r3 r4;refine (CL.out _ HB.out).mono ?_;rintro e v2 ⟨rfl,hb⟩;replace HB:=zJ HB hb;replace BM:=zk (BM.out.q_ hb);replace BA:=zk (BA.out.q_ hb)
 clear hb;clear CL;cases lb
 ·go_wp2;go_ret;exact ⟨rfl,HB.out⟩
 obtain ⟨t0,t1,t2,t3⟩:=bk4 BA.out;go_wp2_with fail
 clear t0 t1 t2 t3;refine (CA.out _ HB.out).mono ?_;rintro e v3 ⟨rfl,hb⟩;replace HB:=zJ HB hb;replace BM:=zk (BM.out.q_ hb);replace BA:=zk (BA.out.q_ hb)
 clear hb;clear CA;cases la
 ·go_wp2;go_ret;exact ⟨rfl,HB.out⟩
 replace HC:=zk (HC.out (by first | rfl | trivial) (by first | rfl | trivial));have T1:Hid (∀W,Bl w W->Calls prog 9 #[.agg #[.bool s,.slice x n c,.slice y m d,.slice ca ck cc,.slice ra rk rc]] W fun e w'=>∃(vm:Value) (M':Mo),e=.returned vm/\Bl W w'/\Hid (vm=M'.val/\TmK 8 w' N M')):=fun W hW=>by
  have:=zlc (HC.out.1.x.q_ hW) HC.out.1.n HC.out.1.k (by decide);rw [hNv.out] at this;exact this
 have T2:=zk (fun W (hW:Bl w W)=>zmk (c0:=c0) (c1:=c1) (c2:=c2) (c3:=c3) (HC.out.2.1.1.q_ hW) (HC.out.2.2.1.1.q_ hW) (HC.out.2.2.2.1.1.q_ hW) (HC.out.2.2.2.2.1.q_ hW) HC.out.2.1.2 HC.out.2.2.1.2 HC.out.2.2.2.1.2 HC.out.2.2.2.2.2 (by decide));obtain ⟨ce,hce⟩:∃t,cE (cbE N k0 X0 k1 X1 k2 X2 k3 X3) (bdA (zah N) (zap N) (zN k0 X0) (zN k1 X1) (zN k2 X2) (zN k3 X3))=t:=⟨_,rfl⟩;obtain ⟨pl,hpl⟩:∃t,(List.range (zah N).length).map (cmbQ (bdA (zah N) (zap N) (zN k0 X0) (zN k1 X1) (zN k2 X2) (zN k3 X3)))=t:=⟨_,rfl⟩;obtain ⟨fs,hfs⟩:∃t,cmbS (bdA (zah N) (zap N) (zN k0 X0) (zN k1 X1) (zN k2 X2) (zN k3 X3))=t:=⟨_,rfl⟩;obtain ⟨cx,hcx⟩:∃t,csE (zak N) (zah N) (zap N)=t:=⟨_,rfl⟩;obtain ⟨lr,hlr⟩:∃t,zdd (zap N).length (jrw (zah N) (zap N))=t:=⟨_,rfl⟩;obtain ⟨lc,hlc⟩:∃t,zdd (zah N).length (jcl (zah N))=t:=⟨_,rfl⟩;have HPL:Hid (ce=0->pl.length<=64):=fun e=>by
  obtain ⟨h1,_⟩:=zpL (hce.trans e);have:=(zbA (HC.out.1.val (zhG h1).1).2).cl;rw [<-hpl];simpa using this
 have HLC:Hid (cx=0->lr.length<=64/\lr.length<=64/\lc.length<=64/\lc.length<=64):=fun e=>by
  have mp:=zbA (HC.out.1.val (znL (hcx.trans e))).2;have h1:=mp.cl;have h2:=mp.rl
  rw [<-hlr,<-hlc,zbg,zbg];exact ⟨h2,h2,h1,h1⟩
 have CM:Hid (∀W vm M' b0 d0 Y0 b1 d1 Y1 b2 d2 Y2 b3 d3 Y3,(vm=M'.val/\TmK 8 W N M')->T4 W b0 b1 b2 b3 k0 X0 Y0 k1 X1 Y1 k2 X2 Y2 k3 X3 Y3->Calls prog 12 #[vm,.agg #[.slice b0 k0 d0,.slice b1 k1 d1,.slice b2 k2 d2,.slice b3 k3 d3]] W fun e w'=>∃v,e=.returned v/\Bl W w'/\GT3v (GAn ce (KC 8) pl) (GVn ce (KC 8) fs) (.int .i64 ce) v w'):=fun W vm M' b0 d0 Y0 b1 d1 Y1 b2 d2 Y2 b3 d3 Y3 h1 h2=>by
  have:=zlI (c0:=d0) (c1:=d1) (c2:=d2) (c3:=d3) h1.2 HC.out.1.n h2 HC.out.2.1.2 HC.out.2.2.1.2 HC.out.2.2.2.1.2 HC.out.2.2.2.2.2;rw [<-h1.1] at this;refine this.mono ?_;intro e w' h;have:=h.an;rw [hce,hpl,hfs] at this;exact this
 have DC:Hid (∀W,Bl w W->Calls prog 13 #[.agg #[.bool s,.slice x n c,.slice y m d,.slice ca ck cc,.slice ra rk rc],.agg #[.slice a0 k0 c0,.slice a1 k1 c1,.slice a2 k2 c2,.slice a3 k3 c3]] W fun e w'=>zqh W w' e ce pl fs):=fun W hW=>by
  have:=zhx (c0:=c0) (c1:=c1) (c2:=c2) (c3:=c3) (HC.out.1.q_ hW) (HC.out.2.1.1.q_ hW) HC.out.2.1.2 (HC.out.2.2.1.1.q_ hW) HC.out.2.2.1.2 (HC.out.2.2.2.1.1.q_ hW) HC.out.2.2.2.1.2 (HC.out.2.2.2.2.1.q_ hW) HC.out.2.2.2.2.2;rw [hce,hpl,hfs,hNv.out] at this;exact this
 have CX:Hid (∀W vm M',(vm=M'.val/\TmK 8 W N M')->Calls prog 16 #[vm] W fun e w'=>zgc W w' e cx lr lc):=fun W vm M' h1=>by
  have:=zjq h1.2 HC.out.1.n;rw [<-h1.1] at this;refine this.mono ?_;intro e w' h;have:=h.crz;rw [hcx,hlr,hlc] at this;exact this
 have DX:Hid (∀W,Bl w W->Calls prog 17 #[.agg #[.bool s,.slice x n c,.slice y m d,.slice ca ck cc,.slice ra rk rc]] W fun e w'=>zgc W w' e cx lr lc):=fun W hW=>by
  have:=zgg (HC.out.1.q_ hW);rw [hcx,hlr,hlc,hNv.out] at this;exact this
 clear HC hNv hce hpl hfs hcx hlr hlc;go_upto_region 5 with fail
 obtain ⟨r0,r1,r2,r3,r4⟩:=bk5 BM.out;obtain ⟨t0,t1,t2,t3⟩:=bk4 BA.out;have hbd:=Below.drew (Below.refl v3.heap.size v3);replace HB:=zJ HB hbd;replace BM:=zk (BM.out.q_ hbd);replace BA:=zk (BA.out.q_ hbd)
 clear hbd;refine wp_region_held_drew (S:=(fun w'=>w'.cell? ⟨w.heap.size,0,none⟩=some (.bool s)/\w'.cell? ⟨w.heap.size,1,none⟩=some (.slice x n c)/\w'.cell? ⟨w.heap.size,2,none⟩=some (.slice y m d)/\w'.cell? ⟨w.heap.size,3,none⟩=some (.slice ca ck cc)/\w'.cell? ⟨w.heap.size,4,none⟩=some (.slice ra rk rc)/\w'.cell? ⟨w.heap.size+1,0,none⟩=some (.slice a0 k0 c0)/\w'.cell? ⟨w.heap.size+1,1,none⟩=some (.slice a1 k1 c1)/\w'.cell? ⟨w.heap.size+1,2,none⟩=some (.slice a2 k2 c2)/\w'.cell? ⟨w.heap.size+1,3,none⟩=some (.slice a3 k3 c3))) (by kernel_rfl) ?_ (fun hHeld=>?_)
 ·exact ⟨kCd r0,kCd r1,kCd r2,kCd r3,kCd r4,kCd t0,kCd t1,kCd t2,kCd t3⟩
 generalize v3.drew=wd2 at *;clear r0 r1 r2 r3 r4 t0 t1 t2 t3;refine zD 0 ?_;simp only [zv,Act.put];refine zD 2 ?_;simp only [zv,Act.put];refine (show wpAnyH _ _ _ _ _ (8+3) _ _ _ from zbu (fun j v w=>match j with | 1=>GTw 8 N v w | 3=>GT4 k0 X0 k1 X1 k2 X2 k3 X3 v w | 4=>GT3v (GAn ce (KC 8) pl) (GVn ce (KC 8) fs) (.int .i64 ce) v w | 5=>GT3v (GAn ce (KC 8) pl) (GVn ce (KC 8) fs) (.int .i64 ce) v w | 6=>GAn ce (KC 8) pl v w | 7=>GVn ce (KC 8) fs v w | 8=>(fun v (_:World)=>v=.int .i64 ce) v w | 9=>GBx wd2.heap.size [.bool false,.slice none 0 0,.slice none 0 0] 24 v w | _=>True) [(1,25),(3,27),(4,28),(9,6),(5,23),(6,29),(7,30),(8,31)] [1,3,4,9] [5,6,7,8] [10,11,12] _ _ _ 3 ?k1 ?k4 ?kn ?kq ?k2 ?k3 ?k5 ?kt ?k6 ?k8)
 case k1=>kernel_rfl
 case k4=>kernel_rfl
 case kn=>kernel_rfl
 case kq=>exact fun _ _ _ _ _ h=>h
 case k2=>exact fun w w' h hb=>⟨kCb hb h.1,kCb hb h.2.1,kCb hb h.2.2.1,kCb hb h.2.2.2.1,kCb hb h.2.2.2.2.1,kCb hb h.2.2.2.2.2.1,kCb hb h.2.2.2.2.2.2.1,kCb hb h.2.2.2.2.2.2.2.1,kCb hb h.2.2.2.2.2.2.2.2⟩
 case k3 =>
  intro j v w w' h hb
  split at h <;> first | exact GTw.q_ h hb | exact GT4.q_ h hb | exact GT3v.q_ (fun a h=>GAn.q_ h hb) (fun a h=>GVn.q_ h hb) h | exact GAn.q_ h hb | exact GVn.q_ h hb | exact GBx.q_ h hb | exact h | trivial
 case k8=>exact hHeld
 case k5 =>
  intro i hi;simp only [List.mem_cons,List.not_mem_nil,or_false] at hi;rcases hi with rfl | rfl | rfl | rfl
  ·refine ⟨_,rfl,fun u w5 hS hb5 hd K hK=>?_⟩;have hw5:=bUp HB.out hb5;simp only [fill,foldl_cons,foldl_nil,Act.put,setIfInBounds_toArray,set_cons_zero,set_cons_succ] at hK ⊢;go_simp
   go_at_call 9
   refine (T1.out _ hw5).mono ?_;rintro e w6 ⟨vm,M',rfl,hb6,hh⟩
   (try go_wp2_with fail)
   exact hK.out _ _ hb6 ⟨M',hh.out.1,hh.out.2⟩
  ·refine ⟨_,rfl,fun u w5 hS hb5 hd K hK=>?_⟩;have hw5:=bUp HB.out hb5;simp only [fill,foldl_cons,foldl_nil,Act.put,setIfInBounds_toArray,set_cons_zero,set_cons_succ] at hK ⊢;go_simp
   go_at_call 10
   refine (T2.out _ hw5).mono ?_;rintro e w6 ⟨b0,d0,Y0,b1,d1,Y1,b2,d2,Y2,b3,d3,Y3,rfl,hb6,hh⟩
   (try go_wp2_with fail)
   exact hK.out _ _ hb6 ⟨b0,d0,Y0,b1,d1,Y1,b2,d2,Y2,b3,d3,Y3,rfl,hh.out⟩
  ·refine ⟨_,rfl,fun u w5 hS hb5 hd K hK=>?_⟩;have hw5:=bUp HB.out hb5;have hc:Calls prog 12 #[u 1,u 3] w5 fun e w'=>∃v,e=.returned v/\Bl w5 w'/\GT3v (GAn ce (KC 8) pl) (GVn ce (KC 8) fs) (.int .i64 ce) v w':=by
    have h1:GTw 8 N (u 1) w5:=hd 1 (by kernel_rfl) (by kernel_rfl);have h3:GT4 k0 X0 k1 X1 k2 X2 k3 X3 (u 3) w5:=hd 3 (by kernel_rfl) (by kernel_rfl);obtain ⟨M',e1,hM⟩:=h1;obtain ⟨b0,d0,Y0,b1,d1,Y1,b2,d2,Y2,b3,d3,Y3,e3b,hQ⟩:=h3;rw [e3b];exact CM.out _ _ M' b0 d0 Y0 b1 d1 Y1 b2 d2 Y2 b3 d3 Y3 ⟨e1,hM⟩ hQ
   simp only [fill,foldl_cons,foldl_nil,Act.put,setIfInBounds_toArray,set_cons_zero,set_cons_succ] at hK ⊢;go_simp
   go_at_call 12
   refine hc.mono ?_;rintro e w6 ⟨v,rfl,hb6,hr⟩
   (try go_wp2_with fail)
   exact hK.out _ _ hb6 hr
  ·refine ⟨_,rfl,fun u w5 hS hb5 hd K hK=>?_⟩;have hw5:=bUp HB.out hb5;simp only [fill,foldl_cons,foldl_nil,Act.put,setIfInBounds_toArray,set_cons_zero,set_cons_succ] at hK ⊢;go_simp;exact hK.out _ _ (zB w5 _) ⟨w5.heap.size,rfl,zI w5 [.bool false,.slice none 0 0,.slice none 0 0] 24,hb5.size⟩
 case kt =>
  intro i hi;simp only [List.mem_cons,List.not_mem_nil,or_false] at hi;rcases hi with rfl | rfl | rfl | rfl
  ·refine ⟨_,rfl,fun u w5 hS hd=>?_⟩;have h4:GT3v (GAn ce (KC 8) pl) (GVn ce (KC 8) fs) (.int .i64 ce) (u 4) w5:=hd 4 (by kernel_rfl) (by kernel_rfl);obtain ⟨va,vb,e4,hA,hB⟩:=h4;simp only [fill,foldl_cons,foldl_nil,Act.put,setIfInBounds_toArray,set_cons_zero,set_cons_succ];simp only [e4];exact ⟨.tuple #[va,vb,.int .i64 ce],Or.inl ⟨by rfl,fun w0 hSw=>by go_simp <;> with_reducible rfl⟩,⟨va,vb,rfl,hA,hB⟩⟩
  ·refine ⟨_,rfl,fun u w5 hS hd=>?_⟩;have h5:GT3v (GAn ce (KC 8) pl) (GVn ce (KC 8) fs) (.int .i64 ce) (u 5) w5:=hd 5 (by kernel_rfl) (by kernel_rfl);obtain ⟨va,vb,e5,hA,hB⟩:=h5;simp only [fill,foldl_cons,foldl_nil,Act.put,setIfInBounds_toArray,set_cons_zero,set_cons_succ];simp only [e5];exact ⟨va,Or.inl ⟨by rfl,fun w0 hSw=>by go_simp <;> with_reducible rfl⟩,hA⟩
  ·refine ⟨_,rfl,fun u w5 hS hd=>?_⟩;have h5:GT3v (GAn ce (KC 8) pl) (GVn ce (KC 8) fs) (.int .i64 ce) (u 5) w5:=hd 5 (by kernel_rfl) (by kernel_rfl);obtain ⟨va,vb,e5,hA,hB⟩:=h5;simp only [fill,foldl_cons,foldl_nil,Act.put,setIfInBounds_toArray,set_cons_zero,set_cons_succ];simp only [e5];exact ⟨vb,Or.inl ⟨by rfl,fun w0 hSw=>by go_simp <;> with_reducible rfl⟩,hB⟩
  ·refine ⟨_,rfl,fun u w5 hS hd=>?_⟩;have h5:GT3v (GAn ce (KC 8) pl) (GVn ce (KC 8) fs) (.int .i64 ce) (u 5) w5:=hd 5 (by kernel_rfl) (by kernel_rfl);obtain ⟨va,vb,e5,hA,hB⟩:=h5;simp only [fill,foldl_cons,foldl_nil,Act.put,setIfInBounds_toArray,set_cons_zero,set_cons_succ];simp only [e5];exact ⟨.int .i64 ce,Or.inl ⟨by rfl,fun w0 hSw=>by go_simp <;> with_reducible rfl⟩,rfl⟩
 case k6 =>
  intro u w6 hS6 hb6 hg;have h6:GAn ce (KC 8) pl (u 6) w6:=hg 6 (by simp);have h7:GVn ce (KC 8) fs (u 7) w6:=hg 7 (by simp);have h8:u 8=.int .i64 ce:=hg 8 (by simp);have h9:GBx wd2.heap.size [.bool false,.slice none 0 0,.slice none 0 0] 24 (u 9) w6:=hg 9 (by simp);obtain ⟨la,ln,lc9,e6,hl⟩:=h6;obtain ⟨s7,x7,n7,c7,f7,y7,m7,d7,g7,e7,hq7⟩:=h7;obtain ⟨bx7,e9,hBX,hge⟩:=h9;simp only [fill,foldl_cons,foldl_nil,Act.put,setIfInBounds_toArray,set_cons_zero,set_cons_succ];simp only [e6,e7,h8,e9];clear e6 e7 h8 e9 hg;obtain ⟨hx1,hx2,hx3,hbk⟩:=st3 s7 x7 n7 c7 y7 m7 d7 rfl hBX hb6 hge;obtain ⟨l0_,l1_,l2_⟩:=bk3 hBX;have ff:=hBX.frozen;have hl2:=hl.box hBX hx2 hx3;refine zD 10 ?_;simp only [zv,Act.put];refine wpAnyH_ready (rs:=[11]) (by kernel_rfl) (by simp) ?_;refine AllReadyH.cons (o:=_) rfl (fun K hK=>?_) ?_;rotate_left;exact AllReadyH.nil;go_simp;generalize (((w6.setCell ⟨bx7,0,none⟩ (.bool s7)).setCell ⟨bx7,1,none⟩ (.slice x7 n7 c7)).setCell ⟨bx7,2,none⟩ (.slice y7 m7 d7))=zF at *;have HA:=zk hl2;have HV:=zk (hq7.kp hx2);have B7:=zk hbk
  replace HB:=zJ HB hx1;replace BM:=zk (BM.out.q_ hx1);replace BA:=zk (BA.out.q_ hx1)
  refine hK.out _ _ ?_ (fun hHd=>?_)
  ·exact ⟨kCb hx1 hHeld.1,kCb hx1 hHeld.2.1,kCb hx1 hHeld.2.2.1,kCb hx1 hHeld.2.2.2.1,kCb hx1 hHeld.2.2.2.2.1,kCb hx1 hHeld.2.2.2.2.2.1,kCb hx1 hHeld.2.2.2.2.2.2.1,kCb hx1 hHeld.2.2.2.2.2.2.2.1,kCb hx1 hHeld.2.2.2.2.2.2.2.2⟩
  clear hK K;try simp only [zv,Act.put]
  refine zD 12 ?_;simp only [zv,Act.put];refine wpAnyH_done (by kernel_rfl) ?_ _;clear hHd hHeld hS6 hb6 hx1 hx2 hx3 hbk hl hl2 hq7 ff hBX hge l0_ l1_ l2_ CM T2;obtain ⟨r0,r1,r2,r3,r4⟩:=bk5 BM.out;obtain ⟨t0,t1,t2,t3⟩:=bk4 BA.out;go_wp2_with fail
  clear r0 r1 r2 r3 r4 t0 t1 t2 t3;refine (DC.out _ HB.out).mono ?_;rintro e v5 ⟨a7,n8,c7b,⟨s8,x8,n9,c8,f8,y8,m8,d8,g8⟩,hr,hb,HA2,HV2⟩;replace hr:e=.returned (.tuple #[.slice a7 n8 c7b,.agg #[.bool s8,.slice x8 n9 c8,.slice y8 m8 d8],.int .i64 ce]):=hr;subst hr;replace HB:=zJ HB hb;replace BM:=zk (BM.out.q_ hb);replace HA:=zk (HA.out.q_ hb);replace HV:=zk (HV.out.q_ hb);replace B7:=zk (B7.out.q_ hb)
  clear hb;clear DC BA;have hbn:=zB v5 (.cells #[.bool s8,.slice x8 n9 c8,.slice y8 m8 d8] 24);have B8:=zk (zI v5 [.bool s8,.slice x8 n9 c8,.slice y8 m8 d8] 24);replace HB:=zJ HB hbn;replace BM:=zk (BM.out.q_ hbn);replace HA:=zk (HA.out.q_ hbn);replace HV:=zk (HV.out.q_ hbn);replace B7:=zk (B7.out.q_ hbn);replace HA2:=zk (HA2.out.q_ hbn);replace HV2:=zk (HV2.out.q_ hbn)
  clear hbn;go_wp2_with fail
  generalize hbx8:v5.heap.size=bx8 at *;generalize v5.alloc (.cells #[.bool s8,.slice x8 n9 c8,.slice y8 m8 d8] 24)=v6 at *;clear hbx8;refine (zcy (ca:=lc9) (cb:=c7b) HA.out HA2.out HPL.out (by decide) (by decide)).mono ?_;rintro e v7 ⟨rfl,hb⟩;replace HB:=zJ HB hb;replace BM:=zk (BM.out.q_ hb);replace HV:=zk (HV.out.q_ hb);replace HV2:=zk (HV2.out.q_ hb);replace B7:=zk (B7.out.q_ hb);replace B8:=zk (B8.out.q_ hb)
  clear hb;clear HA HA2 HPL;obtain ⟨p0,p1,p2⟩:=bk3 B7.out;obtain ⟨q0,q1,q2⟩:=bk3 B8.out;go_wp2_with fail
  clear p0 p1 p2 q0 q1 q2 B7 B8;refine (zmE (t:=⟨s7,x7,n7,c7,f7,y7,m7,d7,g7⟩) (t2:=⟨s8,x8,n9,c8,f8,y8,m8,d8,g8⟩) HV.out HV2.out (by decide) (by decide)).mono ?_;rintro e v8 ⟨rfl,hb⟩;replace HB:=zJ HB hb;replace BM:=zk (BM.out.q_ hb)
  clear hb;clear HV HV2;have ze:(ce != ce)=false:=by simp
  obtain ⟨r0,r1,r2,r3,r4⟩:=bk5 BM.out;go_wp2_with fail
  clear r0 r1 r2 r3 r4 ze;refine (T1.out _ HB.out).mono ?_;rintro e v9 ⟨vm,M1,rfl,hb,H1⟩;replace HB:=zJ HB hb;replace BM:=zk (BM.out.q_ hb)
  clear hb;go_wp2_with fail
  refine (CX.out _ vm M1 H1.out).mono ?_;rintro e w1 ⟨a0,n0,c0,a1,n1,c1,a2,n2,c2,a3,n3,c3,rfl,hb,G0,G1,G2,G3⟩;replace HB:=zJ HB hb;replace BM:=zk (BM.out.q_ hb)
  clear hb;clear CX H1 T1;have hbn:=zB w1 (.cells #[.slice a0 n0 c0,.slice a1 n1 c1,.slice a2 n2 c2,.slice a3 n3 c3] 31);have BG:=zk (zI w1 [.slice a0 n0 c0,.slice a1 n1 c1,.slice a2 n2 c2,.slice a3 n3 c3] 31);replace HB:=zJ HB hbn;replace BM:=zk (BM.out.q_ hbn);replace G0:=zk (G0.out.q_ hbn);replace G1:=zk (G1.out.q_ hbn);replace G2:=zk (G2.out.q_ hbn);replace G3:=zk (G3.out.q_ hbn)
  clear hbn;obtain ⟨r0,r1,r2,r3,r4⟩:=bk5 BM.out;go_wp2_with fail
  clear r0 r1 r2 r3 r4;generalize hbg:w1.heap.size=bg at *;generalize w1.alloc (.cells #[.slice a0 n0 c0,.slice a1 n1 c1,.slice a2 n2 c2,.slice a3 n3 c3] 31)=w2 at *;clear hbg;refine (DX.out _ HB.out).mono ?_;rintro e w3 ⟨e0,m0,q0,e1,m1,q1,e2,m2,q2,e3,m3,q3,rfl,hb,J0,J1,J2,J3⟩;replace HB:=zJ HB hb;replace BM:=zk (BM.out.q_ hb);replace BG:=zk (BG.out.q_ hb);replace G0:=zk (G0.out.q_ hb);replace G1:=zk (G1.out.q_ hb);replace G2:=zk (G2.out.q_ hb);replace G3:=zk (G3.out.q_ hb)
  clear hb;clear DX;have hbn:=zB w3 (.cells #[.slice e0 m0 q0,.slice e1 m1 q1,.slice e2 m2 q2,.slice e3 m3 q3] 31);have BJ:=zk (zI w3 [.slice e0 m0 q0,.slice e1 m1 q1,.slice e2 m2 q2,.slice e3 m3 q3] 31);replace HB:=zJ HB hbn;replace BM:=zk (BM.out.q_ hbn);replace BG:=zk (BG.out.q_ hbn);replace G0:=zk (G0.out.q_ hbn);replace G1:=zk (G1.out.q_ hbn);replace G2:=zk (G2.out.q_ hbn);replace G3:=zk (G3.out.q_ hbn);replace J0:=zk (J0.out.q_ hbn);replace J1:=zk (J1.out.q_ hbn);replace J2:=zk (J2.out.q_ hbn);replace J3:=zk (J3.out.q_ hbn)
  clear hbn;obtain ⟨r0,r1,r2,r3⟩:=bk4 BG.out;obtain ⟨t0,t1,t2,t3⟩:=bk4 BJ.out;go_wp2_with fail
  clear r0 r1 r2 r3 t0 t1 t2 t3;generalize w3.alloc (.cells #[.slice e0 m0 q0,.slice e1 m1 q1,.slice e2 m2 q2,.slice e3 m3 q3] 31)=w4 at *;refine (zmF (c0:=c0) (c1:=c1) (c2:=c2) (c3:=c3) (d0:=q0) (d1:=q1) (d2:=q2) (d3:=q3) G0.out J0.out G1.out J1.out G2.out J2.out G3.out J3.out HLC.out (by decide)).mono ?_;rintro e w5 ⟨rfl,hb⟩;replace HB:=zJ HB hb;clear hb G0 G1 G2 G3 J0 J1 J2 J3 BG BJ BM;have ze:(cx==cx)=true:=by simp
  go_wp2;go_ret;exact ⟨by first | rfl | simp,HB.out⟩
end Go.Proofs.YtnlcjakjhmgenaaGreat
