/-
 Calls on twins whose numbers are of at most K limbs, by what they are twins of. The walks of law07's ints and of the law ModelChecks (written by makers/f34.py). The walks of the reference's check, DocFeasible and Is of a point, of Rec and DocRecedes (written by makers/re4.py). The walks of the reference's Valid and DocValid of a ray (written by makers/re5.py). The walk of the law RayChecks (written by makers/re6.py).
-/
import Derived.Test.YteiglggmaiohpaaGreatZ16
import Derived.Test.YteiglggmaiohpaaGreatZ0
import Derived.Test.YteiglggmaiohpaaGreatZ13
import Derived.BigQuiet
namespace Go.Proofs.YteiglggmaiohpaaGreat
open Go.RowKit
def ShK (K k:Nat) (X:Nat→Nm):Prop:=k≤300∧∀j,j<k→(X j).n≤K∧(X j).m≤K
theorem lgL_shK {K k:Nat} {X:Nat→Nm} (h:lgL K k X=true):ShK K k X:=by
 simp only [lgL,Bool.and_eq_true,decide_eq_true_eq] at h;exact ⟨h.1,fun j hj=>nlg_all h.2 j (by omega) (by omega)⟩
def TmK (K:Nat) (w:World) (M M':Mo):Prop:=Sm M M'∧MoW w M'∧MoX w M'∧(M'.ck≤64→M'.rk≤64→MoK K M')
theorem TmK.below {K w w' M M'} (h:TmK K w M M') (hb:Below w.heap.size w w'):TmK K w' M M':=⟨h.1,h.2.1.below hb,h.2.2.1.below hb,h.2.2.2⟩
theorem TmK.valL {K w M M'} (L:Nat) (hL:K≤L) (hK:K≤100) (h:TmK K w M M') (hN:MoN M) (he:chkE M=0):MoV L w M' (nq M.off) (csOf M) (rsOf M)∧mvOk (csOf M) (rsOf M)=true:=by
 obtain ⟨s,hw,hx,hk⟩:=h;have he':chkE M'=0:=s.chk.trans he;obtain ⟨l1,l2,_⟩:=chkE_ok he';have k6:=hk l1 l2;have:=(hx.mor (s.mon hN) k6 (by omega) l1 l2).movC (k6.up hL) he';rw [s.csOf,s.rsOf,s.off.nq] at this;exact this
theorem Tx.valK {K w ao k X X'} (h:Tx w ao k X X') (hs:ShK K k X) (ha:afB k X=true):Rf K w ao (psOf k X):=by
 rw [←psOf_sn h.2];refine h.1.rfC ?_ (fun j hj=>by rw [(h.2 j hj).2.1,(h.2 j hj).2.2.2.1];exact hs.2 j hj);exact (afr_sn (fun j _ b=>h.2 j (by omega))).trans ha
theorem pckE_twK {K w ao k X X' M M'} (h:TmK K w M M') (hx:Tx w ao k X X'):pckE M' k X'=pckE M k X:=by
 unfold pckE;rw [h.1.chk,h.1.ck];unfold pnE;rw [show afB k X'=afB k X from afr_sn (fun j _ b=>hx.2 j (by omega))]
theorem tw_hvK {K w ao k X X' M M'} (L:Nat) (hL:K≤L) (hK:K≤100) (h:TmK K w M M') (hN:MoN M) (hx:Tx w ao k X X') (hs:ShK K k X) (he:pckE M k X=0):MoV L w M' (nq M.off) (csOf M) (rsOf M)∧mvOk (csOf M) (rsOf M)=true∧Rf L w ao (psOf k X)∧(psOf k X).length=k∧k=(csOf M).length:=by
 obtain ⟨h1,h2,h3⟩:=pckE_two he;obtain ⟨a,b⟩:=h.valL L hL hK hN h1;exact ⟨a,b,(hx.valK hs h2).mono hL,psOf_len _ _,by rw [csOf_len];exact h3⟩
theorem twinTmK_c {K:Nat} {w:World} {M:Mo} (hX:MoX w M) (hN:MoN M) (hk:M.ck≤64→M.rk≤64→MoK K M) (hK:K≤100):Calls Tryz.prog 8 #[M.val] w fun e w'=>∃(vm:Value) (M':Mo),e=.returned vm∧Below w.heap.size w w'∧Hid (vm=M'.val∧TmK K w' M M') :=
 (twin_w (K:=K) hX hN hk (by omega)).mono fun e w' ⟨M',h1,h2,h3,h4,h5,h6⟩=>⟨M'.val,M',h1,h2,hid ⟨rfl,h3,h4,h5,h6⟩⟩
theorem twinsTxK_c {K:Nat} {w:World} {ao:Option Addr} {k cap:Nat} {X:Nat→Nm} (h:Rl w ao k X) (hs:ShK K k X) (hK:K≤100):Calls Tryz.prog 12 #[.slice ao k cap] w fun e w'=>∃(a:Option Addr) (c:Nat) (X':Nat→Nm),e=.returned (.slice a k c)∧Below w.heap.size w w'∧(k≤c∧c≤9223372036854775807)∧Hid (Tx w' a k X X') :=
 (twins_c h (by have:=hs.1;omega) (fun j hj=>by have:=hs.2 j hj;omega)).mono fun e w' ⟨a,c,X',h1,h2,h3,h4⟩=>⟨a,c,X',h1,h2,h3,hid h4.out⟩
theorem twinRayK_c {K:Nat} {w:World} {ax:Option Addr} {kx capx:Nat} {Y:Nat→Nm} {ao:Option Addr} {k cap:Nat} {X:Nat→Nm} (hy:Rl w ax kx Y) (sy:ShK K kx Y) (hx:Rl w ao k X) (sx:ShK K k X) (hK:K≤100):Calls Tryz.prog 9 #[.agg #[.slice ax kx capx,.slice ao k cap]] w fun e w'=>∃(b:Option Addr) (c1:Nat) (Y':Nat→Nm) (b2:Option Addr) (c2:Nat) (X':Nat→Nm),e=.returned (.agg #[.slice b kx c1,.slice b2 k c2])∧Below w.heap.size w w'∧Hid (Tx w' b kx Y Y'∧Tx w' b2 k X X') :=
 (twin13_c hy hx (by have:=sy.1;omega) (by have:=sx.1;omega) (fun j hj=>by have:=sy.2 j hj;omega) (fun j hj=>by have:=sx.2 j hj;omega)).mono fun e w' ⟨bx,cx,Y',bo,co,X',h1,h2,_,h4⟩=>⟨bx,cx,Y',bo,co,X',h1,h2,hid ⟨h4.out.1,h4.out.2⟩⟩
theorem recTwK_c {w:World} {M M':Mo} {ao:Option Addr} {k cap:Nat} {X X':Nat→Nm} (h:TmK 8 w M M') (hN:MoN M) (hx:Tx w ao k X X') (hs:ShK 8 k X) :
  Calls Tryz.prog 11 #[M'.val,.slice ao k cap] w fun e w'=>e=.returned (.tuple #[.bool (rcM M k X),.int .i64 (chkE M)])∧Below w.heap.size w w' :=
 rRec_v h.2.1 hx.1 (by have:=hs.1;omega) h.1.chk (pckE_twK h hx) (fun he=>tw_hvK 13 (by decide) (by decide) h hN hx hs he) (by decide)
theorem validTwK_c {w:World} {M M':Mo} {ax:Option Addr} {kx capx:Nat} {Y Y':Nat→Nm} {ao:Option Addr} {k cap:Nat} {X X':Nat→Nm} (h:TmK 8 w M M') (hN:MoN M) (hy:Tx w ax kx Y Y') (hsy:ShK 8 kx Y) (hx:Tx w ao k X X') (hs:ShK 8 k X) :
  Calls Tryz.prog 7 #[M'.val,.agg #[.slice ax kx capx,.slice ao k cap]] w fun e w'=>e=.returned (.tuple #[.bool (vlM M kx Y k X),.int .i64 (chkE M)])∧Below w.heap.size w w' :=
 rValid_v h.2.1 hx.1 (by have:=hs.1;omega) h.1.chk (pckE_twK h hx) (fun he=>tw_hvK 13 (by decide) (by decide) h hN hx hs he) (by decide) hy.1 (by have:=hsy.1;omega) (pckE_twK h hy) (fun he=>tw_hvK 13 (by decide) (by decide) h hN hy hsy he)
theorem nq_congr {t t':Nm} (h:Sn t t'):nq t'=nq t:=by
 obtain ⟨h1,h2,h3,h4,h5⟩:=h;unfold nq;rw [h1,h2,h3,h4,h5]
theorem Sm.crl {M M':Mo} (h:Sm M M'):crl (ccB M'.C) M'.ck=crl (ccB M.C) M.ck∧crl (rcB M'.R) M'.rk=crl (rcB M.R) M.rk:=by
 refine ⟨?_,?_⟩
 ·rw [crl_congr (B':=ccB M.C) (fun j hj=>?_),h.ck];rw [h.ck] at hj;have p:=h.C j hj;unfold ccB abvB;rw [p.li,p.hi,nq_congr p.lo,nq_congr p.hv]
 ·rw [crl_congr (B':=rcB M.R) (fun j hj=>?_),h.rk];rw [h.rk] at hj;have p:=h.R j hj;unfold rcB abvB;rw [p.li,p.hi,nq_congr p.lo,nq_congr p.hv]
structure In8 (w:World) (M:Mo):Prop where
 x:MoX w M
 n:MoN M
 c:MoC M
 k:M.ck≤64→M.rk≤64→MoK 8 M
theorem In8.below {w w' M} (h:In8 w M) (hb:Below w.heap.size w w'):In8 w' M:=⟨h.x.below hb,h.n,h.c,h.k⟩
theorem In8.val {w M} (h:In8 w M) (he:chkE M=0):MoV 8 w M (nq M.off) (csOf M) (rsOf M)∧mvOk (csOf M) (rsOf M)=true:=by
 obtain ⟨l1,l2,_⟩:=chkE_ok he;exact (h.x.mor h.n (h.k l1 l2) (by decide) l1 l2).movC (h.k l1 l2) he
theorem lsf_two (a b:Int):lsf (two a b) 2=lstep a b:=by
 simp [lsf,two,lstep]
theorem lstep_37 (e:Int):lstep (lstep e 3) 7=lstep e 3:=by
 unfold lstep;split <;> split <;> omega
theorem froms8_c {w:World} {ao:Option Addr} {k cap:Nat} {X:Nat→Nm} (hx:Rl w ao k X) (hs:ShK 8 k X) (ha:afB k X=true):Calls Tryz.prog 53 #[.slice ao k cap] w fun e w'=>∃aw cw,e=.returned (.slice aw k cw)∧Below w.heap.size w w'∧Hid (Rqs (2*8) w' aw (psOf k X)) :=
 (froms_c (L:=8) (p:=psOf k X) hx (by have:=hs.1;omega) (by decide) (psOf_len _ _) (fun j hj=>by
  obtain ⟨b,o,_,_,hn⟩:=hx j hj;exact ⟨nq (X j),range_get hj,NmS.val (K:=8) hn (afr_all ha j (by omega) (by omega)) (hs.2 j hj)⟩)).mono (by
   rintro e w' ⟨aw,cw,rfl,h1,_,h3⟩;exact ⟨aw,cw,rfl,h1,hid h3.out⟩)
theorem from8_c {w:World} {M:Mo} (h:In8 w M) (he:chkE M=0):Calls Tryz.prog 52 #[M.val] w fun e w'=>∃M':Mo,e=.returned M'.val∧Below w.heap.size w w'∧Hid (MqV (2*8) w' M' (nq M.off) (csOf M) (rsOf M)) :=
 (mFrom_c (h.val he).1 (by decide) (h.val he).2).mono (by
  rintro e w' ⟨M',h1,h2,h3⟩;exact ⟨M',h1,h2,hid h3⟩)
theorem pckE_0 {M:Mo} {k:Nat} {X:Nat→Nm} (he:chkE M=0):(pckE M k X=0)=(k=M.ck∧afB k X=true):=by
 apply propext;constructor
 ·intro h;obtain ⟨_,b,c⟩:=pckE_two h;exact ⟨c,b⟩
 ·rintro ⟨a,b⟩;exact pckE_ok he b a
set_option maxRecDepth 100000 in
set_option maxHeartbeats 4000000 in
theorem rCheck_c {w:World} {M:Mo} {ao:Option Addr} {k cap:Nat} {X:Nat→Nm} (hI:In8 w M) (hx:Rl w ao k X) (hs:ShK 8 k X) :
  Calls Tryz.prog 106 #[M.val,.slice ao k cap] w fun e w'=>e=.returned (.int .i64 (pckE M k X))∧Below w.heap.size w w':=by
 have CC:=hid (fun W (hW:Below w.heap.size w W)=>docCheck_w (w:=W) ((hI.x.below hW).both hI.n hI.k (by decide)) hI.c);have CF:=hid (fun W (hW:Below w.heap.size w W)=>forms_c (w:=W) (cap:=cap) (hx.below hW) (by have:=hs.1;omega) (fun j hj=>by have:=hs.2 j hj;omega));obtain ⟨ec,hec⟩:∃e,chkE M=e:=⟨_,rfl⟩;obtain ⟨bf,hbf⟩:∃e,afB k X=e:=⟨_,rfl⟩;unfold pckE pnE;rw [hec] at CC ⊢;rw [hbf] at CF ⊢;clear hI hx hs hec hbf;obtain ⟨⟨s,x,n,c,f,y,m,d,g⟩,ca,ck,cc,C,ra,rk,rc,R⟩:=M;replace CC:Hid (∀W,Below w.heap.size w W→Calls Tryz.prog 26 #[.agg #[.bool s,.slice x n c,.slice y m d,.slice ca ck cc,.slice ra rk rc]] W fun e w'=>e=.returned (.int .i64 ec)∧Below W.heap.size W w'):=CC;show Calls Tryz.prog 106 #[.agg #[.bool s,.slice x n c,.slice y m d,.slice ca ck cc,.slice ra rk rc],.slice ao k cap] w fun e w'=>e=.returned (.int .i64 (lsf (two ec (if bf=true then (if (k:Int)=(ck:Int) then 0 else 7) else 3)) 2))∧Below w.heap.size w w'
 rw [lsf_two];obtain ⟨er,her⟩:∃e,lstep ec (if bf=true then (if (k:Int)=(ck:Int) then 0 else 7) else 3)=e:=⟨_,rfl⟩;rw [her];have HE:=hid her;clear her;have HB:=hid (below_alloc (Below.refl w.heap.size w) (.cells #[.bool s,.slice x n c,.slice y m d,.slice ca ck cc,.slice ra rk rc] 28));have BM:Hid (Bk (w.alloc (.cells #[.bool s,.slice x n c,.slice y m d,.slice ca ck cc,.slice ra rk rc] 28)) w.heap.size [.bool s,.slice x n c,.slice y m d,.slice ca ck cc,.slice ra rk rc] 28):=bk_new w [.bool s,.slice x n c,.slice y m d,.slice ca ck cc,.slice ra rk rc] 28;go_enter Tryz.func106,Tryz.ntmps106;have r0:=BM.out.cell (j:=0) rfl;have r1:=BM.out.cell (j:=1) rfl;have r2:=BM.out.cell (j:=2) rfl;have r3:=BM.out.cell (j:=3) rfl;have r4:=BM.out.cell (j:=4) rfl;go_wp2_with fail
 clear r0 r1 r2 r3 r4;generalize (w.alloc (.cells #[.bool s,.slice x n c,.slice y m d,.slice ca ck cc,.slice ra rk rc] 28))=v0 at *;refine (CC.out _ HB.out).mono ?_;rintro e v1 ⟨rfl,hb⟩;replace HB:=hid (HB.out.trans (hb.mono HB.out.size));replace BM:=hid (BM.out.below hb)
 clear hb;go_wp2_with fail
 refine (CF.out _ HB.out).mono ?_;rintro e v2 ⟨rfl,hb⟩;replace HB:=hid (HB.out.trans (hb.mono HB.out.size));replace BM:=hid (BM.out.below hb)
 clear hb;clear CC CF;cases bf
 ·have h0:lstep ec 3=er:=HE.out;have hb:=below_alloc (Below.refl v2.heap.size v2) (.cells #[.int .i64 ec,.int .i64 3] 3);go_wp2_with fail
  refine (fLeast_c two_el (by decide)).mono ?_;rintro e w5 ⟨rfl,rfl⟩;replace HB:=hid (HB.out.trans (hb.mono HB.out.size));replace BM:=hid (BM.out.below hb)
  clear hb;generalize v2.alloc (.cells #[.int .i64 ec,.int .i64 3] 3)=v2' at *;rw [lsf_two,h0];have r3:=BM.out.cell (j:=3) rfl;by_cases hk:((k:Nat):Int)=((ck:Nat):Int)
  ·have hk':(((k:Nat):Int) != ((ck:Nat):Int))=false:=by simp [hk]
   go_wp2;go_ret;exact ⟨rfl,HB.out⟩
  ·have hk':(((k:Nat):Int) != ((ck:Nat):Int))=true:=by simpa using hk
   have h1:lstep er 7=er:=by rw [←h0];exact lstep_37 ec
   have hb:=below_alloc (Below.refl v2'.heap.size v2') (.cells #[.int .i64 er,.int .i64 7] 3);go_wp2_with fail
   refine (fLeast_c two_el (by decide)).mono ?_;rintro e w5 ⟨rfl,rfl⟩;replace HB:=hid (HB.out.trans (hb.mono HB.out.size));replace BM:=hid (BM.out.below hb)
   clear hb;generalize v2'.alloc (.cells #[.int .i64 er,.int .i64 7] 3)=v2'' at *;rw [lsf_two,h1];go_wp2;go_ret;exact ⟨rfl,HB.out⟩
 ·have h0:lstep ec (if (k:Int)=(ck:Int) then 0 else 7)=er:=HE.out;have r3:=BM.out.cell (j:=3) rfl;by_cases hk:((k:Nat):Int)=((ck:Nat):Int)
  ·have hk':(((k:Nat):Int) != ((ck:Nat):Int))=false:=by simp [hk]
   have h9:lstep ec 0=ec:=by unfold lstep;split <;> omega
   rw [if_pos hk,h9] at h0;subst h0;clear h9;go_wp2;go_ret;exact ⟨rfl,HB.out⟩
  ·have hk':(((k:Nat):Int) != ((ck:Nat):Int))=true:=by simpa using hk
   rw [if_neg hk] at h0;have hb:=below_alloc (Below.refl v2.heap.size v2) (.cells #[.int .i64 ec,.int .i64 7] 3);go_wp2_with fail
   refine (fLeast_c two_el (by decide)).mono ?_;rintro e w5 ⟨rfl,rfl⟩;replace HB:=hid (HB.out.trans (hb.mono HB.out.size));replace BM:=hid (BM.out.below hb)
   clear hb;generalize v2.alloc (.cells #[.int .i64 ec,.int .i64 7] 3)=v2' at *;rw [lsf_two,h0];go_wp2;go_ret;exact ⟨rfl,HB.out⟩
def feM (M:Mo) (k:Nat) (X:Nat→Nm):Bool:=decide (pckE M k X=0) && feasB (csOf M) (rsOf M) (psOf k X)
set_option maxRecDepth 100000 in
set_option maxHeartbeats 4000000 in
theorem docFeas_c {w:World} {M:Mo} {ao:Option Addr} {k cap:Nat} {X:Nat→Nm} (hI:In8 w M) (hx:Rl w ao k X) (hs:ShK 8 k X) :
  Calls Tryz.prog 77 #[M.val,.slice ao k cap] w fun e w'=>e=.returned (.tuple #[.bool (feM M k X),.int .i64 (pckE M k X)])∧Below w.heap.size w w':=by
 have CC:=hid (fun W (hW:Below w.heap.size w W)=>rCheck_c (cap:=cap) (hI.below hW) (hx.below hW) hs);obtain ⟨er,her⟩:∃e,pckE M k X=e:=⟨_,rfl⟩;have CX:=hid (fun (h0:er=0) W (hW:Below w.heap.size w W)=>froms8_c (cap:=cap) (hx.below hW) hs (pckE_two (her.trans h0)).2.1);have CM:=hid (fun (h0:er=0) W (hW:Below w.heap.size w W)=>from8_c (hI.below hW) (pckE_two (her.trans h0)).1);obtain ⟨fe,hfe⟩:∃e,feasB (csOf M) (rsOf M) (psOf k X)=e:=⟨_,rfl⟩;have CF:Hid (er=0→∀W (M':Mo) a c,MqV (2*8) W M' (nq M.off) (csOf M) (rsOf M)→Rqs (2*8) W a (psOf k X)→Calls Tryz.prog 107 #[M'.val,.slice a k c] W fun e w'=>e=.returned (.bool fe)∧Below W.heap.size W w'):=fun h0 W M' a c h1 h2=>by
  have h3:=pckE_two (her.trans h0);have:=rFeas_c (cap:=c) h1 h2 (psOf_len _ _) (by rw [csOf_len];exact h3.2.2) (mvOk_p (hI.val h3.1).2) (by decide);rw [←feasB_all,hfe] at this;exact this
 unfold feM;rw [her,hfe];rw [her] at CC;obtain ⟨cs,hcs⟩:∃e,csOf M=e:=⟨_,rfl⟩;obtain ⟨rs,hrs⟩:∃e,rsOf M=e:=⟨_,rfl⟩;obtain ⟨of,hof⟩:∃e,nq M.off=e:=⟨_,rfl⟩;rw [hcs,hrs,hof] at CF;simp only [hcs,hrs,hof] at CM;clear hI hx hs her hfe hcs hrs hof;obtain ⟨⟨s,x,n,c,f,y,m,d,g⟩,ca,ck,cc,C,ra,rk,rc,R⟩:=M;replace CC:Hid (∀W,Below w.heap.size w W→Calls Tryz.prog 106 #[.agg #[.bool s,.slice x n c,.slice y m d,.slice ca ck cc,.slice ra rk rc],.slice ao k cap] W fun e w'=>e=.returned (.int .i64 er)∧Below W.heap.size W w'):=CC;replace CM:Hid (er=0→∀W,Below w.heap.size w W→Calls Tryz.prog 52 #[.agg #[.bool s,.slice x n c,.slice y m d,.slice ca ck cc,.slice ra rk rc]] W fun e w'=>∃M':Mo,e=.returned M'.val∧Below W.heap.size W w'∧Hid (MqV (2*8) w' M' of cs rs)):=CM;show Calls Tryz.prog 77 #[.agg #[.bool s,.slice x n c,.slice y m d,.slice ca ck cc,.slice ra rk rc],.slice ao k cap] w _;have HB:=hid (below_alloc (Below.refl w.heap.size w) (.cells #[.bool s,.slice x n c,.slice y m d,.slice ca ck cc,.slice ra rk rc] 28));have BM:Hid (Bk (w.alloc (.cells #[.bool s,.slice x n c,.slice y m d,.slice ca ck cc,.slice ra rk rc] 28)) w.heap.size [.bool s,.slice x n c,.slice y m d,.slice ca ck cc,.slice ra rk rc] 28):=bk_new w [.bool s,.slice x n c,.slice y m d,.slice ca ck cc,.slice ra rk rc] 28;go_enter Tryz.func77,Tryz.ntmps77;have r0:=BM.out.cell (j:=0) rfl;have r1:=BM.out.cell (j:=1) rfl;have r2:=BM.out.cell (j:=2) rfl;have r3:=BM.out.cell (j:=3) rfl;have r4:=BM.out.cell (j:=4) rfl;go_wp2_with fail
 clear r0 r1 r2 r3 r4;generalize (w.alloc (.cells #[.bool s,.slice x n c,.slice y m d,.slice ca ck cc,.slice ra rk rc] 28))=v0 at *;refine (CC.out _ HB.out).mono ?_;rintro e v1 ⟨rfl,hb⟩;replace HB:=hid (HB.out.trans (hb.mono HB.out.size));replace BM:=hid (BM.out.below hb)
 clear hb;clear CC;by_cases h0:er=0
 case neg =>
  have h1:(er != 0)=true:=by simpa using h0
  have h2:decide (er=0)=false:=decide_eq_false h0;clear CX CM CF h0;go_wp2
  go_ret2
  exact ⟨by rw [h2];rfl,HB.out⟩
 subst h0;have r0:=BM.out.cell (j:=0) rfl;have r1:=BM.out.cell (j:=1) rfl;have r2:=BM.out.cell (j:=2) rfl;have r3:=BM.out.cell (j:=3) rfl;have r4:=BM.out.cell (j:=4) rfl;go_wp2_with fail
 clear r0 r1 r2 r3 r4;refine (CM.out (by first | rfl | trivial) _ HB.out).mono ?_;rintro e v2 ⟨M',rfl,hb,HM⟩;replace HB:=hid (HB.out.trans (hb.mono HB.out.size));replace BM:=hid (BM.out.below hb)
 clear hb;go_wp2_with fail
 refine (CX.out (by first | rfl | trivial) _ HB.out).mono ?_;rintro e v3 ⟨a3,c3,rfl,hb,H3⟩;replace HM:=hid (HM.out.below hb);replace HB:=hid (HB.out.trans (hb.mono HB.out.size));replace BM:=hid (BM.out.below hb)
 clear hb;go_wp2_with fail
 refine (CF.out (by first | rfl | trivial) _ M' a3 c3 HM.out H3.out).mono ?_;rintro e v4 ⟨rfl,hb⟩;replace HB:=hid (HB.out.trans (hb.mono HB.out.size));replace BM:=hid (BM.out.below hb)
 clear hb;clear CM CX CF HM H3;go_wp2
 go_ret2
 exact ⟨by simp,HB.out⟩
set_option maxRecDepth 100000 in
set_option maxHeartbeats 4000000 in
theorem docIs_c {w:World} {M:Mo} {ao:Option Addr} {k cap:Nat} {X:Nat→Nm} (hI:In8 w M) (hx:Rl w ao k X) (hs:ShK 8 k X) :
  Calls Tryz.prog 49 #[M.val,.slice ao k cap] w fun e w'=>e=.returned (.bool (feM M k X))∧Below w.heap.size w w':=by
 have CC:=hid (fun W (hW:Below w.heap.size w W)=>docFeas_c (cap:=cap) (hI.below hW) (hx.below hW) hs);obtain ⟨er,her⟩:∃e,pckE M k X=e:=⟨_,rfl⟩;obtain ⟨fe,hfe⟩:∃e,feM M k X=e:=⟨_,rfl⟩;have HE:Hid (er≠0→fe=false):=fun h=>by rw [←hfe,feM,her,decide_eq_false h];rfl
 rw [her,hfe] at CC;rw [hfe];clear hI hx hs her hfe;obtain ⟨⟨s,x,n,c,f,y,m,d,g⟩,ca,ck,cc,C,ra,rk,rc,R⟩:=M;replace CC:Hid (∀W,Below w.heap.size w W→Calls Tryz.prog 77 #[.agg #[.bool s,.slice x n c,.slice y m d,.slice ca ck cc,.slice ra rk rc],.slice ao k cap] W fun e w'=>e=.returned (.tuple #[.bool fe,.int .i64 er])∧Below W.heap.size W w'):=CC;show Calls Tryz.prog 49 #[.agg #[.bool s,.slice x n c,.slice y m d,.slice ca ck cc,.slice ra rk rc],.slice ao k cap] w _;have HB:=hid (below_alloc (Below.refl w.heap.size w) (.cells #[.bool s,.slice x n c,.slice y m d,.slice ca ck cc,.slice ra rk rc] 28));have BM:Hid (Bk (w.alloc (.cells #[.bool s,.slice x n c,.slice y m d,.slice ca ck cc,.slice ra rk rc] 28)) w.heap.size [.bool s,.slice x n c,.slice y m d,.slice ca ck cc,.slice ra rk rc] 28):=bk_new w [.bool s,.slice x n c,.slice y m d,.slice ca ck cc,.slice ra rk rc] 28;go_enter Tryz.func49,Tryz.ntmps49;have r0:=BM.out.cell (j:=0) rfl;have r1:=BM.out.cell (j:=1) rfl;have r2:=BM.out.cell (j:=2) rfl;have r3:=BM.out.cell (j:=3) rfl;have r4:=BM.out.cell (j:=4) rfl;go_wp2_with fail
 clear r0 r1 r2 r3 r4;generalize (w.alloc (.cells #[.bool s,.slice x n c,.slice y m d,.slice ca ck cc,.slice ra rk rc] 28))=v0 at *;refine (CC.out _ HB.out).mono ?_;rintro e v1 ⟨rfl,hb⟩;replace HB:=hid (HB.out.trans (hb.mono HB.out.size));replace BM:=hid (BM.out.below hb)
 clear hb;clear CC;by_cases h0:er=0
 ·have h1:decide (er=0)=true:=decide_eq_true h0;go_wp2;go_ret;exact ⟨by first | rfl | simp,HB.out⟩
 ·have h1:decide (er=0)=false:=decide_eq_false h0;have h2:=HE.out h0;subst h2;go_wp2;go_ret;exact ⟨by first | rfl | simp,HB.out⟩
set_option maxRecDepth 100000 in
set_option maxHeartbeats 4000000 in
theorem docRec_c {w:World} {M:Mo} {ao:Option Addr} {k cap:Nat} {X:Nat→Nm} (hI:In8 w M) (h0:chkE M=0) (hx:Rl w ao k X) (hs:ShK 8 k X) :
  Calls Tryz.prog 31 #[M.val,.slice ao k cap] w fun e w'=>e=.returned (.bool (rcM M k X))∧Below w.heap.size w w':=by
 have CF:=hid (fun W (hW:Below w.heap.size w W)=>forms_c (w:=W) (cap:=cap) (hx.below hW) (by have:=hs.1;omega) (fun j hj=>by have:=hs.2 j hj;omega));obtain ⟨bf,hbf⟩:∃e,afB k X=e:=⟨_,rfl⟩;have CX:=hid (fun (hb:bf=true) W (hW:Below w.heap.size w W)=>froms8_c (cap:=cap) (hx.below hW) hs (hbf.trans hb));have CM:=hid (fun W (hW:Below w.heap.size w W)=>from8_c (hI.below hW) h0);obtain ⟨fe,hfe⟩:∃e,endB (csOf M) (rsOf M) (psOf k X) ((rsOf M).map (actQ (psOf k X)))=e:=⟨_,rfl⟩;have CR:Hid (k=M.ck→∀W (M':Mo) a c,MqV (2*8) W M' (nq M.off) (csOf M) (rsOf M)→Rqs (2*8) W a (psOf k X)→Calls Tryz.prog 63 #[M'.val,.slice a k c] W fun e w'=>e=.returned (.bool fe)∧Below W.heap.size W w'):=fun hk W M' a c h1 h2=>by
  have:=rRecd_c (cap:=c) h1 h2 (psOf_len _ _) (by rw [csOf_len];exact hk) (mvOk_p (hI.val h0).2) (by decide);rw [show (allB (fcB (csOf M) (psOf k X)) (csOf M).length && allB (frwB (rsOf M) ((rsOf M).map (actQ (psOf k X)))) (rsOf M).length)=fe from hfe] at this;exact this
 obtain ⟨rr,hrr⟩:∃e,rcM M k X=e:=⟨_,rfl⟩;rw [hrr];have HE:Hid ((decide (k=M.ck) && (bf && fe))=rr):=by
  show _=_;rw [←hrr];unfold rcM recB;rw [h0,hfe,decide_eq_true rfl,Bool.true_and];rw [show decide (pckE M k X=0)=decide (k=M.ck∧afB k X=true) from by rw [decide_eq_decide,pckE_0 h0],hbf];rw [Bool.decide_and,Bool.decide_eq_true,Bool.and_assoc]
 rw [hbf] at CF;obtain ⟨cs,hcs⟩:∃e,csOf M=e:=⟨_,rfl⟩;obtain ⟨rs,hrs⟩:∃e,rsOf M=e:=⟨_,rfl⟩;obtain ⟨of,hof⟩:∃e,nq M.off=e:=⟨_,rfl⟩;rw [hcs,hrs,hof] at CR;simp only [hcs,hrs,hof] at CM;clear hI hx hs h0 hfe hcs hrs hof hbf hrr;obtain ⟨⟨s,x,n,c,f,y,m,d,g⟩,ca,ck,cc,C,ra,rk,rc,R⟩:=M;replace CM:Hid (∀W,Below w.heap.size w W→Calls Tryz.prog 52 #[.agg #[.bool s,.slice x n c,.slice y m d,.slice ca ck cc,.slice ra rk rc]] W fun e w'=>∃M':Mo,e=.returned M'.val∧Below W.heap.size W w'∧Hid (MqV (2*8) w' M' of cs rs)):=CM;replace CR:Hid (k=ck→∀W (M':Mo) a c,MqV (2*8) W M' of cs rs→Rqs (2*8) W a (psOf k X)→Calls Tryz.prog 63 #[M'.val,.slice a k c] W fun e w'=>e=.returned (.bool fe)∧Below W.heap.size W w'):=CR;replace HE:Hid ((decide (k=ck) && (bf && fe))=rr):=HE;show Calls Tryz.prog 31 #[.agg #[.bool s,.slice x n c,.slice y m d,.slice ca ck cc,.slice ra rk rc],.slice ao k cap] w _;have HB:=hid (below_alloc (Below.refl w.heap.size w) (.cells #[.bool s,.slice x n c,.slice y m d,.slice ca ck cc,.slice ra rk rc] 28));have BM:Hid (Bk (w.alloc (.cells #[.bool s,.slice x n c,.slice y m d,.slice ca ck cc,.slice ra rk rc] 28)) w.heap.size [.bool s,.slice x n c,.slice y m d,.slice ca ck cc,.slice ra rk rc] 28):=bk_new w [.bool s,.slice x n c,.slice y m d,.slice ca ck cc,.slice ra rk rc] 28;by_cases hk:k=ck
 case neg =>
  have hk':(((k:Nat):Int)==((ck:Nat):Int))=false:=beq_eq_false_iff_ne.2 (by omega);have h9:rr=false:=by rw [←HE.out,decide_eq_false hk];rfl
  subst h9;go_enter Tryz.func31,Tryz.ntmps31;have r3:=BM.out.cell (j:=3) rfl;go_wp2;go_ret;exact ⟨by first | rfl | simp,HB.out⟩
 have hk':(((k:Nat):Int)==((ck:Nat):Int))=true:=beq_iff_eq.2 (by omega);have HK:=hid hk;replace HE:Hid ((bf && fe)=rr):=by
  show _=_;rw [←HE.out,decide_eq_true hk];rfl
 clear hk;have HB:=hid (below_alloc (Below.refl w.heap.size w) (.cells #[.bool s,.slice x n c,.slice y m d,.slice ca ck cc,.slice ra rk rc] 28));have BM:Hid (Bk (w.alloc (.cells #[.bool s,.slice x n c,.slice y m d,.slice ca ck cc,.slice ra rk rc] 28)) w.heap.size [.bool s,.slice x n c,.slice y m d,.slice ca ck cc,.slice ra rk rc] 28):=bk_new w [.bool s,.slice x n c,.slice y m d,.slice ca ck cc,.slice ra rk rc] 28;go_enter Tryz.func31,Tryz.ntmps31;have r0:=BM.out.cell (j:=0) rfl;have r1:=BM.out.cell (j:=1) rfl;have r2:=BM.out.cell (j:=2) rfl;have r3:=BM.out.cell (j:=3) rfl;have r4:=BM.out.cell (j:=4) rfl;go_wp2_with fail
 clear r0 r1 r2 r3 r4;generalize (w.alloc (.cells #[.bool s,.slice x n c,.slice y m d,.slice ca ck cc,.slice ra rk rc] 28))=v0 at *;refine (CF.out _ HB.out).mono ?_;rintro e v1 ⟨rfl,hb⟩;replace HB:=hid (HB.out.trans (hb.mono HB.out.size));replace BM:=hid (BM.out.below hb)
 clear hb;clear CF;cases bf
 ·have h9:rr=false:=HE.out.symm;subst h9;go_wp2;go_ret;exact ⟨by first | rfl | simp,HB.out⟩
 have h9:fe=rr:=HE.out;subst h9;have r0:=BM.out.cell (j:=0) rfl;have r1:=BM.out.cell (j:=1) rfl;have r2:=BM.out.cell (j:=2) rfl;have r3:=BM.out.cell (j:=3) rfl;have r4:=BM.out.cell (j:=4) rfl;go_wp2_with fail
 clear r0 r1 r2 r3 r4;refine (CM.out _ HB.out).mono ?_;rintro e v2 ⟨M',rfl,hb,HM⟩;replace HB:=hid (HB.out.trans (hb.mono HB.out.size));replace BM:=hid (BM.out.below hb)
 clear hb;go_wp2_with fail
 refine (CX.out (by first | rfl | trivial) _ HB.out).mono ?_;rintro e v3 ⟨a3,c3,rfl,hb,H3⟩;replace HM:=hid (HM.out.below hb);replace HB:=hid (HB.out.trans (hb.mono HB.out.size));replace BM:=hid (BM.out.below hb)
 clear hb;go_wp2_with fail
 refine (CR.out HK.out _ M' a3 c3 HM.out H3.out).mono ?_;rintro e v4 ⟨rfl,hb⟩;replace HB:=hid (HB.out.trans (hb.mono HB.out.size));replace BM:=hid (BM.out.below hb)
 clear hb;clear CM CX CR HM H3;go_wp2;go_ret;exact ⟨by first | rfl | simp,HB.out⟩
set_option maxRecDepth 100000 in
set_option maxHeartbeats 4000000 in
theorem docRecedes_c {w:World} {M:Mo} {ao:Option Addr} {k cap:Nat} {X:Nat→Nm} (hI:In8 w M) (hx:Rl w ao k X) (hs:ShK 8 k X) :
  Calls Tryz.prog 13 #[M.val,.slice ao k cap] w fun e w'=>e=.returned (.tuple #[.bool (rcM M k X),.int .i64 (chkE M)])∧Below w.heap.size w w':=by
 have CC:=hid (fun W (hW:Below w.heap.size w W)=>docCheck_w (w:=W) ((hI.x.below hW).both hI.n hI.k (by decide)) hI.c);obtain ⟨er,her⟩:∃e,chkE M=e:=⟨_,rfl⟩;obtain ⟨rr,hrr⟩:∃e,rcM M k X=e:=⟨_,rfl⟩;have CR:Hid (er=0→∀W,Below w.heap.size w W→Calls Tryz.prog 31 #[M.val,.slice ao k cap] W fun e w'=>e=.returned (.bool rr)∧Below W.heap.size W w'):=fun h0 W hW=>by
  have:=docRec_c (cap:=cap) (hI.below hW) (her.trans h0) (hx.below hW) hs;rw [hrr] at this;exact this
 have HE:Hid (er≠0→rr=false):=fun h=>by rw [←hrr];unfold rcM recB;rw [her,decide_eq_false h];rfl
 rw [her,hrr];rw [her] at CC;clear hI hx hs her hrr;obtain ⟨⟨s,x,n,c,f,y,m,d,g⟩,ca,ck,cc,C,ra,rk,rc,R⟩:=M;replace CC:Hid (∀W,Below w.heap.size w W→Calls Tryz.prog 26 #[.agg #[.bool s,.slice x n c,.slice y m d,.slice ca ck cc,.slice ra rk rc]] W fun e w'=>e=.returned (.int .i64 er)∧Below W.heap.size W w'):=CC;replace CR:Hid (er=0→∀W,Below w.heap.size w W→Calls Tryz.prog 31 #[.agg #[.bool s,.slice x n c,.slice y m d,.slice ca ck cc,.slice ra rk rc],.slice ao k cap] W fun e w'=>e=.returned (.bool rr)∧Below W.heap.size W w'):=CR;show Calls Tryz.prog 13 #[.agg #[.bool s,.slice x n c,.slice y m d,.slice ca ck cc,.slice ra rk rc],.slice ao k cap] w _;have HB:=hid (below_alloc (Below.refl w.heap.size w) (.cells #[.bool s,.slice x n c,.slice y m d,.slice ca ck cc,.slice ra rk rc] 28));have BM:Hid (Bk (w.alloc (.cells #[.bool s,.slice x n c,.slice y m d,.slice ca ck cc,.slice ra rk rc] 28)) w.heap.size [.bool s,.slice x n c,.slice y m d,.slice ca ck cc,.slice ra rk rc] 28):=bk_new w [.bool s,.slice x n c,.slice y m d,.slice ca ck cc,.slice ra rk rc] 28;go_enter Tryz.func13,Tryz.ntmps13;have r0:=BM.out.cell (j:=0) rfl;have r1:=BM.out.cell (j:=1) rfl;have r2:=BM.out.cell (j:=2) rfl;have r3:=BM.out.cell (j:=3) rfl;have r4:=BM.out.cell (j:=4) rfl;go_wp2_with fail
 clear r0 r1 r2 r3 r4;generalize (w.alloc (.cells #[.bool s,.slice x n c,.slice y m d,.slice ca ck cc,.slice ra rk rc] 28))=v0 at *;refine (CC.out _ HB.out).mono ?_;rintro e v1 ⟨rfl,hb⟩;replace HB:=hid (HB.out.trans (hb.mono HB.out.size));replace BM:=hid (BM.out.below hb)
 clear hb;clear CC;by_cases h0:er=0
 case neg =>
  have h1:(er != 0)=true:=by simpa using h0
  have h2:=HE.out h0;subst h2;clear CR h0;go_wp2
  go_ret2
  exact ⟨rfl,HB.out⟩
 subst h0;have r0:=BM.out.cell (j:=0) rfl;have r1:=BM.out.cell (j:=1) rfl;have r2:=BM.out.cell (j:=2) rfl;have r3:=BM.out.cell (j:=3) rfl;have r4:=BM.out.cell (j:=4) rfl;go_wp2_with fail
 clear r0 r1 r2 r3 r4;refine (CR.out (by first | rfl | trivial) _ HB.out).mono ?_;rintro e v2 ⟨rfl,hb⟩;replace HB:=hid (HB.out.trans (hb.mono HB.out.size));replace BM:=hid (BM.out.below hb)
 clear hb;clear CR HE;go_wp2
 go_ret2
 exact ⟨rfl,HB.out⟩
set_option maxRecDepth 100000 in
set_option maxHeartbeats 8000000 in
theorem docVal_c {w:World} {M:Mo} {ax:Option Addr} {kx capx:Nat} {Y:Nat→Nm} {ao:Option Addr} {k cap:Nat} {X:Nat→Nm} (hI:In8 w M) (h0:chkE M=0) (hy:Rl w ax kx Y) (hsy:ShK 8 kx Y) (hx:Rl w ao k X) (hs:ShK 8 k X) :
  Calls Tryz.prog 27 #[M.val,.agg #[.slice ax kx capx,.slice ao k cap]] w fun e w'=>e=.returned (.bool (vlM M kx Y k X))∧Below w.heap.size w w':=by
 have CR:=hid (fun W (hW:Below w.heap.size w W)=>docRec_c (cap:=cap) (hI.below hW) h0 (hx.below hW) hs);have CI:=hid (fun W (hW:Below w.heap.size w W)=>docIs_c (cap:=capx) (hI.below hW) (hy.below hW) hsy);have CM:=hid (fun W (hW:Below w.heap.size w W)=>from8_c (hI.below hW) h0);obtain ⟨rr,hrr⟩:∃e,rcM M k X=e:=⟨_,rfl⟩;obtain ⟨fe,hfe⟩:∃e,feM M kx Y=e:=⟨_,rfl⟩;obtain ⟨sl,hsl⟩:∃e,decide (slpQ (csOf M) (psOf k X)<0)=e:=⟨_,rfl⟩;have hp:rr=true→pckE M k X=0:=fun h=>by
  rw [←hrr] at h;unfold rcM at h;simp only [recB,Bool.and_eq_true,decide_eq_true_eq] at h;exact h.2.1
 have CX:=hid (fun (h:rr=true) W (hW:Below w.heap.size w W)=>froms8_c (cap:=cap) (hx.below hW) hs (pckE_two (hp h)).2.1);have CC:Hid (rr=true→∀W (M':Mo) a c,MqV (2*8) W M' (nq M.off) (csOf M) (rsOf M)→Rqs (2*8) W a (psOf k X)→Calls Tryz.prog 51 #[M'.val,.slice a k c] W fun e w'=>∃t:Nm,e=.returned t.val∧Below W.heap.size W w'∧Hid (t.n≤KE 8∧Qn w' t.s t.x t.n t.f t.y t.m t.g (slpQ (csOf M) (psOf k X)))):=fun h W M' a c h1 h2=>by
  have h3:=pckE_two (hp h);refine (rCosts_c (cx:=c) h1 h2 (psOf_len _ _) (by rw [csOf_len];exact h3.2.2) (mvOk_p (hI.val h0).2) (by decide)).mono ?_;rintro e w' ⟨s,x,n,c,d,y,m,c',g,rfl,k2,k3,k4,k5⟩;exact ⟨⟨s,x,n,c,d,y,m,c',g⟩,rfl,k2,hid ⟨k3,k5⟩⟩
 obtain ⟨sq,hsq⟩:∃e,slpQ (csOf M) (psOf k X)=e:=⟨_,rfl⟩;have CS:Hid (∀W (t:Nm),(t.n≤KE 8∧Qn W t.s t.x t.n t.f t.y t.m t.g sq)→Calls Tryz.prog 50 #[t.val] W fun e w'=>∃c,e=.returned (.int .i64 c)∧Below W.heap.size W w'∧Hid (decide (c<0)=sl)):=fun W t h=>(qSign_c (c:=t.c) (e:=t.d) h.2 (Nat.le_trans h.1 (by decide))).mono (by
  rintro e w' ⟨c,rfl,h1,h2⟩;refine ⟨c,rfl,h1,hid ?_⟩;have hn:(sq.num<0 ↔ sq<0):=by
   have h3:=@Rat.num_nonneg sq;constructor
   ·intro h;exact Rat.not_le.1 (fun h4=>by have:=h3.2 h4;omega)
   ·intro h;rcases Int.lt_or_le sq.num 0 with h4 | h4
    ·exact h4
    ·exact absurd (h3.1 h4) (Rat.not_le.2 h)
  rw [←hsl,hsq,decide_eq_decide,←hn];rcases h2 with ⟨a,b⟩ | ⟨a,b⟩ | ⟨a,b⟩ <;> omega)
 have hv:vlM M kx Y k X=(rr && (fe && sl)):=by
  unfold vlM valB;rw [←hrr,←hfe,←hsl];rfl
 rw [hv];rw [hsq] at CC;rw [hrr] at CR;rw [hfe] at CI;obtain ⟨cs,hcs⟩:∃e,csOf M=e:=⟨_,rfl⟩;obtain ⟨rs,hrs⟩:∃e,rsOf M=e:=⟨_,rfl⟩;obtain ⟨of,hof⟩:∃e,nq M.off=e:=⟨_,rfl⟩;rw [hcs,hrs,hof] at CC;simp only [hcs,hrs,hof] at CM;clear hI hx hs hy hsy h0 hcs hrs hof hrr hfe hsl hsq hp hv;obtain ⟨⟨s,x,n,c,f,y,m,d,g⟩,ca,ck,cc,C,ra,rk,rc,R⟩:=M;replace CR:Hid (∀W,Below w.heap.size w W→Calls Tryz.prog 31 #[.agg #[.bool s,.slice x n c,.slice y m d,.slice ca ck cc,.slice ra rk rc],.slice ao k cap] W fun e w'=>e=.returned (.bool rr)∧Below W.heap.size W w'):=CR;replace CI:Hid (∀W,Below w.heap.size w W→Calls Tryz.prog 49 #[.agg #[.bool s,.slice x n c,.slice y m d,.slice ca ck cc,.slice ra rk rc],.slice ax kx capx] W fun e w'=>e=.returned (.bool fe)∧Below W.heap.size W w'):=CI;replace CM:Hid (∀W,Below w.heap.size w W→Calls Tryz.prog 52 #[.agg #[.bool s,.slice x n c,.slice y m d,.slice ca ck cc,.slice ra rk rc]] W fun e w'=>∃M':Mo,e=.returned M'.val∧Below W.heap.size W w'∧Hid (MqV (2*8) w' M' of cs rs)):=CM;show Calls Tryz.prog 27 #[.agg #[.bool s,.slice x n c,.slice y m d,.slice ca ck cc,.slice ra rk rc],.agg #[.slice ax kx capx,.slice ao k cap]] w _;have HB:=hid (below_alloc (below_alloc (Below.refl w.heap.size w) (.cells #[.bool s,.slice x n c,.slice y m d,.slice ca ck cc,.slice ra rk rc] 28)) (.cells #[.slice ax kx capx,.slice ao k cap] 31));have BM:Hid (Bk ((w.alloc (.cells #[.bool s,.slice x n c,.slice y m d,.slice ca ck cc,.slice ra rk rc] 28)).alloc (.cells #[.slice ax kx capx,.slice ao k cap] 31)) w.heap.size [.bool s,.slice x n c,.slice y m d,.slice ca ck cc,.slice ra rk rc] 28):=(bk_new w [.bool s,.slice x n c,.slice y m d,.slice ca ck cc,.slice ra rk rc] 28).below (below_alloc (Below.refl _ _) _);have BA:Hid (Bk ((w.alloc (.cells #[.bool s,.slice x n c,.slice y m d,.slice ca ck cc,.slice ra rk rc] 28)).alloc (.cells #[.slice ax kx capx,.slice ao k cap] 31)) (w.heap.size+1) [.slice ax kx capx,.slice ao k cap] 31):=by
  have:=bk_new (w.alloc (.cells #[.bool s,.slice x n c,.slice y m d,.slice ca ck cc,.slice ra rk rc] 28)) [.slice ax kx capx,.slice ao k cap] 31;rw [size_alloc1] at this;exact this
 go_enter Tryz.func27,Tryz.ntmps27;go_upto_region 1 with fail
 generalize ((w.alloc (.cells #[.bool s,.slice x n c,.slice y m d,.slice ca ck cc,.slice ra rk rc] 28)).alloc (.cells #[.slice ax kx capx,.slice ao k cap] 31))=v0 at *;replace CR:=hid (fun W (hW:Below v0.heap.size v0 W)=>CR.out W (HB.out.trans (hW.mono HB.out.size)));replace CI:=hid (fun W (hW:Below v0.heap.size v0 W)=>CI.out W (HB.out.trans (hW.mono HB.out.size)));replace CM:=hid (fun W (hW:Below v0.heap.size v0 W)=>CM.out W (HB.out.trans (hW.mono HB.out.size)));replace CX:=hid (fun h W (hW:Below v0.heap.size v0 W)=>CX.out h W (HB.out.trans (hW.mono HB.out.size)));have r0:=BM.out.cell (j:=0) rfl;have r1:=BM.out.cell (j:=1) rfl;have r2:=BM.out.cell (j:=2) rfl;have r3:=BM.out.cell (j:=3) rfl;have r4:=BM.out.cell (j:=4) rfl;have a0:=BA.out.cell (j:=0) rfl;have a1:=BA.out.cell (j:=1) rfl;cases rr
 case false =>
  refine wp_region_held_drew (S:=(fun w'=>w'.cell? ⟨w.heap.size,0,none⟩=some (.bool s)∧w'.cell? ⟨w.heap.size,1,none⟩=some (.slice x n c)∧w'.cell? ⟨w.heap.size,2,none⟩=some (.slice y m d)∧w'.cell? ⟨w.heap.size,3,none⟩=some (.slice ca ck cc)∧w'.cell? ⟨w.heap.size,4,none⟩=some (.slice ra rk rc)∧w'.cell? ⟨w.heap.size+1,0,none⟩=some (.slice ax kx capx)∧w'.cell? ⟨w.heap.size+1,1,none⟩=some (.slice ao k cap))) (by kernel_rfl) ?_ (fun hHeld=>?_)
  ·(refine ⟨?_,?_,?_,?_,?_,?_,?_⟩ <;> repeat (with_reducible first | assumption | refine kCd ?_))
  refine tkO 0 ?_;simp only [lay_,Act.put];refine tkO 1 ?_;simp only [lay_,Act.put];refine tkO 2 ?_;simp only [lay_,Act.put];refine wpAnyH_ready (rs:=[3]) (by kernel_rfl) (by simp) ?_;refine AllReadyH.cons (o:=_) rfl (fun K hK=>?_) ?_;rotate_left;exact AllReadyH.nil;go_simp
  go_at_call 31
  refine (CR.out _ belB).mono ?_;rintro e u1 ⟨rfl,hb1⟩
  (try go_wp2_with fail)
  refine hK.out _ _ ?_ (fun hH1=>?_)
  ·((try dsimp only);(refine ⟨?_,?_,?_,?_,?_,?_,?_⟩ <;> repeat (with_reducible first | assumption | refine kCb (by assumption) ?_ | refine kCd ?_)))
  clear hK K;try simp only [lay_,Act.put]
  refine tkO 4 ?_;simp only [lay_,Act.put];refine skO 5 ?_;simp only [lay_,Act.put];refine skO 6 ?_;simp only [lay_,Act.put];refine skO 7 ?_;simp only [lay_,Act.put];refine skO 8 ?_;simp only [lay_,Act.put];refine tkO 9 ?_;simp only [lay_,Act.put];refine tkO 10 ?_;simp only [lay_,Act.put];refine skO 11 ?_;simp only [lay_,Act.put];refine skO 12 ?_;simp only [lay_,Act.put];refine skO 13 ?_;simp only [lay_,Act.put];refine skO 14 ?_;simp only [lay_,Act.put];refine skO 15 ?_;simp only [lay_,Act.put];refine skO 16 ?_;simp only [lay_,Act.put];refine skO 17 ?_;simp only [lay_,Act.put];refine skO 18 ?_;simp only [lay_,Act.put];refine tkO 19 ?_;simp only [lay_,Act.put];refine tkO 20 ?_;simp only [lay_,Act.put];refine wpAnyH_done (by kernel_rfl) ?_ _;have hb:Below v0.heap.size v0 u1:=belB;replace HB:=hid (HB.out.trans (hb.mono HB.out.size));clear hb;go_wp2;go_ret;exact ⟨by first | rfl | simp,HB.out⟩
 replace CX:=hid (CX.out (by first | rfl | trivial));replace CC:=hid (CC.out (by first | rfl | trivial));cases fe
 case false =>
  refine wp_region_held_drew (S:=(fun w'=>w'.cell? ⟨w.heap.size,0,none⟩=some (.bool s)∧w'.cell? ⟨w.heap.size,1,none⟩=some (.slice x n c)∧w'.cell? ⟨w.heap.size,2,none⟩=some (.slice y m d)∧w'.cell? ⟨w.heap.size,3,none⟩=some (.slice ca ck cc)∧w'.cell? ⟨w.heap.size,4,none⟩=some (.slice ra rk rc)∧w'.cell? ⟨w.heap.size+1,0,none⟩=some (.slice ax kx capx)∧w'.cell? ⟨w.heap.size+1,1,none⟩=some (.slice ao k cap))) (by kernel_rfl) ?_ (fun hHeld=>?_)
  ·(refine ⟨?_,?_,?_,?_,?_,?_,?_⟩ <;> repeat (with_reducible first | assumption | refine kCd ?_))
  refine tkO 0 ?_;simp only [lay_,Act.put];refine tkO 1 ?_;simp only [lay_,Act.put];refine tkO 2 ?_;simp only [lay_,Act.put];refine wpAnyH_ready (rs:=[3]) (by kernel_rfl) (by simp) ?_;refine AllReadyH.cons (o:=_) rfl (fun K hK=>?_) ?_;rotate_left;exact AllReadyH.nil;go_simp
  go_at_call 31
  refine (CR.out _ belB).mono ?_;rintro e u1 ⟨rfl,hb1⟩
  (try go_wp2_with fail)
  refine hK.out _ _ ?_ (fun hH1=>?_)
  ·((try dsimp only);(refine ⟨?_,?_,?_,?_,?_,?_,?_⟩ <;> repeat (with_reducible first | assumption | refine kCb (by assumption) ?_ | refine kCd ?_)))
  clear hK K;try simp only [lay_,Act.put]
  refine tkO 4 ?_;simp only [lay_,Act.put];refine tkO 5 ?_;simp only [lay_,Act.put];refine tkO 6 ?_;simp only [lay_,Act.put];refine tkO 7 ?_;simp only [lay_,Act.put];refine wpAnyH_ready (rs:=[8]) (by kernel_rfl) (by simp) ?_;refine AllReadyH.cons (o:=_) rfl (fun K hK=>?_) ?_;rotate_left;exact AllReadyH.nil;go_simp
  go_at_call 49
  refine (CI.out _ belB).mono ?_;rintro e u2 ⟨rfl,hb2⟩
  (try go_wp2_with fail)
  refine hK.out _ _ ?_ (fun hH2=>?_)
  ·((try dsimp only);(refine ⟨?_,?_,?_,?_,?_,?_,?_⟩ <;> repeat (with_reducible first | assumption | refine kCb (by assumption) ?_ | refine kCd ?_)))
  clear hK K;try simp only [lay_,Act.put]
  refine tkO 9 ?_;simp only [lay_,Act.put];refine tkO 10 ?_;simp only [lay_,Act.put];refine skO 11 ?_;simp only [lay_,Act.put];refine skO 12 ?_;simp only [lay_,Act.put];refine skO 13 ?_;simp only [lay_,Act.put];refine skO 14 ?_;simp only [lay_,Act.put];refine skO 15 ?_;simp only [lay_,Act.put];refine skO 16 ?_;simp only [lay_,Act.put];refine skO 17 ?_;simp only [lay_,Act.put];refine skO 18 ?_;simp only [lay_,Act.put];refine tkO 19 ?_;simp only [lay_,Act.put];refine tkO 20 ?_;simp only [lay_,Act.put];refine wpAnyH_done (by kernel_rfl) ?_ _;have hb:Below v0.heap.size v0 u2:=belB;replace HB:=hid (HB.out.trans (hb.mono HB.out.size));clear hb;go_wp2;go_ret;exact ⟨by first | rfl | simp,HB.out⟩
 go_region_held3 (fun w'=>w'.cell? ⟨w.heap.size,0,none⟩=some (.bool s)∧w'.cell? ⟨w.heap.size,1,none⟩=some (.slice x n c)∧w'.cell? ⟨w.heap.size,2,none⟩=some (.slice y m d)∧w'.cell? ⟨w.heap.size,3,none⟩=some (.slice ca ck cc)∧w'.cell? ⟨w.heap.size,4,none⟩=some (.slice ra rk rc)∧w'.cell? ⟨w.heap.size+1,0,none⟩=some (.slice ax kx capx)∧w'.cell? ⟨w.heap.size+1,1,none⟩=some (.slice ao k cap))
  (refine ⟨?_,?_,?_,?_,?_,?_,?_⟩ <;> repeat (with_reducible first | assumption | refine kCd ?_ | refine kCb (by assumption) ?_))
  (first
   | (go_at_call 31;with_reducible refine (CR.out _ belA).mono ?_;rintro e u1 ⟨rfl,hb1⟩)
   | (go_at_call 49;with_reducible refine (CI.out _ belA).mono ?_;rintro e u2 ⟨rfl,hb2⟩)
   | (go_at_call 52;with_reducible refine (CM.out _ belA).mono ?_;rintro e u3 ⟨M3,rfl,hb3,H3⟩)
   | (go_at_call 53;with_reducible refine (CX.out _ belA).mono ?_;rintro e u4 ⟨a4,c4,rfl,hb4,H4⟩)
   | (go_at_call 51;with_reducible refine (CC.out _ M3 a4 c4 (H3.out.below belA) (H4.out.below belA)).mono ?_;rintro e u5 ⟨t5,rfl,hb5,H5⟩)
   | (go_at_call 50;with_reducible refine (CS.out _ t5 H5.out).mono ?_;rintro e u6 ⟨c6,rfl,hb6,H6⟩;have hd6:decide (c6<0)=sl:=H6.out))
 all_goals
  have hb:Below v0.heap.size v0 u6:=belA;replace HB:=hid (HB.out.trans (hb.mono HB.out.size));clear hb;go_wp2;go_ret;exact ⟨by first | rfl | simp,by first | exact HB.out | exact HB.out.drew | exact below_drewN HB.out _⟩
set_option maxRecDepth 100000 in
set_option maxHeartbeats 4000000 in
theorem docValid_c {w:World} {M:Mo} {ax:Option Addr} {kx capx:Nat} {Y:Nat→Nm} {ao:Option Addr} {k cap:Nat} {X:Nat→Nm} (hI:In8 w M) (hy:Rl w ax kx Y) (hsy:ShK 8 kx Y) (hx:Rl w ao k X) (hs:ShK 8 k X) :
  Calls Tryz.prog 10 #[M.val,.agg #[.slice ax kx capx,.slice ao k cap]] w fun e w'=>e=.returned (.tuple #[.bool (vlM M kx Y k X),.int .i64 (chkE M)])∧Below w.heap.size w w':=by
 have CC:=hid (fun W (hW:Below w.heap.size w W)=>docCheck_w (w:=W) ((hI.x.below hW).both hI.n hI.k (by decide)) hI.c);obtain ⟨er,her⟩:∃e,chkE M=e:=⟨_,rfl⟩;obtain ⟨rr,hrr⟩:∃e,vlM M kx Y k X=e:=⟨_,rfl⟩;have CR:Hid (er=0→∀W,Below w.heap.size w W→Calls Tryz.prog 27 #[M.val,.agg #[.slice ax kx capx,.slice ao k cap]] W fun e w'=>e=.returned (.bool rr)∧Below W.heap.size W w'):=fun h0 W hW=>by
  have:=docVal_c (capx:=capx) (cap:=cap) (hI.below hW) (her.trans h0) (hy.below hW) hsy (hx.below hW) hs;rw [hrr] at this;exact this
 have HE:Hid (er≠0→rr=false):=fun h=>by rw [←hrr];unfold vlM valB recB;rw [her,decide_eq_false h];rfl
 rw [her,hrr];rw [her] at CC;clear hI hx hs hy hsy her hrr;obtain ⟨⟨s,x,n,c,f,y,m,d,g⟩,ca,ck,cc,C,ra,rk,rc,R⟩:=M;replace CC:Hid (∀W,Below w.heap.size w W→Calls Tryz.prog 26 #[.agg #[.bool s,.slice x n c,.slice y m d,.slice ca ck cc,.slice ra rk rc]] W fun e w'=>e=.returned (.int .i64 er)∧Below W.heap.size W w'):=CC;replace CR:Hid (er=0→∀W,Below w.heap.size w W→Calls Tryz.prog 27 #[.agg #[.bool s,.slice x n c,.slice y m d,.slice ca ck cc,.slice ra rk rc],.agg #[.slice ax kx capx,.slice ao k cap]] W fun e w'=>e=.returned (.bool rr)∧Below W.heap.size W w'):=CR;show Calls Tryz.prog 10 #[.agg #[.bool s,.slice x n c,.slice y m d,.slice ca ck cc,.slice ra rk rc],.agg #[.slice ax kx capx,.slice ao k cap]] w _;have HB:=hid (below_alloc (below_alloc (Below.refl w.heap.size w) (.cells #[.bool s,.slice x n c,.slice y m d,.slice ca ck cc,.slice ra rk rc] 28)) (.cells #[.slice ax kx capx,.slice ao k cap] 31));have BM:Hid (Bk ((w.alloc (.cells #[.bool s,.slice x n c,.slice y m d,.slice ca ck cc,.slice ra rk rc] 28)).alloc (.cells #[.slice ax kx capx,.slice ao k cap] 31)) w.heap.size [.bool s,.slice x n c,.slice y m d,.slice ca ck cc,.slice ra rk rc] 28):=(bk_new w [.bool s,.slice x n c,.slice y m d,.slice ca ck cc,.slice ra rk rc] 28).below (below_alloc (Below.refl _ _) _);have BA:Hid (Bk ((w.alloc (.cells #[.bool s,.slice x n c,.slice y m d,.slice ca ck cc,.slice ra rk rc] 28)).alloc (.cells #[.slice ax kx capx,.slice ao k cap] 31)) (w.heap.size+1) [.slice ax kx capx,.slice ao k cap] 31):=by
  have:=bk_new (w.alloc (.cells #[.bool s,.slice x n c,.slice y m d,.slice ca ck cc,.slice ra rk rc] 28)) [.slice ax kx capx,.slice ao k cap] 31;rw [size_alloc1] at this;exact this
 go_enter Tryz.func10,Tryz.ntmps10;have r0:=BM.out.cell (j:=0) rfl;have r1:=BM.out.cell (j:=1) rfl;have r2:=BM.out.cell (j:=2) rfl;have r3:=BM.out.cell (j:=3) rfl;have r4:=BM.out.cell (j:=4) rfl;have a0:=BA.out.cell (j:=0) rfl;have a1:=BA.out.cell (j:=1) rfl;go_wp2_with fail
 clear r0 r1 r2 r3 r4 a0 a1;generalize ((w.alloc (.cells #[.bool s,.slice x n c,.slice y m d,.slice ca ck cc,.slice ra rk rc] 28)).alloc (.cells #[.slice ax kx capx,.slice ao k cap] 31))=v0 at *;refine (CC.out _ HB.out).mono ?_;rintro e v1 ⟨rfl,hb⟩;replace HB:=hid (HB.out.trans (hb.mono HB.out.size));replace BM:=hid (BM.out.below hb);replace BA:=hid (BA.out.below hb)
 clear hb CC;by_cases h0:er=0
 case neg =>
  have h1:(er != 0)=true:=by simpa using h0
  have h2:=HE.out h0;subst h2;clear CR h0;go_wp2
  go_ret2
  exact ⟨rfl,HB.out⟩
 subst h0;have r0:=BM.out.cell (j:=0) rfl;have r1:=BM.out.cell (j:=1) rfl;have r2:=BM.out.cell (j:=2) rfl;have r3:=BM.out.cell (j:=3) rfl;have r4:=BM.out.cell (j:=4) rfl;have a0:=BA.out.cell (j:=0) rfl;have a1:=BA.out.cell (j:=1) rfl;go_wp2_with fail
 clear r0 r1 r2 r3 r4 a0 a1;refine (CR.out (by first | rfl | trivial) _ HB.out).mono ?_;rintro e v2 ⟨rfl,hb⟩;replace HB:=hid (HB.out.trans (hb.mono HB.out.size));clear hb CR HE;go_wp2
 go_ret2
 exact ⟨rfl,HB.out⟩
structure Ck13 (w:World) (M:Mo) (ax:Option Addr) (kx:Nat) (Y:Nat→Nm) (ao:Option Addr) (ko:Nat) (X:Nat→Nm):Prop where
 i:In8 w M
 hy:Rl w ax kx Y
 hx:Rl w ao ko X
 sy:ShK 8 kx Y
 sx:ShK 8 ko X
set_option maxRecDepth 100000 in
set_option maxHeartbeats 8000000 in
theorem rayChecks_c {w:World} {M:Mo} {ax:Option Addr} {kx cx:Nat} {Y:Nat→Nm} {ao:Option Addr} {ko co:Nat} {X:Nat→Nm} (hX:MoX w M) (hN:MoN M) (hC:MoC M) (hy:Rr w ax kx Y) (hx:Rr w ao ko X) (hkx:kx≤9223372036854775807) (hko:ko≤9223372036854775807) :
  Calls Tryz.prog 3 #[M.val,.agg #[.slice ax kx cx,.slice ao ko co]] w fun e w'=>e=.returned (.bool true)∧Below w.heap.size w w':=by
 obtain ⟨lb,hlb⟩:∃t,lgM 8 M=t:=⟨_,rfl⟩;obtain ⟨la,hla⟩:∃t,(lgL 8 kx Y && lgL 8 ko X)=t:=⟨_,rfl⟩;have CL:=hid (fun w' (hw:Below w.heap.size w w')=>mLight_c (w:=w') (K:=8) (hX.below hw).light.1 (hX.below hw).light.2);rw [hlb] at CL;have CA:=hid (fun w' (hw:Below w.heap.size w w')=>light13_c (capx:=cx) (cap:=co) 8 (hy.below hw) (hx.below hw) hkx hko);rw [hla] at CA;obtain ⟨N,hN'⟩:∃N,N=M:=⟨_,rfl⟩;have HC:Hid (lb=true→la=true→Ck13 w N ax kx Y ao ko X):=fun e1 e2=>by
  subst hN';subst e1;subst e2
  simp only [Bool.and_eq_true] at hla;have q1:=hla.1;have q2:=hla.2
  refine ⟨⟨hX,hN,hC,lgM_k hlb⟩,?_,?_,lgL_shK q1,lgL_shK q2⟩
  ·simp only [lgL,Bool.and_eq_true] at q1;exact hy.rl q1.2 (by decide)
  ·simp only [lgL,Bool.and_eq_true] at q2;exact hx.rl q2.2 (by decide)
 clear hX hN hC hy hx hlb hla hkx hko;obtain ⟨⟨s,x,n,c,f,y,m,d,g⟩,ca,ck,cc,C,ra,rk,rc,R⟩:=M;have hNv:Hid (N.val=.agg #[.bool s,.slice x n c,.slice y m d,.slice ca ck cc,.slice ra rk rc]):=by rw [hN'];exact rfl
 clear hN';replace CL:Hid (∀w',Below w.heap.size w w'→Calls Tryz.prog 5 #[.agg #[.bool s,.slice x n c,.slice y m d,.slice ca ck cc,.slice ra rk rc],.int .i64 8] w' fun e w2=>e=.returned (.bool lb)∧Below w'.heap.size w' w2):=CL;replace CA:Hid (∀w',Below w.heap.size w w'→Calls Tryz.prog 6 #[.agg #[.slice ax kx cx,.slice ao ko co],.int .i64 8] w' fun e w2=>e=.returned (.bool la)∧Below w'.heap.size w' w2):=CA;show Calls Tryz.prog 3 #[.agg #[.bool s,.slice x n c,.slice y m d,.slice ca ck cc,.slice ra rk rc],.agg #[.slice ax kx cx,.slice ao ko co]] w _;have HB:=hid (below_alloc (below_alloc (Below.refl w.heap.size w) (.cells #[.bool s,.slice x n c,.slice y m d,.slice ca ck cc,.slice ra rk rc] 28)) (.cells #[.slice ax kx cx,.slice ao ko co] 31));have BM:Hid (Bk ((w.alloc (.cells #[.bool s,.slice x n c,.slice y m d,.slice ca ck cc,.slice ra rk rc] 28)).alloc (.cells #[.slice ax kx cx,.slice ao ko co] 31)) w.heap.size [.bool s,.slice x n c,.slice y m d,.slice ca ck cc,.slice ra rk rc] 28):=(bk_new w [.bool s,.slice x n c,.slice y m d,.slice ca ck cc,.slice ra rk rc] 28).below (below_alloc (Below.refl _ _) _);have BA:Hid (Bk ((w.alloc (.cells #[.bool s,.slice x n c,.slice y m d,.slice ca ck cc,.slice ra rk rc] 28)).alloc (.cells #[.slice ax kx cx,.slice ao ko co] 31)) (w.heap.size+1) [.slice ax kx cx,.slice ao ko co] 31):=by
  have:=bk_new (w.alloc (.cells #[.bool s,.slice x n c,.slice y m d,.slice ca ck cc,.slice ra rk rc] 28)) [.slice ax kx cx,.slice ao ko co] 31;rw [size_alloc1] at this;exact this
 go_enter Tryz.func3,Tryz.ntmps3;go_wp2_with fail
 generalize ((w.alloc (.cells #[.bool s,.slice x n c,.slice y m d,.slice ca ck cc,.slice ra rk rc] 28)).alloc (.cells #[.slice ax kx cx,.slice ao ko co] 31))=v0 at *;refine (awake13_c _).mono ?_;rintro e v1 ⟨rfl,hb⟩;replace HB:=hid (HB.out.trans (hb.mono HB.out.size));replace BM:=hid (BM.out.below hb);replace BA:=hid (BA.out.below hb)
 clear hb;have r0:=BM.out.cell (j:=0) rfl;have r1:=BM.out.cell (j:=1) rfl;have r2:=BM.out.cell (j:=2) rfl;have r3:=BM.out.cell (j:=3) rfl;have r4:=BM.out.cell (j:=4) rfl;go_wp2_with fail
 clear r0 r1 r2 r3 r4;refine (CL.out _ HB.out).mono ?_;rintro e v2 ⟨rfl,hb⟩;replace HB:=hid (HB.out.trans (hb.mono HB.out.size));replace BM:=hid (BM.out.below hb);replace BA:=hid (BA.out.below hb)
 clear hb;clear CL;cases lb
 ·go_wp2;go_ret;exact ⟨rfl,HB.out⟩
 have a0:=BA.out.cell (j:=0) rfl;have a1:=BA.out.cell (j:=1) rfl;go_wp2_with fail
 clear a0 a1;refine (CA.out _ HB.out).mono ?_;rintro e v3 ⟨rfl,hb⟩;replace HB:=hid (HB.out.trans (hb.mono HB.out.size));replace BM:=hid (BM.out.below hb);replace BA:=hid (BA.out.below hb)
 clear hb;clear CA;cases la
 ·go_wp2;go_ret;exact ⟨rfl,HB.out⟩
 replace HC:=hid (HC.out (by first | rfl | trivial) (by first | rfl | trivial));have T1:Hid (∀W,Below w.heap.size w W→Calls Tryz.prog 8 #[.agg #[.bool s,.slice x n c,.slice y m d,.slice ca ck cc,.slice ra rk rc]] W fun e w'=>∃(vm:Value) (M':Mo),e=.returned vm∧Below W.heap.size W w'∧Hid (vm=M'.val∧TmK 8 w' N M')):=fun W hW=>by
  have:=twinTmK_c (HC.out.i.x.below hW) HC.out.i.n HC.out.i.k (by decide);rw [hNv.out] at this;exact this
 have TX:=hid (fun W (hW:Below w.heap.size w W)=>twinsTxK_c (cap:=co) (HC.out.hx.below hW) HC.out.sx (by decide));have RA:=hid (fun W (hW:Below w.heap.size w W)=>twinRayK_c (capx:=cx) (cap:=co) (HC.out.hy.below hW) HC.out.sy (HC.out.hx.below hW) HC.out.sx (by decide));obtain ⟨rr,hr1⟩:∃t,rcM N ko X=t:=⟨_,rfl⟩;obtain ⟨ec,hec⟩:∃t,chkE N=t:=⟨_,rfl⟩;obtain ⟨x1,hx1⟩:∃t,vlM N kx Y ko X=t:=⟨_,rfl⟩;have RX:Hid (∀W vm M' a X' c,(vm=M'.val∧TmK 8 W N M')→Tx W a ko X X'→Calls Tryz.prog 11 #[vm,.slice a ko c] W fun e w'=>e=.returned (.tuple #[.bool rr,.int .i64 ec])∧Below W.heap.size W w'):=fun W vm M' a X' c h1 h2=>by
  have:=recTwK_c (cap:=c) h1.2 HC.out.i.n h2 HC.out.sx;rw [hr1,hec,←h1.1] at this;exact this
 have VA:Hid (∀W vm M' z2 c2 Y2 z3 c3 X3,(vm=M'.val∧TmK 8 W N M')→(Tx W z2 kx Y Y2∧Tx W z3 ko X X3)→Calls Tryz.prog 7 #[vm,.agg #[.slice z2 kx c2,.slice z3 ko c3]] W fun e w'=>e=.returned (.tuple #[.bool x1,.int .i64 ec])∧Below W.heap.size W w'):=fun W vm M' z2 c2 Y2 z3 c3 X3 h1 h2=>by
  have:=validTwK_c (capx:=c2) (cap:=c3) h1.2 HC.out.i.n h2.1 HC.out.sy h2.2 HC.out.sx;rw [hx1,hec,←h1.1] at this;exact this
 have DV:Hid (∀W,Below w.heap.size w W→Calls Tryz.prog 10 #[.agg #[.bool s,.slice x n c,.slice y m d,.slice ca ck cc,.slice ra rk rc],.agg #[.slice ax kx cx,.slice ao ko co]] W fun e w'=>e=.returned (.tuple #[.bool x1,.int .i64 ec])∧Below W.heap.size W w'):=fun W hW=>by
  have:=docValid_c (capx:=cx) (cap:=co) (HC.out.i.below hW) (HC.out.hy.below hW) HC.out.sy (HC.out.hx.below hW) HC.out.sx;rw [hx1,hec,hNv.out] at this;exact this
 have DR:Hid (∀W,Below w.heap.size w W→Calls Tryz.prog 13 #[.agg #[.bool s,.slice x n c,.slice y m d,.slice ca ck cc,.slice ra rk rc],.slice ao ko co] W fun e w'=>e=.returned (.tuple #[.bool rr,.int .i64 ec])∧Below W.heap.size W w'):=fun W hW=>by
  have:=docRecedes_c (cap:=co) (HC.out.i.below hW) (HC.out.hx.below hW) HC.out.sx;rw [hr1,hec,hNv.out] at this;exact this
 clear HC hNv hr1 hec hx1;go_upto_region 5 with fail
 have r0:=BM.out.cell (j:=0) rfl;have r1:=BM.out.cell (j:=1) rfl;have r2:=BM.out.cell (j:=2) rfl;have r3:=BM.out.cell (j:=3) rfl;have r4:=BM.out.cell (j:=4) rfl;have a0:=BA.out.cell (j:=0) rfl;have a1:=BA.out.cell (j:=1) rfl;have T1n:=hid (fun W (hW:Below v3.heap.size v3 W)=>T1.out W (HB.out.trans (hW.mono HB.out.size)));have RAn:=hid (fun W (hW:Below v3.heap.size v3 W)=>RA.out W (HB.out.trans (hW.mono HB.out.size)));go_region_held3 (fun w'=>w'.cell? ⟨w.heap.size,0,none⟩=some (.bool s)∧w'.cell? ⟨w.heap.size,1,none⟩=some (.slice x n c)∧w'.cell? ⟨w.heap.size,2,none⟩=some (.slice y m d)∧w'.cell? ⟨w.heap.size,3,none⟩=some (.slice ca ck cc)∧w'.cell? ⟨w.heap.size,4,none⟩=some (.slice ra rk rc)∧w'.cell? ⟨w.heap.size+1,0,none⟩=some (.slice ax kx cx)∧w'.cell? ⟨w.heap.size+1,1,none⟩=some (.slice ao ko co))
  (refine ⟨?_,?_,?_,?_,?_,?_,?_⟩ <;> repeat (with_reducible first | assumption | refine kCd ?_ | refine kCb (by assumption) ?_))
  (first
   | (go_at_call 8;with_reducible refine (T1n.out _ belA).mono ?_;rintro e u1 ⟨vm,M1,rfl,hb1,H1⟩)
   | (go_at_call 9;with_reducible refine (RAn.out _ belA).mono ?_;rintro e u2 ⟨z2,c2,Y2,z3,c3,X3,rfl,hb2,H2⟩)
   | (go_at_call 7;with_reducible refine (VA.out _ vm M1 z2 c2 Y2 z3 c3 X3 ⟨H1.out.1,H1.out.2.below belA⟩ ⟨H2.out.1.below belA,H2.out.2.below belA⟩).mono ?_;rintro e v4 ⟨rfl,hb3⟩))
 have hb:Below v3.heap.size v3 v4:=belA;replace HB:=hid (HB.out.trans (hb.mono HB.out.size));replace BM:=hid (BM.out.below hb);replace BA:=hid (BA.out.below hb)
 clear hb r0 r1 r2 r3 r4 a0 a1 T1n RAn hb1 hb2 hb3 H1 H2;have r0:=BM.out.cell (j:=0) rfl;have r1:=BM.out.cell (j:=1) rfl;have r2:=BM.out.cell (j:=2) rfl;have r3:=BM.out.cell (j:=3) rfl;have r4:=BM.out.cell (j:=4) rfl;have a0:=BA.out.cell (j:=0) rfl;have a1:=BA.out.cell (j:=1) rfl;go_wp2_with fail
 clear r0 r1 r2 r3 r4 a0 a1;refine (DV.out _ HB.out).mono ?_;rintro e v5 ⟨rfl,hb⟩;replace HB:=hid (HB.out.trans (hb.mono HB.out.size));replace BM:=hid (BM.out.below hb);replace BA:=hid (BA.out.below hb)
 clear hb;clear DV VA RA;have e1:(x1 != x1)=false:=by simp
 have e2:(ec != ec)=false:=by simp
 go_upto_region 9 with fail
 have r0:=BM.out.cell (j:=0) rfl;have r1:=BM.out.cell (j:=1) rfl;have r2:=BM.out.cell (j:=2) rfl;have r3:=BM.out.cell (j:=3) rfl;have r4:=BM.out.cell (j:=4) rfl;have a0:=BA.out.cell (j:=0) rfl;have a1:=BA.out.cell (j:=1) rfl;have T1n:=hid (fun W (hW:Below v5.heap.size v5 W)=>T1.out W (HB.out.trans (hW.mono HB.out.size)));have TXn:=hid (fun W (hW:Below v5.heap.size v5 W)=>TX.out W (HB.out.trans (hW.mono HB.out.size)));go_region_held3 (fun w'=>w'.cell? ⟨w.heap.size,0,none⟩=some (.bool s)∧w'.cell? ⟨w.heap.size,1,none⟩=some (.slice x n c)∧w'.cell? ⟨w.heap.size,2,none⟩=some (.slice y m d)∧w'.cell? ⟨w.heap.size,3,none⟩=some (.slice ca ck cc)∧w'.cell? ⟨w.heap.size,4,none⟩=some (.slice ra rk rc)∧w'.cell? ⟨w.heap.size+1,0,none⟩=some (.slice ax kx cx)∧w'.cell? ⟨w.heap.size+1,1,none⟩=some (.slice ao ko co))
  (refine ⟨?_,?_,?_,?_,?_,?_,?_⟩ <;> repeat (with_reducible first | assumption | refine kCd ?_ | refine kCb (by assumption) ?_))
  (first
   | (go_at_call 8;with_reducible refine (T1n.out _ belA).mono ?_;rintro e u1 ⟨vm,M1,rfl,hb1,H1⟩)
   | (go_at_call 12;with_reducible refine (TXn.out _ belA).mono ?_;rintro e u2 ⟨z2,c2,X2,rfl,hb2,hc2,H2⟩)
   | (go_at_call 11;with_reducible refine (RX.out _ vm M1 z2 X2 c2 ⟨H1.out.1,H1.out.2.below belA⟩ (H2.out.below belA)).mono ?_;rintro e v6 ⟨rfl,hb3⟩))
 have hb:Below v5.heap.size v5 v6:=belA;replace HB:=hid (HB.out.trans (hb.mono HB.out.size));replace BM:=hid (BM.out.below hb);replace BA:=hid (BA.out.below hb)
 clear hb r0 r1 r2 r3 r4 a0 a1 T1n TXn hb1 hb2 hb3 H1 H2 hc2;have r0:=BM.out.cell (j:=0) rfl;have r1:=BM.out.cell (j:=1) rfl;have r2:=BM.out.cell (j:=2) rfl;have r3:=BM.out.cell (j:=3) rfl;have r4:=BM.out.cell (j:=4) rfl;have a0:=BA.out.cell (j:=0) rfl;have a1:=BA.out.cell (j:=1) rfl;go_wp2_with fail
 clear r0 r1 r2 r3 r4 a0 a1;refine (DR.out _ HB.out).mono ?_;rintro e v7 ⟨rfl,hb⟩;replace HB:=hid (HB.out.trans (hb.mono HB.out.size));replace BM:=hid (BM.out.below hb);replace BA:=hid (BA.out.below hb)
 clear hb;clear DR RX TX T1;have e3:(rr==rr)=true:=by simp
 have e4:(ec==ec)=true:=by simp
 go_wp2;go_ret;exact ⟨by first | rfl | simp,HB.out⟩
end Go.Proofs.YteiglggmaiohpaaGreat
