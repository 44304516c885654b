/-
 Point's calls on twins, and on what lies along a direction. The walk of the law RayCone (written by makers/ra9.py). The walk of the law RayGoes (written by makers/rb3.py).
-/
import Derived.Test.YtlemkhgicdnlnaaGreatZ14
import Derived.BigQuiet
namespace Go.Proofs.YtlemkhgicdnlnaaGreat
open Go.RowKit
theorem alngT_lo {K:Nat} {t:Rat} {xs ds:List Rat} (ht:Lo K t) (h1:∀ q,q ∈ xs → Lo K q) (h2:∀ q,q ∈ ds → Lo K q):∀ q,q ∈ alng xs ds t → Lo (K + (K + K + 1) + 1) q:=fun q hq=>by
 obtain ⟨j,hj⟩:=List.getElem?_of_mem hq
 rw [alng_get] at hj
 cases e1:xs[j]? with
 | none=>rw [e1] at hj;cases hj
 | some x =>
  cases e2:ds[j]? with
  | none=>rw [e1,e2] at hj;cases hj
  | some d =>
   rw [e1,e2] at hj
   simp only [Option.bind_some,Option.map_some,Option.some.injEq] at hj
   rw [← hj,show (0:Rat) + x + t * d=x + t * d by grind]
   exact lo_add (h1 x (List.mem_of_getElem? e1)) (lo_mul ht (h2 d (List.mem_of_getElem? e2)))
theorem Tm.valL {w M M'} (L:Nat) (hL:6 ≤ L) (h:Tm w M M') (hN:MoN M) (he:chkE M=0):MoV L w M' (nq M.off) (csOf M) (rsOf M) ∧ mvOk (csOf M) (rsOf M)=true:=by
 obtain ⟨s,hw,hx,hk⟩:=h
 have he':chkE M'=0:=s.chk.trans he
 obtain ⟨l1,l2,_⟩:=chkE_ok he'
 have k6:=hk l1 l2
 have:=(hx.mor (s.mon hN) k6 (by decide) l1 l2).movC (k6.up hL) he'
 rw [s.csOf,s.rsOf,s.off.nq] at this
 exact this
theorem tw_hvL {w ao k X X' M M'} (L:Nat) (hL:6 ≤ L) (h:Tm w M M') (hN:MoN M) (hx:Tx w ao k X X') (hs:Sh k X) (he:pckE M k X=0):MoV L w M' (nq M.off) (csOf M) (rsOf M) ∧ mvOk (csOf M) (rsOf M)=true ∧ Rf L w ao (psOf k X) ∧ (psOf k X).length=k ∧ k=(csOf M).length:=by
 obtain ⟨h1,h2,h3⟩:=pckE_two he
 obtain ⟨a,b⟩:=h.valL L hL hN h1
 exact ⟨a,b,(hx.val hs h2).mono hL,psOf_len _ _,by rw [csOf_len];exact h3⟩
theorem feasTw_c {w:World} {M M':Mo} {ao:Option Addr} {k cap:Nat} {X X':Nat → Nm} (h:Tm w M M') (hN:MoN M) (hx:Tx w ao k X X') (hs:Sh k X) :
  Calls Tryz.prog 24 #[M'.val,.slice ao k cap] w fun e w'=>e=.returned (.tuple #[.bool (decide (pckE M k X=0) && feasB (csOf M) (rsOf M) (psOf k X)),.int .i64 (pckE M k X)]) ∧ Below w.heap.size w w' :=
 pFeas_v h.2.1 hx.1 (by have:=hs.1;omega) (pckE_tw h hx) (fun he=>tw_hvL 20 (by decide) h hN hx hs he) (by decide)
theorem valueTw_c {w:World} {M M':Mo} {ao:Option Addr} {k cap:Nat} {X X':Nat → Nm} (h:Tm w M M') (hN:MoN M) (hx:Tx w ao k X X') (hs:Sh k X) (h0:pckE M k X=0) :
  Calls Tryz.prog 25 #[M'.val,.slice ao k cap] w fun e w'=>∃ s x n c f y m d g,e=.returned (.tuple #[.agg #[.bool s,.slice x n c,.slice y m d],.int .i64 0]) ∧ Below w.heap.size w w' ∧ Hid (Rn (KV 20) w' s x n c f y m d g (valQ (nq M.off) (csOf M) (psOf k X))):=by
 refine (pValue_v h.2.1 hx.1 (by have:=hs.1;omega) ((pckE_tw h hx).trans h0) (fun _=>tw_hvL 20 (by decide) h hN hx hs h0) (by decide)).mono ?_
 rintro e w' ⟨hb,⟨h9,_⟩ | ⟨_,s,x,n,c,f,y,m,d,g,rfl,hr⟩⟩
 ·exact absurd rfl h9
 ·exact ⟨s,x,n,c,f,y,m,d,g,rfl,hb,hid hr⟩
/-- Numbers along a direction. -/
def Sv (w:World) (ao:Option Addr) (k:Nat) (ss:List Rat):Prop:=Rf 20 w ao ss ∧ ss.length=k
theorem Sv.below {w w' ao k ss} (h:Sv w ao k ss) (hb:Below w.heap.size w w'):Sv w' ao k ss:=⟨h.1.below hb,h.2⟩
theorem Sv.rl {w ao k ss} (h:Sv w ao k ss):∃ S,Rl w ao k S ∧ afB k S=true:=by
 obtain ⟨S,h3,h4⟩:=rf_rl h.1 (by omega)
 rw [h.2] at h3 h4
 exact ⟨S,h3,h4⟩
theorem feasSv_c {w:World} {M M':Mo} {ao:Option Addr} {k cap:Nat} {ss:List Rat} (h:Tm w M M') (hN:MoN M) (h0:chkE M=0) (hk:k=M.ck) (hx:Sv w ao k ss) :
  Calls Tryz.prog 24 #[M'.val,.slice ao k cap] w fun e w'=>e=.returned (.tuple #[.bool (feasB (csOf M) (rsOf M) ss),.int .i64 0]) ∧ Below w.heap.size w w':=by
 obtain ⟨a,b⟩:=h.valL 20 (by decide) hN h0
 obtain ⟨S,h3,h4⟩:=hx.rl
 have hl:=chkE_ok h0
 have c0:chkE M'=0:=h.1.chk.trans h0
 refine (pFeas_v h.2.1 h3 (by have:=hl.1;omega) (pckE_ok c0 h4 (by rw [h.1.ck];exact hk)) (fun _=>⟨a,b,hx.1,hx.2,by rw [csOf_len];exact hk⟩) (by decide)).mono ?_
 rintro e w' ⟨rfl,hb⟩
 exact ⟨by rw [decide_eq_true rfl,Bool.true_and],hb⟩
theorem valueSv_c {w:World} {M M':Mo} {ao:Option Addr} {k cap:Nat} {ss:List Rat} (h:Tm w M M') (hN:MoN M) (h0:chkE M=0) (hk:k=M.ck) (hx:Sv w ao k ss) :
  Calls Tryz.prog 25 #[M'.val,.slice ao k cap] w fun e w'=>∃ s x n c f y m d g,e=.returned (.tuple #[.agg #[.bool s,.slice x n c,.slice y m d],.int .i64 0]) ∧ Below w.heap.size w w' ∧ Hid (Rn (KV 20) w' s x n c f y m d g (valQ (nq M.off) (csOf M) ss)):=by
 obtain ⟨a,b⟩:=h.valL 20 (by decide) hN h0
 obtain ⟨S,h3,h4⟩:=hx.rl
 have hl:=chkE_ok h0
 have c0:chkE M'=0:=h.1.chk.trans h0
 refine (pValue_v h.2.1 h3 (by have:=hl.1;omega) (pckE_ok c0 h4 (by rw [h.1.ck];exact hk)) (fun _=>⟨a,b,hx.1,hx.2,by rw [csOf_len];exact hk⟩) (by decide)).mono ?_
 rintro e w' ⟨hb,⟨h9,_⟩ | ⟨_,s,x,n,c,f,y,m,d,g,rfl,hr⟩⟩
 ·exact absurd rfl h9
 ·exact ⟨s,x,n,c,f,y,m,d,g,rfl,hb,hid hr⟩
theorem alongTv_c {w:World} {M:Mo} {ax:Option Addr} {kx capx:Nat} {Y Y':Nat → Nm} {ao:Option Addr} {k cap:Nat} {X X':Nat → Nm} {ts:Bool} {tx:Option Addr} {tn tc:Nat} {tf:Nat → Int} {ty:Option Addr} {tm td:Nat} {tg:Nat → Int} {t:Rat} (hy:Tx w ax kx Y Y') (hsy:Sh kx Y) (hx:Tx w ao k X X') (hs:Sh k X) (ht:Rn 6 w ts tx tn tc tf ty tm td tg t) (h1:pckE M kx Y=0) (h2:pckE M k X=0) :
  Calls Tryz.prog 17 #[.agg #[.slice ax kx capx,.slice ao k cap],.agg #[.bool ts,.slice tx tn tc,.slice ty tm td]] w fun e w'=>∃ a c,e=.returned (.tuple #[.slice a kx c,.int .i64 0]) ∧ Below w.heap.size w w' ∧ (kx ≤ c ∧ c ≤ 9223372036854775807) ∧ Hid (Sv w' a kx (alng (psOf kx Y) (psOf k X) t)):=by
 obtain ⟨_,a1,b1⟩:=pckE_two h1
 obtain ⟨_,a2,b2⟩:=pckE_two h2
 have r1:=hy.val hsy a1;have r2:=hx.val hs a2
 have hl:=hsy.1
 refine (rAlong_q (L:=6) r1 (psOf_len _ _) r2 (psOf_len _ _) (by omega) ht (by decide) (by omega)).mono ?_
 rintro e w' ⟨a,c,rfl,hb,hc,hr⟩
 refine ⟨a,c,rfl,hb,hc,hid ⟨?_,?_⟩⟩
 ·exact hr.out.cut (fun q hq=>Lo.mono (alngT_lo (K:=6) (ht.lo ht.ln ht.ld) r1.lo r2.lo q hq) (by decide))
 ·exact (alng_len (by rw [psOf_len,psOf_len];omega)).trans (psOf_len _ _)
/-- What RayGoes says of its answers. -/
theorem goes_v {M:Mo} {kx k:Nat} {Y X:Nat → Nm} {t:Rat} (ht:0 ≤ t) (h1:rcM M k X=true) (h2:pckE M kx Y=0) (h3:feasB (csOf M) (rsOf M) (psOf kx Y)=true) :
  (chkE M=0 ∧ pckE M k X=0 ∧ kx=M.ck) ∧ feasB (csOf M) (rsOf M) (alng (psOf kx Y) (psOf k X) t)=true ∧
  (vlM M kx Y k X=true → t ≠ 0 → valQ (nq M.off) (csOf M) (alng (psOf kx Y) (psOf k X) t) < valQ (nq M.off) (csOf M) (psOf kx Y)):=by
 unfold rcM at h1
 simp only [recB,Bool.and_eq_true,decide_eq_true_eq] at h1
 obtain ⟨c0,p1,e1⟩:=h1
 obtain ⟨_,_,k1⟩:=pckE_two p1
 obtain ⟨_,_,k2⟩:=pckE_two h2
 have hl:(psOf kx Y).length=(psOf k X).length:=by rw [psOf_len,psOf_len];omega
 refine ⟨⟨c0,p1,k2⟩,feas_along ht hl h3 e1,fun v hn=>?_⟩
 unfold vlM valB at v
 simp only [Bool.and_eq_true,decide_eq_true_eq] at v
 have s:=v.2.2
 rw [val_along hl]
 have:=Rat.mul_pos (show (0:Rat) < t by grind) (show (0:Rat) < -slpQ (csOf M) (psOf k X) by grind)
 grind
theorem goes_not {M:Mo} {kx k:Nat} {Y X:Nat → Nm} (h:¬(rcM M k X=true ∧ pckE M kx Y=0 ∧ feasB (csOf M) (rsOf M) (psOf kx Y)=true)):vlM M kx Y k X=false:=by
 cases e:vlM M kx Y k X with
 | false=>rfl
 | true =>
  unfold vlM valB at e
  simp only [Bool.and_eq_true,decide_eq_true_eq] at e
  exact absurd ⟨e.1,e.2.1.1,e.2.1.2⟩ h
theorem twinTm_c {w:World} {M:Mo} (hX:MoX w M) (hN:MoN M) (hk:M.ck ≤ 64 → M.rk ≤ 64 → MoK 6 M):Calls Tryz.prog 10 #[M.val] w fun e w'=>∃ (vm:Value) (M':Mo),e=.returned vm ∧ Below w.heap.size w w' ∧ Hid (vm=M'.val ∧ Tm w' M M') :=
 (twin_w (K:=6) hX hN hk (by decide)).mono fun e w' ⟨M',h1,h2,h3,h4,h5,h6⟩=>⟨M'.val,M',h1,h2,hid ⟨rfl,h3,h4,h5,h6⟩⟩
theorem twinsTx_c {w:World} {ao:Option Addr} {k cap:Nat} {X:Nat → Nm} (h:Rl w ao k X) (hs:Sh k X):Calls Tryz.prog 14 #[.slice ao k cap] w fun e w'=>∃ (a:Option Addr) (c:Nat) (X':Nat → Nm),e=.returned (.slice a k c) ∧ Below w.heap.size w w' ∧ (k ≤ c ∧ c ≤ 9223372036854775807) ∧ Hid (Tx w' a k X X') :=
 (twins_c h (by have:=hs.1;omega) (fun j hj=>by have:=hs.2 j hj;omega)).mono fun e w' ⟨a,c,X',h1,h2,h3,h4⟩=>⟨a,c,X',h1,h2,h3,hid h4.out⟩
theorem twinRay_c {w:World} {ax:Option Addr} {kx capx:Nat} {Y:Nat → Nm} {ao:Option Addr} {k cap:Nat} {X:Nat → Nm} (hy:Rl w ax kx Y) (sy:Sh kx Y) (hx:Rl w ao k X) (sx:Sh k X):Calls Tryz.prog 11 #[.agg #[.slice ax kx capx,.slice ao k cap]] w fun e w'=>∃ (b:Option Addr) (c1:Nat) (Y':Nat → Nm) (b2:Option Addr) (c2:Nat) (X':Nat → Nm),e=.returned (.agg #[.slice b kx c1,.slice b2 k c2]) ∧ Below w.heap.size w w' ∧ Hid (Tx w' b kx Y Y' ∧ Tx w' b2 k X X') :=
 (twin13_c hy hx (by have:=sy.1;omega) (by have:=sx.1;omega) (fun j hj=>by have:=sy.2 j hj;omega) (fun j hj=>by have:=sx.2 j hj;omega)).mono fun e w' ⟨bx,cx,Y',bo,co,X',h1,h2,_,h4⟩=>⟨bx,cx,Y',bo,co,X',h1,h2,hid ⟨h4.out.1,h4.out.2⟩⟩
/-- A box with a number, behind a region that makes it. -/
structure RBx (K:Nat) (w0 wy:World) (B:Nat) (s:Bool) (x:Option Addr) (n c:Nat) (f:Nat → Int) (y:Option Addr) (m d:Nat) (g:Nat → Int) (q:Rat):Prop where
 bel:Below w0.heap.size w0 wy
 box:Bx3 wy B (.bool s) (.slice x n c) (.slice y m d)
 num:Rn K wy s x n c f y m d g q
theorem rbx_a {K:Nat} {w0 v:World} {t:TypeId} {s x n c f y m d g q} (hb:Below w0.heap.size w0 v) (h:Rn K v s x n c f y m d g q):RBx K w0 (v.alloc (.cells #[.bool s,.slice x n c,.slice y m d] t)) v.heap.size s x n c f y m d g q :=
 ⟨below_alloc hb _,bx3_at v _ _ _ t,h.below (below_alloc (Below.refl _ _) _)⟩
theorem rbx_s {K:Nat} {w0 v:World} {B:Nat} {s x n c f y m d g q} (hb:Below w0.heap.size w0 v) (h:Rn K v s x n c f y m d g q) (ho:Ob v B) (hB:w0.heap.size ≤ B):RBx K w0 (((v.setCell ⟨B,0,none⟩ (.bool s)).setCell ⟨B,1,none⟩ (.slice x n c)).setCell ⟨B,2,none⟩ (.slice y m d)) B s x n c f y m d g q:=by
 have e0:=kI0 ho.z0;have e1:=kI0 ho.z1;have e2:=kI0 ho.z2
 exact ⟨below_st hb hB,⟨by simpa [World.setCell] using ho.z,kCo (by decide) (kCo (by decide) (kCe e0)),kCo (by decide) (kCe (kIs e1)),kCe (kIs (kIs e2))⟩,ho.rn h⟩
theorem obAt9 {w:World} {t:TypeId} {B:Nat} (h:B=w.heap.size):Ob (w.alloc (.cells #[.bool false,.slice none 0 0,.slice none 0 0] t)) B:=by subst h;exact ob_new w t
theorem kObA9 {w:World} {B:Nat} {o:Obj} (h:Ob w B):Ob (w.alloc o) B:=h.alloc o
/-- What is handed to RayGoes, once it is light. -/
structure Cg13 (w:World) (M:Mo) (ax:Option Addr) (kx:Nat) (Y:Nat → Nm) (ao:Option Addr) (ko:Nat) (X:Nat → Nm):Prop where
 x:MoX w M
 n:MoN M
 k:M.ck ≤ 64 → M.rk ≤ 64 → MoK 6 M
 hy:Rl w ax kx Y
 hx:Rl w ao ko X
 sy:Sh kx Y
 sx:Sh ko X
set_option maxRecDepth 100000 in
set_option maxHeartbeats 8000000 in
theorem rayGoes_c {w:World} {M:Mo} {ax:Option Addr} {kx cx:Nat} {Y:Nat → Nm} {ao:Option Addr} {ko co:Nat} {X:Nat → Nm} {ts:Bool} {tx:Option Addr} {tn tc:Nat} {tf:Nat → Int} {ty:Option Addr} {tm td:Nat} {tg:Nat → Int} (hX:MoX w M) (hN:MoN M) (hy:Rr w ax kx Y) (hx:Rr w ao ko X) (hkx:kx ≤ 9223372036854775807) (hko:ko ≤ 9223372036854775807) (ht:Rw w tx tn tc tf ty tm td tg) :
  Calls Tryz.prog 5 #[M.val,.agg #[.slice ax kx cx,.slice ao ko co],.agg #[.bool ts,.slice tx tn tc,.slice ty tm td]] w fun e w'=>e=.returned (.bool true) ∧ Below w.heap.size w w':=by
 obtain ⟨lb,hlb⟩:∃ t,lgM 6 M=t:=⟨_,rfl⟩
 obtain ⟨la,hla⟩:∃ t,(lgL 6 kx Y && lgL 6 ko X)=t:=⟨_,rfl⟩
 obtain ⟨lt,hlt⟩:∃ t,lg tn tm 6=t:=⟨_,rfl⟩
 obtain ⟨lf,hlf⟩:∃ t,rfB ts tf tn tg tm=t:=⟨_,rfl⟩
 obtain ⟨q,hq⟩:∃ t,nq ⟨ts,tx,tn,tc,tf,ty,tm,td,tg⟩=t:=⟨_,rfl⟩
 have CL:=hid (fun w' (hw:Below w.heap.size w w')=>mLight_c (w:=w') (K:=6) (hX.below hw).light.1 (hX.below hw).light.2)
 rw [hlb] at CL
 have CA:=hid (fun w' (hw:Below w.heap.size w w')=>light13_c (capx:=cx) (cap:=co) 6 (hy.below hw) (hx.below hw) hkx hko)
 rw [hla] at CA
 have CT:=hid (fun w'=>rLightK_c 6 ts tx ty tn tc tm td w')
 rw [hlt] at CT
 have CF:Hid (lt=true → ∀ w',Below w.heap.size w w' → Calls Tryz.prog 21 #[.agg #[.bool ts,.slice tx tn tc,.slice ty tm td]] w' fun e w2=>e=.returned (.bool lf) ∧ Below w'.heap.size w' w2):=fun e w' hw=>by
  subst e
  simp only [lg,Bool.and_eq_true,decide_eq_true_eq] at hlt
  have:=qForm_c (s:=ts) (ht.below hw) (by omega) (by omega)
  rw [hlf] at this
  exact this
 have HR:Hid (lt=true → lf=true → ∀ W,Below w.heap.size w W → Rn 6 W ts tx tn tc tf ty tm td tg q):=fun e1 e2 W hW=>by
  subst e1;subst e2
  simp only [lg,Bool.and_eq_true,decide_eq_true_eq] at hlt
  have:=NmS.val (K:=6) (t:=⟨ts,tx,tn,tc,tf,ty,tm,td,tg⟩) (w:=W) ⟨ht.below hW,by show tn ≤ _;omega,by show tm ≤ _;omega⟩ hlf hlt
  rw [hq] at this
  exact this
 obtain ⟨N,hN'⟩:∃ N,N=M:=⟨_,rfl⟩
 have HC:Hid (lb=true → la=true → Cg13 w N ax kx Y ao ko X):=fun e1 e2=>by
  subst hN'
  subst e1;subst e2
  simp only [Bool.and_eq_true] at hla
  have q1:=hla.1;have q2:=hla.2
  refine ⟨hX,hN,lgM_k hlb,?_,?_,lgL_sh q1,lgL_sh q2⟩
  ·simp only [lgL,Bool.and_eq_true] at q1;exact hy.rl q1.2 (by decide)
  ·simp only [lgL,Bool.and_eq_true] at q2;exact hx.rl q2.2 (by decide)
 clear hX hN hy hx ht hlb hla hlt hlf hq hkx hko
 obtain ⟨⟨s,x,n,c,f,y,m,d,g⟩,ca,ck,cc,C,ra,rk,rc,R⟩:=M
 have hNv:Hid (N.val=.agg #[.bool s,.slice x n c,.slice y m d,.slice ca ck cc,.slice ra rk rc]):=by rw [hN'];exact rfl
 clear hN'
 replace CL:Hid (∀ w',Below w.heap.size w w' → Calls Tryz.prog 7 #[.agg #[.bool s,.slice x n c,.slice y m d,.slice ca ck cc,.slice ra rk rc],.int .i64 6] w' fun e w2=>e=.returned (.bool lb) ∧ Below w'.heap.size w' w2):=CL
 replace CA:Hid (∀ w',Below w.heap.size w w' → Calls Tryz.prog 8 #[.agg #[.slice ax kx cx,.slice ao ko co],.int .i64 6] w' fun e w2=>e=.returned (.bool la) ∧ Below w'.heap.size w' w2):=CA
 replace CT:Hid (∀ w',Calls Tryz.prog 16 #[.agg #[.bool ts,.slice tx tn tc,.slice ty tm td],.int .i64 6] w' fun e w2=>e=.returned (.bool lt) ∧ Below w'.heap.size w' w2):=CT
 show Calls Tryz.prog 5 #[.agg #[.bool s,.slice x n c,.slice y m d,.slice ca ck cc,.slice ra rk rc],.agg #[.slice ax kx cx,.slice ao ko co],.agg #[.bool ts,.slice tx tn tc,.slice ty tm td]] w _
 have HB:=hid (below_alloc (below_alloc (below_alloc (Below.refl w.heap.size w) (.cells #[.bool s,.slice x n c,.slice y m d,.slice ca ck cc,.slice ra rk rc] 28)) (.cells #[.slice ax kx cx,.slice ao ko co] 31)) (.cells #[.bool ts,.slice tx tn tc,.slice ty tm td] 24))
 have BM:Hid (Bk (((w.alloc (.cells #[.bool s,.slice x n c,.slice y m d,.slice ca ck cc,.slice ra rk rc] 28)).alloc (.cells #[.slice ax kx cx,.slice ao ko co] 31)).alloc (.cells #[.bool ts,.slice tx tn tc,.slice ty tm td] 24)) w.heap.size [.bool s,.slice x n c,.slice y m d,.slice ca ck cc,.slice ra rk rc] 28):=((bk_new w [.bool s,.slice x n c,.slice y m d,.slice ca ck cc,.slice ra rk rc] 28).below (below_alloc (Below.refl _ _) _)).below (below_alloc (Below.refl _ _) _)
 have BA:Hid (Bk (((w.alloc (.cells #[.bool s,.slice x n c,.slice y m d,.slice ca ck cc,.slice ra rk rc] 28)).alloc (.cells #[.slice ax kx cx,.slice ao ko co] 31)).alloc (.cells #[.bool ts,.slice tx tn tc,.slice ty tm td] 24)) (w.heap.size + 1) [.slice ax kx cx,.slice ao ko co] 31):=by
  have:=(bk_new (w.alloc (.cells #[.bool s,.slice x n c,.slice y m d,.slice ca ck cc,.slice ra rk rc] 28)) [.slice ax kx cx,.slice ao ko co] 31).below (below_alloc (Below.refl _ _) (.cells #[.bool ts,.slice tx tn tc,.slice ty tm td] 24))
  rw [size_alloc1] at this;exact this
 have BB:Hid (Bk (((w.alloc (.cells #[.bool s,.slice x n c,.slice y m d,.slice ca ck cc,.slice ra rk rc] 28)).alloc (.cells #[.slice ax kx cx,.slice ao ko co] 31)).alloc (.cells #[.bool ts,.slice tx tn tc,.slice ty tm td] 24)) (w.heap.size + 1 + 1) [.bool ts,.slice tx tn tc,.slice ty tm td] 24):=by
  have:=bk_new ((w.alloc (.cells #[.bool s,.slice x n c,.slice y m d,.slice ca ck cc,.slice ra rk rc] 28)).alloc (.cells #[.slice ax kx cx,.slice ao ko co] 31)) [.bool ts,.slice tx tn tc,.slice ty tm td] 24
  rw [size_alloc1,size_alloc1] at this;exact this
 go_enter Tryz.func5,Tryz.ntmps5
 go_wp2_with fail
 generalize (((w.alloc (.cells #[.bool s,.slice x n c,.slice y m d,.slice ca ck cc,.slice ra rk rc] 28)).alloc (.cells #[.slice ax kx cx,.slice ao ko co] 31)).alloc (.cells #[.bool ts,.slice tx tn tc,.slice ty tm td] 24))=v0 at *
 refine (awake13_c _).mono ?_
 rintro e v1 ⟨rfl,hb⟩
 replace HB:=hid (HB.out.trans (hb.mono HB.out.size));replace BM:=hid (BM.out.below hb);replace BA:=hid (BA.out.below hb);replace BB:=hid (BB.out.below hb)
 clear hb
 have r0:=BM.out.cell (j:=0) rfl
 have r1:=BM.out.cell (j:=1) rfl
 have r2:=BM.out.cell (j:=2) rfl
 have r3:=BM.out.cell (j:=3) rfl
 have r4:=BM.out.cell (j:=4) rfl
 go_wp2_with fail
 clear r0 r1 r2 r3 r4
 refine (CL.out _ HB.out).mono ?_
 rintro e v2 ⟨rfl,hb⟩
 replace HB:=hid (HB.out.trans (hb.mono HB.out.size));replace BM:=hid (BM.out.below hb);replace BA:=hid (BA.out.below hb);replace BB:=hid (BB.out.below hb)
 clear hb
 clear CL
 cases lb
 ·go_wp2
  go_ret
  exact ⟨rfl,HB.out⟩
 have a0:=BA.out.cell (j:=0) rfl
 have a1:=BA.out.cell (j:=1) rfl
 go_wp2_with fail
 clear a0 a1
 refine (CA.out _ HB.out).mono ?_
 rintro e v3 ⟨rfl,hb⟩
 replace HB:=hid (HB.out.trans (hb.mono HB.out.size));replace BM:=hid (BM.out.below hb);replace BA:=hid (BA.out.below hb);replace BB:=hid (BB.out.below hb)
 clear hb
 clear CA
 cases la
 ·go_wp2
  go_ret
  exact ⟨rfl,HB.out⟩
 have b0:=BB.out.cell (j:=0) rfl
 have b1:=BB.out.cell (j:=1) rfl
 have b2:=BB.out.cell (j:=2) rfl
 go_wp2_with fail
 clear b0 b1 b2
 refine (CT.out _).mono ?_
 rintro e v4 ⟨rfl,hb⟩
 replace HB:=hid (HB.out.trans (hb.mono HB.out.size));replace BM:=hid (BM.out.below hb);replace BA:=hid (BA.out.below hb);replace BB:=hid (BB.out.below hb)
 clear hb
 clear CT
 cases lt
 ·go_wp2
  go_ret
  exact ⟨rfl,HB.out⟩
 have b0:=BB.out.cell (j:=0) rfl
 have b1:=BB.out.cell (j:=1) rfl
 have b2:=BB.out.cell (j:=2) rfl
 go_wp2_with fail
 clear b0 b1 b2
 refine (CF.out (by first | rfl | trivial) _ HB.out).mono ?_
 rintro e v5 ⟨rfl,hb⟩
 replace HB:=hid (HB.out.trans (hb.mono HB.out.size));replace BM:=hid (BM.out.below hb);replace BA:=hid (BA.out.below hb);replace BB:=hid (BB.out.below hb)
 clear hb
 clear CF
 cases lf
 ·go_wp2
  go_ret
  exact ⟨rfl,HB.out⟩
 replace HR:=hid (HR.out (by first | rfl | trivial) (by first | rfl | trivial))
 replace HC:=hid (HC.out (by first | rfl | trivial) (by first | rfl | trivial))
 have b0:=BB.out.cell (j:=0) rfl
 have b1:=BB.out.cell (j:=1) rfl
 have b2:=BB.out.cell (j:=2) rfl
 go_wp2_with fail
 clear b0 b1 b2
 refine (qFrom_c (HR.out _ HB.out) (by decide)).mono ?_
 rintro e v6 ⟨s1,x1,n1,c1,f1,y1,m1,d1,g1,rfl,hb,hn1,hm1,hQ⟩
 have HQ:=hid hQ
 replace HB:=hid (HB.out.trans (hb.mono HB.out.size));replace BM:=hid (BM.out.below hb);replace BA:=hid (BA.out.below hb);replace BB:=hid (BB.out.below hb)
 clear hb
 clear hQ
 go_wp2_with fail
 refine (qSign_c HQ.out (by omega)).mono ?_
 rintro e v7 ⟨c0,rfl,hb,ho⟩
 replace HB:=hid (HB.out.trans (hb.mono HB.out.size));replace BM:=hid (BM.out.below hb);replace BA:=hid (BA.out.below hb);replace BB:=hid (BB.out.below hb)
 clear hb
 clear HQ hn1 hm1
 by_cases hc:c0 < 0
 ·clear ho
  go_wp2
  go_ret
  exact ⟨rfl,HB.out⟩
 have H0:Hid (0 ≤ q):=by
  rcases ho with ⟨h1,h2⟩ | ⟨h1,h2⟩ | ⟨h1,h2⟩
  ·omega
  ·exact Rat.num_nonneg.1 (by omega)
  ·exact Rat.num_nonneg.1 (by omega)
 clear ho
 have T1:Hid (∀ W,Below w.heap.size w W → Calls Tryz.prog 10 #[.agg #[.bool s,.slice x n c,.slice y m d,.slice ca ck cc,.slice ra rk rc]] W fun e w'=>∃ (vm:Value) (M':Mo),e=.returned vm ∧ Below W.heap.size W w' ∧ Hid (vm=M'.val ∧ Tm w' N M')):=fun W hW=>by
  have:=twinTm_c (HC.out.x.below hW) HC.out.n HC.out.k
  rw [hNv.out] at this
  exact this
 have TX:=hid (fun W (hW:Below w.heap.size w W)=>twinsTx_c (cap:=co) (HC.out.hx.below hW) HC.out.sx)
 have TY:=hid (fun W (hW:Below w.heap.size w W)=>twinsTx_c (cap:=cx) (HC.out.hy.below hW) HC.out.sy)
 have RA:=hid (fun W (hW:Below w.heap.size w W)=>twinRay_c (capx:=cx) (cap:=co) (HC.out.hy.below hW) HC.out.sy (HC.out.hx.below hW) HC.out.sx)
 obtain ⟨rr,hr1⟩:∃ t,rcM N ko X=t:=⟨_,rfl⟩
 obtain ⟨ec,hec⟩:∃ t,chkE N=t:=⟨_,rfl⟩
 obtain ⟨ex,hex⟩:∃ t,pckE N kx Y=t:=⟨_,rfl⟩
 obtain ⟨fe,hfe⟩:∃ t,(decide (pckE N kx Y=0) && feasB (csOf N) (rsOf N) (psOf kx Y))=t:=⟨_,rfl⟩
 obtain ⟨x1,hx1⟩:∃ t,vlM N kx Y ko X=t:=⟨_,rfl⟩
 have RX:Hid (∀ W vm M' a X' c,(vm=M'.val ∧ Tm W N M') → Tx W a ko X X' → Calls Tryz.prog 13 #[vm,.slice a ko c] W fun e w'=>e=.returned (.tuple #[.bool rr,.int .i64 ec]) ∧ Below W.heap.size W w'):=fun W vm M' a X' c h1 h2=>by
  have:=recTw_c (cap:=c) h1.2 HC.out.n h2 HC.out.sx
  rw [hr1,hec,← h1.1] at this;exact this
 have FY:Hid (∀ W vm M' a X' c,(vm=M'.val ∧ Tm W N M') → Tx W a kx Y X' → Calls Tryz.prog 24 #[vm,.slice a kx c] W fun e w'=>e=.returned (.tuple #[.bool fe,.int .i64 ex]) ∧ Below W.heap.size W w'):=fun W vm M' a X' c h1 h2=>by
  have:=feasTw_c (cap:=c) h1.2 HC.out.n h2 HC.out.sy
  rw [hfe,hex,← h1.1] at this;exact this
 have VA:Hid (∀ W vm M' z2 c2 Y2 z3 c3 X3,(vm=M'.val ∧ Tm W N M') → (Tx W z2 kx Y Y2 ∧ Tx W z3 ko X X3) → Calls Tryz.prog 9 #[vm,.agg #[.slice z2 kx c2,.slice z3 ko c3]] W fun e w'=>e=.returned (.tuple #[.bool x1,.int .i64 ec]) ∧ Below W.heap.size W w'):=fun W vm M' z2 c2 Y2 z3 c3 X3 h1 h2=>by
  have:=validTw_c (capx:=c2) (cap:=c3) h1.2 HC.out.n h2.1 HC.out.sy h2.2 HC.out.sx
  rw [hx1,hec,← h1.1] at this;exact this
 have NO:Hid (¬(ec=0 ∧ ex=0 ∧ rr=true ∧ fe=true) → x1=false):=fun h=>by
  rw [← hx1]
  refine goes_not (fun h2=>h ?_)
  have e1:=h2.1
  unfold rcM at e1
  simp only [recB,Bool.and_eq_true,decide_eq_true_eq] at e1
  refine ⟨hec ▸ e1.1,hex ▸ h2.2.1,hr1 ▸ h2.1,?_⟩
  rw [← hfe,decide_eq_true h2.2.1,h2.2.2];rfl
 go_upto_region 5 with fail
 have r0:=BM.out.cell (j:=0) rfl
 have r1:=BM.out.cell (j:=1) rfl
 have r2:=BM.out.cell (j:=2) rfl
 have r3:=BM.out.cell (j:=3) rfl
 have r4:=BM.out.cell (j:=4) rfl
 have a0:=BA.out.cell (j:=0) rfl
 have a1:=BA.out.cell (j:=1) rfl
 have b0:=BB.out.cell (j:=0) rfl
 have b1:=BB.out.cell (j:=1) rfl
 have b2:=BB.out.cell (j:=2) rfl
 have T1n:=hid (fun W (hW:Below v7.heap.size v7 W)=>T1.out W (HB.out.trans (hW.mono HB.out.size)))
 have TXn:=hid (fun W (hW:Below v7.heap.size v7 W)=>TX.out W (HB.out.trans (hW.mono HB.out.size)))
 go_region_held3 (fun w'=>w'.cell? ⟨w.heap.size,0,none⟩=some (.bool s) ∧ w'.cell? ⟨w.heap.size,1,none⟩=some (.slice x n c) ∧ w'.cell? ⟨w.heap.size,2,none⟩=some (.slice y m d) ∧ w'.cell? ⟨w.heap.size,3,none⟩=some (.slice ca ck cc) ∧ w'.cell? ⟨w.heap.size,4,none⟩=some (.slice ra rk rc) ∧ w'.cell? ⟨w.heap.size + 1,0,none⟩=some (.slice ax kx cx) ∧ w'.cell? ⟨w.heap.size + 1,1,none⟩=some (.slice ao ko co) ∧ w'.cell? ⟨w.heap.size + 1 + 1,0,none⟩=some (.bool ts) ∧ w'.cell? ⟨w.heap.size + 1 + 1,1,none⟩=some (.slice tx tn tc) ∧ w'.cell? ⟨w.heap.size + 1 + 1,2,none⟩=some (.slice ty tm td))
  (refine ⟨?_,?_,?_,?_,?_,?_,?_,?_,?_,?_⟩ <;> repeat (with_reducible first | assumption | refine kCd ?_ | refine kCb (by assumption) ?_))
  (first
   | (go_at_call 10;with_reducible refine (T1n.out _ (by repeat (with_reducible first | assumption | exact Below.refl _ _ | refine Below.drew ?_ | refine kBa ?_ | refine kBb (by assumption) ?_))).mono ?_;rintro e u1 ⟨vm,M1,rfl,hb1,H1⟩)
   | (go_at_call 14;with_reducible refine (TXn.out _ (by repeat (with_reducible first | assumption | exact Below.refl _ _ | refine Below.drew ?_ | refine kBa ?_ | refine kBb (by assumption) ?_))).mono ?_;rintro e u2 ⟨z2,c2,X2,rfl,hb2,hc2,H2⟩)
   | (go_at_call 13;with_reducible refine (RX.out _ vm M1 z2 X2 c2 ⟨H1.out.1,H1.out.2.below (by repeat (with_reducible first | assumption | exact Below.refl _ _ | refine Below.drew ?_ | refine kBa ?_ | refine kBb (by assumption) ?_))⟩ (H2.out.below (by repeat (with_reducible first | assumption | exact Below.refl _ _ | refine Below.drew ?_ | refine kBa ?_ | refine kBb (by assumption) ?_)))).mono ?_;rintro e v8 ⟨rfl,hb3⟩))
 have hb:Below v7.heap.size v7 v8:=(by repeat (with_reducible first | assumption | exact Below.refl _ _ | refine Below.drew ?_ | refine kBa ?_ | refine kBb (by assumption) ?_))
 replace HB:=hid (HB.out.trans (hb.mono HB.out.size));replace BM:=hid (BM.out.below hb);replace BA:=hid (BA.out.below hb);replace BB:=hid (BB.out.below hb)
 clear hb r0 r1 r2 r3 r4 a0 a1 b0 b1 b2 T1n TXn hb1 hb2 hb3 H1 H2 hc2
 go_upto_region 6 with fail
 have r0:=BM.out.cell (j:=0) rfl
 have r1:=BM.out.cell (j:=1) rfl
 have r2:=BM.out.cell (j:=2) rfl
 have r3:=BM.out.cell (j:=3) rfl
 have r4:=BM.out.cell (j:=4) rfl
 have a0:=BA.out.cell (j:=0) rfl
 have a1:=BA.out.cell (j:=1) rfl
 have b0:=BB.out.cell (j:=0) rfl
 have b1:=BB.out.cell (j:=1) rfl
 have b2:=BB.out.cell (j:=2) rfl
 have T1n:=hid (fun W (hW:Below v8.heap.size v8 W)=>T1.out W (HB.out.trans (hW.mono HB.out.size)))
 have TYn:=hid (fun W (hW:Below v8.heap.size v8 W)=>TY.out W (HB.out.trans (hW.mono HB.out.size)))
 go_region_held3 (fun w'=>w'.cell? ⟨w.heap.size,0,none⟩=some (.bool s) ∧ w'.cell? ⟨w.heap.size,1,none⟩=some (.slice x n c) ∧ w'.cell? ⟨w.heap.size,2,none⟩=some (.slice y m d) ∧ w'.cell? ⟨w.heap.size,3,none⟩=some (.slice ca ck cc) ∧ w'.cell? ⟨w.heap.size,4,none⟩=some (.slice ra rk rc) ∧ w'.cell? ⟨w.heap.size + 1,0,none⟩=some (.slice ax kx cx) ∧ w'.cell? ⟨w.heap.size + 1,1,none⟩=some (.slice ao ko co) ∧ w'.cell? ⟨w.heap.size + 1 + 1,0,none⟩=some (.bool ts) ∧ w'.cell? ⟨w.heap.size + 1 + 1,1,none⟩=some (.slice tx tn tc) ∧ w'.cell? ⟨w.heap.size + 1 + 1,2,none⟩=some (.slice ty tm td))
  (refine ⟨?_,?_,?_,?_,?_,?_,?_,?_,?_,?_⟩ <;> repeat (with_reducible first | assumption | refine kCd ?_ | refine kCb (by assumption) ?_))
  (first
   | (go_at_call 10;with_reducible refine (T1n.out _ (by repeat (with_reducible first | assumption | exact Below.refl _ _ | refine Below.drew ?_ | refine kBa ?_ | refine kBb (by assumption) ?_))).mono ?_;rintro e u1 ⟨vm,M1,rfl,hb1,H1⟩)
   | (go_at_call 14;with_reducible refine (TYn.out _ (by repeat (with_reducible first | assumption | exact Below.refl _ _ | refine Below.drew ?_ | refine kBa ?_ | refine kBb (by assumption) ?_))).mono ?_;rintro e u2 ⟨z2,c2,X2,rfl,hb2,hc2,H2⟩)
   | (go_at_call 24;with_reducible refine (FY.out _ vm M1 z2 X2 c2 ⟨H1.out.1,H1.out.2.below (by repeat (with_reducible first | assumption | exact Below.refl _ _ | refine Below.drew ?_ | refine kBa ?_ | refine kBb (by assumption) ?_))⟩ (H2.out.below (by repeat (with_reducible first | assumption | exact Below.refl _ _ | refine Below.drew ?_ | refine kBa ?_ | refine kBb (by assumption) ?_)))).mono ?_;rintro e v9 ⟨rfl,hb3⟩))
 have hb:Below v8.heap.size v8 v9:=(by repeat (with_reducible first | assumption | exact Below.refl _ _ | refine Below.drew ?_ | refine kBa ?_ | refine kBb (by assumption) ?_))
 replace HB:=hid (HB.out.trans (hb.mono HB.out.size));replace BM:=hid (BM.out.below hb);replace BA:=hid (BA.out.below hb);replace BB:=hid (BB.out.below hb)
 clear hb r0 r1 r2 r3 r4 a0 a1 b0 b1 b2 T1n TYn hb1 hb2 hb3 H1 H2 hc2
 by_cases h0:ec=0
 case neg =>
  have h1:(ec != 0)=true:=by simpa using h0
  have hno:x1=false:=NO.out (by rintro ⟨a,_⟩;exact h0 a)
  subst hno
  clear NO hr1 hec hex hfe hx1
  go_upto_region 8 with fail
  have r0:=BM.out.cell (j:=0) rfl
  have r1:=BM.out.cell (j:=1) rfl
  have r2:=BM.out.cell (j:=2) rfl
  have r3:=BM.out.cell (j:=3) rfl
  have r4:=BM.out.cell (j:=4) rfl
  have a0:=BA.out.cell (j:=0) rfl
  have a1:=BA.out.cell (j:=1) rfl
  have b0:=BB.out.cell (j:=0) rfl
  have b1:=BB.out.cell (j:=1) rfl
  have b2:=BB.out.cell (j:=2) rfl
  have T1n:=hid (fun W (hW:Below v9.heap.size v9 W)=>T1.out W (HB.out.trans (hW.mono HB.out.size)))
  have RAn:=hid (fun W (hW:Below v9.heap.size v9 W)=>RA.out W (HB.out.trans (hW.mono HB.out.size)))
  go_region_held3 (fun w'=>w'.cell? ⟨w.heap.size,0,none⟩=some (.bool s) ∧ w'.cell? ⟨w.heap.size,1,none⟩=some (.slice x n c) ∧ w'.cell? ⟨w.heap.size,2,none⟩=some (.slice y m d) ∧ w'.cell? ⟨w.heap.size,3,none⟩=some (.slice ca ck cc) ∧ w'.cell? ⟨w.heap.size,4,none⟩=some (.slice ra rk rc) ∧ w'.cell? ⟨w.heap.size + 1,0,none⟩=some (.slice ax kx cx) ∧ w'.cell? ⟨w.heap.size + 1,1,none⟩=some (.slice ao ko co) ∧ w'.cell? ⟨w.heap.size + 1 + 1,0,none⟩=some (.bool ts) ∧ w'.cell? ⟨w.heap.size + 1 + 1,1,none⟩=some (.slice tx tn tc) ∧ w'.cell? ⟨w.heap.size + 1 + 1,2,none⟩=some (.slice ty tm td))
   (refine ⟨?_,?_,?_,?_,?_,?_,?_,?_,?_,?_⟩ <;> repeat (with_reducible first | assumption | refine kCd ?_ | refine kCb (by assumption) ?_))
   (first
    | (go_at_call 10;with_reducible refine (T1n.out _ (by repeat (with_reducible first | assumption | exact Below.refl _ _ | refine Below.drew ?_ | refine kBa ?_ | refine kBb (by assumption) ?_))).mono ?_;rintro e u1 ⟨vm,M1,rfl,hb1,H1⟩)
    | (go_at_call 11;with_reducible refine (RAn.out _ (by repeat (with_reducible first | assumption | exact Below.refl _ _ | refine Below.drew ?_ | refine kBa ?_ | refine kBb (by assumption) ?_))).mono ?_;rintro e u2 ⟨z2,c2,Y2,z3,c3,X3,rfl,hb2,H2⟩)
    | (go_at_call 9;with_reducible refine (VA.out _ vm M1 z2 c2 Y2 z3 c3 X3 ⟨H1.out.1,H1.out.2.below (by repeat (with_reducible first | assumption | exact Below.refl _ _ | refine Below.drew ?_ | refine kBa ?_ | refine kBb (by assumption) ?_))⟩ ⟨H2.out.1.below (by repeat (with_reducible first | assumption | exact Below.refl _ _ | refine Below.drew ?_ | refine kBa ?_ | refine kBb (by assumption) ?_)),H2.out.2.below (by repeat (with_reducible first | assumption | exact Below.refl _ _ | refine Below.drew ?_ | refine kBa ?_ | refine kBb (by assumption) ?_))⟩).mono ?_;rintro e v10 ⟨rfl,hb3⟩))
  have hb:Below v9.heap.size v9 v10:=(by repeat (with_reducible first | assumption | exact Below.refl _ _ | refine Below.drew ?_ | refine kBa ?_ | refine kBb (by assumption) ?_))
  replace HB:=hid (HB.out.trans (hb.mono HB.out.size));replace BM:=hid (BM.out.below hb);replace BA:=hid (BA.out.below hb);replace BB:=hid (BB.out.below hb)
  clear hb r0 r1 r2 r3 r4 a0 a1 b0 b1 b2 T1n RAn hb1 hb2 hb3 H1 H2
  go_wp2
  go_ret
  exact ⟨rfl,HB.out⟩
 subst h0
 by_cases h0:ex=0
 case neg =>
  have h1:(ex != 0)=true:=by simpa using h0
  have hno:x1=false:=NO.out (by rintro ⟨_,a,_⟩;exact h0 a)
  subst hno
  clear NO hr1 hec hex hfe hx1
  go_upto_region 8 with fail
  have r0:=BM.out.cell (j:=0) rfl
  have r1:=BM.out.cell (j:=1) rfl
  have r2:=BM.out.cell (j:=2) rfl
  have r3:=BM.out.cell (j:=3) rfl
  have r4:=BM.out.cell (j:=4) rfl
  have a0:=BA.out.cell (j:=0) rfl
  have a1:=BA.out.cell (j:=1) rfl
  have b0:=BB.out.cell (j:=0) rfl
  have b1:=BB.out.cell (j:=1) rfl
  have b2:=BB.out.cell (j:=2) rfl
  have T1n:=hid (fun W (hW:Below v9.heap.size v9 W)=>T1.out W (HB.out.trans (hW.mono HB.out.size)))
  have RAn:=hid (fun W (hW:Below v9.heap.size v9 W)=>RA.out W (HB.out.trans (hW.mono HB.out.size)))
  go_region_held3 (fun w'=>w'.cell? ⟨w.heap.size,0,none⟩=some (.bool s) ∧ w'.cell? ⟨w.heap.size,1,none⟩=some (.slice x n c) ∧ w'.cell? ⟨w.heap.size,2,none⟩=some (.slice y m d) ∧ w'.cell? ⟨w.heap.size,3,none⟩=some (.slice ca ck cc) ∧ w'.cell? ⟨w.heap.size,4,none⟩=some (.slice ra rk rc) ∧ w'.cell? ⟨w.heap.size + 1,0,none⟩=some (.slice ax kx cx) ∧ w'.cell? ⟨w.heap.size + 1,1,none⟩=some (.slice ao ko co) ∧ w'.cell? ⟨w.heap.size + 1 + 1,0,none⟩=some (.bool ts) ∧ w'.cell? ⟨w.heap.size + 1 + 1,1,none⟩=some (.slice tx tn tc) ∧ w'.cell? ⟨w.heap.size + 1 + 1,2,none⟩=some (.slice ty tm td))
   (refine ⟨?_,?_,?_,?_,?_,?_,?_,?_,?_,?_⟩ <;> repeat (with_reducible first | assumption | refine kCd ?_ | refine kCb (by assumption) ?_))
   (first
    | (go_at_call 10;with_reducible refine (T1n.out _ (by repeat (with_reducible first | assumption | exact Below.refl _ _ | refine Below.drew ?_ | refine kBa ?_ | refine kBb (by assumption) ?_))).mono ?_;rintro e u1 ⟨vm,M1,rfl,hb1,H1⟩)
    | (go_at_call 11;with_reducible refine (RAn.out _ (by repeat (with_reducible first | assumption | exact Below.refl _ _ | refine Below.drew ?_ | refine kBa ?_ | refine kBb (by assumption) ?_))).mono ?_;rintro e u2 ⟨z2,c2,Y2,z3,c3,X3,rfl,hb2,H2⟩)
    | (go_at_call 9;with_reducible refine (VA.out _ vm M1 z2 c2 Y2 z3 c3 X3 ⟨H1.out.1,H1.out.2.below (by repeat (with_reducible first | assumption | exact Below.refl _ _ | refine Below.drew ?_ | refine kBa ?_ | refine kBb (by assumption) ?_))⟩ ⟨H2.out.1.below (by repeat (with_reducible first | assumption | exact Below.refl _ _ | refine Below.drew ?_ | refine kBa ?_ | refine kBb (by assumption) ?_)),H2.out.2.below (by repeat (with_reducible first | assumption | exact Below.refl _ _ | refine Below.drew ?_ | refine kBa ?_ | refine kBb (by assumption) ?_))⟩).mono ?_;rintro e v10 ⟨rfl,hb3⟩))
  have hb:Below v9.heap.size v9 v10:=(by repeat (with_reducible first | assumption | exact Below.refl _ _ | refine Below.drew ?_ | refine kBa ?_ | refine kBb (by assumption) ?_))
  replace HB:=hid (HB.out.trans (hb.mono HB.out.size));replace BM:=hid (BM.out.below hb);replace BA:=hid (BA.out.below hb);replace BB:=hid (BB.out.below hb)
  clear hb r0 r1 r2 r3 r4 a0 a1 b0 b1 b2 T1n RAn hb1 hb2 hb3 H1 H2
  go_wp2
  go_ret
  exact ⟨rfl,HB.out⟩
 subst h0
 cases rr
 case false =>
  have hno:x1=false:=NO.out (by rintro ⟨_,_,a,_⟩;cases a)
  subst hno
  clear NO hr1 hec hex hfe hx1
  go_upto_region 8 with fail
  have r0:=BM.out.cell (j:=0) rfl
  have r1:=BM.out.cell (j:=1) rfl
  have r2:=BM.out.cell (j:=2) rfl
  have r3:=BM.out.cell (j:=3) rfl
  have r4:=BM.out.cell (j:=4) rfl
  have a0:=BA.out.cell (j:=0) rfl
  have a1:=BA.out.cell (j:=1) rfl
  have b0:=BB.out.cell (j:=0) rfl
  have b1:=BB.out.cell (j:=1) rfl
  have b2:=BB.out.cell (j:=2) rfl
  have T1n:=hid (fun W (hW:Below v9.heap.size v9 W)=>T1.out W (HB.out.trans (hW.mono HB.out.size)))
  have RAn:=hid (fun W (hW:Below v9.heap.size v9 W)=>RA.out W (HB.out.trans (hW.mono HB.out.size)))
  go_region_held3 (fun w'=>w'.cell? ⟨w.heap.size,0,none⟩=some (.bool s) ∧ w'.cell? ⟨w.heap.size,1,none⟩=some (.slice x n c) ∧ w'.cell? ⟨w.heap.size,2,none⟩=some (.slice y m d) ∧ w'.cell? ⟨w.heap.size,3,none⟩=some (.slice ca ck cc) ∧ w'.cell? ⟨w.heap.size,4,none⟩=some (.slice ra rk rc) ∧ w'.cell? ⟨w.heap.size + 1,0,none⟩=some (.slice ax kx cx) ∧ w'.cell? ⟨w.heap.size + 1,1,none⟩=some (.slice ao ko co) ∧ w'.cell? ⟨w.heap.size + 1 + 1,0,none⟩=some (.bool ts) ∧ w'.cell? ⟨w.heap.size + 1 + 1,1,none⟩=some (.slice tx tn tc) ∧ w'.cell? ⟨w.heap.size + 1 + 1,2,none⟩=some (.slice ty tm td))
   (refine ⟨?_,?_,?_,?_,?_,?_,?_,?_,?_,?_⟩ <;> repeat (with_reducible first | assumption | refine kCd ?_ | refine kCb (by assumption) ?_))
   (first
    | (go_at_call 10;with_reducible refine (T1n.out _ (by repeat (with_reducible first | assumption | exact Below.refl _ _ | refine Below.drew ?_ | refine kBa ?_ | refine kBb (by assumption) ?_))).mono ?_;rintro e u1 ⟨vm,M1,rfl,hb1,H1⟩)
    | (go_at_call 11;with_reducible refine (RAn.out _ (by repeat (with_reducible first | assumption | exact Below.refl _ _ | refine Below.drew ?_ | refine kBa ?_ | refine kBb (by assumption) ?_))).mono ?_;rintro e u2 ⟨z2,c2,Y2,z3,c3,X3,rfl,hb2,H2⟩)
    | (go_at_call 9;with_reducible refine (VA.out _ vm M1 z2 c2 Y2 z3 c3 X3 ⟨H1.out.1,H1.out.2.below (by repeat (with_reducible first | assumption | exact Below.refl _ _ | refine Below.drew ?_ | refine kBa ?_ | refine kBb (by assumption) ?_))⟩ ⟨H2.out.1.below (by repeat (with_reducible first | assumption | exact Below.refl _ _ | refine Below.drew ?_ | refine kBa ?_ | refine kBb (by assumption) ?_)),H2.out.2.below (by repeat (with_reducible first | assumption | exact Below.refl _ _ | refine Below.drew ?_ | refine kBa ?_ | refine kBb (by assumption) ?_))⟩).mono ?_;rintro e v10 ⟨rfl,hb3⟩))
  have hb:Below v9.heap.size v9 v10:=(by repeat (with_reducible first | assumption | exact Below.refl _ _ | refine Below.drew ?_ | refine kBa ?_ | refine kBb (by assumption) ?_))
  replace HB:=hid (HB.out.trans (hb.mono HB.out.size));replace BM:=hid (BM.out.below hb);replace BA:=hid (BA.out.below hb);replace BB:=hid (BB.out.below hb)
  clear hb r0 r1 r2 r3 r4 a0 a1 b0 b1 b2 T1n RAn hb1 hb2 hb3 H1 H2
  go_wp2
  go_ret
  exact ⟨rfl,HB.out⟩
 cases fe
 case false =>
  have hno:x1=false:=NO.out (by rintro ⟨_,_,_,a⟩;cases a)
  subst hno
  clear NO hr1 hec hex hfe hx1
  go_upto_region 8 with fail
  have r0:=BM.out.cell (j:=0) rfl
  have r1:=BM.out.cell (j:=1) rfl
  have r2:=BM.out.cell (j:=2) rfl
  have r3:=BM.out.cell (j:=3) rfl
  have r4:=BM.out.cell (j:=4) rfl
  have a0:=BA.out.cell (j:=0) rfl
  have a1:=BA.out.cell (j:=1) rfl
  have b0:=BB.out.cell (j:=0) rfl
  have b1:=BB.out.cell (j:=1) rfl
  have b2:=BB.out.cell (j:=2) rfl
  have T1n:=hid (fun W (hW:Below v9.heap.size v9 W)=>T1.out W (HB.out.trans (hW.mono HB.out.size)))
  have RAn:=hid (fun W (hW:Below v9.heap.size v9 W)=>RA.out W (HB.out.trans (hW.mono HB.out.size)))
  go_region_held3 (fun w'=>w'.cell? ⟨w.heap.size,0,none⟩=some (.bool s) ∧ w'.cell? ⟨w.heap.size,1,none⟩=some (.slice x n c) ∧ w'.cell? ⟨w.heap.size,2,none⟩=some (.slice y m d) ∧ w'.cell? ⟨w.heap.size,3,none⟩=some (.slice ca ck cc) ∧ w'.cell? ⟨w.heap.size,4,none⟩=some (.slice ra rk rc) ∧ w'.cell? ⟨w.heap.size + 1,0,none⟩=some (.slice ax kx cx) ∧ w'.cell? ⟨w.heap.size + 1,1,none⟩=some (.slice ao ko co) ∧ w'.cell? ⟨w.heap.size + 1 + 1,0,none⟩=some (.bool ts) ∧ w'.cell? ⟨w.heap.size + 1 + 1,1,none⟩=some (.slice tx tn tc) ∧ w'.cell? ⟨w.heap.size + 1 + 1,2,none⟩=some (.slice ty tm td))
   (refine ⟨?_,?_,?_,?_,?_,?_,?_,?_,?_,?_⟩ <;> repeat (with_reducible first | assumption | refine kCd ?_ | refine kCb (by assumption) ?_))
   (first
    | (go_at_call 10;with_reducible refine (T1n.out _ (by repeat (with_reducible first | assumption | exact Below.refl _ _ | refine Below.drew ?_ | refine kBa ?_ | refine kBb (by assumption) ?_))).mono ?_;rintro e u1 ⟨vm,M1,rfl,hb1,H1⟩)
    | (go_at_call 11;with_reducible refine (RAn.out _ (by repeat (with_reducible first | assumption | exact Below.refl _ _ | refine Below.drew ?_ | refine kBa ?_ | refine kBb (by assumption) ?_))).mono ?_;rintro e u2 ⟨z2,c2,Y2,z3,c3,X3,rfl,hb2,H2⟩)
    | (go_at_call 9;with_reducible refine (VA.out _ vm M1 z2 c2 Y2 z3 c3 X3 ⟨H1.out.1,H1.out.2.below (by repeat (with_reducible first | assumption | exact Below.refl _ _ | refine Below.drew ?_ | refine kBa ?_ | refine kBb (by assumption) ?_))⟩ ⟨H2.out.1.below (by repeat (with_reducible first | assumption | exact Below.refl _ _ | refine Below.drew ?_ | refine kBa ?_ | refine kBb (by assumption) ?_)),H2.out.2.below (by repeat (with_reducible first | assumption | exact Below.refl _ _ | refine Below.drew ?_ | refine kBa ?_ | refine kBb (by assumption) ?_))⟩).mono ?_;rintro e v10 ⟨rfl,hb3⟩))
  have hb:Below v9.heap.size v9 v10:=(by repeat (with_reducible first | assumption | exact Below.refl _ _ | refine Below.drew ?_ | refine kBa ?_ | refine kBb (by assumption) ?_))
  replace HB:=hid (HB.out.trans (hb.mono HB.out.size));replace BM:=hid (BM.out.below hb);replace BA:=hid (BA.out.below hb);replace BB:=hid (BB.out.below hb)
  clear hb r0 r1 r2 r3 r4 a0 a1 b0 b1 b2 T1n RAn hb1 hb2 hb3 H1 H2
  go_wp2
  go_ret
  exact ⟨rfl,HB.out⟩
 have hf2:feasB (csOf N) (rsOf N) (psOf kx Y)=true:=by
  rw [hex,decide_eq_true rfl,Bool.true_and] at hfe;exact hfe
 have GV:=hid (goes_v (t:=q) H0.out hr1 hex hf2)
 have HX0:=hid hex
 obtain ⟨ss,hss⟩:∃ t,alng (psOf kx Y) (psOf ko X) q=t:=⟨_,rfl⟩
 obtain ⟨qa,hqa⟩:∃ t,valQ (nq N.off) (csOf N) (psOf kx Y)=t:=⟨_,rfl⟩
 obtain ⟨qb,hqb⟩:∃ t,valQ (nq N.off) (csOf N) ss=t:=⟨_,rfl⟩
 rw [hss,hqb,hqa,hx1] at GV
 have TT:Hid (∀ W,Below w.heap.size w W → Calls Tryz.prog 18 #[.agg #[.bool ts,.slice tx tn tc,.slice ty tm td]] W fun e w'=>∃ z4 c4 z5 c5,e=.returned (.agg #[.bool ts,.slice z4 tn c4,.slice z5 tm c5]) ∧ Below W.heap.size W w' ∧ Hid (Rn 6 w' ts z4 tn c4 tf z5 tm c5 tg q)):=fun W hW=>by
  have h:=HR.out W hW
  have h1:=h.ln;have h2:=h.ld
  exact (qTwin_c (s:=ts) h.rw (by omega) (by omega)).mono fun e w' ⟨z,c,z2,c2,k1,k2,k3⟩=>⟨z,c,z2,c2,k1,k2,hid (h.moved k3.out)⟩
 have AL:Hid (∀ W z2 c2 Y2 z3 c3 X3 z4 c4 z5 c5,(Tx W z2 kx Y Y2 ∧ Tx W z3 ko X X3) → Rn 6 W ts z4 tn c4 tf z5 tm c5 tg q → Calls Tryz.prog 17 #[.agg #[.slice z2 kx c2,.slice z3 ko c3],.agg #[.bool ts,.slice z4 tn c4,.slice z5 tm c5]] W fun e w'=>∃ a c,e=.returned (.tuple #[.slice a kx c,.int .i64 0]) ∧ Below W.heap.size W w' ∧ (kx ≤ c ∧ c ≤ 9223372036854775807) ∧ Hid (Sv w' a kx ss)):=fun W z2 c2 Y2 z3 c3 X3 z4 c4 z5 c5 h1 h3=>by
  have:=alongTv_c (capx:=c2) (cap:=c3) h1.1 HC.out.sy h1.2 HC.out.sx h3 HX0.out GV.out.1.2.1
  rw [hss] at this
  exact this
 have FS:Hid (∀ W vm M' a c,(vm=M'.val ∧ Tm W N M') → Sv W a kx ss → Calls Tryz.prog 24 #[vm,.slice a kx c] W fun e w'=>e=.returned (.tuple #[.bool true,.int .i64 0]) ∧ Below W.heap.size W w'):=fun W vm M' a c h1 h2=>by
  have:=feasSv_c (cap:=c) h1.2 HC.out.n GV.out.1.1 GV.out.1.2.2 h2
  rw [GV.out.2.1,← h1.1] at this
  exact this
 have VY:Hid (∀ W vm M' a X' c,(vm=M'.val ∧ Tm W N M') → Tx W a kx Y X' → Calls Tryz.prog 25 #[vm,.slice a kx c] W fun e w'=>∃ s x n c f y m d g,e=.returned (.tuple #[.agg #[.bool s,.slice x n c,.slice y m d],.int .i64 0]) ∧ Below W.heap.size W w' ∧ Hid (Rn (KV 20) w' s x n c f y m d g qa)):=fun W vm M' a X' c h1 h2=>by
  have:=valueTw_c (cap:=c) h1.2 HC.out.n h2 HC.out.sy HX0.out
  rw [hqa,← h1.1] at this
  exact this
 have VS:Hid (∀ W vm M' a c,(vm=M'.val ∧ Tm W N M') → Sv W a kx ss → Calls Tryz.prog 25 #[vm,.slice a kx c] W fun e w'=>∃ s x n c f y m d g,e=.returned (.tuple #[.agg #[.bool s,.slice x n c,.slice y m d],.int .i64 0]) ∧ Below W.heap.size W w' ∧ Hid (Rn (KV 20) w' s x n c f y m d g qb)):=fun W vm M' a c h1 h2=>by
  have:=valueSv_c (cap:=c) h1.2 HC.out.n GV.out.1.1 GV.out.1.2.2 h2
  rw [hqb,← h1.1] at this
  exact this
 have HI:=hid GV.out.2.2
 clear NO hr1 hec hex hfe hx1 hf2 GV HX0 hss hqa hqb RX FY TX
 go_upto_region 10 with fail
 have r0:=BM.out.cell (j:=0) rfl
 have r1:=BM.out.cell (j:=1) rfl
 have r2:=BM.out.cell (j:=2) rfl
 have r3:=BM.out.cell (j:=3) rfl
 have r4:=BM.out.cell (j:=4) rfl
 have a0:=BA.out.cell (j:=0) rfl
 have a1:=BA.out.cell (j:=1) rfl
 have b0:=BB.out.cell (j:=0) rfl
 have b1:=BB.out.cell (j:=1) rfl
 have b2:=BB.out.cell (j:=2) rfl
 have RAn:=hid (fun W (hW:Below v9.heap.size v9 W)=>RA.out W (HB.out.trans (hW.mono HB.out.size)))
 have TTn:=hid (fun W (hW:Below v9.heap.size v9 W)=>TT.out W (HB.out.trans (hW.mono HB.out.size)))
 go_region_held3 (fun w'=>w'.cell? ⟨w.heap.size,0,none⟩=some (.bool s) ∧ w'.cell? ⟨w.heap.size,1,none⟩=some (.slice x n c) ∧ w'.cell? ⟨w.heap.size,2,none⟩=some (.slice y m d) ∧ w'.cell? ⟨w.heap.size,3,none⟩=some (.slice ca ck cc) ∧ w'.cell? ⟨w.heap.size,4,none⟩=some (.slice ra rk rc) ∧ w'.cell? ⟨w.heap.size + 1,0,none⟩=some (.slice ax kx cx) ∧ w'.cell? ⟨w.heap.size + 1,1,none⟩=some (.slice ao ko co) ∧ w'.cell? ⟨w.heap.size + 1 + 1,0,none⟩=some (.bool ts) ∧ w'.cell? ⟨w.heap.size + 1 + 1,1,none⟩=some (.slice tx tn tc) ∧ w'.cell? ⟨w.heap.size + 1 + 1,2,none⟩=some (.slice ty tm td))
  (refine ⟨?_,?_,?_,?_,?_,?_,?_,?_,?_,?_⟩ <;> repeat (with_reducible first | assumption | refine kCd ?_ | refine kCb (by assumption) ?_))
  (first
   | (go_at_call 11;with_reducible refine (RAn.out _ (by repeat (with_reducible first | assumption | exact Below.refl _ _ | refine Below.drew ?_ | refine kBa ?_ | refine kBb (by assumption) ?_))).mono ?_;rintro e u2 ⟨z2,c2,Y2,z3,c3,X3,rfl,hb2,H2⟩)
   | (go_at_call 18;with_reducible refine (TTn.out _ (by repeat (with_reducible first | assumption | exact Below.refl _ _ | refine Below.drew ?_ | refine kBa ?_ | refine kBb (by assumption) ?_))).mono ?_;rintro e u4 ⟨z4,c4,z5,c5,rfl,hb4,H4⟩)
   | (go_at_call 17;with_reducible refine (AL.out _ z2 c2 Y2 z3 c3 X3 z4 c4 z5 c5 ⟨H2.out.1.below (by repeat (with_reducible first | assumption | exact Below.refl _ _ | refine Below.drew ?_ | refine kBa ?_ | refine kBb (by assumption) ?_)),H2.out.2.below (by repeat (with_reducible first | assumption | exact Below.refl _ _ | refine Below.drew ?_ | refine kBa ?_ | refine kBb (by assumption) ?_))⟩ (H4.out.below (by repeat (with_reducible first | assumption | exact Below.refl _ _ | refine Below.drew ?_ | refine kBa ?_ | refine kBb (by assumption) ?_)))).mono ?_;rintro e v10 ⟨sa,sc,rfl,hb5,hsc,HS⟩))
 have hb:Below v9.heap.size v9 v10:=(by repeat (with_reducible first | assumption | exact Below.refl _ _ | refine Below.drew ?_ | refine kBa ?_ | refine kBb (by assumption) ?_))
 replace HB:=hid (HB.out.trans (hb.mono HB.out.size));replace BM:=hid (BM.out.below hb);replace BA:=hid (BA.out.below hb);replace BB:=hid (BB.out.below hb)
 clear hb r0 r1 r2 r3 r4 a0 a1 b0 b1 b2 RAn TTn hb2 hb4 hb5 H2 H4 AL TT
 replace hsc:=hid hsc
 have r0:=BM.out.cell (j:=0) rfl
 have r1:=BM.out.cell (j:=1) rfl
 have r2:=BM.out.cell (j:=2) rfl
 have r3:=BM.out.cell (j:=3) rfl
 have r4:=BM.out.cell (j:=4) rfl
 go_wp2_with fail
 clear r0 r1 r2 r3 r4
 refine (T1.out _ HB.out).mono ?_
 rintro e v11 ⟨vm,M1,rfl,hb,H1⟩
 replace HB:=hid (HB.out.trans (hb.mono HB.out.size));replace BM:=hid (BM.out.below hb);replace BA:=hid (BA.out.below hb);replace BB:=hid (BB.out.below hb);replace HS:=hid (HS.out.below hb)
 clear hb
 go_wp2_with fail
 refine (FS.out _ vm M1 sa sc H1.out HS.out).mono ?_
 rintro e v12 ⟨rfl,hb⟩
 replace HB:=hid (HB.out.trans (hb.mono HB.out.size));replace BM:=hid (BM.out.below hb);replace BA:=hid (BA.out.below hb);replace BB:=hid (BB.out.below hb);replace HS:=hid (HS.out.below hb)
 clear hb
 clear FS H1
 go_upto_region 14 with fail
 have r0:=BM.out.cell (j:=0) rfl
 have r1:=BM.out.cell (j:=1) rfl
 have r2:=BM.out.cell (j:=2) rfl
 have r3:=BM.out.cell (j:=3) rfl
 have r4:=BM.out.cell (j:=4) rfl
 have a0:=BA.out.cell (j:=0) rfl
 have a1:=BA.out.cell (j:=1) rfl
 have b0:=BB.out.cell (j:=0) rfl
 have b1:=BB.out.cell (j:=1) rfl
 have b2:=BB.out.cell (j:=2) rfl
 have T1n:=hid (fun W (hW:Below v12.heap.size v12 W)=>T1.out W (HB.out.trans (hW.mono HB.out.size)))
 have TYn:=hid (fun W (hW:Below v12.heap.size v12 W)=>TY.out W (HB.out.trans (hW.mono HB.out.size)))
 have hsz0:w.heap.size + 1 + 1 < v12.heap.size:=World.block_lt_of_cell? _ _ b0
 go_cut [15,16] from 106 to 114 (fun u t wx=>∃ (wy:World) (b8:Nat) (s:Bool) (x:Option Addr) (n c:Nat) (f:Nat → Int) (y:Option Addr) (m d:Nat) (g:Nat → Int),wy=wx ∧ u=.pointer (some ⟨b8,0,none⟩) ∧ t=.int .i64 0 ∧ RBx (KV 20) v12 wy b8 s x n c f y m d g qa)
 case first =>
  go_region_held3 (fun w'=>w'.cell? ⟨w.heap.size,0,none⟩=some (.bool s) ∧ w'.cell? ⟨w.heap.size,1,none⟩=some (.slice x n c) ∧ w'.cell? ⟨w.heap.size,2,none⟩=some (.slice y m d) ∧ w'.cell? ⟨w.heap.size,3,none⟩=some (.slice ca ck cc) ∧ w'.cell? ⟨w.heap.size,4,none⟩=some (.slice ra rk rc) ∧ w'.cell? ⟨w.heap.size + 1,0,none⟩=some (.slice ax kx cx) ∧ w'.cell? ⟨w.heap.size + 1,1,none⟩=some (.slice ao ko co) ∧ w'.cell? ⟨w.heap.size + 1 + 1,0,none⟩=some (.bool ts) ∧ w'.cell? ⟨w.heap.size + 1 + 1,1,none⟩=some (.slice tx tn tc) ∧ w'.cell? ⟨w.heap.size + 1 + 1,2,none⟩=some (.slice ty tm td))
   (refine ⟨?_,?_,?_,?_,?_,?_,?_,?_,?_,?_⟩ <;> repeat (with_reducible first | assumption | refine kCd ?_ | refine kCa ?_ | refine kCs (by simp only [ne_eq];omega) ?_ | refine kCb (by assumption) ?_))
   (first
    | (go_at_call 10;with_reducible refine (T1n.out _ (by repeat (with_reducible first | assumption | exact Below.refl _ _ | refine Below.drew ?_ | refine kBa ?_ | refine kBb (by assumption) ?_))).mono ?_;rintro e u1 ⟨vm,M1,rfl,hb1,H1⟩;have hz_1:=hb1.size;(try simp at hz_1);obtain ⟨hk1,hf1⟩:=bcell hb1;(try have q1v12:v12.heap.size < u1.heap.size:=by omega))
    | (go_at_call 14;with_reducible refine (TYn.out _ (by repeat (with_reducible first | assumption | exact Below.refl _ _ | refine Below.drew ?_ | refine kBa ?_ | refine kBb (by assumption) ?_))).mono ?_;rintro e u2 ⟨z2,c2,X2,rfl,hb2,hc2,H2⟩;have hz_2:=hb2.size;(try simp at hz_2);obtain ⟨hk2,hf2⟩:=bcell hb2;(try have q2v12:v12.heap.size < u2.heap.size:=by omega);(try have q2u1:u1.heap.size < u2.heap.size:=by omega))
    | (go_at_call 25;with_reducible refine (VY.out _ vm M1 z2 X2 c2 ⟨H1.out.1,H1.out.2.below (by repeat (with_reducible first | assumption | exact Below.refl _ _ | refine Below.drew ?_ | refine kBa ?_ | refine kBb (by assumption) ?_))⟩ (H2.out.below (by repeat (with_reducible first | assumption | exact Below.refl _ _ | refine Below.drew ?_ | refine kBa ?_ | refine kBb (by assumption) ?_)))).mono ?_;rintro e u3 ⟨s3,x3,n3,c3,f3,y3,m3,d3,g3,rfl,hb3,H3⟩;have hz_3:=hb3.size;(try simp at hz_3);obtain ⟨hk3,hf3⟩:=bcell hb3;(try have q3v12:v12.heap.size < u3.heap.size:=by omega);(try have q3u1:u1.heap.size < u3.heap.size:=by omega);(try have q3u2:u2.heap.size < u3.heap.size:=by omega)))
  all_goals
   go_wp2_with fail
   go_meet
   have hbl:Below v12.heap.size v12 u3:=(by repeat (with_reducible first | assumption | exact Below.refl _ _ | refine Below.drew ?_ | refine kBa ?_ | refine kBb (by assumption) ?_))
   refine ⟨_,_,s3,x3,n3,c3,f3,y3,m3,d3,g3,rfl,rfl,rfl,?_⟩
   with_reducible first
    | exact rbx_a hbl H3.out
    | exact rbx_s hbl H3.out (by repeat (with_reducible first | exact obAt9 rfl | exact obAt9 (size_alloc1 _ _).symm | refine kOb hb3 ?_ | refine kOb hb2 ?_ | refine kOb hb1 ?_ | refine Ob.drew ?_ | refine kObA9 ?_)) (by omega)
 case rest =>
  obtain ⟨v13,bv,sv,xv,nv,cv,fv,yv,mv,dv,gv,rfl,rfl,rfl,hqb⟩:=hcut
  have hb:=hqb.bel
  have BV:=hid hqb.box;have RV:=hid hqb.num
  replace HB:=hid (HB.out.trans (hb.mono HB.out.size));replace BM:=hid (BM.out.below hb);replace BA:=hid (BA.out.below hb);replace BB:=hid (BB.out.below hb);replace HS:=hid (HS.out.below hb)
  clear hb
  clear hqb r0 r1 r2 r3 r4 a0 a1 b0 b1 b2 T1n TYn hsz0
  have r0:=BM.out.cell (j:=0) rfl
  have r1:=BM.out.cell (j:=1) rfl
  have r2:=BM.out.cell (j:=2) rfl
  have r3:=BM.out.cell (j:=3) rfl
  have r4:=BM.out.cell (j:=4) rfl
  go_wp2_with fail
  clear r0 r1 r2 r3 r4
  refine (T1.out _ HB.out).mono ?_
  rintro e v14 ⟨vm,M1,rfl,hb,H1⟩
  replace BV:=hid (BV.out.below hb);replace RV:=hid (RV.out.below hb)
  replace HB:=hid (HB.out.trans (hb.mono HB.out.size));replace BM:=hid (BM.out.below hb);replace BA:=hid (BA.out.below hb);replace BB:=hid (BB.out.below hb);replace HS:=hid (HS.out.below hb)
  clear hb
  go_wp2_with fail
  refine (VS.out _ vm M1 sa sc H1.out HS.out).mono ?_
  rintro e v15 ⟨sw,xw,nw,cw,fw,yw,mw,dw,gw,rfl,hb,RW⟩
  replace BV:=hid (BV.out.below hb);replace RV:=hid (RV.out.below hb)
  replace HB:=hid (HB.out.trans (hb.mono HB.out.size));replace BM:=hid (BM.out.below hb);replace BA:=hid (BA.out.below hb);replace BB:=hid (BB.out.below hb)
  clear hb
  clear VS H1 HS
  have hC0:=bx3_at v15 (.bool sw) (.slice xw nw cw) (.slice yw mw dw) 24
  have hb:=below_alloc (Below.refl v15.heap.size v15) (.cells #[.bool sw,.slice xw nw cw,.slice yw mw dw] 24)
  go_upto_region 16 with fail
  have BW:=hid hC0
  generalize v15.alloc (.cells #[.bool sw,.slice xw nw cw,.slice yw mw dw] 24)=v16 at *
  clear hC0
  replace BV:=hid (BV.out.below hb);replace RV:=hid (RV.out.below hb);replace RW:=hid (RW.out.below hb)
  replace HB:=hid (HB.out.trans (hb.mono HB.out.size));replace BM:=hid (BM.out.below hb);replace BA:=hid (BA.out.below hb);replace BB:=hid (BB.out.below hb)
  clear hb
  generalize v15.heap.size=bw at *
  have r0:=BM.out.cell (j:=0) rfl
  have r1:=BM.out.cell (j:=1) rfl
  have r2:=BM.out.cell (j:=2) rfl
  have r3:=BM.out.cell (j:=3) rfl
  have r4:=BM.out.cell (j:=4) rfl
  have a0:=BA.out.cell (j:=0) rfl
  have a1:=BA.out.cell (j:=1) rfl
  have b0:=BB.out.cell (j:=0) rfl
  have b1:=BB.out.cell (j:=1) rfl
  have b2:=BB.out.cell (j:=2) rfl
  have T1n:=hid (fun W (hW:Below v16.heap.size v16 W)=>T1.out W (HB.out.trans (hW.mono HB.out.size)))
  have RAn:=hid (fun W (hW:Below v16.heap.size v16 W)=>RA.out W (HB.out.trans (hW.mono HB.out.size)))
  go_region_held3 (fun w'=>w'.cell? ⟨w.heap.size,0,none⟩=some (.bool s) ∧ w'.cell? ⟨w.heap.size,1,none⟩=some (.slice x n c) ∧ w'.cell? ⟨w.heap.size,2,none⟩=some (.slice y m d) ∧ w'.cell? ⟨w.heap.size,3,none⟩=some (.slice ca ck cc) ∧ w'.cell? ⟨w.heap.size,4,none⟩=some (.slice ra rk rc) ∧ w'.cell? ⟨w.heap.size + 1,0,none⟩=some (.slice ax kx cx) ∧ w'.cell? ⟨w.heap.size + 1,1,none⟩=some (.slice ao ko co) ∧ w'.cell? ⟨w.heap.size + 1 + 1,0,none⟩=some (.bool ts) ∧ w'.cell? ⟨w.heap.size + 1 + 1,1,none⟩=some (.slice tx tn tc) ∧ w'.cell? ⟨w.heap.size + 1 + 1,2,none⟩=some (.slice ty tm td))
   (refine ⟨?_,?_,?_,?_,?_,?_,?_,?_,?_,?_⟩ <;> repeat (with_reducible first | assumption | refine kCd ?_ | refine kCb (by assumption) ?_))
   (first
    | (go_at_call 10;with_reducible refine (T1n.out _ (by repeat (with_reducible first | assumption | exact Below.refl _ _ | refine Below.drew ?_ | refine kBa ?_ | refine kBb (by assumption) ?_))).mono ?_;rintro e u1 ⟨vm,M1,rfl,hb1,H1⟩)
    | (go_at_call 11;with_reducible refine (RAn.out _ (by repeat (with_reducible first | assumption | exact Below.refl _ _ | refine Below.drew ?_ | refine kBa ?_ | refine kBb (by assumption) ?_))).mono ?_;rintro e u2 ⟨z2,c2,Y2,z3,c3,X3,rfl,hb2,H2⟩)
    | (go_at_call 9;with_reducible refine (VA.out _ vm M1 z2 c2 Y2 z3 c3 X3 ⟨H1.out.1,H1.out.2.below (by repeat (with_reducible first | assumption | exact Below.refl _ _ | refine Below.drew ?_ | refine kBa ?_ | refine kBb (by assumption) ?_))⟩ ⟨H2.out.1.below (by repeat (with_reducible first | assumption | exact Below.refl _ _ | refine Below.drew ?_ | refine kBa ?_ | refine kBb (by assumption) ?_)),H2.out.2.below (by repeat (with_reducible first | assumption | exact Below.refl _ _ | refine Below.drew ?_ | refine kBa ?_ | refine kBb (by assumption) ?_))⟩).mono ?_;rintro e v17 ⟨rfl,hb3⟩))
  have hb:Below v16.heap.size v16 v17:=(by repeat (with_reducible first | assumption | exact Below.refl _ _ | refine Below.drew ?_ | refine kBa ?_ | refine kBb (by assumption) ?_))
  replace HB:=hid (HB.out.trans (hb.mono HB.out.size));replace BM:=hid (BM.out.below hb);replace BA:=hid (BA.out.below hb);replace BB:=hid (BB.out.below hb);replace BV:=hid (BV.out.below hb);replace RV:=hid (RV.out.below hb);replace RW:=hid (RW.out.below hb);replace BW:=hid (BW.out.below hb)
  clear hb r0 r1 r2 r3 r4 a0 a1 b0 b1 b2 T1n RAn hb1 hb2 hb3 H1 H2 VA RA
  cases x1
  case false =>
   go_upto_region 19 with fail
   obtain ⟨_,p0,p1,p2⟩:=BV.out
   obtain ⟨_,w0,w1,w2⟩:=BW.out
   have b0:=BB.out.cell (j:=0) rfl
   have b1:=BB.out.cell (j:=1) rfl
   have b2:=BB.out.cell (j:=2) rfl
   go_quiet (fail)
   all_goals
    go_wp2
    go_ret
    exact ⟨rfl,by first | exact HB.out | exact HB.out.drew | exact below_drewN HB.out _⟩
  go_upto_region 19 with fail
  obtain ⟨_,p0,p1,p2⟩:=BV.out
  obtain ⟨_,w0,w1,w2⟩:=BW.out
  have b0:=BB.out.cell (j:=0) rfl
  have b1:=BB.out.cell (j:=1) rfl
  have b2:=BB.out.cell (j:=2) rfl
  have F1:Hid (∀ W,Below v17.heap.size v17 W → Calls Tryz.prog 23 #[.agg #[.bool ts,.slice tx tn tc,.slice ty tm td]] W fun e w'=>∃ s x n c d y m e' g,e=.returned (.agg #[.bool s,.slice x n c,.slice y m e']) ∧ Below W.heap.size W w' ∧ Hid (n ≤ 12 ∧ m ≤ 12 ∧ Qn w' s x n d y m g q)):=fun W hW =>
   (qFrom_c (HR.out _ (HB.out.trans (hW.mono HB.out.size))) (by decide)).mono (fun _ _ ⟨s,x,n,c,d,y,m,c',g,h1,h2,h3,h4,h5⟩=>⟨s,x,n,c,d,y,m,c',g,h1,h2,Nat.le_trans h3 (by decide),Nat.le_trans h4 (by decide),h5⟩)
  by_cases hq0:q=0
  case pos =>
   have hn0:q.num=0:=by rw [hq0];rfl
   have CS:Hid (∀ W s x n c d y m e g,n ≤ 12 → Qn W s x n d y m g q → Calls Tryz.prog 22 #[.agg #[.bool s,.slice x n c,.slice y m e]] W fun e w'=>e=.returned (.int .i64 0) ∧ Below W.heap.size W w'):=fun W s x n c d y m e g h1 h2 =>
    (qSign_c h2 (by omega)).mono fun _ _ ⟨c,k1,k2,k3⟩=>by
     have:c=0:=by rcases k3 with ⟨a,b⟩ | ⟨a,b⟩ | ⟨a,b⟩ <;> omega
     subst this
     exact ⟨k1,k2⟩
   clear HI H0 hn0
   go_region_with
    (first
     | (go_at_call 23;with_reducible refine (F1.out _ (by repeat (with_reducible first | assumption | exact Below.refl _ _ | refine Below.drew ?_ | refine kBa ?_ | refine kBb (by assumption) ?_))).mono ?_;rintro e u1 ⟨s1,x1,n1,c1,d1,y1,m1,e1,g1,rfl,hb1,H1⟩)
     | (go_at_call 22;with_reducible refine (CS.out _ s1 x1 n1 c1 d1 y1 m1 e1 g1 H1.out.1 (H1.out.2.2.below (by repeat (with_reducible first | assumption | exact Below.refl _ _ | refine Below.drew ?_ | refine kBa ?_ | refine kBb (by assumption) ?_)))).mono ?_;rintro e u5 ⟨rfl,hb5⟩))
   all_goals
    have hb:Below v17.heap.size v17 u5:=(by repeat (with_reducible first | assumption | exact Below.refl _ _ | refine Below.drew ?_ | refine kBa ?_ | refine kBb (by assumption) ?_))
    replace HB:=hid (HB.out.trans (hb.mono HB.out.size))
    clear hb
    go_wp2
    go_ret
    exact ⟨rfl,by first | exact HB.out | exact HB.out.drew | exact below_drewN HB.out _⟩
  have hlt:qb < qa:=HI.out (by first | rfl | trivial) hq0
  have hn0:0 < q.num:=by
   have h1:=Rat.num_nonneg.2 H0.out
   have h2:q.num ≠ 0:=fun h=>hq0 (Rat.num_eq_zero.1 h)
   omega
  have CS:Hid (∀ W s x n c d y m e g,n ≤ 12 → Qn W s x n d y m g q → Calls Tryz.prog 22 #[.agg #[.bool s,.slice x n c,.slice y m e]] W fun e w'=>e=.returned (.int .i64 1) ∧ Below W.heap.size W w'):=fun W s x n c d y m e g h1 h2 =>
   (qSign_c h2 (by omega)).mono fun _ _ ⟨c,k1,k2,k3⟩=>by
    have:c=1:=by rcases k3 with ⟨a,b⟩ | ⟨a,b⟩ | ⟨a,b⟩ <;> omega
    subst this
    exact ⟨k1,k2⟩
  have F2:Hid (∀ W,Below v17.heap.size v17 W → Calls Tryz.prog 23 #[.agg #[.bool sw,.slice xw nw cw,.slice yw mw dw]] W fun e w'=>∃ s x n c d y m e' g,e=.returned (.agg #[.bool s,.slice x n c,.slice y m e']) ∧ Below W.heap.size W w' ∧ Hid (n ≤ 5500 ∧ m ≤ 5500 ∧ Qn w' s x n d y m g qb)):=fun W hW =>
   (qFrom_c (RW.out.below hW) (by decide)).mono (fun _ _ ⟨s,x,n,c,d,y,m,c',g,h1,h2,h3,h4,h5⟩=>⟨s,x,n,c,d,y,m,c',g,h1,h2,Nat.le_trans h3 (by decide),Nat.le_trans h4 (by decide),h5⟩)
  have F3:Hid (∀ W,Below v17.heap.size v17 W → Calls Tryz.prog 23 #[.agg #[.bool sv,.slice xv nv cv,.slice yv mv dv]] W fun e w'=>∃ s x n c d y m e' g,e=.returned (.agg #[.bool s,.slice x n c,.slice y m e']) ∧ Below W.heap.size W w' ∧ Hid (n ≤ 5500 ∧ m ≤ 5500 ∧ Qn w' s x n d y m g qa)):=fun W hW =>
   (qFrom_c (RV.out.below hW) (by decide)).mono (fun _ _ ⟨s,x,n,c,d,y,m,c',g,h1,h2,h3,h4,h5⟩=>⟨s,x,n,c,d,y,m,c',g,h1,h2,Nat.le_trans h3 (by decide),Nat.le_trans h4 (by decide),h5⟩)
  have CC:Hid (∀ W s2 x2 n2 c2 d2 y2 m2 e2 g2 s3 x3 n3 c3 d3 y3 m3 e3 g3,(n2 ≤ 5500 ∧ m2 ≤ 5500 ∧ Qn W s2 x2 n2 d2 y2 m2 g2 qb) → (n3 ≤ 5500 ∧ m3 ≤ 5500 ∧ Qn W s3 x3 n3 d3 y3 m3 g3 qa) → Calls Tryz.prog 26 #[.agg #[.bool s2,.slice x2 n2 c2,.slice y2 m2 e2],.agg #[.bool s3,.slice x3 n3 c3,.slice y3 m3 e3]] W fun e w'=>e=.returned (.int .i64 (-1)) ∧ Below W.heap.size W w'):=fun W s2 x2 n2 c2 d2 y2 m2 e2 g2 s3 x3 n3 c3 d3 y3 m3 e3 g3 h1 h2 =>
   (qCmp_c h1.2.2 h2.2.2 (by omega) (by omega) (by omega) (by omega)).mono fun _ _ ⟨c,k1,k2,k3⟩=>by
    have:c=-1:=by
     rcases k3 with ⟨a,b⟩ | ⟨a,b⟩ | ⟨a,b⟩
     ·exact a
     ·grind
     ·grind
    subst this
    exact ⟨k1,k2⟩
  clear HI H0 hn0 hlt hq0
  go_region_held3 (fun w'=>w'.cell? ⟨w.heap.size + 1 + 1,0,none⟩=some (.bool ts) ∧ w'.cell? ⟨w.heap.size + 1 + 1,1,none⟩=some (.slice tx tn tc) ∧ w'.cell? ⟨w.heap.size + 1 + 1,2,none⟩=some (.slice ty tm td) ∧ w'.cell? ⟨bv,0,none⟩=some (.bool sv) ∧ w'.cell? ⟨bv,1,none⟩=some (.slice xv nv cv) ∧ w'.cell? ⟨bv,2,none⟩=some (.slice yv mv dv) ∧ w'.cell? ⟨bw,0,none⟩=some (.bool sw) ∧ w'.cell? ⟨bw,1,none⟩=some (.slice xw nw cw) ∧ w'.cell? ⟨bw,2,none⟩=some (.slice yw mw dw))
   (refine ⟨?_,?_,?_,?_,?_,?_,?_,?_,?_⟩ <;> repeat (with_reducible first | assumption | refine kCd ?_ | refine kCb (by assumption) ?_))
   (first
    | (go_at_call 23;with_reducible refine (F1.out _ (by repeat (with_reducible first | assumption | exact Below.refl _ _ | refine Below.drew ?_ | refine kBa ?_ | refine kBb (by assumption) ?_))).mono ?_;rintro e u1 ⟨s1,x1,n1,c1,d1,y1,m1,e1,g1,rfl,hb1,H1⟩)
    | (go_at_call 23;with_reducible refine (F2.out _ (by repeat (with_reducible first | assumption | exact Below.refl _ _ | refine Below.drew ?_ | refine kBa ?_ | refine kBb (by assumption) ?_))).mono ?_;rintro e u2 ⟨s2,x2,n2,c2,d2,y2,m2,e2,g2,rfl,hb2,H2⟩)
    | (go_at_call 23;with_reducible refine (F3.out _ (by repeat (with_reducible first | assumption | exact Below.refl _ _ | refine Below.drew ?_ | refine kBa ?_ | refine kBb (by assumption) ?_))).mono ?_;rintro e u3 ⟨s3,x3,n3,c3,d3,y3,m3,e3,g3,rfl,hb3,H3⟩)
    | (go_at_call 22;with_reducible refine (CS.out _ s1 x1 n1 c1 d1 y1 m1 e1 g1 H1.out.1 (H1.out.2.2.below (by repeat (with_reducible first | assumption | exact Below.refl _ _ | refine Below.drew ?_ | refine kBa ?_ | refine kBb (by assumption) ?_)))).mono ?_;rintro e u5 ⟨rfl,hb5⟩)
    | (go_at_call 26;with_reducible refine (CC.out _ s2 x2 n2 c2 d2 y2 m2 e2 g2 s3 x3 n3 c3 d3 y3 m3 e3 g3 ⟨H2.out.1,H2.out.2.1,H2.out.2.2.below (by repeat (with_reducible first | assumption | exact Below.refl _ _ | refine Below.drew ?_ | refine kBa ?_ | refine kBb (by assumption) ?_))⟩ ⟨H3.out.1,H3.out.2.1,H3.out.2.2.below (by repeat (with_reducible first | assumption | exact Below.refl _ _ | refine Below.drew ?_ | refine kBa ?_ | refine kBb (by assumption) ?_))⟩).mono ?_;rintro e u6 ⟨rfl,hb6⟩))
  have hb:Below v17.heap.size v17 u6:=(by repeat (with_reducible first | assumption | exact Below.refl _ _ | refine Below.drew ?_ | refine kBa ?_ | refine kBb (by assumption) ?_))
  replace HB:=hid (HB.out.trans (hb.mono HB.out.size))
  clear hb
  go_wp2
  go_ret
  exact ⟨rfl,HB.out⟩
/-- RayGoes, by what views give. -/
theorem rayGoes_x {w:World} {M:Mo} {ax:Option Addr} {kx cx:Nat} {Y:Nat → Nm} {ao:Option Addr} {ko co:Nat} {X:Nat → Nm} {t:Nm} (hX:MoX w M) (hN:MoN M) (_:MoC M) (hy:Rr w ax kx Y) (hx:Rr w ao ko X) (hkx:kx ≤ 9223372036854775807) (hko:ko ≤ 9223372036854775807) (ht:NmB w t) :
  Calls Tryz.prog 5 #[M.val,.agg #[.slice ax kx cx,.slice ao ko co],.agg #[.bool t.s,.slice t.x t.n t.c,.slice t.y t.m t.d]] w fun e w'=>e=.returned (.bool true) ∧ Below w.heap.size w w':=rayGoes_c hX hN hy hx hkx hko ht.1
end Go.Proofs.YtlemkhgicdnlnaaGreat
