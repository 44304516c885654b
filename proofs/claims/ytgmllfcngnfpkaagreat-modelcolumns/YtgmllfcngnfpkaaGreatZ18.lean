/-
 What Columns, DocColumns and Copy answer, put together; the walk of the law ModelColumns (written by makers/f41.py).
-/
import Derived.Test.YtgmllfcngnfpkaaGreatZ17
namespace Go.Proofs.YtgmllfcngnfpkaaGreat
open Go.RowKit
theorem eqs_refl (f:Nat → Int):∀ (r i:Nat),eqs f f r i=true
 | 0,_=>rfl
 | r + 1,i=>by simp [eqs,eqs_refl f r (i + 1)]
theorem Sn.sq {t t':Nm} (h:Sn t t'):sqB t' t=true:=by
 obtain ⟨h1,h2,h3,h4,h5⟩:=h
 unfold sqB eqlB
 rw [h1,h2,h3,h4,h5]
 simp [eqs_refl]
theorem sx_sn {a b:Ex} (hi:b.i=a.i) (h:Sn a.v b.v):sxB b a=true:=by unfold sxB;rw [hi,h.sq];simp
theorem eqf_true {α:Type} {e:α → α → Bool} {X Y:Nat → α}:∀ {r i:Nat},(∀ j,i ≤ j → j < i + r → e (X j) (Y j)=true) → eqf e X Y r i=true
 | 0,_,_=>rfl
 | r + 1,i,h=>by simp only [eqf];rw [h i (by omega) (by omega),eqf_true (fun j a b=>h j (by omega) (by omega))];rfl
theorem eqfB_true {α:Type} {e:α → α → Bool} {X Y:Nat → α} {n m:Nat} (hn:n=m) (h:∀ j,j < m → e (X j) (Y j)=true):eqfB e n m X Y=true:=by
 subst hn;unfold eqfB;rw [eqf_true (fun j _ hj=>h j (by omega))];simp
theorem Sm.same {M M':Mo} (h:Sm M M'):smB M' M=true:=by
 have e1:eqfB scB M'.ck M.ck M'.C M.C=true:=eqfB_true h.ck (fun j hj=>by
  have p:=h.C j hj
  unfold scB
  rw [p.cost.sq,sx_sn p.li p.lo,sx_sn p.hi p.hv,p.nm];simp)
 have e2:eqfB srB M'.rk M.rk M'.R M.R=true:=eqfB_true h.rk (fun j hj=>by
  have p:=h.R j hj
  unfold srB
  rw [sx_sn p.li p.lo,sx_sn p.hi p.hv,p.nm,eqfB_true p.tk (fun q hq=>sx_sn (a:=tex (M.R j).col (M.R j).T q) (b:=tex (M'.R j).col (M'.R j).T q) (by show (M'.R j).col q=_;rw [p.col];rfl) (p.T q hq))];simp)
 unfold smB
 rw [h.off.sq,e1,e2];rfl
theorem Sn.trans {a b c:Nm} (h:Sn a b) (k:Sn b c):Sn a c:=⟨k.1.trans h.1,k.2.1.trans h.2.1,k.2.2.1.trans h.2.2.1,k.2.2.2.1.trans h.2.2.2.1,k.2.2.2.2.trans h.2.2.2.2⟩
theorem Sm.trans {a b c:Mo} (h:Sm a b) (k:Sm b c):Sm a c :=
 ⟨h.off.trans k.off,k.ck.trans h.ck,fun j hj=>by
  have p:=h.C j hj;have q:=k.C j (by rw [h.ck];exact hj)
  exact ⟨q.nm.trans p.nm,p.cost.trans q.cost,q.li.trans p.li,p.lo.trans q.lo,q.hi.trans p.hi,p.hv.trans q.hv⟩,k.rk.trans h.rk,fun j hj=>by
  have p:=h.R j hj;have q:=k.R j (by rw [h.rk];exact hj)
  exact ⟨q.nm.trans p.nm,q.li.trans p.li,p.lo.trans q.lo,q.hi.trans p.hi,p.hv.trans q.hv,q.tk.trans p.tk,q.col.trans p.col,fun t ht=>(p.T t ht).trans (q.T t (by rw [p.tk];exact ht))⟩⟩
def Lst (L:Nat) (w:World) (xa:Option Addr) (k:Nat) (E:Nat → List (Int × Rat)):Prop:=∀ j,j < k → ∃ b o ta tc,xa=some ⟨b,o,none⟩ ∧ w.cell? ⟨b,o + j,none⟩=some (.slice ta (E j).length tc) ∧ Tf L w ta (E j)
theorem Lst.below {L w w' xa k E} (h:Lst L w xa k E) (hb:Below w.heap.size w w'):Lst L w' xa k E:=fun j hj=>by
 obtain ⟨b,o,ta,tc,h1,h2,h3⟩:=h j hj
 exact ⟨b,o,ta,tc,h1,kCb hb h2,h3.below hb⟩
theorem Lst.two {L L' w xa ya k E} (h:Lst L w xa k E) (h':Lst L' w ya k E) (hl:∀ j,j < k → (E j).length ≤ 64):Tcs L L' w xa ya k:=fun j hj=>by
 obtain ⟨b,o,ta,tc,h1,h2,h3⟩:=h j hj
 obtain ⟨b',o',ta',tc',k1,k2,k3⟩:=h' j hj
 exact ⟨b,o,b',o',ta,tc,ta',tc',E j,h1,k1,h2,k2,h3,k3,hl j hj⟩
def LsA (L:Nat) (w w':World) (e:Ending) (er:Int) (kk:Nat) (E:Nat → List (Int × Rat)):Prop:=∃ xa xc,e=.returned (.tuple #[.slice xa kk xc,.int .i64 er]) ∧ Below w.heap.size w w' ∧ Lst L w' xa kk E
def kkM (M:Mo):Nat:=if chkE M=0 then M.ck else 0
theorem kkM_le (M:Mo):kkM M ≤ 64:=by
 unfold kkM
 split
 ·rename_i h;exact (chkE_ok h).1
 ·omega
theorem DcA.lst {L w w' e} {M:Mo} {E:Nat → List (Int × Rat)} (h0:chkE M=0) (h:DcA L w w' e M.ck E):LsA L w w' e (chkE M) (kkM M) E:=by
 obtain ⟨ao,cap,A,rfl,hb,hD⟩:=h
 have e1:kkM M=M.ck:=by unfold kkM;rw [if_pos h0]
 rw [e1,h0]
 refine ⟨ao,cap,rfl,hb,fun j hj=>?_⟩
 rcases hD.out.row.2 with ⟨_,k0⟩ | ⟨gb,cap',cur,hv,_⟩
 ·omega
 ·cases hv
  have:=hD.out.row.cells (scs_get hj)
  exact ⟨gb,0,(A j).1,(A j).2,rfl,by rw [Nat.zero_add];exact this,(hD.out.el j hj).1⟩
theorem ls_nil {L w w' e} {M:Mo} {E:Nat → List (Int × Rat)} (h0:chkE M ≠ 0) (h:e=.returned (.tuple #[.slice none 0 0,.int .i64 (chkE M)])) (hb:Below w.heap.size w w'):LsA L w w' e (chkE M) (kkM M) E:=by
 have e1:kkM M=0:=by unfold kkM;rw [if_neg h0]
 rw [e1]
 exact ⟨none,0,h,hb,fun j hj=>by omega⟩
theorem CoAns.lst {K:Nat} {w0 w w':World} {e:Ending} {M M':Mo} {q:Rat} {cs:List CV} {rs:List RV} (hs:Sm M M') (h:CoAns w w' e M') (hv:chkE M=0 → MoV K w0 M q cs rs ∧ mvOk cs rs=true):LsA K w w' e (chkE M) (kkM M) (fun j=>clq rs (j:Int) M.rk):=by
 unfold CoAns at h
 rw [hs.chk] at h
 rcases h with ⟨h0,he,hb⟩ | ⟨h0,g,T',V,rfl,hb,hC,hT⟩
 ·exact ls_nil h0 he hb
 ·obtain ⟨hV,hok⟩:=hv h0
  simp only [mvOk,Bool.and_eq_true,decide_eq_true_eq,List.all_eq_true] at hok
  have e1:kkM M=M.ck:=by unfold kkM;rw [if_pos h0]
  rw [e1,h0]
  refine ⟨some ⟨g,0,none⟩,M'.ck,by rw [hs.ck],hb,fun j hj=>?_⟩
  have hj':j < M'.ck:=by rw [hs.ck];exact hj
  have hrow:=hC.row j hj'
  obtain ⟨ta,tc,hVj⟩:=hrow.slice
  have hcell:=hC.cell hj'
  have htv:=cent_tvm (L:=K) (w:=w') (n:=cs.length) (j:=j) (cl:=fun i=>(M'.R i).col) (tk:=fun i=>(M'.R i).tk) (T:=T') (rs:=rs) (fun i v hi=>by
   have hlt:i < M.rk:=by rw [hV.rk];exact (List.getElem?_eq_some_iff.1 hi).1
   have p:=hs.R i hlt
   obtain ⟨_,kr⟩:=hV.rls i v hi
   refine ⟨(hok.2.2.2.1 v (List.mem_of_getElem? hi)).2.1,by show (M'.R i).tk=_;rw [p.tk,kr.tk],fun t z r ht=>?_⟩
   obtain ⟨k1,k2,_⟩:=kr.tl t z r ht
   have htk:t < (M.R i).tk:=by rw [kr.tk];exact (List.getElem?_eq_some_iff.1 ht).1
   obtain ⟨s1,s2⟩:=hT i (by rw [hs.rk];exact hlt) t (by rw [p.tk];exact htk)
   exact ⟨by show (M'.R i).col t=z;rw [p.col,k1],Rn.sn (t:=(M.R i).T t) (t':=T' i t) k2 ((p.T t htk).trans s1) s2⟩) (i:=M.rk) (by rw [hV.rk];exact Nat.le_refl _)
  have hrow':RowG 62 4 w.heap.size w' (V j) (cent (fun i=>(M'.R i).col) (fun i=>(M'.R i).tk) T' j M.rk).length (tcells (cent (fun i=>(M'.R i).col) (fun i=>(M'.R i).tk) T' j M.rk)):=by rw [← hs.rk];exact hrow
  obtain ⟨ta,tc,hVj⟩:=hrow'.slice
  rw [hVj] at hrow' hcell
  refine ⟨g,0,ta,tc,rfl,?_,tvm_tf htv hrow'⟩
  rw [Nat.zero_add,hcell,htv.1]
def CpA (w w':World) (e:Ending) (er:Int) (V:Value):Prop:=(er ≠ 0 ∧ e=.returned (.tuple #[.agg #[.bool false,.slice none 0 0,.slice none 0 0,.slice none 0 0,.slice none 0 0],.int .i64 er]) ∧ Below w.heap.size w w') ∨ (er=0 ∧ ∃ s' x' n' c' y' m' d' ca' ck' cc' ra' rk' rc',e=.returned (.tuple #[.agg #[.bool s',.slice x' n' c',.slice y' m' d',.slice ca' ck' cc',.slice ra' rk' rc'],.int .i64 0]) ∧ Below w.heap.size w w' ∧ Hid (∀ w5,Below w'.heap.size w' w5 → Calls Tryz.prog 21 #[.agg #[.bool s',.slice x' n' c',.slice y' m' d',.slice ca' ck' cc',.slice ra' rk' rc'],V] w5 fun e w6=>e=.returned (.bool true) ∧ Below w5.heap.size w5 w6))
theorem copyA {K:Nat} {w0 w:World} {M M':Mo} (hX0:MoX w0 M) (hb0:Below w0.heap.size w0 w) (hN:MoN M) (hk:M.ck ≤ 64 → M.rk ≤ 64 → MoK K M) (hK:K ≤ 1000) (hs:Sm M M') (hX:MoX w M'):Calls Tryz.prog 20 #[M'.val] w fun e w'=>CpA w w' e (chkE M) M.val:=by
 have hk':M'.ck ≤ 64 → M'.rk ≤ 64 → MoK K M':=fun a b=>hs.mok (hk (by rw [← hs.ck];exact a) (by rw [← hs.rk];exact b))
 refine (copy_c hX (hs.mon hN) hk' hK).mono fun e w' h=>?_
 rw [hs.chk] at h
 rcases h with ⟨h0,he,hb⟩ | ⟨h0,M2,he,hb,hs2,hX2,_⟩
 ·exact .inl ⟨h0,he,hb⟩
 ·obtain ⟨l1,l2,_⟩:=chkE_ok h0
  have hs3:=hs.trans hs2
  have r1:MoR w' M2:=hX2.mor (hs3.mon hN) (hs3.mok (hk l1 l2)) (Nat.le_trans hK (by decide)) (by rw [hs3.ck];exact l1) (by rw [hs3.rk];exact l2)
  have r2:MoR w' M:=(hX0.below (hb0.trans (hb.mono hb0.size))).mor hN (hk l1 l2) (Nat.le_trans hK (by decide)) l1 l2
  have hsm:=hs3.same
  obtain ⟨⟨s,x,n,c,f,y,m,d,g⟩,ca,ck,cc,C,ra,rk,rc,R⟩:=M2
  refine .inr ⟨h0,s,x,n,c,y,m,d,ca,ck,cc,ra,rk,rc,he,hb,fun w5 h5=>?_⟩
  have:=mSame_c (r1.below h5) (r2.below h5)
  rw [hsm] at this
  exact this
theorem zSame_c {w:World}:Calls Tryz.prog 21 #[.agg #[.bool false,.slice none 0 0,.slice none 0 0,.slice none 0 0,.slice none 0 0],.agg #[.bool false,.slice none 0 0,.slice none 0 0,.slice none 0 0,.slice none 0 0]] w fun e w'=>e=.returned (.bool true) ∧ Below w.heap.size w w':=by
 have hz:MoR w ⟨nz9,none,0,0,fun _=>⟨ByteArray.empty,nz9,⟨0,nz9⟩,⟨0,nz9⟩⟩,none,0,0,fun _=>⟨ByteArray.empty,⟨0,nz9⟩,⟨0,nz9⟩,none,0,0,fun _=>0,fun _=>nz9⟩⟩:=⟨⟨⟨fun j hj=>absurd hj (Nat.not_lt_zero _),fun j hj=>absurd hj (Nat.not_lt_zero _),⟨Nat.le_refl _,by decide⟩,fun _=>⟨rfl,rfl⟩,fun j hj=>absurd hj (Nat.not_lt_zero _),fun j hj=>absurd hj (Nat.not_lt_zero _),⟨Nat.le_refl _,by decide⟩,fun _=>⟨rfl,rfl⟩⟩,by decide,by decide⟩,fun j hj=>absurd hj (Nat.not_lt_zero _),fun j hj=>absurd hj (Nat.not_lt_zero _),Nat.zero_le _,Nat.zero_le _⟩
 have:=mSame_c hz hz
 rw [show smB _ _=true from Sm.same ⟨⟨rfl,rfl,rfl,rfl,rfl⟩,rfl,fun j hj=>absurd hj (Nat.not_lt_zero _),rfl,fun j hj=>absurd hj (Nat.not_lt_zero _)⟩] at this
 exact this
def TwD (w:World) (V W:Value) (er:Int) (kk:Nat) (E:Nat → List (Int × Rat)):Prop :=
 (∀ w',Below w.heap.size w w' → Calls Tryz.prog 17 #[V] w' fun e w2=>LsA 10 w' w2 e er kk E) ∧ (∀ w',Below w.heap.size w w' → Calls Tryz.prog 20 #[V] w' fun e w2=>CpA w' w2 e er W)
set_option maxRecDepth 100000 in
set_option maxHeartbeats 8000000 in
theorem modelColumns_c {w:World} {M:Mo} (hX:MoX w M) (hN:MoN M) (hC:MoC M):Calls Tryz.prog 4 #[M.val] w fun e w'=>e=.returned (.bool true) ∧ Below w.heap.size w w':=by
 obtain ⟨lb,hlb⟩:∃ t,lgM 10 M=t:=⟨_,rfl⟩
 have CL:=hid (fun w' (hw:Below w.heap.size w w')=>mLight_c (w:=w') (K:=10) (hX.below hw).light.1 (hX.below hw).light.2)
 rw [hlb] at CL
 obtain ⟨q,cs,rs,hv⟩:∃ q cs rs,lb=true → chkE M=0 → MoV 10 w M q cs rs ∧ mvOk cs rs=true:=by
  by_cases h:lb=true
  ·by_cases h0:chkE M=0
   ·obtain ⟨l1,l2,_⟩:=chkE_ok h0
    obtain ⟨q,cs,rs,a,b⟩:=(hX.both hN (lgM_k (hlb.trans h)) (by decide) l1 l2).1.mov (lgM_k (hlb.trans h) l1 l2) h0
    exact ⟨q,cs,rs,fun _ _=>⟨a,b⟩⟩
   ·exact ⟨0,[],[],fun _ e=>absurd e h0⟩
  ·exact ⟨0,[],[],fun e=>absurd e h⟩
 have CT:Hid (∀ w',Below w.heap.size w w' → lb=true → Calls Tryz.prog 12 #[M.val] w' fun e w2=>∃ V,e=.returned V ∧ Below w'.heap.size w' w2 ∧ TwD w2 V M.val (chkE M) (kkM M) (fun j=>clq rs (j:Int) M.rk)):=fun w' hw h=>(twin_w (w:=w') (K:=10) (hX.below hw) hN (lgM_k (hlb.trans h)) (by decide)).mono fun e w2 ⟨M',h1,h2,h3,h4,h5,h6⟩=>⟨_,h1,h2,
  fun w3 hw3=>(columns_c (h4.below hw3) (fun a b=>(h6 a b).mot (by decide))).mono fun e w4 k=>CoAns.lst h3 k (hv h),
  fun w3 hw3=>copyA hX (hw.trans ((h2.trans (hw3.mono h2.size)).mono hw.size)) hN (lgM_k (hlb.trans h)) (by decide) h3 (h5.below hw3)⟩
 have CX:Hid (∀ w',Below w.heap.size w w' → lb=true → Calls Tryz.prog 18 #[M.val] w' fun e w2=>LsA 40 w' w2 e (chkE M) (kkM M) (fun j=>clq rs (j:Int) M.rk)):=fun w' hw h=>(docColumns_c (w:=w') (K:=10) (q:=q) (cs:=cs) (rs:=rs) (fun h0=>⟨(hv h h0).1.below hw,(hv h h0).2⟩) ((hX.below hw).both hN (lgM_k (hlb.trans h)) (by decide)) hC (by decide) (by decide)).mono fun e w2 k=>by
  rcases k with ⟨h0,he,hb⟩ | ⟨h0,hd⟩
  ·exact ls_nil h0 he hb
  ·exact hd.lst h0
 have HL:Hid (kkM M ≤ 64 ∧ ∀ j,j < kkM M → (clq rs (j:Int) M.rk).length ≤ 64):=⟨kkM_le M,fun j hj=>by
  unfold kkM at hj
  split at hj
  ·rename_i h0;exact Nat.le_trans (clq_len _ _ _) (chkE_ok h0).2.1
  ·omega⟩
 obtain ⟨er,her⟩:∃ t,chkE M=t:=⟨_,rfl⟩
 obtain ⟨kk,hkk⟩:∃ t,kkM M=t:=⟨_,rfl⟩
 obtain ⟨E,hE⟩:∃ E,(fun j:Nat=>clq rs (j:Int) M.rk)=E:=⟨_,rfl⟩
 rw [her,hkk,hE] at CT CX
 replace HL:Hid (kk ≤ 64 ∧ ∀ j,j < kk → (E j).length ≤ 64):=by subst hE;subst hkk;exact HL
 clear hX hN hC hlb her hkk hE hv
 obtain ⟨⟨s,x,n,c,f,y,m,d,g⟩,ca,ck,cc,C,ra,rk,rc,R⟩:=M
 replace CL:Hid (∀ w',Below w.heap.size w w' → Calls Tryz.prog 10 #[.agg #[.bool s,.slice x n c,.slice y m d,.slice ca ck cc,.slice ra rk rc],.int .i64 10] w' fun e w2=>e=.returned (.bool lb) ∧ Below w'.heap.size w' w2):=CL
 replace CT:Hid (∀ w',Below w.heap.size w w' → lb=true → Calls Tryz.prog 12 #[.agg #[.bool s,.slice x n c,.slice y m d,.slice ca ck cc,.slice ra rk rc]] w' fun e w2=>∃ V,e=.returned V ∧ Below w'.heap.size w' w2 ∧ TwD w2 V (.agg #[.bool s,.slice x n c,.slice y m d,.slice ca ck cc,.slice ra rk rc]) er kk E):=CT
 replace CX:Hid (∀ w',Below w.heap.size w w' → lb=true → Calls Tryz.prog 18 #[.agg #[.bool s,.slice x n c,.slice y m d,.slice ca ck cc,.slice ra rk rc]] w' fun e w2=>LsA 40 w' w2 e er kk E):=CX
 show Calls Tryz.prog 4 #[.agg #[.bool s,.slice x n c,.slice y m d,.slice ca ck cc,.slice ra rk rc]] w _
 have h3:=below_alloc (Below.refl w.heap.size w) (.cells #[.bool s,.slice x n c,.slice y m d,.slice ca ck cc,.slice ra rk rc] 28)
 have B1:=bk_new w [.bool s,.slice x n c,.slice y m d,.slice ca ck cc,.slice ra rk rc] 28
 replace B1:Bk (w.alloc (.cells #[.bool s,.slice x n c,.slice y m d,.slice ca ck cc,.slice ra rk rc] 28)) w.heap.size [.bool s,.slice x n c,.slice y m d,.slice ca ck cc,.slice ra rk rc] 28:=B1
 go_enter Tryz.func4,Tryz.ntmps4
 go_wp2_with fail
 generalize w.alloc (.cells #[.bool s,.slice x n c,.slice y m d,.slice ca ck cc,.slice ra rk rc] 28)=w1 at *
 refine awake7_c.mono ?_
 rintro e w2 ⟨rfl,hb2⟩
 replace B1:=B1.below hb2
 have HW2:=hid (h3.trans (hb2.mono h3.size))
 clear hb2 h3
 have r0:=B1.cell (j:=0) rfl
 have r1:=B1.cell (j:=1) rfl
 have r2:=B1.cell (j:=2) rfl
 have r3:=B1.cell (j:=3) rfl
 have r4:=B1.cell (j:=4) rfl
 go_wp2_with fail
 refine (CL.out _ HW2.out).mono ?_
 rintro e w3 ⟨rfl,hb3⟩
 replace B1:=B1.below hb3
 have HW3:=hid (HW2.out.trans (hb3.mono HW2.out.size))
 clear hb3 HW2 CL r0 r1 r2 r3 r4
 cases lb
 ·go_wp2
  go_ret
  exact ⟨rfl,HW3.out⟩
 have r0:=B1.cell (j:=0) rfl
 have r1:=B1.cell (j:=1) rfl
 have r2:=B1.cell (j:=2) rfl
 have r3:=B1.cell (j:=3) rfl
 have r4:=B1.cell (j:=4) rfl
 go_wp2_with fail
 refine (CT.out _ HW3.out (by first | rfl | trivial)).mono ?_
 rintro e w4 ⟨V,rfl,hb4,hT⟩
 have HV:=hid hT.1
 replace B1:=B1.below hb4
 have HW4:=hid (HW3.out.trans (hb4.mono HW3.out.size))
 clear hb4 HW3 r0 r1 r2 r3 r4 hT
 have r0:=B1.cell (j:=0) rfl
 have r1:=B1.cell (j:=1) rfl
 have r2:=B1.cell (j:=2) rfl
 have r3:=B1.cell (j:=3) rfl
 have r4:=B1.cell (j:=4) rfl
 go_wp2_with fail
 refine (HV.out _ (Below.refl _ _)).mono ?_
 rintro e w5 ⟨xa,xc,rfl,hb5,i1⟩
 have I1:=hid i1
 replace B1:=B1.below hb5
 have HW5:=hid (HW4.out.trans (hb5.mono HW4.out.size))
 clear hb5 HW4 r0 r1 r2 r3 r4 HV i1
 have r0:=B1.cell (j:=0) rfl
 have r1:=B1.cell (j:=1) rfl
 have r2:=B1.cell (j:=2) rfl
 have r3:=B1.cell (j:=3) rfl
 have r4:=B1.cell (j:=4) rfl
 go_wp2_with fail
 refine (CX.out _ HW5.out (by first | rfl | trivial)).mono ?_
 rintro e w6 ⟨ya,yc,rfl,hb6,i2⟩
 have I2:=hid (Lst.two (I1.out.below hb6) i2 HL.out.2)
 replace B1:=B1.below hb6
 have HW6:=hid (HW5.out.trans (hb6.mono HW5.out.size))
 clear hb6 HW5 r0 r1 r2 r3 r4 I1 i2 CX
 have z1:(er != er)=false:=by simp
 have r0:=B1.cell (j:=0) rfl
 have r1:=B1.cell (j:=1) rfl
 have r2:=B1.cell (j:=2) rfl
 have r3:=B1.cell (j:=3) rfl
 have r4:=B1.cell (j:=4) rfl
 go_wp2_with fail
 refine (lawColumns_c I2.out HL.out.1 (by decide) (by decide)).mono ?_
 rintro e w7 ⟨rfl,hb7⟩
 replace B1:=B1.below hb7
 have HW7:=hid (HW6.out.trans (hb7.mono HW6.out.size))
 clear hb7 HW6 r0 r1 r2 r3 r4 I2 HL
 have r0:=B1.cell (j:=0) rfl
 have r1:=B1.cell (j:=1) rfl
 have r2:=B1.cell (j:=2) rfl
 have r3:=B1.cell (j:=3) rfl
 have r4:=B1.cell (j:=4) rfl
 go_wp2_with fail
 refine (CT.out _ HW7.out (by first | rfl | trivial)).mono ?_
 rintro e w8 ⟨V',rfl,hb8,hT⟩
 have HV:=hid hT.2
 replace B1:=B1.below hb8
 have HW8:=hid (HW7.out.trans (hb8.mono HW7.out.size))
 clear hb8 HW7 r0 r1 r2 r3 r4 hT
 go_wp2_with fail
 refine (HV.out _ (Below.refl _ _)).mono ?_
 rintro e w9 (⟨h0,rfl,hb9⟩ | ⟨h0,s',x',n',c',y',m',d',ca',ck',cc',ra',rk',rc',rfl,hb9,HS⟩)
 ·have HW9:=hid (HW8.out.trans (hb9.mono HW8.out.size))
  have hne:(er != 0)=true:=by simpa using h0
  have q1:(er == er)=true:=by simp
  have hb10:=below_alloc (Below.refl w9.heap.size w9) (.cells #[.bool false,.slice none 0 0,.slice none 0 0,.slice none 0 0,.slice none 0 0] 28)
  have HW10:=hid (HW9.out.trans (hb10.mono HW9.out.size))
  have B7:=bk_new w9 [.bool false,.slice none 0 0,.slice none 0 0,.slice none 0 0,.slice none 0 0] 28
  replace B7:Bk (w9.alloc (.cells #[.bool false,.slice none 0 0,.slice none 0 0,.slice none 0 0,.slice none 0 0] 28)) w9.heap.size [.bool false,.slice none 0 0,.slice none 0 0,.slice none 0 0,.slice none 0 0] 28:=B7
  clear hb9 hb10 HW8 HW9 HV h0
  go_wp2_with fail
  generalize w9.alloc (.cells #[.bool false,.slice none 0 0,.slice none 0 0,.slice none 0 0,.slice none 0 0] 28)=w10 at *
  refine zSame_c.mono ?_
  rintro e w11 ⟨rfl,hb11⟩
  have HW11:=hid (HW10.out.trans (hb11.mono HW10.out.size))
  clear hb11
  go_wp2
  go_ret
  exact ⟨rfl,HW11.out⟩
 ·have HW9:=hid (HW8.out.trans (hb9.mono HW8.out.size))
  subst h0
  have hb10:=below_alloc (Below.refl w9.heap.size w9) (.cells #[.bool s',.slice x' n' c',.slice y' m' d',.slice ca' ck' cc',.slice ra' rk' rc'] 28)
  have HW10:=hid (HW9.out.trans (hb10.mono HW9.out.size))
  have B7:=bk_new w9 [.bool s',.slice x' n' c',.slice y' m' d',.slice ca' ck' cc',.slice ra' rk' rc'] 28
  replace B7:Bk (w9.alloc (.cells #[.bool s',.slice x' n' c',.slice y' m' d',.slice ca' ck' cc',.slice ra' rk' rc'] 28)) w9.heap.size [.bool s',.slice x' n' c',.slice y' m' d',.slice ca' ck' cc',.slice ra' rk' rc'] 28:=B7
  replace B1:=(B1.below hb9).below hb10
  have HSS:=hid (HS.out _ hb10)
  clear hb9 hb10 HW8 HW9 HV HS
  have r0:=B1.cell (j:=0) rfl
  have r1:=B1.cell (j:=1) rfl
  have r2:=B1.cell (j:=2) rfl
  have r3:=B1.cell (j:=3) rfl
  have r4:=B1.cell (j:=4) rfl
  go_wp2_with fail
  generalize w9.alloc (.cells #[.bool s',.slice x' n' c',.slice y' m' d',.slice ca' ck' cc',.slice ra' rk' rc'] 28)=w10 at *
  refine HSS.out.mono ?_
  rintro e w11 ⟨rfl,hb11⟩
  have HW11:=hid (HW10.out.trans (hb11.mono HW10.out.size))
  clear hb11
  go_wp2
  go_ret
  exact ⟨rfl,HW11.out⟩
end Go.Proofs.YtgmllfcngnfpkaaGreat
