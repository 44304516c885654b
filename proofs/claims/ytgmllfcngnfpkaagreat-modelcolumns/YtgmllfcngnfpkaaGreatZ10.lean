/-
 Lists of lists of terms; the walk of package model's Columns (written by makers/f19.py). A drawn region as a flow: operations that make values or new memory (calls, builds, lists that are built) in whatever order, each shown once; behind them those that must come last. No Go text is named here.
-/
import Derived.Test.YtgmllfcngnfpkaaGreatZ9
import Derived.Test.YtgmllfcngnfpkaaGreatZ7
import Derived.Test.YtgmllfcngnfpkaaGreatZ0
import Derived.Deep.RegionHeld3
namespace Go.Proofs.YtgmllfcngnfpkaaGreat
open Go.RowKit
def ent (col:Nat → Int) (T:Nat → Nm) (j i:Nat):Nat → List (Int × Nm)
 | 0=>[]
 | p + 1=>ent col T j i p ++ (if col p=(j:Int) then [((i:Int),T p)] else [])
def cent (cl:Nat → Nat → Int) (tk:Nat → Nat) (T:Nat → Nat → Nm) (j:Nat):Nat → List (Int × Nm)
 | 0=>[]
 | i + 1=>cent cl tk T j i ++ ent (cl i) (T i) j i (tk i)
theorem ent_len (col:Nat → Int) (T:Nat → Nm) (j i:Nat):∀ p,(ent col T j i p).length ≤ p
 | 0=>Nat.le_refl _
 | p + 1=>by
  have:=ent_len col T j i p
  unfold ent
  rw [List.length_append]
  split <;> simp <;> omega
theorem cent_len {cl:Nat → Nat → Int} {tk:Nat → Nat} {T:Nat → Nat → Nm} {j K:Nat}:∀ {i:Nat},(∀ q,q < i → tk q ≤ K) → (cent cl tk T j i).length ≤ i * K
 | 0,_=>Nat.zero_le _
 | i + 1,h=>by
  have h1:=cent_len (cl:=cl) (T:=T) (j:=j) (i:=i) (fun q hq=>h q (by omega))
  have h2:=ent_len (cl i) (T i) j i (tk i)
  have h3:=h i (by omega)
  unfold cent
  rw [List.length_append,Nat.add_mul];omega
theorem cent_congr {cl:Nat → Nat → Int} {tk:Nat → Nat} {T T':Nat → Nat → Nm} {j:Nat}:∀ {i:Nat},(∀ q,q < i → T q=T' q) → cent cl tk T j i=cent cl tk T' j i
 | 0,_=>rfl
 | i + 1,h=>by
  unfold cent
  rw [cent_congr (fun q hq=>h q (by omega)),h i (by omega)]
theorem ent_yes {col:Nat → Int} {T:Nat → Nm} {j i p:Nat} (h:col p=(j:Int)):ent col T j i (p + 1)=ent col T j i p ++ [((i:Int),T p)]:=by simp [ent,h]
theorem ent_no {col:Nat → Int} {T:Nat → Nm} {j i p:Nat} (h:col p ≠ (j:Int)):ent col T j i (p + 1)=ent col T j i p:=by simp [ent,h]
def putT (T:Nat → Nat → Nm) (i:Nat) (t:Nat → Nm):Nat → Nat → Nm:=fun j=>if j=i then t else T j
theorem putT_at (T:Nat → Nat → Nm) (i:Nat) (t:Nat → Nm):putT T i t i=t:=by simp [putT]
theorem putT_ne {T:Nat → Nat → Nm} {i j:Nat} {t:Nat → Nm} (h:j ≠ i):putT T i t j=T j:=by simp [putT,h]
def putV (V:Nat → Value) (i:Nat) (t:Value):Nat → Value:=fun j=>if j=i then t else V j
theorem putV_at (T:Nat → Value) (i:Nat) (t:Value):putV T i t i=t:=by simp [putV]
theorem putV_ne {T:Nat → Value} {i j:Nat} {t:Value} (h:j ≠ i):putV T i t j=T j:=by simp [putV,h]
structure Co (base:Nat) (w:World) (g ck:Nat) (V:Nat → Value) (E:Nat → List (Int × Nm)) (X:Nat → Prop):Prop where
 bl:∃ cur,w.heap[g]?=some (.cells cur 60 (0,0)) ∧ cur.size=ck ∧ NoU cur ∧ ∀ j,j < ck → cur[j]?=some (V j)
 ge:base ≤ g
 xg:¬ X g
 row:∀ j,j < ck → RowG 62 4 base w (V j) (E j).length (tcells (E j))
 ne:∀ j,j < ck → (V j).ownBlock ≠ some g
 nx:∀ j,j < ck → ∀ b,(V j).ownBlock=some b → ¬ X b
 dj:∀ i j,i < ck → j < ck → i ≠ j → ∀ b,(V i).ownBlock=some b → (V j).ownBlock ≠ some b
theorem Co.lt {base w g ck V E X} (h:Co base w g ck V E X):g < w.heap.size:=by
 obtain ⟨cur,h1,_⟩:=h.bl
 exact (Array.getElem?_eq_some_iff.1 h1).1
theorem Co.below {base w w' g ck V E X} (h:Co base w g ck V E X) (hb:Below w.heap.size w w'):Co base w' g ck V E X:=by
 have hlt:=h.lt
 obtain ⟨cur,h1,h2⟩:=h.bl
 exact ⟨⟨cur,(hb.block g hlt).trans h1,h2⟩,h.ge,h.xg,fun j hj=>(h.row j hj).below hb,h.ne,h.nx,h.dj⟩
theorem Co.cell {base w g ck V E X} (h:Co base w g ck V E X) {j:Nat} (hj:j < ck):w.cell? ⟨g,j,none⟩=some (V j):=by
 obtain ⟨cur,h1,_,_,h2⟩:=h.bl
 simp only [World.cell?,h1]
 simpa using h2 j hj
theorem Co.unx {base w g ck V E X} (h:Co base w g ck V E X) (Y:Nat → Prop) (hY:∀ b,Y b → w.heap.size ≤ b):Co base w g ck V E Y :=
 ⟨h.bl,h.ge,fun hy=>by have:=hY g hy;have:=h.lt;omega,h.row,h.ne,fun j hj b hb hy=>by have:=hY b hy;have:=((h.row j hj).lt b hb).2;omega,h.dj⟩
theorem Co.congr {base w g ck V E E' X} (h:Co base w g ck V E X) (he:∀ j,j < ck → E j=E' j):Co base w g ck V E' X :=
 ⟨h.bl,h.ge,h.xg,fun j hj=>by rw [← he j hj];exact h.row j hj,h.ne,h.nx,h.dj⟩
theorem Co.put {base w w8 g ck V E X} (h : Co base w g ck V E X) {c : Nat} (hc : c < ck) {g8 cap8 en : Nat} {x : Int × Nm} (hen : (E c).length = en) (hX : ∀ b, X b → b < w.heap.size)
    (hr : RowG 62 4 base w8 (.slice (some ⟨g8, 0, none⟩) (en + 1) cap8) (en + 1) (tcells (E c) ++ tcell x.1 x.2))
    (hg : ∀ k, k < w.heap.size → (V c).ownBlock ≠ some k → w8.heap[k]? = w.heap[k]?) (hl : (V c).ownBlock = some g8 ∨ w.heap.size ≤ g8) :
    Co base (w8.setCell ⟨g, c, none⟩ (.slice (some ⟨g8, 0, none⟩) (en + 1) cap8)) g ck (putV V c (.slice (some ⟨g8, 0, none⟩) (en + 1) cap8)) (fun j => if j = c then E c ++ [x] else E j) X := by
  subst hen
  have hgl := h.lt
  have hg8 : g8 ≠ g := fun e => by
    rcases hl with h1 | h1
    · exact h.ne c hc (e ▸ h1)
    · omega
  have hset : ∀ k, k ≠ g → (w8.setCell ⟨g, c, none⟩ (.slice (some ⟨g8, 0, none⟩) ((E c).length + 1) cap8)).heap[k]? = w8.heap[k]? := fun k hk => Below.heap_setCell _ _ _ _ hk
  obtain ⟨cur, h1, h2, h3, h4⟩ := h.bl
  have h8 : w8.heap[g]? = some (.cells cur 60 (0, 0)) := (hg g hgl (h.ne c hc)).trans h1
  refine ⟨⟨cur.setIfInBounds c (.slice (some ⟨g8, 0, none⟩) ((E c).length + 1) cap8), ?_, by simpa using h2, ?_, fun j hj => ?_⟩, h.ge, h.xg, fun j hj => ?_, fun j hj => ?_, fun j hj b hb => ?_, fun i j hi hj hij b hb => ?_⟩
  · simp [World.setCell, Array.getElem?_modify, h8]
  · intro i z
    by_cases e : i = c
    · subst e
      rw [Array.getElem?_setIfInBounds_self]; split <;> simp
    · rw [Array.getElem?_setIfInBounds_ne (Ne.symm e)]; exact h3 i z
  · by_cases e : j = c
    · subst e; rw [putV_at]; simp [h2, hj]
    · rw [putV_ne e, Array.getElem?_setIfInBounds_ne (Ne.symm e)]; exact h4 j hj
  · by_cases e : j = c
    · subst e
      rw [putV_at]
      simp only [if_true, List.length_append, List.length_singleton]
      have : tcells (E j ++ [x]) = tcells (E j) ++ tcell x.1 x.2 := by obtain ⟨a, b⟩ := x; exact tcells_append _ _ _
      rw [this]
      exact hr.of (fun k hk => hset k (fun e => by have : g8 = k := by simpa [Value.ownBlock] using hk
                                                   omega))
    · rw [putV_ne e]
      simp only [e, if_false]
      refine (h.row j hj).of (fun k hk => ?_)
      have hk1 := ((h.row j hj).lt k hk).2
      rw [hset k (fun e2 => h.ne j hj (e2 ▸ hk)), hg k hk1 (fun e2 => h.dj c j hc hj (Ne.symm e) k e2 hk)]
  · by_cases e : j = c
    · subst e; rw [putV_at]; intro e2; exact hg8 (by simpa [Value.ownBlock] using e2)
    · rw [putV_ne e]; exact h.ne j hj
  · by_cases e : j = c
    · subst e
      rw [putV_at] at hb
      have hb' : g8 = b := by simpa [Value.ownBlock] using hb
      intro hx
      rcases hl with h5 | h5
      · exact h.nx j hj b (hb' ▸ h5) hx
      · have := hX b hx; omega
    · rw [putV_ne e] at hb; exact h.nx j hj b hb
  · by_cases e : i = c
    · subst e
      rw [putV_at] at hb
      have hb' : g8 = b := by simpa [Value.ownBlock] using hb
      rw [putV_ne (Ne.symm hij)]
      intro h5
      rcases hl with h6 | h6
      · exact h.dj i j hi hj hij g8 h6 (hb' ▸ h5)
      · have := ((h.row j hj).lt b h5).2; omega
    · rw [putV_ne e] at hb
      by_cases e2 : j = c
      · subst e2
        rw [putV_at]
        intro h5
        have hb' : g8 = b := by simpa [Value.ownBlock] using h5
        rcases hl with h6 | h6
        · exact h.dj i j hi hj hij b hb (hb' ▸ h6)
        · have := ((h.row i hi).lt b hb).2; omega
      · rw [putV_ne e2]; exact h.dj i j hi hj hij b hb
theorem Tl.of {w w' ao k col T} (h:Tl w ao k col T) (hb:∀ b o s,ao=some ⟨b,o,s⟩ → w'.heap[b]?=w.heap[b]?) (hk:Kp w w'):Tl w' ao k col T:=fun j hj=>by
 obtain ⟨b,o,e,⟨c0,c1,c2,c3⟩,h2,h3⟩:=h j hj
 have:=hb b o none e
 exact ⟨b,o,e,⟨(World.cell?_of_block (a:=⟨b,o + j * 4,none⟩) this).trans c0,(World.cell?_of_block (a:=⟨b,o + j * 4 + 1,none⟩) this).trans c1,(World.cell?_of_block (a:=⟨b,o + j * 4 + 2,none⟩) this).trans c2,(World.cell?_of_block (a:=⟨b,o + j * 4 + 3,none⟩) this).trans c3⟩,h2.kp hk,h3⟩
theorem wpList_make_co {P:Program} (w:World) {ops:Array Oper} {rest:List Oper} {o:Oper} {a:Act} {Q:Exit → Act → World → Prop}
  (hg:o.guard=none) (l c:Operand) (t:TypeId) (hop:o.op=Op.makeSlice t l c)
  (e:TypeId) (bytes:Nat) (h1:P.underlying t=some (.slice e)) (h2:(P.info? e).map (fun i=>(i.zero,i.size,i.bytes))=some (some (.slice none 0 0),1,bytes))
  (kl kc:IntKind) (L C:Int) (n:Nat) (hl:a.eval l=.int kl L) (hc:a.eval c=.int kc C) (hL:L=(n:Int)) (hC:C=(n:Int)) (b2:bytes * n ≤ 281474976710656) (b3:n ≤ maxLen)
  (hK:∀ w',(∃ cur,w'.heap[w.heap.size]?=some (.cells cur e (0,0)) ∧ cur.size=n ∧ NoU cur ∧ ∀ j,j < n → cur[j]?=some (.slice none 0 0)) → Below w.heap.size w w' → wpList P ops Q rest (a.put o.dst (.slice (some ⟨w.heap.size,0,none⟩) n n)) w') :
  wpList P ops Q (o :: rest) a w:=by
 obtain ⟨i,hi,hz0,hz1,hz2⟩:=info_parts h2
 refine wpList_make_full w hg l c t hop w.heap.size e i _ 1 h1 hi hz0 hz1 kl kc L C n hl hc hL hC (by rw [hz2];exact b2) b3 (Nat.le_refl _) ?_
 intro w' hown hgr
 refine hK w' ?_ ((Below.refl _ _).grown hgr (Nat.le_refl _) (fun k h=>by cases h))
 obtain ⟨h1,h2⟩:=hown
 rcases h2 with ⟨hv,_⟩ | ⟨g,cap,cur,hv,hb,hg,hn,hm2,hs,ht⟩
 ·cases hv
 ·cases hv
  have hcz:(Value.slice none 0 0).cells=#[Value.slice none 0 0]:=rfl
  have hs':cur.size=n:=by omega
  have hall:∀ j,j < n → cur[j]?=some (.slice none 0 0):=fun j hj=>by
   have h3:cur.toList[j]?=(madeCells (Value.slice none 0 0).cells (n * 1)).toList[j]?:=by rw [← ht,List.getElem?_take,if_pos (by omega)]
   have h4:(madeCells (Value.slice none 0 0).cells (n * 1))[j]?=some (.slice none 0 0):=by simp [madeCells,hcz,hj,Nat.mod_one]
   simpa using h3.trans (by simpa using h4)
  refine ⟨cur,hg,hs',fun j z=>?_,hall⟩
  by_cases hj:j < n
  ·rw [hall j hj];simp
  ·rw [Array.getElem?_eq_none (by omega)];simp
theorem Tryz.infoTs:(Tryz.prog.info? 60).map (fun i=>(i.zero,i.size,i.bytes))=some (some (.slice none 0 0),1,24):=by kernel_rfl
theorem co_new {base:Nat} {w:World} {g ck:Nat} (hb:base ≤ g) (h:∃ cur,w.heap[g]?=some (.cells cur 60 (0,0)) ∧ cur.size=ck ∧ NoU cur ∧ ∀ j,j < ck → cur[j]?=some (.slice none 0 0)):Co base w g ck (fun _=>.slice none 0 0) (fun _=>[]) (fun _=>False) :=
 ⟨h,hb,fun h=>h,fun _ _=>rowG_nil _ _ _ _,(fun _ _ h=>nomatch h),(fun _ _ _ h=>nomatch h),(fun _ _ _ _ _ _ h=>nomatch h)⟩
theorem tfr_last {col:Nat → Int} {T:Nat → Nm}:∀ {r i:Nat} {last:Int},tfr col T r i last=true → ∀ p,i ≤ p → p < i + r → last < col p ∧ col p ≤ col (i + r - 1)
 | 0,i,last,_,p,h1,h2=>by omega
 | r + 1,i,last,h,p,h1,h2=>by
  simp only [tfr,Bool.and_eq_true,decide_eq_true_eq] at h
  obtain ⟨ha,_,_,hb⟩:=h
  cases r with
  | zero =>
   obtain rfl:p=i:=by omega
   exact ⟨ha,by simp⟩
  | succ r =>
   have e:i + (r + 1 + 1) - 1=i + 1 + (r + 1) - 1:=by omega
   have hn:=tfr_last hb (i + 1) (by omega) (by omega)
   rw [e]
   by_cases hp:p=i
   ·subst hp;exact ⟨ha,by omega⟩
   ·have:=tfr_last hb p (by omega) (by omega)
    exact ⟨by omega,this.2⟩
theorem alB_at {k:Nat} {R:Nat → Lr}:∀ {r i:Nat},alB k R r i=true → ∀ j,i ≤ j → j < i + r → lastB k (R j)=true
 | 0,i,_,j,h1,h2=>by omega
 | r + 1,i,h,j,h1,h2=>by
  simp only [alB,Bool.and_eq_true] at h
  by_cases e:j=i
  ·subst e;exact h.1
  ·exact alB_at h.2 j (by omega) (by omega)
theorem cols_at {k:Nat} {r:Lr} (h1:tfB r.tk r.col r.T=true) (h2:lastB k r=true):∀ p,p < r.tk → 0 ≤ r.col p ∧ r.col p < k:=fun p hp=>by
 have h3:=tfr_last h1 p (by omega) (by omega)
 simp only [lastB,Bool.or_eq_true,decide_eq_true_eq] at h2
 rw [Nat.zero_add] at h3
 rcases h2 with h2 | h2 <;> omega
structure MoT (M:Mo):Prop where
 tk:∀ i,i < M.rk → (M.R i).tk ≤ 10000
 nm:∀ i,i < M.rk → ∀ p,p < (M.R i).tk → ((M.R i).T p).n ≤ 1000 ∧ ((M.R i).T p).m ≤ 1000
def CoAns (w w':World) (e:Ending) (M:Mo):Prop :=
 (chkE M ≠ 0 ∧ e=.returned (.tuple #[.slice none 0 0,.int .i64 (chkE M)]) ∧ Below w.heap.size w w') ∨
 (chkE M=0 ∧ ∃ g T' V,e=.returned (.tuple #[.slice (some ⟨g,0,none⟩) M.ck M.ck,.int .i64 0]) ∧ Below w.heap.size w w' ∧ Co w.heap.size w' g M.ck V (fun j=>cent (fun i=>(M.R i).col) (fun i=>(M.R i).tk) T' j M.rk) (fun _=>False) ∧
  ∀ i,i < M.rk → ∀ p,p < (M.R i).tk → Sn ((M.R i).T p) (T' i p) ∧ Rw w' (T' i p).x (T' i p).n (T' i p).c (T' i p).f (T' i p).y (T' i p).m (T' i p).d (T' i p).g)
set_option maxRecDepth 100000 in
set_option maxHeartbeats 8000000 in
theorem columns_c {w:World} {M:Mo} (h:MoW w M) (hm:M.ck ≤ 64 → M.rk ≤ 64 → MoT M):Calls Tryz.prog 17 #[M.val] w fun r w'=>CoAns w w' r M:=by
 have CC:=hid (fun w' (hw:Below w.heap.size w w')=>check_w (w:=w') (h.below hw))
 obtain ⟨e,he⟩:∃ e,chkE M=e:=⟨_,rfl⟩
 rw [he] at CC
 by_cases h0:e=0
 case neg =>
  have HA:Hid (∀ w',Below w.heap.size w w' → CoAns w w' (.returned (.tuple #[.slice none 0 0,.int .i64 e])) M):=fun w' hw=>.inl ⟨by rw [he];exact h0,by rw [he],hw⟩
  have hne:(e != 0)=true:=by simpa using h0
  clear he h hm
  obtain ⟨⟨s,x,n,c,f,y,m,d,g⟩,ca,ck,cc,C,ra,rk,rc,R⟩:=M
  replace CC:Hid (∀ w',Below w.heap.size w w' → Calls Tryz.prog 14 #[.agg #[.bool s,.slice x n c,.slice y m d,.slice ca ck cc,.slice ra rk rc]] w' fun e' w2=>e'=.returned (.int .i64 e) ∧ Below w'.heap.size w' w2):=CC
  show Calls Tryz.prog 17 #[.agg #[.bool s,.slice x n c,.slice y m d,.slice ca ck cc,.slice ra rk rc]] w _
  go_enter Tryz.func17,Tryz.ntmps17
  go_wp2_with fail
  have HB:=hid (below_alloc (Below.refl w.heap.size w) (.cells #[.bool s,.slice x n c,.slice y m d,.slice ca ck cc,.slice ra rk rc] 28))
  refine (CC.out _ HB.out).mono ?_
  rintro r w1 ⟨rfl,hb1⟩
  have HB1:=hid (HB.out.trans (hb1.mono HB.out.size))
  clear hb1 HB CC
  go_wp2
  go_ret2
  exact HA.out _ HB1.out
 subst h0
 obtain ⟨l1,l2,hF,_,_,_,_,hAl⟩:=chkE_ok he
 obtain ⟨ho,hC,hR,hck,hrk⟩:=h l1 l2
 obtain ⟨hmt,hmn⟩:=hm l1 l2
 simp only [moF,Bool.and_eq_true] at hF
 have HCol:=hid (show ∀ i,i < M.rk → ∀ p,p < (M.R i).tk → 0 ≤ (M.R i).col p ∧ (M.R i).col p < M.ck from fun i hi=>cols_at (rlsB_at hF.2.2 i (by omega) (by omega)).2 (alB_at hAl i (by omega) (by omega)))
 generalize hP:(fun e w'=>CoAns w w' e M)=P
 have HA:Hid (∀ w' g T' V,Below w.heap.size w w' → Co w.heap.size w' g M.ck V (fun j=>cent (fun i=>(M.R i).col) (fun i=>(M.R i).tk) T' j M.rk) (fun _=>False) → (∀ i,i < M.rk → ∀ p,p < (M.R i).tk → Sn ((M.R i).T p) (T' i p) ∧ Rw w' (T' i p).x (T' i p).n (T' i p).c (T' i p).f (T' i p).y (T' i p).m (T' i p).d (T' i p).g) → P (.returned (.tuple #[.slice (some ⟨g,0,none⟩) M.ck M.ck,.int .i64 0])) w'):=by
  subst hP;exact fun w' g T' V h1 h2 h3=>.inr ⟨he,g,T',V,rfl,h1,h2,h3⟩
 clear he h hm ho hF hP hAl hC hck hrk
 obtain ⟨⟨s,x,n,c,f,y,m,d,g⟩,ca,ck,cc,C,ra,rk,rc,R⟩:=M
 replace l1:ck ≤ 64:=l1
 replace l2:rk ≤ 64:=l2
 have HRL:Hid (Rls w ra rk R):=hR
 replace HCol:Hid (∀ i,i < rk → ∀ p,p < (R i).tk → 0 ≤ (R i).col p ∧ (R i).col p < ck):=HCol
 have HMT:Hid (∀ i,i < rk → (R i).tk ≤ 10000):=hmt
 have HMN:Hid (∀ i,i < rk → ∀ p,p < (R i).tk → ((R i).T p).n ≤ 1000 ∧ ((R i).T p).m ≤ 1000):=hmn
 obtain ⟨cl,hcl⟩:∃ z:Nat → Nat → Int,(fun i=>(R i).col)=z:=⟨_,rfl⟩
 obtain ⟨tkf,htkf⟩:∃ z:Nat → Nat,(fun i=>(R i).tk)=z:=⟨_,rfl⟩
 have HCL:=hid (show ∀ i,(R i).col=cl i from fun i=>by rw [← hcl])
 have HTK:=hid (show ∀ i,(R i).tk=tkf i from fun i=>by rw [← htkf])
 replace HA:Hid (∀ w' g T' V,Below w.heap.size w w' → Co w.heap.size w' g ck V (fun j=>cent cl tkf T' j rk) (fun _=>False) → (∀ i,i < rk → ∀ p,p < (R i).tk → Sn ((R i).T p) (T' i p) ∧ Rw w' (T' i p).x (T' i p).n (T' i p).c (T' i p).f (T' i p).y (T' i p).m (T' i p).d (T' i p).g) → P (.returned (.tuple #[.slice (some ⟨g,0,none⟩) ck ck,.int .i64 0])) w'):=by
  rw [← hcl,← htkf];exact HA
 replace CC:Hid (∀ w',Below w.heap.size w w' → Calls Tryz.prog 14 #[.agg #[.bool s,.slice x n c,.slice y m d,.slice ca ck cc,.slice ra rk rc]] w' fun e w2=>e=.returned (.int .i64 0) ∧ Below w'.heap.size w' w2):=CC
 clear hR hmt hmn hcl htkf
 show Calls Tryz.prog 17 #[.agg #[.bool s,.slice x n c,.slice y m d,.slice ca ck cc,.slice ra rk rc]] w _
 go_enter Tryz.func17,Tryz.ntmps17
 go_wp2_with fail
 have HB:=hid (below_alloc (Below.refl w.heap.size w) (.cells #[.bool s,.slice x n c,.slice y m d,.slice ca ck cc,.slice ra rk rc] 28))
 refine (CC.out _ HB.out).mono ?_
 rintro r w1 ⟨rfl,hb1⟩
 have k3:=kCb hb1 (a:=⟨w.heap.size,3,none⟩) (v:=.slice ca ck cc) (by simp [go_sem])
 have k4:=kCb hb1 (a:=⟨w.heap.size,4,none⟩) (v:=.slice ra rk rc) (by simp [go_sem])
 have HB1:=hid (HB.out.trans (hb1.mono HB.out.size))
 clear hb1 HB CC
 go_wp2_with (at_make;refine wpList_make_co _ rfl (.tmp 17) (.tmp 17) 42 rfl 60 24 Tryz.underlying42 Tryz.infoTs .i64 .i64 ck ck ck rfl rfl rfl rfl (by omega) (by unfold maxLen;omega) ?_;intro w3 hk3 hb3;have k43:=kCb hb3 k4)
 have hs1:=HB1.out.size
 have HCo:=hid (co_new (base:=w.heap.size) hs1 hk3)
 obtain ⟨gO,hgO⟩:∃ z,w1.heap.size=z:=⟨_,rfl⟩
 rw [hgO] at HCo
 have HB3:=hid (HB1.out.trans (hb3.mono HB1.out.size))
 clear hk3 hb3 k3 HB1 hs1
 rw [hgO]
 clear hgO
 go_wp2_with fail
 go_loopw [22] (fun t wr=>∃ (i:Nat) (T':Nat → Nat → Nm) (V:Nat → Value),i ≤ rk ∧ t=.int .i64 i ∧ Hid (Below w.heap.size w wr) ∧ Hid (Co w.heap.size wr gO ck V (fun j=>cent cl tkf T' j i) (fun _=>False)) ∧ Hid (∀ q,q < i → ∀ p,p < (R q).tk → Sn ((R q).T p) (T' q p) ∧ Rw wr (T' q p).x (T' q p).n (T' q p).c (T' q p).f (T' q p).y (T' q p).m (T' q p).d (T' q p).g)) (fun t _=>rk - (intOf t).toNat)
 case atStart=>exact ⟨0,fun _=>(R 0).T,_,by omega,rfl,HB3.out,HCo.out,fun q hq=>by omega⟩
 case round =>
  obtain ⟨i,T',V,hi,rfl,HB,HC,HT⟩:=hrel
  clear HCo k43 HB3
  by_cases hlt:i < rk
  ·obtain ⟨b,o,rfl,hc,hn⟩:=(HRL.out.below HB.out) i hlt
   have htk:=HMT.out i hlt
   have CT:=hid (fun w' (hw:Below wr.heap.size wr w')=>copyTerms_c (w:=w') (cap:=(R i).tc) (hn.tl.below hw) htk (HMN.out i hlt))
   unfold TwNew at CT
   have hcol:=HCol.out i hlt
   have HTKi:=hid (HTK.out i)
   rw [HCL.out i] at CT hcol
   have hlen:=fun j=>cent_len (cl:=cl) (tk:=tkf) (T:=T') (j:=j) (i:=i) (K:=10000) (fun q hq=>by rw [← HTK.out q];exact HMT.out q (by omega))
   obtain ⟨⟨z,⟨i1,⟨s1,x1,n1,c1,f1,y1,m1,d1,g1⟩⟩,⟨i2,⟨s2,x2,n2,c2,f2,y2,m2,d2,g2⟩⟩,ta,tk,tc,tcol,tt⟩,hCi⟩:∃ t,R i=t:=⟨_,rfl⟩
   rw [hCi] at hc CT HTKi
   have hTt:(R i).T=tt:=by rw [hCi]
   have hTk:(R i).tk=tk:=by rw [hCi]
   rw [hTk] at htk hcol
   replace HTKi:Hid (tk=tkf i):=HTKi
   replace CT:Hid (∀ w' (hw:Below wr.heap.size wr w'),Calls Tryz.prog 51 #[.slice ta tk tc] w' fun e w2=>∃ aw cw Tn,e=.returned (.slice aw tk cw) ∧ Below w'.heap.size w' w2 ∧ (tk ≤ cw ∧ cw ≤ 9223372036854775807) ∧ (∀ b o s,aw=some ⟨b,o,s⟩ → w'.heap.size ≤ b) ∧ Hid (Tl w2 aw tk (cl i) Tn ∧ ∀ j,j < tk → Sn (tt j) (Tn j))):=CT
   have q0:wr.cell? ⟨b,o + i * 10,none⟩=some (.string z):=hc 0 _ rfl
   have q1:wr.cell? ⟨b,o + i * 10 + 1,none⟩=some (.int .i64 i1):=hc 1 _ rfl
   have q2:wr.cell? ⟨b,o + i * 10 + 2,none⟩=some (.bool s1):=hc 2 _ rfl
   have q3:wr.cell? ⟨b,o + i * 10 + 3,none⟩=some (.slice x1 n1 c1):=hc 3 _ rfl
   have q4:wr.cell? ⟨b,o + i * 10 + 4,none⟩=some (.slice y1 m1 d1):=hc 4 _ rfl
   have q5:wr.cell? ⟨b,o + i * 10 + 5,none⟩=some (.int .i64 i2):=hc 5 _ rfl
   have q6:wr.cell? ⟨b,o + i * 10 + 6,none⟩=some (.bool s2):=hc 6 _ rfl
   have q7:wr.cell? ⟨b,o + i * 10 + 7,none⟩=some (.slice x2 n2 c2):=hc 7 _ rfl
   have q8:wr.cell? ⟨b,o + i * 10 + 8,none⟩=some (.slice y2 m2 d2):=hc 8 _ rfl
   have q9:wr.cell? ⟨b,o + i * 10 + 9,none⟩=some (.slice ta tk tc):=hc 9 _ rfl
   have HCOL:=hid hcol;have HLEN:=hid hlen;have HTT:=hid hTt;have HTKK:=hid hTk
   have i1':((i:Nat):Int) < ((rk:Nat):Int):=by omega
   clear hCi hc hn hcol hlen hTt hTk
   go_wp2_with fail
   have HB2:=hid (below_alloc (Below.refl wr.heap.size wr) (.cells #[.string z,.int .i64 i1,.bool s1,.slice x1 n1 c1,.slice y1 m1 d1,.int .i64 i2,.bool s2,.slice x2 n2 c2,.slice y2 m2 d2,.slice ta tk tc] 75))
   refine (CT.out _ HB2.out).mono ?_
   rintro r w6 ⟨aw,cw,Tn,rfl,hb2,hcw,hfr,hTl⟩
   have HB3:=hid (HB2.out.trans (hb2.mono HB2.out.size))
   have hsz2:=HB2.out.size
   have HX0:Hid (Co w.heap.size wr gO ck V (fun j=>cent cl tkf T' j i) (fun b=>∃ o s,aw=some ⟨b,o,s⟩)):=HC.out.unx _ (fun b ⟨o,s,h⟩=>Nat.le_trans hsz2 (hfr b o s h))
   have HC6:=hid ((HX0.out.below HB3.out).congr (E':=fun j=>cent cl tkf T' j i ++ ent (cl i) Tn j i 0) (fun j hj=>by simp [ent]))
   have HT6:Hid (∀ q,q < i → ∀ p,p < (R q).tk → Sn ((R q).T p) (T' q p) ∧ Rw w6 (T' q p).x (T' q p).n (T' q p).c (T' q p).f (T' q p).y (T' q p).m (T' q p).d (T' q p).g):=fun q hq p hp=>⟨(HT.out q hq p hp).1,(HT.out q hq p hp).2.below HB3.out⟩
   have HB6:=hid (HB.out.trans (HB3.out.mono HB.out.size))
   have HTl6:=hid hTl.out.1;have HSn:=hid hTl.out.2
   clear hb2 HB2 HB3 hsz2 hfr hTl HX0 HC HT HB CT q0 q1 q2 q3 q4 q5 q6 q7 q8 q9
   go_wp2_with fail
   go_loopw [31] (fun t wz=>∃ (p:Nat) (V:Nat → Value),p ≤ tk ∧ t=.int .i64 p ∧ Hid (Below w.heap.size w wz) ∧ Hid (Co w.heap.size wz gO ck V (fun j=>cent cl tkf T' j i ++ ent (cl i) Tn j i p) (fun b=>∃ o s,aw=some ⟨b,o,s⟩)) ∧ Hid (Tl wz aw tk (cl i) Tn) ∧ Hid (∀ q,q < i → ∀ p,p < (R q).tk → Sn ((R q).T p) (T' q p) ∧ Rw wz (T' q p).x (T' q p).n (T' q p).c (T' q p).f (T' q p).y (T' q p).m (T' q p).d (T' q p).g)) (fun t _=>tk - (intOf t).toNat)
   case atStart=>exact ⟨0,_,by omega,rfl,HB6.out,HC6.out,HTl6.out,HT6.out⟩
   case round =>
    obtain ⟨p,V,hp,rfl,HB,HC,HTl,HT⟩:=hrel
    clear HB6 HC6 HTl6 HT6
    by_cases hlp:p < tk
    ·obtain ⟨b2,o2,rfl,⟨x0,x1,x2,x3⟩,hn⟩:=HTl.out p hlp
     obtain ⟨hc0,hc1⟩:=HCOL.out p hlp
     obtain ⟨cz,hcz⟩:∃ z:Int,cl i p=z:=⟨_,rfl⟩
     rw [hcz] at x0 hc0 hc1
     obtain ⟨cn,rfl⟩:∃ q:Nat,cz=(q:Int):=⟨cz.toNat,by omega⟩
     have hcn:cn < ck:=by omega
     obtain ⟨⟨ts,tx,tn,tc2,tf,ty,tm,td,tg⟩,hTp⟩:∃ t,Tn p=t:=⟨_,rfl⟩
     rw [hTp] at x1 x2 x3
     have hlt2:=World.block_lt_of_cell? wr _ x0
     replace x0:wr.cell? ⟨b2,o2 + p * 4,none⟩=some (.int .i64 cn):=x0
     replace x1:wr.cell? ⟨b2,o2 + p * 4 + 1,none⟩=some (.bool ts):=x1
     replace x2:wr.cell? ⟨b2,o2 + p * 4 + 2,none⟩=some (.slice tx tn tc2):=x2
     replace x3:wr.cell? ⟨b2,o2 + p * 4 + 3,none⟩=some (.slice ty tm td):=x3
     replace hlt2:b2 < wr.heap.size:=hlt2
     have i2':((p:Nat):Int) < ((tk:Nat):Int):=by omega
     have HCZ:=hid hcz;have HTP:=hid hTp
     clear hcz hTp hn hc0 hc1
     go_upto_region 11 with fail
     have hb5:=below_alloc (Below.refl wr.heap.size wr) (.cells #[.int .i64 cn,.bool ts,.slice tx tn tc2,.slice ty tm td] 62)
     have a0:(wr.alloc (.cells #[.int .i64 cn,.bool ts,.slice tx tn tc2,.slice ty tm td] 62)).cell? ⟨wr.heap.size,0,none⟩=some (.int .i64 cn):=by simp [go_sem]
     have a1:(wr.alloc (.cells #[.int .i64 cn,.bool ts,.slice tx tn tc2,.slice ty tm td] 62)).cell? ⟨wr.heap.size,1,none⟩=some (.bool ts):=by simp [go_sem]
     have a2:(wr.alloc (.cells #[.int .i64 cn,.bool ts,.slice tx tn tc2,.slice ty tm td] 62)).cell? ⟨wr.heap.size,2,none⟩=some (.slice tx tn tc2):=by simp [go_sem]
     have a3:(wr.alloc (.cells #[.int .i64 cn,.bool ts,.slice tx tn tc2,.slice ty tm td] 62)).cell? ⟨wr.heap.size,3,none⟩=some (.slice ty tm td):=by simp [go_sem]
     have HC5:=hid (HC.out.below hb5)
     have hcl:=HC.out.lt
     have hva:(V cn).ownBlock ≠ some wr.heap.size:=fun e=>by have:=((HC.out.row cn hcn).lt _ e).2;omega
     have hgo:wr.heap.size ≠ gO:=by omega
     have hbx:b2 < (wr.alloc (.cells #[.int .i64 cn,.bool ts,.slice tx tn tc2,.slice ty tm td] 62)).heap.size:=by simp;omega
     replace HTl:=hid (HTl.out.below hb5)
     replace HT:Hid (∀ q,q < i → ∀ p,p < (R q).tk → Sn ((R q).T p) (T' q p) ∧ Rw (wr.alloc (.cells #[.int .i64 cn,.bool ts,.slice tx tn tc2,.slice ty tm td] 62)) (T' q p).x (T' q p).n (T' q p).c (T' q p).f (T' q p).y (T' q p).m (T' q p).d (T' q p).g):=fun q hq p hp=>⟨(HT.out q hq p hp).1,(HT.out q hq p hp).2.below hb5⟩
     replace HB:=hid (HB.out.trans (hb5.mono HB.out.size))
     have hal:wr.heap.size < (wr.alloc (.cells #[.int .i64 cn,.bool ts,.slice tx tn tc2,.slice ty tm td] 62)).heap.size:=by simp
     generalize hbk:wr.heap.size=bk at *
     generalize wr.alloc (.cells #[.int .i64 cn,.bool ts,.slice tx tn tc2,.slice ty tm td] 62)=w5 at *
     clear x0 x1 x2 x3 hb5 HC hlt2
     replace HC5:=hid (HC5.out.below (Below.drew (Below.refl _ _)))
     replace HTl:=hid (HTl.out.below (Below.drew (Below.refl _ _)))
     obtain ⟨EE,hEE⟩:∃ z,cent cl tkf T' cn i ++ ent (cl i) Tn cn i p=z:=⟨_,rfl⟩
     obtain ⟨en,hen⟩:∃ z,EE.length=z:=⟨_,rfl⟩
     have hrow:=HC5.out.row cn hcn
     rw [hEE,hen] at hrow
     have hel:en ≤ 650000:=by
      have h1:=HLEN.out cn;have h2:=ent_len (cl i) Tn cn i p
      rw [← hen,← hEE,List.length_append];omega
     have HEE:=hid hEE;have HEN:=hid hen;have HROW:=hid hrow
     clear hEE hen hrow
     replace HT:Hid (∀ q,q < i → ∀ p,p < (R q).tk → Sn ((R q).T p) (T' q p) ∧ Rw w5.drew (T' q p).x (T' q p).n (T' q p).c (T' q p).f (T' q p).y (T' q p).m (T' q p).d (T' q p).g):=fun q hq p hp=>⟨(HT.out q hq p hp).1,kRwd (HT.out q hq p hp).2⟩
     replace HB:=hid (Below.drew HB.out)
     replace a0:w5.drew.cell? ⟨bk,0,none⟩=some (.int .i64 cn):=a0
     replace a1:w5.drew.cell? ⟨bk,1,none⟩=some (.bool ts):=a1
     replace a2:w5.drew.cell? ⟨bk,2,none⟩=some (.slice tx tn tc2):=a2
     replace a3:w5.drew.cell? ⟨bk,3,none⟩=some (.slice ty tm td):=a3
     replace hal:bk < w5.drew.heap.size:=hal
     replace hbx:b2 < w5.drew.heap.size:=hbx
     have ho:w5.drew.cell? ⟨gO,cn,none⟩=some (V cn):=HC5.out.cell hcn
     have hof:w5.drew.frozen? ⟨gO,cn,none⟩=false:=by obtain ⟨cur,h1,_⟩:=HC5.out.bl;simp [World.frozen?,h1]
     have hsz5:w.heap.size ≤ w5.drew.heap.size:=HB.out.size
     have ho2:(w5.drew.alloc (.cells #[.int .i64 i,.bool ts,.slice tx tn tc2,.slice ty tm td] 62)).cell? ⟨gO,cn,none⟩=some (V cn):=kCa ho
     refine wp_region_held_drew (S:=(fun w'=>w'.cell? ⟨bk,0,none⟩=some (.int .i64 cn) ∧ w'.cell? ⟨bk,1,none⟩=some (.bool ts) ∧ w'.cell? ⟨bk,2,none⟩=some (.slice tx tn tc2) ∧ w'.cell? ⟨bk,3,none⟩=some (.slice ty tm td))) (by kernel_rfl) ?_ (fun hHeld=>?_)
     ·(refine ⟨?_,?_,?_,?_⟩ <;> repeat (with_reducible first | assumption | refine kCd ?_))
     generalize hwd:w5.drew=wd at *
     clear hwd
     refine wpAnyH_take (i:=0) (v:=?_) rfl (by kernel_rfl) (by kernel_rfl) (by kernel_rfl) (fun _ _ _ h=>h) (Or.inl ⟨by rfl,?_⟩) (by assumption) ?_
     rotate_left
     (focus (intro w0 hSw;(try dsimp only at hSw);go_simp <;> with_reducible rfl))
     simp only [List.getElem_toArray,List.getElem_cons_zero,Act.put,List.setIfInBounds_toArray,List.set_cons_zero,List.set_cons_succ]
     refine wpAnyH_take (i:=1) (v:=?_) rfl (by kernel_rfl) (by kernel_rfl) (by kernel_rfl) (fun _ _ _ h=>h) (Or.inl ⟨by rfl,?_⟩) (by assumption) ?_
     rotate_left
     (focus (intro w0 hSw;(try dsimp only at hSw);go_simp <;> with_reducible rfl))
     simp only [List.getElem_toArray,List.getElem_cons_succ,List.getElem_cons_zero,Act.put,List.setIfInBounds_toArray,List.set_cons_zero,List.set_cons_succ]
     refine wpAnyH_take (i:=2) (v:=?_) rfl (by kernel_rfl) (by kernel_rfl) (by kernel_rfl) (fun _ _ _ h=>h) (Or.inl ⟨by rfl,?_⟩) (by assumption) ?_
     rotate_left
     (focus (intro w0 hSw;(try dsimp only at hSw);go_simp <;> with_reducible rfl))
     simp only [List.getElem_toArray,List.getElem_cons_succ,List.getElem_cons_zero,Act.put,List.setIfInBounds_toArray,List.set_cons_zero,List.set_cons_succ]
     refine wpAnyH_take (i:=3) (v:=?_) rfl (by kernel_rfl) (by kernel_rfl) (by kernel_rfl) (fun _ _ _ h=>h) (Or.inl ⟨by rfl,?_⟩) (by assumption) ?_
     rotate_left
     (focus (intro w0 hSw;(try dsimp only at hSw);go_simp <;> with_reducible rfl))
     simp only [List.getElem_toArray,List.getElem_cons_succ,List.getElem_cons_zero,Act.put,List.setIfInBounds_toArray,List.set_cons_zero,List.set_cons_succ]
     refine wpAnyH_take (i:=4) (v:=?_) rfl (by kernel_rfl) (by kernel_rfl) (by kernel_rfl) (fun _ _ _ h=>h) (Or.inl ⟨by rfl,?_⟩) (by assumption) ?_
     rotate_left
     (focus (intro w0 hSw;(try dsimp only at hSw);go_simp <;> with_reducible rfl))
     simp only [List.getElem_toArray,List.getElem_cons_succ,List.getElem_cons_zero,Act.put,List.setIfInBounds_toArray,List.set_cons_zero,List.set_cons_succ]
     refine wpAnyH_take (i:=5) (v:=?_) rfl (by kernel_rfl) (by kernel_rfl) (by kernel_rfl) (fun _ _ _ h=>h) (Or.inl ⟨by rfl,?_⟩) (by assumption) ?_
     rotate_left
     (focus (intro w0 hSw;(try dsimp only at hSw);go_simp <;> with_reducible rfl))
     simp only [List.getElem_toArray,List.getElem_cons_succ,List.getElem_cons_zero,Act.put,List.setIfInBounds_toArray,List.set_cons_zero,List.set_cons_succ]
     refine wpAnyH_take (i:=6) (v:=?_) rfl (by kernel_rfl) (by kernel_rfl) (by kernel_rfl) (fun _ _ _ h=>h) (Or.inl ⟨by rfl,?_⟩) (by assumption) ?_
     rotate_left
     (focus (intro w0 hSw;(try dsimp only at hSw);go_simp <;> with_reducible rfl))
     simp only [List.getElem_toArray,List.getElem_cons_succ,List.getElem_cons_zero,Act.put,List.setIfInBounds_toArray,List.set_cons_zero,List.set_cons_succ]
     refine wpAnyH_take (i:=8) (v:=?_) rfl (by kernel_rfl) (by kernel_rfl) (by kernel_rfl) (fun _ _ _ h=>h) (Or.inl ⟨by rfl,?_⟩) (by assumption) ?_
     rotate_left
     (focus (intro w0 hSw;(try dsimp only at hSw);go_simp <;> with_reducible rfl))
     simp only [List.getElem_toArray,List.getElem_cons_succ,List.getElem_cons_zero,Act.put,List.setIfInBounds_toArray,List.set_cons_zero,List.set_cons_succ]
     refine wpAnyH_take (i:=9) (v:=?_) rfl (by kernel_rfl) (by kernel_rfl) (by kernel_rfl) (fun _ _ _ h=>h) (Or.inl ⟨by rfl,?_⟩) (by assumption) ?_
     rotate_left
     (focus (intro w0 hSw;(try dsimp only at hSw);go_simp <;> with_reducible rfl))
     simp only [List.getElem_toArray,List.getElem_cons_succ,List.getElem_cons_zero,Act.put,List.setIfInBounds_toArray,List.set_cons_zero,List.set_cons_succ]
     refine wpAnyH_take (i:=10) (v:=?_) rfl (by kernel_rfl) (by kernel_rfl) (by kernel_rfl) (fun _ _ _ h=>h) (Or.inl ⟨by rfl,?_⟩) (by assumption) ?_
     rotate_left
     (focus (intro w0 hSw;(try dsimp only at hSw);go_simp <;> with_reducible rfl))
     simp only [List.getElem_toArray,List.getElem_cons_succ,List.getElem_cons_zero,Act.put,List.setIfInBounds_toArray,List.set_cons_zero,List.set_cons_succ]
     refine wpAnyH_take (i:=11) (v:=?_) rfl (by kernel_rfl) (by kernel_rfl) (by kernel_rfl) (fun _ _ _ h=>h) (Or.inl ⟨by rfl,?_⟩) (by assumption) ?_
     rotate_left
     (focus (intro w0 hSw;(try dsimp only at hSw);go_simp <;> with_reducible rfl))
     simp only [List.getElem_toArray,List.getElem_cons_succ,List.getElem_cons_zero,Act.put,List.setIfInBounds_toArray,List.set_cons_zero,List.set_cons_succ]
     refine wpAnyH_ready (rs:=[7,12]) (by kernel_rfl) (by simp) ?_
     refine AllReadyH.cons (o:=_) rfl (fun K hK=>?_) ?_
     ·go_simp
      refine hK.out _ _ ?_ (fun hH6=>?_)
      ·((try dsimp only);(refine ⟨?_,?_,?_,?_⟩ <;> repeat (with_reducible first | assumption | assumption)))
      clear hK K
      try simp only [Act.put,List.setIfInBounds_toArray,List.set_cons_zero,List.set_cons_succ]
      refine wpAnyH_ready (rs:=[12]) (by kernel_rfl) (by simp) ?_
      refine AllReadyH.cons (o:=_) rfl (fun K hK=>?_) ?_
      rotate_left
      exact AllReadyH.nil
      go_simp
      refine hK.out _ _ ?_ (fun hH7=>?_)
      ·((try dsimp only);(refine ⟨?_,?_,?_,?_⟩ <;> repeat (with_reducible first | assumption | refine kCd ?_ | refine kCa ?_)))
      clear hK K
      try simp only [Act.put,List.setIfInBounds_toArray,List.set_cons_zero,List.set_cons_succ]
      refine wpAnyH_ready (rs:=[13]) (by kernel_rfl) (by simp) ?_
      refine AllReadyH.cons (o:=_) rfl (fun K hK=>?_) ?_
      rotate_left
      exact AllReadyH.nil
      refine step_append_oneW wd rfl (.tmp 42) (.tmp 47) 60 rfl w.heap.size 62 64 4 (.agg #[.int .i64 0,.bool false,.slice none 0 0,.slice none 0 0]) Tryz.underlying60 Tryz.infoTerm rfl (by decide) nz4 (V cn) en (tcells EE) rfl HROW.out #[.int .i64 i,.bool ts,.slice tx tn tc2,.slice ty tm td] rfl rfl (one4 _ _ _ _ _ _ _ _) (not4 _ _ _ _ _ _ _ _) ?p1 ?p2 hsz5 ?_
      case p1=>omega
      case p2=>omega
      intro g8 cap8 w8 hr8 hk8 hb8 hg8 hl8
      have hB8:=hg8 bk hal hva
      have e0:=(World.cell?_of_block (a:=⟨bk,0,none⟩) hB8).trans a0;have e1:=(World.cell?_of_block (a:=⟨bk,1,none⟩) hB8).trans a1;have e2:=(World.cell?_of_block (a:=⟨bk,2,none⟩) hB8).trans a2;have e3:=(World.cell?_of_block (a:=⟨bk,3,none⟩) hB8).trans a3
      have hO8:=hg8 gO HC5.out.lt (HC5.out.ne cn hcn)
      have f0:=(World.cell?_of_block (a:=⟨gO,cn,none⟩) hO8).trans ho
      have ff:w8.frozen? ⟨gO,cn,none⟩=false:=by simp only [World.frozen?,hO8];simpa only [World.frozen?] using hof
      refine hK.out _ _ ?_ (fun hH8=>?_)
      ·exact ⟨e0,e1,e2,e3⟩
      clear hK K
      try simp only [Act.put,List.setIfInBounds_toArray]
      refine wpAnyH_take (i:=14) (v:=?_) rfl (by kernel_rfl) (by kernel_rfl) (by kernel_rfl) (fun _ _ _ h=>h) (Or.inl ⟨by rfl,?_⟩) (by assumption) ?_
      rotate_left
      (focus (intro w0 hSw;(try dsimp only at hSw);go_simp <;> with_reducible rfl))
      simp only [List.getElem_toArray,List.getElem_cons_succ,List.getElem_cons_zero,Act.put,List.setIfInBounds_toArray,List.set_cons_zero,List.set_cons_succ]
      refine wpAnyH_ready (rs:=[15]) (by kernel_rfl) (by simp) ?_
      refine AllReadyH.cons (o:=_) rfl (fun K hK=>?_) ?_
      rotate_left
      exact AllReadyH.nil
      go_simp
      refine hK.out _ _ ?_ (fun hH9=>?_)
      ·((try dsimp only);(refine ⟨?_,?_,?_,?_⟩ <;> repeat (with_reducible first | assumption | refine kCs (by simp only [ne_eq];omega) ?_)))
      clear hK K
      try simp only [Act.put]
      refine wpAnyH_done (by kernel_rfl) ?_ _
      have HB9:=hid (below_turned (hb8 w HB.out (Nat.le_refl _)) (Nat.le_trans hsz5 hk8.size) ((Turned.refl w.heap.size (gO + 1) w8).set (x:=⟨gO,cn,none⟩) HC5.out.ge (by simp) (.slice (some ⟨g8,0,none⟩) (en + 1) cap8)) (Nat.le_refl _))
      have HC9:=hid ((HC5.out.put hcn (en:=en) (cap8:=cap8) (x:=((i:Int),⟨ts,tx,tn,tc2,tf,ty,tm,td,tg⟩)) (by rw [HEE.out];exact HEN.out) (fun b' h=>by obtain ⟨_,_,h⟩:=h;cases h;exact hbx) (by rw [HEE.out];exact hr8) hg8 hl8).congr (E':=fun j=>cent cl tkf T' j i ++ ent (cl i) Tn j i (p + 1)) (fun j hj=>by
       by_cases e:j=cn
       ·subst e;simp only [if_true];rw [ent_yes HCZ.out,HTP.out,List.append_assoc]
       ·simp only [e,if_false];rw [ent_no (fun h=>e (by have:=HCZ.out.symm.trans h;omega))]))
      have hkp:Kp wd (w8.setCell ⟨gO,cn,none⟩ (.slice (some ⟨g8,0,none⟩) (en + 1) cap8)):=by
       obtain ⟨cur,h1,_,h2,_⟩:=HC5.out.bl
       exact hk8.set (x:=⟨gO,cn,none⟩) (hO8.trans h1) h2 _
      have HTl9:=hid (HTl.out.of (w':=w8.setCell ⟨gO,cn,none⟩ (.slice (some ⟨g8,0,none⟩) (en + 1) cap8)) (fun b' o' s' h=>by
       cases h
       rw [Below.heap_setCell _ _ _ _ (fun e=>HC5.out.xg ⟨_,_,by rw [e]⟩)]
       exact hg8 b2 hbx (fun e=>HC5.out.nx cn hcn b2 e ⟨_,_,rfl⟩)) hkp)
      have HT9:Hid (∀ q,q < i → ∀ p,p < (R q).tk → Sn ((R q).T p) (T' q p) ∧ Rw (w8.setCell ⟨gO,cn,none⟩ (.slice (some ⟨g8,0,none⟩) (en + 1) cap8)) (T' q p).x (T' q p).n (T' q p).c (T' q p).f (T' q p).y (T' q p).m (T' q p).d (T' q p).g):=fun q hq p hp=>⟨(HT.out q hq p hp).1,(HT.out q hq p hp).2.kp hkp⟩
      clear hr8 hk8 hb8 hg8 hl8 hB8 e0 e1 e2 e3 hO8 f0 ff hH8 hH9 hkp HC5 HTl HT HB HROW ho ho2 hof a0 a1 a2 a3
      go_wp2
      go_roundw
      case rel=>exact ⟨p + 1,_,by omega,by go_num,HB9.out,HC9.out,HTl9.out,HT9.out⟩
      case measure=>simp [intOf];omega
     refine AllReadyH.cons (o:=_) rfl (fun K hK=>?_) ?_
     ·go_simp
      refine hK.out _ _ ?_ (fun hH6=>?_)
      ·((try dsimp only);(refine ⟨?_,?_,?_,?_⟩ <;> repeat (with_reducible first | assumption | refine kCd ?_ | refine kCa ?_)))
      clear hK K
      try simp only [Act.put,List.setIfInBounds_toArray,List.set_cons_zero,List.set_cons_succ]
      refine wpAnyH_ready (rs:=[7]) (by kernel_rfl) (by simp) ?_
      refine AllReadyH.cons (o:=_) rfl (fun K hK=>?_) ?_
      rotate_left
      exact AllReadyH.nil
      go_simp
      refine hK.out _ _ ?_ (fun hH7=>?_)
      ·((try dsimp only);(refine ⟨?_,?_,?_,?_⟩ <;> repeat (with_reducible first | assumption | refine kCd ?_ | refine kCa ?_)))
      clear hK K
      try simp only [Act.put,List.setIfInBounds_toArray,List.set_cons_zero,List.set_cons_succ]
      refine wpAnyH_ready (rs:=[13]) (by kernel_rfl) (by simp) ?_
      refine AllReadyH.cons (o:=_) rfl (fun K hK=>?_) ?_
      rotate_left
      exact AllReadyH.nil
      refine step_append_oneW wd rfl (.tmp 42) (.tmp 47) 60 rfl w.heap.size 62 64 4 (.agg #[.int .i64 0,.bool false,.slice none 0 0,.slice none 0 0]) Tryz.underlying60 Tryz.infoTerm rfl (by decide) nz4 (V cn) en (tcells EE) rfl HROW.out #[.int .i64 i,.bool ts,.slice tx tn tc2,.slice ty tm td] rfl rfl (one4 _ _ _ _ _ _ _ _) (not4 _ _ _ _ _ _ _ _) ?p1 ?p2 hsz5 ?_
      case p1=>omega
      case p2=>omega
      intro g8 cap8 w8 hr8 hk8 hb8 hg8 hl8
      have hB8:=hg8 bk hal hva
      have e0:=(World.cell?_of_block (a:=⟨bk,0,none⟩) hB8).trans a0;have e1:=(World.cell?_of_block (a:=⟨bk,1,none⟩) hB8).trans a1;have e2:=(World.cell?_of_block (a:=⟨bk,2,none⟩) hB8).trans a2;have e3:=(World.cell?_of_block (a:=⟨bk,3,none⟩) hB8).trans a3
      have hO8:=hg8 gO HC5.out.lt (HC5.out.ne cn hcn)
      have f0:=(World.cell?_of_block (a:=⟨gO,cn,none⟩) hO8).trans ho
      have ff:w8.frozen? ⟨gO,cn,none⟩=false:=by simp only [World.frozen?,hO8];simpa only [World.frozen?] using hof
      refine hK.out _ _ ?_ (fun hH8=>?_)
      ·exact ⟨e0,e1,e2,e3⟩
      clear hK K
      try simp only [Act.put,List.setIfInBounds_toArray]
      refine wpAnyH_take (i:=14) (v:=?_) rfl (by kernel_rfl) (by kernel_rfl) (by kernel_rfl) (fun _ _ _ h=>h) (Or.inl ⟨by rfl,?_⟩) (by assumption) ?_
      rotate_left
      (focus (intro w0 hSw;(try dsimp only at hSw);go_simp <;> with_reducible rfl))
      simp only [List.getElem_toArray,List.getElem_cons_succ,List.getElem_cons_zero,Act.put,List.setIfInBounds_toArray,List.set_cons_zero,List.set_cons_succ]
      refine wpAnyH_ready (rs:=[15]) (by kernel_rfl) (by simp) ?_
      refine AllReadyH.cons (o:=_) rfl (fun K hK=>?_) ?_
      rotate_left
      exact AllReadyH.nil
      go_simp
      refine hK.out _ _ ?_ (fun hH9=>?_)
      ·((try dsimp only);(refine ⟨?_,?_,?_,?_⟩ <;> repeat (with_reducible first | assumption | refine kCs (by simp only [ne_eq];omega) ?_)))
      clear hK K
      try simp only [Act.put]
      refine wpAnyH_done (by kernel_rfl) ?_ _
      have HB9:=hid (below_turned (hb8 w HB.out (Nat.le_refl _)) (Nat.le_trans hsz5 hk8.size) ((Turned.refl w.heap.size (gO + 1) w8).set (x:=⟨gO,cn,none⟩) HC5.out.ge (by simp) (.slice (some ⟨g8,0,none⟩) (en + 1) cap8)) (Nat.le_refl _))
      have HC9:=hid ((HC5.out.put hcn (en:=en) (cap8:=cap8) (x:=((i:Int),⟨ts,tx,tn,tc2,tf,ty,tm,td,tg⟩)) (by rw [HEE.out];exact HEN.out) (fun b' h=>by obtain ⟨_,_,h⟩:=h;cases h;exact hbx) (by rw [HEE.out];exact hr8) hg8 hl8).congr (E':=fun j=>cent cl tkf T' j i ++ ent (cl i) Tn j i (p + 1)) (fun j hj=>by
       by_cases e:j=cn
       ·subst e;simp only [if_true];rw [ent_yes HCZ.out,HTP.out,List.append_assoc]
       ·simp only [e,if_false];rw [ent_no (fun h=>e (by have:=HCZ.out.symm.trans h;omega))]))
      have hkp:Kp wd (w8.setCell ⟨gO,cn,none⟩ (.slice (some ⟨g8,0,none⟩) (en + 1) cap8)):=by
       obtain ⟨cur,h1,_,h2,_⟩:=HC5.out.bl
       exact hk8.set (x:=⟨gO,cn,none⟩) (hO8.trans h1) h2 _
      have HTl9:=hid (HTl.out.of (w':=w8.setCell ⟨gO,cn,none⟩ (.slice (some ⟨g8,0,none⟩) (en + 1) cap8)) (fun b' o' s' h=>by
       cases h
       rw [Below.heap_setCell _ _ _ _ (fun e=>HC5.out.xg ⟨_,_,by rw [e]⟩)]
       exact hg8 b2 hbx (fun e=>HC5.out.nx cn hcn b2 e ⟨_,_,rfl⟩)) hkp)
      have HT9:Hid (∀ q,q < i → ∀ p,p < (R q).tk → Sn ((R q).T p) (T' q p) ∧ Rw (w8.setCell ⟨gO,cn,none⟩ (.slice (some ⟨g8,0,none⟩) (en + 1) cap8)) (T' q p).x (T' q p).n (T' q p).c (T' q p).f (T' q p).y (T' q p).m (T' q p).d (T' q p).g):=fun q hq p hp=>⟨(HT.out q hq p hp).1,(HT.out q hq p hp).2.kp hkp⟩
      clear hr8 hk8 hb8 hg8 hl8 hB8 e0 e1 e2 e3 hO8 f0 ff hH8 hH9 hkp HC5 HTl HT HB HROW ho ho2 hof a0 a1 a2 a3
      go_wp2
      go_roundw
      case rel=>exact ⟨p + 1,_,by omega,by go_num,HB9.out,HC9.out,HTl9.out,HT9.out⟩
      case measure=>simp [intOf];omega
     exact AllReadyH.nil
    ·have e1:p=tk:=by omega
     have i2':¬ (((p:Nat):Int) < ((tk:Nat):Int)):=by omega
     rw [e1] at HC
     have HC7:Hid (Co w.heap.size wr gO ck V (fun j=>cent cl tkf (putT T' i Tn) j (i + 1)) (fun _=>False)) :=
      (HC.out.congr (fun j hj=>by show _=cent cl tkf (putT T' i Tn) j i ++ ent (cl i) (putT T' i Tn i) j i (tkf i);rw [putT_at,← HTKi.out,cent_congr (T':=putT T' i Tn) (fun q hq=>(putT_ne (by omega)).symm)])).unx _ (fun b h=>h.elim)
     have HT7:Hid (∀ q,q < i + 1 → ∀ p,p < (R q).tk → Sn ((R q).T p) (putT T' i Tn q p) ∧ Rw wr (putT T' i Tn q p).x (putT T' i Tn q p).n (putT T' i Tn q p).c (putT T' i Tn q p).f (putT T' i Tn q p).y (putT T' i Tn q p).m (putT T' i Tn q p).d (putT T' i Tn q p).g):=fun q hq p hp=>by
      by_cases e:q=i
      ·subst e
       rw [putT_at,HTT.out]
       rw [HTKK.out] at hp
       obtain ⟨_,_,_,_,h5,_⟩:=HTl.out p hp
       exact ⟨HSn.out p hp,h5⟩
      ·rw [putT_ne e];exact HT.out q (by omega) p hp
     clear HC HT HTl e1
     go_wp2
     go_roundw
     case rel=>exact ⟨i + 1,_,_,by omega,by go_num,HB.out,HC7.out,HT7.out⟩
     case measure=>simp [intOf];omega
  ·have e1:i=rk:=by omega
   have i2':¬ (((i:Nat):Int) < ((rk:Nat):Int)):=by omega
   rw [e1] at HC HT
   clear e1
   go_wp2
   exact HA.out _ _ _ _ HB.out HC.out HT.out
def dstOf (ops:Array Oper) (j:Nat):Option Tmp:=(ops[j]?).bind (·.dst)
def depsOf (md:Region.Mode) (ops:Array Oper) (i:Nat):List Nat:=match ops[i]? with
 | none=>[]
 | some o=>(o.after.toList.filter (Region.binds md)).map (·.on)
def ancs (md:Region.Mode) (ops:Array Oper):Nat → List Nat → List Nat
 | 0,_=>[]
 | n + 1,l=>(l.flatMap (depsOf md ops)).eraseDups ++ ancs md ops n (l.flatMap (depsOf md ops)).eraseDups
def fill (a:Act) (D:List (Nat × Tmp)) (u:Nat → Value):Act:=D.foldl (fun a p=>a.put (some p.2) (u p.1)) a
def lies (a:Act) (D:List (Nat × Tmp)) (j:Nat):Value:=match D.lookup j with
 | some d=>a.tmps.getD d undef
 | none=>undef
def updV (u:Nat → Value) (i:Nat) (v:Value):Nat → Value:=fun j=>if j=i then v else u j
theorem updV_at (u:Nat → Value) (i:Nat) (v:Value):updV u i v i=v:=by simp [updV]
theorem updV_ne {u:Nat → Value} {i j:Nat} {v:Value} (h:j ≠ i):updV u i v j=u j:=by simp [updV,h]
theorem put_same (a:Act) (d:Tmp) (x y:Value):(a.put (some d) x).put (some d) y=a.put (some d) y:=by
 simp [Act.put]
theorem put_other (a:Act) {d e:Tmp} (h:d ≠ e) (x y:Value):(a.put (some d) x).put (some e) y=(a.put (some e) y).put (some d) x:=by
 simp only [Act.put]
 congr 1
 exact Array.setIfInBounds_comm _ _ h
theorem put_lies (a:Act) (d:Tmp):a.put (some d) (a.tmps.getD d undef)=a:=by
 obtain ⟨t,ds⟩:=a
 simp only [Act.put]
 congr 1
 apply Array.ext_getElem?
 intro i
 rw [Array.getElem?_setIfInBounds]
 split
 ·rename_i h
  subst h
  split
  ·rename_i h2;simp [h2]
  ·rename_i h2;rw [Array.getElem?_eq_none (by omega)]
 ·rfl
theorem fill_other {D:List (Nat × Tmp)} {d:Tmp} {u:Nat → Value} (v:Value):∀ {a:Act},d ∉ D.map Prod.snd → (fill a D u).put (some d) v=fill (a.put (some d) v) D u:=by
 induction D with
 | nil=>intro a _;rfl
 | cons p D ih =>
  intro a h
  simp only [List.map_cons,List.mem_cons,not_or] at h
  show (fill (a.put (some p.2) (u p.1)) D u).put (some d) v=fill ((a.put (some d) v).put (some p.2) (u p.1)) D u
  rw [ih h.2,put_other a (Ne.symm h.1)]
theorem fill_congr {D:List (Nat × Tmp)} {u u':Nat → Value}:∀ {a:Act},(∀ p,p ∈ D → u p.1=u' p.1) → fill a D u=fill a D u':=by
 induction D with
 | nil=>intro a _;rfl
 | cons p D ih =>
  intro a h
  show fill (a.put (some p.2) (u p.1)) D u=fill (a.put (some p.2) (u' p.1)) D u'
  rw [h p (by simp),ih (fun q hq=>h q (by simp [hq]))]
theorem fill_put {D:List (Nat × Tmp)} {i:Nat} {d:Tmp} {u:Nat → Value} (v:Value):∀ {a:Act},(D.map Prod.fst).Nodup → (D.map Prod.snd).Nodup → (i,d) ∈ D → (fill a D u).put (some d) v=fill a D (updV u i v):=by
 induction D with
 | nil=>intro a _ _ h;cases h
 | cons p D ih =>
  intro a h1 h2 h
  simp only [List.map_cons,List.nodup_cons] at h1 h2
  show (fill (a.put (some p.2) (u p.1)) D u).put (some d) v=fill (a.put (some p.2) (updV u i v p.1)) D (updV u i v)
  by_cases e:p.1=i
  ·have hp:p=(i,d):=by
    rcases List.mem_cons.1 h with h | h
    ·exact h.symm
    ·exact absurd (by rw [e];exact List.mem_map_of_mem (f:=Prod.fst) h) h1.1
   subst hp
   rw [fill_other v h2.1,put_same,updV_at]
   exact fill_congr (fun q hq=>(updV_ne (fun e=>h1.1 (by show i ∈ _;rw [← e];exact List.mem_map_of_mem (f:=Prod.fst) hq))).symm)
  ·have hm:(i,d) ∈ D:=by
    rcases List.mem_cons.1 h with h | h
    ·exact absurd (by rw [← h]) e
    ·exact h
   rw [ih h1.2 h2.2 hm,updV_ne e]
theorem fill_lies {D:List (Nat × Tmp)} {u:Nat → Value} {a:Act} (h:∀ p,p ∈ D → u p.1=a.tmps.getD p.2 undef):fill a D u=a:=by
 induction D with
 | nil=>rfl
 | cons p D ih =>
  show fill (a.put (some p.2) (u p.1)) D u=a
  rw [h p (by simp),put_lies]
  exact ih (fun q hq=>h q (by simp [hq]))
theorem lies_at {D:List (Nat × Tmp)} {a:Act}:(D.map Prod.fst).Nodup → ∀ p,p ∈ D → lies a D p.1=a.tmps.getD p.2 undef:=by
 intro hn p hp
 have:D.lookup p.1=some p.2:=by
  induction D with
  | nil=>cases hp
  | cons x D ih =>
   simp only [List.map_cons,List.nodup_cons] at hn
   rcases List.mem_cons.1 hp with rfl | hp
   ·simp [List.lookup]
   ·have hne:p.1 ≠ x.1:=fun e=>hn.1 (e ▸ List.mem_map_of_mem (f:=Prod.fst) hp)
    rw [List.lookup]
    have:(p.1 == x.1)=false:=by simpa using hne
    rw [this]
    exact ih hn.2 hp
 unfold lies
 rw [this]
def slotsOk (ops:Array Oper) (D:List (Nat × Tmp)) (F:List Nat):Bool:=(D.map Prod.fst == F) && decide (D.map Prod.snd).Nodup && D.all (fun p=>dstOf ops p.1 == some p.2)
def flowOk (md:Region.Mode) (ops:Array Oper) (listed:Array Bool) (F st:List Nat):Bool :=
 listed.size == ops.size && F.Nodup &&
 (List.range ops.size).all (fun i=>!(listed.getD i false) || (depsOf md ops i).all (fun j=>listed.getD j false)) &&
 F.all (fun i=>!(listed.getD i true) && decide (i < ops.size) && !(st.contains i) && (depsOf md ops i).all (fun j=>decide (j < i) && (listed.getD j false || F.contains j))) &&
 (List.range ops.size).all (fun i=>listed.getD i false || F.contains i || st.contains i) &&
 st.all (fun s=>!(listed.getD s true) && ((depsOf md ops s).any (fun j=>st.contains j) || F.all (fun j=>(ancs md ops ops.size [s]).contains j)))
def fullOf (ops:Array Oper) (st:List Nat):Array Bool:=((List.range ops.size).map (fun i=>!(st.contains i))).toArray
theorem mem_deps {md:Region.Mode} {ops:Array Oper} {i j:Nat}:j ∈ depsOf md ops i ↔ ∃ o,ops[i]?=some o ∧ ∃ e,e ∈ o.after ∧ Region.binds md e=true ∧ e.on=j:=by
 unfold depsOf
 cases h:ops[i]? with
 | none=>simp
 | some o=>simp [and_assoc]
theorem anc_listed {md:Region.Mode} {ops:Array Oper} {listed:Array Bool} (hc:∀ i j,listed.getD i false=true → j ∈ depsOf md ops i → listed.getD j false=true) :
  ∀ (n:Nat) (l:List Nat),(∀ i,i ∈ l → ∀ j,j ∈ depsOf md ops i → listed.getD j false=true) → ∀ j,j ∈ ancs md ops n l → listed.getD j false=true
 | 0,_,_,j,h=>by simp [ancs] at h
 | n + 1,l,hl,j,h=>by
  have h1:∀ k,k ∈ (l.flatMap (depsOf md ops)).eraseDups → listed.getD k false=true:=fun k hk=>by
   rw [List.mem_eraseDups,List.mem_flatMap] at hk
   obtain ⟨i,hi,hki⟩:=hk
   exact hl i hi k hki
  simp only [ancs,List.mem_append] at h
  rcases h with h | h
  ·exact h1 j h
  ·exact anc_listed hc n _ (fun i hi k hk=>hc i k (h1 i hi) hk) j h
theorem getD_ft {l:Array Bool} {i:Nat} (h:i < l.size):l.getD i true=l.getD i false:=by simp [Array.getD,h]
def left (listed:Array Bool):List Nat → Nat
 | []=>0
 | x :: F=>(if listed.getD x false=true then 0 else 1) + left listed F
theorem left_set {listed:Array Bool} {i:Nat} (hi:i < listed.size) (hl:listed.getD i false=false):∀ {F:List Nat},F.Nodup → left listed F=left (listed.setIfInBounds i true) F + (if i ∈ F then 1 else 0)
 | [],_=>by simp [left]
 | x :: F,h=>by
  have h':=List.nodup_cons.1 h
  have ih:=left_set hi hl h'.2
  have hi':(listed.setIfInBounds i true).getD i false=true:=by simp [Array.getD,hi]
  simp only [left]
  by_cases hx:x=i
  ·subst hx
   rw [hi',hl,ih]
   simp [h'.1];omega
  ·have h1:(listed.setIfInBounds i true).getD x false=listed.getD x false:=getD_set_ne false (Ne.symm hx)
   rw [h1,ih]
   have:(i ∈ x :: F)=(i ∈ F):=by simp [Ne.symm hx]
   simp only [this];omega
theorem left_none {listed:Array Bool}:∀ {F:List Nat},left listed F=0 → ∀ j,j ∈ F → listed.getD j false=true
 | [],_,j,hj=>by cases hj
 | x :: F,h,j,hj=>by
  simp only [left] at h
  rcases List.mem_cons.1 hj with rfl | hj
  ·cases hb:listed.getD j false
   ·rw [hb] at h;simp at h
   ·rfl
  ·exact left_none (by omega) j hj
theorem left_some {listed:Array Bool}:∀ {F:List Nat},left listed F ≠ 0 → ∃ j,j ∈ F ∧ listed.getD j false=false
 | [],h=>absurd rfl h
 | x :: F,h=>by
  cases hb:listed.getD x false
  ·exact ⟨x,by simp,hb⟩
  ·simp only [left] at h
   rw [hb] at h
   obtain ⟨j,h1,h2⟩:=left_some (F:=F) (by simpa using h)
   exact ⟨j,by simp [h1],h2⟩
theorem left_all {listed:Array Bool}:∀ {F:List Nat},(∀ j,j ∈ F → listed.getD j false=false) → left listed F=F.length
 | [],_=>rfl
 | x :: F,h=>by
  simp only [left,h x (by simp),List.length_cons]
  rw [left_all (fun j hj=>h j (by simp [hj]))]
  simp;omega
def StepOk (P:Program) (md:Region.Mode) (ops:Array Oper) (Q:Exit → Act → World → Prop) (S:World → Prop) (G:Nat → Value → World → Prop) (a0:Act) (w0:World) (D:List (Nat × Tmp)) (F:List Nat) (i:Nat):Prop :=
 ∃ o,ops[i]?=some o ∧ ∀ u w,S w → Below w0.heap.size w0 w → (∀ j,F.contains j=true → (depsOf md ops i).contains j=true → G j (u j) w) →
  ∀ K:Act → World → Prop,Shut (∀ v w',Below w.heap.size w w' → G i v w' → K ((fill a0 D u).put o.dst v) w') → if Region.wanted o (yielded ops (fill a0 D u).tmps)=true then Oper.wp P o (fill a0 D u) w K Q else K ((fill a0 D u).put o.dst undef) w
theorem wpOp_of {P:Program} {ops:Array Oper} {Q:Exit → Act → World → Prop} {i:Nat} {o:Oper} {K:Act → World → Prop} {a:Act} {w:World} (ho:ops[i]?=some o) (h:if Region.wanted o (yielded ops a.tmps)=true then Oper.wp P o a w K Q else K (a.put o.dst undef) w):wpOp P ops Q i K a w:=by
 unfold wpOp
 simp only [ho]
 split at h
 ·rename_i hw;simp only [hw,if_true];exact .inl h
 ·rename_i hw;simp only [hw];exact h
theorem wpAnyH_flow {P:Program} {md:Region.Mode} {ops:Array Oper} {Q:Exit → Act → World → Prop} {S:World → Prop} (G:Nat → Value → World → Prop) (D:List (Nat × Tmp)) (F st:List Nat) (listed0:Array Bool) (a0:Act) (w0:World) (fuel:Nat)
  (hok:flowOk md ops listed0 F st=true) (hsl:slotsOk ops D F=true)
  (hS:∀ w w',S w → Below w.heap.size w w' → S w')
  (hG:∀ j v w w',G j v w → Below w.heap.size w w' → G j v w')
  (hstep:∀ i,i ∈ F → StepOk P md ops Q S G a0 w0 D F i)
  (hend:∀ u w,S w → Below w0.heap.size w0 w → (∀ j,j ∈ F → G j (u j) w) → wpAnyH P md ops Q S fuel (fullOf ops st) (fill a0 D u) w)
  (hS0:S w0):wpAnyH P md ops Q S (F.length + fuel) listed0 a0 w0:=by
 simp only [flowOk,Bool.and_eq_true,beq_iff_eq] at hok
 obtain ⟨⟨⟨⟨⟨k1,k0⟩,k2⟩,k3⟩,k4⟩,k5⟩:=hok
 have k0:F.Nodup:=of_decide_eq_true k0
 have k2':∀ i j,listed0.getD i false=true → j ∈ depsOf md ops i → listed0.getD j false=true:=fun i j hi hj=>by
  have hlt:i < ops.size:=by
   rcases Nat.lt_or_ge i ops.size with h | h
   ·exact h
   ·rw [← k1] at h;simp [Array.getElem?_eq_none h] at hi
  have:=List.all_eq_true.1 k2 i (List.mem_range.2 hlt)
  rw [hi] at this
  simpa using List.all_eq_true.1 (by simpa using this) j hj
 have k3':∀ i,i ∈ F → listed0.getD i true=false ∧ i < ops.size ∧ i ∉ st ∧ ∀ j,j ∈ depsOf md ops i → j < i ∧ (listed0.getD j false=true ∨ j ∈ F):=fun i hi=>by
  have:=List.all_eq_true.1 k3 i hi
  simp only [Bool.and_eq_true,Bool.not_eq_true',decide_eq_true_eq] at this
  obtain ⟨⟨⟨a,b⟩,c⟩,d⟩:=this
  refine ⟨a,b,fun h=>?_,fun j hj=>?_⟩
  ·rw [List.contains_iff_mem.2 h] at c;cases c
  ·have:=List.all_eq_true.1 d j hj
   simp only [Bool.and_eq_true,decide_eq_true_eq,Bool.or_eq_true] at this
   exact ⟨this.1,this.2.imp id (fun h=>List.contains_iff_mem.1 h)⟩
 have k4':∀ i,i < ops.size → listed0.getD i false=true ∨ i ∈ F ∨ i ∈ st:=fun i hi=>by
  have:=List.all_eq_true.1 k4 i (List.mem_range.2 hi)
  simp only [Bool.or_eq_true] at this
  rcases this with (h | h) | h
  ·exact .inl h
  ·exact .inr (.inl (List.contains_iff_mem.1 h))
  ·exact .inr (.inr (List.contains_iff_mem.1 h))
 have k5':∀ s,s ∈ st → listed0.getD s true=false ∧ ((∃ j,j ∈ depsOf md ops s ∧ j ∈ st) ∨ ∀ j,j ∈ F → j ∈ ancs md ops ops.size [s]):=fun s hs=>by
  have:=List.all_eq_true.1 k5 s hs
  simp only [Bool.and_eq_true,Bool.not_eq_true',Bool.or_eq_true] at this
  refine ⟨this.1,this.2.imp (fun h=>?_) (fun h j hj=>List.contains_iff_mem.1 (List.all_eq_true.1 h j hj))⟩
  obtain ⟨j,h1,h2⟩:=List.any_eq_true.1 h
  exact ⟨j,h1,List.contains_iff_mem.1 h2⟩
 simp only [slotsOk,Bool.and_eq_true,beq_iff_eq,decide_eq_true_eq] at hsl
 obtain ⟨⟨hf,h2⟩,h3⟩:=hsl
 have h1:(D.map Prod.fst).Nodup:=hf ▸ k0
 have hput:∀ i,i ∈ F → ∀ u v,(fill a0 D u).put (dstOf ops i) v=fill a0 D (updV u i v):=fun i hi u v=>by
  rw [← hf] at hi
  obtain ⟨⟨i',d⟩,hp,rfl⟩:=List.mem_map.1 hi
  have h4:=List.all_eq_true.1 h3 _ hp
  rw [beq_iff_eq.1 h4]
  exact fill_put v h1 h2 hp
 have h0:fill a0 D (lies a0 D)=a0:=fill_lies (lies_at h1)
 -- at any time
 have main:∀ (n:Nat) (listed:Array Bool) (u:Nat → Value) (w:World),left listed F ≤ n → listed.size=ops.size → (∀ i,i ∉ F → listed.getD i false=listed0.getD i false) → (∀ i j,listed.getD i false=true → j ∈ depsOf md ops i → listed.getD j false=true) →
   S w → Below w0.heap.size w0 w → (∀ j,j ∈ F → listed.getD j false=true → G j (u j) w) → ∀ m,m=left listed F → wpAnyH P md ops Q S (m + fuel) listed (fill a0 D u) w:=by
  intro n
  induction n with
  | zero =>
   intro listed u w hn hsz hout hcl hw hb hg m hm
   have hz:left listed F=0:=by omega
   have hall:=left_none hz
   have hl:listed=fullOf ops st:=by
    apply Array.ext
    ·rw [hsz];simp [fullOf]
    ·intro i h1 h2
     have hi:i < ops.size:=by omega
     have e1:listed[i]=listed.getD i false:=by simp [Array.getD,h1]
     have e2:(fullOf ops st)[i]=!(st.contains i):=by simp [fullOf]
     rw [e1,e2]
     by_cases hF:i ∈ F
     ·rw [hall i hF]
      have:=(k3' i hF).2.2.1
      simp [this]
     ·rw [hout i hF]
      by_cases hs:i ∈ st
      ·have:=(k5' i hs).1
       rw [getD_ft (by omega)] at this
       rw [this];simp [hs]
      ·rcases k4' i hi with h | h | h
       ·rw [h];simp [hs]
       ·exact absurd h hF
       ·exact absurd h hs
   rw [hm,hz,Nat.zero_add,hl]
   exact hend u w hw hb (fun j hj=>hg j hj (hall j hj))
  | succ n ih =>
   intro listed u w hn hsz hout hcl hw hb hg m hm
   by_cases hz:left listed F=0
   ·exact ih listed u w (by omega) hsz hout hcl hw hb hg m hm
   ·obtain ⟨m',rfl⟩:∃ m',m=m' + 1:=⟨m - 1,by omega⟩
    -- one of F is ready
    have hex:=left_some hz
    have hmin:∀ b i,i ≤ b → i ∈ F → listed.getD i false=false → ∃ i,i ∈ F ∧ listed.getD i false=false ∧ ∀ j,j ∈ F → j < i → listed.getD j false=true:=by
     intro b
     induction b with
     | zero=>intro i hi hF hl;exact ⟨i,hF,hl,fun j _ hj=>by omega⟩
     | succ b ihb =>
      intro i hi hF hl
      by_cases h:∃ j,j ∈ F ∧ j < i ∧ listed.getD j false=false
      ·obtain ⟨j,h1,h2,h3⟩:=h
       exact ihb j (by omega) h1 h3
      ·refine ⟨i,hF,hl,fun j h1 h2=>?_⟩
       cases h3:listed.getD j false
       ·exact absurd ⟨j,h1,h2,h3⟩ h
       ·rfl
    have hne:Region.ready md ops listed ≠ []:=by
     obtain ⟨i0,h1,h2⟩:=hex
     obtain ⟨i,hF,hl,hmn⟩:=hmin i0 i0 (Nat.le_refl _) h1 h2
     obtain ⟨_,hlt,_,hd⟩:=k3' i hF
     have:i ∈ Region.ready md ops listed:=mem_ready.2 ⟨by rw [getD_ft (by omega)];exact hl,ops[i],by simp [hlt],fun e he hb=>by
      obtain ⟨h1,h2⟩:=hd e.on (mem_deps.2 ⟨ops[i],by simp [hlt],e,he,hb,rfl⟩)
      by_cases hFe:e.on ∈ F
      ·exact hmn _ hFe h1
      ·rw [hout _ hFe];exact h2.resolve_right hFe⟩
     intro h;rw [h] at this;cases this
    rw [show m' + 1 + fuel=(m' + fuel) + 1 by omega]
    refine ⟨fun h=>absurd h hne,fun i hi=>?_⟩
    obtain ⟨hun,o,ho,hdep⟩:=mem_ready.1 hi
    have hlt:i < ops.size:=(Array.getElem?_eq_some_iff.1 ho).1
    have hlf:listed.getD i false=false:=by rw [← getD_ft (by omega)];exact hun
    have hdl:∀ j,j ∈ depsOf md ops i → listed.getD j false=true:=fun j hj=>by
     obtain ⟨o',ho',e,he,hb',rfl⟩:=mem_deps.1 hj
     have:o'=o:=Option.some.inj (ho'.symm.trans ho)
     subst this
     exact hdep e he hb'
    by_cases hF:i ∈ F
    case neg =>
     exfalso
     have h1:=hout i hF
     rw [hlf] at h1
     rcases k4' i hlt with h | h | h
     ·rw [h] at h1;cases h1
     ·exact hF h
     ·rcases (k5' i h).2 with ⟨j,hj,hjs⟩ | hanc
      ·have h2:=hdl j hj
       have h3:=k5' j hjs
       by_cases hjF:j ∈ F
       ·exact (k3' j hjF).2.2.1 hjs
       ·rw [hout j hjF] at h2
        have h4:=h3.1
        have hjl:j < listed0.size:=by
         rcases Nat.lt_or_ge j listed0.size with h | h
         ·exact h
         ·simp [Array.getElem?_eq_none h] at h2
        rw [getD_ft hjl,h2] at h4;cases h4
      ·obtain ⟨j,hjF,hjl⟩:=hex
       have:=anc_listed hcl ops.size [i] (fun k hk l hl=>by simp at hk;subst hk;exact hdl l hl) j (hanc j hjF)
       rw [hjl] at this;cases this
    obtain ⟨o',ho',hst⟩:=hstep i hF
    obtain rfl:o'=o:=Option.some.inj (ho'.symm.trans ho)
    refine wpOp_of ho ?_
    refine hst u w hw hb (fun j hj hd=>hg j (List.contains_iff_mem.1 hj) (hdl j (List.contains_iff_mem.1 hd))) _ (fun v w' hb' hgi=>?_)
    have hdst:o'.dst=dstOf ops i:=by simp [dstOf,ho]
    refine ⟨hS w w' hw hb',?_⟩
    rw [hdst,hput i hF]
    have hlt':=left_set (by omega) hlf k0
    simp only [hF,if_true] at hlt'
    have hset:∀ j,j ≠ i → (listed.setIfInBounds i true).getD j false=listed.getD j false:=fun j hj=>getD_set_ne false (Ne.symm hj)
    have hseti:(listed.setIfInBounds i true).getD i false=true:=by simp [Array.getD,show i < listed.size by omega]
    refine ih (listed.setIfInBounds i true) (updV u i v) w' (by omega) (by simpa using hsz) (fun j hj=>?_) (fun j k hj hk=>?_) (hS w w' hw hb') (hb.trans (hb'.mono hb.size)) (fun j hj hl=>?_) m' (by omega)
    ·rw [hset j (fun e=>hj (e ▸ hF)),hout j hj]
    ·by_cases hji:j=i
     ·subst hji
      exact getD_set_true (hdl k hk)
     ·rw [hset j hji] at hj
      exact getD_set_true (hcl j k hj hk)
    ·by_cases hji:j=i
     ·subst hji;rw [updV_at];exact hgi
     ·rw [updV_ne hji]
      rw [hset j hji] at hl
      exact hG j (u j) w w' (hg j hj hl) hb'
 have hleft:left listed0 F=F.length:=left_all (fun i hi=>by
  have h1:=(k3' i hi).1
  have h2:=(k3' i hi).2.1
  rw [getD_ft (by omega)] at h1
  exact h1)
 have:=main (left listed0 F) listed0 (lies a0 D) w0 (Nat.le_refl _) k1 (fun _ _=>rfl) k2' hS0 (Below.refl _ _) (fun j hj hl=>by
  have h1:=(k3' j hj).1
  have h2:=(k3' j hj).2.1
  rw [getD_ft (by omega),hl] at h1;cases h1) F.length hleft.symm
 rw [h0] at this
 exact this
end Go.Proofs.YtgmllfcngnfpkaaGreat
