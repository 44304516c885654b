/-
 The reference's To of terms into new memory; the walk of DocColumns (written by makers/f38.py). The walks of the reference's Same of numbers, bounds and lists of terms, whatever they are (written by makers/f29.py). The columns of a model by their values: what Columns puts together is what the reference's Column reads. The walk of law07's awake (written by makers/f23.py). The walk of the law ModelNames (written by makers/f28.py). The walk of the reference's Same of models, whatever they are (written by makers/f30.py). The walks of the reference's DocEqual and of the law ModelEquals (written by makers/f31.py).
-/
import Derived.Test.YtgmllfcngnfpkaaGreatZ15
import Derived.Test.YtgmllfcngnfpkaaGreatZ11
import Derived.Deep.RegionHeld3
import Derived.Test.YtgmllfcngnfpkaaGreatZ14
namespace Go.Proofs.YtgmllfcngnfpkaaGreat
open Go.RowKit
def ToNew (L:Nat) (w w':World) (e:Ending) (k:Nat) (v:List (Int × Rat)):Prop:=∃ aw cw,e=.returned (.slice aw k cw) ∧ Below w.heap.size w w' ∧ (k ≤ cw ∧ cw ≤ 9223372036854775807) ∧ (∀ b o s,aw=some ⟨b,o,s⟩ → w.heap.size ≤ b) ∧ Hid (Tf L w' aw v)
set_option maxRecDepth 100000 in
set_option maxHeartbeats 4000000 in
theorem toTN_c {w:World} {K:Nat} {ao:Option Addr} {k cap:Nat} {v:List (Int × Rat)} (h:Tq K w ao v) (hk:k ≤ 10000) (hK:K ≤ 100000) (hlv:v.length=k) :
  Calls Tryz.prog 52 #[.slice ao k cap] w fun e w'=>ToNew (2 * K) w w' e k v:=by
 have H:=hid h
 clear h
 go_enter Tryz.func52,Tryz.ntmps52
 go_wp2_with fail
 go_loopw [3,8] (fun ov t wr=>∃ (i:Nat) (T':Nat → Nm),i ≤ k ∧ t=.int .i64 i ∧ Hid (Below w.heap.size w wr) ∧ Hid (RowG 62 4 w.heap.size wr ov i (tcells (tls i (colv v) T'))) ∧ Hid (∀ j,j < i → ∃ q,v[j]?=some (colv v j,q) ∧ Rn (2 * K) wr (T' j).s (T' j).x (T' j).n (T' j).c (T' j).f (T' j).y (T' j).m (T' j).d (T' j).g q)) (fun _ t _=>k - (intOf t).toNat)
 case atStart=>exact ⟨0,fun _=>⟨false,none,0,0,fun _=>0,none,0,0,fun _=>0⟩,by omega,rfl,Below.refl _ _,rowG_nil _ _ _ _,fun j hj=>by omega⟩
 case round =>
  obtain ⟨i,T',hi,rfl,HB,HRow,HT⟩:=hrel
  by_cases hlt:i < k
  ·obtain ⟨⟨z,q⟩,hvq⟩:∃ t,v[i]?=some t:=⟨_,List.getElem?_eq_getElem (by omega)⟩
   obtain ⟨b,o,⟨s,x,n,c,f,y,m,d,g⟩,hao,hc,hn0⟩:=(H.out.below HB.out) i z q hvq
   subst hao
   have hn:n ≤ K ∧ m ≤ K ∧ Qn wr s x n f y m g q:=hn0
   have hz:colv v i=z:=by unfold colv;rw [List.getD_eq_getElem?_getD,hvq];rfl
   have HVq:Hid (v[i]?=some (colv v i,q)):=by show _=_;rw [hz];exact hvq
   clear hn0 hvq
   obtain ⟨x0,x1,x2,x3⟩:=hc
   replace x0:wr.cell? ⟨b,o + i * 4,none⟩=some (.int .i64 z):=x0
   replace x1:wr.cell? ⟨b,o + i * 4 + 1,none⟩=some (.bool s):=x1
   replace x2:wr.cell? ⟨b,o + i * 4 + 2,none⟩=some (.slice x n c):=x2
   replace x3:wr.cell? ⟨b,o + i * 4 + 3,none⟩=some (.slice y m d):=x3
   have i1:((i:Nat):Int) < ((k:Nat):Int):=by omega
   have HN:=hid hn;have HZ:=hid hz
   clear hn hz
   go_upto_region 5 with fail
   have hb5:=below_alloc (Below.refl wr.heap.size wr) (.cells #[.int .i64 z,.bool s,.slice x n c,.slice y m d] 118)
   have a0:(wr.alloc (.cells #[.int .i64 z,.bool s,.slice x n c,.slice y m d] 118)).cell? ⟨wr.heap.size,0,none⟩=some (.int .i64 z):=by simp [go_sem]
   have a1:(wr.alloc (.cells #[.int .i64 z,.bool s,.slice x n c,.slice y m d] 118)).cell? ⟨wr.heap.size,1,none⟩=some (.bool s):=by simp [go_sem]
   have a2:(wr.alloc (.cells #[.int .i64 z,.bool s,.slice x n c,.slice y m d] 118)).cell? ⟨wr.heap.size,2,none⟩=some (.slice x n c):=by simp [go_sem]
   have a3:(wr.alloc (.cells #[.int .i64 z,.bool s,.slice x n c,.slice y m d] 118)).cell? ⟨wr.heap.size,3,none⟩=some (.slice y m d):=by simp [go_sem]
   have hne:u3.ownBlock ≠ some wr.heap.size:=fun e=>by have:=(HRow.out.lt _ e).2;omega
   replace HN:=hid (And.intro HN.out.1 (And.intro HN.out.2.1 (HN.out.2.2.below hb5)));replace HRow:=hid (HRow.out.below hb5)
   replace HT:Hid (∀ j,j < i → ∃ q,v[j]?=some (colv v j,q) ∧ Rn (2 * K) (wr.alloc (.cells #[.int .i64 z,.bool s,.slice x n c,.slice y m d] 118)) (T' j).s (T' j).x (T' j).n (T' j).c (T' j).f (T' j).y (T' j).m (T' j).d (T' j).g q):=fun j hj=>by obtain ⟨q,h1,h2⟩:=HT.out j hj;exact ⟨q,h1,h2.below hb5⟩
   replace HB:=hid (HB.out.trans (hb5.mono HB.out.size))
   clear x0 x1 x2 x3 hb5
   have hsz:w.heap.size ≤ (wr.alloc (.cells #[.int .i64 z,.bool s,.slice x n c,.slice y m d] 118)).heap.size:=HB.out.size
   generalize wr.alloc (.cells #[.int .i64 z,.bool s,.slice x n c,.slice y m d] 118)=w5 at *
   have CT:Hid (∀ W,Below w5.heap.size w5 W → Calls Tryz.prog 29 #[.agg #[.bool s,.slice x n c,.slice y m d]] W fun e w'=>∃ z6 k6 c6 f6 z7 k7 c7 f7,e=.returned (.agg #[.bool s,.slice z6 k6 c6,.slice z7 k7 c7]) ∧ Below W.heap.size W w' ∧ Hid (Rn (2 * K) w' s z6 k6 c6 f6 z7 k7 c7 f7 q)):=fun W hW=>(qToR_c (HN.out.2.2.below hW) (Nat.le_trans HN.out.1 (by omega)) (Nat.le_trans HN.out.2.1 (by omega))).mono (fun _ _ ⟨z,k,c,f,z2,k2,c2,f2,h1,h2,h3⟩=>⟨z,k,c,f,z2,k2,c2,f2,h1,h2,h3.out.mono (by have:=HN.out.1;have:=HN.out.2.1;omega)⟩)
   go_region_held3 (fun w'=>w'.cell? ⟨wr.heap.size,0,none⟩=some (.int .i64 z) ∧ w'.cell? ⟨wr.heap.size,1,none⟩=some (.bool s) ∧ w'.cell? ⟨wr.heap.size,2,none⟩=some (.slice x n c) ∧ w'.cell? ⟨wr.heap.size,3,none⟩=some (.slice y m d))
    (refine ⟨?_,?_,?_,?_⟩ <;> repeat (with_reducible first | assumption | refine kCd ?_ | refine kCa ?_ | refine kCb (by assumption) ?_))
    (first
     | (go_at_call 29;with_reducible refine (CT.out _ (by repeat (with_reducible first | assumption | exact Below.refl _ _ | refine Below.drew ?_ | refine kBa ?_ | refine kBb (by assumption) ?_))).mono ?_;rintro e w6 ⟨z6,k6,c6,f6,z7,k7,c7,f7,rfl,hb6,HQ⟩;have B6:Below w5.heap.size w5 w6:=(by repeat (with_reducible first | assumption | exact Below.refl _ _ | refine Below.drew ?_ | refine kBa ?_ | refine kBb (by assumption) ?_));have HRow6:=HRow.out.below B6;have hz6:w.heap.size ≤ w6.heap.size:=Nat.le_trans hsz B6.size;have a06:=kCb B6 a0;have a16:=kCb B6 a1;have a26:=kCb B6 a2;have a36:=kCb B6 a3;have hlt6:=World.block_lt_of_cell? w6 _ a06)
     | (refine step_append_one w6 rfl (.tmp 12) (.tmp 19) 60 rfl w.heap.size 62 64 4 (.agg #[.int .i64 0,.bool false,.slice none 0 0,.slice none 0 0]) Tryz.underlying60 Tryz.infoTerm rfl (by decide) nz4 u3 i (tcells (tls i (colv v) T')) rfl HRow6 #[.int .i64 z,.bool s,.slice z6 k6 c6,.slice z7 k7 c7] rfl rfl (one4 _ _ _ _ _ _ _ _) (not4 _ _ _ _ _ _ _ _) ?p1 (by decide) hz6 ?_;(case p1=>omega);intro g8 cap8 w8 hr8 hk8 hb8 hg8;have h88:=hg8 wr.heap.size hlt6 hne;have a08:=(World.cell?_of_block (a:=⟨wr.heap.size,0,none⟩) h88).trans a06;have a18:=(World.cell?_of_block (a:=⟨wr.heap.size,1,none⟩) h88).trans a16;have a28:=(World.cell?_of_block (a:=⟨wr.heap.size,2,none⟩) h88).trans a26;have a38:=(World.cell?_of_block (a:=⟨wr.heap.size,3,none⟩) h88).trans a36))
   all_goals
    (have HB8:=hid (hb8 w (HB.out.trans (B6.mono HB.out.size)) (Nat.le_refl _))
     have HR8:Hid (RowG 62 4 w.heap.size w8 (.slice (some ⟨g8,0,none⟩) (i + 1) cap8) (i + 1) (tcells (tls (i + 1) (colv v) (putN T' i ⟨s,z6,k6,c6,f6,z7,k7,c7,f7⟩)))):=by
      show RowG _ _ _ _ _ _ _
      rw [tls_put,HZ.out];exact hr8
     have HT8:Hid (∀ j,j < i + 1 → ∃ q,v[j]?=some (colv v j,q) ∧ Rn (2 * K) w8 (putN T' i ⟨s,z6,k6,c6,f6,z7,k7,c7,f7⟩ j).s (putN T' i ⟨s,z6,k6,c6,f6,z7,k7,c7,f7⟩ j).x (putN T' i ⟨s,z6,k6,c6,f6,z7,k7,c7,f7⟩ j).n (putN T' i ⟨s,z6,k6,c6,f6,z7,k7,c7,f7⟩ j).c (putN T' i ⟨s,z6,k6,c6,f6,z7,k7,c7,f7⟩ j).f (putN T' i ⟨s,z6,k6,c6,f6,z7,k7,c7,f7⟩ j).y (putN T' i ⟨s,z6,k6,c6,f6,z7,k7,c7,f7⟩ j).m (putN T' i ⟨s,z6,k6,c6,f6,z7,k7,c7,f7⟩ j).d (putN T' i ⟨s,z6,k6,c6,f6,z7,k7,c7,f7⟩ j).g q):=fun j hj=>by
      by_cases e:j=i
      ·subst e
       rw [putN_at]
       exact ⟨q,HVq.out,HQ.out.kp hk8⟩
      ·rw [putN_ne e]
       obtain ⟨q,h1,h2⟩:=HT.out j (by omega);exact ⟨q,h1,(h2.below B6).kp hk8⟩
     clear hr8 hk8 hb8 hg8 h88 a08 a18 a28 a38 a06 a16 a26 a36 hlt6 hne HRow6 B6 hb6 HQ HRow HT HB CT a0 a1 a2 a3 HN hz6
     go_wp2
     go_roundw
     case rel=>exact ⟨i + 1,_,by omega,by go_num,HB8.out,HR8.out,HT8.out⟩
     case measure=>simp [intOf];omega)
  ·have e1:i=k:=by omega
   have i1:¬ (((i:Nat):Int) < ((k:Nat):Int)):=by omega
   rw [e1] at HRow HT
   obtain ⟨aw,cw,rfl⟩:=HRow.out.slice
   have hcw:k ≤ cw ∧ cw ≤ 9223372036854775807:=by
    rcases HRow.out.2 with ⟨hv,h0⟩ | ⟨_,_,_,hv,_,_,h5,h6,_⟩
    ·cases hv;omega
    ·cases hv;unfold maxLen at h6;omega
   clear e1
   go_wp2
   go_ret
   exact ⟨aw,cw,rfl,HB.out,hcw,(fun b o s e=>(HRow.out.lt b (by rw [e];rfl)).1),(fun j a q hj=>by have hlt2:j < k:=by { have:=(List.getElem?_eq_some_iff.1 hj).1;omega };obtain ⟨b,hb,h4⟩:=rowg_c4 HRow.out hlt2;obtain ⟨q',h5,h6⟩:=HT.out j hlt2;rw [hj] at h5;obtain ⟨h7,rfl⟩:a=colv v j ∧ q=q':=by { simpa using h5 };rw [h7];exact ⟨b,0,T' j,hb,h4,h6⟩)⟩
theorem Tf.of {L w w' ao v} (h:Tf L w ao v) (hb:v ≠ [] → ∀ b o s,ao=some ⟨b,o,s⟩ → w'.heap[b]?=w.heap[b]?) (hk:Kp w w'):Tf L w' ao v:=fun j a q hj=>by
 obtain ⟨b,o,t,e,⟨c0,c1,c2,c3⟩,h2⟩:=h j a q hj
 have:=hb (fun e=>by rw [e] at hj;simp at hj) b o none e
 exact ⟨b,o,t,e,⟨(World.cell?_of_block (a:=⟨b,o + j * 4,none⟩) this).trans c0,(World.cell?_of_block (a:=⟨b,o + j * 4 + 1,none⟩) this).trans c1,(World.cell?_of_block (a:=⟨b,o + j * 4 + 2,none⟩) this).trans c2,(World.cell?_of_block (a:=⟨b,o + j * 4 + 3,none⟩) this).trans c3⟩,h2.kp hk⟩
theorem Tf.lt {L w ao v} (h:Tf L w ao v) (hv:v ≠ []):∀ b o s,ao=some ⟨b,o,s⟩ → b < w.heap.size:=fun b o s e=>by
 obtain ⟨⟨a,q⟩,r,rfl⟩:∃ x r,v=x :: r:=by cases v with | nil=>exact absurd rfl hv | cons x r=>exact ⟨x,r,rfl⟩
 obtain ⟨b',o',t,e',h4,_⟩:=h 0 a q rfl
 rw [e] at e';cases e'
 exact World.block_lt_of_cell? w _ h4.x0
def scs (A:Nat → Option Addr × Nat) (E:Nat → List (Int × Rat)):Nat → List Value
 | 0=>[]
 | i + 1=>scs A E i ++ [.slice (A i).1 (E i).length (A i).2]
theorem scs_congr {A A':Nat → Option Addr × Nat} {E:Nat → List (Int × Rat)}:∀ {i:Nat},(∀ j,j < i → A j=A' j) → scs A E i=scs A' E i
 | 0,_=>rfl
 | i + 1,h=>by unfold scs;rw [scs_congr (fun j hj=>h j (by omega)),h i (by omega)]
theorem scs_len (A:Nat → Option Addr × Nat) (E:Nat → List (Int × Rat)):∀ i,(scs A E i).length=i
 | 0=>rfl
 | i + 1=>by unfold scs;rw [List.length_append,scs_len A E i];rfl
theorem scs_get {A:Nat → Option Addr × Nat} {E:Nat → List (Int × Rat)} {j:Nat}:∀ {i:Nat},j < i → (scs A E i)[j]?=some (.slice (A j).1 (E j).length (A j).2)
 | 0,h=>by omega
 | i + 1,h=>by
  unfold scs
  by_cases e:j=i
  ·subst e
   rw [List.getElem?_append_right (by rw [scs_len];omega),scs_len,Nat.sub_self];rfl
  ·rw [List.getElem?_append_left (by rw [scs_len];omega)];exact scs_get (by omega)
def putA (A:Nat → Option Addr × Nat) (i:Nat) (x:Option Addr × Nat):Nat → Option Addr × Nat:=fun j=>if j=i then x else A j
theorem putA_at (A:Nat → Option Addr × Nat) (i:Nat) (x:Option Addr × Nat):putA A i x i=x:=by simp [putA]
theorem putA_ne {A:Nat → Option Addr × Nat} {i j:Nat} {x:Option Addr × Nat} (h:j ≠ i):putA A i x j=A j:=by simp [putA,h]
theorem scs_put (A:Nat → Option Addr × Nat) (E:Nat → List (Int × Rat)) (i:Nat) (x:Option Addr × Nat):scs (putA A i x) E (i + 1)=scs A E i ++ [.slice x.1 (E i).length x.2]:=by
 show scs (putA A i x) E i ++ [.slice (putA A i x i).1 (E i).length (putA A i x i).2]=_
 rw [putA_at,scs_congr (A':=A) (fun j hj=>putA_ne (by omega))]
theorem onesl (a:Option Addr) (n c:Nat):∀ u ∈ (#[Value.slice a n c]:Array Value).toList,u.oneCell'=true:=by intro u hu;simp at hu;subst hu;rfl
theorem notsl (a:Option Addr) (n c:Nat):∀ u ∈ (#[Value.slice a n c]:Array Value).toList,∀ q,u ≠ .int .u64 q:=by intro u hu q;simp at hu;subst hu;simp
theorem nzsl:NoU (Value.slice none 0 0).cells:=nou_list (l:=[Value.slice none 0 0]) (notsl _ _ _)
theorem clq_len (rs:List RV) (c:Int):∀ i,(clq rs c i).length ≤ i
 | 0=>Nat.le_refl _
 | i + 1=>by
  have:=clq_len rs c i
  unfold clq
  rw [List.length_append]
  have:∀ q:Rat,(nz (i:Int) q).length ≤ 1:=fun q=>by unfold nz;split <;> simp
  have:=this ((rs[i]?.map (fun v=>atq c v.ts)).getD 0)
  omega
structure DcS (L base:Nat) (w:World) (ov:Value) (i:Nat) (A:Nat → Option Addr × Nat) (E:Nat → List (Int × Rat)):Prop where
 bs:base ≤ w.heap.size
 row:RowG 60 1 base w ov i (scs A E i)
 el:∀ j,j < i → Tf L w (A j).1 (E j) ∧ (E j ≠ [] → ∀ b o s,(A j).1=some ⟨b,o,s⟩ → ov.ownBlock ≠ some b)
theorem DcS.below {L base w w' ov i A E} (h:DcS L base w ov i A E) (hb:Below w.heap.size w w'):DcS L base w' ov i A E:=⟨Nat.le_trans h.bs hb.size,h.row.below hb,fun j hj=>⟨(h.el j hj).1.below hb,(h.el j hj).2⟩⟩
theorem DcS.next {L base w w8 ov i A E g8 cap8} {x:Option Addr × Nat} (h:DcS L base w ov i A E) (ht:Tf L w x.1 (E i)) (hx:∀ b o s,x.1=some ⟨b,o,s⟩ → ov.ownBlock ≠ some b)
  (hr:RowG 60 1 base w8 (.slice (some ⟨g8,0,none⟩) (i + 1) cap8) (i + 1) (scs A E i ++ [.slice x.1 (E i).length x.2])) (hk:Kp w w8) (hg:∀ k,k < w.heap.size → ov.ownBlock ≠ some k → w8.heap[k]?=w.heap[k]?) (hl:ov.ownBlock=some g8 ∨ w.heap.size ≤ g8) :
  DcS L base w8 (.slice (some ⟨g8,0,none⟩) (i + 1) cap8) (i + 1) (putA A i x) E:=by
 have key:∀ (a:Option Addr) (e:List (Int × Rat)),Tf L w a e → (e ≠ [] → ∀ b o s,a=some ⟨b,o,s⟩ → ov.ownBlock ≠ some b) → Tf L w8 a e ∧ (e ≠ [] → ∀ b o s,a=some ⟨b,o,s⟩ → (Value.slice (some ⟨g8,0,none⟩) (i + 1) cap8).ownBlock ≠ some b):=fun a e h1 h2=>by
  refine ⟨h1.of (fun h3 b o s e4=>hg b (h1.lt h3 b o s e4) (h2 h3 b o s e4)) hk,fun h3 b o s e4 e5=>?_⟩
  have e6:g8=b:=by simpa [Value.ownBlock] using e5
  rcases hl with h7 | h7
  ·exact h2 h3 b o s e4 (e6 ▸ h7)
  ·have:=h1.lt h3 b o s e4;omega
 refine ⟨Nat.le_trans h.bs hk.size,by rw [scs_put];exact hr,fun j hj=>?_⟩
 by_cases e:j=i
 ·subst e;rw [putA_at];exact key _ _ ht (fun _=>hx)
 ·rw [putA_ne e];exact key _ _ (h.el j (by omega)).1 (h.el j (by omega)).2
def DcA (L:Nat) (w w':World) (e:Ending) (ck:Nat) (E:Nat → List (Int × Rat)):Prop:=∃ ao cap A,e=.returned (.tuple #[.slice ao ck cap,.int .i64 0]) ∧ Below w.heap.size w w' ∧ Hid (DcS L (w.heap.size + 1) w' (.slice ao ck cap) ck A E)
set_option maxRecDepth 100000 in
set_option maxHeartbeats 8000000 in
theorem docColumns_c {w:World} {M:Mo} {K:Nat} {q:Rat} {cs:List CV} {rs:List RV} (hv:chkE M=0 → MoV K w M q cs rs ∧ mvOk cs rs=true) (h:M.ck ≤ 64 → M.rk ≤ 64 → MoR w M ∧ MoS M) (hc:MoC M) (h1K:1 ≤ K) (hK:K ≤ 500):Calls Tryz.prog 18 #[M.val] w fun r w' =>
  (chkE M ≠ 0 ∧ r=.returned (.tuple #[.slice none 0 0,.int .i64 (chkE M)]) ∧ Below w.heap.size w w') ∨ (chkE M=0 ∧ DcA (4 * K) w w' r M.ck (fun j=>clq rs (j:Int) M.rk)):=by
 have CC:=hid (fun w' (hw:Below w.heap.size w w')=>docCheck_w (w:=w') (fun a b=>⟨(h a b).1.below hw,(h a b).2⟩) hc)
 generalize hP:(fun (r:Ending) (w':World)=>(chkE M ≠ 0 ∧ r=.returned (.tuple #[.slice none 0 0,.int .i64 (chkE M)]) ∧ Below w.heap.size w w') ∨ (chkE M=0 ∧ DcA (4 * K) w w' r M.ck (fun j=>clq rs (j:Int) M.rk)))=P
 obtain ⟨e,he⟩:∃ e,chkE M=e:=⟨_,rfl⟩
 rw [he] at CC
 by_cases h0:e=0
 case neg =>
  have HA:Hid (∀ w',Below w.heap.size w w' → P (.returned (.tuple #[.slice none 0 0,.int .i64 e])) w'):=by subst hP;exact fun w' hw=>.inl ⟨by rw [he];exact h0,by rw [he],hw⟩
  have hne:(e != 0)=true:=by simpa using h0
  clear he h hv hP
  obtain ⟨⟨s,x,n,c,f,y,m,d,g⟩,ca,ck,cc,C,ra,rk,rc,R⟩:=M
  replace CC:Hid (∀ w',Below w.heap.size w w' → Calls Tryz.prog 15 #[.agg #[.bool s,.slice x n c,.slice y m d,.slice ca ck cc,.slice ra rk rc]] w' fun e' w2=>e'=.returned (.int .i64 e) ∧ Below w'.heap.size w' w2):=CC
  show Calls Tryz.prog 18 #[.agg #[.bool s,.slice x n c,.slice y m d,.slice ca ck cc,.slice ra rk rc]] w _
  go_enter Tryz.func18,Tryz.ntmps18
  go_wp2_with fail
  have HB:=hid (below_alloc (Below.refl w.heap.size w) (.cells #[.bool s,.slice x n c,.slice y m d,.slice ca ck cc,.slice ra rk rc] 28))
  refine (CC.out _ HB.out).mono ?_
  rintro r w1 ⟨rfl,hb1⟩
  have HB1:=hid (HB.out.trans (hb1.mono HB.out.size))
  clear hb1 HB CC
  go_wp2
  exact HA.out _ HB1.out
 subst h0
 obtain ⟨l1,l2,_⟩:=chkE_ok he
 obtain ⟨hV,hok⟩:=hv he
 have CF:=hid (fun w' (hw:Below w.heap.size w w')=>mFrom_c (w:=w') (hV.below hw) (Nat.le_trans hK (by decide)) hok)
 have HRk:=hid hV.rk
 have HA:Hid (∀ w' ao cap A,Below w.heap.size w w' → DcS (4 * K) (w.heap.size + 1) w' (.slice ao M.ck cap) M.ck A (fun j=>clq rs (j:Int) M.rk) → P (.returned (.tuple #[.slice ao M.ck cap,.int .i64 0])) w'):=by
  subst hP;exact fun w' ao cap A h1 h2=>.inr ⟨he,ao,cap,A,rfl,h1,h2⟩
 simp only [mvOk,Bool.and_eq_true,decide_eq_true_eq,List.all_eq_true] at hok
 have HTS:Hid (∀ v ∈ rs,v.ts.length ≤ 10000):=fun v hv=>by have:=(hok.2.2.2.1 v hv).2.2;omega
 clear he h hv hV hP hok hc
 obtain ⟨⟨s,x,n,c,f,y,m,d,g⟩,ca,ck,cc,C,ra,rk,rc,R⟩:=M
 replace l1:ck ≤ 64:=l1
 replace l2:rk ≤ 64:=l2
 replace HRk:Hid (rk=rs.length):=HRk
 obtain ⟨E,hE⟩:∃ E,(fun j:Nat=>clq rs (j:Int) rk)=E:=⟨_,rfl⟩
 have HE:Hid (∀ j:Nat,clq rs (j:Int) rk=E j):=fun j=>by rw [← hE]
 have HEl:Hid (∀ j,(E j).length ≤ 64):=fun j=>by rw [← HE.out j];exact Nat.le_trans (clq_len _ _ _) l2
 replace HA:Hid (∀ w' ao cap A,Below w.heap.size w w' → DcS (4 * K) (w.heap.size + 1) w' (.slice ao ck cap) ck A E → P (.returned (.tuple #[.slice ao ck cap,.int .i64 0])) w'):=by subst hE;exact HA
 clear hE
 replace CC:Hid (∀ w',Below w.heap.size w w' → Calls Tryz.prog 15 #[.agg #[.bool s,.slice x n c,.slice y m d,.slice ca ck cc,.slice ra rk rc]] w' fun e w2=>e=.returned (.int .i64 0) ∧ Below w'.heap.size w' w2):=CC
 replace CF:Hid (∀ w',Below w.heap.size w w' → Calls Tryz.prog 39 #[.agg #[.bool s,.slice x n c,.slice y m d,.slice ca ck cc,.slice ra rk rc]] w' fun e w2=>∃ M':Mo,e=.returned M'.val ∧ Below w'.heap.size w' w2 ∧ MqV (2 * K) w2 M' q cs rs):=CF
 show Calls Tryz.prog 18 #[.agg #[.bool s,.slice x n c,.slice y m d,.slice ca ck cc,.slice ra rk rc]] w _
 have B0:=bk_new w [.bool s,.slice x n c,.slice y m d,.slice ca ck cc,.slice ra rk rc] 28
 replace B0:Bk (w.alloc (.cells #[.bool s,.slice x n c,.slice y m d,.slice ca ck cc,.slice ra rk rc] 28)) w.heap.size [.bool s,.slice x n c,.slice y m d,.slice ca ck cc,.slice ra rk rc] 28:=B0
 go_enter Tryz.func18,Tryz.ntmps18
 go_wp2_with fail
 have HB:=hid (below_alloc (Below.refl w.heap.size w) (.cells #[.bool s,.slice x n c,.slice y m d,.slice ca ck cc,.slice ra rk rc] 28))
 generalize w.alloc (.cells #[.bool s,.slice x n c,.slice y m d,.slice ca ck cc,.slice ra rk rc] 28)=w0 at *
 refine (CC.out _ HB.out).mono ?_
 rintro r w1 ⟨rfl,hb1⟩
 have B1:=B0.below hb1
 have HB1:=hid (HB.out.trans (hb1.mono HB.out.size))
 clear hb1 HB CC B0
 have r3:=B1.cell (j:=3) rfl
 go_wp2_with fail
 have HBK:=hid B1
 clear r3 B1
 go_loopw [5,15] (fun ov t wr=>∃ (i:Nat) (A:Nat → Option Addr × Nat),i ≤ ck ∧ t=.int .i64 i ∧ Hid (Below w.heap.size w wr) ∧ Hid (Bk wr w.heap.size [.bool s,.slice x n c,.slice y m d,.slice ca ck cc,.slice ra rk rc] 28) ∧ Hid (DcS (4 * K) (w.heap.size + 1) wr ov i A E)) (fun _ t _=>ck - (intOf t).toNat)
 case atStart=>exact ⟨0,fun _=>(none,0),by omega,rfl,HB1.out,HBK.out,⟨HBK.out.lt,rowG_nil _ _ _ _,fun j hj=>by omega⟩⟩
 case round =>
  clear HB1 HBK
  obtain ⟨i,A,hi,rfl,HB,HBK,HI⟩:=hrel
  by_cases hlt:i < ck
  ·have i1':((i:Nat):Int) < ((ck:Nat):Int):=by omega
   have r0:=HBK.out.cell (j:=0) rfl
   have r1:=HBK.out.cell (j:=1) rfl
   have r2:=HBK.out.cell (j:=2) rfl
   have r3:=HBK.out.cell (j:=3) rfl
   have r4:=HBK.out.cell (j:=4) rfl
   go_wp2_with fail
   refine (CF.out _ HB.out).mono ?_
   rintro r w2 ⟨M1,rfl,hb2,hQ⟩
   have HQ:=hid hQ
   have HI2:=hid (HI.out.below hb2);have HB2:=hid (HB.out.trans (hb2.mono HB.out.size));have HBK2:=hid (HBK.out.below hb2)
   have hne2:∀ b,w2.heap.size ≤ b → u5.ownBlock ≠ some b:=fun b hb e=>by have:=(HI2.out.row.lt b e).2;omega
   have HN2:=hid hne2
   clear hb2 hQ HI HB HBK r0 r1 r2 r3 r4 hne2
   obtain ⟨V1,hV1⟩:∃ z,M1.val=z:=⟨_,rfl⟩
   have CCo:=hid (rColumn_c (cz:=(i:Int)) HQ.out (by rw [HQ.out.rk,← HRk.out];exact l2) HTS.out ⟨by omega,by omega⟩)
   rw [show M1.rk=rk from by rw [HQ.out.rk,HRk.out],HE.out i,hV1] at CCo
   rw [hV1]
   clear hV1 HQ
   go_wp2_with fail
   refine CCo.out.mono ?_
   rintro r w3 ⟨ao3,cap3,rfl,hb3,hT3⟩
   have HI3:=hid (HI2.out.below hb3);have HB3:=hid (HB2.out.trans (hb3.mono HB2.out.size));have HBK3:=hid (HBK2.out.below hb3)
   have hs3:=hb3.size
   clear hb3 HI2 HB2 HBK2 CCo
   go_wp2_with fail
   refine (toTN_c (cap:=cap3) hT3.out (Nat.le_trans (HEl.out i) (by decide)) (by omega) rfl).mono ?_
   rintro r w4 ⟨ao4,cap4,rfl,hb4,_,hfr,hT4⟩
   have HI4:=hid (HI3.out.below hb4);have HB4:=hid (HB3.out.trans (hb4.mono HB3.out.size));have HBK4:=hid (HBK3.out.below hb4)
   have HT4:Hid (Tf (4 * K) w4 ao4 (E i)):=by have:=hT4.out;rw [show 2 * (2 * K)=4 * K from by omega] at this;exact this
   have HX4:Hid (∀ b o s,ao4=some ⟨b,o,s⟩ → u5.ownBlock ≠ some b):=fun b o s e=>HN2.out b (by have:=hfr b o s e;omega)
   have hsz:=HI4.out.bs
   clear hb4 HI3 HB3 HBK3 hT3 hT4 hfr hs3 HN2
   go_wp2_with (at_builtin;go_must (refine wpList_append_oneW w4 rfl (.tmp 18) (.tmp 24) 42 rfl (w.heap.size + 1) 60 24 1 (.slice none 0 0) Tryz.underlying42 Tryz.infoTs rfl (by decide) nzsl u5 i (scs A E i) rfl HI4.out.row #[.slice ao4 (E i).length cap4] rfl rfl (onesl _ _ _) (notsl _ _ _) ?p1 ?p2 hsz ?_))
   case p1=>omega
   case p2=>omega
   intro g8 cap8 w8 hr8 hk8 hb8 hg8 hl8
   have HB8:=hid (hb8 w HB4.out (by omega))
   have HBK8:=hid (HBK4.out.of (hg8 _ HBK4.out.lt (fun e=>by have:=(HI4.out.row.lt _ e).1;omega)))
   have HI8:=hid (HI4.out.next (x:=(ao4,cap4)) HT4.out HX4.out hr8 hk8 hg8 hl8)
   clear hr8 hk8 hb8 hg8 hl8 HI4 HB4 HBK4 HT4 HX4 hsz
   go_wp2
   go_roundw
   case rel=>exact ⟨i + 1,_,by omega,by go_num,HB8.out,HBK8.out,HI8.out⟩
   case measure=>simp [intOf];omega
  ·have e1:i=ck:=by omega
   have i2:¬ (((i:Nat):Int) < ((ck:Nat):Int)):=by omega
   rw [e1] at HI
   obtain ⟨aw,cw,rfl⟩:=HI.out.row.slice
   have HD:Hid (DcS (4 * K) (w.heap.size + 1) wr (.slice aw ck cw) ck A E):=HI.out
   clear e1 HI
   go_wp2
   exact HA.out _ _ _ _ HB.out HD.out
theorem eqs_iff {f g:Nat → Int}:∀ {r i:Nat},eqs f g r i=true ↔ ∀ j,i ≤ j → j < i + r → f j=g j
 | 0,i=>⟨fun _ j a b=>by omega,fun _=>rfl⟩
 | r + 1,i=>by
  simp only [eqs,Bool.and_eq_true,decide_eq_true_eq,eqs_iff (r:=r)]
  constructor
  ·rintro ⟨h1,h2⟩ j a b
   by_cases e:j=i
   ·subst e;exact h1
   ·exact h2 j (by omega) (by omega)
  ·intro h
   exact ⟨h i (by omega) (by omega),fun j a b=>h j (by omega) (by omega)⟩
theorem eql_iff {n m:Nat} {f g:Nat → Int}:eqlB n m f g=true ↔ Alk n m f g:=by
 unfold eqlB Alk
 simp only [Bool.and_eq_true,decide_eq_true_eq,eqs_iff]
 exact ⟨fun ⟨a,b⟩=>⟨a,fun j hj=>b j (by omega) (by omega)⟩,fun ⟨a,b⟩=>⟨a,fun j _ hj=>b j (by omega)⟩⟩
theorem sq_iff {a b:Nm}:sqB a b=true ↔ a.s=b.s ∧ Alk a.n b.n a.f b.f ∧ Alk a.m b.m a.g b.g:=by
 unfold sqB
 simp only [Bool.and_eq_true,decide_eq_true_eq,eql_iff]
theorem qSame_x {w:World} {a b:Nm} (ha:NmS w a) (hb:NmS w b):Calls Tryz.prog 28 #[a.val,b.val] w fun r w'=>r=.returned (.bool (sqB a b)) ∧ Below w.heap.size w w' :=
 (rSame_c a.s a.x a.y a.n a.c a.m a.d a.f a.g b.s b.x b.y b.n b.c b.m b.d b.f b.g w ha.1.rx ha.1.ry hb.1.rx hb.1.ry (Nat.le_trans ha.2.1 (by decide)) (Nat.le_trans ha.2.2 (by decide)) (Nat.le_trans hb.2.1 (by decide)) (Nat.le_trans hb.2.2 (by decide))).mono
  fun e w' ⟨q,h1,h2,h3⟩=>⟨by rw [h1,Bool.eq_iff_iff.2 (h3.trans sq_iff.symm)],h2⟩
set_option maxRecDepth 100000 in
set_option maxHeartbeats 4000000 in
theorem xSame_x {w:World} {a b:Ex} (ha:NmS w a.v) (hb:NmS w b.v):Calls Tryz.prog 56 #[a.val,b.val] w fun r w'=>r=.returned (.bool (sxB a b)) ∧ Below w.heap.size w w':=by
 have CS:=hid (fun w' (hw:Below w.heap.size w w')=>qSame_x (w:=w') (ha.below hw) (hb.below hw))
 obtain ⟨q,hq⟩:∃ q,sqB a.v b.v=q:=⟨_,rfl⟩
 rw [hq] at CS
 obtain ⟨an,han⟩:∃ t,sxB a b=t:=⟨_,rfl⟩
 rw [han]
 have HA:=hid (show an=(decide (a.i=b.i) && q) from by rw [← han,sxB,hq])
 clear ha hb hq han
 obtain ⟨i1,⟨s1,x1,n1,c1,f1,y1,m1,d1,g1⟩⟩:=a
 obtain ⟨i2,⟨s2,x2,n2,c2,f2,y2,m2,d2,g2⟩⟩:=b
 replace CS:Hid (∀ w' (hw:Below w.heap.size w w'),Calls Tryz.prog 28 #[.agg #[.bool s1,.slice x1 n1 c1,.slice y1 m1 d1],.agg #[.bool s2,.slice x2 n2 c2,.slice y2 m2 d2]] w' fun r w2=>r=.returned (.bool q) ∧ Below w'.heap.size w' w2):=CS
 replace HA:Hid (an=(decide (i1=i2) && q)):=HA
 show Calls Tryz.prog 56 #[.agg #[.int .i64 i1,.bool s1,.slice x1 n1 c1,.slice y1 m1 d1],.agg #[.int .i64 i2,.bool s2,.slice x2 n2 c2,.slice y2 m2 d2]] w _
 have h1:=(bx4_at w (.int .i64 i1) (.bool s1) (.slice x1 n1 c1) (.slice y1 m1 d1) 73).alloc (.cells #[.int .i64 i2,.bool s2,.slice x2 n2 c2,.slice y2 m2 d2] 73)
 have h2:=bx4_at (w.alloc (.cells #[.int .i64 i1,.bool s1,.slice x1 n1 c1,.slice y1 m1 d1] 73)) (.int .i64 i2) (.bool s2) (.slice x2 n2 c2) (.slice y2 m2 d2) 73
 rw [size_alloc1] at h2
 have h3:=below_alloc (below_alloc (Below.refl w.heap.size w) (.cells #[.int .i64 i1,.bool s1,.slice x1 n1 c1,.slice y1 m1 d1] 73)) (.cells #[.int .i64 i2,.bool s2,.slice x2 n2 c2,.slice y2 m2 d2] 73)
 go_enter Tryz.func56,Tryz.ntmps56
 go_upto_region 1 with fail
 generalize (w.alloc (.cells #[.int .i64 i1,.bool s1,.slice x1 n1 c1,.slice y1 m1 d1] 73)).alloc (.cells #[.int .i64 i2,.bool s2,.slice x2 n2 c2,.slice y2 m2 d2] 73)=w1 at *
 have HW:=hid h3
 obtain ⟨za,a0,a1,a2,a3⟩:=h1
 obtain ⟨zb,b0,b1,b2,b3⟩:=h2
 clear h3
 by_cases hi:i1=i2
 ·subst hi
  have hii:(i1 == i1)=true:=by simp
  go_wp2_with fail
  refine (CS.out _ HW.out).mono ?_
  rintro e w2 ⟨rfl,hb⟩
  have HB:=hid (HW.out.trans (hb.mono HW.out.size))
  clear hb
  go_wp2
  go_ret
  exact ⟨by rw [HA.out];simp,HB.out⟩
 ·have hii:(i1 == i2)=false:=by simpa using hi
  have HF:=hid (show an=false from by rw [HA.out];simp [hi])
  go_wp2
  go_ret
  exact ⟨by rw [HF.out];rfl,HW.out⟩
set_option maxRecDepth 100000 in
set_option maxHeartbeats 4000000 in
theorem vSame_x {w:World} {ao bo:Option Addr} {k m ca cb:Nat} {col col':Nat → Int} {T T':Nat → Nm} (ha:Tl w ao k col T) (hb:Tl w bo m col' T') (hk:k ≤ 1048576) (hm:m ≤ 1048576) :
  Calls Tryz.prog 54 #[.slice ao k ca,.slice bo m cb] w fun e w'=>e=.returned (.bool (eqfB sxB k m (tex col T) (tex col' T'))) ∧ Below w.heap.size w w':=by
 have HA:=hid ha;have HB:=hid hb
 clear ha hb
 obtain ⟨an,han⟩:∃ t,eqfB sxB k m (tex col T) (tex col' T')=t:=⟨_,rfl⟩
 rw [han]
 by_cases hnm:k=m
 case neg =>
  have HE:=hid (show an=false from by rw [← han,eqfB];simp [hnm])
  have e1:((k:Int) != (m:Int))=true:=by simp;omega
  clear hnm han
  go_enter Tryz.func54,Tryz.ntmps54
  go_wp2
  go_ret
  refine ⟨?_,Below.refl _ _⟩
  rw [HE.out];rfl
 subst hnm
 have HAN:=hid (show an=eqf sxB (tex col T) (tex col' T') k 0 from by rw [← han,eqfB];simp)
 have hkk:(((k:Nat):Int) != ((k:Nat):Int))=false:=by simp
 clear han
 go_enter Tryz.func54,Tryz.ntmps54
 go_wp2_with fail
 go_loopw [13] (fun t wr=>∃ (i:Nat),i ≤ k ∧ t=.int .i64 i ∧ Hid (Below w.heap.size w wr) ∧ Hid (an=eqf sxB (tex col T) (tex col' T') (k - i) i)) (fun t _=>k - (intOf t).toNat)
 case atStart=>exact ⟨0,by omega,rfl,Below.refl _ _,HAN.out⟩
 case round =>
  obtain ⟨i,hi,rfl,HW,HI⟩:=hrel
  by_cases hlt:i < k
  ·obtain ⟨b,o,rfl,⟨x0,x1,x2,x3⟩,hr⟩:=(HA.out.below HW.out) i hlt
   obtain ⟨b',o',rfl,⟨p0,p1,p2,p3⟩,hr'⟩:=(HB.out.below HW.out) i hlt
   obtain ⟨r,hrr⟩:∃ r,k - i=r + 1:=⟨k - i - 1,by omega⟩
   have hT:an=(sxB (tex col T i) (tex col' T' i) && eqf sxB (tex col T) (tex col' T') r (i + 1)):=by rw [HI.out,hrr];rfl
   have hr2:k - (i + 1)=r:=by omega
   obtain ⟨q,hq⟩:∃ q,sqB (T i) (T' i)=q:=⟨_,rfl⟩
   have CS:=hid (fun W (hW:Below wr.heap.size wr W)=>qSame_x (w:=W) (a:=T i) (b:=T' i) ⟨hr.1.below hW,hr.2⟩ ⟨hr'.1.below hW,hr'.2⟩)
   rw [hq] at CS
   have hT2:an=((decide (col i=col' i) && q) && eqf sxB (tex col T) (tex col' T') r (i + 1)):=by rw [hT];unfold sxB;show ((decide (col i=col' i) && sqB (T i) (T' i)) && _)=_;rw [hq]
   obtain ⟨a,hca⟩:∃ z,col i=z:=⟨_,rfl⟩
   obtain ⟨a',hcb⟩:∃ z,col' i=z:=⟨_,rfl⟩
   rw [hca,hcb] at hT2
   rw [hca] at x0
   rw [hcb] at p0
   obtain ⟨⟨ts,tx,tn,tc,tf,ty,tm,td,tg⟩,hTi⟩:∃ t,T i=t:=⟨_,rfl⟩
   obtain ⟨⟨ss,sx,sn,sc,sf,sy,sm,sd,sg⟩,hTi'⟩:∃ t,T' i=t:=⟨_,rfl⟩
   rw [hTi] at x1 x2 x3 CS
   rw [hTi'] at p1 p2 p3 CS
   replace x0:wr.cell? ⟨b,o + i * 4,none⟩=some (.int .i64 a):=x0
   replace x1:wr.cell? ⟨b,o + i * 4 + 1,none⟩=some (.bool ts):=x1
   replace x2:wr.cell? ⟨b,o + i * 4 + 2,none⟩=some (.slice tx tn tc):=x2
   replace x3:wr.cell? ⟨b,o + i * 4 + 3,none⟩=some (.slice ty tm td):=x3
   replace p0:wr.cell? ⟨b',o' + i * 4,none⟩=some (.int .i64 a'):=p0
   replace p1:wr.cell? ⟨b',o' + i * 4 + 1,none⟩=some (.bool ss):=p1
   replace p2:wr.cell? ⟨b',o' + i * 4 + 2,none⟩=some (.slice sx sn sc):=p2
   replace p3:wr.cell? ⟨b',o' + i * 4 + 3,none⟩=some (.slice sy sm sd):=p3
   replace CS:Hid (∀ W,Below wr.heap.size wr W → Calls Tryz.prog 28 #[.agg #[.bool ts,.slice tx tn tc,.slice ty tm td],.agg #[.bool ss,.slice sx sn sc,.slice sy sm sd]] W fun e w'=>e=.returned (.bool q) ∧ Below W.heap.size W w'):=CS
   have i2:((i:Nat):Int) < ((k:Nat):Int):=by omega
   have HR:=hid hr2
   clear hr hr' hT hr2 hrr hq hca hcb hTi hTi' HI
   go_upto_region 6 with fail
   by_cases haa:a=a'
   ·subst haa
    have hne:(a != a)=false:=by simp
    have HT:=hid (show an=(q && eqf sxB (tex col T) (tex col' T') r (i + 1)) from by rw [hT2];simp)
    clear hT2
    go_region_held3 (fun w'=>w'.cell? ⟨b,o + i * 4,none⟩=some (.int .i64 a) ∧ w'.cell? ⟨b,o + i * 4 + 1,none⟩=some (.bool ts) ∧ w'.cell? ⟨b,o + i * 4 + 2,none⟩=some (.slice tx tn tc) ∧ w'.cell? ⟨b,o + i * 4 + 3,none⟩=some (.slice ty tm td) ∧ w'.cell? ⟨b',o' + i * 4,none⟩=some (.int .i64 a) ∧ w'.cell? ⟨b',o' + i * 4 + 1,none⟩=some (.bool ss) ∧ w'.cell? ⟨b',o' + i * 4 + 2,none⟩=some (.slice sx sn sc) ∧ w'.cell? ⟨b',o' + i * 4 + 3,none⟩=some (.slice sy sm sd))
     (refine ⟨?_,?_,?_,?_,?_,?_,?_,?_⟩ <;> repeat (with_reducible first | assumption | refine kCd ?_ | refine kCb (by assumption) ?_))
     ((go_at_call 28;with_reducible refine (CS.out _ (by repeat (with_reducible first | assumption | exact Below.refl _ _ | refine kBdn ?_ | refine Below.drew ?_))).mono ?_;rintro e w5 ⟨rfl,hb5⟩))
    all_goals
     (have HW5:Hid (Below w.heap.size w w5):=hid (HW.out.trans (Below.mono (show Below wr.heap.size wr w5 by repeat (with_reducible first | assumption | exact Below.refl _ _ | refine kBdn ?_ | refine Below.drew ?_ | refine kBb (by assumption) ?_)) HW.out.size))
      clear x0 x1 x2 x3 p0 p1 p2 p3 CS hb5
      cases q
      ·go_wp2
       go_ret
       exact ⟨by rw [HT.out];rfl,by first | exact HW5.out | exact HW5.out.drew | exact below_drewN HW5.out _⟩
      ·go_wp2
       go_roundw
       case rel=>exact ⟨i + 1,by omega,by go_num,(by first | exact HW5.out | exact HW5.out.drew | exact below_drewN HW5.out _),by show _=_;rw [HT.out,HR.out];rfl⟩
       case measure=>simp [intOf];omega)
   ·have hne:(a != a')=true:=by simpa using haa
    have HF:=hid (show an=false from by rw [hT2];simp [haa])
    clear hT2
    refine wp_region_held_drew (S:=(fun w'=>w'.cell? ⟨b,o + i * 4,none⟩=some (.int .i64 a) ∧ w'.cell? ⟨b',o' + i * 4,none⟩=some (.int .i64 a'))) (by kernel_rfl) ?_ (fun hHeld=>?_)
    ·(refine ⟨?_,?_⟩ <;> repeat (with_reducible first | assumption | refine kCd ?_))
    generalize hwd:wr.drew=wd at *
    refine wpAnyH_take (i:=0) (v:=?_) rfl (by kernel_rfl) (by kernel_rfl) (by kernel_rfl) (fun _ _ _ h=>h) (Or.inl ⟨by rfl,?_⟩) (by assumption) ?_
    rotate_left
    (focus (intro w0 hSw;(try dsimp only at hSw);go_simp <;> with_reducible rfl))
    simp only [List.getElem_toArray,List.getElem_cons_zero,Act.put,List.setIfInBounds_toArray,List.set_cons_zero,List.set_cons_succ]
    refine wpAnyH_take (i:=1) (v:=?_) rfl (by kernel_rfl) (by kernel_rfl) (by kernel_rfl) (fun _ _ _ h=>h) (Or.inl ⟨by rfl,?_⟩) (by assumption) ?_
    rotate_left
    (focus (intro w0 hSw;(try dsimp only at hSw);go_simp <;> with_reducible rfl))
    simp only [List.getElem_toArray,List.getElem_cons_succ,List.getElem_cons_zero,Act.put,List.setIfInBounds_toArray,List.set_cons_zero,List.set_cons_succ]
    refine wpAnyH_take (i:=2) (v:=?_) rfl (by kernel_rfl) (by kernel_rfl) (by kernel_rfl) (fun _ _ _ h=>h) (Or.inl ⟨by rfl,?_⟩) (by assumption) ?_
    rotate_left
    (focus (intro w0 hSw;(try dsimp only at hSw);go_simp <;> with_reducible rfl))
    simp only [List.getElem_toArray,List.getElem_cons_succ,List.getElem_cons_zero,Act.put,List.setIfInBounds_toArray,List.set_cons_zero,List.set_cons_succ]
    refine wpAnyH_take (i:=3) (v:=?_) rfl (by kernel_rfl) (by kernel_rfl) (by kernel_rfl) (fun _ _ _ h=>h) (Or.inl ⟨by rfl,?_⟩) (by assumption) ?_
    rotate_left
    (focus (intro w0 hSw;(try dsimp only at hSw);go_simp <;> with_reducible rfl))
    simp only [List.getElem_toArray,List.getElem_cons_succ,List.getElem_cons_zero,Act.put,List.setIfInBounds_toArray,List.set_cons_zero,List.set_cons_succ]
    refine wpAnyH_take (i:=4) (v:=?_) rfl (by kernel_rfl) (by kernel_rfl) (by kernel_rfl) (fun _ _ _ h=>h) (Or.inl ⟨by rfl,?_⟩) (by assumption) ?_
    rotate_left
    (focus (intro w0 hSw;(try dsimp only at hSw);go_simp <;> with_reducible rfl))
    simp only [List.getElem_toArray,List.getElem_cons_succ,List.getElem_cons_zero,Act.put,List.setIfInBounds_toArray,List.set_cons_zero,List.set_cons_succ]
    refine wpAnyH_take (i:=5) (v:=?_) rfl (by kernel_rfl) (by kernel_rfl) (by kernel_rfl) (fun _ _ _ h=>h) (Or.inl ⟨by rfl,?_⟩) (by assumption) ?_
    rotate_left
    (focus (intro w0 hSw;(try dsimp only at hSw);go_simp <;> with_reducible rfl))
    simp only [List.getElem_toArray,List.getElem_cons_succ,List.getElem_cons_zero,Act.put,List.setIfInBounds_toArray,List.set_cons_zero,List.set_cons_succ]
    refine wpAnyH_take (i:=6) (v:=?_) rfl (by kernel_rfl) (by kernel_rfl) (by kernel_rfl) (fun _ _ _ h=>h) (Or.inl ⟨by rfl,?_⟩) (by assumption) ?_
    rotate_left
    (focus (intro w0 hSw;(try dsimp only at hSw);go_simp <;> with_reducible rfl))
    simp only [List.getElem_toArray,List.getElem_cons_succ,List.getElem_cons_zero,Act.put,List.setIfInBounds_toArray,List.set_cons_zero,List.set_cons_succ]
    refine wpAnyH_take (i:=7) (v:=?_) rfl (by kernel_rfl) (by kernel_rfl) (by kernel_rfl) (fun _ _ _ h=>h) (Or.inl ⟨by rfl,?_⟩) (by assumption) ?_
    rotate_left
    (focus (intro w0 hSw;(try dsimp only at hSw);go_simp <;> with_reducible rfl))
    simp only [List.getElem_toArray,List.getElem_cons_succ,List.getElem_cons_zero,Act.put,List.setIfInBounds_toArray,List.set_cons_zero,List.set_cons_succ]
    refine wpAnyH_take (i:=8) (v:=?_) rfl (by kernel_rfl) (by kernel_rfl) (by kernel_rfl) (fun _ _ _ h=>h) (Or.inl ⟨by rfl,?_⟩) (by assumption) ?_
    rotate_left
    (focus (intro w0 hSw;(try dsimp only at hSw);go_simp <;> with_reducible rfl))
    simp only [List.getElem_toArray,List.getElem_cons_succ,List.getElem_cons_zero,Act.put,List.setIfInBounds_toArray,List.set_cons_zero,List.set_cons_succ]
    refine wpAnyH_take (i:=9) (v:=?_) rfl (by kernel_rfl) (by kernel_rfl) (by kernel_rfl) (fun _ _ _ h=>h) (Or.inl ⟨by rfl,?_⟩) (by assumption) ?_
    rotate_left
    (focus (intro w0 hSw;(try dsimp only at hSw);go_simp <;> with_reducible rfl))
    simp only [List.getElem_toArray,List.getElem_cons_succ,List.getElem_cons_zero,Act.put,List.setIfInBounds_toArray,List.set_cons_zero,List.set_cons_succ]
    refine wpAnyH_take (i:=10) (v:=?_) rfl (by kernel_rfl) (by kernel_rfl) (by kernel_rfl) (fun _ _ _ h=>h) (Or.inl ⟨by rfl,?_⟩) (by assumption) ?_
    rotate_left
    (focus (intro w0 hSw;(try dsimp only at hSw);go_simp <;> with_reducible rfl))
    simp only [List.getElem_toArray,List.getElem_cons_succ,List.getElem_cons_zero,Act.put,List.setIfInBounds_toArray,List.set_cons_zero,List.set_cons_succ]
    refine wpAnyH_take (i:=11) (v:=?_) rfl (by kernel_rfl) (by kernel_rfl) (by kernel_rfl) (fun _ _ _ h=>h) (Or.inl ⟨by rfl,?_⟩) (by assumption) ?_
    rotate_left
    (focus (intro w0 hSw;(try dsimp only at hSw);go_simp <;> with_reducible rfl))
    simp only [List.getElem_toArray,List.getElem_cons_succ,List.getElem_cons_zero,Act.put,List.setIfInBounds_toArray,List.set_cons_zero,List.set_cons_succ]
    refine wpAnyH_take (i:=12) (v:=undef) rfl (by kernel_rfl) (by kernel_rfl) (by kernel_rfl) (fun _ _ _ h=>h) (Or.inr ⟨by rfl,rfl⟩) (by assumption) ?_
    simp only [List.getElem_toArray,List.getElem_cons_succ,List.getElem_cons_zero,Act.put,List.setIfInBounds_toArray,List.set_cons_zero,List.set_cons_succ]
    refine wpAnyH_take (i:=13) (v:=undef) rfl (by kernel_rfl) (by kernel_rfl) (by kernel_rfl) (fun _ _ _ h=>h) (Or.inr ⟨by rfl,rfl⟩) (by assumption) ?_
    simp only [List.getElem_toArray,List.getElem_cons_succ,List.getElem_cons_zero,Act.put,List.setIfInBounds_toArray,List.set_cons_zero,List.set_cons_succ]
    refine wpAnyH_take (i:=14) (v:=undef) rfl (by kernel_rfl) (by kernel_rfl) (by kernel_rfl) (fun _ _ _ h=>h) (Or.inr ⟨by rfl,rfl⟩) (by assumption) ?_
    simp only [List.getElem_toArray,List.getElem_cons_succ,List.getElem_cons_zero,Act.put,List.setIfInBounds_toArray,List.set_cons_zero,List.set_cons_succ]
    refine wpAnyH_take (i:=15) (v:=undef) rfl (by kernel_rfl) (by kernel_rfl) (by kernel_rfl) (fun _ _ _ h=>h) (Or.inr ⟨by rfl,rfl⟩) (by assumption) ?_
    simp only [List.getElem_toArray,List.getElem_cons_succ,List.getElem_cons_zero,Act.put,List.setIfInBounds_toArray,List.set_cons_zero,List.set_cons_succ]
    refine wpAnyH_take (i:=16) (v:=undef) rfl (by kernel_rfl) (by kernel_rfl) (by kernel_rfl) (fun _ _ _ h=>h) (Or.inr ⟨by rfl,rfl⟩) (by assumption) ?_
    simp only [List.getElem_toArray,List.getElem_cons_succ,List.getElem_cons_zero,Act.put,List.setIfInBounds_toArray,List.set_cons_zero,List.set_cons_succ]
    refine wpAnyH_take (i:=17) (v:=undef) rfl (by kernel_rfl) (by kernel_rfl) (by kernel_rfl) (fun _ _ _ h=>h) (Or.inr ⟨by rfl,rfl⟩) (by assumption) ?_
    simp only [List.getElem_toArray,List.getElem_cons_succ,List.getElem_cons_zero,Act.put,List.setIfInBounds_toArray,List.set_cons_zero,List.set_cons_succ]
    refine wpAnyH_take (i:=18) (v:=undef) rfl (by kernel_rfl) (by kernel_rfl) (by kernel_rfl) (fun _ _ _ h=>h) (Or.inr ⟨by rfl,rfl⟩) (by assumption) ?_
    simp only [List.getElem_toArray,List.getElem_cons_succ,List.getElem_cons_zero,Act.put,List.setIfInBounds_toArray,List.set_cons_zero,List.set_cons_succ]
    refine wpAnyH_take (i:=19) (v:=undef) rfl (by kernel_rfl) (by kernel_rfl) (by kernel_rfl) (fun _ _ _ h=>h) (Or.inr ⟨by rfl,rfl⟩) (by assumption) ?_
    simp only [List.getElem_toArray,List.getElem_cons_succ,List.getElem_cons_zero,Act.put,List.setIfInBounds_toArray,List.set_cons_zero,List.set_cons_succ]
    refine wpAnyH_take (i:=20) (v:=undef) rfl (by kernel_rfl) (by kernel_rfl) (by kernel_rfl) (fun _ _ _ h=>h) (Or.inr ⟨by rfl,rfl⟩) (by assumption) ?_
    simp only [List.getElem_toArray,List.getElem_cons_succ,List.getElem_cons_zero,Act.put,List.setIfInBounds_toArray,List.set_cons_zero,List.set_cons_succ]
    refine wpAnyH_take (i:=21) (v:=undef) rfl (by kernel_rfl) (by kernel_rfl) (by kernel_rfl) (fun _ _ _ h=>h) (Or.inr ⟨by rfl,rfl⟩) (by assumption) ?_
    simp only [List.getElem_toArray,List.getElem_cons_succ,List.getElem_cons_zero,Act.put,List.setIfInBounds_toArray,List.set_cons_zero,List.set_cons_succ]
    refine wpAnyH_take (i:=22) (v:=undef) rfl (by kernel_rfl) (by kernel_rfl) (by kernel_rfl) (fun _ _ _ h=>h) (Or.inr ⟨by rfl,rfl⟩) (by assumption) ?_
    simp only [List.getElem_toArray,List.getElem_cons_succ,List.getElem_cons_zero,Act.put,List.setIfInBounds_toArray,List.set_cons_zero,List.set_cons_succ]
    refine wpAnyH_take (i:=23) (v:=undef) rfl (by kernel_rfl) (by kernel_rfl) (by kernel_rfl) (fun _ _ _ h=>h) (Or.inr ⟨by rfl,rfl⟩) (by assumption) ?_
    simp only [List.getElem_toArray,List.getElem_cons_succ,List.getElem_cons_zero,Act.put,List.setIfInBounds_toArray,List.set_cons_zero,List.set_cons_succ]
    refine wpAnyH_take (i:=24) (v:=?_) rfl (by kernel_rfl) (by kernel_rfl) (by kernel_rfl) (fun _ _ _ h=>h) (Or.inl ⟨by rfl,?_⟩) (by assumption) ?_
    rotate_left
    (focus (intro w0 hSw;(try dsimp only at hSw);go_simp <;> with_reducible rfl))
    simp only [List.getElem_toArray,List.getElem_cons_succ,List.getElem_cons_zero,Act.put,List.setIfInBounds_toArray,List.set_cons_zero,List.set_cons_succ]
    refine wpAnyH_done (by kernel_rfl) ?_ _
    subst hwd
    go_wp2
    go_ret
    exact ⟨by rw [HF.out];rfl,HW.out.drew⟩
  ·have e1:i=k:=by omega
   have i2:¬ (((i:Nat):Int) < ((k:Nat):Int)):=by omega
   have HE:=hid (show an=true from by rw [HI.out,e1,Nat.sub_self];rfl)
   clear e1 HI
   go_wp2
   go_ret
   exact ⟨by rw [HE.out];rfl,HW.out⟩
def Tvm (L:Nat) (w:World) (l:List (Int × Nm)) (vs:List (Int × Rat)):Prop:=l.length=vs.length ∧ ∀ (j:Nat) (a:Int) (q:Rat),vs[j]?=some (a,q) → ∃ t:Nm,l[j]?=some (a,t) ∧ NmV L w t q
theorem Tvm.nil {L w}:Tvm L w [] []:=⟨rfl,fun j a q hj=>by simp at hj⟩
theorem Tvm.one {L w a t q} (h : NmV L w t q) : Tvm L w [(a, t)] [(a, q)] := ⟨rfl, fun j b p hj => by
  match j, hj with
  | 0, hj => obtain ⟨rfl, rfl⟩ : a = b ∧ q = p := by simpa using hj
             exact ⟨t, rfl, h⟩
  | j + 1, hj => simp at hj⟩
theorem Tvm.app {L w l vs l' vs'} (h:Tvm L w l vs) (h':Tvm L w l' vs'):Tvm L w (l ++ l') (vs ++ vs'):=by
 refine ⟨by simp [h.1,h'.1],fun j a q hj=>?_⟩
 by_cases hlt:j < vs.length
 ·rw [List.getElem?_append_left hlt] at hj
  obtain ⟨t,h1,h2⟩:=h.2 j a q hj
  exact ⟨t,by rw [List.getElem?_append_left (by rw [h.1];exact hlt)];exact h1,h2⟩
 ·rw [List.getElem?_append_right (by omega)] at hj
  obtain ⟨t,h1,h2⟩:=h'.2 _ a q hj
  exact ⟨t,by rw [List.getElem?_append_right (by rw [h.1];omega),h.1];exact h1,h2⟩
theorem ts_rise {n : Nat} : ∀ {ts : List (Int × Rat)} {last : Int}, tsB n last ts = true → (∀ (k : Nat) (b : Int) (q : Rat), ts[k]? = some (b, q) → last < b ∧ q ≠ 0) ∧ ∀ (j k : Nat) (a b : Int) (p q : Rat), j < k → ts[j]? = some (a, p) → ts[k]? = some (b, q) → a < b
  | [], last, _ => ⟨fun k b q h => by simp at h, fun j k a b p q _ h => by simp at h⟩
  | (z, r) :: ts, last, h => by
    simp only [tsB, Bool.and_eq_true, decide_eq_true_eq] at h
    obtain ⟨h1, _, h3, h4⟩ := h
    obtain ⟨i1, i2⟩ := ts_rise h4
    constructor
    · intro k b q hk
      cases k with
      | zero => obtain ⟨rfl, rfl⟩ : z = b ∧ r = q := by simpa using hk
                exact ⟨h1, h3⟩
      | succ k => have hk' : ts[k]? = some (b, q) := by simpa using hk
                  have := i1 k b q hk'
                  exact ⟨by omega, this.2⟩
    · intro j k a b p q hjk hj hk
      cases k with
      | zero => omega
      | succ k =>
        have hk' : ts[k]? = some (b, q) := by simpa using hk
        cases j with
        | zero => obtain ⟨rfl, rfl⟩ : z = a ∧ r = p := by simpa using hj
                  exact (i1 k b q hk').1
        | succ j => exact i2 j k a b p q (by omega) (by simpa using hj) hk'
theorem atq_none {z:Int}:∀ {u:List (Int × Rat)},(∀ (k:Nat) (b:Int) (r:Rat),u[k]?=some (b,r) → b ≠ z) → atq z u=0
 | [],_=>rfl
 | (a,q) :: u,h=>by
  show (if a=z then q else atq z u)=0
  rw [if_neg (h 0 a q rfl)]
  exact atq_none (fun k b r hk=>h (k + 1) b r (by simpa using hk))
theorem ent_tvm {L w} {n:Nat} {col:Nat → Int} {T:Nat → Nm} {j i:Nat} {ts:List (Int × Rat)} (hs:tsB n (-1) ts=true) (hv:∀ p z q,ts[p]?=some (z,q) → col p=z ∧ NmV L w (T p) q):∀ {p:Nat},p ≤ ts.length → Tvm L w (ent col T j i p) (nz (i:Int) (atq (j:Int) (ts.take p)))
 | 0,_=>by simp [ent,atq,nz];exact Tvm.nil
 | p + 1,hp=>by
  obtain ⟨r1,r2⟩:=ts_rise hs
  have ih:=ent_tvm hs hv (j:=j) (i:=i) (p:=p) (by omega)
  obtain ⟨⟨z,q⟩,hz⟩:∃ x,ts[p]?=some x:=⟨_,List.getElem?_eq_getElem (by omega)⟩
  obtain ⟨hc,hn⟩:=hv p z q hz
  have hq:=(r1 p z q hz).2
  have hne:∀ (k:Nat) (b:Int) (r:Rat),(ts.take p)[k]?=some (b,r) → b ≠ z:=fun k b r hk=>by
   have hkp:k < p:=by
    have h1:=(List.getElem?_eq_some_iff.1 hk).1
    rw [List.length_take] at h1;omega
   rw [List.getElem?_take_of_lt hkp] at hk
   have:=r2 k p b z r q hkp hk hz
   omega
  rw [List.take_add_one,hz]
  show Tvm L w (ent col T j i (p + 1)) (nz (i:Int) (atq (j:Int) (ts.take p ++ [(z,q)])))
  rw [atq_snoc hne]
  by_cases e:(j:Int)=z
  ·rw [if_pos e,ent_yes (by rw [hc,e])]
   have h0:atq (j:Int) (ts.take p)=0:=atq_none (fun k b r hk h=>hne k b r hk (h.trans e))
   rw [h0] at ih
   have e1:ent col T j i p=[]:=by
    have:=ih.1
    simp [nz] at this
    exact this
   rw [e1]
   unfold nz
   rw [if_neg hq]
   exact Tvm.one hn
  ·rw [if_neg e,ent_no (by rw [hc];exact fun h=>e h.symm)]
   exact ih
theorem cent_tvm {L w} {n j:Nat} {cl:Nat → Nat → Int} {tk:Nat → Nat} {T:Nat → Nat → Nm} {rs:List RV} (h:∀ (i:Nat) (v:RV),rs[i]?=some v → tsB n (-1) v.ts=true ∧ tk i=v.ts.length ∧ ∀ p z q,v.ts[p]?=some (z,q) → cl i p=z ∧ NmV L w (T i p) q):∀ {i:Nat},i ≤ rs.length → Tvm L w (cent cl tk T j i) (clq rs (j:Int) i)
 | 0,_=>Tvm.nil
 | i + 1,hi=>by
  obtain ⟨v,hv⟩:∃ x,rs[i]?=some x:=⟨_,List.getElem?_eq_getElem (by omega)⟩
  obtain ⟨h1,h2,h3⟩:=h i v hv
  have:=ent_tvm (j:=j) (i:=i) h1 h3 (p:=v.ts.length) (Nat.le_refl _)
  rw [List.take_length] at this
  show Tvm L w (cent cl tk T j i ++ ent (cl i) (T i) j i (tk i)) (clq rs (j:Int) i ++ nz (i:Int) ((rs[i]?.map (fun v=>atq (j:Int) v.ts)).getD 0))
  rw [hv,h2]
  exact (cent_tvm h (i:=i) (by omega)).app this
theorem tvm_tf {L:Nat} {base:Nat} {w:World} {ao:Option Addr} {cap:Nat} {l:List (Int × Nm)} {vs:List (Int × Rat)} (h:Tvm L w l vs) (hr:RowG 62 4 base w (.slice ao l.length cap) l.length (tcells l)):Tf L w ao vs:=fun j a q hj=>by
 obtain ⟨t,h1,h2⟩:=h.2 j a q hj
 have hlt:j < l.length:=(List.getElem?_eq_some_iff.1 h1).1
 rcases hr.2 with ⟨hv,h0⟩ | ⟨g,cap',cur,hv,_⟩
 ·omega
 ·cases hv
  have hc:∀ i,i < 4 → w.cell? ⟨g,0 + j * 4 + i,none⟩=(tcell a t)[i]?:=fun i hi=>by
   rw [Nat.zero_add]
   have e1:=tcells_get h1 i hi
   obtain ⟨u,hu⟩:∃ u,(tcell a t)[i]?=some u:=⟨_,List.getElem?_eq_getElem (by show i < 4;exact hi)⟩
   rw [hu] at e1 ⊢
   exact hr.cells e1
  exact ⟨g,0,t,rfl,⟨hc 0 (by decide),hc 1 (by decide),hc 2 (by decide),hc 3 (by decide)⟩,h2⟩
theorem checkZ_c {w:World}:Calls Tryz.prog 14 #[.agg #[.bool false,.slice none 0 0,.slice none 0 0,.slice none 0 0,.slice none 0 0]] w fun e w'=>e=.returned (.int .i64 3) ∧ Below w.heap.size w w':=by
 have h:MoR w ⟨⟨false,none,0,0,fun _=>0,none,0,0,fun _=>0⟩,none,0,0,fun _=>⟨ByteArray.empty,⟨false,none,0,0,fun _=>0,none,0,0,fun _=>0⟩,⟨0,⟨false,none,0,0,fun _=>0,none,0,0,fun _=>0⟩⟩,⟨0,⟨false,none,0,0,fun _=>0,none,0,0,fun _=>0⟩⟩⟩,none,0,0,fun _=>⟨ByteArray.empty,⟨0,⟨false,none,0,0,fun _=>0,none,0,0,fun _=>0⟩⟩,⟨0,⟨false,none,0,0,fun _=>0,none,0,0,fun _=>0⟩⟩,none,0,0,fun _=>0,fun _=>⟨false,none,0,0,fun _=>0,none,0,0,fun _=>0⟩⟩⟩:=⟨⟨⟨fun j hj=>absurd hj (Nat.not_lt_zero _),fun j hj=>absurd hj (Nat.not_lt_zero _),⟨Nat.le_refl _,Nat.zero_le _⟩,fun _=>⟨rfl,rfl⟩,fun j hj=>absurd hj (Nat.not_lt_zero _),fun j hj=>absurd hj (Nat.not_lt_zero _),⟨Nat.le_refl _,Nat.zero_le _⟩,fun _=>⟨rfl,rfl⟩⟩,Nat.zero_le _,Nat.zero_le _⟩,fun j hj=>absurd hj (Nat.not_lt_zero _),fun j hj=>absurd hj (Nat.not_lt_zero _),Nat.zero_le _,Nat.zero_le _⟩
 exact check_c h
theorem Co.two {base w g V E X} (h:Co base w g 2 V E X) (he:(E 1).map Prod.fst=[0,1]):∃ g' cap,V 1=.slice (some ⟨g',0,none⟩) 2 cap ∧ w.cell? ⟨g',4,none⟩=some (.int .i64 1) ∧ w.cell? ⟨g,1,none⟩=some (.slice (some ⟨g',0,none⟩) 2 cap):=by
 have h1:=h.row 1 (by decide)
 have h2:=h.cell (j:=1) (by decide)
 match hE:E 1,he with
 | [(a0,t0),(a1,t1)],he =>
  simp at he
  obtain ⟨rfl,rfl⟩:=he
  rw [hE] at h1
  rcases h1.2 with ⟨_,h0⟩ | ⟨g',cap,cur,hv,_⟩
  ·simp at h0
  ·rw [hv] at h1 h2 ⊢
   exact ⟨g',cap,rfl,h1.cells (j:=4) rfl,h2⟩
set_option maxRecDepth 100000 in
set_option maxHeartbeats 8000000 in
theorem awake7_c {w:World}:Calls Tryz.prog 9 #[] w fun e w'=>e=.returned (.bool true) ∧ Below w.heap.size w w':=by
 have hok:mvOk smC smR=true:=by kernel_rfl
 have hts:∀ v,v ∈ smR → v.ts.length ≤ 1000:=by intro v hv;simp [smR] at hv;rcases hv with rfl | rfl <;> simp
 have hcr:(crl (cvC smC) smC.length).length=1 ∧ (crl (cvR smR) smR.length).length=0:=by constructor <;> kernel_rfl
 have hrw:plc (idx (nmR smR) ⟨#[115]⟩ smR.length 0)=(1,0):=by kernel_rfl
 have hrv:rvC smR 1 2=[0,1]:=by kernel_rfl
 go_enter Tryz.func9,Tryz.ntmps9
 go_wp2_with fail
 refine small7_c.mono ?_
 rintro e w1 ⟨M,rfl,hb1,hM⟩
 have HB1:=hid hb1
 obtain ⟨k0,hR⟩:=hM.chk (by decide) hok
 have CC:=hid (columns_c (w:=w1) (M:=M) (fun _ _=>hR) (fun _ _=>hM.mot (by decide) hts))
 have h2:M.ck=2:=hM.ck
 have h3:M.rk=2:=hM.rk
 have HE:=hid (fun T=>(hM.cent (T:=T) (j:=1) (i:=2) (by rw [h3];exact Nat.le_refl _)).trans hrv)
 unfold CoAns at CC
 rw [h2,h3] at CC
 obtain ⟨⟨s1,x1,n1,c1,f1,y1,m1,d1,g1⟩,ca1,ck1,cc1,C1,ra1,rk1,rc1,R1⟩:=M
 replace CC:Hid (Calls Tryz.prog 17 #[.agg #[.bool s1,.slice x1 n1 c1,.slice y1 m1 d1,.slice ca1 ck1 cc1,.slice ra1 rk1 rc1]] w1 fun e w'=>(chkE ⟨⟨s1,x1,n1,c1,f1,y1,m1,d1,g1⟩,ca1,ck1,cc1,C1,ra1,rk1,rc1,R1⟩ ≠ 0 ∧ e=.returned (.tuple #[.slice none 0 0,.int .i64 (chkE ⟨⟨s1,x1,n1,c1,f1,y1,m1,d1,g1⟩,ca1,ck1,cc1,C1,ra1,rk1,rc1,R1⟩)]) ∧ Below w1.heap.size w1 w') ∨ (chkE ⟨⟨s1,x1,n1,c1,f1,y1,m1,d1,g1⟩,ca1,ck1,cc1,C1,ra1,rk1,rc1,R1⟩=0 ∧ ∃ g T' V,e=.returned (.tuple #[.slice (some ⟨g,0,none⟩) 2 2,.int .i64 0]) ∧ Below w1.heap.size w1 w' ∧ Co w1.heap.size w' g 2 V (fun j=>cent (fun i=>(R1 i).col) (fun i=>(R1 i).tk) T' j 2) (fun _=>False) ∧ ∀ i,i < 2 → ∀ p,p < (R1 i).tk → Sn ((R1 i).T p) (T' i p) ∧ Rw w' (T' i p).x (T' i p).n (T' i p).c (T' i p).f (T' i p).y (T' i p).m (T' i p).d (T' i p).g)):=CC
 replace HE:Hid (∀ T,(cent (fun i=>(R1 i).col) (fun i=>(R1 i).tk) T 1 2).map Prod.fst=[0,1]):=HE
 have HK0:=hid k0
 clear hb1 hM hR h2 h3 k0 hrv
 go_wp2_with fail
 refine CC.out.mono ?_
 rintro e w2 (⟨hne,_⟩ | ⟨_,g,T',V,rfl,hb2,hco,_⟩)
 ·exact absurd HK0.out hne
 obtain ⟨gi,ci,_,q1,q2⟩:=hco.two (HE.out T')
 have HB2:=hid (HB1.out.trans (hb2.mono HB1.out.size))
 clear HB1 hb2 hco CC HK0 HE
 go_wp2_with fail
 refine small7_c.mono ?_
 rintro e w3 ⟨M,rfl,hb3,hM⟩
 replace q1:=kCb hb3 q1;replace q2:=kCb hb3 q2
 have HB3:=hid (HB2.out.trans (hb3.mono HB2.out.size))
 obtain ⟨k0,hR⟩:=hM.chk (by decide) hok
 have CC:=hid (crossed_c (w:=w3) (M:=M) (fun _ _=>hR) (fun _ _=>hM.mob (by decide)))
 unfold CrAns at CC
 rw [hM.crl.1,hM.crl.2,hcr.1,hcr.2] at CC
 have HK0:=hid k0
 clear hb3 hM hR HB2 hcr k0
 go_wp2_with fail
 refine CC.out.mono ?_
 rintro e w4 (⟨hne,_⟩ | ⟨_,xa,xc,ya,yc,rfl,hb4,_,_⟩)
 ·exact absurd HK0.out hne
 replace q1:=kCb hb4 q1;replace q2:=kCb hb4 q2
 have HB4:=hid (HB3.out.trans (hb4.mono HB3.out.size))
 clear HB3 hb4 CC HK0
 go_wp2_with fail
 refine small7_c.mono ?_
 rintro e w5 ⟨M5,rfl,hb5,hM⟩
 replace q1:=kCb hb5 q1;replace q2:=kCb hb5 q2
 have HB5:=hid (HB4.out.trans (hb5.mono HB4.out.size))
 obtain ⟨k0,hR⟩:=hM.chk (by decide) hok
 have CC:=hid (mRow_c (w:=w5) (M:=M5) (z:=⟨#[115]⟩) (fun _ _=>hR))
 rw [hM.row k0,hrw] at CC
 clear hb5 hM hR HB4 k0 hrw
 go_wp2_with fail
 refine CC.out.mono ?_
 rintro e w6 ⟨rfl,hb6⟩
 replace q1:=kCb hb6 q1;replace q2:=kCb hb6 q2
 have HB6:=hid (HB5.out.trans (hb6.mono HB5.out.size))
 clear HB5 hb6 CC
 go_wp2_with fail
 refine small7_c.mono ?_
 rintro e w7 ⟨M7,rfl,hb7,hM7⟩
 replace q1:=kCb hb7 q1;replace q2:=kCb hb7 q2
 have HB7:=hid (HB6.out.trans (hb7.mono HB6.out.size))
 have HM7:=hid hM7
 clear HB6 hb7 hM7
 go_wp2_with fail
 refine small7_c.mono ?_
 rintro e w8 ⟨M8,rfl,hb8,hM8⟩
 replace q1:=kCb hb8 q1;replace q2:=kCb hb8 q2
 have HB8:=hid (HB7.out.trans (hb8.mono HB7.out.size))
 have hM7:=HM7.out.below hb8
 obtain ⟨k7,hR7⟩:=hM7.chk (by decide) hok
 obtain ⟨k8,hR8⟩:=hM8.chk (by decide) hok
 have CC:=hid (equal_c (w:=w8) (a:=M7) (b:=M8) (fun _ _=>hR7) (fun _ _=>hR8))
 rw [hM7.eqA hM8 k7 k8] at CC
 clear HB7 hb8 hM7 hM8 k7 k8 hR7 hR8 HM7
 go_wp2_with fail
 refine CC.out.mono ?_
 rintro e w9 ⟨rfl,hb9⟩
 replace q1:=kCb hb9 q1;replace q2:=kCb hb9 q2
 have HB9:=hid (HB8.out.trans (hb9.mono HB8.out.size))
 clear HB8 hb9 CC hok hts
 go_wp2_with fail
 refine checkZ_c.mono ?_
 rintro e w10 ⟨rfl,hb10⟩
 have HB10:=hid (HB9.out.trans (hb10.mono HB9.out.size))
 clear hb10 HB9 q1 q2
 go_wp2
 go_ret
 exact ⟨rfl,HB10.out⟩
theorem twin_w {w:World} {M:Mo} {K:Nat} (hX:MoX w M) (hN:MoN M) (hk:M.ck ≤ 64 → M.rk ≤ 64 → MoK K M) (hK:K ≤ 65536):Calls Tryz.prog 12 #[M.val] w fun e w'=>∃ M':Mo,e=.returned M'.val ∧ Below w.heap.size w w' ∧ Sm M M' ∧ MoW w' M' ∧ MoX w' M' ∧ (M'.ck ≤ 64 → M'.rk ≤ 64 → MoK K M') :=
 (mTwin_c hX).mono fun e w' ⟨M',h1,h2,h3,h4⟩=>⟨M',h1,h2,h3,fun a b=>h4.mor (h3.mon hN) (h3.mok (hk (by rw [← h3.ck];exact a) (by rw [← h3.rk];exact b))) hK a b,h4,fun a b=>h3.mok (hk (by rw [← h3.ck];exact a) (by rw [← h3.rk];exact b))⟩
theorem lgM_k {K:Nat} {M:Mo} (h:lgM K M=true):M.ck ≤ 64 → M.rk ≤ 64 → MoK K M:=fun a b=>lgM_at h a b
theorem MoX.both {w M K} (h:MoX w M) (hn:MoN M) (hk:M.ck ≤ 64 → M.rk ≤ 64 → MoK K M) (hK:K ≤ 1000):M.ck ≤ 64 → M.rk ≤ 64 → MoR w M ∧ MoS M:=fun a b=>⟨h.mor hn (hk a b) (Nat.le_trans hK (by decide)) a b,(hk a b).mos hK⟩
def smB (a b:Mo):Bool:=sqB a.off b.off && (eqfB scB a.ck b.ck a.C b.C && eqfB srB a.rk b.rk a.R b.R)
set_option maxRecDepth 100000 in
set_option maxHeartbeats 8000000 in
theorem mSame_c {w:World} {a b:Mo} (ha:MoR w a) (hb:MoR w b):Calls Tryz.prog 21 #[a.val,b.val] w fun r w'=>r=.returned (.bool (smB a b)) ∧ Below w.heap.size w w':=by
 have CO:=hid (fun w' (hw:Below w.heap.size w w')=>qSame_x (w:=w') (ha.off.below hw) (hb.off.below hw))
 obtain ⟨tO,hto⟩:∃ t,sqB a.off b.off=t:=⟨_,rfl⟩
 rw [hto] at CO
 obtain ⟨an,han⟩:∃ t,smB a b=t:=⟨_,rfl⟩
 rw [han]
 have HA:=hid (show an=(tO && (eqfB scB a.ck b.ck a.C b.C && eqfB srB a.rk b.rk a.R b.R)) from by rw [← han,smB,hto])
 obtain ⟨_,hC,hR,hck,hrk⟩:=ha
 obtain ⟨_,hC',hR',hck',hrk'⟩:=hb
 clear han hto
 obtain ⟨⟨s,x,n,c,f,y,m,d,g⟩,ca,ck,cc,C,ra,rk,rc,R⟩:=a
 obtain ⟨⟨vs,vx,vn,vc,vf,vy,vm,vd,vg⟩,vca,vck,vcc,vC,vra,vrk,vrc,vR⟩:=b
 replace hck:ck ≤ 1048576:=hck
 replace hrk:rk ≤ 1048576:=hrk
 replace hck':vck ≤ 1048576:=hck'
 replace hrk':vrk ≤ 1048576:=hrk'
 have HC:Hid (Cls w ca ck C):=hC
 have HR:Hid (Rls w ra rk R):=hR
 have HC':Hid (Cls w vca vck vC):=hC'
 have HR':Hid (Rls w vra vrk vR):=hR'
 replace HA:Hid (an=(tO && (eqfB scB ck vck C vC && eqfB srB rk vrk R vR))):=HA
 replace CO:Hid (∀ w' (hw:Below w.heap.size w w'),Calls Tryz.prog 28 #[.agg #[.bool s,.slice x n c,.slice y m d],.agg #[.bool vs,.slice vx vn vc,.slice vy vm vd]] w' fun r w2=>r=.returned (.bool tO) ∧ Below w'.heap.size w' w2):=CO
 clear hC hR hC' hR'
 show Calls Tryz.prog 21 #[.agg #[.bool s,.slice x n c,.slice y m d,.slice ca ck cc,.slice ra rk rc],.agg #[.bool vs,.slice vx vn vc,.slice vy vm vd,.slice vca vck vcc,.slice vra vrk vrc]] w _
 have h3:=below_alloc (below_alloc (Below.refl w.heap.size w) (.cells #[.bool s,.slice x n c,.slice y m d,.slice ca ck cc,.slice ra rk rc] 28)) (.cells #[.bool vs,.slice vx vn vc,.slice vy vm vd,.slice vca vck vcc,.slice vra vrk vrc] 28)
 have B1:=(bk_new w [.bool s,.slice x n c,.slice y m d,.slice ca ck cc,.slice ra rk rc] 28).below (below_alloc (Below.refl _ _) (.cells #[.bool vs,.slice vx vn vc,.slice vy vm vd,.slice vca vck vcc,.slice vra vrk vrc] 28))
 have B2:=bk_new (w.alloc (.cells #[.bool s,.slice x n c,.slice y m d,.slice ca ck cc,.slice ra rk rc] 28)) [.bool vs,.slice vx vn vc,.slice vy vm vd,.slice vca vck vcc,.slice vra vrk vrc] 28
 rw [size_alloc1] at B2
 replace B1:Bk ((w.alloc (.cells #[.bool s,.slice x n c,.slice y m d,.slice ca ck cc,.slice ra rk rc] 28)).alloc (.cells #[.bool vs,.slice vx vn vc,.slice vy vm vd,.slice vca vck vcc,.slice vra vrk vrc] 28)) w.heap.size [.bool s,.slice x n c,.slice y m d,.slice ca ck cc,.slice ra rk rc] 28:=B1
 replace B2:Bk ((w.alloc (.cells #[.bool s,.slice x n c,.slice y m d,.slice ca ck cc,.slice ra rk rc] 28)).alloc (.cells #[.bool vs,.slice vx vn vc,.slice vy vm vd,.slice vca vck vcc,.slice vra vrk vrc] 28)) (w.heap.size + 1) [.bool vs,.slice vx vn vc,.slice vy vm vd,.slice vca vck vcc,.slice vra vrk vrc] 28:=B2
 go_enter Tryz.func21,Tryz.ntmps21
 go_upto_region 1 with fail
 generalize (w.alloc (.cells #[.bool s,.slice x n c,.slice y m d,.slice ca ck cc,.slice ra rk rc] 28)).alloc (.cells #[.bool vs,.slice vx vn vc,.slice vy vm vd,.slice vca vck vcc,.slice vra vrk vrc] 28)=w1 at *
 have r0:=B1.cell (j:=0) rfl
 have r1:=B1.cell (j:=1) rfl
 have r2:=B1.cell (j:=2) rfl
 have r3:=B1.cell (j:=3) rfl
 have r4:=B1.cell (j:=4) rfl
 have q0:=B2.cell (j:=0) rfl
 have q1:=B2.cell (j:=1) rfl
 have q2:=B2.cell (j:=2) rfl
 have q3:=B2.cell (j:=3) rfl
 have q4:=B2.cell (j:=4) rfl
 go_wp2_with fail
 refine (CO.out _ h3).mono ?_
 rintro e w2 ⟨rfl,hb2⟩
 have HW:=hid (h3.trans (hb2.mono h3.size))
 replace B1:=B1.below hb2;replace B2:=B2.below hb2
 clear hb2 h3 CO r0 r1 r2 r3 r4 q0 q1 q2 q3 q4
 cases tO
 ·have HF:=hid (show an=false from by rw [HA.out];rfl)
  clear HA
  go_wp2
  go_ret
  exact ⟨by rw [HF.out];rfl,HW.out⟩
 have r0:=B1.cell (j:=0) rfl
 have r1:=B1.cell (j:=1) rfl
 have r2:=B1.cell (j:=2) rfl
 have r3:=B1.cell (j:=3) rfl
 have r4:=B1.cell (j:=4) rfl
 have q0:=B2.cell (j:=0) rfl
 have q1:=B2.cell (j:=1) rfl
 have q2:=B2.cell (j:=2) rfl
 have q3:=B2.cell (j:=3) rfl
 have q4:=B2.cell (j:=4) rfl
 by_cases h1:ck=vck
 case neg =>
  have HF:=hid (show an=false from by rw [HA.out,eqfB];simp [h1])
  have e1:((ck:Int) != (vck:Int))=true:=by simp;omega
  clear HA
  go_wp2
  go_ret
  exact ⟨by rw [HF.out];rfl,HW.out⟩
 subst h1
 have e1:((ck:Int) != (ck:Int))=false:=by simp
 by_cases h2:rk=vrk
 case neg =>
  have HF:=hid (show an=false from by rw [HA.out];simp [eqfB,h2])
  have e2:((rk:Int) != (vrk:Int))=true:=by simp;omega
  clear HA
  go_wp2
  go_ret
  exact ⟨by rw [HF.out];rfl,HW.out⟩
 subst h2
 have e2:((rk:Int) != (rk:Int))=false:=by simp
 replace HA:=hid (show an=(eqf scB C vC ck 0 && eqf srB R vR rk 0) from by rw [HA.out];simp [eqfB])
 go_wp2_with fail
 go_loopw [38] (fun t wr=>∃ (i:Nat),i ≤ ck ∧ t=.int .i64 i ∧ Hid (Below w2.heap.size w2 wr) ∧ Hid (an=(eqf scB C vC (ck - i) i && eqf srB R vR rk 0))) (fun t _=>ck - (intOf t).toNat)
 case atStart=>exact ⟨0,by omega,rfl,Below.refl _ _,HA.out⟩
 case round =>
  obtain ⟨i,hi,rfl,HB,HI⟩:=hrel
  clear HA r0 r1 r2 r3 r4 q0 q1 q2 q3 q4
  by_cases hlt:i < ck
  ·obtain ⟨b,o,rfl,hc,hn⟩:=(HC.out.below (HW.out.trans (HB.out.mono HW.out.size))) i hlt
   obtain ⟨b',o',rfl,hc',hn'⟩:=(HC'.out.below (HW.out.trans (HB.out.mono HW.out.size))) i hlt
   obtain ⟨r,hr⟩:∃ r,ck - i=r + 1:=⟨ck - i - 1,by omega⟩
   have hr2:ck - (i + 1)=r:=by omega
   obtain ⟨t0,ht0⟩:∃ t,sqB (C i).cost (vC i).cost=t:=⟨_,rfl⟩
   have C0:=hid (fun W (hW:Below wr.heap.size wr W)=>qSame_x (w:=W) (hn.cost.below hW) (hn'.cost.below hW))
   rw [ht0] at C0
   obtain ⟨t1,ht1⟩:∃ t,sxB (C i).lo (vC i).lo=t:=⟨_,rfl⟩
   have C1:=hid (fun W (hW:Below wr.heap.size wr W)=>xSame_x (w:=W) (hn.lo.below hW) (hn'.lo.below hW))
   rw [ht1] at C1
   obtain ⟨t2,ht2⟩:∃ t,sxB (C i).hi (vC i).hi=t:=⟨_,rfl⟩
   have C2:=hid (fun W (hW:Below wr.heap.size wr W)=>xSame_x (w:=W) (hn.hi.below hW) (hn'.hi.below hW))
   rw [ht2] at C2
   have hT:an=((decide ((C i).nm=(vC i).nm) && (t0 && (t1 && t2))) && eqf scB C vC r (i + 1) && eqf srB R vR rk 0):=by
    rw [HI.out,hr,← ht0,← ht1,← ht2];rfl
   obtain ⟨⟨z,⟨s0,x0,n0,c0,f0,y0,m0,d0,g0⟩,⟨i1,⟨s1,x1,n1,c1,f1,y1,m1,d1,g1⟩⟩,⟨i2,⟨s2,x2,n2,c2,f2,y2,m2,d2,g2⟩⟩⟩,hCi⟩:∃ t,C i=t:=⟨_,rfl⟩
   obtain ⟨⟨vz,⟨vs0,vx0,vn0,vc0,vf0,vy0,vm0,vd0,vg0⟩,⟨vi1,⟨vs1,vx1,vn1,vc1,vf1,vy1,vm1,vd1,vg1⟩⟩,⟨vi2,⟨vs2,vx2,vn2,vc2,vf2,vy2,vm2,vd2,vg2⟩⟩⟩,hCi'⟩:∃ t,vC i=t:=⟨_,rfl⟩
   rw [hCi] at hc hT C0 C1 C2
   rw [hCi'] at hc' hT C0 C1 C2
   replace hT:an=((decide (z=vz) && (t0 && (t1 && t2))) && eqf scB C vC r (i + 1) && eqf srB R vR rk 0):=hT
   replace C0:Hid (∀ W (hW:Below wr.heap.size wr W),Calls Tryz.prog 28 #[.agg #[.bool s0,.slice x0 n0 c0,.slice y0 m0 d0],.agg #[.bool vs0,.slice vx0 vn0 vc0,.slice vy0 vm0 vd0]] W fun r w2=>r=.returned (.bool t0) ∧ Below W.heap.size W w2):=C0
   replace C1:Hid (∀ W (hW:Below wr.heap.size wr W),Calls Tryz.prog 56 #[.agg #[.int .i64 i1,.bool s1,.slice x1 n1 c1,.slice y1 m1 d1],.agg #[.int .i64 vi1,.bool vs1,.slice vx1 vn1 vc1,.slice vy1 vm1 vd1]] W fun r w2=>r=.returned (.bool t1) ∧ Below W.heap.size W w2):=C1
   replace C2:Hid (∀ W (hW:Below wr.heap.size wr W),Calls Tryz.prog 56 #[.agg #[.int .i64 i2,.bool s2,.slice x2 n2 c2,.slice y2 m2 d2],.agg #[.int .i64 vi2,.bool vs2,.slice vx2 vn2 vc2,.slice vy2 vm2 vd2]] W fun r w2=>r=.returned (.bool t2) ∧ Below W.heap.size W w2):=C2
   have p0:wr.cell? ⟨b,o + i * 12,none⟩=some (.string z):=hc 0 _ rfl
   have p1:wr.cell? ⟨b,o + i * 12 + 1,none⟩=some (.bool s0):=hc 1 _ rfl
   have p2:wr.cell? ⟨b,o + i * 12 + 2,none⟩=some (.slice x0 n0 c0):=hc 2 _ rfl
   have p3:wr.cell? ⟨b,o + i * 12 + 3,none⟩=some (.slice y0 m0 d0):=hc 3 _ rfl
   have p4:wr.cell? ⟨b,o + i * 12 + 4,none⟩=some (.int .i64 i1):=hc 4 _ rfl
   have p5:wr.cell? ⟨b,o + i * 12 + 5,none⟩=some (.bool s1):=hc 5 _ rfl
   have p6:wr.cell? ⟨b,o + i * 12 + 6,none⟩=some (.slice x1 n1 c1):=hc 6 _ rfl
   have p7:wr.cell? ⟨b,o + i * 12 + 7,none⟩=some (.slice y1 m1 d1):=hc 7 _ rfl
   have p8:wr.cell? ⟨b,o + i * 12 + 8,none⟩=some (.int .i64 i2):=hc 8 _ rfl
   have p9:wr.cell? ⟨b,o + i * 12 + 9,none⟩=some (.bool s2):=hc 9 _ rfl
   have p10:wr.cell? ⟨b,o + i * 12 + 10,none⟩=some (.slice x2 n2 c2):=hc 10 _ rfl
   have p11:wr.cell? ⟨b,o + i * 12 + 11,none⟩=some (.slice y2 m2 d2):=hc 11 _ rfl
   have u0':wr.cell? ⟨b',o' + i * 12,none⟩=some (.string vz):=hc' 0 _ rfl
   have u1':wr.cell? ⟨b',o' + i * 12 + 1,none⟩=some (.bool vs0):=hc' 1 _ rfl
   have u2':wr.cell? ⟨b',o' + i * 12 + 2,none⟩=some (.slice vx0 vn0 vc0):=hc' 2 _ rfl
   have u3':wr.cell? ⟨b',o' + i * 12 + 3,none⟩=some (.slice vy0 vm0 vd0):=hc' 3 _ rfl
   have u4':wr.cell? ⟨b',o' + i * 12 + 4,none⟩=some (.int .i64 vi1):=hc' 4 _ rfl
   have u5':wr.cell? ⟨b',o' + i * 12 + 5,none⟩=some (.bool vs1):=hc' 5 _ rfl
   have u6':wr.cell? ⟨b',o' + i * 12 + 6,none⟩=some (.slice vx1 vn1 vc1):=hc' 6 _ rfl
   have u7':wr.cell? ⟨b',o' + i * 12 + 7,none⟩=some (.slice vy1 vm1 vd1):=hc' 7 _ rfl
   have u8':wr.cell? ⟨b',o' + i * 12 + 8,none⟩=some (.int .i64 vi2):=hc' 8 _ rfl
   have u9':wr.cell? ⟨b',o' + i * 12 + 9,none⟩=some (.bool vs2):=hc' 9 _ rfl
   have u10':wr.cell? ⟨b',o' + i * 12 + 10,none⟩=some (.slice vx2 vn2 vc2):=hc' 10 _ rfl
   have u11':wr.cell? ⟨b',o' + i * 12 + 11,none⟩=some (.slice vy2 vm2 vd2):=hc' 11 _ rfl
   have k9:=(B2.below HB.out).cell (j:=3) rfl
   have hkl:=(B2.below HB.out).lt
   have hcl:=World.block_lt_of_cell? wr _ u0'
   replace hcl:b' < wr.heap.size:=hcl
   have k95:(wr.alloc (.cells #[.string z,.bool s0,.slice x0 n0 c0,.slice y0 m0 d0,.int .i64 i1,.bool s1,.slice x1 n1 c1,.slice y1 m1 d1,.int .i64 i2,.bool s2,.slice x2 n2 c2,.slice y2 m2 d2] 77)).cell? ⟨w.heap.size + 1,3,none⟩=some (.slice (some ⟨b',o',none⟩) ck vcc):=kCa k9
   have u05:(wr.alloc (.cells #[.string z,.bool s0,.slice x0 n0 c0,.slice y0 m0 d0,.int .i64 i1,.bool s1,.slice x1 n1 c1,.slice y1 m1 d1,.int .i64 i2,.bool s2,.slice x2 n2 c2,.slice y2 m2 d2] 77)).cell? ⟨b',o' + i * 12,none⟩=some (.string vz):=kCa u0'
   have u15:(wr.alloc (.cells #[.string z,.bool s0,.slice x0 n0 c0,.slice y0 m0 d0,.int .i64 i1,.bool s1,.slice x1 n1 c1,.slice y1 m1 d1,.int .i64 i2,.bool s2,.slice x2 n2 c2,.slice y2 m2 d2] 77)).cell? ⟨b',o' + i * 12 + 1,none⟩=some (.bool vs0):=kCa u1'
   have u25:(wr.alloc (.cells #[.string z,.bool s0,.slice x0 n0 c0,.slice y0 m0 d0,.int .i64 i1,.bool s1,.slice x1 n1 c1,.slice y1 m1 d1,.int .i64 i2,.bool s2,.slice x2 n2 c2,.slice y2 m2 d2] 77)).cell? ⟨b',o' + i * 12 + 2,none⟩=some (.slice vx0 vn0 vc0):=kCa u2'
   have u35:(wr.alloc (.cells #[.string z,.bool s0,.slice x0 n0 c0,.slice y0 m0 d0,.int .i64 i1,.bool s1,.slice x1 n1 c1,.slice y1 m1 d1,.int .i64 i2,.bool s2,.slice x2 n2 c2,.slice y2 m2 d2] 77)).cell? ⟨b',o' + i * 12 + 3,none⟩=some (.slice vy0 vm0 vd0):=kCa u3'
   have u45:(wr.alloc (.cells #[.string z,.bool s0,.slice x0 n0 c0,.slice y0 m0 d0,.int .i64 i1,.bool s1,.slice x1 n1 c1,.slice y1 m1 d1,.int .i64 i2,.bool s2,.slice x2 n2 c2,.slice y2 m2 d2] 77)).cell? ⟨b',o' + i * 12 + 4,none⟩=some (.int .i64 vi1):=kCa u4'
   have u55:(wr.alloc (.cells #[.string z,.bool s0,.slice x0 n0 c0,.slice y0 m0 d0,.int .i64 i1,.bool s1,.slice x1 n1 c1,.slice y1 m1 d1,.int .i64 i2,.bool s2,.slice x2 n2 c2,.slice y2 m2 d2] 77)).cell? ⟨b',o' + i * 12 + 5,none⟩=some (.bool vs1):=kCa u5'
   have u65:(wr.alloc (.cells #[.string z,.bool s0,.slice x0 n0 c0,.slice y0 m0 d0,.int .i64 i1,.bool s1,.slice x1 n1 c1,.slice y1 m1 d1,.int .i64 i2,.bool s2,.slice x2 n2 c2,.slice y2 m2 d2] 77)).cell? ⟨b',o' + i * 12 + 6,none⟩=some (.slice vx1 vn1 vc1):=kCa u6'
   have u75:(wr.alloc (.cells #[.string z,.bool s0,.slice x0 n0 c0,.slice y0 m0 d0,.int .i64 i1,.bool s1,.slice x1 n1 c1,.slice y1 m1 d1,.int .i64 i2,.bool s2,.slice x2 n2 c2,.slice y2 m2 d2] 77)).cell? ⟨b',o' + i * 12 + 7,none⟩=some (.slice vy1 vm1 vd1):=kCa u7'
   have u85:(wr.alloc (.cells #[.string z,.bool s0,.slice x0 n0 c0,.slice y0 m0 d0,.int .i64 i1,.bool s1,.slice x1 n1 c1,.slice y1 m1 d1,.int .i64 i2,.bool s2,.slice x2 n2 c2,.slice y2 m2 d2] 77)).cell? ⟨b',o' + i * 12 + 8,none⟩=some (.int .i64 vi2):=kCa u8'
   have u95:(wr.alloc (.cells #[.string z,.bool s0,.slice x0 n0 c0,.slice y0 m0 d0,.int .i64 i1,.bool s1,.slice x1 n1 c1,.slice y1 m1 d1,.int .i64 i2,.bool s2,.slice x2 n2 c2,.slice y2 m2 d2] 77)).cell? ⟨b',o' + i * 12 + 9,none⟩=some (.bool vs2):=kCa u9'
   have u105:(wr.alloc (.cells #[.string z,.bool s0,.slice x0 n0 c0,.slice y0 m0 d0,.int .i64 i1,.bool s1,.slice x1 n1 c1,.slice y1 m1 d1,.int .i64 i2,.bool s2,.slice x2 n2 c2,.slice y2 m2 d2] 77)).cell? ⟨b',o' + i * 12 + 10,none⟩=some (.slice vx2 vn2 vc2):=kCa u10'
   have u115:(wr.alloc (.cells #[.string z,.bool s0,.slice x0 n0 c0,.slice y0 m0 d0,.int .i64 i1,.bool s1,.slice x1 n1 c1,.slice y1 m1 d1,.int .i64 i2,.bool s2,.slice x2 n2 c2,.slice y2 m2 d2] 77)).cell? ⟨b',o' + i * 12 + 11,none⟩=some (.slice vy2 vm2 vd2):=kCa u11'
   have i1':((i:Nat):Int) < ((ck:Nat):Int):=by omega
   have HRR:=hid hr2
   have HT:=hid hT
   clear hCi hCi' hc hc' hn hn' hr hr2 hT HI ht0 ht1 ht2
   go_upto_region 7 with fail
   have h5:=below_alloc (below_alloc (Below.refl wr.heap.size wr) (.cells #[.string z,.bool s0,.slice x0 n0 c0,.slice y0 m0 d0,.int .i64 i1,.bool s1,.slice x1 n1 c1,.slice y1 m1 d1,.int .i64 i2,.bool s2,.slice x2 n2 c2,.slice y2 m2 d2] 77)) (.cells #[.string vz,.bool vs0,.slice vx0 vn0 vc0,.slice vy0 vm0 vd0,.int .i64 vi1,.bool vs1,.slice vx1 vn1 vc1,.slice vy1 vm1 vd1,.int .i64 vi2,.bool vs2,.slice vx2 vn2 vc2,.slice vy2 vm2 vd2] 77)
   have D1:=(bk_new wr [.string z,.bool s0,.slice x0 n0 c0,.slice y0 m0 d0,.int .i64 i1,.bool s1,.slice x1 n1 c1,.slice y1 m1 d1,.int .i64 i2,.bool s2,.slice x2 n2 c2,.slice y2 m2 d2] 77).below (below_alloc (Below.refl _ _) (.cells #[.string vz,.bool vs0,.slice vx0 vn0 vc0,.slice vy0 vm0 vd0,.int .i64 vi1,.bool vs1,.slice vx1 vn1 vc1,.slice vy1 vm1 vd1,.int .i64 vi2,.bool vs2,.slice vx2 vn2 vc2,.slice vy2 vm2 vd2] 77))
   have D2:=bk_new (wr.alloc (.cells #[.string z,.bool s0,.slice x0 n0 c0,.slice y0 m0 d0,.int .i64 i1,.bool s1,.slice x1 n1 c1,.slice y1 m1 d1,.int .i64 i2,.bool s2,.slice x2 n2 c2,.slice y2 m2 d2] 77)) [.string vz,.bool vs0,.slice vx0 vn0 vc0,.slice vy0 vm0 vd0,.int .i64 vi1,.bool vs1,.slice vx1 vn1 vc1,.slice vy1 vm1 vd1,.int .i64 vi2,.bool vs2,.slice vx2 vn2 vc2,.slice vy2 vm2 vd2] 77
   rw [size_alloc1] at D2
   replace D1:Bk ((wr.alloc (.cells #[.string z,.bool s0,.slice x0 n0 c0,.slice y0 m0 d0,.int .i64 i1,.bool s1,.slice x1 n1 c1,.slice y1 m1 d1,.int .i64 i2,.bool s2,.slice x2 n2 c2,.slice y2 m2 d2] 77)).alloc (.cells #[.string vz,.bool vs0,.slice vx0 vn0 vc0,.slice vy0 vm0 vd0,.int .i64 vi1,.bool vs1,.slice vx1 vn1 vc1,.slice vy1 vm1 vd1,.int .i64 vi2,.bool vs2,.slice vx2 vn2 vc2,.slice vy2 vm2 vd2] 77)) wr.heap.size [.string z,.bool s0,.slice x0 n0 c0,.slice y0 m0 d0,.int .i64 i1,.bool s1,.slice x1 n1 c1,.slice y1 m1 d1,.int .i64 i2,.bool s2,.slice x2 n2 c2,.slice y2 m2 d2] 77:=D1
   replace D2:Bk ((wr.alloc (.cells #[.string z,.bool s0,.slice x0 n0 c0,.slice y0 m0 d0,.int .i64 i1,.bool s1,.slice x1 n1 c1,.slice y1 m1 d1,.int .i64 i2,.bool s2,.slice x2 n2 c2,.slice y2 m2 d2] 77)).alloc (.cells #[.string vz,.bool vs0,.slice vx0 vn0 vc0,.slice vy0 vm0 vd0,.int .i64 vi1,.bool vs1,.slice vx1 vn1 vc1,.slice vy1 vm1 vd1,.int .i64 vi2,.bool vs2,.slice vx2 vn2 vc2,.slice vy2 vm2 vd2] 77)) (wr.heap.size + 1) [.string vz,.bool vs0,.slice vx0 vn0 vc0,.slice vy0 vm0 vd0,.int .i64 vi1,.bool vs1,.slice vx1 vn1 vc1,.slice vy1 vm1 vd1,.int .i64 vi2,.bool vs2,.slice vx2 vn2 vc2,.slice vy2 vm2 vd2] 77:=D2
   clear p0 p1 p2 p3 p4 p5 p6 p7 p8 p9 p10 p11 u0' u1' u2' u3' u4' u5' u6' u7' u8' u9' u10' u11' u05 u15 u25 u35 u45 u55 u65 u75 u85 u95 u105 u115 k9 k95
   generalize (wr.alloc (.cells #[.string z,.bool s0,.slice x0 n0 c0,.slice y0 m0 d0,.int .i64 i1,.bool s1,.slice x1 n1 c1,.slice y1 m1 d1,.int .i64 i2,.bool s2,.slice x2 n2 c2,.slice y2 m2 d2] 77)).alloc (.cells #[.string vz,.bool vs0,.slice vx0 vn0 vc0,.slice vy0 vm0 vd0,.int .i64 vi1,.bool vs1,.slice vx1 vn1 vc1,.slice vy1 vm1 vd1,.int .i64 vi2,.bool vs2,.slice vx2 vn2 vc2,.slice vy2 vm2 vd2] 77)=w5 at *
   have a0:=D1.cell (j:=0) rfl
   have a1:=D1.cell (j:=1) rfl
   have a2:=D1.cell (j:=2) rfl
   have a3:=D1.cell (j:=3) rfl
   have a4:=D1.cell (j:=4) rfl
   have a5:=D1.cell (j:=5) rfl
   have a6:=D1.cell (j:=6) rfl
   have a7:=D1.cell (j:=7) rfl
   have a8:=D1.cell (j:=8) rfl
   have a9:=D1.cell (j:=9) rfl
   have a10:=D1.cell (j:=10) rfl
   have a11:=D1.cell (j:=11) rfl
   have b0:=D2.cell (j:=0) rfl
   have b1:=D2.cell (j:=1) rfl
   have b2:=D2.cell (j:=2) rfl
   have b3:=D2.cell (j:=3) rfl
   have b4:=D2.cell (j:=4) rfl
   have b5:=D2.cell (j:=5) rfl
   have b6:=D2.cell (j:=6) rfl
   have b7:=D2.cell (j:=7) rfl
   have b8:=D2.cell (j:=8) rfl
   have b9:=D2.cell (j:=9) rfl
   have b10:=D2.cell (j:=10) rfl
   have b11:=D2.cell (j:=11) rfl
   by_cases hz:z=vz
   case neg =>
    have hne:=str_ne hz
    have HF:=hid (show an=false from by rw [HT.out];simp [hz])
    go_wp2
    go_ret
    exact ⟨by rw [HF.out];rfl,HW.out.trans ((HB.out.trans ((h5).mono HB.out.size)).mono HW.out.size)⟩
   subst hz
   replace HT:=hid (show an=((t0 && (t1 && t2)) && eqf scB C vC r (i + 1) && eqf srB R vR rk 0) from by rw [HT.out];simp)
   go_wp2_with fail
   refine (C0.out _ h5).mono ?_
   rintro e w6 ⟨rfl,hb6⟩
   have h51:=hid (h5.trans (hb6.mono h5.size))
   replace D1:=D1.below hb6;replace D2:=D2.below hb6
   clear a0 a1 a2 a3 a4 a5 a6 a7 a8 a9 a10 a11 b0 b1 b2 b3 b4 b5 b6 b7 b8 b9 b10 b11 C0 hb6
   cases t0
   ·have HF:=hid (show an=false from by rw [HT.out];simp)
    go_wp2
    go_ret
    exact ⟨by rw [HF.out];rfl,HW.out.trans ((HB.out.trans ((h51.out).mono HB.out.size)).mono HW.out.size)⟩
   have a0:=D1.cell (j:=0) rfl
   have a1:=D1.cell (j:=1) rfl
   have a2:=D1.cell (j:=2) rfl
   have a3:=D1.cell (j:=3) rfl
   have a4:=D1.cell (j:=4) rfl
   have a5:=D1.cell (j:=5) rfl
   have a6:=D1.cell (j:=6) rfl
   have a7:=D1.cell (j:=7) rfl
   have a8:=D1.cell (j:=8) rfl
   have a9:=D1.cell (j:=9) rfl
   have a10:=D1.cell (j:=10) rfl
   have a11:=D1.cell (j:=11) rfl
   have b0:=D2.cell (j:=0) rfl
   have b1:=D2.cell (j:=1) rfl
   have b2:=D2.cell (j:=2) rfl
   have b3:=D2.cell (j:=3) rfl
   have b4:=D2.cell (j:=4) rfl
   have b5:=D2.cell (j:=5) rfl
   have b6:=D2.cell (j:=6) rfl
   have b7:=D2.cell (j:=7) rfl
   have b8:=D2.cell (j:=8) rfl
   have b9:=D2.cell (j:=9) rfl
   have b10:=D2.cell (j:=10) rfl
   have b11:=D2.cell (j:=11) rfl
   go_wp2_with fail
   refine (C1.out _ h51.out).mono ?_
   rintro e w7 ⟨rfl,hb7⟩
   have h52:=hid (h51.out.trans (hb7.mono h51.out.size))
   replace D1:=D1.below hb7;replace D2:=D2.below hb7
   clear a0 a1 a2 a3 a4 a5 a6 a7 a8 a9 a10 a11 b0 b1 b2 b3 b4 b5 b6 b7 b8 b9 b10 b11 C1 hb7
   cases t1
   ·have HF:=hid (show an=false from by rw [HT.out];simp)
    go_wp2
    go_ret
    exact ⟨by rw [HF.out];rfl,HW.out.trans ((HB.out.trans ((h52.out).mono HB.out.size)).mono HW.out.size)⟩
   have a0:=D1.cell (j:=0) rfl
   have a1:=D1.cell (j:=1) rfl
   have a2:=D1.cell (j:=2) rfl
   have a3:=D1.cell (j:=3) rfl
   have a4:=D1.cell (j:=4) rfl
   have a5:=D1.cell (j:=5) rfl
   have a6:=D1.cell (j:=6) rfl
   have a7:=D1.cell (j:=7) rfl
   have a8:=D1.cell (j:=8) rfl
   have a9:=D1.cell (j:=9) rfl
   have a10:=D1.cell (j:=10) rfl
   have a11:=D1.cell (j:=11) rfl
   have b0:=D2.cell (j:=0) rfl
   have b1:=D2.cell (j:=1) rfl
   have b2:=D2.cell (j:=2) rfl
   have b3:=D2.cell (j:=3) rfl
   have b4:=D2.cell (j:=4) rfl
   have b5:=D2.cell (j:=5) rfl
   have b6:=D2.cell (j:=6) rfl
   have b7:=D2.cell (j:=7) rfl
   have b8:=D2.cell (j:=8) rfl
   have b9:=D2.cell (j:=9) rfl
   have b10:=D2.cell (j:=10) rfl
   have b11:=D2.cell (j:=11) rfl
   go_wp2_with fail
   refine (C2.out _ h52.out).mono ?_
   rintro e w8 ⟨rfl,hb8⟩
   have h53:=hid (h52.out.trans (hb8.mono h52.out.size))
   replace D1:=D1.below hb8;replace D2:=D2.below hb8
   clear a0 a1 a2 a3 a4 a5 a6 a7 a8 a9 a10 a11 b0 b1 b2 b3 b4 b5 b6 b7 b8 b9 b10 b11 C2 hb8
   cases t2
   ·have HF:=hid (show an=false from by rw [HT.out];simp)
    go_wp2
    go_ret
    exact ⟨by rw [HF.out];rfl,HW.out.trans ((HB.out.trans ((h53.out).mono HB.out.size)).mono HW.out.size)⟩
   have HB9:=hid (HB.out.trans (h53.out.mono HB.out.size))
   go_wp2
   go_roundw
   case rel=>exact ⟨i + 1,by omega,by go_num,HB9.out,by show _=_;rw [HT.out,HRR.out];simp⟩
   case measure=>simp [intOf];omega
  ·have e3:i=ck:=by omega
   have i2:¬ (((i:Nat):Int) < ((ck:Nat):Int)):=by omega
   have HA2:=hid (show an=eqf srB R vR rk 0 from by rw [HI.out,e3,Nat.sub_self];rfl)
   have HW2:=hid (HW.out.trans (HB.out.mono HW.out.size))
   replace B1:=B1.below HB.out;replace B2:=B2.below HB.out
   clear e3 HI HB HC HC'
   have r0:=B1.cell (j:=0) rfl
   have r1:=B1.cell (j:=1) rfl
   have r2:=B1.cell (j:=2) rfl
   have r3:=B1.cell (j:=3) rfl
   have r4:=B1.cell (j:=4) rfl
   have q0:=B2.cell (j:=0) rfl
   have q1:=B2.cell (j:=1) rfl
   have q2:=B2.cell (j:=2) rfl
   have q3:=B2.cell (j:=3) rfl
   have q4:=B2.cell (j:=4) rfl
   generalize wr=wa at *
   go_wp2_with fail
   go_loopw [81] (fun t wr=>∃ (i:Nat),i ≤ rk ∧ t=.int .i64 i ∧ Hid (Below wa.heap.size wa wr) ∧ Hid (an=eqf srB R vR (rk - i) i)) (fun t _=>rk - (intOf t).toNat)
   case atStart=>exact ⟨0,by omega,rfl,Below.refl _ _,HA2.out⟩
   case round =>
    obtain ⟨i,hi,rfl,HB,HI⟩:=hrel
    clear HA2 r0 r1 r2 r3 r4 q0 q1 q2 q3 q4
    by_cases hlt:i < rk
    ·obtain ⟨b,o,rfl,hc,hn⟩:=(HR.out.below (HW2.out.trans (HB.out.mono HW2.out.size))) i hlt
     obtain ⟨b',o',rfl,hc',hn'⟩:=(HR'.out.below (HW2.out.trans (HB.out.mono HW2.out.size))) i hlt
     obtain ⟨r,hr⟩:∃ r,rk - i=r + 1:=⟨rk - i - 1,by omega⟩
     have hr2:rk - (i + 1)=r:=by omega
     obtain ⟨t0,ht0⟩:∃ t,sxB (R i).lo (vR i).lo=t:=⟨_,rfl⟩
     have C0:=hid (fun W (hW:Below wr.heap.size wr W)=>xSame_x (w:=W) (hn.lo.below hW) (hn'.lo.below hW))
     rw [ht0] at C0
     obtain ⟨t1,ht1⟩:∃ t,sxB (R i).hi (vR i).hi=t:=⟨_,rfl⟩
     have C1:=hid (fun W (hW:Below wr.heap.size wr W)=>xSame_x (w:=W) (hn.hi.below hW) (hn'.hi.below hW))
     rw [ht1] at C1
     obtain ⟨t2,ht2⟩:∃ t,eqfB sxB (R i).tk (vR i).tk (tex (R i).col (R i).T) (tex (vR i).col (vR i).T)=t:=⟨_,rfl⟩
     have C2:=hid (fun W (hW:Below wr.heap.size wr W)=>vSame_x (w:=W) (ca:=(R i).tc) (cb:=(vR i).tc) (hn.tl.below hW) (hn'.tl.below hW) hn.tk hn'.tk)
     rw [ht2] at C2
     have hT:an=((decide ((R i).nm=(vR i).nm) && (t0 && (t1 && t2))) && eqf srB R vR r (i + 1)):=by
      rw [HI.out,hr,← ht0,← ht1,← ht2];rfl
     obtain ⟨⟨z,⟨i1,⟨s1,x1,n1,c1,f1,y1,m1,d1,g1⟩⟩,⟨i2,⟨s2,x2,n2,c2,f2,y2,m2,d2,g2⟩⟩,ta,tk,tc,tcol,tt⟩,hCi⟩:∃ t,R i=t:=⟨_,rfl⟩
     obtain ⟨⟨vz,⟨vi1,⟨vs1,vx1,vn1,vc1,vf1,vy1,vm1,vd1,vg1⟩⟩,⟨vi2,⟨vs2,vx2,vn2,vc2,vf2,vy2,vm2,vd2,vg2⟩⟩,vta,vtk,vtc,vtcol,vtt⟩,hCi'⟩:∃ t,vR i=t:=⟨_,rfl⟩
     rw [hCi] at hc hT C0 C1 C2
     rw [hCi'] at hc' hT C0 C1 C2
     replace hT:an=((decide (z=vz) && (t0 && (t1 && t2))) && eqf srB R vR r (i + 1)):=hT
     replace C0:Hid (∀ W (hW:Below wr.heap.size wr W),Calls Tryz.prog 56 #[.agg #[.int .i64 i1,.bool s1,.slice x1 n1 c1,.slice y1 m1 d1],.agg #[.int .i64 vi1,.bool vs1,.slice vx1 vn1 vc1,.slice vy1 vm1 vd1]] W fun r w2=>r=.returned (.bool t0) ∧ Below W.heap.size W w2):=C0
     replace C1:Hid (∀ W (hW:Below wr.heap.size wr W),Calls Tryz.prog 56 #[.agg #[.int .i64 i2,.bool s2,.slice x2 n2 c2,.slice y2 m2 d2],.agg #[.int .i64 vi2,.bool vs2,.slice vx2 vn2 vc2,.slice vy2 vm2 vd2]] W fun r w2=>r=.returned (.bool t1) ∧ Below W.heap.size W w2):=C1
     replace C2:Hid (∀ W (hW:Below wr.heap.size wr W),Calls Tryz.prog 54 #[.slice ta tk tc,.slice vta vtk vtc] W fun r w2=>r=.returned (.bool t2) ∧ Below W.heap.size W w2):=C2
     have p0:wr.cell? ⟨b,o + i * 10,none⟩=some (.string z):=hc 0 _ rfl
     have p1:wr.cell? ⟨b,o + i * 10 + 1,none⟩=some (.int .i64 i1):=hc 1 _ rfl
     have p2:wr.cell? ⟨b,o + i * 10 + 2,none⟩=some (.bool s1):=hc 2 _ rfl
     have p3:wr.cell? ⟨b,o + i * 10 + 3,none⟩=some (.slice x1 n1 c1):=hc 3 _ rfl
     have p4:wr.cell? ⟨b,o + i * 10 + 4,none⟩=some (.slice y1 m1 d1):=hc 4 _ rfl
     have p5:wr.cell? ⟨b,o + i * 10 + 5,none⟩=some (.int .i64 i2):=hc 5 _ rfl
     have p6:wr.cell? ⟨b,o + i * 10 + 6,none⟩=some (.bool s2):=hc 6 _ rfl
     have p7:wr.cell? ⟨b,o + i * 10 + 7,none⟩=some (.slice x2 n2 c2):=hc 7 _ rfl
     have p8:wr.cell? ⟨b,o + i * 10 + 8,none⟩=some (.slice y2 m2 d2):=hc 8 _ rfl
     have p9:wr.cell? ⟨b,o + i * 10 + 9,none⟩=some (.slice ta tk tc):=hc 9 _ rfl
     have u0':wr.cell? ⟨b',o' + i * 10,none⟩=some (.string vz):=hc' 0 _ rfl
     have u1':wr.cell? ⟨b',o' + i * 10 + 1,none⟩=some (.int .i64 vi1):=hc' 1 _ rfl
     have u2':wr.cell? ⟨b',o' + i * 10 + 2,none⟩=some (.bool vs1):=hc' 2 _ rfl
     have u3':wr.cell? ⟨b',o' + i * 10 + 3,none⟩=some (.slice vx1 vn1 vc1):=hc' 3 _ rfl
     have u4':wr.cell? ⟨b',o' + i * 10 + 4,none⟩=some (.slice vy1 vm1 vd1):=hc' 4 _ rfl
     have u5':wr.cell? ⟨b',o' + i * 10 + 5,none⟩=some (.int .i64 vi2):=hc' 5 _ rfl
     have u6':wr.cell? ⟨b',o' + i * 10 + 6,none⟩=some (.bool vs2):=hc' 6 _ rfl
     have u7':wr.cell? ⟨b',o' + i * 10 + 7,none⟩=some (.slice vx2 vn2 vc2):=hc' 7 _ rfl
     have u8':wr.cell? ⟨b',o' + i * 10 + 8,none⟩=some (.slice vy2 vm2 vd2):=hc' 8 _ rfl
     have u9':wr.cell? ⟨b',o' + i * 10 + 9,none⟩=some (.slice vta vtk vtc):=hc' 9 _ rfl
     have k9:=(B2.below HB.out).cell (j:=4) rfl
     have hkl:=(B2.below HB.out).lt
     have hcl:=World.block_lt_of_cell? wr _ u0'
     replace hcl:b' < wr.heap.size:=hcl
     have k95:(wr.alloc (.cells #[.string z,.int .i64 i1,.bool s1,.slice x1 n1 c1,.slice y1 m1 d1,.int .i64 i2,.bool s2,.slice x2 n2 c2,.slice y2 m2 d2,.slice ta tk tc] 75)).cell? ⟨w.heap.size + 1,4,none⟩=some (.slice (some ⟨b',o',none⟩) rk vrc):=kCa k9
     have u05:(wr.alloc (.cells #[.string z,.int .i64 i1,.bool s1,.slice x1 n1 c1,.slice y1 m1 d1,.int .i64 i2,.bool s2,.slice x2 n2 c2,.slice y2 m2 d2,.slice ta tk tc] 75)).cell? ⟨b',o' + i * 10,none⟩=some (.string vz):=kCa u0'
     have u15:(wr.alloc (.cells #[.string z,.int .i64 i1,.bool s1,.slice x1 n1 c1,.slice y1 m1 d1,.int .i64 i2,.bool s2,.slice x2 n2 c2,.slice y2 m2 d2,.slice ta tk tc] 75)).cell? ⟨b',o' + i * 10 + 1,none⟩=some (.int .i64 vi1):=kCa u1'
     have u25:(wr.alloc (.cells #[.string z,.int .i64 i1,.bool s1,.slice x1 n1 c1,.slice y1 m1 d1,.int .i64 i2,.bool s2,.slice x2 n2 c2,.slice y2 m2 d2,.slice ta tk tc] 75)).cell? ⟨b',o' + i * 10 + 2,none⟩=some (.bool vs1):=kCa u2'
     have u35:(wr.alloc (.cells #[.string z,.int .i64 i1,.bool s1,.slice x1 n1 c1,.slice y1 m1 d1,.int .i64 i2,.bool s2,.slice x2 n2 c2,.slice y2 m2 d2,.slice ta tk tc] 75)).cell? ⟨b',o' + i * 10 + 3,none⟩=some (.slice vx1 vn1 vc1):=kCa u3'
     have u45:(wr.alloc (.cells #[.string z,.int .i64 i1,.bool s1,.slice x1 n1 c1,.slice y1 m1 d1,.int .i64 i2,.bool s2,.slice x2 n2 c2,.slice y2 m2 d2,.slice ta tk tc] 75)).cell? ⟨b',o' + i * 10 + 4,none⟩=some (.slice vy1 vm1 vd1):=kCa u4'
     have u55:(wr.alloc (.cells #[.string z,.int .i64 i1,.bool s1,.slice x1 n1 c1,.slice y1 m1 d1,.int .i64 i2,.bool s2,.slice x2 n2 c2,.slice y2 m2 d2,.slice ta tk tc] 75)).cell? ⟨b',o' + i * 10 + 5,none⟩=some (.int .i64 vi2):=kCa u5'
     have u65:(wr.alloc (.cells #[.string z,.int .i64 i1,.bool s1,.slice x1 n1 c1,.slice y1 m1 d1,.int .i64 i2,.bool s2,.slice x2 n2 c2,.slice y2 m2 d2,.slice ta tk tc] 75)).cell? ⟨b',o' + i * 10 + 6,none⟩=some (.bool vs2):=kCa u6'
     have u75:(wr.alloc (.cells #[.string z,.int .i64 i1,.bool s1,.slice x1 n1 c1,.slice y1 m1 d1,.int .i64 i2,.bool s2,.slice x2 n2 c2,.slice y2 m2 d2,.slice ta tk tc] 75)).cell? ⟨b',o' + i * 10 + 7,none⟩=some (.slice vx2 vn2 vc2):=kCa u7'
     have u85:(wr.alloc (.cells #[.string z,.int .i64 i1,.bool s1,.slice x1 n1 c1,.slice y1 m1 d1,.int .i64 i2,.bool s2,.slice x2 n2 c2,.slice y2 m2 d2,.slice ta tk tc] 75)).cell? ⟨b',o' + i * 10 + 8,none⟩=some (.slice vy2 vm2 vd2):=kCa u8'
     have u95:(wr.alloc (.cells #[.string z,.int .i64 i1,.bool s1,.slice x1 n1 c1,.slice y1 m1 d1,.int .i64 i2,.bool s2,.slice x2 n2 c2,.slice y2 m2 d2,.slice ta tk tc] 75)).cell? ⟨b',o' + i * 10 + 9,none⟩=some (.slice vta vtk vtc):=kCa u9'
     have i1':((i:Nat):Int) < ((rk:Nat):Int):=by omega
     have HRR:=hid hr2
     have HT:=hid hT
     clear hCi hCi' hc hc' hn hn' hr hr2 hT HI ht0 ht1 ht2
     go_upto_region 14 with fail
     have h5:=below_alloc (below_alloc (Below.refl wr.heap.size wr) (.cells #[.string z,.int .i64 i1,.bool s1,.slice x1 n1 c1,.slice y1 m1 d1,.int .i64 i2,.bool s2,.slice x2 n2 c2,.slice y2 m2 d2,.slice ta tk tc] 75)) (.cells #[.string vz,.int .i64 vi1,.bool vs1,.slice vx1 vn1 vc1,.slice vy1 vm1 vd1,.int .i64 vi2,.bool vs2,.slice vx2 vn2 vc2,.slice vy2 vm2 vd2,.slice vta vtk vtc] 75)
     have D1:=(bk_new wr [.string z,.int .i64 i1,.bool s1,.slice x1 n1 c1,.slice y1 m1 d1,.int .i64 i2,.bool s2,.slice x2 n2 c2,.slice y2 m2 d2,.slice ta tk tc] 75).below (below_alloc (Below.refl _ _) (.cells #[.string vz,.int .i64 vi1,.bool vs1,.slice vx1 vn1 vc1,.slice vy1 vm1 vd1,.int .i64 vi2,.bool vs2,.slice vx2 vn2 vc2,.slice vy2 vm2 vd2,.slice vta vtk vtc] 75))
     have D2:=bk_new (wr.alloc (.cells #[.string z,.int .i64 i1,.bool s1,.slice x1 n1 c1,.slice y1 m1 d1,.int .i64 i2,.bool s2,.slice x2 n2 c2,.slice y2 m2 d2,.slice ta tk tc] 75)) [.string vz,.int .i64 vi1,.bool vs1,.slice vx1 vn1 vc1,.slice vy1 vm1 vd1,.int .i64 vi2,.bool vs2,.slice vx2 vn2 vc2,.slice vy2 vm2 vd2,.slice vta vtk vtc] 75
     rw [size_alloc1] at D2
     replace D1:Bk ((wr.alloc (.cells #[.string z,.int .i64 i1,.bool s1,.slice x1 n1 c1,.slice y1 m1 d1,.int .i64 i2,.bool s2,.slice x2 n2 c2,.slice y2 m2 d2,.slice ta tk tc] 75)).alloc (.cells #[.string vz,.int .i64 vi1,.bool vs1,.slice vx1 vn1 vc1,.slice vy1 vm1 vd1,.int .i64 vi2,.bool vs2,.slice vx2 vn2 vc2,.slice vy2 vm2 vd2,.slice vta vtk vtc] 75)) wr.heap.size [.string z,.int .i64 i1,.bool s1,.slice x1 n1 c1,.slice y1 m1 d1,.int .i64 i2,.bool s2,.slice x2 n2 c2,.slice y2 m2 d2,.slice ta tk tc] 75:=D1
     replace D2:Bk ((wr.alloc (.cells #[.string z,.int .i64 i1,.bool s1,.slice x1 n1 c1,.slice y1 m1 d1,.int .i64 i2,.bool s2,.slice x2 n2 c2,.slice y2 m2 d2,.slice ta tk tc] 75)).alloc (.cells #[.string vz,.int .i64 vi1,.bool vs1,.slice vx1 vn1 vc1,.slice vy1 vm1 vd1,.int .i64 vi2,.bool vs2,.slice vx2 vn2 vc2,.slice vy2 vm2 vd2,.slice vta vtk vtc] 75)) (wr.heap.size + 1) [.string vz,.int .i64 vi1,.bool vs1,.slice vx1 vn1 vc1,.slice vy1 vm1 vd1,.int .i64 vi2,.bool vs2,.slice vx2 vn2 vc2,.slice vy2 vm2 vd2,.slice vta vtk vtc] 75:=D2
     clear p0 p1 p2 p3 p4 p5 p6 p7 p8 p9 u0' u1' u2' u3' u4' u5' u6' u7' u8' u9' u05 u15 u25 u35 u45 u55 u65 u75 u85 u95 k9 k95
     generalize (wr.alloc (.cells #[.string z,.int .i64 i1,.bool s1,.slice x1 n1 c1,.slice y1 m1 d1,.int .i64 i2,.bool s2,.slice x2 n2 c2,.slice y2 m2 d2,.slice ta tk tc] 75)).alloc (.cells #[.string vz,.int .i64 vi1,.bool vs1,.slice vx1 vn1 vc1,.slice vy1 vm1 vd1,.int .i64 vi2,.bool vs2,.slice vx2 vn2 vc2,.slice vy2 vm2 vd2,.slice vta vtk vtc] 75)=w5 at *
     have a0:=D1.cell (j:=0) rfl
     have a1:=D1.cell (j:=1) rfl
     have a2:=D1.cell (j:=2) rfl
     have a3:=D1.cell (j:=3) rfl
     have a4:=D1.cell (j:=4) rfl
     have a5:=D1.cell (j:=5) rfl
     have a6:=D1.cell (j:=6) rfl
     have a7:=D1.cell (j:=7) rfl
     have a8:=D1.cell (j:=8) rfl
     have a9:=D1.cell (j:=9) rfl
     have b0:=D2.cell (j:=0) rfl
     have b1:=D2.cell (j:=1) rfl
     have b2:=D2.cell (j:=2) rfl
     have b3:=D2.cell (j:=3) rfl
     have b4:=D2.cell (j:=4) rfl
     have b5:=D2.cell (j:=5) rfl
     have b6:=D2.cell (j:=6) rfl
     have b7:=D2.cell (j:=7) rfl
     have b8:=D2.cell (j:=8) rfl
     have b9:=D2.cell (j:=9) rfl
     by_cases hz:z=vz
     case neg =>
      have hne:=str_ne hz
      have HF:=hid (show an=false from by rw [HT.out];simp [hz])
      go_wp2
      go_ret
      exact ⟨by rw [HF.out];rfl,HW2.out.trans ((HB.out.trans ((h5).mono HB.out.size)).mono HW2.out.size)⟩
     subst hz
     replace HT:=hid (show an=((t0 && (t1 && t2)) && eqf srB R vR r (i + 1)) from by rw [HT.out];simp)
     go_wp2_with fail
     refine (C0.out _ h5).mono ?_
     rintro e w6 ⟨rfl,hb6⟩
     have h51:=hid (h5.trans (hb6.mono h5.size))
     replace D1:=D1.below hb6;replace D2:=D2.below hb6
     clear a0 a1 a2 a3 a4 a5 a6 a7 a8 a9 b0 b1 b2 b3 b4 b5 b6 b7 b8 b9 C0 hb6
     cases t0
     ·have HF:=hid (show an=false from by rw [HT.out];simp)
      go_wp2
      go_ret
      exact ⟨by rw [HF.out];rfl,HW2.out.trans ((HB.out.trans ((h51.out).mono HB.out.size)).mono HW2.out.size)⟩
     have a0:=D1.cell (j:=0) rfl
     have a1:=D1.cell (j:=1) rfl
     have a2:=D1.cell (j:=2) rfl
     have a3:=D1.cell (j:=3) rfl
     have a4:=D1.cell (j:=4) rfl
     have a5:=D1.cell (j:=5) rfl
     have a6:=D1.cell (j:=6) rfl
     have a7:=D1.cell (j:=7) rfl
     have a8:=D1.cell (j:=8) rfl
     have a9:=D1.cell (j:=9) rfl
     have b0:=D2.cell (j:=0) rfl
     have b1:=D2.cell (j:=1) rfl
     have b2:=D2.cell (j:=2) rfl
     have b3:=D2.cell (j:=3) rfl
     have b4:=D2.cell (j:=4) rfl
     have b5:=D2.cell (j:=5) rfl
     have b6:=D2.cell (j:=6) rfl
     have b7:=D2.cell (j:=7) rfl
     have b8:=D2.cell (j:=8) rfl
     have b9:=D2.cell (j:=9) rfl
     go_wp2_with fail
     refine (C1.out _ h51.out).mono ?_
     rintro e w7 ⟨rfl,hb7⟩
     have h52:=hid (h51.out.trans (hb7.mono h51.out.size))
     replace D1:=D1.below hb7;replace D2:=D2.below hb7
     clear a0 a1 a2 a3 a4 a5 a6 a7 a8 a9 b0 b1 b2 b3 b4 b5 b6 b7 b8 b9 C1 hb7
     cases t1
     ·have HF:=hid (show an=false from by rw [HT.out];simp)
      go_wp2
      go_ret
      exact ⟨by rw [HF.out];rfl,HW2.out.trans ((HB.out.trans ((h52.out).mono HB.out.size)).mono HW2.out.size)⟩
     have a0:=D1.cell (j:=0) rfl
     have a1:=D1.cell (j:=1) rfl
     have a2:=D1.cell (j:=2) rfl
     have a3:=D1.cell (j:=3) rfl
     have a4:=D1.cell (j:=4) rfl
     have a5:=D1.cell (j:=5) rfl
     have a6:=D1.cell (j:=6) rfl
     have a7:=D1.cell (j:=7) rfl
     have a8:=D1.cell (j:=8) rfl
     have a9:=D1.cell (j:=9) rfl
     have b0:=D2.cell (j:=0) rfl
     have b1:=D2.cell (j:=1) rfl
     have b2:=D2.cell (j:=2) rfl
     have b3:=D2.cell (j:=3) rfl
     have b4:=D2.cell (j:=4) rfl
     have b5:=D2.cell (j:=5) rfl
     have b6:=D2.cell (j:=6) rfl
     have b7:=D2.cell (j:=7) rfl
     have b8:=D2.cell (j:=8) rfl
     have b9:=D2.cell (j:=9) rfl
     go_wp2_with fail
     refine (C2.out _ h52.out).mono ?_
     rintro e w8 ⟨rfl,hb8⟩
     have h53:=hid (h52.out.trans (hb8.mono h52.out.size))
     replace D1:=D1.below hb8;replace D2:=D2.below hb8
     clear a0 a1 a2 a3 a4 a5 a6 a7 a8 a9 b0 b1 b2 b3 b4 b5 b6 b7 b8 b9 C2 hb8
     cases t2
     ·have HF:=hid (show an=false from by rw [HT.out];simp)
      go_wp2
      go_ret
      exact ⟨by rw [HF.out];rfl,HW2.out.trans ((HB.out.trans ((h53.out).mono HB.out.size)).mono HW2.out.size)⟩
     have HB9:=hid (HB.out.trans (h53.out.mono HB.out.size))
     go_wp2
     go_roundw
     case rel=>exact ⟨i + 1,by omega,by go_num,HB9.out,by show _=_;rw [HT.out,HRR.out];simp⟩
     case measure=>simp [intOf];omega
    ·have e3:i=rk:=by omega
     have i2:¬ (((i:Nat):Int) < ((rk:Nat):Int)):=by omega
     have HT:=hid (show an=true from by rw [HI.out,e3,Nat.sub_self];rfl)
     have HW3:=hid (HW2.out.trans (HB.out.mono HW2.out.size))
     clear e3 HI HB
     go_wp2
     go_ret
     exact ⟨by rw [HT.out];rfl,HW3.out⟩
theorem sq_congr {a b a' b':Nm} (h:Sn a a') (k:Sn b b'):sqB a' b'=sqB a b:=by
 obtain ⟨h1,h2,h3,h4,h5⟩:=h
 obtain ⟨k1,k2,k3,k4,k5⟩:=k
 unfold sqB
 rw [h1,h2,h3,h4,h5,k1,k2,k3,k4,k5]
theorem sx_congr {a b a' b':Ex} (hi:a'.i=a.i) (h:Sn a.v a'.v) (ki:b'.i=b.i) (k:Sn b.v b'.v):sxB a' b'=sxB a b:=by
 unfold sxB;rw [hi,ki,sq_congr h k]
theorem eqf_congr {α:Type} {e:α → α → Bool} {X Y X' Y':Nat → α}:∀ {r i:Nat},(∀ j,i ≤ j → j < i + r → e (X' j) (Y' j)=e (X j) (Y j)) → eqf e X' Y' r i=eqf e X Y r i
 | 0,_,_=>rfl
 | r + 1,i,h=>by simp only [eqf];rw [h i (by omega) (by omega),eqf_congr (fun j a b=>h j (by omega) (by omega))]
theorem Sm.eqA {a b a' b':Mo} (h:Sm a a') (k:Sm b b'):eqA a' b'=eqA a b:=by
 unfold Go.Proofs.YtgmllfcngnfpkaaGreat.eqA
 rw [h.chk,k.chk,sq_congr h.off k.off]
 have e1:eqfB scB a'.ck b'.ck a'.C b'.C=eqfB scB a.ck b.ck a.C b.C:=by
  unfold eqfB
  rw [h.ck,k.ck]
  by_cases e:a.ck=b.ck
  ·rw [eqf_congr (fun j _ hj=>?_)]
   have p:=h.C j (by omega);have q:=k.C j (by omega)
   unfold scB
   rw [p.nm,q.nm,sq_congr p.cost q.cost,sx_congr p.li p.lo q.li q.lo,sx_congr p.hi p.hv q.hi q.hv]
  ·simp [e]
 have e2:eqfB srB a'.rk b'.rk a'.R b'.R=eqfB srB a.rk b.rk a.R b.R:=by
  unfold eqfB
  rw [h.rk,k.rk]
  by_cases e:a.rk=b.rk
  ·rw [eqf_congr (fun j _ hj=>?_)]
   have p:=h.R j (by omega);have q:=k.R j (by omega)
   unfold srB eqfB
   rw [p.nm,q.nm,sx_congr p.li p.lo q.li q.lo,sx_congr p.hi p.hv q.hi q.hv,p.tk,q.tk]
   by_cases e3:(a.R j).tk=(b.R j).tk
   ·rw [eqf_congr (fun t _ ht=>?_)]
    exact sx_congr (a:=tex (a.R j).col (a.R j).T t) (b:=tex (b.R j).col (b.R j).T t) (by show (a'.R j).col t=_;rw [p.col];rfl) (p.T t (by omega)) (by show (b'.R j).col t=_;rw [q.col];rfl) (q.T t (by omega))
   ·simp [e3]
  ·simp [e]
 rw [e1,e2]
end Go.Proofs.YtgmllfcngnfpkaaGreat
