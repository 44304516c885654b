/-
 The reference's models by their values; the walk of the reference's From of a model (written by makers/f32.py). A model that is well formed has values; the walks of the reference's Crossed and DocCrossed (written by makers/f33.py). Walks of the document's DocCmp, DocMax, DocMin of bounds, whatever they are handed; of the statements' same, light, num. Walks of ext: number, Scale of minus infinity by a number below 0, Text of infinity; of the statements' own look at answers that the document fixes (awake). Walks of ext: Of, Neg, Shift, Scale, whatever they are handed. The walks of package ext's Cmp of longer bounds, of package point's keeps (written by makers/n3.py). The walks of package point's times and Sum, by values (written by makers/n1.py). A drawn region whose loads come first and whose last stores turn the very cells that were loaded: what the cells hold (S) is asked only as long as the operation k has not come up. No Go text is named here.
-/
import Derived.Test.YtbnaikljfhhljaaGreatZ0
import Derived.Test.YtbnaikljfhhljaaGreatZ11
import Derived.Test.YtbnaikljfhhljaaGreatZ12
import Derived.Test.YtbnaikljfhhljaaGreatZ9
import Derived.Test.YtbnaikljfhhljaaGreatZ8
import Derived.Test.YtbnaikljfhhljaaGreatZ7
import Derived.Test.YtbnaikljfhhljaaGreatZ10
namespace Go.Proofs.YtbnaikljfhhljaaGreat
open Go.RowKit
structure QcV (K:Nat) (w:World) (c:Lc) (v:CV):Prop where
 nm:c.nm=v.nm
 cost:QnT K w c.cost v.cost
 li:c.lo.i=v.li
 lq:QnT K w c.lo.v v.lq
 hi:c.hi.i=v.hi
 hq:QnT K w c.hi.v v.hq
structure QrV (K:Nat) (w:World) (r:Lr) (v:RV):Prop where
 nm:r.nm=v.nm
 li:r.lo.i=v.li
 lq:QnT K w r.lo.v v.lq
 hi:r.hi.i=v.hi
 hq:QnT K w r.hi.v v.hq
 tk:r.tk=v.ts.length
 tl:Tq K w r.ta v.ts
theorem QcV.below {K w w' c v} (h:QcV K w c v) (hb:Below w.heap.size w w'):QcV K w' c v:=⟨h.nm,h.cost.below hb,h.li,h.lq.below hb,h.hi,h.hq.below hb⟩
theorem QcV.kp {K w w' c v} (h:QcV K w c v) (hb:Kp w w'):QcV K w' c v:=⟨h.nm,h.cost.kp hb,h.li,h.lq.kp hb,h.hi,h.hq.kp hb⟩
theorem QrV.below {K w w' c v} (h:QrV K w c v) (hb:Below w.heap.size w w'):QrV K w' c v:=⟨h.nm,h.li,h.lq.below hb,h.hi,h.hq.below hb,h.tk,h.tl.below hb⟩
theorem Tq.of {K w w' ao l} (h:Tq K w ao l) (hb:l≠[]→∀b o s,ao=some ⟨b,o,s⟩→b<w.heap.size→w'.heap[b]?=w.heap[b]?) (hk:Kp w w'):Tq K w' ao l:=fun j a q hj=>by
 obtain ⟨b,o,t,e,⟨c0,c1,c2,c3⟩,h2⟩:=h j a q hj;have:=hb (fun e=>by rw [e] at hj;simp at hj) b o none e (World.block_lt_of_cell? w _ c0);exact ⟨b,o,t,e,⟨(World.cell?_of_block (a:=⟨b,o+j*4,none⟩) this).trans c0,(World.cell?_of_block (a:=⟨b,o+j*4+1,none⟩) this).trans c1,(World.cell?_of_block (a:=⟨b,o+j*4+2,none⟩) this).trans c2,(World.cell?_of_block (a:=⟨b,o+j*4+3,none⟩) this).trans c3⟩,h2.kp hk⟩
theorem Tq.lt {K w ao l} (h:Tq K w ao l) (hl:l≠[]):∀b o s,ao=some ⟨b,o,s⟩→b<w.heap.size:=fun b o s e=>by
 match l,hl with
 | (a,q) :: r,_ =>
  obtain ⟨b',o',t,e',h4,_⟩:=h 0 a q rfl;rw [e] at e';cases e'
  exact World.block_lt_of_cell? w _ h4.x0
theorem QrV.of {K w w' r v} (h:QrV K w r v) (hb:v.ts≠[]→∀b o s,r.ta=some ⟨b,o,s⟩→b<w.heap.size→w'.heap[b]?=w.heap[b]?) (hk:Kp w w'):QrV K w' r v:=⟨h.nm,h.li,h.lq.kp hk,h.hi,h.hq.kp hk,h.tk,h.tl.of hb hk⟩
structure MqV (K:Nat) (w:World) (M:Mo) (q:Rat) (cs:List CV) (rs:List RV):Prop where
 off:QnT K w M.off q
 ck:M.ck=cs.length
 rk:M.rk=rs.length
 cls:∀j v,cs[j]?=some v→(∃b o,M.ca=some ⟨b,o,none⟩∧Cs w b (o+j*12) (M.C j).vs)∧QcV K w (M.C j) v
 rls:∀j v,rs[j]?=some v→(∃b o,M.ra=some ⟨b,o,none⟩∧Cs w b (o+j*10) (M.R j).vs)∧QrV K w (M.R j) v
theorem MqV.below {K w w' M q cs rs} (h:MqV K w M q cs rs) (hb:Below w.heap.size w w'):MqV K w' M q cs rs :=
 ⟨h.off.below hb,h.ck,h.rk,fun j v e=>by obtain ⟨⟨b,o,h1,h2⟩,h3⟩:=h.cls j v e;exact ⟨⟨b,o,h1,h2.below hb⟩,h3.below hb⟩,fun j v e=>by obtain ⟨⟨b,o,h1,h2⟩,h3⟩:=h.rls j v e;exact ⟨⟨b,o,h1,h2.below hb⟩,h3.below hb⟩⟩
theorem Tryz.infoRC:(Tryz.prog.info? 69).map (fun i=>(i.zero,i.size,i.bytes))=some (some zC,12,200):=by kernel_rfl
theorem Tryz.infoRR:(Tryz.prog.info? 75).map (fun i=>(i.zero,i.size,i.bytes))=some (some zR,10,168):=by kernel_rfl
theorem bd_at {li lq hi hq} (h:bdB li lq hi hq=true):(li=0∨(li=-1∨li=1)∧lq=0)∧(hi=0∨(hi=-1∨hi=1)∧hq=0):=by
 simp only [bdB,Bool.and_eq_true,Bool.or_eq_true,decide_eq_true_eq] at h;exact ⟨by rcases h.1 with h | h;exact .inl h;exact .inr ⟨.inl h.1,h.2⟩,by rcases h.2 with h | h;exact .inl h;exact .inr ⟨.inr h.1,h.2⟩⟩
def FrNew (K:Nat) (w w':World) (e:Ending) (k:Nat) (v:List (Int × Rat)):Prop:=∃aw cw,e=.returned (.slice aw k cw)∧Below w.heap.size w w'∧(k≤cw∧cw≤9223372036854775807)∧(∀b o s,aw=some ⟨b,o,s⟩→w.heap.size≤b)∧Hid (Tq K w' aw v)
set_option maxRecDepth 100000 in
set_option maxHeartbeats 4000000 in
theorem fromTN_c {w:World} {L:Nat} {ao:Option Addr} {k cap:Nat} {col:Nat→Int} {T:Nat→Nm} {v:List (Int × Rat)} (h:Tl w ao k col T) (hk:k≤10000) (hL:L≤16000) (hlv:v.length=k) (hq:∀j,j<k→∃q,v[j]?=some (col j,q)∧Rn L w (T j).s (T j).x (T j).n (T j).c (T j).f (T j).y (T j).m (T j).d (T j).g q) :
  Calls Tryz.prog 45 #[.slice ao k cap] w fun e w'=>FrNew (2*L) w w' e k v:=by
 have H:=hid h;clear h;go_enter Tryz.func45,Tryz.ntmps45;go_wp2_with fail
 go_loopw [3,8] (fun ov t wr=>∃(i:Nat) (T':Nat→Nm),i≤k∧t=.int .i64 i∧Hid (Below w.heap.size w wr)∧Hid (RowG 122 4 w.heap.size wr ov i (tcells (tls i col T')))∧Hid (∀j,j<i→∃q,v[j]?=some (col j,q)∧QnT (2*L) wr (T' j) q)) (fun _ t _=>k-(intOf t).toNat)
 case atStart=>exact ⟨0,T,by omega,rfl,Below.refl _ _,rowG_nil _ _ _ _,fun j hj=>by omega⟩
 case round =>
  obtain ⟨i,T',hi,rfl,HB,HRow,HT⟩:=hrel;by_cases hlt:i<k
  ·obtain ⟨b,o,hao,hc,hn,hn1,hn2⟩:=(H.out.below HB.out) i hlt;obtain ⟨⟨s,x,n,c,f,y,m,d,g⟩,hTi⟩:∃t,T i=t:=⟨_,rfl⟩;subst hao;rw [hTi] at hc hn hn1 hn2;obtain ⟨z,hz⟩:∃z,col i=z:=⟨_,rfl⟩;rw [hz] at hc;obtain ⟨x0,x1,x2,x3⟩:=hc;replace x0:wr.cell? ⟨b,o+i*4,none⟩=some (.int .i64 z):=x0;replace x1:wr.cell? ⟨b,o+i*4+1,none⟩=some (.bool s):=x1;replace x2:wr.cell? ⟨b,o+i*4+2,none⟩=some (.slice x n c):=x2;replace x3:wr.cell? ⟨b,o+i*4+3,none⟩=some (.slice y m d):=x3;have i1:((i:Nat):Int)<((k:Nat):Int):=by omega
   obtain ⟨q,hvq,hrn⟩:=hq i hlt;rw [hTi] at hrn;replace hn:Rn L wr s x n c f y m d g q:=hrn.below HB.out;clear hn1 hn2;have HVq:=hid hvq;have HN:=hid hn;have HZ:=hid hz;have HTi:=hid hTi
   clear hn hz hTi;go_upto_region 5 with fail
   have hb5:=below_alloc (Below.refl wr.heap.size wr) (.cells #[.int .i64 z,.bool s,.slice x n c,.slice y m d] 88);have a0:(wr.alloc (.cells #[.int .i64 z,.bool s,.slice x n c,.slice y m d] 88)).cell? ⟨wr.heap.size,0,none⟩=some (.int .i64 z):=by simp [go_sem]
   have a1:(wr.alloc (.cells #[.int .i64 z,.bool s,.slice x n c,.slice y m d] 88)).cell? ⟨wr.heap.size,1,none⟩=some (.bool s):=by simp [go_sem]
   have a2:(wr.alloc (.cells #[.int .i64 z,.bool s,.slice x n c,.slice y m d] 88)).cell? ⟨wr.heap.size,2,none⟩=some (.slice x n c):=by simp [go_sem]
   have a3:(wr.alloc (.cells #[.int .i64 z,.bool s,.slice x n c,.slice y m d] 88)).cell? ⟨wr.heap.size,3,none⟩=some (.slice y m d):=by simp [go_sem]
   have hne:u3.ownBlock≠some wr.heap.size:=fun e=>by have:=(HRow.out.lt _ e).2;omega
   replace HN:=hid (HN.out.below hb5);replace HRow:=hid (HRow.out.below hb5)
   replace HT:Hid (∀j,j<i→∃q,v[j]?=some (col j,q)∧QnT (2*L) (wr.alloc (.cells #[.int .i64 z,.bool s,.slice x n c,.slice y m d] 88)) (T' j) q):=fun j hj=>by obtain ⟨q,h1,h2⟩:=HT.out j hj;exact ⟨q,h1,h2.below hb5⟩
   replace HB:=hid (HB.out.trans (hb5.mono HB.out.size));clear x0 x1 x2 x3 hb5;have hsz:w.heap.size≤(wr.alloc (.cells #[.int .i64 z,.bool s,.slice x n c,.slice y m d] 88)).heap.size:=HB.out.size;generalize wr.alloc (.cells #[.int .i64 z,.bool s,.slice x n c,.slice y m d] 88)=w5 at *;have CT:Hid (∀W,Below w5.heap.size w5 W→Calls Tryz.prog 23 #[.agg #[.bool s,.slice x n c,.slice y m d]] W fun e w'=>∃s6 x6 n6 c6 d6 y6 m6 e6 g6,e=.returned (.agg #[.bool s6,.slice x6 n6 c6,.slice y6 m6 e6])∧Below W.heap.size W w'∧Hid (n6≤2*L∧m6≤2*L∧Qn w' s6 x6 n6 d6 y6 m6 g6 q)):=fun W hW=>(qFrom_c (HN.out.below hW) (by omega)).mono (fun _ _ ⟨s,x,n,c,d,y,m,c',g,h1,h2,h3,h4,h5⟩=>⟨s,x,n,c,d,y,m,c',g,h1,h2,h3,h4,h5⟩)
   go_region_held3 (fun w'=>w'.cell? ⟨wr.heap.size,0,none⟩=some (.int .i64 z)∧w'.cell? ⟨wr.heap.size,1,none⟩=some (.bool s)∧w'.cell? ⟨wr.heap.size,2,none⟩=some (.slice x n c)∧w'.cell? ⟨wr.heap.size,3,none⟩=some (.slice y m d))
    (refine ⟨?_,?_,?_,?_⟩ <;> repeat (with_reducible first | assumption | refine kCd ?_ | refine kCa ?_ | refine kCb (by assumption) ?_))
    (first
     | (go_at_call 23;with_reducible refine (CT.out _ belA).mono ?_;rintro e w6 ⟨s6,x6,n6,c6,d6,y6,m6,e6,g6,rfl,hb6,HQ⟩;have B6:Below w5.heap.size w5 w6:=belA;have HRow6:=HRow.out.below B6;have hz6:w.heap.size≤w6.heap.size:=Nat.le_trans hsz B6.size;have a06:=kCb B6 a0;have a16:=kCb B6 a1;have a26:=kCb B6 a2;have a36:=kCb B6 a3;have hlt6:=World.block_lt_of_cell? w6 _ a06)
     | (refine step_append_one w6 rfl (.tmp 12) (.tmp 19) 73 rfl w.heap.size 122 64 4 (.agg #[.int .i64 0,.bool false,.slice none 0 0,.slice none 0 0]) Tryz.underlying73 Tryz.infoTq rfl (by decide) nz4 u3 i (tcells (tls i col T')) rfl HRow6 #[.int .i64 z,.bool s6,.slice x6 n6 c6,.slice y6 m6 e6] rfl rfl (one4 _ _ _ _ _ _ _ _) (not4 _ _ _ _ _ _ _ _) ?p1 (by decide) hz6 ?_;(case p1=>omega);intro g8 cap8 w8 hr8 hk8 hb8 hg8;have h88:=hg8 wr.heap.size hlt6 hne;have a08:=(World.cell?_of_block (a:=⟨wr.heap.size,0,none⟩) h88).trans a06;have a18:=(World.cell?_of_block (a:=⟨wr.heap.size,1,none⟩) h88).trans a16;have a28:=(World.cell?_of_block (a:=⟨wr.heap.size,2,none⟩) h88).trans a26;have a38:=(World.cell?_of_block (a:=⟨wr.heap.size,3,none⟩) h88).trans a36))
   all_goals
    (have HB8:=hid (hb8 w (HB.out.trans (B6.mono HB.out.size)) (Nat.le_refl _))
     have HR8:Hid (RowG 122 4 w.heap.size w8 (.slice (some ⟨g8,0,none⟩) (i+1) cap8) (i+1) (tcells (tls (i+1) col (putN T' i ⟨s6,x6,n6,c6,d6,y6,m6,e6,g6⟩)))):=by
      show RowG _ _ _ _ _ _ _;rw [tls_put,HZ.out];exact hr8
     have HT8:Hid (∀j,j<i+1→∃q,v[j]?=some (col j,q)∧QnT (2*L) w8 (putN T' i ⟨s6,x6,n6,c6,d6,y6,m6,e6,g6⟩ j) q):=fun j hj=>by
      by_cases e:j=i
      ·subst e;rw [putN_at];exact ⟨q,HVq.out,QnT.kp (t:=⟨s6,x6,n6,c6,d6,y6,m6,e6,g6⟩) HQ.out hk8⟩
      ·rw [putN_ne e];obtain ⟨q,h1,h2⟩:=HT.out j (by omega);exact ⟨q,h1,(h2.below B6).kp hk8⟩
     clear hr8 hk8 hb8 hg8 h88 a08 a18 a28 a38 a06 a16 a26 a36 hlt6 hne HRow6 B6 hb6 HQ HRow HT HB CT a0 a1 a2 a3 HN hz6;go_wp2;go_roundw
     case rel=>exact ⟨i+1,_,by omega,by go_num,HB8.out,HR8.out,HT8.out⟩
     case measure=>simp [intOf];omega)
  ·have e1:i=k:=by omega
   have i1:¬(((i:Nat):Int)<((k:Nat):Int)):=by omega
   rw [e1] at HRow HT;obtain ⟨aw,cw,rfl⟩:=HRow.out.slice;have hcw:k≤cw∧cw≤9223372036854775807:=by
    rcases HRow.out.2 with ⟨hv,h0⟩ | ⟨_,_,_,hv,_,_,h5,h6,_⟩
    ·cases hv;omega
    ·cases hv;unfold maxLen at h6;omega
   clear e1;go_wp2;go_ret;exact ⟨aw,cw,rfl,HB.out,hcw,(fun b o s e=>(HRow.out.lt b (by rw [e];rfl)).1),(fun j a q hj=>by have hlt2:j<k:=by { have:=(List.getElem?_eq_some_iff.1 hj).1;omega };obtain ⟨b,hb,h4⟩:=rowg_c4 HRow.out hlt2;obtain ⟨q',h5,h6⟩:=HT.out j hlt2;rw [hj] at h5;obtain ⟨rfl,rfl⟩:a=col j∧q=q':=by { simpa using h5 };exact ⟨b,0,T' j,hb,h4,h6⟩)⟩
def FN (K:Nat) (q:Rat) (v:Value) (w:World):Prop:=∃t':Nm,v=t'.val∧QnT K w t' q
def FE (K:Nat) (i:Int) (q:Rat) (v:Value) (w:World):Prop:=∃e':Ex,v=e'.val∧e'.i=i∧QnT K w e'.v q
def FC (K:Nat) (cv:CV) (v:Value) (w:World):Prop:=∃c':Lc,v=.agg c'.vs.toArray∧QcV K w c' cv
def FCs (K:Nat) (cv:CV) (v:Value) (w:World):Prop:=∃b,∃c':Lc,v=.slice (some ⟨b,0,none⟩) 1 1∧Cs w b 0 c'.vs∧QcV K w c' cv
def FT (K base tk:Nat) (ts:List (Int × Rat)) (v:Value) (w:World):Prop:=∃aw cw,v=.slice aw tk cw∧(∀b o s,aw=some ⟨b,o,s⟩→base≤b)∧Tq K w aw ts
def FR (K base:Nat) (rv:RV) (v:Value) (w:World):Prop:=∃r':Lr,v=.agg r'.vs.toArray∧QrV K w r' rv∧∀b o s,r'.ta=some ⟨b,o,s⟩→base≤b
def FRs (K base:Nat) (rv:RV) (v:Value) (w:World):Prop:=∃b,∃r':Lr,v=.slice (some ⟨b,0,none⟩) 1 1∧Cs w b 0 r'.vs∧QrV K w r' rv∧∀b o s,r'.ta=some ⟨b,o,s⟩→base≤b
theorem FN.below {K t v w w'} (h:FN K t v w) (hb:Below w.heap.size w w'):FN K t v w':=by obtain ⟨t',h1,h2⟩:=h;exact ⟨t',h1,h2.below hb⟩
theorem FE.below {K i t v w w'} (h:FE K i t v w) (hb:Below w.heap.size w w'):FE K i t v w':=by obtain ⟨t',h1,h2,h3⟩:=h;exact ⟨t',h1,h2,h3.below hb⟩
theorem FC.below {K t v w w'} (h:FC K t v w) (hb:Below w.heap.size w w'):FC K t v w':=by obtain ⟨t',h1,h2⟩:=h;exact ⟨t',h1,h2.below hb⟩
theorem FCs.below {K t v w w'} (h:FCs K t v w) (hb:Below w.heap.size w w'):FCs K t v w':=by obtain ⟨b,t',h1,h2,h3⟩:=h;exact ⟨b,t',h1,h2.below hb,h3.below hb⟩
theorem FT.below {K base tk ts v w w'} (h:FT K base tk ts v w) (hb:Below w.heap.size w w'):FT K base tk ts v w':=by obtain ⟨aw,cw,h1,h2,h3⟩:=h;exact ⟨aw,cw,h1,h2,h3.below hb⟩
theorem FR.below {K base t v w w'} (h:FR K base t v w) (hb:Below w.heap.size w w'):FR K base t v w':=by obtain ⟨t',h1,h2,h3⟩:=h;exact ⟨t',h1,h2.below hb,h3⟩
theorem FRs.below {K base t v w w'} (h:FRs K base t v w) (hb:Below w.heap.size w w'):FRs K base t v w':=by obtain ⟨b,t',h1,h2,h3,h4⟩:=h;exact ⟨b,t',h1,h2.below hb,h3.below hb,h4⟩
structure FrC (w:World) (base b1 b2 b3:Nat) (P Z:List Value) (so:Bool) (zx:Option Addr) (zn zc:Nat) (zy:Option Addr) (zm zd:Nat) (oN:Nm) (K:Nat) (q:Rat) (cs:List CV) (wr:World) (i:Nat) (C':Nat→Lc) (vC:Value):Prop where
 bel:Below w.heap.size w wr
 p1:Bk wr b1 P 28
 p2:Bk wr b2 Z 64
 p3:Bk wr b3 [.bool so,.slice zx zn zc,.slice zy zm zd,vC,.slice none 0 0] 64
 bs:base≤wr.heap.size
 off:QnT K wr oN q
 row:RowG 69 12 base wr vC i (ccs C' i)
 el:∀j v,j<i→cs[j]?=some v→QcV K wr (C' j) v
theorem FrC.below {w base b1 b2 b3 P Z so zx zn zc zy zm zd oN K q cs wr i C' vC w'} (h:FrC w base b1 b2 b3 P Z so zx zn zc zy zm zd oN K q cs wr i C' vC) (hb:Below wr.heap.size wr w'):FrC w base b1 b2 b3 P Z so zx zn zc zy zm zd oN K q cs w' i C' vC :=
 ⟨h.bel.trans (hb.mono h.bel.size),h.p1.below hb,h.p2.below hb,h.p3.below hb,Nat.le_trans h.bs hb.size,h.off.below hb,h.row.below hb,fun j v hj e=>(h.el j v hj e).below hb⟩
theorem FrC.next {w base b1 b2 b3 P Z so zx zn zc zy zm zd oN K q cs wr i C' vC w8 g8 cap8} {c' : Lc} (h : FrC w base b1 b2 b3 P Z so zx zn zc zy zm zd oN K q cs wr i C' vC) (h12 : b1 < b2) (h23 : b2 < b3) (h3b : b3 < base) (hwb : w.heap.size ≤ b1) (hc : ∀ v, cs[i]? = some v → QcV K wr c' v)
    (hr : RowG 69 12 base w8 (.slice (some ⟨g8, 0, none⟩) (i + 1) cap8) (i + 1) (ccs C' i ++ c'.vs)) (hk : Kp wr w8) (hg : wr.grownBy w8 vC.ownBlock) :
    FrC w base b1 b2 b3 P Z so zx zn zc zy zm zd oN K q cs (w8.setCell ⟨b3, 3, none⟩ (.slice (some ⟨g8, 0, none⟩) (i + 1) cap8)) (i + 1) (putC C' i c') (.slice (some ⟨g8, 0, none⟩) (i + 1) cap8) := by
  have hbs := h.bs
  have hlt : ∀ k, k < base → w8.heap[k]? = wr.heap[k]? := fun k hk => hg.block k (by omega) (fun e => by have := (h.row.lt k e.symm).1; omega)
  have hset : ∀ k, k ≠ b3 → (w8.setCell ⟨b3, 3, none⟩ (.slice (some ⟨g8, 0, none⟩) (i + 1) cap8)).heap[k]? = w8.heap[k]? := fun k hk => Below.heap_setCell _ _ _ _ hk
  have hp3 : Bk w8 b3 [.bool so, .slice zx zn zc, .slice zy zm zd, vC, .slice none 0 0] 64 := h.p3.of (hlt b3 h3b)
  have hg8 := (hr.lt g8 rfl).1
  have hk9 : Kp wr (w8.setCell ⟨b3, 3, none⟩ (.slice (some ⟨g8, 0, none⟩) (i + 1) cap8)) := hk.set (x := ⟨b3, 3, none⟩) hp3 (by obtain ⟨aw, cw, e⟩ := h.row.slice; rw [e]; exact nou5 _ _ _ _ _ _ _ _ _ _ _ _ _) _
  refine ⟨?_, h.p1.of ((hset b1 (by omega)).trans (hlt b1 (by omega))), h.p2.of ((hset b2 (by omega)).trans (hlt b2 (by omega))), hp3.set 3 _, Nat.le_trans hbs hk9.size, h.off.kp hk9, ?_, fun j v hj ev => ?_⟩
  · have h8 : Below w.heap.size w w8 := h.bel.grown hg (by have := h.bel.size; omega) (fun k e => by have := (h.row.lt k e).1; omega)
    exact below_turned h8 h8.size ((Turned.refl w.heap.size (b3 + 1) w8).set (x := ⟨b3, 3, none⟩) (by show w.heap.size ≤ b3; omega) (by simp) _) (Nat.le_refl _)
  · rw [ccs_put]
    exact hr.of (fun k hk => hset k (fun e => by have : g8 = k := by simpa [Value.ownBlock] using hk
                                                 omega))
  · by_cases e : j = i
    · subst e; rw [putC_at]; exact (hc v ev).kp hk9
    · rw [putC_ne e]; exact (h.el j v (by omega) ev).kp hk9
structure FrR (w:World) (base base2 b2 b3:Nat) (Z:List Value) (so:Bool) (zx:Option Addr) (zn zc:Nat) (zy:Option Addr) (zm zd:Nat) (oN:Nm) (K:Nat) (q:Rat) (cs:List CV) (ck:Nat) (C':Nat→Lc) (vC:Value) (rs:List RV) (wr:World) (i:Nat) (R':Nat→Lr) (vR:Value):Prop where
 bel:Below w.heap.size w wr
 p2:Bk wr b2 Z 64
 p3:Bk wr b3 [.bool so,.slice zx zn zc,.slice zy zm zd,vC,vR] 64
 bs:base2≤wr.heap.size
 off:QnT K wr oN q
 rowC:RowG 69 12 base wr vC ck (ccs C' ck)
 elC:∀j v,j<ck→cs[j]?=some v→QcV K wr (C' j) v
 nv:∀k,vC.ownBlock=some k→k<base2
 row:RowG 75 10 base2 wr vR i (rcs R' i)
 el:∀j v,j<i→rs[j]?=some v→QrV K wr (R' j) v∧(v.ts≠[]→∀b o s,(R' j).ta=some ⟨b,o,s⟩→base2≤b∧vR.ownBlock≠some b)
theorem FrR.below {w base base2 b2 b3 Z so zx zn zc zy zm zd oN K q cs ck C' vC rs wr i R' vR w'} (h:FrR w base base2 b2 b3 Z so zx zn zc zy zm zd oN K q cs ck C' vC rs wr i R' vR) (hb:Below wr.heap.size wr w'):FrR w base base2 b2 b3 Z so zx zn zc zy zm zd oN K q cs ck C' vC rs w' i R' vR :=
 ⟨h.bel.trans (hb.mono h.bel.size),h.p2.below hb,h.p3.below hb,Nat.le_trans h.bs hb.size,h.off.below hb,h.rowC.below hb,fun j v hj e=>(h.elC j v hj e).below hb,h.nv,h.row.below hb,fun j v hj e=>⟨(h.el j v hj e).1.below hb,(h.el j v hj e).2⟩⟩
theorem FrR.next {w base base2 b2 b3 Z so zx zn zc zy zm zd oN K q cs ck C' vC rs wr i R' vR w8 g8 cap8} {r' : Lr} (h : FrR w base base2 b2 b3 Z so zx zn zc zy zm zd oN K q cs ck C' vC rs wr i R' vR) (h23 : b2 < b3) (h3b : b3 < base2) (hbb : b3 < base) (hwb : w.heap.size ≤ b2) (hc : ∀ v, rs[i]? = some v → QrV K wr r' v)
    (hta : ∀ b o s, r'.ta = some ⟨b, o, s⟩ → base2 ≤ b ∧ vR.ownBlock ≠ some b)
    (hr : RowG 75 10 base2 w8 (.slice (some ⟨g8, 0, none⟩) (i + 1) cap8) (i + 1) (rcs R' i ++ r'.vs)) (hk : Kp wr w8) (hg : wr.grownBy w8 vR.ownBlock) (hl : vR.ownBlock = some g8 ∨ wr.heap.size ≤ g8) :
    FrR w base base2 b2 b3 Z so zx zn zc zy zm zd oN K q cs ck C' vC rs (w8.setCell ⟨b3, 4, none⟩ (.slice (some ⟨g8, 0, none⟩) (i + 1) cap8)) (i + 1) (putR' R' i r') (.slice (some ⟨g8, 0, none⟩) (i + 1) cap8) := by
  have hbs := h.bs
  have hlt : ∀ k, k < base2 → w8.heap[k]? = wr.heap[k]? := fun k hk => hg.block k (by omega) (fun e => by have := (h.row.lt k e.symm).1; omega)
  have hset : ∀ k, k ≠ b3 → (w8.setCell ⟨b3, 4, none⟩ (.slice (some ⟨g8, 0, none⟩) (i + 1) cap8)).heap[k]? = w8.heap[k]? := fun k hk => Below.heap_setCell _ _ _ _ hk
  have hp3 : Bk w8 b3 [.bool so, .slice zx zn zc, .slice zy zm zd, vC, vR] 64 := h.p3.of (hlt b3 h3b)
  have hg8 := (hr.lt g8 rfl).1
  have hk9 : Kp wr (w8.setCell ⟨b3, 4, none⟩ (.slice (some ⟨g8, 0, none⟩) (i + 1) cap8)) := hk.set (x := ⟨b3, 4, none⟩) hp3 (by obtain ⟨aw, cw, e⟩ := h.row.slice; obtain ⟨aw2, cw2, e2⟩ := h.rowC.slice; rw [e, e2]; exact nou5 _ _ _ _ _ _ _ _ _ _ _ _ _) _
  have hta8 : ∀ (r : Lr) (v : RV), QrV K wr r v → (v.ts ≠ [] → ∀ b o s, r.ta = some ⟨b, o, s⟩ → base2 ≤ b ∧ vR.ownBlock ≠ some b) → QrV K (w8.setCell ⟨b3, 4, none⟩ (.slice (some ⟨g8, 0, none⟩) (i + 1) cap8)) r v ∧ (v.ts ≠ [] → ∀ b o s, r.ta = some ⟨b, o, s⟩ → base2 ≤ b ∧ (Value.slice (some ⟨g8, 0, none⟩) (i + 1) cap8).ownBlock ≠ some b) := fun r v h1 h2 => by
    refine ⟨h1.of (fun h3 b o s e hb => ?_) hk9, fun h3 b o s e => ?_⟩
    · obtain ⟨k1, k2⟩ := h2 h3 b o s e
      rw [hset b (by omega)]
      exact hg.block b hb (fun e => k2 e.symm)
    · obtain ⟨k1, k2⟩ := h2 h3 b o s e
      refine ⟨k1, fun e2 => ?_⟩
      have e3 : g8 = b := by simpa [Value.ownBlock] using e2
      rcases hl with h4 | h4
      · exact k2 (e3 ▸ h4)
      · have := h1.tl.lt h3 b o s e; omega
  refine ⟨?_, h.p2.of ((hset b2 (by omega)).trans (hlt b2 (by omega))), hp3.set 4 _, Nat.le_trans hbs hk9.size, h.off.kp hk9, h.rowC.of (fun k hk => ?_), fun j v hj e => (h.elC j v hj e).kp hk9, h.nv, ?_, fun j v hj ev => ?_⟩
  · have h8 : Below w.heap.size w w8 := h.bel.grown hg (by have := h.bel.size; omega) (fun k e => by have := (h.row.lt k e).1; omega)
    exact below_turned h8 h8.size ((Turned.refl w.heap.size (b3 + 1) w8).set (x := ⟨b3, 4, none⟩) (by show w.heap.size ≤ b3; omega) (by simp) _) (Nat.le_refl _)
  · have := (h.rowC.lt k hk).1
    rw [hset k (by omega)]; exact hlt k (h.nv k hk)
  · rw [rcs_put]
    exact hr.of (fun k hk => hset k (fun e => by have : g8 = k := by simpa [Value.ownBlock] using hk
                                                 omega))
  · by_cases e : j = i
    · subst e; rw [putR'_at]; exact hta8 r' v (hc v ev) (fun _ => hta)
    · rw [putR'_ne e]; exact hta8 _ v (h.el j v (by omega) ev).1 (h.el j v (by omega) ev).2
theorem FrR.done {w base base2 b2 b3 so zx zn zc zy zm zd oN K q cs ck C' rs rk R' wr aC cC aR cR w9 v0 v1 v2 v3 v4} (h:FrR w base base2 b2 b3 [.bool false,.slice none 0 0,.slice none 0 0,.slice none 0 0,.slice none 0 0] so zx zn zc zy zm zd oN K q cs ck C' (.slice aC ck cC) rs wr rk R' (.slice aR rk cR)) (h2:b2<base) (h22:b2<base2) (hwb:w.heap.size≤b2)
  (e:w9=((((wr.setCell ⟨b2,0,none⟩ v0).setCell ⟨b2,1,none⟩ v1).setCell ⟨b2,2,none⟩ v2).setCell ⟨b2,3,none⟩ v3).setCell ⟨b2,4,none⟩ v4) (hck:ck=cs.length) (hrk:rk=rs.length) :
  Below w.heap.size w w9∧MqV K w9 ⟨oN,aC,ck,cC,C',aR,rk,cR,R'⟩ q cs rs:=by
 obtain ⟨hk,hne⟩:=kp_st5 h.p2 (nou5 _ _ _ _ _ _ _ _ _ _ _ _ _) e;refine ⟨by rw [e];exact below_st5 h.bel hwb,h.off.kp hk,hck,hrk,fun j v hv=>?_,fun j v hv=>?_⟩
 ·have hj:j<ck:=by rw [hck];exact (List.getElem?_eq_some_iff.1 hv).1
  rcases h.rowC.2 with ⟨_,h0⟩ | ⟨gb,cap,cur,hv',hb,_⟩
  ·exact absurd hj (by rw [h0];exact Nat.not_lt_zero _)
  ·have hr:=h.rowC.of (w':=w9) (fun k hk=>hne k (by have:=(h.rowC.lt k hk).1;omega));cases hv'
   refine ⟨⟨gb,0,rfl,fun p u hp=>?_⟩,(h.elC j v hj hv).kp hk⟩;rw [Nat.zero_add];exact hr.cells (ccs_get hp hj)
 ·have hj:j<rk:=by rw [hrk];exact (List.getElem?_eq_some_iff.1 hv).1
  rcases h.row.2 with ⟨_,h0⟩ | ⟨gb,cap,cur,hv',hb,_⟩
  ·exact absurd hj (by rw [h0];exact Nat.not_lt_zero _)
  ·have hr:=h.row.of (w':=w9) (fun k hk=>hne k (by have:=(h.row.lt k hk).1;omega));cases hv'
   refine ⟨⟨gb,0,rfl,fun p u hp=>?_⟩,(h.el j v hj hv).1.of (fun h3 b o s e _=>hne b (by have:=((h.el j v hj hv).2 h3 b o s e).1;omega)) hk⟩;rw [Nat.zero_add];exact hr.cells (rcs_get hp hj)
set_option maxRecDepth 100000 in
set_option maxHeartbeats 8000000 in
theorem mFrom_c {w:World} {M:Mo} {L:Nat} {q:Rat} {cs:List CV} {rs:List RV} (h:MoV L w M q cs rs) (hL:L≤1000) (hok:mvOk cs rs=true):Calls Tryz.prog 21 #[M.val] w fun e w'=>∃M':Mo,e=.returned M'.val∧Below w.heap.size w w'∧MqV (2*L) w' M' q cs rs:=by
 generalize hP:(fun (e:Ending) (w':World)=>∃M':Mo,e=.returned M'.val∧Below w.heap.size w w'∧MqV (2*L) w' M' q cs rs)=P;have HA:Hid (∀w' (M':Mo),Below w.heap.size w w'→MqV (2*L) w' M' q cs rs→P (.returned M'.val) w'):=by subst hP;exact fun w' M' h1 h2=>⟨M',rfl,h1,h2⟩
 clear hP;simp only [mvOk,Bool.and_eq_true,decide_eq_true_eq,List.all_eq_true] at hok;obtain ⟨hck,hrk,hbc,hbr,_⟩:=hok;have HBC:=hid hbc;have HBR:=hid hbr
 have hlc:=h.ck;have hlr:=h.rk
 obtain ⟨ho,hx1,hx2,hC,hR⟩:=h;clear hx1 hx2;obtain ⟨⟨s,x,n,c,f,y,m,d,g⟩,ca,ck,cc,C,ra,rk,rc,R⟩:=M;replace hlc:ck=cs.length:=hlc;replace hlr:rk=rs.length:=hlr;rw [←hlc] at hck;rw [←hlr] at hrk;have HC:Hid (∀j v,cs[j]?=some v→(∃b o,ca=some ⟨b,o,none⟩∧Cs w b (o+j*12) (C j).vs)∧ColV L w (C j) v):=hC;have HRL:Hid (∀j v,rs[j]?=some v→(∃b o,ra=some ⟨b,o,none⟩∧Cs w b (o+j*10) (R j).vs)∧RowV L w (R j) v):=hR;have CO:=hid (fun w' (hw:Below w.heap.size w w')=>qFrom_c (w:=w') (ho.below hw) (Nat.le_trans hL (by decide)));replace CO:Hid (∀w' (hw:Below w.heap.size w w'),Calls Tryz.prog 23 #[.agg #[.bool s,.slice x n c,.slice y m d]] w' fun e w2=>∃s x n c d y m c' g,e=.returned (.agg #[.bool s,.slice x n c,.slice y m c'])∧Below w'.heap.size w' w2∧n≤2*L∧m≤2*L∧Qn w2 s x n d y m g q):=CO;have HLC:=hid hlc;have HLR:=hid hlr
 clear ho hC hR hbc hbr hlc hlr;show Calls Tryz.prog 21 #[.agg #[.bool s,.slice x n c,.slice y m d,.slice ca ck cc,.slice ra rk rc]] w _;go_enter Tryz.func21,Tryz.ntmps21;go_wp2_with fail
 have hb1:=below_alloc (below_alloc (Below.refl w.heap.size w) (.cells #[.bool s,.slice x n c,.slice y m d,.slice ca ck cc,.slice ra rk rc] 28)) (.cells #[.bool false,.slice none 0 0,.slice none 0 0,.slice none 0 0,.slice none 0 0] 64);have B1:=(bk_new w [.bool s,.slice x n c,.slice y m d,.slice ca ck cc,.slice ra rk rc] 28).below (below_alloc (Below.refl _ _) (.cells #[.bool false,.slice none 0 0,.slice none 0 0,.slice none 0 0,.slice none 0 0] 64));have B2:=bk_new (w.alloc (.cells #[.bool s,.slice x n c,.slice y m d,.slice ca ck cc,.slice ra rk rc] 28)) [.bool false,.slice none 0 0,.slice none 0 0,.slice none 0 0,.slice none 0 0] 64;rw [size_alloc1] at B2;replace B1:Bk ((w.alloc (.cells #[.bool s,.slice x n c,.slice y m d,.slice ca ck cc,.slice ra rk rc] 28)).alloc (.cells #[.bool false,.slice none 0 0,.slice none 0 0,.slice none 0 0,.slice none 0 0] 64)) w.heap.size [.bool s,.slice x n c,.slice y m d,.slice ca ck cc,.slice ra rk rc] 28:=B1;replace B2:Bk ((w.alloc (.cells #[.bool s,.slice x n c,.slice y m d,.slice ca ck cc,.slice ra rk rc] 28)).alloc (.cells #[.bool false,.slice none 0 0,.slice none 0 0,.slice none 0 0,.slice none 0 0] 64)) (w.heap.size+1) [.bool false,.slice none 0 0,.slice none 0 0,.slice none 0 0,.slice none 0 0] 64:=B2;generalize (w.alloc (.cells #[.bool s,.slice x n c,.slice y m d,.slice ca ck cc,.slice ra rk rc] 28)).alloc (.cells #[.bool false,.slice none 0 0,.slice none 0 0,.slice none 0 0,.slice none 0 0] 64)=w1 at *;refine (CO.out _ hb1).mono ?_;rintro e w2 ⟨sz,z2,nz,c2,fz,y2,mz,d2,gz,rfl,hb2,hq1,hq2,hq⟩;have B3:=bk_new w2 [.bool sz,.slice z2 nz c2,.slice y2 mz d2,.slice none 0 0,.slice none 0 0] 64;have hb3:=below_alloc (Below.refl w2.heap.size w2) (.cells #[.bool sz,.slice z2 nz c2,.slice y2 mz d2,.slice none 0 0,.slice none 0 0] 64);have l1:=B1.lt;have l2:=B2.lt;have l3:=hb2.size
 replace B1:=(B1.below hb2).below hb3;replace B2:=(B2.below hb2).below hb3
 have HB3:=hid ((hb1.trans (hb2.mono hb1.size)).trans (hb3.mono (Nat.le_trans hb1.size hb2.size)));have HQ:Hid (QnT (2*L) (w2.alloc (.cells #[.bool sz,.slice z2 nz c2,.slice y2 mz d2,.slice none 0 0,.slice none 0 0] 64)) ⟨sz,z2,nz,c2,fz,y2,mz,d2,gz⟩ q):=⟨hq1,hq2,hq.below hb3⟩;have k3:=B1.cell (j:=3) rfl;have HB1:=hid B1;have HB2:=hid B2
 obtain ⟨b3,hb3e⟩:∃z,w2.heap.size=z:=⟨_,rfl⟩;have hl3:w.heap.size+1<b3:=by omega
 have hbs:b3<(w2.alloc (.cells #[.bool sz,.slice z2 nz c2,.slice y2 mz d2,.slice none 0 0,.slice none 0 0] 64)).heap.size:=by simp;omega
 clear hb1 hb2 hb3 B1 B2 CO hq hq1 hq2 l1 l2 l3;go_wp2_with fail
 generalize w2.alloc (.cells #[.bool sz,.slice z2 nz c2,.slice y2 mz d2,.slice none 0 0,.slice none 0 0] 64)=w3 at *;rw [hb3e] at B3;obtain ⟨base,hbase⟩:∃z,w3.heap.size=z:=⟨_,rfl⟩;have hbb:b3<base:=by omega
 have HI0:Hid (FrC w base w.heap.size (w.heap.size+1) b3 [.bool s,.slice x n c,.slice y m d,.slice ca ck cc,.slice ra rk rc] [.bool false,.slice none 0 0,.slice none 0 0,.slice none 0 0,.slice none 0 0] sz z2 nz c2 y2 mz d2 ⟨sz,z2,nz,c2,fz,y2,mz,d2,gz⟩ (2*L) q cs w3 0 C (.slice none 0 0)):=⟨HB3.out,HB1.out,HB2.out,B3,by omega,HQ.out,rowG_nil _ _ _ _,fun j v hj=>by omega⟩;clear HB3 HB1 HB2 B3 HQ k3 hb3e hbs hbase;go_loopw [15] (fun t wr=>∃(i:Nat) (C':Nat→Lc) (vC:Value),i≤ck∧t=.int .i64 i∧Hid (FrC w base w.heap.size (w.heap.size+1) b3 [.bool s,.slice x n c,.slice y m d,.slice ca ck cc,.slice ra rk rc] [.bool false,.slice none 0 0,.slice none 0 0,.slice none 0 0,.slice none 0 0] sz z2 nz c2 y2 mz d2 ⟨sz,z2,nz,c2,fz,y2,mz,d2,gz⟩ (2*L) q cs wr i C' vC)) (fun t _=>ck-(intOf t).toNat)
 case atStart=>exact ⟨0,C,_,by omega,rfl,HI0.out⟩
 case round =>
  obtain ⟨i,C',vC,hi,rfl,HI⟩:=hrel;clear HI0;by_cases hlt:i<ck
  ·obtain ⟨cv,hcv⟩:∃v,cs[i]?=some v:=⟨_,List.getElem?_eq_getElem (by rw [←HLC.out];exact hlt)⟩;obtain ⟨⟨b,o,rfl,hc0⟩,hn0'⟩:=HC.out i cv hcv;have hc:=hc0.below HI.out.bel;have hn:=hn0'.below HI.out.bel;have hbd:=bd_at (HBC.out cv (List.mem_of_getElem? hcv));have HCV:=hid hcv;clear hc0 hn0' hcv;obtain ⟨cN,hcN⟩:∃t,C i=t:=⟨_,rfl⟩;rw [hcN] at hc hn;have HCN:=hid hcN;obtain ⟨z,⟨s0,x0,n0,c0,f0,y0,m0,d0,g0⟩,⟨i1,⟨s1,x1,n1,c1,f1,y1,m1,d1,g1⟩⟩,⟨i2,⟨s2,x2,n2,c2',f2,y2',m2,d2',g2⟩⟩⟩:=cN;obtain ⟨vnm,vcost,vli,vlq,vhi,vhq⟩:=cv;obtain ⟨hnm,hn0,hli,hn1,hhi,hn2⟩:=hn;replace hnm:z=vnm:=hnm;replace hli:i1=vli:=hli;replace hhi:i2=vhi:=hhi;subst hnm;subst hli;subst hhi
   have q0:wr.cell? ⟨b,o+i*12,none⟩=some (.string z):=hc 0 _ rfl;have q1:wr.cell? ⟨b,o+i*12+1,none⟩=some (.bool s0):=hc 1 _ rfl;have q2:wr.cell? ⟨b,o+i*12+2,none⟩=some (.slice x0 n0 c0):=hc 2 _ rfl;have q3:wr.cell? ⟨b,o+i*12+3,none⟩=some (.slice y0 m0 d0):=hc 3 _ rfl;have q4:wr.cell? ⟨b,o+i*12+4,none⟩=some (.int .i64 i1):=hc 4 _ rfl;have q5:wr.cell? ⟨b,o+i*12+5,none⟩=some (.bool s1):=hc 5 _ rfl;have q6:wr.cell? ⟨b,o+i*12+6,none⟩=some (.slice x1 n1 c1):=hc 6 _ rfl;have q7:wr.cell? ⟨b,o+i*12+7,none⟩=some (.slice y1 m1 d1):=hc 7 _ rfl;have q8:wr.cell? ⟨b,o+i*12+8,none⟩=some (.int .i64 i2):=hc 8 _ rfl;have q9:wr.cell? ⟨b,o+i*12+9,none⟩=some (.bool s2):=hc 9 _ rfl;have q10:wr.cell? ⟨b,o+i*12+10,none⟩=some (.slice x2 n2 c2'):=hc 10 _ rfl;have q11:wr.cell? ⟨b,o+i*12+11,none⟩=some (.slice y2' m2 d2'):=hc 11 _ rfl;have HN0:Hid (Rn L wr s0 x0 n0 c0 f0 y0 m0 d0 g0 vcost):=hn0;have HN1:Hid (En L wr i1 s1 x1 n1 c1 f1 y1 m1 d1 g1 vlq):=⟨hn1,hbd.1⟩;have HN2:Hid (En L wr i2 s2 x2 n2 c2' f2 y2' m2 d2' g2 vhq):=⟨hn2,hbd.2⟩;have i1':((i:Nat):Int)<((ck:Nat):Int):=by omega
   clear hcN hc hn0 hn1 hn2 hbd;go_upto_region 5 with fail
   have hb5:=Below.drew (below_alloc (Below.refl wr.heap.size wr) (.cells #[.string z,.bool s0,.slice x0 n0 c0,.slice y0 m0 d0,.int .i64 i1,.bool s1,.slice x1 n1 c1,.slice y1 m1 d1,.int .i64 i2,.bool s2,.slice x2 n2 c2',.slice y2' m2 d2'] 83));have B5:Bk (wr.alloc (.cells #[.string z,.bool s0,.slice x0 n0 c0,.slice y0 m0 d0,.int .i64 i1,.bool s1,.slice x1 n1 c1,.slice y1 m1 d1,.int .i64 i2,.bool s2,.slice x2 n2 c2',.slice y2' m2 d2'] 83)).drew wr.heap.size [.string z,.bool s0,.slice x0 n0 c0,.slice y0 m0 d0,.int .i64 i1,.bool s1,.slice x1 n1 c1,.slice y1 m1 d1,.int .i64 i2,.bool s2,.slice x2 n2 c2',.slice y2' m2 d2'] 83:=bk_new wr [.string z,.bool s0,.slice x0 n0 c0,.slice y0 m0 d0,.int .i64 i1,.bool s1,.slice x1 n1 c1,.slice y1 m1 d1,.int .i64 i2,.bool s2,.slice x2 n2 c2',.slice y2' m2 d2'] 83;have hne:vC.ownBlock≠some wr.heap.size:=fun e=>by have:=(HI.out.row.lt _ e).2;omega
   have hbz:=HI.out.bs;replace HI:=hid (HI.out.below hb5);replace HN0:=hid (HN0.out.below hb5);replace HN1:=hid (HN1.out.below hb5);replace HN2:=hid (HN2.out.below hb5)
   have a0:=B5.cell (j:=0) rfl;have a1:=B5.cell (j:=1) rfl;have a2:=B5.cell (j:=2) rfl;have a3:=B5.cell (j:=3) rfl;have a4:=B5.cell (j:=4) rfl;have a5:=B5.cell (j:=5) rfl;have a6:=B5.cell (j:=6) rfl;have a7:=B5.cell (j:=7) rfl;have a8:=B5.cell (j:=8) rfl;have a9:=B5.cell (j:=9) rfl;have a10:=B5.cell (j:=10) rfl;have a11:=B5.cell (j:=11) rfl;have HB5:=hid B5;obtain ⟨bk,hbk⟩:∃z,wr.heap.size=z:=⟨_,rfl⟩;simp only [hbk] at *;clear hb5 hbk q0 q1 q2 q3 q4 q5 q6 q7 q8 q9 q10 q11 B5;refine wp_region_held_drew (S:=(fun w'=>w'.cell? ⟨bk,0,none⟩=some (.string z)∧w'.cell? ⟨bk,1,none⟩=some (.bool s0)∧w'.cell? ⟨bk,2,none⟩=some (.slice x0 n0 c0)∧w'.cell? ⟨bk,3,none⟩=some (.slice y0 m0 d0)∧w'.cell? ⟨bk,4,none⟩=some (.int .i64 i1)∧w'.cell? ⟨bk,5,none⟩=some (.bool s1)∧w'.cell? ⟨bk,6,none⟩=some (.slice x1 n1 c1)∧w'.cell? ⟨bk,7,none⟩=some (.slice y1 m1 d1)∧w'.cell? ⟨bk,8,none⟩=some (.int .i64 i2)∧w'.cell? ⟨bk,9,none⟩=some (.bool s2)∧w'.cell? ⟨bk,10,none⟩=some (.slice x2 n2 c2')∧w'.cell? ⟨bk,11,none⟩=some (.slice y2' m2 d2'))) (by kernel_rfl) ?_ (fun hHeld=>?_)
   ·exact ⟨a0,a1,a2,a3,a4,a5,a6,a7,a8,a9,a10,a11⟩
   generalize hwd:(wr.alloc (.cells #[.string z,.bool s0,.slice x0 n0 c0,.slice y0 m0 d0,.int .i64 i1,.bool s1,.slice x1 n1 c1,.slice y1 m1 d1,.int .i64 i2,.bool s2,.slice x2 n2 c2',.slice y2' m2 d2'] 83)).drew=wd at *;clear hwd;refine tkO 0 ?_;simp only [lay_,Act.put];refine tkO 2 ?_;simp only [lay_,Act.put];refine tkO 3 ?_;simp only [lay_,Act.put];refine tkO 4 ?_;simp only [lay_,Act.put];refine tkO 5 ?_;simp only [lay_,Act.put];refine tkO 7 ?_;simp only [lay_,Act.put];refine tkO 8 ?_;simp only [lay_,Act.put];refine tkO 10 ?_;simp only [lay_,Act.put];refine tkO 11 ?_;simp only [lay_,Act.put];refine (show wpAnyH _ _ _ _ _ (6+3) _ _ _ from wpAnyH_flow (fun j v w=>match j with | 1=>vC=v | 6=>FN (2*L) vcost v w | 9=>FE (2*L) i1 vlq v w | 12=>FE (2*L) i2 vhq v w | 13=>FC (2*L) ⟨z,vcost,i1,vlq,i2,vhq⟩ v w | 14=>FCs (2*L) ⟨z,vcost,i1,vlq,i2,vhq⟩ v w | _=>True) [(1,20),(6,25),(9,28),(12,31),(13,32),(14,33)] [1,6,9,12,13,14] [15,16,17] _ _ _ 3 ?k1 ?k4 ?k2 ?k3 ?k5 ?k6 ?k8)
   case k1=>kernel_rfl
   case k4=>kernel_rfl
   case k2=>exact fun w w' h hb=>⟨kCb hb h.1,kCb hb h.2.1,kCb hb h.2.2.1,kCb hb h.2.2.2.1,kCb hb h.2.2.2.2.1,kCb hb h.2.2.2.2.2.1,kCb hb h.2.2.2.2.2.2.1,kCb hb h.2.2.2.2.2.2.2.1,kCb hb h.2.2.2.2.2.2.2.2.1,kCb hb h.2.2.2.2.2.2.2.2.2.1,kCb hb h.2.2.2.2.2.2.2.2.2.2.1,kCb hb h.2.2.2.2.2.2.2.2.2.2.2⟩
   case k3 =>
    intro j v w w' h hb
    split at h <;> first | exact FN.below h hb | exact FE.below h hb | exact FC.below h hb | exact FCs.below h hb | exact h | trivial
   case k8=>exact hHeld
   case k5 =>
    intro i hi;simp only [List.mem_cons,List.not_mem_nil,or_false] at hi;rcases hi with rfl | rfl | rfl | rfl | rfl | rfl
    ·refine ⟨_,rfl,fun u w5 hS hb5 hd K hK=>?_⟩;have k5:=(HI.out.p3.below hb5).cell (j:=3) rfl;simp only [fill,List.foldl_cons,List.foldl_nil,Act.put,List.setIfInBounds_toArray,List.set_cons_zero,List.set_cons_succ] at hK ⊢;go_simp;exact hK.out _ _ (Below.refl _ _) rfl
    ·refine ⟨_,rfl,fun u w5 hS hb5 hd K hK=>?_⟩;simp only [fill,List.foldl_cons,List.foldl_nil,Act.put,List.setIfInBounds_toArray,List.set_cons_zero,List.set_cons_succ] at hK ⊢;go_simp
     go_at_call 23
     refine (qFrom_c (HN0.out.below hb5) (Nat.le_trans hL (by decide))).mono ?_;rintro e w6 ⟨sq,zp,nq9,cp,dp,zq,mq9,cq,gq,rfl,hb6,hq1,hq2,hq⟩
     (try go_wp2_with fail)
     exact hK.out _ _ hb6 ⟨⟨sq,zp,nq9,cp,dp,zq,mq9,cq,gq⟩,rfl,hq1,hq2,hq⟩
    ·refine ⟨_,rfl,fun u w5 hS hb5 hd K hK=>?_⟩;simp only [fill,List.foldl_cons,List.foldl_nil,Act.put,List.setIfInBounds_toArray,List.set_cons_zero,List.set_cons_succ] at hK ⊢;go_simp
     go_at_call 44
     refine (xFrom_c (HN1.out.below hb5) hL).mono ?_;rintro e w6 ⟨sq,zp,nq9,cp,dp,zq,mq9,cq,gq,rfl,hb6,hq⟩
     (try go_wp2_with fail)
     exact hK.out _ _ hb6 ⟨⟨i1,⟨sq,zp,nq9,cp,dp,zq,mq9,cq,gq⟩⟩,rfl,rfl,hq.out.1,hq.out.2.1,hq.out.2.2.qn⟩
    ·refine ⟨_,rfl,fun u w5 hS hb5 hd K hK=>?_⟩;simp only [fill,List.foldl_cons,List.foldl_nil,Act.put,List.setIfInBounds_toArray,List.set_cons_zero,List.set_cons_succ] at hK ⊢;go_simp
     go_at_call 44
     refine (xFrom_c (HN2.out.below hb5) hL).mono ?_;rintro e w6 ⟨sq,zp,nq9,cp,dp,zq,mq9,cq,gq,rfl,hb6,hq⟩
     (try go_wp2_with fail)
     exact hK.out _ _ hb6 ⟨⟨i2,⟨sq,zp,nq9,cp,dp,zq,mq9,cq,gq⟩⟩,rfl,rfl,hq.out.1,hq.out.2.1,hq.out.2.2.qn⟩
    ·refine ⟨_,rfl,fun u w5 hS hb5 hd K hK=>?_⟩;have h6:FN (2*L) vcost (u 6) w5:=hd 6 (by kernel_rfl) (by kernel_rfl);obtain ⟨⟨sa6,xa6,na6,ca6,fa6,ya6,ma6,da6,ga6⟩,e6,hv6⟩:=h6;replace e6:u 6=.agg #[.bool sa6,.slice xa6 na6 ca6,.slice ya6 ma6 da6]:=e6;have h9:FE (2*L) i1 vlq (u 9) w5:=hd 9 (by kernel_rfl) (by kernel_rfl);obtain ⟨⟨ia9,⟨sa9,xa9,na9,ca9,fa9,ya9,ma9,da9,ga9⟩⟩,e9,hi9,hv9⟩:=h9;replace e9:u 9=.agg #[.int .i64 ia9,.bool sa9,.slice xa9 na9 ca9,.slice ya9 ma9 da9]:=e9;have h12:FE (2*L) i2 vhq (u 12) w5:=hd 12 (by kernel_rfl) (by kernel_rfl);obtain ⟨⟨ia12,⟨sa12,xa12,na12,ca12,fa12,ya12,ma12,da12,ga12⟩⟩,e12,hi12,hv12⟩:=h12;replace e12:u 12=.agg #[.int .i64 ia12,.bool sa12,.slice xa12 na12 ca12,.slice ya12 ma12 da12]:=e12;simp only [fill,List.foldl_cons,List.foldl_nil,Act.put,List.setIfInBounds_toArray,List.set_cons_zero,List.set_cons_succ] at hK ⊢;simp only [e6,e9,e12] at hK ⊢;go_simp;exact hK.out _ _ (Below.refl _ _) ⟨⟨z,⟨sa6,xa6,na6,ca6,fa6,ya6,ma6,da6,ga6⟩,⟨ia9,⟨sa9,xa9,na9,ca9,fa9,ya9,ma9,da9,ga9⟩⟩,⟨ia12,⟨sa12,xa12,na12,ca12,fa12,ya12,ma12,da12,ga12⟩⟩⟩,rfl,rfl,hv6,hi9,hv9,hi12,hv12⟩
    ·refine ⟨_,rfl,fun u w5 hS hb5 hd K hK=>?_⟩;have h13:FC (2*L) ⟨z,vcost,i1,vlq,i2,vhq⟩ (u 13) w5:=hd 13 (by kernel_rfl) (by kernel_rfl);obtain ⟨⟨zj,⟨sb,xb,nb,cb,fb,yb,mb,db,gb⟩,⟨ic,⟨sc,xc,nc,cc9,fc,yc,mc,dc,gc⟩⟩,⟨ie,⟨sd,xd,nd,cd,fd,yd,md,dd,gd⟩⟩⟩,e13,hv⟩:=h13;replace e13:u 13=.agg #[.string zj,.bool sb,.slice xb nb cb,.slice yb mb db,.int .i64 ic,.bool sc,.slice xc nc cc9,.slice yc mc dc,.int .i64 ie,.bool sd,.slice xd nd cd,.slice yd md dd]:=e13;simp only [fill,List.foldl_cons,List.foldl_nil,Act.put,List.setIfInBounds_toArray,List.set_cons_zero,List.set_cons_succ] at hK ⊢;simp only [e13] at hK ⊢;go_simp;have hn:=below_alloc (Below.refl w5.heap.size w5) (.cells #[.string zj,.bool sb,.slice xb nb cb,.slice yb mb db,.int .i64 ic,.bool sc,.slice xc nc cc9,.slice yc mc dc,.int .i64 ie,.bool sd,.slice xd nd cd,.slice yd md dd] 69);have hx:=cs_new w5 69 [.string zj,.bool sb,.slice xb nb cb,.slice yb mb db,.int .i64 ic,.bool sc,.slice xc nc cc9,.slice yc mc dc,.int .i64 ie,.bool sd,.slice xd nd cd,.slice yd md dd] [.string zj,.bool sb,.slice xb nb cb,.slice yb mb db,.int .i64 ic,.bool sc,.slice xc nc cc9,.slice yc mc dc,.int .i64 ie,.bool sd,.slice xd nd cd,.slice yd md dd] 0 (fun j v e=>by rw [Nat.zero_add];exact e);exact hK.out _ _ hn ⟨w5.heap.size,⟨zj,⟨sb,xb,nb,cb,fb,yb,mb,db,gb⟩,⟨ic,⟨sc,xc,nc,cc9,fc,yc,mc,dc,gc⟩⟩,⟨ie,⟨sd,xd,nd,cd,fd,yd,md,dd,gd⟩⟩⟩,rfl,hx,hv.below hn⟩
   case k6 =>
    intro u w5 hS5 hb5 hg;have h1:vC=u 1:=hg 1 (by simp);have h14:FCs (2*L) ⟨z,vcost,i1,vlq,i2,vhq⟩ (u 14) w5:=hg 14 (by simp);obtain ⟨b14,⟨zj,⟨sb,xb,nb,cb,fb,yb,mb,db,gb⟩,⟨ic,⟨sc,xc,nc,cc9,fc,yc,mc,dc,gc⟩⟩,⟨ie,⟨sd,xd,nd,cd,fd,yd,md,dd,gd⟩⟩⟩,e14,hcs,hqc⟩:=h14;replace HI:=hid (HI.out.below hb5);obtain ⟨i0,hi0,hz0,hz1,hz2⟩:=info_parts Tryz.infoRC;obtain ⟨t0,t1,t2,t3,t4,t5,t6,t7,t8,t9,t10,t11⟩:=id hS5;have hbl:=World.block_lt_of_cell? w5 _ t0;replace hbl:bk<w5.heap.size:=hbl;clear hg;simp only [fill,List.foldl_cons,List.foldl_nil,Act.put,List.setIfInBounds_toArray,List.set_cons_zero,List.set_cons_succ];simp only [←h1,e14];clear h1 e14;refine wpAnyH_ready (rs:=[15]) (by kernel_rfl) (by simp) ?_;refine AllReadyH.cons (o:=_) rfl (fun K hK=>?_) ?_;rotate_left;exact AllReadyH.nil;refine step_append_W w5 rfl (.tmp 20) (.tmp 33) 61 rfl base 69 i0 zC 12 200 Tryz.underlying61 hi0 hz0 hz1 hz2 rfl (by decide) nzC vC i (ccs C' i) rfl HI.out.row ⟨b14,0,none⟩ 1 1 (Lc.vs ⟨zj,⟨sb,xb,nb,cb,fb,yb,mb,db,gb⟩,⟨ic,⟨sc,xc,nc,cc9,fc,yc,mc,dc,gc⟩⟩,⟨ie,⟨sd,xd,nd,cd,fd,yd,md,dd,gd⟩⟩⟩) rfl rfl ?n1 (vsC_one _) (vsC_not _) (by decide) ?p1 ?p2 HI.out.bs ?_
    case n1=>intro j u hu;rw [addr_add];exact hcs j u hu
    case p1=>unfold maxLen;omega
    case p2=>omega
    intro g8 cap8 w8 hr8 hgr8 hk8 hl8;have hB8:=hgr8.block bk hbl (fun e=>hne e.symm);have e0:=(World.cell?_of_block (a:=⟨bk,0,none⟩) hB8).trans t0;have e1:=(World.cell?_of_block (a:=⟨bk,1,none⟩) hB8).trans t1;have e2:=(World.cell?_of_block (a:=⟨bk,2,none⟩) hB8).trans t2;have e3:=(World.cell?_of_block (a:=⟨bk,3,none⟩) hB8).trans t3;have e4:=(World.cell?_of_block (a:=⟨bk,4,none⟩) hB8).trans t4;have e5:=(World.cell?_of_block (a:=⟨bk,5,none⟩) hB8).trans t5;have e6:=(World.cell?_of_block (a:=⟨bk,6,none⟩) hB8).trans t6;have e7:=(World.cell?_of_block (a:=⟨bk,7,none⟩) hB8).trans t7;have e8:=(World.cell?_of_block (a:=⟨bk,8,none⟩) hB8).trans t8;have e9:=(World.cell?_of_block (a:=⟨bk,9,none⟩) hB8).trans t9;have e10:=(World.cell?_of_block (a:=⟨bk,10,none⟩) hB8).trans t10;have e11:=(World.cell?_of_block (a:=⟨bk,11,none⟩) hB8).trans t11;have hp8:=HI.out.p3.of (hgr8.block b3 HI.out.p3.lt (fun e=>by have:=(HI.out.row.lt b3 e.symm).1;omega));have f0:=hp8.cell (j:=3) rfl;have ff:=hp8.frozen 3;refine hK.out _ _ ?_ (fun hH8=>?_)
    ·exact ⟨e0,e1,e2,e3,e4,e5,e6,e7,e8,e9,e10,e11⟩
    clear hK K;try simp only [Act.put,List.setIfInBounds_toArray]
    refine tkO 16 ?_;simp only [lay_,Act.put];refine wpAnyH_ready (rs:=[17]) (by kernel_rfl) (by simp) ?_;refine AllReadyH.cons (o:=_) rfl (fun K hK=>?_) ?_;rotate_left;exact AllReadyH.nil;go_simp;refine hK.out _ _ ?_ (fun hH9=>?_)
    ·((try dsimp only);(refine ⟨?_,?_,?_,?_,?_,?_,?_,?_,?_,?_,?_,?_⟩ <;> repeat (with_reducible first | assumption | refine kCs (by simp only [ne_eq];omega) ?_)))
    clear hK K;try simp only [Act.put]
    refine wpAnyH_done (by kernel_rfl) ?_ _;have HI9:=hid (HI.out.next (by omega) (by omega) hbb (Nat.le_refl _) (fun v hv=>by rw [HCV.out] at hv;cases hv;exact hqc) hr8 hk8 hgr8);clear hr8 hgr8 hk8 hl8 hB8 hp8 f0 ff hH8 hH9 HI hqc hcs hHeld HB5 e0 e1 e2 e3 e4 e5 e6 e7 e8 e9 e10 e11;go_wp2;go_roundw
    case rel=>exact ⟨i+1,_,_,by omega,by go_num,HI9.out⟩
    case measure=>simp [intOf];omega
  ·have e1:i=ck:=by omega
   have i2':¬(((i:Nat):Int)<((ck:Nat):Int)):=by omega
   rw [e1] at HI;have k4:=HI.out.p1.cell (j:=4) rfl;obtain ⟨base2,hbase2⟩:∃z,wr.heap.size=z:=⟨_,rfl⟩;have hb2:base≤base2:=by have:=HI.out.bs;omega
   have HI2:Hid (FrR w base base2 (w.heap.size+1) b3 [.bool false,.slice none 0 0,.slice none 0 0,.slice none 0 0,.slice none 0 0] sz z2 nz c2 y2 mz d2 ⟨sz,z2,nz,c2,fz,y2,mz,d2,gz⟩ (2*L) q cs ck C' vC rs wr 0 R (.slice none 0 0)):=⟨HI.out.bel,HI.out.p2,HI.out.p3,by omega,HI.out.off,HI.out.row,HI.out.el,fun k hk=>by have:=(HI.out.row.lt k hk).2;omega,rowG_nil _ _ _ _,fun j v hj=>by omega⟩;clear HI e1 HC hbase2;go_wp2_with fail
   go_loopw [40] (fun t wr=>∃(i:Nat) (R':Nat→Lr) (vR:Value),i≤rk∧t=.int .i64 i∧Hid (FrR w base base2 (w.heap.size+1) b3 [.bool false,.slice none 0 0,.slice none 0 0,.slice none 0 0,.slice none 0 0] sz z2 nz c2 y2 mz d2 ⟨sz,z2,nz,c2,fz,y2,mz,d2,gz⟩ (2*L) q cs ck C' vC rs wr i R' vR)) (fun t _=>rk-(intOf t).toNat)
   case atStart=>exact ⟨0,R,_,by omega,rfl,HI2.out⟩
   case round =>
    obtain ⟨i,R',vR,hi,rfl,HI⟩:=hrel;clear HI2 k4;by_cases hlt:i<rk
    ·obtain ⟨rv,hrv⟩:∃v,rs[i]?=some v:=⟨_,List.getElem?_eq_getElem (by rw [←HLR.out];exact hlt)⟩;obtain ⟨⟨b,o,rfl,hc0⟩,hn0'⟩:=HRL.out i rv hrv;have hc:=hc0.below HI.out.bel;have hn:=hn0'.below HI.out.bel;obtain ⟨hbd0,hts1,hts2⟩:=HBR.out rv (List.mem_of_getElem? hrv);have hbd:=bd_at hbd0;have HRV:=hid hrv;clear hc0 hn0' hrv hbd0 hts1;obtain ⟨rN,hrN⟩:∃t,R i=t:=⟨_,rfl⟩;rw [hrN] at hc hn;have HRN:=hid hrN;obtain ⟨z,⟨i1,⟨s1,x1,n1,c1,f1,y1,m1,d1,g1⟩⟩,⟨i2,⟨s2,x2,n2,c2',f2,y2',m2,d2',g2⟩⟩,ta,tk,tc,tcol,tt⟩:=rN;have hT:=hn.tls (Nat.le_trans hL (by decide));have hQ:∀j,j<(Lr.mk z ⟨i1,⟨s1,x1,n1,c1,f1,y1,m1,d1,g1⟩⟩ ⟨i2,⟨s2,x2,n2,c2',f2,y2',m2,d2',g2⟩⟩ ta tk tc tcol tt).tk→∃q',rv.ts[j]?=some (tcol j,q')∧Rn L wr (tt j).s (tt j).x (tt j).n (tt j).c (tt j).f (tt j).y (tt j).m (tt j).d (tt j).g q':=fun j hj=>by
      rw [hn.tk] at hj;obtain ⟨⟨a,q'⟩,e⟩:∃v,rv.ts[j]?=some v:=⟨_,List.getElem?_eq_getElem hj⟩;obtain ⟨e1,e2,_⟩:=hn.tl j a q' e;exact ⟨q',by rw [e,←e1],e2⟩
     obtain ⟨vnm,vli,vlq,vhi,vhq,vts⟩:=rv;obtain ⟨hnm,hli,hn1,hhi,hn2,htk,_⟩:=hn;replace hnm:z=vnm:=hnm;replace hli:i1=vli:=hli;replace hhi:i2=vhi:=hhi;replace htk:tk=vts.length:=htk;subst hnm;subst hli;subst hhi
     have q0:wr.cell? ⟨b,o+i*10,none⟩=some (.string z):=hc 0 _ rfl;have q1:wr.cell? ⟨b,o+i*10+1,none⟩=some (.int .i64 i1):=hc 1 _ rfl;have q2:wr.cell? ⟨b,o+i*10+2,none⟩=some (.bool s1):=hc 2 _ rfl;have q3:wr.cell? ⟨b,o+i*10+3,none⟩=some (.slice x1 n1 c1):=hc 3 _ rfl;have q4:wr.cell? ⟨b,o+i*10+4,none⟩=some (.slice y1 m1 d1):=hc 4 _ rfl;have q5:wr.cell? ⟨b,o+i*10+5,none⟩=some (.int .i64 i2):=hc 5 _ rfl;have q6:wr.cell? ⟨b,o+i*10+6,none⟩=some (.bool s2):=hc 6 _ rfl;have q7:wr.cell? ⟨b,o+i*10+7,none⟩=some (.slice x2 n2 c2'):=hc 7 _ rfl;have q8:wr.cell? ⟨b,o+i*10+8,none⟩=some (.slice y2' m2 d2'):=hc 8 _ rfl;have q9:wr.cell? ⟨b,o+i*10+9,none⟩=some (.slice ta tk tc):=hc 9 _ rfl;have HN1:Hid (En L wr i1 s1 x1 n1 c1 f1 y1 m1 d1 g1 vlq):=⟨hn1,hbd.1⟩;have HN2:Hid (En L wr i2 s2 x2 n2 c2' f2 y2' m2 d2' g2 vhq):=⟨hn2,hbd.2⟩;have HN3:Hid (∀W,Below wr.heap.size wr W→Calls Tryz.prog 45 #[.slice ta tk tc] W fun e w'=>FrNew (2*L) W w' e tk vts):=fun W hW=>fromTN_c (hT.below hW) (Nat.le_trans (Nat.le_of_eq htk) (Nat.le_trans hts2 (by decide))) (Nat.le_trans hL (by decide)) htk.symm (fun j hj=>by obtain ⟨q',e1,e2⟩:=hQ j hj;exact ⟨q',e1,e2.below hW⟩)
     have HTK:=hid htk;have i1':((i:Nat):Int)<((rk:Nat):Int):=by omega
     clear hrN hc hn1 hn2 hT hQ hbd htk;go_upto_region 10 with fail
     have hb5:=Below.drew (below_alloc (Below.refl wr.heap.size wr) (.cells #[.string z,.int .i64 i1,.bool s1,.slice x1 n1 c1,.slice y1 m1 d1,.int .i64 i2,.bool s2,.slice x2 n2 c2',.slice y2' m2 d2',.slice ta tk tc] 86));have B5:Bk (wr.alloc (.cells #[.string z,.int .i64 i1,.bool s1,.slice x1 n1 c1,.slice y1 m1 d1,.int .i64 i2,.bool s2,.slice x2 n2 c2',.slice y2' m2 d2',.slice ta tk tc] 86)).drew wr.heap.size [.string z,.int .i64 i1,.bool s1,.slice x1 n1 c1,.slice y1 m1 d1,.int .i64 i2,.bool s2,.slice x2 n2 c2',.slice y2' m2 d2',.slice ta tk tc] 86:=bk_new wr [.string z,.int .i64 i1,.bool s1,.slice x1 n1 c1,.slice y1 m1 d1,.int .i64 i2,.bool s2,.slice x2 n2 c2',.slice y2' m2 d2',.slice ta tk tc] 86;have hne:vR.ownBlock≠some wr.heap.size:=fun e=>by have:=(HI.out.row.lt _ e).2;omega
     have hbz:=HI.out.bs;replace HI:=hid (HI.out.below hb5);replace HN1:=hid (HN1.out.below hb5);replace HN2:=hid (HN2.out.below hb5)
     replace HN3:Hid (∀W,Below (wr.alloc (.cells #[.string z,.int .i64 i1,.bool s1,.slice x1 n1 c1,.slice y1 m1 d1,.int .i64 i2,.bool s2,.slice x2 n2 c2',.slice y2' m2 d2',.slice ta tk tc] 86)).drew.heap.size (wr.alloc (.cells #[.string z,.int .i64 i1,.bool s1,.slice x1 n1 c1,.slice y1 m1 d1,.int .i64 i2,.bool s2,.slice x2 n2 c2',.slice y2' m2 d2',.slice ta tk tc] 86)).drew W→Calls Tryz.prog 45 #[.slice ta tk tc] W fun e w'=>FrNew (2*L) W w' e tk vts):=fun W hW=>HN3.out W (hb5.trans (hW.mono hb5.size))
     have a0:=B5.cell (j:=0) rfl;have a1:=B5.cell (j:=1) rfl;have a2:=B5.cell (j:=2) rfl;have a3:=B5.cell (j:=3) rfl;have a4:=B5.cell (j:=4) rfl;have a5:=B5.cell (j:=5) rfl;have a6:=B5.cell (j:=6) rfl;have a7:=B5.cell (j:=7) rfl;have a8:=B5.cell (j:=8) rfl;have a9:=B5.cell (j:=9) rfl;have HB5:=hid B5;obtain ⟨bk,hbk⟩:∃z,wr.heap.size=z:=⟨_,rfl⟩;simp only [hbk] at *;clear hb5 hbk q0 q1 q2 q3 q4 q5 q6 q7 q8 q9 B5;refine wp_region_held_drew (S:=(fun w'=>w'.cell? ⟨bk,0,none⟩=some (.string z)∧w'.cell? ⟨bk,1,none⟩=some (.int .i64 i1)∧w'.cell? ⟨bk,2,none⟩=some (.bool s1)∧w'.cell? ⟨bk,3,none⟩=some (.slice x1 n1 c1)∧w'.cell? ⟨bk,4,none⟩=some (.slice y1 m1 d1)∧w'.cell? ⟨bk,5,none⟩=some (.int .i64 i2)∧w'.cell? ⟨bk,6,none⟩=some (.bool s2)∧w'.cell? ⟨bk,7,none⟩=some (.slice x2 n2 c2')∧w'.cell? ⟨bk,8,none⟩=some (.slice y2' m2 d2')∧w'.cell? ⟨bk,9,none⟩=some (.slice ta tk tc))) (by kernel_rfl) ?_ (fun hHeld=>?_)
     ·exact ⟨a0,a1,a2,a3,a4,a5,a6,a7,a8,a9⟩
     generalize hwd:(wr.alloc (.cells #[.string z,.int .i64 i1,.bool s1,.slice x1 n1 c1,.slice y1 m1 d1,.int .i64 i2,.bool s2,.slice x2 n2 c2',.slice y2' m2 d2',.slice ta tk tc] 86)).drew=wd at *;clear hwd;obtain ⟨bse,hbse⟩:∃z,wd.heap.size=z:=⟨_,rfl⟩;have hb2s:base2≤bse:=by have:=HI.out.bs;omega
     have hown:∀b,bse≤b→vR.ownBlock≠some b:=fun b hb e=>by have:=(HI.out.row.lt b e).2;omega
     have HW:=hid hown;clear hown;refine tkO 0 ?_;simp only [lay_,Act.put];refine tkO 2 ?_;simp only [lay_,Act.put];refine tkO 3 ?_;simp only [lay_,Act.put];refine tkO 4 ?_;simp only [lay_,Act.put];refine tkO 5 ?_;simp only [lay_,Act.put];refine tkO 7 ?_;simp only [lay_,Act.put];refine tkO 8 ?_;simp only [lay_,Act.put];refine tkO 10 ?_;simp only [lay_,Act.put];refine tkO 11 ?_;simp only [lay_,Act.put];refine (show wpAnyH _ _ _ _ _ (6+3) _ _ _ from wpAnyH_flow (fun j v w=>match j with | 1=>vR=v | 6=>FE (2*L) i1 vlq v w | 9=>FE (2*L) i2 vhq v w | 12=>FT (2*L) bse tk vts v w | 13=>FR (2*L) bse ⟨z,i1,vlq,i2,vhq,vts⟩ v w | 14=>FRs (2*L) bse ⟨z,i1,vlq,i2,vhq,vts⟩ v w | _=>True) [(1,45),(6,50),(9,53),(12,56),(13,57),(14,58)] [1,6,9,12,13,14] [15,16,17] _ _ _ 3 ?k1 ?k4 ?k2 ?k3 ?k5 ?k6 ?k8)
     case k1=>kernel_rfl
     case k4=>kernel_rfl
     case k2=>exact fun w w' h hb=>⟨kCb hb h.1,kCb hb h.2.1,kCb hb h.2.2.1,kCb hb h.2.2.2.1,kCb hb h.2.2.2.2.1,kCb hb h.2.2.2.2.2.1,kCb hb h.2.2.2.2.2.2.1,kCb hb h.2.2.2.2.2.2.2.1,kCb hb h.2.2.2.2.2.2.2.2.1,kCb hb h.2.2.2.2.2.2.2.2.2⟩
     case k3 =>
      intro j v w w' h hb
      split at h <;> first | exact FE.below h hb | exact FT.below h hb | exact FR.below h hb | exact FRs.below h hb | exact h | trivial
     case k8=>exact hHeld
     case k5 =>
      intro i hi;simp only [List.mem_cons,List.not_mem_nil,or_false] at hi;rcases hi with rfl | rfl | rfl | rfl | rfl | rfl
      ·refine ⟨_,rfl,fun u w5 hS hb5 hd K hK=>?_⟩;have k5:=(HI.out.p3.below hb5).cell (j:=4) rfl;simp only [fill,List.foldl_cons,List.foldl_nil,Act.put,List.setIfInBounds_toArray,List.set_cons_zero,List.set_cons_succ] at hK ⊢;go_simp;exact hK.out _ _ (Below.refl _ _) rfl
      ·refine ⟨_,rfl,fun u w5 hS hb5 hd K hK=>?_⟩;simp only [fill,List.foldl_cons,List.foldl_nil,Act.put,List.setIfInBounds_toArray,List.set_cons_zero,List.set_cons_succ] at hK ⊢;go_simp
       go_at_call 44
       refine (xFrom_c (HN1.out.below hb5) hL).mono ?_;rintro e w6 ⟨sq,zp,nq9,cp,dp,zq,mq9,cq,gq,rfl,hb6,hq⟩
       (try go_wp2_with fail)
       exact hK.out _ _ hb6 ⟨⟨i1,⟨sq,zp,nq9,cp,dp,zq,mq9,cq,gq⟩⟩,rfl,rfl,hq.out.1,hq.out.2.1,hq.out.2.2.qn⟩
      ·refine ⟨_,rfl,fun u w5 hS hb5 hd K hK=>?_⟩;simp only [fill,List.foldl_cons,List.foldl_nil,Act.put,List.setIfInBounds_toArray,List.set_cons_zero,List.set_cons_succ] at hK ⊢;go_simp
       go_at_call 44
       refine (xFrom_c (HN2.out.below hb5) hL).mono ?_;rintro e w6 ⟨sq,zp,nq9,cp,dp,zq,mq9,cq,gq,rfl,hb6,hq⟩
       (try go_wp2_with fail)
       exact hK.out _ _ hb6 ⟨⟨i2,⟨sq,zp,nq9,cp,dp,zq,mq9,cq,gq⟩⟩,rfl,rfl,hq.out.1,hq.out.2.1,hq.out.2.2.qn⟩
      ·refine ⟨_,rfl,fun u w5 hS hb5 hd K hK=>?_⟩;simp only [fill,List.foldl_cons,List.foldl_nil,Act.put,List.setIfInBounds_toArray,List.set_cons_zero,List.set_cons_succ] at hK ⊢;go_simp
       go_at_call 45
       refine (HN3.out _ hb5).mono ?_;rintro e w6 ⟨aw,cw,rfl,hb6,_,hfr,hq⟩
       (try go_wp2_with fail)
       exact hK.out _ _ hb6 ⟨aw,cw,rfl,fun b o s e=>by have h1:=hfr b o s e;have h2:=hb5.size;omega,hq.out⟩
      ·refine ⟨_,rfl,fun u w5 hS hb5 hd K hK=>?_⟩;have h6:FE (2*L) i1 vlq (u 6) w5:=hd 6 (by kernel_rfl) (by kernel_rfl);obtain ⟨⟨ia6,⟨sa6,xa6,na6,ca6,fa6,ya6,ma6,da6,ga6⟩⟩,e6,hi6,hv6⟩:=h6;replace e6:u 6=.agg #[.int .i64 ia6,.bool sa6,.slice xa6 na6 ca6,.slice ya6 ma6 da6]:=e6;have h9:FE (2*L) i2 vhq (u 9) w5:=hd 9 (by kernel_rfl) (by kernel_rfl);obtain ⟨⟨ia9,⟨sa9,xa9,na9,ca9,fa9,ya9,ma9,da9,ga9⟩⟩,e9,hi9,hv9⟩:=h9;replace e9:u 9=.agg #[.int .i64 ia9,.bool sa9,.slice xa9 na9 ca9,.slice ya9 ma9 da9]:=e9;have h12:FT (2*L) bse tk vts (u 12) w5:=hd 12 (by kernel_rfl) (by kernel_rfl);obtain ⟨aw,cw,e12,hfr,htq⟩:=h12;simp only [fill,List.foldl_cons,List.foldl_nil,Act.put,List.setIfInBounds_toArray,List.set_cons_zero,List.set_cons_succ] at hK ⊢;simp only [e6,e9,e12] at hK ⊢;go_simp;exact hK.out _ _ (Below.refl _ _) ⟨⟨z,⟨ia6,⟨sa6,xa6,na6,ca6,fa6,ya6,ma6,da6,ga6⟩⟩,⟨ia9,⟨sa9,xa9,na9,ca9,fa9,ya9,ma9,da9,ga9⟩⟩,aw,tk,cw,fun _=>0,fun _=>nz9⟩,rfl,⟨rfl,hi6,hv6,hi9,hv9,HTK.out,htq⟩,hfr⟩
      ·refine ⟨_,rfl,fun u w5 hS hb5 hd K hK=>?_⟩;have h13:FR (2*L) bse ⟨z,i1,vlq,i2,vhq,vts⟩ (u 13) w5:=hd 13 (by kernel_rfl) (by kernel_rfl);obtain ⟨⟨zj,⟨ic,⟨sc,xc,nc,cc9,fc,yc,mc,dc,gc⟩⟩,⟨ie,⟨sd,xd,nd,cd,fd,yd,md,dd,gd⟩⟩,ta9,tk9,tc9,tcol9,tt9⟩,e13,hv,hfr⟩:=h13;replace e13:u 13=.agg #[.string zj,.int .i64 ic,.bool sc,.slice xc nc cc9,.slice yc mc dc,.int .i64 ie,.bool sd,.slice xd nd cd,.slice yd md dd,.slice ta9 tk9 tc9]:=e13;simp only [fill,List.foldl_cons,List.foldl_nil,Act.put,List.setIfInBounds_toArray,List.set_cons_zero,List.set_cons_succ] at hK ⊢;simp only [e13] at hK ⊢;go_simp;have hn:=below_alloc (Below.refl w5.heap.size w5) (.cells #[.string zj,.int .i64 ic,.bool sc,.slice xc nc cc9,.slice yc mc dc,.int .i64 ie,.bool sd,.slice xd nd cd,.slice yd md dd,.slice ta9 tk9 tc9] 75);have hx:=cs_new w5 75 [.string zj,.int .i64 ic,.bool sc,.slice xc nc cc9,.slice yc mc dc,.int .i64 ie,.bool sd,.slice xd nd cd,.slice yd md dd,.slice ta9 tk9 tc9] [.string zj,.int .i64 ic,.bool sc,.slice xc nc cc9,.slice yc mc dc,.int .i64 ie,.bool sd,.slice xd nd cd,.slice yd md dd,.slice ta9 tk9 tc9] 0 (fun j v e=>by rw [Nat.zero_add];exact e);exact hK.out _ _ hn ⟨w5.heap.size,⟨zj,⟨ic,⟨sc,xc,nc,cc9,fc,yc,mc,dc,gc⟩⟩,⟨ie,⟨sd,xd,nd,cd,fd,yd,md,dd,gd⟩⟩,ta9,tk9,tc9,tcol9,tt9⟩,rfl,hx,hv.below hn,hfr⟩
     case k6 =>
      intro u w5 hS5 hb5 hg;have h1:vR=u 1:=hg 1 (by simp);have h14:FRs (2*L) bse ⟨z,i1,vlq,i2,vhq,vts⟩ (u 14) w5:=hg 14 (by simp);obtain ⟨b14,⟨zj,⟨ic,⟨sc,xc,nc,cc9,fc,yc,mc,dc,gc⟩⟩,⟨ie,⟨sd,xd,nd,cd,fd,yd,md,dd,gd⟩⟩,ta9,tk9,tc9,tcol9,tt9⟩,e14,hcs,hqc,hfr⟩:=h14;replace HI:=hid (HI.out.below hb5);obtain ⟨i0,hi0,hz0,hz1,hz2⟩:=info_parts Tryz.infoRR;obtain ⟨t0,t1,t2,t3,t4,t5,t6,t7,t8,t9⟩:=id hS5;have hbl:=World.block_lt_of_cell? w5 _ t0;replace hbl:bk<w5.heap.size:=hbl;clear hg;simp only [fill,List.foldl_cons,List.foldl_nil,Act.put,List.setIfInBounds_toArray,List.set_cons_zero,List.set_cons_succ];simp only [←h1,e14];clear h1 e14;refine wpAnyH_ready (rs:=[15]) (by kernel_rfl) (by simp) ?_;refine AllReadyH.cons (o:=_) rfl (fun K hK=>?_) ?_;rotate_left;exact AllReadyH.nil;refine step_append_W w5 rfl (.tmp 45) (.tmp 58) 62 rfl base2 75 i0 zR 10 168 Tryz.underlying62 hi0 hz0 hz1 hz2 rfl (by decide) nzR vR i (rcs R' i) rfl HI.out.row ⟨b14,0,none⟩ 1 1 (Lr.vs ⟨zj,⟨ic,⟨sc,xc,nc,cc9,fc,yc,mc,dc,gc⟩⟩,⟨ie,⟨sd,xd,nd,cd,fd,yd,md,dd,gd⟩⟩,ta9,tk9,tc9,tcol9,tt9⟩) rfl rfl ?n1 (vsR_one _) (vsR_not _) (by decide) ?p1 ?p2 HI.out.bs ?_
      case n1=>intro j u hu;rw [addr_add];exact hcs j u hu
      case p1=>unfold maxLen;omega
      case p2=>omega
      intro g8 cap8 w8 hr8 hgr8 hk8 hl8;have hB8:=hgr8.block bk hbl (fun e=>hne e.symm);have e0:=(World.cell?_of_block (a:=⟨bk,0,none⟩) hB8).trans t0;have e1:=(World.cell?_of_block (a:=⟨bk,1,none⟩) hB8).trans t1;have e2:=(World.cell?_of_block (a:=⟨bk,2,none⟩) hB8).trans t2;have e3:=(World.cell?_of_block (a:=⟨bk,3,none⟩) hB8).trans t3;have e4:=(World.cell?_of_block (a:=⟨bk,4,none⟩) hB8).trans t4;have e5:=(World.cell?_of_block (a:=⟨bk,5,none⟩) hB8).trans t5;have e6:=(World.cell?_of_block (a:=⟨bk,6,none⟩) hB8).trans t6;have e7:=(World.cell?_of_block (a:=⟨bk,7,none⟩) hB8).trans t7;have e8:=(World.cell?_of_block (a:=⟨bk,8,none⟩) hB8).trans t8;have e9:=(World.cell?_of_block (a:=⟨bk,9,none⟩) hB8).trans t9;have hp8:=HI.out.p3.of (hgr8.block b3 HI.out.p3.lt (fun e=>by have:=(HI.out.row.lt b3 e.symm).1;omega));have f0:=hp8.cell (j:=4) rfl;have ff:=hp8.frozen 4;refine hK.out _ _ ?_ (fun hH8=>?_)
      ·exact ⟨e0,e1,e2,e3,e4,e5,e6,e7,e8,e9⟩
      clear hK K;try simp only [Act.put,List.setIfInBounds_toArray]
      refine tkO 16 ?_;simp only [lay_,Act.put];refine wpAnyH_ready (rs:=[17]) (by kernel_rfl) (by simp) ?_;refine AllReadyH.cons (o:=_) rfl (fun K hK=>?_) ?_;rotate_left;exact AllReadyH.nil;go_simp;refine hK.out _ _ ?_ (fun hH9=>?_)
      ·((try dsimp only);(refine ⟨?_,?_,?_,?_,?_,?_,?_,?_,?_,?_⟩ <;> repeat (with_reducible first | assumption | refine kCs (by simp only [ne_eq];omega) ?_)))
      clear hK K;try simp only [Act.put]
      refine wpAnyH_done (by kernel_rfl) ?_ _;have HI9:=hid (HI.out.next (by omega) (by omega) hbb (by omega) (fun v hv=>by rw [HRV.out] at hv;cases hv;exact hqc) (fun b o s e=>⟨by have:=hfr b o s e;omega,HW.out b (hfr b o s e)⟩) hr8 hk8 hgr8 hl8);clear hr8 hgr8 hk8 hl8 hB8 hp8 f0 ff hH8 hH9 HI hqc hcs hHeld HB5 e0 e1 e2 e3 e4 e5 e6 e7 e8 e9;go_wp2;go_roundw
      case rel=>exact ⟨i+1,_,_,by omega,by go_num,HI9.out⟩
      case measure=>simp [intOf];omega
    ·have e1:i=rk:=by omega
     have i2':¬(((i:Nat):Int)<((rk:Nat):Int)):=by omega
     rw [e1] at HI;obtain ⟨aC,cC,rfl⟩:=HI.out.rowC.slice;obtain ⟨aR,cR,rfl⟩:=HI.out.row.slice;have o0:=HI.out.p3.cell (j:=0) rfl;have o1:=HI.out.p3.cell (j:=1) rfl;have o2:=HI.out.p3.cell (j:=2) rfl;have o3:=HI.out.p3.cell (j:=3) rfl;have o4:=HI.out.p3.cell (j:=4) rfl;have r0:=HI.out.p2.cell (j:=0) rfl;have r1:=HI.out.p2.cell (j:=1) rfl;have r2:=HI.out.p2.cell (j:=2) rfl;have r3:=HI.out.p2.cell (j:=3) rfl;have r4:=HI.out.p2.cell (j:=4) rfl;have rf:=HI.out.p2.frozen;obtain ⟨hx1,hx2⟩:=HI.out.done (v0:=.bool sz) (v1:=.slice z2 nz c2) (v2:=.slice y2 mz d2) (v3:=.slice aC ck cC) (v4:=.slice aR rk cR) (by omega) (by omega) (by omega) rfl HLC.out HLR.out;have HX:=hid (HA.out _ _ hx1 hx2);clear hx1 hx2 HI e1;go_wp2;exact bodyPost_ret (v:=.agg #[.bool sz,.slice z2 nz c2,.slice y2 mz d2,.slice aC ck cC,.slice aR rk cR]) (by simp [results,Tryz.results21,go_sem,r0,r1,r2,r3,r4]) rfl HX.out
theorem NmS.val {w:World} {t:Nm} {K:Nat} (h:NmS w t) (hf:nfB t=true) (hk:t.n≤K∧t.m≤K):NmV K w t (nq t):=by
 obtain ⟨q,hq⟩:=Nm.rn h hf hk.1 hk.2;rw [hq.nq];exact hq
def cvOf (c:Lc):CV:=⟨c.nm,nq c.cost,c.lo.i,nq c.lo.v,c.hi.i,nq c.hi.v⟩
def rvOf (r:Lr):RV:=⟨r.nm,r.lo.i,nq r.lo.v,r.hi.i,nq r.hi.v,(List.range r.tk).map (fun p=>(r.col p,nq (r.T p)))⟩
theorem range_at {α:Type} {f:Nat→α} {n j:Nat} {v:α} (h:((List.range n).map f)[j]?=some v):j<n∧v=f j:=by
 have hlt:j<n:=by have:=(List.getElem?_eq_some_iff.1 h).1;simpa using this
 simp [hlt] at h;exact ⟨hlt,h.symm⟩
theorem range_get {α:Type} {f:Nat→α} {n j:Nat} (h:j<n):((List.range n).map f)[j]?=some (f j):=by simp [h]
theorem bd_of {w:World} {a b:Ex} {K:Nat} (ha:NmS w a.v) (hb:NmS w b.v) (ka:a.v.n≤K∧a.v.m≤K) (kb:b.v.n≤K∧b.v.m≤K) (h:abB a b=true):NmV K w a.v (nq a.v)∧NmV K w b.v (nq b.v)∧bdB a.i (nq a.v) b.i (nq b.v)=true:=by
 obtain ⟨f1,f2,h1,h2⟩:=abB_ok h;simp only [exF,efB,Bool.and_eq_true,Bool.or_eq_true,decide_eq_true_eq] at f1 f2;have v1:NmV K w a.v (nq a.v):=ha.val f1.1 ka;have v2:NmV K w b.v (nq b.v):=hb.val f2.1 kb;refine ⟨v1,v2,?_⟩;simp only [bdB,Bool.and_eq_true,Bool.or_eq_true,decide_eq_true_eq];constructor
 ·rcases f1.2 with h | ⟨h | h,h3⟩
  ·exact .inl h
  ·exact .inr ⟨h,(Rn.q_zero v1).2 h3⟩
  ·exact absurd h h1
 ·rcases f2.2 with h | ⟨h | h,h3⟩
  ·exact .inl h
  ·exact absurd h h2
  ·exact .inr ⟨h,(Rn.q_zero v2).2 h3⟩
theorem ts_of {w:World} {col:Nat→Int} {T:Nat→Nm} {n K:Nat}:∀{r i:Nat} {last:Int},tfr col T r i last=true→(∀p,i≤p→p<i+r→col p<(n:Int))→(∀p,i≤p→p<i+r→NmV K w (T p) (nq (T p)))→tsB n last ((List.range' i r).map (fun p=>(col p,nq (T p))))=true
 | 0,i,last,_,_,_=>rfl
 | r+1,i,last,h,hc,hv=>by
  simp only [tfr,Bool.and_eq_true,decide_eq_true_eq] at h;rw [List.range'_succ,List.map_cons];simp only [tsB,Bool.and_eq_true,decide_eq_true_eq];refine ⟨h.1,hc i (by omega) (by omega),fun e=>?_,ts_of h.2.2.2 (fun p a b=>hc p (by omega) (by omega)) (fun p a b=>hv p (by omega) (by omega))⟩;have:=(Rn.q_zero (hv i (by omega) (by omega))).1 e;omega
def csOf (M:Mo):List CV:=(List.range M.ck).map (fun j=>cvOf (M.C j))
def rsOf (M:Mo):List RV:=(List.range M.rk).map (fun j=>rvOf (M.R j))
theorem MoR.movC {w M K} (h:MoR w M) (hk:MoK K M) (he:chkE M=0):MoV K w M (nq M.off) (csOf M) (rsOf M)∧mvOk (csOf M) (rsOf M)=true:=by
 obtain ⟨l1,l2,hF,n1,n2,t1,t2,hAl⟩:=chkE_ok he;simp only [moF,Bool.and_eq_true] at hF;obtain ⟨hF0,hFC,hFR⟩:=hF;have hcol:∀j,j<M.ck→ColV K w (M.C j) (cvOf (M.C j))∧bdB (cvOf (M.C j)).li (cvOf (M.C j)).lq (cvOf (M.C j)).hi (cvOf (M.C j)).hq=true:=fun j hj=>by
  obtain ⟨_,_,_,_,hn⟩:=h.cls j hj;obtain ⟨f1,f2⟩:=clsB_at hFC j (by omega) (by omega);have k:=hk.c j hj;obtain ⟨v1,v2,hb⟩:=bd_of hn.lo hn.hi k.2.1 k.2.2 f2;exact ⟨⟨rfl,hn.cost.val f1 k.1,rfl,v1,rfl,v2⟩,hb⟩
 have hrow:∀j,j<M.rk→RowV K w (M.R j) (rvOf (M.R j))∧bdB (rvOf (M.R j)).li (rvOf (M.R j)).lq (rvOf (M.R j)).hi (rvOf (M.R j)).hq=true∧tsB M.ck (-1) (rvOf (M.R j)).ts=true:=fun j hj=>by
  obtain ⟨_,_,_,_,hn⟩:=h.rls j hj;obtain ⟨f1,f2⟩:=rlsB_at hFR j (by omega) (by omega);have k:=hk.r j hj;obtain ⟨v1,v2,hb⟩:=bd_of hn.lo hn.hi k.1 k.2.1 f1;have hall:=(tfr_all f2).1;have hv:∀p,p<(M.R j).tk→NmV K w ((M.R j).T p) (nq ((M.R j).T p)):=fun p hp=>by
   obtain ⟨_,_,_,_,hr⟩:=hn.tl p hp;exact NmS.val hr (hall p (by omega) (by omega)).2.1 (k.2.2.2 p hp)
  refine ⟨⟨rfl,rfl,v1,rfl,v2,by simp [rvOf],fun p z q e=>?_⟩,hb,?_⟩
  ·obtain ⟨hp,e'⟩:=range_at e;obtain ⟨b,o,ea,c4,_⟩:=hn.tl p hp;cases e'
   exact ⟨rfl,hv p hp,b,o,ea,c4⟩
  ·show tsB M.ck (-1) ((List.range (M.R j).tk).map _)=true;rw [List.range_eq_range'];exact ts_of f2 (fun p _ hp=>(cols_at f2 (alB_at hAl j (by omega) (by omega)) p (by omega)).2) (fun p _ hp=>hv p (by omega))
 unfold csOf rsOf;refine ⟨⟨h.off.val hF0 hk.off,by simp,by simp,fun j v e=>?_,fun j v e=>?_⟩,?_⟩
 ·obtain ⟨hj,rfl⟩:=range_at e;obtain ⟨b,o,ea,hc,_⟩:=h.cls j hj;exact ⟨⟨b,o,ea,hc⟩,(hcol j hj).1⟩
 ·obtain ⟨hj,rfl⟩:=range_at e;obtain ⟨b,o,ea,hc,_⟩:=h.rls j hj;exact ⟨⟨b,o,ea,hc⟩,(hrow j hj).1⟩
 ·have ec:∀j,j<M.ck→nmC ((List.range M.ck).map (fun j=>cvOf (M.C j))) j=(M.C j).nm:=fun j hj=>by unfold nmC;rw [range_get hj];rfl
  have er:∀j,j<M.rk→nmR ((List.range M.rk).map (fun j=>rvOf (M.R j))) j=(M.R j).nm:=fun j hj=>by unfold nmR;rw [range_get hj];rfl
  simp only [mvOk,Bool.and_eq_true,decide_eq_true_eq,List.all_eq_true,List.length_map,List.length_range,Bool.not_eq_true'];refine ⟨l1,l2,fun v hv=>?_,fun v hv=>?_,?_,?_,?_,?_⟩
  ·obtain ⟨j,hj,rfl⟩:=List.mem_map.1 hv;exact (hcol j (List.mem_range.1 hj)).2
  ·obtain ⟨j,hj,rfl⟩:=List.mem_map.1 hv;have:=hrow j (List.mem_range.1 hj);refine ⟨this.2.1,this.2.2,?_⟩;have h3:=(hk.r j (List.mem_range.1 hj)).2.2.1;simp [rvOf];omega
  ·rw [nms_congr (S':=fun j=>(M.C j).nm) (fun j _ hj=>ec j (by omega))];exact n1
  ·rw [nms_congr (S':=fun j=>(M.R j).nm) (fun j _ hj=>er j (by omega))];exact n2
  ·rw [twr_congr (S':=fun j=>(M.C j).nm) (fun j hj=>ec j (by omega))];exact t1
  ·rw [twr_congr (S':=fun j=>(M.R j).nm) (fun j hj=>er j (by omega))];exact t2
theorem FnT.of {K w} {e:Ex} {i:Int} {q:Rat} (h:QnT K w e.v q) (hi:e.i=i) (hb:i=0∨(i=-1∨i=1)∧q=0):Fn w e.i e.v.s e.v.x e.v.n e.v.f e.v.y e.v.m e.v.g q:=⟨h.2.2,by rw [hi];exact hb⟩
def kx (p:Bool):Int:=if p then 0 else 3
theorem Rn.en0 {L w s x n c f y m d g q} (h:Rn L w s x n c f y m d g q):En L w 0 s x n c f y m d g q:=⟨h,.inl rfl⟩
def ks (p:Bool) (n2:Nat):Int:=if p then (if n2=0 then 4 else 0) else 3
set_option maxRecDepth 100000 in
set_option maxHeartbeats 4000000 in
theorem eCmp_l {w:World} {i1:Int} {s1:Bool} {x1:Option Addr} {n1 c1:Nat} {f1:Nat→Int} {y1:Option Addr} {m1 d1:Nat} {g1:Nat→Int} {i2:Int} {s2:Bool} {x2:Option Addr} {n2 c2:Nat} {f2:Nat→Int} {y2:Option Addr} {m2 d2:Nat} {g2:Nat→Int} {qa qb:Rat} {p1 p2:Bool} (h1:Rw w x1 n1 c1 f1 y1 m1 d1 g1) (h2:Rw w x2 n2 c2 f2 y2 m2 d2 g2) (hn1:n1≤4096) (hm1:m1≤4096) (hn2:n2≤4096) (hm2:m2≤4096) (hp1:efB i1 s1 f1 n1 g1 m1=p1) (hp2:efB i2 s2 f2 n2 g2 m2=p2) (hq1:p1=true→En 4096 w i1 s1 x1 n1 c1 f1 y1 m1 d1 g1 qa) (hq2:p2=true→En 4096 w i2 s2 x2 n2 c2 f2 y2 m2 d2 g2 qb) :
  Calls Tryz.prog 69 #[.agg #[.int .i64 i1,.bool s1,.slice x1 n1 c1,.slice y1 m1 d1],.agg #[.int .i64 i2,.bool s2,.slice x2 n2 c2,.slice y2 m2 d2]] w fun e w'=>∃r er,e=.returned (.tuple #[.int .i64 r,.int .i64 er])∧Below w.heap.size w w'∧Hid (OC (p1 && p2) i1 qa i2 qb r er):=by
 have HP1:=hid hp1;have HP2:=hid hp2
 have k1:=(bx4_at w (.int .i64 i1) (.bool s1) (.slice x1 n1 c1) (.slice y1 m1 d1) 81).alloc (.cells #[.int .i64 i2,.bool s2,.slice x2 n2 c2,.slice y2 m2 d2] 81);have k2:=bx4_at (w.alloc (.cells #[.int .i64 i1,.bool s1,.slice x1 n1 c1,.slice y1 m1 d1] 81)) (.int .i64 i2) (.bool s2) (.slice x2 n2 c2) (.slice y2 m2 d2) 81;rw [size_alloc1] at k2;have k3:=below_alloc (below_alloc (Below.refl w.heap.size w) (.cells #[.int .i64 i1,.bool s1,.slice x1 n1 c1,.slice y1 m1 d1] 81)) (.cells #[.int .i64 i2,.bool s2,.slice x2 n2 c2,.slice y2 m2 d2] 81);have HQ1:=hid (fun h=>(hq1 h).below k3);have HQ2:=hid (fun h=>(hq2 h).below k3);have HR1:=hid (h1.below k3);have HR2:=hid (h2.below k3)
 clear hp1 hp2 hq1 hq2 h1 h2;go_enter Tryz.func69,Tryz.ntmps69;go_upto_region 1 with fail
 generalize (w.alloc (.cells #[.int .i64 i1,.bool s1,.slice x1 n1 c1,.slice y1 m1 d1] 81)).alloc (.cells #[.int .i64 i2,.bool s2,.slice x2 n2 c2,.slice y2 m2 d2] 81)=w1 at *;have HW:=hid k3;have BA:=hid k1;have BB:=hid k2
 clear k1 k2 k3;obtain ⟨za,a0,a1,a2,a3⟩:=BA.out;obtain ⟨zb,b0,b1,b2,b3⟩:=BB.out;go_wp2_with fail
 have cf:=fun (t:TypeId)=>allForm2_c (li2_at w1 (.int .i64 i1) (.bool s1) (.slice x1 n1 c1) (.slice y1 m1 d1) (.int .i64 i2) (.bool s2) (.slice x2 n2 c2) (.slice y2 m2 d2) t) (HR1.out.alloc _) (HR2.out.alloc _) (by omega) (by omega) (by omega) (by omega)
 rw [HP1.out,HP2.out] at cf;refine (cf _).mono ?_;rintro e w2 ⟨rfl,hb⟩;have HB1:Hid (Below w1.heap.size w1 w2):=(below_alloc (Below.refl _ _) _).trans (hb.mono (by simp));have HB:=hid (HW.out.trans (HB1.out.mono HW.out.size));clear hb cf za a0 a1 a2 a3 zb b0 b1 b2 b3;obtain ⟨pp,hp⟩:∃pp,(p1 && p2)=pp:=⟨_,rfl⟩;have HPP:=hid hp;rw [hp];cases pp
 ·clear hp;go_wp2
  go_ret2
  exact ⟨0,3,rfl,HB.out,.inl ⟨HPP.out,rfl,rfl⟩⟩
 have hpp:p1=true∧p2=true:=by simpa using hp
 have E1:=hid ((HQ1.out hpp.1).below HB1.out);have E2:=hid ((HQ2.out hpp.2).below HB1.out)
 clear hp hpp;obtain ⟨za,a0,a1,a2,a3⟩:=BA.out.below HB1.out;obtain ⟨zb,b0,b1,b2,b3⟩:=BB.out.below HB1.out;by_cases hz:i1=0∧i2=0
 ·obtain ⟨rfl,rfl⟩:=hz;go_wp2_with fail
  refine (rCmp_n E1.out.rn E2.out.rn (by omega)).mono ?_;rintro e w3 ⟨r,rfl,hb,hr⟩;have HB3:=hid (HB.out.trans (hb.mono HB.out.size));have HRr:=hid hr
  clear hb hr;go_wp2
  go_ret2
  refine ⟨r,0,rfl,HB3.out,.inr ⟨HPP.out,rfl,?_⟩⟩;rcases HRr.out with ⟨j1,j2⟩ | ⟨j1,j2⟩ | ⟨j1,j2⟩
  ·exact .inl ⟨j1,.inr ⟨rfl,j2⟩⟩
  ·exact .inr (.inl ⟨j1,rfl,j2⟩)
  ·exact .inr (.inr ⟨j1,.inr ⟨rfl,j2⟩⟩)
 ·have hcase:(i1 != 0)=true∨(i1 != 0)=false∧(i2 != 0)=true:=by
   by_cases h:i1=0
   ·right;subst h;exact ⟨by simp,by simp;intro h;exact hz ⟨rfl,h⟩⟩
   ·left;simp;exact h
  have HEq:Hid (i1=i2→qa=qb):=by
   intro h;have j1:=E1.out.inf;have j2:=E2.out.inf
   rcases j1 with j1 | j1
   ·exact absurd ⟨j1,by omega⟩ hz
   ·rcases j2 with j2 | j2
    ·exact absurd ⟨by omega,j2⟩ hz
    ·rw [j1.2,j2.2]
  clear hz;rcases hcase with hc | ⟨hc,hc2⟩
  all_goals
   go_wp2_with fail
   refine compare_c.mono ?_;rintro e w3 ⟨r,rfl,rfl,hr⟩;have HRr:=hid hr;clear hr;go_wp2
   go_ret2
   refine ⟨r,0,rfl,HB.out,.inr ⟨HPP.out,rfl,?_⟩⟩;rcases HRr.out with ⟨j1,j2⟩ | ⟨j1,j2⟩ | ⟨j1,j2⟩
   ·exact .inl ⟨j1,.inl j2⟩
   ·exact .inr (.inl ⟨j1,j2,HEq.out j2⟩)
   ·exact .inr (.inr ⟨j1,.inl j2⟩)
def kpsB (q:Rat) (li:Int) (lq:Rat) (hi:Int) (hq:Rat):Bool:=decide ((li<0∨li=0∧lq≤q)∧(0<hi∨hi=0∧q≤hq))
theorem EOrd.geq {c:Int} {q:Rat} {i:Int} {b:Rat} (h:EOrd c 0 q i b):0≤c ↔ (i<0∨i=0∧b≤q):=by
 rcases h with ⟨rfl,h⟩ | ⟨rfl,h,h'⟩ | ⟨rfl,h⟩
 ·constructor
  ·intro h;omega
  ·rintro (h2 | ⟨h2,h3⟩)
   ·rcases h with h | ⟨h,_⟩ <;> omega
   ·rcases h with h | ⟨_,h⟩
    ·omega
    ·exact absurd h (Rat.not_lt.2 h3)
 ·exact ⟨fun _=>.inr ⟨h.symm,by rw [h'];exact Rat.le_refl⟩,fun _=>by omega⟩
 ·exact ⟨fun _=>by rcases h with h | ⟨h,h2⟩;exact .inl h;exact .inr ⟨h.symm,Rat.le_of_lt h2⟩,fun _=>by omega⟩
theorem EOrd.leq {c:Int} {q:Rat} {i:Int} {b:Rat} (h:EOrd c 0 q i b):c≤0 ↔ (0<i∨i=0∧q≤b):=by
 rcases h with ⟨rfl,h⟩ | ⟨rfl,h,h'⟩ | ⟨rfl,h⟩
 ·exact ⟨fun _=>by rcases h with h | ⟨h,h2⟩;exact .inl h;exact .inr ⟨h.symm,Rat.le_of_lt h2⟩,fun _=>by omega⟩
 ·exact ⟨fun _=>.inr ⟨h.symm,by rw [h'];exact Rat.le_refl⟩,fun _=>by omega⟩
 ·constructor
  ·intro h;omega
  ·rintro (h2 | ⟨h2,h3⟩)
   ·rcases h with h | ⟨h,_⟩ <;> omega
   ·rcases h with h | ⟨_,h⟩
    ·omega
    ·exact absurd h (Rat.not_lt.2 h3)
set_option maxRecDepth 100000 in
set_option maxHeartbeats 4000000 in
theorem keeps_c {w:World} {s0:Bool} {x0:Option Addr} {n0 c0:Nat} {f0:Nat→Int} {y0:Option Addr} {m0 d0:Nat} {g0:Nat→Int} {q:Rat} {i1:Int} {s1:Bool} {x1:Option Addr} {n1 c1:Nat} {f1:Nat→Int} {y1:Option Addr} {m1 d1:Nat} {g1:Nat→Int} {q1:Rat} {i2:Int} {s2:Bool} {x2:Option Addr} {n2 c2:Nat} {f2:Nat→Int} {y2:Option Addr} {m2 d2:Nat} {g2:Nat→Int} {q2:Rat} (h0:Rn 4096 w s0 x0 n0 c0 f0 y0 m0 d0 g0 q) (h1:En 4096 w i1 s1 x1 n1 c1 f1 y1 m1 d1 g1 q1) (h2:En 4096 w i2 s2 x2 n2 c2 f2 y2 m2 d2 g2 q2) :
  Calls Tryz.prog 43 #[.agg #[.bool s0,.slice x0 n0 c0,.slice y0 m0 d0],.agg #[.int .i64 i1,.bool s1,.slice x1 n1 c1,.slice y1 m1 d1],.agg #[.int .i64 i2,.bool s2,.slice x2 n2 c2,.slice y2 m2 d2]] w fun e w'=>e=.returned (.bool (kpsB q i1 q1 i2 q2))∧Below w.heap.size w w':=by
 have k3:=below_alloc (below_alloc (below_alloc (below_alloc (Below.refl w.heap.size w) (.cells #[.bool s0,.slice x0 n0 c0,.slice y0 m0 d0] 24)) (.cells #[.int .i64 i1,.bool s1,.slice x1 n1 c1,.slice y1 m1 d1] 81)) (.cells #[.int .i64 i2,.bool s2,.slice x2 n2 c2,.slice y2 m2 d2] 81)) (.cells #[.int .i64 0,.bool s0,.slice x0 n0 c0,.slice y0 m0 d0] 81);have b1:Bx4 ((((w.alloc (.cells #[.bool s0,.slice x0 n0 c0,.slice y0 m0 d0] 24)).alloc (.cells #[.int .i64 i1,.bool s1,.slice x1 n1 c1,.slice y1 m1 d1] 81)).alloc (.cells #[.int .i64 i2,.bool s2,.slice x2 n2 c2,.slice y2 m2 d2] 81)).alloc (.cells #[.int .i64 0,.bool s0,.slice x0 n0 c0,.slice y0 m0 d0] 81)) (w.heap.size+1) (.int .i64 i1) (.bool s1) (.slice x1 n1 c1) (.slice y1 m1 d1):=by
  have:=((bx4_at (w.alloc (.cells #[.bool s0,.slice x0 n0 c0,.slice y0 m0 d0] 24)) (.int .i64 i1) (.bool s1) (.slice x1 n1 c1) (.slice y1 m1 d1) 81).alloc (.cells #[.int .i64 i2,.bool s2,.slice x2 n2 c2,.slice y2 m2 d2] 81)).alloc (.cells #[.int .i64 0,.bool s0,.slice x0 n0 c0,.slice y0 m0 d0] 81);rw [size_alloc1] at this;exact this
 have b2:Bx4 ((((w.alloc (.cells #[.bool s0,.slice x0 n0 c0,.slice y0 m0 d0] 24)).alloc (.cells #[.int .i64 i1,.bool s1,.slice x1 n1 c1,.slice y1 m1 d1] 81)).alloc (.cells #[.int .i64 i2,.bool s2,.slice x2 n2 c2,.slice y2 m2 d2] 81)).alloc (.cells #[.int .i64 0,.bool s0,.slice x0 n0 c0,.slice y0 m0 d0] 81)) (w.heap.size+1+1) (.int .i64 i2) (.bool s2) (.slice x2 n2 c2) (.slice y2 m2 d2):=by
  have:=(bx4_at ((w.alloc (.cells #[.bool s0,.slice x0 n0 c0,.slice y0 m0 d0] 24)).alloc (.cells #[.int .i64 i1,.bool s1,.slice x1 n1 c1,.slice y1 m1 d1] 81)) (.int .i64 i2) (.bool s2) (.slice x2 n2 c2) (.slice y2 m2 d2) 81).alloc (.cells #[.int .i64 0,.bool s0,.slice x0 n0 c0,.slice y0 m0 d0] 81);rw [size_alloc1,size_alloc1] at this;exact this
 have b3:Bx4 ((((w.alloc (.cells #[.bool s0,.slice x0 n0 c0,.slice y0 m0 d0] 24)).alloc (.cells #[.int .i64 i1,.bool s1,.slice x1 n1 c1,.slice y1 m1 d1] 81)).alloc (.cells #[.int .i64 i2,.bool s2,.slice x2 n2 c2,.slice y2 m2 d2] 81)).alloc (.cells #[.int .i64 0,.bool s0,.slice x0 n0 c0,.slice y0 m0 d0] 81)) (w.heap.size+1+1+1) (.int .i64 0) (.bool s0) (.slice x0 n0 c0) (.slice y0 m0 d0):=by
  have:=bx4_at (((w.alloc (.cells #[.bool s0,.slice x0 n0 c0,.slice y0 m0 d0] 24)).alloc (.cells #[.int .i64 i1,.bool s1,.slice x1 n1 c1,.slice y1 m1 d1] 81)).alloc (.cells #[.int .i64 i2,.bool s2,.slice x2 n2 c2,.slice y2 m2 d2] 81)) (.int .i64 0) (.bool s0) (.slice x0 n0 c0) (.slice y0 m0 d0) 81;rw [size_alloc1,size_alloc1,size_alloc1] at this;exact this
 have E0:=hid ((Rn.en0 h0).below k3);have E1:=hid (h1.below k3);have E2:=hid (h2.below k3);have HB:=hid k3;have B1:=hid b1;have B2:=hid b2;have B3:=hid b3
 clear h0 h1 h2 k3 b1 b2 b3;go_enter Tryz.func43,Tryz.ntmps43;go_upto_region 2 with fail
 generalize ((((w.alloc (.cells #[.bool s0,.slice x0 n0 c0,.slice y0 m0 d0] 24)).alloc (.cells #[.int .i64 i1,.bool s1,.slice x1 n1 c1,.slice y1 m1 d1] 81)).alloc (.cells #[.int .i64 i2,.bool s2,.slice x2 n2 c2,.slice y2 m2 d2] 81)).alloc (.cells #[.int .i64 0,.bool s0,.slice x0 n0 c0,.slice y0 m0 d0] 81))=w1 at *;obtain ⟨za,a0,a1,a2,a3⟩:=B3.out;obtain ⟨zb,l0,l1,l2,l3⟩:=B1.out;go_wp2_with fail
 refine (eCmp_l E0.out.rn.rw E1.out.rn.rw E0.out.rn.ln E0.out.rn.ld E1.out.rn.ln E1.out.rn.ld E0.out.ef E1.out.ef (fun _=>E0.out) (fun _=>E1.out)).mono ?_;rintro e w2 ⟨r1,er1,rfl,hb,HO1⟩;replace HB:=hid (HB.out.trans (hb.mono HB.out.size));replace E0:=hid (E0.out.below hb);replace E2:=hid (E2.out.below hb);replace B2:=hid (B2.out.below hb);replace B3:=hid (B3.out.below hb)
 clear hb za a0 a1 a2 a3 zb l0 l1 l2 l3 E1 B1;obtain ⟨za,a0,a1,a2,a3⟩:=B3.out;obtain ⟨zb,l0,l1,l2,l3⟩:=B2.out;go_wp2_with fail
 refine (eCmp_l E0.out.rn.rw E2.out.rn.rw E0.out.rn.ln E0.out.rn.ld E2.out.rn.ln E2.out.rn.ld E0.out.ef E2.out.ef (fun _=>E0.out) (fun _=>E2.out)).mono ?_;rintro e w3 ⟨r2,er2,rfl,hb,HO2⟩;replace HB:=hid (HB.out.trans (hb.mono HB.out.size));clear hb za a0 a1 a2 a3 zb l0 l1 l2 l3 E0 E2 B2 B3;have o1:EOrd r1 0 q i1 q1:=by rcases HO1.out with ⟨h,_⟩ | ⟨_,_,h⟩;cases h;exact h
 have o2:EOrd r2 0 q i2 q2:=by rcases HO2.out with ⟨h,_⟩ | ⟨_,_,h⟩;cases h;exact h
 have HK:Hid (kpsB q i1 q1 i2 q2=(decide (0≤r1) && decide (r2≤0))):=by
  show _=_;unfold kpsB;rw [←Bool.decide_and];exact decide_eq_decide.2 (and_congr o1.geq.symm o2.leq.symm)
 clear o1 o2 HO1 HO2;by_cases c1:0≤r1
 ·have d1:decide (0≤r1)=true:=decide_eq_true c1;have HD:=hid d1;by_cases c2:r2≤0
  ·have HD2:=hid (decide_eq_true c2);go_wp2;go_ret;exact ⟨by rw [HK.out,HD.out,HD2.out];rfl,HB.out⟩
  ·have HD2:=hid (decide_eq_false c2);go_wp2;go_ret;exact ⟨by rw [HK.out,HD.out,HD2.out];rfl,HB.out⟩
 ·have d1:decide (0≤r1)=false:=decide_eq_false c1;have HD:=hid d1;go_wp2;go_ret;exact ⟨by rw [HK.out,HD.out];rfl,HB.out⟩
set_option maxRecDepth 100000 in
set_option maxHeartbeats 4000000 in
theorem ptimes_c {L:Nat} {w:World} {sa:Bool} {xa:Option Addr} {na ca:Nat} {fa:Nat→Int} {ya:Option Addr} {ma da:Nat} {ga:Nat→Int} {a:Rat} {sb:Bool} {xb:Option Addr} {nb cb:Nat} {fb:Nat→Int} {yb:Option Addr} {mb db:Nat} {gb:Nat→Int} {b:Rat} (ha:Rn L w sa xa na ca fa ya ma da ga a) (hb:Rn L w sb xb nb cb fb yb mb db gb b) (hL:L≤200000) :
  Calls Tryz.prog 38 #[.agg #[.bool sa,.slice xa na ca,.slice ya ma da],.agg #[.bool sb,.slice xb nb cb,.slice yb mb db]] w fun e w'=>RatAns (2*L+1) w w' e (a*b):=by
 have h1:=((ha.alloc (.cells #[.bool sa,.slice xa na ca,.slice ya ma da] 24)).alloc (.cells #[.bool sb,.slice xb nb cb,.slice yb mb db] 24)).alloc (.cells #[.bool false,.slice none 0 0,.slice none 0 0] 24);have h2:=((hb.alloc (.cells #[.bool sa,.slice xa na ca,.slice ya ma da] 24)).alloc (.cells #[.bool sb,.slice xb nb cb,.slice yb mb db] 24)).alloc (.cells #[.bool false,.slice none 0 0,.slice none 0 0] 24);have h3:=ob_new ((w.alloc (.cells #[.bool sa,.slice xa na ca,.slice ya ma da] 24)).alloc (.cells #[.bool sb,.slice xb nb cb,.slice yb mb db] 24)) 24;rw [size_alloc1,size_alloc1] at h3;have h4:=below_alloc (below_alloc (below_alloc (Below.refl w.heap.size w) (.cells #[.bool sa,.slice xa na ca,.slice ya ma da] 24)) (.cells #[.bool sb,.slice xb nb cb,.slice yb mb db] 24)) (.cells #[.bool false,.slice none 0 0,.slice none 0 0] 24);clear ha hb;go_enter Tryz.func38,Tryz.ntmps38;go_wp2_with fail
 generalize ((w.alloc (.cells #[.bool sa,.slice xa na ca,.slice ya ma da] 24)).alloc (.cells #[.bool sb,.slice xb nb cb,.slice yb mb db] 24)).alloc (.cells #[.bool false,.slice none 0 0,.slice none 0 0] 24)=w1 at *;have OB1:=hid h3;have HW1:=hid h4
 refine (rMul_n h1 h2 hL).mono ?_;clear h1 h2 h3 h4;rintro e w2 ⟨s,x,n,c,f,y,m,d,g,rfl,hb2,hq⟩;have hob:=OB1.out.below hb2;have hbw:=HW1.out.trans (hb2.mono HW1.out.size);obtain ⟨hz,z0,z1,z2,zf⟩:=OB1.out.below hb2;have HQ:=hid hq;have HOB:=hid hob;have HBW:=hid hbw
 clear hq hob hbw hb2 OB1 HW1;go_wp2;exact bodyPost_ret (v:=.agg #[.bool s,.slice x n c,.slice y m d]) (by simp [results,Tryz.results38,go_sem,z0,z1,z2,hz]) rfl ⟨s,x,n,c,f,y,m,d,g,rfl,below_alloc (below_st HBW.out (by omega)) _,(HOB.out.rn HQ.out).alloc _⟩
def psum:List Rat→Rat→Rat
 | [],acc=>acc
 | q :: p,acc=>psum p (acc+q)
theorem rat_lt400 {i L:Nat} (hi:i≤400) (hL:L≤400):4+i*(L+1)≤164000:=by
 have h1:i*(L+1)≤400*(L+1):=Nat.mul_le_mul_right _ hi;omega
set_option maxRecDepth 100000 in
set_option maxHeartbeats 4000000 in
theorem pSum_c {w:World} {L:Nat} {ao:Option Addr} {k cap:Nat} {p:List Rat} (h:Rf L w ao p) (hk:p.length=k) (hk2:k≤400) (hL:L≤400) :
  Calls Tryz.prog 39 #[.slice ao k cap] w fun e w'=>RatAns (4+k*(L+1)) w w' e (psum p 0):=by
 have H:=hid h;have h2:=ob_new w 24;have h3:=below_alloc (Below.refl w.heap.size w) (.cells #[.bool false,.slice none 0 0,.slice none 0 0] 24);clear h;go_enter Tryz.func39,Tryz.ntmps39;go_wp2_with fail
 generalize w.alloc (.cells #[.bool false,.slice none 0 0,.slice none 0 0] 24)=w0 at *;refine (rOf_c (z:=0) (by omega) (by omega)).mono ?_;rintro e w4 ⟨s0,x0,n0,c0,f0,y0,m0,d0,g0,rfl,hb4,hq4⟩;have OB4:=hid (h2.below hb4);have HB4:=hid (h3.trans (hb4.mono h3.size));have HQ4:=hid hq4
 clear h2 h3 hb4 hq4;go_wp2_with fail
 have hSx:Sx (w4.alloc (.cells #[.bool s0,.slice x0 n0 c0,.slice y0 m0 d0] 24)) w4.heap.size s0 x0 n0 c0 y0 m0 d0:=⟨by simp,by simp [go_sem],by simp [go_sem],by simp [go_sem],fun o=>by simp only [World.frozen?,heap_alloc_new w4 (.cells #[.bool s0,.slice x0 n0 c0,.slice y0 m0 d0] 24)];simp⟩;have hal:=below_alloc (Below.refl w4.heap.size w4) (.cells #[.bool s0,.slice x0 n0 c0,.slice y0 m0 d0] 24);have hne:w.heap.size<w4.heap.size:=OB4.out.z;have ST:=hid hSx;have HB5:=hid (HB4.out.trans (hal.mono HB4.out.size));have HQ5:=hid (HQ4.out.below hal);have OB5:=hid (OB4.out.below hal)
 clear hSx hal HB4 HQ4 OB4;go_loopw [9] (fun t wr=>∃(i:Nat) (acc:Rat) (s:Bool) (x:Option Addr) (n c:Nat) (f:Nat→Int) (y:Option Addr) (m d:Nat) (g:Nat→Int),i≤k∧t=.int .i64 i∧Hid (Below w.heap.size w wr)∧Hid (Sx wr w4.heap.size s x n c y m d)∧Hid (Ob wr w.heap.size)∧Hid (Rn (4+i*(L+1)) wr s x n c f y m d g acc)∧Hid (psum (p.drop i) acc=psum p 0)) (fun t _=>k-(intOf t).toNat)
 case atStart=>exact ⟨0,0,s0,x0,n0,c0,f0,y0,m0,d0,g0,by omega,rfl,HB5,ST,OB5,(by show Rn _ _ _ _ _ _ _ _ _ _ _ _;exact HQ5.out.mono (by omega)),rfl⟩
 case round =>
  clear HB5 HQ5 OB5 ST;obtain ⟨i,acc,s,x,n,c,f,y,m,d,g,hi,rfl,HB,HS,HO,HQ,HE⟩:=hrel;by_cases hlt:i<k
  ·obtain ⟨q,haq⟩:∃t,p[i]?=some t:=⟨_,List.getElem?_eq_getElem (by omega)⟩;obtain ⟨b,o,⟨ts,tx,tn,tc,tf,ty,tm,td,tg⟩,hav,hc,hr⟩:=(H.out.below HB.out) i q haq;have hav2:=hav;subst hav2;obtain ⟨x0,x1,x2⟩:=hc;replace x0:wr.cell? ⟨b,o+i*3,none⟩=some (.bool ts):=x0;replace x1:wr.cell? ⟨b,o+i*3+1,none⟩=some (.slice tx tn tc):=x1;replace x2:wr.cell? ⟨b,o+i*3+2,none⟩=some (.slice ty tm td):=x2;have HD:Hid (psum (p.drop (i+1)) (acc+q)=psum p 0):=by
    show _=_;have e1:p.drop i=q :: p.drop (i+1):=by
     have hl:i<p.length:=by omega
     have:p[i]=q:=by rw [List.getElem?_eq_getElem hl] at haq;exact Option.some.inj haq
     rw [←this];exact List.drop_eq_getElem_cons hl
    rw [←HE.out,e1];rfl
   have hb5:=below_alloc (Below.refl wr.heap.size wr) (.cells #[.bool ts,.slice tx tn tc,.slice ty tm td] 24);have HR1:Hid (Rn L (wr.alloc (.cells #[.bool ts,.slice tx tn tc,.slice ty tm td] 24)) ts tx tn tc tf ty tm td tg q):=Rn.below hr hb5;replace HS:=hid (HS.out.below hb5);replace HO:=hid (HO.out.below hb5);replace HQ:=hid (HQ.out.below hb5);replace HB:=hid (HB.out.trans (hb5.mono HB.out.size))
   have i2:((i:Nat):Int)<((k:Nat):Int):=by omega
   obtain ⟨sz,u0,u1,u2,uf⟩:=HS.out;clear hr haq hav HE hb5;go_wp2_with fail
   clear sz u0 u1 u2 uf x0 x1 x2;generalize wr.alloc (.cells #[.bool ts,.slice tx tn tc,.slice ty tm td] 24)=w5 at *;have hKi:=rat_lt400 (i:=i) (L:=L) (by omega) hL;refine (rAdd_n (L:=164000) (HQ.out.mono hKi) (HR1.out.mono (by omega)) (by omega)).mono ?_;rintro e w6 ⟨s6,x6,n6,c6,f6,y6,m6,d6,g6,rfl,hb6,hq6⟩;have S6:=HS.out.below hb6;have R1:=hid (rd1_mk (HB.out.trans (hb6.mono HB.out.size)) S6 (HO.out.below hb6) (hq6.cut (K:=4+(i+1)*(L+1)) ((lo_add (HQ.out.lo HQ.out.ln HQ.out.ld) (HR1.out.lo HR1.out.ln HR1.out.ld)).mono (by rw [Nat.add_mul];omega))) hne);obtain ⟨sz,u0,u1,u2,uf⟩:=S6;clear HS HO HQ HR1 HB hb6 hq6 hKi;go_wp2;go_roundw
   case rel=>exact ⟨i+1,acc+q,s6,x6,n6,c6,f6,y6,m6,d6,g6,by omega,by go_num,R1.out.bel,R1.out.sx,R1.out.ob,R1.out.rn,HD.out⟩
   case measure=>simp [intOf];omega
  ·have e1:i=k:=by omega
   have HF:Hid (acc=psum p 0):=by
    show _=_;rw [←HE.out,e1,←hk,List.drop_length];rfl
   have i2:¬(((i:Nat):Int)<((k:Nat):Int)):=by omega
   obtain ⟨sz,u0,u1,u2,uf⟩:=HS.out;obtain ⟨hz,z0,z1,z2,zf⟩:=HO.out;have HKK:Hid (i=k):=e1;clear e1 HE;go_wp2;exact bodyPost_ret (v:=.agg #[.bool s,.slice x n c,.slice y m d]) (by simp [results,Tryz.results39,go_sem,z0,z1,z2]) rfl ⟨s,x,n,c,f,y,m,d,g,rfl,below_st HB.out (by omega),by rw [←HF.out,←HKK.out];exact HO.out.rn HQ.out⟩
def wpAnyP (P:Program) (md:Region.Mode) (ops:Array Oper) (Q:Exit→Act→World→Prop) (S:World→Prop) (k:Nat):Nat→Array Bool→Act→World→Prop
 | 0,listed,a,w=>Region.ready md ops listed=[]∧Q .normal a w
 | fuel+1,listed,a,w =>
  (Region.ready md ops listed=[]→Q .normal a w) ∧
  ∀i ∈ Region.ready md ops listed,wpOp P ops Q i (fun a' w'=>((listed.setIfInBounds i true).getD k true=false→S w')∧wpAnyP P md ops Q S k fuel (listed.setIfInBounds i true) a' w') a w
theorem wpAny_of_phase {P:Program} {ops:Array Oper} {Q:Exit→Act→World→Prop} {md:Region.Mode} {S:World→Prop} {k:Nat}:∀(fuel:Nat) (listed:Array Bool) (a:Act) (w:World),wpAnyP P md ops Q S k fuel listed a w→wpAny P md ops Q fuel listed a w
 | 0,_,_,_,h=>h
 | fuel+1,_,_,_,h=>⟨h.1,fun i hi=>wpOp_mono (fun a' w' h'=>wpAny_of_phase fuel _ a' w' h'.2) (h.2 i hi)⟩
theorem ready_waits {ops:Array Oper} {md:Region.Mode} {listed:Array Bool} {i j:Nat} (hi:i ∈ Region.ready md ops listed) (hj:j ∈ Region.ready md ops listed) (hd:i ∈ depsOf md ops j):False:=by
 obtain ⟨oj,hoj,e,he,hb,rfl⟩:=mem_deps.1 hd;obtain ⟨_,oj',hoj',hall⟩:=mem_ready.1 hj;rw [hoj] at hoj';cases hoj'
 have h1:=hall e he hb;have h0:=(mem_ready.1 hi).1;rcases Nat.lt_or_ge e.on listed.size with h' | h'
 ·simp [h'] at h0 h1;rw [h0] at h1;cases h1
 ·simp [Array.getElem?_eq_none h'] at h1
theorem wpAnyP_pure {P:Program} {ops:Array Oper} {Q:Exit→Act→World→Prop} {md:Region.Mode} {S:World→Prop} {k:Nat} {i:Nat} {oi:Oper} {v:Value} (hi:ops[i]?=some oi) (hsel:∀(j:Nat) (o:Oper) cs b,ops[j]?=some o→o.op≠.select cs b)
  (hQ:∀c a w,Q (.panic c) (a.put oi.dst v) w→Q (.panic c) a w) (hik:i≠k) :
  ∀(fuel:Nat) (listed:Array Bool) (a:Act) (w:World),
   (∀j oj,ops[j]?=some oj→j≠i→listed.getD j true=false→(∀e ∈ oj.after,Region.binds md e=true→e.on≠i)→oi.apart ops oj=true) →
   i ∈ Region.ready md ops listed→YieldsIf P ops (fun _=>True) oi v a→(listed.getD k true=false→S w) →
   wpAnyP P md ops Q S k fuel (listed.setIfInBounds i true) (a.put oi.dst v) w→wpAnyP P md ops Q S k (fuel+1) listed a w:=by
 intro fuel
 induction fuel with
 | zero =>
  intro listed a w _ hr hy hS H;refine ⟨fun h=>(by rw [h] at hr;cases hr),fun j hj=>?_⟩;by_cases hji:j=i
  ·subst hji;exact hy.wpOp hi trivial ⟨fun h=>hS (by rw [getD_set_ne true hik] at h;exact h),H⟩
  ·have:=ready_mono hj hji;rw [H.1] at this;cases this
 | succ fuel ih =>
  intro listed a w hfree hr hy hS H;refine ⟨fun h=>(by rw [h] at hr;cases hr),fun j hj=>?_⟩;by_cases hji:j=i
  ·subst hji;exact hy.wpOp hi trivial ⟨fun h=>hS (by rw [getD_set_ne true hik] at h;exact h),H⟩
  ·have h1:=H.2 j (ready_mono hj hji);obtain ⟨hjun,oj,hoj,hall⟩:=mem_ready.1 hj;have hnot:∀e ∈ oj.after,Region.binds md e=true→e.on≠i:=fun e he hb heq=>ready_waits hr hj (mem_deps.2 ⟨oj,hoj,e,he,hb,heq⟩)
   have h2:=wpOp_putIf hoj (hfree j oj hoj hji hjun hnot) (fun cs b=>hsel i oi cs b hi) (fun cs b=>hsel j oj cs b hoj) hQ hy h1;have hfree':∀k ok,ops[k]?=some ok→k≠i→(listed.setIfInBounds j true).getD k true=false →
     (∀e ∈ ok.after,Region.binds md e=true→e.on≠i)→oi.apart ops ok=true:=fun k ok hk hki hun hno=>by
    refine hfree k ok hk hki ?_ hno;by_cases hjk:j=k
    ·subst hjk;exact hjun
    ·rw [getD_set_ne true hjk] at hun;exact hun
   have hS':∀w',(((listed.setIfInBounds i true).setIfInBounds j true).getD k true=false→S w')→(listed.setIfInBounds j true).getD k true=false→S w':=fun w' h hk=>h (by
    by_cases hjk:j=k
    ·subst hjk;rcases Nat.lt_or_ge j listed.size with h' | h'
     ·simp [h'] at hk
     ·simp [Array.getElem?_eq_none h'] at hjun
    ·rw [getD_set_ne true hjk] at hk ⊢;rw [getD_set_ne true hik];exact hk)
   refine wpOp_mono (fun a' w' h3=>⟨hS' _ h3.2.1,ih (listed.setIfInBounds j true) a' w' hfree' (ready_mono hr (Ne.symm hji)) h3.1 (hS' _ h3.2.1) ?_⟩) h2;rw [Array.setIfInBounds_comm _ _ hji];exact h3.2.2
theorem wpAnyP_skim {P:Program} {ops:Array Oper} {Q:Exit→Act→World→Prop} {md:Region.Mode} {S:World→Prop} {k:Nat} {i:Nat} {oi:Oper} {v:Value} {fuel:Nat} {listed:Array Bool} {a:Act} {w:World} (hi:ops[i]?=some oi)
  (hs:Region.noSelect ops=true) (hf:Region.free md ops listed i=true) (hr:(Region.ready md ops listed).contains i=true) (hik:(i==k)=false)
  (hQ:∀c a w,Q (.panic c) (a.put oi.dst v) w→Q (.panic c) a w) (hy:YieldsIf P ops (fun _=>True) oi v a) (hS:listed.getD k true=false→S w)
  (h:wpAnyP P md ops Q S k fuel (listed.setIfInBounds i true) (a.put oi.dst v) w):wpAnyP P md ops Q S k (fuel+1) listed a w :=
 wpAnyP_pure hi (Region.noSelect_spec hs) hQ (by simpa using hik) fuel listed a w (Region.free_spec hi hf) (by simpa using hr) hy hS h
def AllReadyP (P:Program) (md:Region.Mode) (ops:Array Oper) (Q:Exit→Act→World→Prop) (S:World→Prop) (k:Nat) (fuel:Nat) (listed:Array Bool) (a:Act) (w:World) (rs:List Nat):Prop :=
 ∀i ∈ rs,wpOp P ops Q i (fun a' w'=>((listed.setIfInBounds i true).getD k true=false→S w')∧wpAnyP P md ops Q S k fuel (listed.setIfInBounds i true) a' w') a w
theorem AllReadyP.nil {P:Program} {ops:Array Oper} {Q:Exit→Act→World→Prop} {md:Region.Mode} {S:World→Prop} {k:Nat} {fuel:Nat} {listed:Array Bool} {a:Act} {w:World}:AllReadyP P md ops Q S k fuel listed a w []:=fun _ h=>by cases h
theorem AllReadyP.cons {P:Program} {ops:Array Oper} {Q:Exit→Act→World→Prop} {md:Region.Mode} {S:World→Prop} {k:Nat} {fuel:Nat} {listed:Array Bool} {a:Act} {w:World} {i:Nat} {o:Oper} {rs:List Nat} (ho:ops[i]?=some o)
  (h:∀K':Act→World→Prop,Shut (∀a w,((listed.setIfInBounds i true).getD k true=false→S w)→(((listed.setIfInBounds i true).getD k true=false→S w)→wpAnyP P md ops Q S k fuel (listed.setIfInBounds i true) a w)→K' a w)→if Region.wanted o (yielded ops a.tmps)=true then Oper.wp P o a w K' Q else K' (a.put o.dst undef) w)
  (hs:AllReadyP P md ops Q S k fuel listed a w rs):AllReadyP P md ops Q S k fuel listed a w (i :: rs):=fun j hj=>by
 rcases List.mem_cons.1 hj with rfl | hj
 ·exact wpOp_step ho (fun K' hK=>h K' (fun a w hS hW=>hK a w ⟨hS,hW hS⟩))
 ·exact hs j hj
theorem wpAnyP_ready {P:Program} {ops:Array Oper} {Q:Exit→Act→World→Prop} {md:Region.Mode} {S:World→Prop} {k:Nat} {rs:List Nat} {fuel:Nat} {listed:Array Bool} {a:Act} {w:World} (hr:Region.ready md ops listed=rs) (hne:rs≠[])
  (h:AllReadyP P md ops Q S k fuel listed a w rs):wpAnyP P md ops Q S k (fuel+1) listed a w:=⟨fun h0=>absurd (hr ▸ h0) hne,hr ▸ h⟩
theorem wpAnyP_done {P:Program} {ops:Array Oper} {Q:Exit→Act→World→Prop} {md:Region.Mode} {S:World→Prop} {k:Nat} {listed:Array Bool} {a:Act} {w:World} (hr:Region.ready md ops listed=[]) (h:Q .normal a w) :
  ∀fuel,wpAnyP P md ops Q S k fuel listed a w
 | 0=>⟨hr,h⟩
 | _+1=>⟨fun _=>h,by rw [hr];simp⟩
theorem wp_region_phase {P:Program} {ops:Array Oper} {Q:Exit→Act→World→Prop} {S:World→Prop} {id:Nat} {a:Act} {w:World} (k:Nat) (hm:P.follows .mixedOrders=true) (hS:S w.drew)
  (h:S w.drew→wpAnyP P .any ops Q S k ops.size (Array.replicate ops.size false) a w.drew):(Code.region id ops true).wp P Q a w :=
 wp_region_any hm (wpAny_of_phase _ _ _ _ (h hS))
end Go.Proofs.YtbnaikljfhhljaaGreat
