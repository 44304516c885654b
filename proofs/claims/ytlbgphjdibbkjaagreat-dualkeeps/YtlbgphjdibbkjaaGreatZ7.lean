/-
 Walks.
-/
import Derived.Test.YtlbgphjdibbkjaaGreatZ2
import Derived.Test.YtlbgphjdibbkjaaGreatZ4
import Derived.Test.YtlbgphjdibbkjaaGreatZ5
import Derived.Test.YtlbgphjdibbkjaaGreatZ6
import Derived.BigQuiet
import Derived.Test.YtlbgphjdibbkjaaGreatZ3
import Derived.Deep.RegionHeld3
import Derived.BigRegion
set_option maxRecDepth 100000
set_option maxHeartbeats 16000000
namespace Go.Proofs.YtlbgphjdibbkjaaGreat
open Value (slice agg)
open Obj (cells)
open Ending (returned)
open Nat (le_refl le_trans zero_add)
open World (cell?_of_block block_lt_of_cell?)
open List (getElem?_eq_getElem)
open Go.Proofs.Tryz
open Go.RowKit
structure QcV (K:Nat) (w:World) (c:Lc) (v:CV):Prop where
 nm:c.nm=v.nm
 cost:QnT K w c.cost v.cost
 li:c.lo.i=v.li
 lq:QnT K w c.lo.v v.lq
 hi:c.hi.i=v.hi
 hq:QnT K w c.hi.v v.hq
structure QrV (K:Nat) (w:World) (r:Lr) (v:RV):Prop where
 nm:r.nm=v.nm
 li:r.lo.i=v.li
 lq:QnT K w r.lo.v v.lq
 hi:r.hi.i=v.hi
 hq:QnT K w r.hi.v v.hq
 tk:r.tk=v.ts.length
 tl:Tq K w r.ta v.ts
theorem QcV.q_ {K w w' c v} (h:QcV K w c v) (hb:Bl w w'):QcV K w' c v:=⟨h.nm,h.cost.q_ hb,h.li,h.lq.q_ hb,h.hi,h.hq.q_ hb⟩
theorem QcV.kp {K w w' c v} (h:QcV K w c v) (hb:Kp w w'):QcV K w' c v:=⟨h.nm,h.cost.kp hb,h.li,h.lq.kp hb,h.hi,h.hq.kp hb⟩
theorem QrV.q_ {K w w' c v} (h:QrV K w c v) (hb:Bl w w'):QrV K w' c v:=⟨h.nm,h.li,h.lq.q_ hb,h.hi,h.hq.q_ hb,h.tk,h.tl.q_ hb⟩
theorem Tq.of {K w w' ao l} (h:Tq K w ao l) (hb:l≠[]->∀b o s,ao=some ⟨b,o,s⟩->b<w.heap.size->w'.heap[b]?=w.heap[b]?) (hk:Kp w w'):Tq K w' ao l:=λj a q hj=>by
 obtain⟨b,o,t,e,⟨c0,c1,c2,c3⟩,h2⟩:=h j a q hj;have:=hb (λe=>by rw[e]at hj;simp at hj) b o none e (block_lt_of_cell? w _ c0);exact⟨b,o,t,e,⟨(cell?_of_block (a:=⟨b,o+j*4,none⟩) this).trans c0,(cell?_of_block (a:=⟨b,o+j*4+1,none⟩) this).trans c1,(cell?_of_block (a:=⟨b,o+j*4+2,none⟩) this).trans c2,(cell?_of_block (a:=⟨b,o+j*4+3,none⟩) this).trans c3⟩,h2.kp hk⟩
theorem Tq.lt {K w ao l} (h:Tq K w ao l) (hl:l≠[]):∀b o s,ao=some ⟨b,o,s⟩->b<w.heap.size:=λb o s e=>by
 match l,hl with
 | (a,q) :: r,_ =>
  obtain⟨b',o',t,e',h4,_⟩:=h 0 a q rfl;rw[e]at e';cases e'
  exact block_lt_of_cell? w _ h4.x0
theorem QrV.of {K w w' r v} (h:QrV K w r v) (hb:v.ts≠[]->∀b o s,r.ta=some ⟨b,o,s⟩->b<w.heap.size->w'.heap[b]?=w.heap[b]?) (hk:Kp w w'):QrV K w' r v:=⟨h.nm,h.li,h.lq.kp hk,h.hi,h.hq.kp hk,h.tk,h.tl.of hb hk⟩
structure MqV (K:Nat) (w:World) (M:Mo) (q:Rat) (cs:List CV) (rs:List RV):Prop where
 off:QnT K w M.off q
 ck:M.ck=cs.length
 rk:M.rk=rs.length
 cls:∀j v,cs[j]?=some v->(∃b o,M.ca=some ⟨b,o,none⟩/\Cs w b (o+j*12) (M.C j).vs)/\QcV K w (M.C j) v
 rls:∀j v,rs[j]?=some v->(∃b o,M.ra=some ⟨b,o,none⟩/\Cs w b (o+j*10) (M.R j).vs)/\QrV K w (M.R j) v
theorem MqV.q_ {K w w' M q cs rs} (h:MqV K w M q cs rs) (hb:Bl w w'):MqV K w' M q cs rs :=
 ⟨h.off.q_ hb,h.ck,h.rk,λj v e=>by obtain⟨⟨b,o,h1,h2⟩,h3⟩:=h.cls j v e;exact⟨⟨b,o,h1,h2.q_ hb⟩,h3.q_ hb⟩,λj v e=>by obtain⟨⟨b,o,h1,h2⟩,h3⟩:=h.rls j v e;exact⟨⟨b,o,h1,h2.q_ hb⟩,h3.q_ hb⟩⟩
theorem zrH:(prog.info? 131).map (λi=>(i.zero,i.size,i.bytes))=some (some zC,12,200):=by kernel_rfl
theorem zrG:(prog.info? 134).map (λi=>(i.zero,i.size,i.bytes))=some (some zR,10,168):=by kernel_rfl
theorem zqv {li lq hi hq} (h:bdB li lq hi hq=true):(li=0∨(li=-1∨li=1)/\lq=0)/\(hi=0∨(hi=-1∨hi=1)/\hq=0):=by
 simp only[bdB,Bool.and_eq_true,Bool.or_eq_true,decide_eq_true_eq]at h;exact⟨by rcases h.1 with h|h;exact .inl h;exact .inr ⟨.inl h.1,h.2⟩,by rcases h.2 with h|h;exact .inl h;exact .inr ⟨.inr h.1,h.2⟩⟩
def zoy (K:Nat) (w w':World) (e:Ending) (k:Nat) (v:List (Int × Rat)):Prop:=∃aw cw,e=returned (slice aw k cw)/\Bl w w'/\(k<=cw/\cw<=9223372036854775807)/\(∀b o s,aw=some ⟨b,o,s⟩->w.heap.size<=b)/\Hid (Tq K w' aw v)
theorem znM {w L ao k cap col T v} (h:Tl w ao k col T) (hk:k<=10000) (hL:L<=16000) (hlv:v.length=k) (hq:∀j,j<k->∃q,v[j]?=some (col j,q)/\Rn L w (T j).s (T j).x (T j).n (T j).c (T j).f (T j).y (T j).m (T j).d (T j).g q) :
  Calls prog 80 #[slice ao k cap] w λe w'=>zoy (2*L) w w' e k v:=by
 have H:=zk h;clear h;go_enter func80,ntmps80;go_wp2_with fail
 go_loopw[3,8] (λov t wr=>∃(i:Nat) (T':Nat->Nm),i<=k/\t=.int .i64 i/\Hid (Bl w wr)/\Hid (RowG 136 4 w.heap.size wr ov i (zaL (tls i col T')))/\Hid (∀j,j<i->∃q,v[j]?=some (col j,q)/\QnT (2*L) wr (T' j) q)) (λ_ t _=>k-(intOf t).toNat)
 case atStart=>exact⟨0,T,by omega,rfl,Below.refl _ _,zak _ _ _ _,λj hj=>by omega⟩
 case round =>
  obtain⟨i,T',hi,rfl,HB,HRow,HT⟩:=hrel;by_cases hlt:i<k
  ·obtain⟨b,o,hao,hc,hn,hn1,hn2⟩:=(H.out.q_ HB.out) i hlt;obtain⟨⟨s,x,n,c,f,y,m,d,g⟩,hTi⟩:∃t,T i=t:=⟨_,rfl⟩;subst hao;rw[hTi]at hc hn hn1 hn2
   obtain⟨z,hz⟩:∃z,col i=z:=⟨_,rfl⟩;rw[hz]at hc
   obtain⟨x0,x1,x2,x3⟩:=hc;replace x0:wr.cell? ⟨b,o+i*4,none⟩=some (.int .i64 z):=x0;replace x1:wr.cell? ⟨b,o+i*4+1,none⟩=some (.bool s):=x1;replace x2:wr.cell? ⟨b,o+i*4+2,none⟩=some (slice x n c):=x2;replace x3:wr.cell? ⟨b,o+i*4+3,none⟩=some (slice y m d):=x3;have i1:((i:Nat):Int)<((k:Nat):Int):=by omega
   obtain⟨q,hvq,hrn⟩:=hq i hlt;rw[hTi]at hrn
   replace hn:Rn L wr s x n c f y m d g q:=hrn.q_ HB.out;clear hn1 hn2;have HVq:=zk hvq;have HN:=zk hn;have HZ:=zk hz;have HTi:=zk hTi
   clear hn hz hTi;go_upto_region 5 with fail
   have hb5:=zB wr (cells #[.int .i64 z,.bool s,slice x n c,slice y m d] 65);obtain⟨a0,a1,a2,a3⟩:=bk4 (zF wr [.int .i64 z,.bool s,slice x n c,slice y m d] 65);have hne:u3.ownBlock≠some wr.heap.size:=λe=>by have:=(HRow.out.lt _ e).2;omega
   replace HN:=zk (HN.out.q_ hb5);replace HRow:=zk (HRow.out.q_ hb5)
   replace HT:Hid (∀j,j<i->∃q,v[j]?=some (col j,q)/\QnT (2*L) (wr.alloc (cells #[.int .i64 z,.bool s,slice x n c,slice y m d] 65)) (T' j) q):=λj hj=>by obtain⟨q,h1,h2⟩:=HT.out j hj;exact⟨q,h1,h2.q_ hb5⟩
   replace HB:=zJ HB hb5;clear x0 x1 x2 x3 hb5;have hsz:w.heap.size<=(wr.alloc (cells #[.int .i64 z,.bool s,slice x n c,slice y m d] 65)).heap.size:=HB.out.size;generalize wr.alloc (cells #[.int .i64 z,.bool s,slice x n c,slice y m d] 65)=w5 at *;have CT:Hid (∀W,Bl w5 W->Calls prog 78 #[agg #[.bool s,slice x n c,slice y m d]] W λe w'=>∃s6 x6 n6 c6 d6 y6 m6 e6 g6,e=returned (agg #[.bool s6,slice x6 n6 c6,slice y6 m6 e6])/\Bl W w'/\Hid (n6<=2*L/\m6<=2*L/\Qn w' s6 x6 n6 d6 y6 m6 g6 q)):=λW hW=>(zdD (HN.out.q_ hW) (by omega)).mono (λ_ _ ⟨s,x,n,c,d,y,m,c',g,h1,h2,h3,h4,h5⟩=>⟨s,x,n,c,d,y,m,c',g,h1,h2,h3,h4,h5⟩)
   go_region_held3 (λw'=>w'.cell? ⟨wr.heap.size,0,none⟩=some (.int .i64 z)/\w'.cell? ⟨wr.heap.size,1,none⟩=some (.bool s)/\w'.cell? ⟨wr.heap.size,2,none⟩=some (slice x n c)/\w'.cell? ⟨wr.heap.size,3,none⟩=some (slice y m d))
    (refine⟨?_,?_,?_,?_⟩ <;> repeat(with_reducible first|assumption|refine kCd ?_|refine kCa ?_|refine kCb (by assumption) ?_))
    (first
     | (go_at_call 78;with_reducible refine(CT.out _ zai).mono ?_;rintro e w6 ⟨s6,x6,n6,c6,d6,y6,m6,e6,g6,rfl,hb6,HQ⟩;have B6:Bl w5 w6:=zai;have HRow6:=HRow.out.q_ B6;have hz6:w.heap.size<=w6.heap.size:=le_trans hsz B6.size;have a06:=kCb B6 a0;have a16:=kCb B6 a1;have a26:=kCb B6 a2;have a36:=kCb B6 a3;have hlt6:=block_lt_of_cell? w6 _ a06)
     | (refine zaY w6 rfl (.tmp 12) (.tmp 19) 132 rfl w.heap.size 136 64 4 (agg #[.int .i64 0,.bool false,slice none 0 0,slice none 0 0]) underlying132 zrF rfl (by decide) nz4 u3 i (zaL (tls i col T')) rfl HRow6 #[.int .i64 z,.bool s6,slice x6 n6 c6,slice y6 m6 e6] rfl rfl (zps _ _ _ _ _ _ _ _) (zlz _ _ _ _ _ _ _ _) ?p1 (by decide) hz6 ?_;(case p1=>omega);intro g8 cap8 w8 hr8 hk8 hb8 hg8;have h88:=hg8 wr.heap.size hlt6 hne;have a08:=(cell?_of_block (a:=⟨wr.heap.size,0,none⟩) h88).trans a06;have a18:=(cell?_of_block (a:=⟨wr.heap.size,1,none⟩) h88).trans a16;have a28:=(cell?_of_block (a:=⟨wr.heap.size,2,none⟩) h88).trans a26;have a38:=(cell?_of_block (a:=⟨wr.heap.size,3,none⟩) h88).trans a36))
   all_goals
    (have HB8:=zk (hb8 w (bUp HB.out B6) (le_refl _))
     have HR8:Hid (RowG 136 4 w.heap.size w8 (slice (some ⟨g8,0,none⟩) (i+1) cap8) (i+1) (zaL (tls (i+1) col (zaE T' i ⟨s6,x6,n6,c6,d6,y6,m6,e6,g6⟩)))):=by
      show RowG _ _ _ _ _ _ _;rw[zgB,HZ.out];exact hr8
     have HT8:Hid (∀j,j<i+1->∃q,v[j]?=some (col j,q)/\QnT (2*L) w8 (zaE T' i ⟨s6,x6,n6,c6,d6,y6,m6,e6,g6⟩ j) q):=λj hj=>by
      by_cases e:j=i
      ·subst e;rw[zbt];exact⟨q,HVq.out,QnT.kp (t:=⟨s6,x6,n6,c6,d6,y6,m6,e6,g6⟩) HQ.out hk8⟩
      ·rw[putN_ne e];obtain⟨q,h1,h2⟩:=HT.out j (by omega);exact⟨q,h1,(h2.q_ B6).kp hk8⟩
     clear hr8 hk8 hb8 hg8 h88 a08 a18 a28 a38 a06 a16 a26 a36 hlt6 hne HRow6 B6 hb6 HQ HRow HT HB CT a0 a1 a2 a3 HN hz6;go_wp2;go_roundw
     case rel=>exact⟨i+1,_,by omega,by go_num,HB8.out,HR8.out,HT8.out⟩
     case measure=>simp[intOf];omega)
  ·have e1:i=k:=by omega
   have i1:¬(((i:Nat):Int)<((k:Nat):Int)):=by omega
   rw[e1]at HRow HT
   obtain⟨aw,cw,rfl⟩:=HRow.out.slice;have hcw:k<=cw/\cw<=9223372036854775807:=by
    rcases HRow.out.2 with⟨hv,h0⟩|⟨_,_,_,hv,_,_,h5,h6,_⟩
    ·cases hv;omega
    ·cases hv;unfold maxLen at h6;omega
   clear e1;go_wp2;go_ret;exact⟨aw,cw,rfl,HB.out,hcw,(λb o s e=>(HRow.out.lt b (by rw[e];rfl)).1),(λj a q hj=>by have hlt2:j<k:=by { have:=(List.getElem?_eq_some_iff.1 hj).1;omega };obtain⟨b,hb,h4⟩:=zgH HRow.out hlt2;obtain⟨q',h5,h6⟩:=HT.out j hlt2;rw[hj]at h5;obtain⟨rfl,rfl⟩:a=col j/\q=q':=by { simpa using h5 };exact⟨b,0,T' j,hb,h4,h6⟩)⟩
def FN (K:Nat) (q:Rat) (v:Value) (w:World):Prop:=∃t':Nm,v=t'.val/\QnT K w t' q
def FE (K:Nat) (i:Int) (q:Rat) (v:Value) (w:World):Prop:=∃e':Ex,v=e'.val/\e'.i=i/\QnT K w e'.v q
def FC (K:Nat) (cv:CV) (v:Value) (w:World):Prop:=∃c':Lc,v=agg c'.vs.toArray/\QcV K w c' cv
def FCs (K:Nat) (cv:CV) (v:Value) (w:World):Prop:=∃b,∃c':Lc,v=slice (some ⟨b,0,none⟩) 1 1/\Cs w b 0 c'.vs/\QcV K w c' cv
def FT (K base tk:Nat) (ts:List (Int × Rat)) (v:Value) (w:World):Prop:=∃aw cw,v=slice aw tk cw/\(∀b o s,aw=some ⟨b,o,s⟩->base<=b)/\Tq K w aw ts
def FR (K base:Nat) (rv:RV) (v:Value) (w:World):Prop:=∃r':Lr,v=agg r'.vs.toArray/\QrV K w r' rv/\∀b o s,r'.ta=some ⟨b,o,s⟩->base<=b
def FRs (K base:Nat) (rv:RV) (v:Value) (w:World):Prop:=∃b,∃r':Lr,v=slice (some ⟨b,0,none⟩) 1 1/\Cs w b 0 r'.vs/\QrV K w r' rv/\∀b o s,r'.ta=some ⟨b,o,s⟩->base<=b
theorem FN.q_ {K t v w w'} (h:FN K t v w) (hb:Bl w w'):FN K t v w':=by obtain⟨t',h1,h2⟩:=h;exact⟨t',h1,h2.q_ hb⟩
theorem FE.q_ {K i t v w w'} (h:FE K i t v w) (hb:Bl w w'):FE K i t v w':=by obtain⟨t',h1,h2,h3⟩:=h;exact⟨t',h1,h2,h3.q_ hb⟩
theorem FC.q_ {K t v w w'} (h:FC K t v w) (hb:Bl w w'):FC K t v w':=by obtain⟨t',h1,h2⟩:=h;exact⟨t',h1,h2.q_ hb⟩
theorem FCs.q_ {K t v w w'} (h:FCs K t v w) (hb:Bl w w'):FCs K t v w':=by obtain⟨b,t',h1,h2,h3⟩:=h;exact⟨b,t',h1,h2.q_ hb,h3.q_ hb⟩
theorem FT.q_ {K base tk ts v w w'} (h:FT K base tk ts v w) (hb:Bl w w'):FT K base tk ts v w':=by obtain⟨aw,cw,h1,h2,h3⟩:=h;exact⟨aw,cw,h1,h2,h3.q_ hb⟩
theorem FR.q_ {K base t v w w'} (h:FR K base t v w) (hb:Bl w w'):FR K base t v w':=by obtain⟨t',h1,h2,h3⟩:=h;exact⟨t',h1,h2.q_ hb,h3⟩
theorem FRs.q_ {K base t v w w'} (h:FRs K base t v w) (hb:Bl w w'):FRs K base t v w':=by obtain⟨b,t',h1,h2,h3,h4⟩:=h;exact⟨b,t',h1,h2.q_ hb,h3.q_ hb,h4⟩
structure FrC (w:World) (base b1 b2 b3:Nat) (P Z:List Value) (so:Bool) (zx:Option Addr) (zn zc:Nat) (zy:Option Addr) (zm zd:Nat) (oN:Nm) (K:Nat) (q:Rat) (cs:List CV) (wr:World) (i:Nat) (C':Nat->Lc) (vC:Value):Prop where
 bel:Bl w wr
 p1:Bk wr b1 P 28
 p2:Bk wr b2 Z 96
 p3:Bk wr b3 [.bool so,slice zx zn zc,slice zy zm zd,vC,slice none 0 0] 96
 bs:base<=wr.heap.size
 off:QnT K wr oN q
 row:RowG 131 12 base wr vC i (ccs C' i)
 el:∀j v,j<i->cs[j]?=some v->QcV K wr (C' j) v
theorem FrC.q_ {w base b1 b2 b3 P Z so zx zn zc zy zm zd oN K q cs wr i C' vC w'} (h:FrC w base b1 b2 b3 P Z so zx zn zc zy zm zd oN K q cs wr i C' vC) (hb:Bl wr w'):FrC w base b1 b2 b3 P Z so zx zn zc zy zm zd oN K q cs w' i C' vC :=
 ⟨h.bel.trans (hb.mono h.bel.size),h.p1.q_ hb,h.p2.q_ hb,h.p3.q_ hb,le_trans h.bs hb.size,h.off.q_ hb,h.row.q_ hb,λj v hj e=>(h.el j v hj e).q_ hb⟩
theorem FrC.next {w base b1 b2 b3 P Z so zx zn zc zy zm zd oN K q cs wr i C' vC w8 g8 cap8 c'} (h:FrC w base b1 b2 b3 P Z so zx zn zc zy zm zd oN K q cs wr i C' vC) (h12:b1<b2) (h23:b2<b3) (h3b:b3<base) (hwb:w.heap.size<=b1) (hc:∀v,cs[i]?=some v->QcV K wr c' v) (hr:RowG 131 12 base w8 (slice (some ⟨g8,0,none⟩) (i+1) cap8) (i+1) (ccs C' i++c'.vs)) (hk:Kp wr w8) (hg:wr.grownBy w8 vC.ownBlock) :
  FrC w base b1 b2 b3 P Z so zx zn zc zy zm zd oN K q cs (w8.setCell ⟨b3,3,none⟩ (slice (some ⟨g8,0,none⟩) (i+1) cap8)) (i+1) (putC C' i c') (slice (some ⟨g8,0,none⟩) (i+1) cap8):=by
 have hbs:=h.bs;have hlt:∀k,k<base->w8.heap[k]?=wr.heap[k]?:=λk hk=>hg.block k (by omega) (λe=>by have:=(h.row.lt k e.symm).1;omega)
 have hset:∀k,k≠b3->(w8.setCell ⟨b3,3,none⟩ (slice (some ⟨g8,0,none⟩) (i+1) cap8)).heap[k]?=w8.heap[k]?:=λk hk=>Below.heap_setCell _ _ _ _ hk
 have hp3:Bk w8 b3 [.bool so,slice zx zn zc,slice zy zm zd,vC,slice none 0 0] 96:=h.p3.of (hlt b3 h3b);have hg8:=(hr.lt g8 rfl).1;have hk9:Kp wr (w8.setCell ⟨b3,3,none⟩ (slice (some ⟨g8,0,none⟩) (i+1) cap8)):=hk.set (x:=⟨b3,3,none⟩) hp3 (by obtain⟨aw,cw,e⟩:=h.row.slice;rw[e];exact zji _ _ _ _ _ _ _ _ _ _ _ _ _) _;refine⟨?_,h.p1.of ((hset b1 (by omega)).trans (hlt b1 (by omega))),h.p2.of ((hset b2 (by omega)).trans (hlt b2 (by omega))),hp3.set 3 _,le_trans hbs hk9.size,h.off.kp hk9,?_,λj v hj ev=>?_⟩
 ·have h8:Bl w w8:=h.bel.grown hg (by have:=h.bel.size;omega) (λk e=>by have:=(h.row.lt k e).1;omega);exact zL h8 h8.size ((Turned.refl w.heap.size (b3+1) w8).set (x:=⟨b3,3,none⟩) (by show w.heap.size<=b3;omega) (by simp) _) (le_refl _)
 ·rw[zkV];exact hr.of (λk hk=>hset k (λe=>by have:g8=k:=(by simpa[Value.ownBlock]using hk);omega))
 ·by_cases e:j=i
  ·subst e;rw[zgP];exact(hc v ev).kp hk9
  ·rw[zgO e];exact(h.el j v (by omega) ev).kp hk9
structure FrR (w:World) (base base2 b2 b3:Nat) (Z:List Value) (so:Bool) (zx:Option Addr) (zn zc:Nat) (zy:Option Addr) (zm zd:Nat) (oN:Nm) (K:Nat) (q:Rat) (cs:List CV) (ck:Nat) (C':Nat->Lc) (vC:Value) (rs:List RV) (wr:World) (i:Nat) (R':Nat->Lr) (vR:Value):Prop where
 bel:Bl w wr
 p2:Bk wr b2 Z 96
 p3:Bk wr b3 [.bool so,slice zx zn zc,slice zy zm zd,vC,vR] 96
 bs:base2<=wr.heap.size
 off:QnT K wr oN q
 rowC:RowG 131 12 base wr vC ck (ccs C' ck)
 elC:∀j v,j<ck->cs[j]?=some v->QcV K wr (C' j) v
 nv:∀k,vC.ownBlock=some k->k<base2
 row:RowG 134 10 base2 wr vR i (rcs R' i)
 el:∀j v,j<i->rs[j]?=some v->QrV K wr (R' j) v/\(v.ts≠[]->∀b o s,(R' j).ta=some ⟨b,o,s⟩->base2<=b/\vR.ownBlock≠some b)
theorem FrR.q_ {w base base2 b2 b3 Z so zx zn zc zy zm zd oN K q cs ck C' vC rs wr i R' vR w'} (h:FrR w base base2 b2 b3 Z so zx zn zc zy zm zd oN K q cs ck C' vC rs wr i R' vR) (hb:Bl wr w'):FrR w base base2 b2 b3 Z so zx zn zc zy zm zd oN K q cs ck C' vC rs w' i R' vR :=
 ⟨h.bel.trans (hb.mono h.bel.size),h.p2.q_ hb,h.p3.q_ hb,le_trans h.bs hb.size,h.off.q_ hb,h.rowC.q_ hb,λj v hj e=>(h.elC j v hj e).q_ hb,h.nv,h.row.q_ hb,λj v hj e=>⟨(h.el j v hj e).1.q_ hb,(h.el j v hj e).2⟩⟩
theorem FrR.next {w base base2 b2 b3 Z so zx zn zc zy zm zd oN K q cs ck C' vC rs wr i R' vR w8 g8 cap8 r'} (h:FrR w base base2 b2 b3 Z so zx zn zc zy zm zd oN K q cs ck C' vC rs wr i R' vR) (h23:b2<b3) (h3b:b3<base2) (hbb:b3<base) (hwb:w.heap.size<=b2) (hc:∀v,rs[i]?=some v->QrV K wr r' v) (hta:∀b o s,r'.ta=some ⟨b,o,s⟩->base2<=b/\vR.ownBlock≠some b) (hr:RowG 134 10 base2 w8 (slice (some ⟨g8,0,none⟩) (i+1) cap8) (i+1) (rcs R' i++r'.vs)) (hk:Kp wr w8) (hg:wr.grownBy w8 vR.ownBlock) (hl:vR.ownBlock=some g8∨wr.heap.size<=g8) :
  FrR w base base2 b2 b3 Z so zx zn zc zy zm zd oN K q cs ck C' vC rs (w8.setCell ⟨b3,4,none⟩ (slice (some ⟨g8,0,none⟩) (i+1) cap8)) (i+1) (zdF R' i r') (slice (some ⟨g8,0,none⟩) (i+1) cap8):=by
 have hbs:=h.bs;have hlt:∀k,k<base2->w8.heap[k]?=wr.heap[k]?:=λk hk=>hg.block k (by omega) (λe=>by have:=(h.row.lt k e.symm).1;omega)
 have hset:∀k,k≠b3->(w8.setCell ⟨b3,4,none⟩ (slice (some ⟨g8,0,none⟩) (i+1) cap8)).heap[k]?=w8.heap[k]?:=λk hk=>Below.heap_setCell _ _ _ _ hk
 have hp3:Bk w8 b3 [.bool so,slice zx zn zc,slice zy zm zd,vC,vR] 96:=h.p3.of (hlt b3 h3b);have hg8:=(hr.lt g8 rfl).1;have hk9:Kp wr (w8.setCell ⟨b3,4,none⟩ (slice (some ⟨g8,0,none⟩) (i+1) cap8)):=hk.set (x:=⟨b3,4,none⟩) hp3 (by obtain⟨aw,cw,e⟩:=h.row.slice;obtain⟨aw2,cw2,e2⟩:=h.rowC.slice;rw[e,e2];exact zji _ _ _ _ _ _ _ _ _ _ _ _ _) _;have hta8:∀(r:Lr) (v:RV),QrV K wr r v->(v.ts≠[]->∀b o s,r.ta=some ⟨b,o,s⟩->base2<=b/\vR.ownBlock≠some b)->QrV K (w8.setCell ⟨b3,4,none⟩ (slice (some ⟨g8,0,none⟩) (i+1) cap8)) r v/\(v.ts≠[]->∀b o s,r.ta=some ⟨b,o,s⟩->base2<=b/\(Value.slice (some ⟨g8,0,none⟩) (i+1) cap8).ownBlock≠some b):=λr v h1 h2=>by
  refine⟨h1.of (λh3 b o s e hb=>?_) hk9,λh3 b o s e=>?_⟩
  ·obtain⟨k1,k2⟩:=h2 h3 b o s e;rw[hset b (by omega)];exact hg.block b hb (λe=>k2 e.symm)
  ·obtain⟨k1,k2⟩:=h2 h3 b o s e;refine⟨k1,λe2=>?_⟩;have e3:g8=b:=by simpa[Value.ownBlock]using e2
   rcases hl with h4|h4
   ·exact k2 (e3 ▸ h4)
   ·have:=h1.tl.lt h3 b o s e;omega
 refine⟨?_,h.p2.of ((hset b2 (by omega)).trans (hlt b2 (by omega))),hp3.set 4 _,le_trans hbs hk9.size,h.off.kp hk9,h.rowC.of (λk hk=>?_),λj v hj e=>(h.elC j v hj e).kp hk9,h.nv,?_,λj v hj ev=>?_⟩
 ·have h8:Bl w w8:=h.bel.grown hg (by have:=h.bel.size;omega) (λk e=>by have:=(h.row.lt k e).1;omega);exact zL h8 h8.size ((Turned.refl w.heap.size (b3+1) w8).set (x:=⟨b3,4,none⟩) (by show w.heap.size<=b3;omega) (by simp) _) (le_refl _)
 ·have:=(h.rowC.lt k hk).1;rw[hset k (by omega)];exact hlt k (h.nv k hk)
 ·rw[zkj];exact hr.of (λk hk=>hset k (λe=>by have:g8=k:=(by simpa[Value.ownBlock]using hk);omega))
 ·by_cases e:j=i
  ·subst e;rw[zfl];exact hta8 r' v (hc v ev) (λ_=>hta)
  ·rw[zfk e];exact hta8 _ v (h.el j v (by omega) ev).1 (h.el j v (by omega) ev).2
theorem FrR.done {w base base2 b2 b3 so zx zn zc zy zm zd oN K q cs ck C' rs rk R' wr aC cC aR cR w9 v0 v1 v2 v3 v4} (h:FrR w base base2 b2 b3 [.bool false,slice none 0 0,slice none 0 0,slice none 0 0,slice none 0 0] so zx zn zc zy zm zd oN K q cs ck C' (slice aC ck cC) rs wr rk R' (slice aR rk cR)) (h2:b2<base) (h22:b2<base2) (hwb:w.heap.size<=b2)
  (e:w9=((((wr.setCell ⟨b2,0,none⟩ v0).setCell ⟨b2,1,none⟩ v1).setCell ⟨b2,2,none⟩ v2).setCell ⟨b2,3,none⟩ v3).setCell ⟨b2,4,none⟩ v4) (hck:ck=cs.length) (hrk:rk=rs.length) :
  Bl w w9/\MqV K w9 ⟨oN,aC,ck,cC,C',aR,rk,cR,R'⟩ q cs rs:=by
 obtain⟨hk,hne⟩:=zjo h.p2 (zji _ _ _ _ _ _ _ _ _ _ _ _ _) e;refine⟨by rw[e];exact zei h.bel hwb,h.off.kp hk,hck,hrk,λj v hv=>?_,λj v hv=>?_⟩
 ·have hj:j<ck:=by rw[hck];exact(List.getElem?_eq_some_iff.1 hv).1
  rcases h.rowC.2 with⟨_,h0⟩|⟨gb,cap,cur,hv',hb,_⟩
  ·exact absurd hj (by rw[h0];exact Nat.not_lt_zero _)
  ·have hr:=h.rowC.of (w':=w9) (λk hk=>hne k (by have:=(h.rowC.lt k hk).1;omega));cases hv'
   refine⟨⟨gb,0,rfl,λp u hp=>?_⟩,(h.elC j v hj hv).kp hk⟩;rw[zero_add];exact hr.cells (zhr hp hj)
 ·have hj:j<rk:=by rw[hrk];exact(List.getElem?_eq_some_iff.1 hv).1
  rcases h.row.2 with⟨_,h0⟩|⟨gb,cap,cur,hv',hb,_⟩
  ·exact absurd hj (by rw[h0];exact Nat.not_lt_zero _)
  ·have hr:=h.row.of (w':=w9) (λk hk=>hne k (by have:=(h.row.lt k hk).1;omega));cases hv'
   refine⟨⟨gb,0,rfl,λp u hp=>?_⟩,(h.el j v hj hv).1.of (λh3 b o s e _=>hne b (by have:=((h.el j v hj hv).2 h3 b o s e).1;omega)) hk⟩;rw[zero_add];exact hr.cells (zgL hp hj)
theorem zpy {w M L q cs rs} (h:MoV L w M q cs rs) (hL:L<=1000) (hok:zbl cs rs=true):Calls prog 43 #[M.val] w λe w'=>∃M':Mo,e=returned M'.val/\Bl w w'/\MqV (2*L) w' M' q cs rs:=by
 generalize hP:(λ(e:Ending) (w':World)=>∃M':Mo,e=returned M'.val/\Bl w w'/\MqV (2*L) w' M' q cs rs)=P;have HA:Hid (∀w' (M':Mo),Bl w w'->MqV (2*L) w' M' q cs rs->P (returned M'.val) w'):=by subst hP;exact λw' M' h1 h2=>⟨M',rfl,h1,h2⟩
 clear hP;simp only[zbl,Bool.and_eq_true,decide_eq_true_eq,List.all_eq_true]at hok;obtain⟨hck,hrk,hbc,hbr,_⟩:=hok;have HBC:=zk hbc;have HBR:=zk hbr
 have hlc:=h.ck;have hlr:=h.rk
 obtain⟨ho,hx1,hx2,hC,hR⟩:=h;clear hx1 hx2;obtain⟨⟨s,x,n,c,f,y,m,d,g⟩,ca,ck,cc,C,ra,rk,rc,R⟩:=M;replace hlc:ck=cs.length:=hlc;replace hlr:rk=rs.length:=hlr;rw[<-hlc]at hck
 rw[<-hlr]at hrk
 have HC:Hid (∀j v,cs[j]?=some v->(∃b o,ca=some ⟨b,o,none⟩/\Cs w b (o+j*12) (C j).vs)/\ColV L w (C j) v):=hC;have HRL:Hid (∀j v,rs[j]?=some v->(∃b o,ra=some ⟨b,o,none⟩/\Cs w b (o+j*10) (R j).vs)/\RowV L w (R j) v):=hR;have CO:=zk (λw' (hw:Bl w w')=>zdD (w:=w') (ho.q_ hw) (le_trans hL (by decide)));replace CO:Hid (∀w' (hw:Bl w w'),Calls prog 78 #[agg #[.bool s,slice x n c,slice y m d]] w' λe w2=>∃s x n c d y m c' g,e=returned (agg #[.bool s,slice x n c,slice y m c'])/\Bl w' w2/\n<=2*L/\m<=2*L/\Qn w2 s x n d y m g q):=CO;have HLC:=zk hlc;have HLR:=zk hlr
 clear ho hC hR hbc hbr hlc hlr;show Calls prog 43 #[agg #[.bool s,slice x n c,slice y m d,slice ca ck cc,slice ra rk rc]] w _;go_enter func43,ntmps43;go_wp2_with fail
 have hb1:=zu (zB w (cells #[.bool s,slice x n c,slice y m d,slice ca ck cc,slice ra rk rc] 28)) (cells #[.bool false,slice none 0 0,slice none 0 0,slice none 0 0,slice none 0 0] 96);have B1:=(zF w [.bool s,slice x n c,slice y m d,slice ca ck cc,slice ra rk rc] 28).q_ (zu (Below.refl _ _) (cells #[.bool false,slice none 0 0,slice none 0 0,slice none 0 0,slice none 0 0] 96));have B2:=zF (w.alloc (cells #[.bool s,slice x n c,slice y m d,slice ca ck cc,slice ra rk rc] 28)) [.bool false,slice none 0 0,slice none 0 0,slice none 0 0,slice none 0 0] 96;rw[zw]at B2
 replace B1:Bk ((w.alloc (cells #[.bool s,slice x n c,slice y m d,slice ca ck cc,slice ra rk rc] 28)).alloc (cells #[.bool false,slice none 0 0,slice none 0 0,slice none 0 0,slice none 0 0] 96)) w.heap.size [.bool s,slice x n c,slice y m d,slice ca ck cc,slice ra rk rc] 28:=B1;replace B2:Bk ((w.alloc (cells #[.bool s,slice x n c,slice y m d,slice ca ck cc,slice ra rk rc] 28)).alloc (cells #[.bool false,slice none 0 0,slice none 0 0,slice none 0 0,slice none 0 0] 96)) (w.heap.size+1) [.bool false,slice none 0 0,slice none 0 0,slice none 0 0,slice none 0 0] 96:=B2;generalize(w.alloc (cells #[.bool s,slice x n c,slice y m d,slice ca ck cc,slice ra rk rc] 28)).alloc (cells #[.bool false,slice none 0 0,slice none 0 0,slice none 0 0,slice none 0 0] 96)=w1 at *;refine(CO.out _ hb1).mono ?_;rintro e w2 ⟨sz,z2,nz,c2,fz,y2,mz,d2,gz,rfl,hb2,hq1,hq2,hq⟩;have B3:=zF w2 [.bool sz,slice z2 nz c2,slice y2 mz d2,slice none 0 0,slice none 0 0] 96;have hb3:=zB w2 (cells #[.bool sz,slice z2 nz c2,slice y2 mz d2,slice none 0 0,slice none 0 0] 96);have l1:=B1.lt;have l2:=B2.lt;have l3:=hb2.size
 replace B1:=(B1.q_ hb2).q_ hb3;replace B2:=(B2.q_ hb2).q_ hb3
 have HB3:=zk ((bUp hb1 hb2).trans (hb3.mono (le_trans hb1.size hb2.size)));have HQ:Hid (QnT (2*L) (w2.alloc (cells #[.bool sz,slice z2 nz c2,slice y2 mz d2,slice none 0 0,slice none 0 0] 96)) ⟨sz,z2,nz,c2,fz,y2,mz,d2,gz⟩ q):=⟨hq1,hq2,hq.q_ hb3⟩;have k3:=B1.cell (j:=3) rfl;have HB1:=zk B1;have HB2:=zk B2
 obtain⟨b3,hb3e⟩:∃z,w2.heap.size=z:=⟨_,rfl⟩;have hl3:w.heap.size+1<b3:=by omega
 have hbs:b3<(w2.alloc (cells #[.bool sz,slice z2 nz c2,slice y2 mz d2,slice none 0 0,slice none 0 0] 96)).heap.size:=by simp;omega
 clear hb1 hb2 hb3 B1 B2 CO hq hq1 hq2 l1 l2 l3;go_wp2_with fail
 generalize w2.alloc (cells #[.bool sz,slice z2 nz c2,slice y2 mz d2,slice none 0 0,slice none 0 0] 96)=w3 at *;rw[hb3e]at B3
 obtain⟨base,hbase⟩:∃z,w3.heap.size=z:=⟨_,rfl⟩;have hbb:b3<base:=by omega
 have HI0:Hid (FrC w base w.heap.size (w.heap.size+1) b3 [.bool s,slice x n c,slice y m d,slice ca ck cc,slice ra rk rc] [.bool false,slice none 0 0,slice none 0 0,slice none 0 0,slice none 0 0] sz z2 nz c2 y2 mz d2 ⟨sz,z2,nz,c2,fz,y2,mz,d2,gz⟩ (2*L) q cs w3 0 C (slice none 0 0)):=⟨HB3.out,HB1.out,HB2.out,B3,by omega,HQ.out,zak _ _ _ _,λj v hj=>by omega⟩;clear HB3 HB1 HB2 B3 HQ k3 hb3e hbs hbase;go_loopw[15] (λt wr=>∃(i:Nat) (C':Nat->Lc) (vC:Value),i<=ck/\t=.int .i64 i/\Hid (FrC w base w.heap.size (w.heap.size+1) b3 [.bool s,slice x n c,slice y m d,slice ca ck cc,slice ra rk rc] [.bool false,slice none 0 0,slice none 0 0,slice none 0 0,slice none 0 0] sz z2 nz c2 y2 mz d2 ⟨sz,z2,nz,c2,fz,y2,mz,d2,gz⟩ (2*L) q cs wr i C' vC)) (λt _=>ck-(intOf t).toNat)
 case atStart=>exact⟨0,C,_,by omega,rfl,HI0.out⟩
 case round =>
  obtain⟨i,C',vC,hi,rfl,HI⟩:=hrel;clear HI0;by_cases hlt:i<ck
  ·obtain⟨cv,hcv⟩:∃v,cs[i]?=some v:=⟨_,getElem?_eq_getElem (by rw[<-HLC.out];exact hlt)⟩;obtain⟨⟨b,o,rfl,hc0⟩,hn0'⟩:=HC.out i cv hcv;have hc:=hc0.q_ HI.out.bel;have hn:=hn0'.q_ HI.out.bel;have hbd:=zqv (HBC.out cv (List.mem_of_getElem? hcv));have HCV:=zk hcv;clear hc0 hn0' hcv;obtain⟨cN,hcN⟩:∃t,C i=t:=⟨_,rfl⟩;rw[hcN]at hc hn
   have HCN:=zk hcN;obtain⟨z,⟨s0,x0,n0,c0,f0,y0,m0,d0,g0⟩,⟨i1,⟨s1,x1,n1,c1,f1,y1,m1,d1,g1⟩⟩,⟨i2,⟨s2,x2,n2,c2',f2,y2',m2,d2',g2⟩⟩⟩:=cN;obtain⟨vnm,vcost,vli,vlq,vhi,vhq⟩:=cv;obtain⟨hnm,hn0,hli,hn1,hhi,hn2⟩:=hn;replace hnm:z=vnm:=hnm;replace hli:i1=vli:=hli;replace hhi:i2=vhi:=hhi;subst hnm;subst hli;subst hhi
   obtain⟨q0,q1,q2,q3,q4,q5,q6,q7,q8,q9,q10,q11⟩:=hc.lc;have HN0:Hid (Rn L wr s0 x0 n0 c0 f0 y0 m0 d0 g0 vcost):=hn0;have HN1:Hid (En L wr i1 s1 x1 n1 c1 f1 y1 m1 d1 g1 vlq):=⟨hn1,hbd.1⟩;have HN2:Hid (En L wr i2 s2 x2 n2 c2' f2 y2' m2 d2' g2 vhq):=⟨hn2,hbd.2⟩;have i1':((i:Nat):Int)<((ck:Nat):Int):=by omega
   clear hcN hc hn0 hn1 hn2 hbd;go_upto_region 5 with fail
   have hb5:=Below.drew (zB wr (cells #[.string z,.bool s0,slice x0 n0 c0,slice y0 m0 d0,.int .i64 i1,.bool s1,slice x1 n1 c1,slice y1 m1 d1,.int .i64 i2,.bool s2,slice x2 n2 c2',slice y2' m2 d2'] 60));have B5:Bk (wr.alloc (cells #[.string z,.bool s0,slice x0 n0 c0,slice y0 m0 d0,.int .i64 i1,.bool s1,slice x1 n1 c1,slice y1 m1 d1,.int .i64 i2,.bool s2,slice x2 n2 c2',slice y2' m2 d2'] 60)).drew wr.heap.size [.string z,.bool s0,slice x0 n0 c0,slice y0 m0 d0,.int .i64 i1,.bool s1,slice x1 n1 c1,slice y1 m1 d1,.int .i64 i2,.bool s2,slice x2 n2 c2',slice y2' m2 d2'] 60:=zF wr [.string z,.bool s0,slice x0 n0 c0,slice y0 m0 d0,.int .i64 i1,.bool s1,slice x1 n1 c1,slice y1 m1 d1,.int .i64 i2,.bool s2,slice x2 n2 c2',slice y2' m2 d2'] 60;have hne:vC.ownBlock≠some wr.heap.size:=λe=>by have:=(HI.out.row.lt _ e).2;omega
   have hbz:=HI.out.bs;replace HI:=zk (HI.out.q_ hb5);replace HN0:=zk (HN0.out.q_ hb5);replace HN1:=zk (HN1.out.q_ hb5);replace HN2:=zk (HN2.out.q_ hb5)
   obtain⟨a0,a1,a2,a3,a4,a5,a6,a7,a8,a9,a10,a11⟩:=zeg B5;have HB5:=zk B5;obtain⟨bk,hbk⟩:∃z,wr.heap.size=z:=⟨_,rfl⟩;simp only[hbk]at *;clear hb5 hbk q0 q1 q2 q3 q4 q5 q6 q7 q8 q9 q10 q11 B5;refine wp_region_held_drew (S:=(λw'=>w'.cell? ⟨bk,0,none⟩=some (.string z)/\w'.cell? ⟨bk,1,none⟩=some (.bool s0)/\w'.cell? ⟨bk,2,none⟩=some (slice x0 n0 c0)/\w'.cell? ⟨bk,3,none⟩=some (slice y0 m0 d0)/\w'.cell? ⟨bk,4,none⟩=some (.int .i64 i1)/\w'.cell? ⟨bk,5,none⟩=some (.bool s1)/\w'.cell? ⟨bk,6,none⟩=some (slice x1 n1 c1)/\w'.cell? ⟨bk,7,none⟩=some (slice y1 m1 d1)/\w'.cell? ⟨bk,8,none⟩=some (.int .i64 i2)/\w'.cell? ⟨bk,9,none⟩=some (.bool s2)/\w'.cell? ⟨bk,10,none⟩=some (slice x2 n2 c2')/\w'.cell? ⟨bk,11,none⟩=some (slice y2' m2 d2'))) (by kernel_rfl) ?_ (λhHeld=>?_)
   ·exact⟨a0,a1,a2,a3,a4,a5,a6,a7,a8,a9,a10,a11⟩
   generalize hwd:(wr.alloc (cells #[.string z,.bool s0,slice x0 n0 c0,slice y0 m0 d0,.int .i64 i1,.bool s1,slice x1 n1 c1,slice y1 m1 d1,.int .i64 i2,.bool s2,slice x2 n2 c2',slice y2' m2 d2'] 60)).drew=wd at *;clear hwd;refine zK 0 ?_;refine zK 2 ?_;refine zK 3 ?_;simp only[zA,Act.put];refine zK 4 ?_;refine zK 5 ?_;refine zK 7 ?_;simp only[zA,Act.put];refine zK 8 ?_;refine zK 10 ?_;refine zK 11 ?_;simp only[zA,Act.put];refine(show wpAnyH _ _ _ _ _ (6+3) _ _ _ from zbN (λj v w=>match j with|1=>vC=v|6=>FN (2*L) vcost v w|9=>FE (2*L) i1 vlq v w|12=>FE (2*L) i2 vhq v w|13=>FC (2*L) ⟨z,vcost,i1,vlq,i2,vhq⟩ v w|14=>FCs (2*L) ⟨z,vcost,i1,vlq,i2,vhq⟩ v w|_=>True) [(1,20),(6,25),(9,28),(12,31),(13,32),(14,33)] [1,6,9,12,13,14] [15,16,17] _ _ _ 3 ?k1 ?k4 ?k2 ?k3 ?k5 ?k6 ?k8)
   case k1=>kernel_rfl
   case k4=>kernel_rfl
   case k2=>exact λw w' h hb=>⟨kCb hb h.1,kCb hb h.2.1,kCb hb h.2.2.1,kCb hb h.2.2.2.1,kCb hb h.2.2.2.2.1,kCb hb h.2.2.2.2.2.1,kCb hb h.2.2.2.2.2.2.1,kCb hb h.2.2.2.2.2.2.2.1,kCb hb h.2.2.2.2.2.2.2.2.1,kCb hb h.2.2.2.2.2.2.2.2.2.1,kCb hb h.2.2.2.2.2.2.2.2.2.2.1,kCb hb h.2.2.2.2.2.2.2.2.2.2.2⟩
   case k3 =>
    intro j v w w' h hb
    split at h <;> first|exact FN.q_ h hb|exact FE.q_ h hb|exact FC.q_ h hb|exact FCs.q_ h hb|exact h|trivial
   case k8=>exact hHeld
   case k5 =>
    intro i hi;simp only[List.mem_cons,List.not_mem_nil,or_false]at hi;rcases hi with rfl|rfl|rfl|rfl|rfl|rfl
    ·refine⟨_,rfl,λu w5 hS hb5 hd K hK=>?_⟩;have k5:=(HI.out.p3.q_ hb5).cell (j:=3) rfl;simp only[zbm,zA,Act.put]at hK ⊢;go_simp;exact hK.out _ _ (Below.refl _ _) rfl
    ·refine⟨_,rfl,λu w5 hS hb5 hd K hK=>?_⟩;simp only[zbm,zA,Act.put]at hK ⊢;go_simp
     go_at_call 78
     refine(zdD (HN0.out.q_ hb5) (le_trans hL (by decide))).mono ?_;rintro e w6 ⟨sq,zp,nq9,cp,dp,zq,mq9,cq,gq,rfl,hb6,hq1,hq2,hq⟩
     (try go_wp2_with fail)
     exact hK.out _ _ hb6 ⟨⟨sq,zp,nq9,cp,dp,zq,mq9,cq,gq⟩,rfl,hq1,hq2,hq⟩
    ·refine⟨_,rfl,λu w5 hS hb5 hd K hK=>?_⟩;simp only[zbm,zA,Act.put]at hK ⊢;go_simp
     go_at_call 79
     refine(zew (HN1.out.q_ hb5) (le_trans hL (by decide))).mono ?_;rintro e w6 ⟨sq,zp,nq9,cp,dp,zq,mq9,cq,gq,rfl,hb6,hq⟩
     (try go_wp2_with fail)
     exact hK.out _ _ hb6 ⟨⟨i1,⟨sq,zp,nq9,cp,dp,zq,mq9,cq,gq⟩⟩,rfl,rfl,hq.out.1,hq.out.2.1,hq.out.2.2.qn⟩
    ·refine⟨_,rfl,λu w5 hS hb5 hd K hK=>?_⟩;simp only[zbm,zA,Act.put]at hK ⊢;go_simp
     go_at_call 79
     refine(zew (HN2.out.q_ hb5) (le_trans hL (by decide))).mono ?_;rintro e w6 ⟨sq,zp,nq9,cp,dp,zq,mq9,cq,gq,rfl,hb6,hq⟩
     (try go_wp2_with fail)
     exact hK.out _ _ hb6 ⟨⟨i2,⟨sq,zp,nq9,cp,dp,zq,mq9,cq,gq⟩⟩,rfl,rfl,hq.out.1,hq.out.2.1,hq.out.2.2.qn⟩
    ·refine⟨_,rfl,λu w5 hS hb5 hd K hK=>?_⟩;have h6:FN (2*L) vcost (u 6) w5:=hd 6 (by kernel_rfl) (by kernel_rfl);obtain⟨⟨sa6,xa6,na6,ca6,fa6,ya6,ma6,da6,ga6⟩,e6,hv6⟩:=h6;replace e6:u 6=agg #[.bool sa6,slice xa6 na6 ca6,slice ya6 ma6 da6]:=e6;have h9:FE (2*L) i1 vlq (u 9) w5:=hd 9 (by kernel_rfl) (by kernel_rfl);obtain⟨⟨ia9,⟨sa9,xa9,na9,ca9,fa9,ya9,ma9,da9,ga9⟩⟩,e9,hi9,hv9⟩:=h9;replace e9:u 9=agg #[.int .i64 ia9,.bool sa9,slice xa9 na9 ca9,slice ya9 ma9 da9]:=e9;have h12:FE (2*L) i2 vhq (u 12) w5:=hd 12 (by kernel_rfl) (by kernel_rfl);obtain⟨⟨ia12,⟨sa12,xa12,na12,ca12,fa12,ya12,ma12,da12,ga12⟩⟩,e12,hi12,hv12⟩:=h12;replace e12:u 12=agg #[.int .i64 ia12,.bool sa12,slice xa12 na12 ca12,slice ya12 ma12 da12]:=e12;simp only[zbm,zA,Act.put]at hK ⊢;simp only[e6,e9,e12]at hK ⊢;go_simp;exact hK.out _ _ (Below.refl _ _) ⟨⟨z,⟨sa6,xa6,na6,ca6,fa6,ya6,ma6,da6,ga6⟩,⟨ia9,⟨sa9,xa9,na9,ca9,fa9,ya9,ma9,da9,ga9⟩⟩,⟨ia12,⟨sa12,xa12,na12,ca12,fa12,ya12,ma12,da12,ga12⟩⟩⟩,rfl,rfl,hv6,hi9,hv9,hi12,hv12⟩
    ·refine⟨_,rfl,λu w5 hS hb5 hd K hK=>?_⟩;have h13:FC (2*L) ⟨z,vcost,i1,vlq,i2,vhq⟩ (u 13) w5:=hd 13 (by kernel_rfl) (by kernel_rfl);obtain⟨⟨zj,⟨sb,xb,nb,cb,fb,yb,mb,db,gb⟩,⟨ic,⟨sc,xc,nc,cc9,fc,yc,mc,dc,gc⟩⟩,⟨ie,⟨sd,xd,nd,cd,fd,yd,md,dd,gd⟩⟩⟩,e13,hv⟩:=h13;replace e13:u 13=agg #[.string zj,.bool sb,slice xb nb cb,slice yb mb db,.int .i64 ic,.bool sc,slice xc nc cc9,slice yc mc dc,.int .i64 ie,.bool sd,slice xd nd cd,slice yd md dd]:=e13;simp only[zbm,zA,Act.put]at hK ⊢;simp only[e13]at hK ⊢;go_simp;have hn:=zB w5 (cells #[.string zj,.bool sb,slice xb nb cb,slice yb mb db,.int .i64 ic,.bool sc,slice xc nc cc9,slice yc mc dc,.int .i64 ie,.bool sd,slice xd nd cd,slice yd md dd] 131);have hx:=zdu w5 131 [.string zj,.bool sb,slice xb nb cb,slice yb mb db,.int .i64 ic,.bool sc,slice xc nc cc9,slice yc mc dc,.int .i64 ie,.bool sd,slice xd nd cd,slice yd md dd] [.string zj,.bool sb,slice xb nb cb,slice yb mb db,.int .i64 ic,.bool sc,slice xc nc cc9,slice yc mc dc,.int .i64 ie,.bool sd,slice xd nd cd,slice yd md dd] 0 (λj v e=>by rw[zero_add];exact e);exact hK.out _ _ hn ⟨w5.heap.size,⟨zj,⟨sb,xb,nb,cb,fb,yb,mb,db,gb⟩,⟨ic,⟨sc,xc,nc,cc9,fc,yc,mc,dc,gc⟩⟩,⟨ie,⟨sd,xd,nd,cd,fd,yd,md,dd,gd⟩⟩⟩,rfl,hx,hv.q_ hn⟩
   case k6 =>
    intro u w5 hS5 hb5 hg;have h1:vC=u 1:=hg 1 (by simp);have h14:FCs (2*L) ⟨z,vcost,i1,vlq,i2,vhq⟩ (u 14) w5:=hg 14 (by simp);obtain⟨b14,⟨zj,⟨sb,xb,nb,cb,fb,yb,mb,db,gb⟩,⟨ic,⟨sc,xc,nc,cc9,fc,yc,mc,dc,gc⟩⟩,⟨ie,⟨sd,xd,nd,cd,fd,yd,md,dd,gd⟩⟩⟩,e14,hcs,hqc⟩:=h14;replace HI:=zk (HI.out.q_ hb5);obtain⟨i0,hi0,hz0,hz1,hz2⟩:=info_parts zrH;obtain⟨t0,t1,t2,t3,t4,t5,t6,t7,t8,t9,t10,t11⟩:=id hS5;have hbl:=block_lt_of_cell? w5 _ t0;replace hbl:bk<w5.heap.size:=hbl;clear hg;simp only[zbm,zA,Act.put];simp only[<-h1,e14];clear h1 e14;refine rdO 15 (λK hK=>?_);refine zaW w5 rfl (.tmp 20) (.tmp 33) 93 rfl base 131 i0 zC 12 200 underlying93 hi0 hz0 hz1 hz2 rfl (by decide) nzC vC i (ccs C' i) rfl HI.out.row ⟨b14,0,none⟩ 1 1 (Lc.vs ⟨zj,⟨sb,xb,nb,cb,fb,yb,mb,db,gb⟩,⟨ic,⟨sc,xc,nc,cc9,fc,yc,mc,dc,gc⟩⟩,⟨ie,⟨sd,xd,nd,cd,fd,yd,md,dd,gd⟩⟩⟩) rfl rfl ?n1 (zjP _) (zgu _) (by decide) ?p1 ?p2 HI.out.bs ?_
    case n1=>intro j u hu;rw[addr_add];exact hcs j u hu
    case p1=>unfold maxLen;omega
    case p2=>omega
    intro g8 cap8 w8 hr8 hgr8 hk8 hl8;have hB8:=hgr8.block bk hbl (λe=>hne e.symm);have e0:=(cell?_of_block (a:=⟨bk,0,none⟩) hB8).trans t0;have e1:=(cell?_of_block (a:=⟨bk,1,none⟩) hB8).trans t1;have e2:=(cell?_of_block (a:=⟨bk,2,none⟩) hB8).trans t2;have e3:=(cell?_of_block (a:=⟨bk,3,none⟩) hB8).trans t3;have e4:=(cell?_of_block (a:=⟨bk,4,none⟩) hB8).trans t4;have e5:=(cell?_of_block (a:=⟨bk,5,none⟩) hB8).trans t5;have e6:=(cell?_of_block (a:=⟨bk,6,none⟩) hB8).trans t6;have e7:=(cell?_of_block (a:=⟨bk,7,none⟩) hB8).trans t7;have e8:=(cell?_of_block (a:=⟨bk,8,none⟩) hB8).trans t8;have e9:=(cell?_of_block (a:=⟨bk,9,none⟩) hB8).trans t9;have e10:=(cell?_of_block (a:=⟨bk,10,none⟩) hB8).trans t10;have e11:=(cell?_of_block (a:=⟨bk,11,none⟩) hB8).trans t11;have hp8:=HI.out.p3.of (hgr8.block b3 HI.out.p3.lt (λe=>by have:=(HI.out.row.lt b3 e.symm).1;omega));have f0:=hp8.cell (j:=3) rfl;have ff:=hp8.frozen 3;refine hK.out _ _ ?_ (λhH8=>?_)
    ·exact⟨e0,e1,e2,e3,e4,e5,e6,e7,e8,e9,e10,e11⟩
    clear hK K;try simp only[Act.put,List.setIfInBounds_toArray]
    refine zK 16 ?_;simp only[zA,Act.put];refine rdO 17 (λK hK=>?_);go_simp;refine hK.out _ _ ?_ (λhH9=>?_)
    ·((try dsimp only);(refine⟨?_,?_,?_,?_,?_,?_,?_,?_,?_,?_,?_,?_⟩ <;> repeat(with_reducible first|assumption|refine kCs (by simp only[ne_eq];omega) ?_)))
    clear hK K;try simp only[Act.put]
    refine dnO ?_;have HI9:=zk (HI.out.next (by omega) (by omega) hbb (le_refl _) (λv hv=>by rw[HCV.out]at hv;cases hv;exact hqc) hr8 hk8 hgr8);clear hr8 hgr8 hk8 hl8 hB8 hp8 f0 ff hH8 hH9 HI hqc hcs hHeld HB5 e0 e1 e2 e3 e4 e5 e6 e7 e8 e9 e10 e11;go_wp2;go_roundw
    case rel=>exact⟨i+1,_,_,by omega,by go_num,HI9.out⟩
    case measure=>simp[intOf];omega
  ·have e1:i=ck:=by omega
   have i2':¬(((i:Nat):Int)<((ck:Nat):Int)):=by omega
   rw[e1]at HI
   have k4:=HI.out.p1.cell (j:=4) rfl;obtain⟨base2,hbase2⟩:∃z,wr.heap.size=z:=⟨_,rfl⟩;have hb2:base<=base2:=by have:=HI.out.bs;omega
   have HI2:Hid (FrR w base base2 (w.heap.size+1) b3 [.bool false,slice none 0 0,slice none 0 0,slice none 0 0,slice none 0 0] sz z2 nz c2 y2 mz d2 ⟨sz,z2,nz,c2,fz,y2,mz,d2,gz⟩ (2*L) q cs ck C' vC rs wr 0 R (slice none 0 0)):=⟨HI.out.bel,HI.out.p2,HI.out.p3,by omega,HI.out.off,HI.out.row,HI.out.el,λk hk=>by have:=(HI.out.row.lt k hk).2;omega,zak _ _ _ _,λj v hj=>by omega⟩;clear HI e1 HC hbase2;go_wp2_with fail
   go_loopw[40] (λt wr=>∃(i:Nat) (R':Nat->Lr) (vR:Value),i<=rk/\t=.int .i64 i/\Hid (FrR w base base2 (w.heap.size+1) b3 [.bool false,slice none 0 0,slice none 0 0,slice none 0 0,slice none 0 0] sz z2 nz c2 y2 mz d2 ⟨sz,z2,nz,c2,fz,y2,mz,d2,gz⟩ (2*L) q cs ck C' vC rs wr i R' vR)) (λt _=>rk-(intOf t).toNat)
   case atStart=>exact⟨0,R,_,by omega,rfl,HI2.out⟩
   case round =>
    obtain⟨i,R',vR,hi,rfl,HI⟩:=hrel;clear HI2 k4;by_cases hlt:i<rk
    ·obtain⟨rv,hrv⟩:∃v,rs[i]?=some v:=⟨_,getElem?_eq_getElem (by rw[<-HLR.out];exact hlt)⟩;obtain⟨⟨b,o,rfl,hc0⟩,hn0'⟩:=HRL.out i rv hrv;have hc:=hc0.q_ HI.out.bel;have hn:=hn0'.q_ HI.out.bel;obtain⟨hbd0,hts1,hts2⟩:=HBR.out rv (List.mem_of_getElem? hrv);have hbd:=zqv hbd0;have HRV:=zk hrv;clear hc0 hn0' hrv hbd0 hts1;obtain⟨rN,hrN⟩:∃t,R i=t:=⟨_,rfl⟩;rw[hrN]at hc hn
     have HRN:=zk hrN;obtain⟨z,⟨i1,⟨s1,x1,n1,c1,f1,y1,m1,d1,g1⟩⟩,⟨i2,⟨s2,x2,n2,c2',f2,y2',m2,d2',g2⟩⟩,ta,tk,tc,tcol,tt⟩:=rN;have hT:=hn.tls (le_trans hL (by decide));have hQ:∀j,j<(Lr.mk z ⟨i1,⟨s1,x1,n1,c1,f1,y1,m1,d1,g1⟩⟩ ⟨i2,⟨s2,x2,n2,c2',f2,y2',m2,d2',g2⟩⟩ ta tk tc tcol tt).tk->∃q',rv.ts[j]?=some (tcol j,q')/\Rn L wr (tt j).s (tt j).x (tt j).n (tt j).c (tt j).f (tt j).y (tt j).m (tt j).d (tt j).g q':=λj hj=>by
      rw[hn.tk]at hj
      obtain⟨⟨a,q'⟩,e⟩:∃v,rv.ts[j]?=some v:=⟨_,getElem?_eq_getElem hj⟩;obtain⟨e1,e2,_⟩:=hn.tl j a q' e;exact⟨q',by rw[e,<-e1],e2⟩
     obtain⟨vnm,vli,vlq,vhi,vhq,vts⟩:=rv;obtain⟨hnm,hli,hn1,hhi,hn2,htk,_⟩:=hn;replace hnm:z=vnm:=hnm;replace hli:i1=vli:=hli;replace hhi:i2=vhi:=hhi;replace htk:tk=vts.length:=htk;subst hnm;subst hli;subst hhi
     obtain⟨q0,q1,q2,q3,q4,q5,q6,q7,q8,q9⟩:=hc.lr;have HN1:Hid (En L wr i1 s1 x1 n1 c1 f1 y1 m1 d1 g1 vlq):=⟨hn1,hbd.1⟩;have HN2:Hid (En L wr i2 s2 x2 n2 c2' f2 y2' m2 d2' g2 vhq):=⟨hn2,hbd.2⟩;have HN3:Hid (∀W,Bl wr W->Calls prog 80 #[slice ta tk tc] W λe w'=>zoy (2*L) W w' e tk vts):=λW hW=>znM (hT.q_ hW) (le_trans (Nat.le_of_eq htk) (le_trans hts2 (by decide))) (le_trans hL (by decide)) htk.symm (λj hj=>by obtain⟨q',e1,e2⟩:=hQ j hj;exact⟨q',e1,e2.q_ hW⟩)
     have HTK:=zk htk;have i1':((i:Nat):Int)<((rk:Nat):Int):=by omega
     clear hrN hc hn1 hn2 hT hQ hbd htk;go_upto_region 10 with fail
     have hb5:=Below.drew (zB wr (cells #[.string z,.int .i64 i1,.bool s1,slice x1 n1 c1,slice y1 m1 d1,.int .i64 i2,.bool s2,slice x2 n2 c2',slice y2' m2 d2',slice ta tk tc] 63));have B5:Bk (wr.alloc (cells #[.string z,.int .i64 i1,.bool s1,slice x1 n1 c1,slice y1 m1 d1,.int .i64 i2,.bool s2,slice x2 n2 c2',slice y2' m2 d2',slice ta tk tc] 63)).drew wr.heap.size [.string z,.int .i64 i1,.bool s1,slice x1 n1 c1,slice y1 m1 d1,.int .i64 i2,.bool s2,slice x2 n2 c2',slice y2' m2 d2',slice ta tk tc] 63:=zF wr [.string z,.int .i64 i1,.bool s1,slice x1 n1 c1,slice y1 m1 d1,.int .i64 i2,.bool s2,slice x2 n2 c2',slice y2' m2 d2',slice ta tk tc] 63;have hne:vR.ownBlock≠some wr.heap.size:=λe=>by have:=(HI.out.row.lt _ e).2;omega
     have hbz:=HI.out.bs;replace HI:=zk (HI.out.q_ hb5);replace HN1:=zk (HN1.out.q_ hb5);replace HN2:=zk (HN2.out.q_ hb5)
     replace HN3:Hid (∀W,Below (wr.alloc (cells #[.string z,.int .i64 i1,.bool s1,slice x1 n1 c1,slice y1 m1 d1,.int .i64 i2,.bool s2,slice x2 n2 c2',slice y2' m2 d2',slice ta tk tc] 63)).drew.heap.size (wr.alloc (cells #[.string z,.int .i64 i1,.bool s1,slice x1 n1 c1,slice y1 m1 d1,.int .i64 i2,.bool s2,slice x2 n2 c2',slice y2' m2 d2',slice ta tk tc] 63)).drew W->Calls prog 80 #[slice ta tk tc] W λe w'=>zoy (2*L) W w' e tk vts):=λW hW=>HN3.out W (bUp hb5 hW)
     obtain⟨a0,a1,a2,a3,a4,a5,a6,a7,a8,a9⟩:=zeh B5;have HB5:=zk B5;obtain⟨bk,hbk⟩:∃z,wr.heap.size=z:=⟨_,rfl⟩;simp only[hbk]at *;clear hb5 hbk q0 q1 q2 q3 q4 q5 q6 q7 q8 q9 B5;refine wp_region_held_drew (S:=(λw'=>w'.cell? ⟨bk,0,none⟩=some (.string z)/\w'.cell? ⟨bk,1,none⟩=some (.int .i64 i1)/\w'.cell? ⟨bk,2,none⟩=some (.bool s1)/\w'.cell? ⟨bk,3,none⟩=some (slice x1 n1 c1)/\w'.cell? ⟨bk,4,none⟩=some (slice y1 m1 d1)/\w'.cell? ⟨bk,5,none⟩=some (.int .i64 i2)/\w'.cell? ⟨bk,6,none⟩=some (.bool s2)/\w'.cell? ⟨bk,7,none⟩=some (slice x2 n2 c2')/\w'.cell? ⟨bk,8,none⟩=some (slice y2' m2 d2')/\w'.cell? ⟨bk,9,none⟩=some (slice ta tk tc))) (by kernel_rfl) ?_ (λhHeld=>?_)
     ·exact⟨a0,a1,a2,a3,a4,a5,a6,a7,a8,a9⟩
     generalize hwd:(wr.alloc (cells #[.string z,.int .i64 i1,.bool s1,slice x1 n1 c1,slice y1 m1 d1,.int .i64 i2,.bool s2,slice x2 n2 c2',slice y2' m2 d2',slice ta tk tc] 63)).drew=wd at *;clear hwd;obtain⟨bse,hbse⟩:∃z,wd.heap.size=z:=⟨_,rfl⟩;have hb2s:base2<=bse:=by have:=HI.out.bs;omega
     have hown:∀b,bse<=b->vR.ownBlock≠some b:=λb hb e=>by have:=(HI.out.row.lt b e).2;omega
     have HW:=zk hown;clear hown;refine zK 0 ?_;refine zK 2 ?_;refine zK 3 ?_;simp only[zA,Act.put];refine zK 4 ?_;refine zK 5 ?_;refine zK 7 ?_;simp only[zA,Act.put];refine zK 8 ?_;refine zK 10 ?_;refine zK 11 ?_;simp only[zA,Act.put];refine(show wpAnyH _ _ _ _ _ (6+3) _ _ _ from zbN (λj v w=>match j with|1=>vR=v|6=>FE (2*L) i1 vlq v w|9=>FE (2*L) i2 vhq v w|12=>FT (2*L) bse tk vts v w|13=>FR (2*L) bse ⟨z,i1,vlq,i2,vhq,vts⟩ v w|14=>FRs (2*L) bse ⟨z,i1,vlq,i2,vhq,vts⟩ v w|_=>True) [(1,45),(6,50),(9,53),(12,56),(13,57),(14,58)] [1,6,9,12,13,14] [15,16,17] _ _ _ 3 ?k1 ?k4 ?k2 ?k3 ?k5 ?k6 ?k8)
     case k1=>kernel_rfl
     case k4=>kernel_rfl
     case k2=>exact λw w' h hb=>⟨kCb hb h.1,kCb hb h.2.1,kCb hb h.2.2.1,kCb hb h.2.2.2.1,kCb hb h.2.2.2.2.1,kCb hb h.2.2.2.2.2.1,kCb hb h.2.2.2.2.2.2.1,kCb hb h.2.2.2.2.2.2.2.1,kCb hb h.2.2.2.2.2.2.2.2.1,kCb hb h.2.2.2.2.2.2.2.2.2⟩
     case k3 =>
      intro j v w w' h hb
      split at h <;> first|exact FE.q_ h hb|exact FT.q_ h hb|exact FR.q_ h hb|exact FRs.q_ h hb|exact h|trivial
     case k8=>exact hHeld
     case k5 =>
      intro i hi;simp only[List.mem_cons,List.not_mem_nil,or_false]at hi;rcases hi with rfl|rfl|rfl|rfl|rfl|rfl
      ·refine⟨_,rfl,λu w5 hS hb5 hd K hK=>?_⟩;have k5:=(HI.out.p3.q_ hb5).cell (j:=4) rfl;simp only[zbm,zA,Act.put]at hK ⊢;go_simp;exact hK.out _ _ (Below.refl _ _) rfl
      ·refine⟨_,rfl,λu w5 hS hb5 hd K hK=>?_⟩;simp only[zbm,zA,Act.put]at hK ⊢;go_simp
       go_at_call 79
       refine(zew (HN1.out.q_ hb5) (le_trans hL (by decide))).mono ?_;rintro e w6 ⟨sq,zp,nq9,cp,dp,zq,mq9,cq,gq,rfl,hb6,hq⟩
       (try go_wp2_with fail)
       exact hK.out _ _ hb6 ⟨⟨i1,⟨sq,zp,nq9,cp,dp,zq,mq9,cq,gq⟩⟩,rfl,rfl,hq.out.1,hq.out.2.1,hq.out.2.2.qn⟩
      ·refine⟨_,rfl,λu w5 hS hb5 hd K hK=>?_⟩;simp only[zbm,zA,Act.put]at hK ⊢;go_simp
       go_at_call 79
       refine(zew (HN2.out.q_ hb5) (le_trans hL (by decide))).mono ?_;rintro e w6 ⟨sq,zp,nq9,cp,dp,zq,mq9,cq,gq,rfl,hb6,hq⟩
       (try go_wp2_with fail)
       exact hK.out _ _ hb6 ⟨⟨i2,⟨sq,zp,nq9,cp,dp,zq,mq9,cq,gq⟩⟩,rfl,rfl,hq.out.1,hq.out.2.1,hq.out.2.2.qn⟩
      ·refine⟨_,rfl,λu w5 hS hb5 hd K hK=>?_⟩;simp only[zbm,zA,Act.put]at hK ⊢;go_simp
       go_at_call 80
       refine(HN3.out _ hb5).mono ?_;rintro e w6 ⟨aw,cw,rfl,hb6,_,hfr,hq⟩
       (try go_wp2_with fail)
       exact hK.out _ _ hb6 ⟨aw,cw,rfl,λb o s e=>by have h1:=hfr b o s e;have h2:=hb5.size;omega,hq.out⟩
      ·refine⟨_,rfl,λu w5 hS hb5 hd K hK=>?_⟩;have h6:FE (2*L) i1 vlq (u 6) w5:=hd 6 (by kernel_rfl) (by kernel_rfl);obtain⟨⟨ia6,⟨sa6,xa6,na6,ca6,fa6,ya6,ma6,da6,ga6⟩⟩,e6,hi6,hv6⟩:=h6;replace e6:u 6=agg #[.int .i64 ia6,.bool sa6,slice xa6 na6 ca6,slice ya6 ma6 da6]:=e6;have h9:FE (2*L) i2 vhq (u 9) w5:=hd 9 (by kernel_rfl) (by kernel_rfl);obtain⟨⟨ia9,⟨sa9,xa9,na9,ca9,fa9,ya9,ma9,da9,ga9⟩⟩,e9,hi9,hv9⟩:=h9;replace e9:u 9=agg #[.int .i64 ia9,.bool sa9,slice xa9 na9 ca9,slice ya9 ma9 da9]:=e9;have h12:FT (2*L) bse tk vts (u 12) w5:=hd 12 (by kernel_rfl) (by kernel_rfl);obtain⟨aw,cw,e12,hfr,htq⟩:=h12;simp only[zbm,zA,Act.put]at hK ⊢;simp only[e6,e9,e12]at hK ⊢;go_simp;exact hK.out _ _ (Below.refl _ _) ⟨⟨z,⟨ia6,⟨sa6,xa6,na6,ca6,fa6,ya6,ma6,da6,ga6⟩⟩,⟨ia9,⟨sa9,xa9,na9,ca9,fa9,ya9,ma9,da9,ga9⟩⟩,aw,tk,cw,λ_=>0,λ_=>nz9⟩,rfl,⟨rfl,hi6,hv6,hi9,hv9,HTK.out,htq⟩,hfr⟩
      ·refine⟨_,rfl,λu w5 hS hb5 hd K hK=>?_⟩;have h13:FR (2*L) bse ⟨z,i1,vlq,i2,vhq,vts⟩ (u 13) w5:=hd 13 (by kernel_rfl) (by kernel_rfl);obtain⟨⟨zj,⟨ic,⟨sc,xc,nc,cc9,fc,yc,mc,dc,gc⟩⟩,⟨ie,⟨sd,xd,nd,cd,fd,yd,md,dd,gd⟩⟩,ta9,tk9,tc9,tcol9,tt9⟩,e13,hv,hfr⟩:=h13;replace e13:u 13=agg #[.string zj,.int .i64 ic,.bool sc,slice xc nc cc9,slice yc mc dc,.int .i64 ie,.bool sd,slice xd nd cd,slice yd md dd,slice ta9 tk9 tc9]:=e13;simp only[zbm,zA,Act.put]at hK ⊢;simp only[e13]at hK ⊢;go_simp;have hn:=zB w5 (cells #[.string zj,.int .i64 ic,.bool sc,slice xc nc cc9,slice yc mc dc,.int .i64 ie,.bool sd,slice xd nd cd,slice yd md dd,slice ta9 tk9 tc9] 134);have hx:=zdu w5 134 [.string zj,.int .i64 ic,.bool sc,slice xc nc cc9,slice yc mc dc,.int .i64 ie,.bool sd,slice xd nd cd,slice yd md dd,slice ta9 tk9 tc9] [.string zj,.int .i64 ic,.bool sc,slice xc nc cc9,slice yc mc dc,.int .i64 ie,.bool sd,slice xd nd cd,slice yd md dd,slice ta9 tk9 tc9] 0 (λj v e=>by rw[zero_add];exact e);exact hK.out _ _ hn ⟨w5.heap.size,⟨zj,⟨ic,⟨sc,xc,nc,cc9,fc,yc,mc,dc,gc⟩⟩,⟨ie,⟨sd,xd,nd,cd,fd,yd,md,dd,gd⟩⟩,ta9,tk9,tc9,tcol9,tt9⟩,rfl,hx,hv.q_ hn,hfr⟩
     case k6 =>
      intro u w5 hS5 hb5 hg;have h1:vR=u 1:=hg 1 (by simp);have h14:FRs (2*L) bse ⟨z,i1,vlq,i2,vhq,vts⟩ (u 14) w5:=hg 14 (by simp);obtain⟨b14,⟨zj,⟨ic,⟨sc,xc,nc,cc9,fc,yc,mc,dc,gc⟩⟩,⟨ie,⟨sd,xd,nd,cd,fd,yd,md,dd,gd⟩⟩,ta9,tk9,tc9,tcol9,tt9⟩,e14,hcs,hqc,hfr⟩:=h14;replace HI:=zk (HI.out.q_ hb5);obtain⟨i0,hi0,hz0,hz1,hz2⟩:=info_parts zrG;obtain⟨t0,t1,t2,t3,t4,t5,t6,t7,t8,t9⟩:=id hS5;have hbl:=block_lt_of_cell? w5 _ t0;replace hbl:bk<w5.heap.size:=hbl;clear hg;simp only[zbm,zA,Act.put];simp only[<-h1,e14];clear h1 e14;refine rdO 15 (λK hK=>?_);refine zaW w5 rfl (.tmp 45) (.tmp 58) 94 rfl base2 134 i0 zR 10 168 underlying94 hi0 hz0 hz1 hz2 rfl (by decide) nzR vR i (rcs R' i) rfl HI.out.row ⟨b14,0,none⟩ 1 1 (Lr.vs ⟨zj,⟨ic,⟨sc,xc,nc,cc9,fc,yc,mc,dc,gc⟩⟩,⟨ie,⟨sd,xd,nd,cd,fd,yd,md,dd,gd⟩⟩,ta9,tk9,tc9,tcol9,tt9⟩) rfl rfl ?n1 (zjO _) (zgt _) (by decide) ?p1 ?p2 HI.out.bs ?_
      case n1=>intro j u hu;rw[addr_add];exact hcs j u hu
      case p1=>unfold maxLen;omega
      case p2=>omega
      intro g8 cap8 w8 hr8 hgr8 hk8 hl8;have hB8:=hgr8.block bk hbl (λe=>hne e.symm);have e0:=(cell?_of_block (a:=⟨bk,0,none⟩) hB8).trans t0;have e1:=(cell?_of_block (a:=⟨bk,1,none⟩) hB8).trans t1;have e2:=(cell?_of_block (a:=⟨bk,2,none⟩) hB8).trans t2;have e3:=(cell?_of_block (a:=⟨bk,3,none⟩) hB8).trans t3;have e4:=(cell?_of_block (a:=⟨bk,4,none⟩) hB8).trans t4;have e5:=(cell?_of_block (a:=⟨bk,5,none⟩) hB8).trans t5;have e6:=(cell?_of_block (a:=⟨bk,6,none⟩) hB8).trans t6;have e7:=(cell?_of_block (a:=⟨bk,7,none⟩) hB8).trans t7;have e8:=(cell?_of_block (a:=⟨bk,8,none⟩) hB8).trans t8;have e9:=(cell?_of_block (a:=⟨bk,9,none⟩) hB8).trans t9;have hp8:=HI.out.p3.of (hgr8.block b3 HI.out.p3.lt (λe=>by have:=(HI.out.row.lt b3 e.symm).1;omega));have f0:=hp8.cell (j:=4) rfl;have ff:=hp8.frozen 4;refine hK.out _ _ ?_ (λhH8=>?_)
      ·exact⟨e0,e1,e2,e3,e4,e5,e6,e7,e8,e9⟩
      clear hK K;try simp only[Act.put,List.setIfInBounds_toArray]
      refine zK 16 ?_;simp only[zA,Act.put];refine rdO 17 (λK hK=>?_);go_simp;refine hK.out _ _ ?_ (λhH9=>?_)
      ·((try dsimp only);(refine⟨?_,?_,?_,?_,?_,?_,?_,?_,?_,?_⟩ <;> repeat(with_reducible first|assumption|refine kCs (by simp only[ne_eq];omega) ?_)))
      clear hK K;try simp only[Act.put]
      refine dnO ?_;have HI9:=zk (HI.out.next (by omega) (by omega) hbb (by omega) (λv hv=>by rw[HRV.out]at hv;cases hv;exact hqc) (λb o s e=>⟨by have:=hfr b o s e;omega,HW.out b (hfr b o s e)⟩) hr8 hk8 hgr8 hl8);clear hr8 hgr8 hk8 hl8 hB8 hp8 f0 ff hH8 hH9 HI hqc hcs hHeld HB5 e0 e1 e2 e3 e4 e5 e6 e7 e8 e9;go_wp2;go_roundw
      case rel=>exact⟨i+1,_,_,by omega,by go_num,HI9.out⟩
      case measure=>simp[intOf];omega
    ·have e1:i=rk:=by omega
     have i2':¬(((i:Nat):Int)<((rk:Nat):Int)):=by omega
     rw[e1]at HI
     obtain⟨aC,cC,rfl⟩:=HI.out.rowC.slice;obtain⟨aR,cR,rfl⟩:=HI.out.row.slice;have o0:=HI.out.p3.cell (j:=0) rfl;have o1:=HI.out.p3.cell (j:=1) rfl;have o2:=HI.out.p3.cell (j:=2) rfl;have o3:=HI.out.p3.cell (j:=3) rfl;have o4:=HI.out.p3.cell (j:=4) rfl;have r0:=HI.out.p2.cell (j:=0) rfl;have r1:=HI.out.p2.cell (j:=1) rfl;have r2:=HI.out.p2.cell (j:=2) rfl;have r3:=HI.out.p2.cell (j:=3) rfl;have r4:=HI.out.p2.cell (j:=4) rfl;have rf:=HI.out.p2.frozen;obtain⟨hx1,hx2⟩:=HI.out.done (v0:=.bool sz) (v1:=slice z2 nz c2) (v2:=slice y2 mz d2) (v3:=slice aC ck cC) (v4:=slice aR rk cR) (by omega) (by omega) (by omega) rfl HLC.out HLR.out;have HX:=zk (HA.out _ _ hx1 hx2);clear hx1 hx2 HI e1;go_wp2;exact bodyPost_ret (v:=agg #[.bool sz,slice z2 nz c2,slice y2 mz d2,slice aC ck cC,slice aR rk cR]) (by simp[results,results43,go_sem,r0,r1,r2,r3,r4]) rfl HX.out
theorem NmS.val {w t K} (h:NmS w t) (hf:nfB t=true) (hk:t.n<=K/\t.m<=K):NmV K w t (nq t):=by
 obtain⟨q,hq⟩:=Nm.rn h hf hk.1 hk.2;rw[hq.nq];exact hq
def ziz (c:Lc):CV:=⟨c.nm,nq c.cost,c.lo.i,nq c.lo.v,c.hi.i,nq c.hi.v⟩
def zff (r:Lr):RV:=⟨r.nm,r.lo.i,nq r.lo.v,r.hi.i,nq r.hi.v,(List.range r.tk).map (λp=>(r.col p,nq (r.T p)))⟩
theorem zdA {α:Type} {f n j} {v:α} (h:((List.range n).map f)[j]?=some v):j<n/\v=f j:=by
 have hlt:j<n:=by have:=(List.getElem?_eq_some_iff.1 h).1;simpa using this
 simp[hlt]at h
 exact⟨hlt,h.symm⟩
theorem zdU {α:Type} {f:Nat->α} {n j} (h:j<n):((List.range n).map f)[j]?=some (f j):=by simp[h]
theorem zqu {w a b K} (ha:NmS w a.v) (hb:NmS w b.v) (ka:a.v.n<=K/\a.v.m<=K) (kb:b.v.n<=K/\b.v.m<=K) (h:abB a b=true):NmV K w a.v (nq a.v)/\NmV K w b.v (nq b.v)/\bdB a.i (nq a.v) b.i (nq b.v)=true:=by
 obtain⟨f1,f2,h1,h2⟩:=zrQ h;simp only[exF,efB,Bool.and_eq_true,Bool.or_eq_true,decide_eq_true_eq]at f1 f2;have v1:NmV K w a.v (nq a.v):=ha.val f1.1 ka;have v2:NmV K w b.v (nq b.v):=hb.val f2.1 kb;refine⟨v1,v2,?_⟩;simp only[bdB,Bool.and_eq_true,Bool.or_eq_true,decide_eq_true_eq];constructor
 ·rcases f1.2 with h|⟨h|h,h3⟩
  ·exact .inl h
  ·exact .inr ⟨h,(Rn.q_zero v1).2 h3⟩
  ·exact absurd h h1
 ·rcases f2.2 with h|⟨h|h,h3⟩
  ·exact .inl h
  ·exact absurd h h2
  ·exact .inr ⟨h,(Rn.q_zero v2).2 h3⟩
theorem zqh {w col T} {n K:Nat}:∀{r i:Nat} {last:Int},tfr col T r i last=true->(∀p,i<=p->p<i+r->col p<(n:Int))->(∀p,i<=p->p<i+r->NmV K w (T p) (nq (T p)))->tsB n last ((List.range' i r).map (λp=>(col p,nq (T p))))=true
 | 0,i,last,_,_,_=>rfl
 | r+1,i,last,h,hc,hv=>by
  simp only[tfr,Bool.and_eq_true,decide_eq_true_eq]at h;rw[List.range'_succ,List.map_cons];simp only[tsB,Bool.and_eq_true,decide_eq_true_eq];refine⟨h.1,hc i (by omega) (by omega),λe=>?_,zqh h.2.2.2 (λp a b=>hc p (by omega) (by omega)) (λp a b=>hv p (by omega) (by omega))⟩;have:=(Rn.q_zero (hv i (by omega) (by omega))).1 e;omega
def zbj (M:Mo):List CV:=(List.range M.ck).map (λj=>ziz (M.C j))
def zbq (M:Mo):List RV:=(List.range M.rk).map (λj=>zff (M.R j))
theorem MoR.movC {w M K} (h:MoR w M) (hk:MoK K M) (he:zaw M=0):MoV K w M (nq M.off) (zbj M) (zbq M)/\zbl (zbj M) (zbq M)=true:=by
 obtain⟨l1,l2,hF,n1,n2,t1,t2,hAl⟩:=zhq he;simp only[moF,Bool.and_eq_true]at hF;obtain⟨hF0,hFC,hFR⟩:=hF;have hcol:∀j,j<M.ck->ColV K w (M.C j) (ziz (M.C j))/\bdB (ziz (M.C j)).li (ziz (M.C j)).lq (ziz (M.C j)).hi (ziz (M.C j)).hq=true:=λj hj=>by
  obtain⟨_,_,_,_,hn⟩:=h.cls j hj;obtain⟨f1,f2⟩:=zhp hFC j (by omega) (by omega);have k:=hk.c j hj;obtain⟨v1,v2,hb⟩:=zqu hn.lo hn.hi k.2.1 k.2.2 f2;exact⟨⟨rfl,hn.cost.val f1 k.1,rfl,v1,rfl,v2⟩,hb⟩
 have hrow:∀j,j<M.rk->RowV K w (M.R j) (zff (M.R j))/\bdB (zff (M.R j)).li (zff (M.R j)).lq (zff (M.R j)).hi (zff (M.R j)).hq=true/\tsB M.ck (-1) (zff (M.R j)).ts=true:=λj hj=>by
  obtain⟨_,_,_,_,hn⟩:=h.rls j hj;obtain⟨f1,f2⟩:=zeF hFR j (by omega) (by omega);have k:=hk.r j hj;obtain⟨v1,v2,hb⟩:=zqu hn.lo hn.hi k.1 k.2.1 f1;have hall:=(zoT f2).1;have hv:∀p,p<(M.R j).tk->NmV K w ((M.R j).T p) (nq ((M.R j).T p)):=λp hp=>by
   obtain⟨_,_,_,_,hr⟩:=hn.tl p hp;exact NmS.val hr (hall p (by omega) (by omega)).2.1 (k.2.2.2 p hp)
  refine⟨⟨rfl,rfl,v1,rfl,v2,by simp[zff],λp z q e=>?_⟩,hb,?_⟩
  ·obtain⟨hp,e'⟩:=zdA e;obtain⟨b,o,ea,c4,_⟩:=hn.tl p hp;cases e'
   exact⟨rfl,hv p hp,b,o,ea,c4⟩
  ·show tsB M.ck (-1) ((List.range (M.R j).tk).map _)=true;rw[List.range_eq_range'];exact zqh f2 (λp _ hp=>(zkS f2 (zjH hAl j (by omega) (by omega)) p (by omega)).2) (λp _ hp=>hv p (by omega))
 unfold zbj zbq;refine⟨⟨h.off.val hF0 hk.off,by simp,by simp,λj v e=>?_,λj v e=>?_⟩,?_⟩
 ·obtain⟨hj,rfl⟩:=zdA e;obtain⟨b,o,ea,hc,_⟩:=h.cls j hj;exact⟨⟨b,o,ea,hc⟩,(hcol j hj).1⟩
 ·obtain⟨hj,rfl⟩:=zdA e;obtain⟨b,o,ea,hc,_⟩:=h.rls j hj;exact⟨⟨b,o,ea,hc⟩,(hrow j hj).1⟩
 ·have ec:∀j,j<M.ck->nmC ((List.range M.ck).map (λj=>ziz (M.C j))) j=(M.C j).nm:=λj hj=>by unfold nmC;rw[zdU hj];rfl
  have er:∀j,j<M.rk->nmR ((List.range M.rk).map (λj=>zff (M.R j))) j=(M.R j).nm:=λj hj=>by unfold nmR;rw[zdU hj];rfl
  simp only[zbl,Bool.and_eq_true,decide_eq_true_eq,List.all_eq_true,List.length_map,List.length_range,Bool.not_eq_true'];refine⟨l1,l2,λv hv=>?_,λv hv=>?_,?_,?_,?_,?_⟩
  ·obtain⟨j,hj,rfl⟩:=List.mem_map.1 hv;exact(hcol j (List.mem_range.1 hj)).2
  ·obtain⟨j,hj,rfl⟩:=List.mem_map.1 hv;have:=hrow j (List.mem_range.1 hj);refine⟨this.2.1,this.2.2,?_⟩;have h3:=(hk.r j (List.mem_range.1 hj)).2.2.1;simp[zff];omega
  ·rw[zbr (S':=λj=>(M.C j).nm) (λj _ hj=>ec j (by omega))];exact n1
  ·rw[zbr (S':=λj=>(M.R j).nm) (λj _ hj=>er j (by omega))];exact n2
  ·rw[zbo (S':=λj=>(M.C j).nm) (λj hj=>ec j (by omega))];exact t1
  ·rw[zbo (S':=λj=>(M.R j).nm) (λj hj=>er j (by omega))];exact t2
theorem FnT.of {K w} {e:Ex} {i q} (h:QnT K w e.v q) (hi:e.i=i) (hb:i=0∨(i=-1∨i=1)/\q=0):Fn w e.i e.v.s e.v.x e.v.n e.v.f e.v.y e.v.m e.v.g q:=⟨h.2.2,by rw[hi];exact hb⟩
theorem zmL {K w T s x n c f y m d g q s2 x2 n2 c2 f2 y2 m2 d2 g2 q2} (h:Rn K w s x n c f y m d g q) (h2:Rn K w s2 x2 n2 c2 f2 y2 m2 d2 g2 q2):Rf K (w.alloc (cells #[.bool s,slice x n c,slice y m d,.bool s2,slice x2 n2 c2,slice y2 m2 d2] T)) (some ⟨w.heap.size,0,none⟩) [q,q2]:=λj q' e=>by
 match j,e with
 | 0,e=>cases e;exact⟨w.heap.size,0,⟨s,x,n,c,f,y,m,d,g⟩,rfl,⟨by simp[go_sem],by simp[go_sem],by simp[go_sem]⟩,h.alloc _⟩
 | 1,e=>cases e;exact⟨w.heap.size,0,⟨s2,x2,n2,c2,f2,y2,m2,d2,g2⟩,rfl,⟨by simp[go_sem],by simp[go_sem],by simp[go_sem]⟩,h2.alloc _⟩
theorem zpn {M k X} (h1:zaw M=0) (h2:afB k X=true) (h3:k=M.ck):zcB M k X=0:=by
 unfold zcB;rw[h1,show pnE k X M.ck=0 by unfold pnE;rw[if_pos h2,if_pos (by rw[h3])]];rfl
theorem zbZ {L L' w sa xa na ca fa ya ma da ga sb xb nb cb fb yb mb db gb q} (ha:Rn L w sa xa na ca fa ya ma da ga q) (hb:Rn L' w sb xb nb cb fb yb mb db gb q) (h1:L<=1048576) (h2:L'<=1048576) :
  Calls prog 16 #[agg #[.bool sa,slice xa na ca,slice ya ma da],agg #[.bool sb,slice xb nb cb,slice yb mb db]] w λe w'=>e=returned (.bool true)/\Bl w w':=by
 have l1:=ha.ln;have l2:=ha.ld;have l3:=hb.ln;have l4:=hb.ld
 refine(zeI sa xa ya na ca ma da fa ga sb xb yb nb cb mb db fb gb w ha.num.rd ha.den.rd hb.num.rd hb.den.rd (by omega) (by omega) (by omega) (by omega)).mono ?_;rintro e w' ⟨c,rfl,h3,h4⟩;refine⟨?_,h3⟩;rw[h4.2 ((ha.inj hb).2 rfl)]
theorem zlr {w L L' ao bo k ca cb p} (ha:Rf L w ao p) (hb:Rf L' w bo p) (hk:p.length=k) (hk2:k<=1048576) (h1:L<=1048576) (h2:L'<=1048576) :
  Calls prog 15 #[slice ao k ca,slice bo k cb] w λe w'=>e=returned (.bool true)/\Bl w w':=by
 have HA:=zk ha;have HB:=zk hb
 have hkk:(((k:Nat):Int) != ((k:Nat):Int))=false:=by simp
 clear ha hb;go_enter func15,ntmps15;go_wp2_with fail
 go_loopw[13] (λt wr=>∃(i:Nat),i<=k/\t=.int .i64 i/\Hid (Bl w wr)) (λt _=>k-(intOf t).toNat)
 case atStart=>exact⟨0,by omega,rfl,Below.refl _ _⟩
 case round =>
  obtain⟨i,hi,rfl,HW⟩:=hrel;by_cases hlt:i<k
  ·obtain⟨q,hq⟩:∃q,p[i]?=some q:=⟨_,getElem?_eq_getElem (by omega)⟩;obtain⟨b,o,⟨ts,tx,tn,tc,tf,ty,tm,td,tg⟩,rfl,hc,hr⟩:=(HA.out.q_ HW.out) i q hq;obtain⟨b',o',⟨ss,sx,sn,sc,sf,sy,sm,sd,sg⟩,rfl,hc',hr'⟩:=(HB.out.q_ HW.out) i q hq;obtain⟨x0,x1,x2⟩:=hc;obtain⟨p0,p1,p2⟩:=hc';replace x0:wr.cell? ⟨b,o+i*3,none⟩=some (.bool ts):=x0;replace x1:wr.cell? ⟨b,o+i*3+1,none⟩=some (slice tx tn tc):=x1;replace x2:wr.cell? ⟨b,o+i*3+2,none⟩=some (slice ty tm td):=x2;replace p0:wr.cell? ⟨b',o'+i*3,none⟩=some (.bool ss):=p0;replace p1:wr.cell? ⟨b',o'+i*3+1,none⟩=some (slice sx sn sc):=p1;replace p2:wr.cell? ⟨b',o'+i*3+2,none⟩=some (slice sy sm sd):=p2;have CS:Hid (∀W,Bl wr W->Calls prog 16 #[agg #[.bool ts,slice tx tn tc,slice ty tm td],agg #[.bool ss,slice sx sn sc,slice sy sm sd]] W λe w'=>e=returned (.bool true)/\Bl W w'):=λW hW =>
    zbZ (Rn.q_ hr hW) (Rn.q_ hr' hW) h1 h2
   have i2:((i:Nat):Int)<((k:Nat):Int):=by omega
   clear hr hr' hq;go_upto_region 6 with fail
   go_region_held3 (λw'=>w'.cell? ⟨b,o+i*3,none⟩=some (.bool ts)/\w'.cell? ⟨b,o+i*3+1,none⟩=some (slice tx tn tc)/\w'.cell? ⟨b,o+i*3+2,none⟩=some (slice ty tm td)/\w'.cell? ⟨b',o'+i*3,none⟩=some (.bool ss)/\w'.cell? ⟨b',o'+i*3+1,none⟩=some (slice sx sn sc)/\w'.cell? ⟨b',o'+i*3+2,none⟩=some (slice sy sm sd))
    (refine⟨?_,?_,?_,?_,?_,?_⟩ <;> repeat(with_reducible first|assumption|refine kCd ?_|refine kCb (by assumption) ?_))
    ((go_at_call 16;with_reducible refine(CS.out _ (by repeat(with_reducible first|assumption|exact Below.refl _ _|refine zlE ?_|refine Below.drew ?_))).mono ?_;rintro e w5 ⟨rfl,hb5⟩))
   all_goals
    (have HW5:Hid (Bl w w5):=zk (HW.out.trans (Below.mono (show Bl wr w5 by repeat(with_reducible first|assumption|exact Below.refl _ _|refine zlE ?_|refine Below.drew ?_|refine kBb (by assumption) ?_)) HW.out.size))
     clear x0 x1 x2 p0 p1 p2 CS hb5;go_wp2;go_roundw
     case rel=>exact⟨i+1,by omega,by go_num,(by first|exact HW5.out|exact HW5.out.drew|exact zH HW5.out _)⟩
     case measure=>simp[intOf];omega)
  ·have i2:¬(((i:Nat):Int)<((k:Nat):Int)):=by omega
   go_wp2;go_ret;exact⟨rfl,HW.out⟩
theorem zqQ {w M K} (hX:MoX w M) (hN:MoN M) (hk:M.ck<=64->M.rk<=64->MoK K M) (hK:K<=65536):Calls prog 7 #[M.val] w λe w'=>∃M':Mo,e=returned M'.val/\Bl w w'/\Sm M M'/\MoW w' M'/\MoX w' M'/\(M'.ck<=64->M'.rk<=64->MoK K M') :=
 (zpw hX).mono λe w' ⟨M',h1,h2,h3,h4⟩=>⟨M',h1,h2,h3,λa b=>h4.mor (h3.mon hN) (h3.mok (hk (by rw[<-h3.ck];exact a) (by rw[<-h3.rk];exact b))) hK a b,h4,λa b=>h3.mok (hk (by rw[<-h3.ck];exact a) (by rw[<-h3.rk];exact b))⟩
theorem zsy {K M} (h:lgM K M=true):M.ck<=64->M.rk<=64->MoK K M:=λa b=>zrA h a b
theorem MoX.both {w M K} (h:MoX w M) (hn:MoN M) (hk:M.ck<=64->M.rk<=64->MoK K M) (hK:K<=1000):M.ck<=64->M.rk<=64->MoR w M/\MoS M:=λa b=>⟨h.mor hn (hk a b) (le_trans hK (by decide)) a b,(hk a b).mos hK⟩
theorem El.q_ {w w' ao k E} (h:El w ao k E) (hb:Bl w w'):El w' ao k E:=λj hj=>by
 obtain⟨b,o,e,h1⟩:=h j hj;exact⟨b,o,e,kCb hb h1⟩
theorem Sn.trans {a b c} (h:Sn a b) (k:Sn b c):Sn a c:=by
 obtain⟨h1,h2,h3,h4,h5⟩:=h;obtain⟨k1,k2,k3,k4,k5⟩:=k;exact⟨k1.trans h1,k2.trans h2,k3.trans h3,k4.trans h4,k5.trans h5⟩
theorem Sn.nq {t t':Nm} (h:Sn t t'):nq t'=nq t:=by
 obtain⟨h1,h2,h3,h4,h5⟩:=h;unfold Go.Proofs.YtlbgphjdibbkjaaGreat.nq;rw[h1,h2,h3,h4,h5]
theorem Sm.csOf {M M':Mo} (h:Sm M M'):zbj M'=zbj M:=by
 unfold Go.Proofs.YtlbgphjdibbkjaaGreat.zbj;rw[h.ck];refine List.map_congr_left (λj hj=>?_);have p:=h.C j (List.mem_range.1 hj);unfold ziz;rw[p.nm,p.cost.nq,p.li,p.lo.nq,p.hi,p.hv.nq]
theorem Sm.rsOf {M M':Mo} (h:Sm M M'):zbq M'=zbq M:=by
 unfold Go.Proofs.YtlbgphjdibbkjaaGreat.zbq;rw[h.rk];refine List.map_congr_left (λj hj=>?_);have p:=h.R j (List.mem_range.1 hj);unfold zff;rw[p.nm,p.li,p.lo.nq,p.hi,p.hv.nq,p.tk,p.col]
 congr 1
 exact List.map_congr_left (λq hq=>by rw[(p.T q (List.mem_range.1 hq)).nq])
def zbh (k:Nat) (X:Nat->Nm):List Rat:=(List.range k).map (λj=>nq (X j))
theorem zcA (k:Nat) (X:Nat->Nm):(zbh k X).length=k:=by simp[zbh]
theorem zgR {k X X'} (h:∀j,j<k->Sn (X j) (X' j)):zbh k X'=zbh k X:=List.map_congr_left (λj hj=>(h j (List.mem_range.1 hj)).nq)
theorem Rl.rfC {w ao k K X} (h:Rl w ao k X) (hf:afB k X=true) (hk:∀j,j<k->(X j).n<=K/\(X j).m<=K):Rf K w ao (zbh k X):=λj q e=>by
 obtain⟨hj,rfl⟩:=zdA e;obtain⟨b,o,h1,h2,h3⟩:=h j hj;exact⟨b,o,X j,h1,h2,NmS.val h3 (zhw hf j (by omega) (by omega)) (hk j hj)⟩
theorem zfm:∀(p:List Rat) (a:Rat),psum p a=a+psum p 0
 | [],a=>by show a=a+0;grind
 | q :: p,a=>by
  simp only[psum];rw[zfm p (a+q),zfm p (0+q)]
  grind
theorem zcR (q:Rat) (p:List Rat):psum (q :: p) 0=q+psum p 0:=by
 simp only[psum];rw[zfm];grind
def lgL (K k:Nat) (X:Nat->Nm):Bool:=decide (k<=300) && nlg K X k 0
theorem MoK.up {K L M} (h:MoK K M) (hL:K<=L):MoK L M:=by
 have e:∀{a b:Nat},a<=K/\b<=K->a<=L/\b<=L:=λp=>⟨le_trans p.1 hL,le_trans p.2 hL⟩
 exact⟨e h.off,λj hj=>⟨e (h.c j hj).1,e (h.c j hj).2.1,e (h.c j hj).2.2⟩,λj hj=>⟨e (h.r j hj).1,e (h.r j hj).2.1,(h.r j hj).2.2.1,λp hp=>e ((h.r j hj).2.2.2 p hp)⟩⟩
theorem Rf.cut {K L w ao p} (h:Rf K w ao p) (hp:∀q,q ∈ p->Lo L q):Rf L w ao p:=λj q hj=>by
 obtain⟨b,o,t,e,h1,h2⟩:=h j q hj;exact⟨b,o,t,e,h1,h2.cut (hp q (List.mem_of_getElem? hj))⟩
theorem znc {M k X} (h:zcB M k X=0):zaw M=0/\afB k X=true/\k=M.ck:=by
 obtain⟨h1,h2⟩:=zhD h;refine⟨h1,?_⟩;unfold pnE at h2;by_cases a:afB k X=true
 ·rw[if_pos a]at h2
  by_cases b:k=M.ck
  ·exact⟨a,b⟩
  ·rw[if_neg (by omega)]at h2;cases h2
 ·rw[if_neg a]at h2;cases h2
theorem znW (M:Mo):(zbj M).length=M.ck:=by simp[zbj]
def Tx (w:World) (ao:Option Addr) (k:Nat) (X X':Nat->Nm):Prop:=Rl w ao k X'/\∀j,j<k->Sn (X j) (X' j)
theorem Tx.q_ {w w' ao k X X'} (h:Tx w ao k X X') (hb:Bl w w'):Tx w' ao k X X':=⟨h.1.q_ hb,h.2⟩
def Sh (k:Nat) (X:Nat->Nm):Prop:=k<=300/\∀j,j<k->(X j).n<=6/\(X j).m<=6
theorem Tx.val {w ao k X X'} (h:Tx w ao k X X') (hs:Sh k X) (ha:afB k X=true):Rf 6 w ao (zbh k X):=by
 rw[<-zgR h.2];refine h.1.rfC ?_ (λj hj=>by rw[(h.2 j hj).2.1,(h.2 j hj).2.2.2.1];exact hs.2 j hj);exact(zfJ (λj _ b=>h.2 j (by omega))).trans ha
theorem Tf.lo {L w ao v} (h:Tf L w ao v):∀(j:Nat) (a:Int) (q:Rat),v[j]?=some (a,q)->Lo L q:=λj a q hj=>by
 obtain⟨_,_,_,_,_,h2⟩:=h j a q hj;exact h2.lo h2.ln h2.ld
theorem Rf.lo {L w ao p} (h:Rf L w ao p):∀(j:Nat) (q:Rat),p[j]?=some q->Lo L q:=λj q hj=>by
 obtain⟨_,_,_,_,_,h2⟩:=h j q hj;exact h2.lo h2.ln h2.ld
theorem Dn.len_pd {w x n d V K} (h:Dn w x n d V) (hv:(V:Int)<pd K):n<=K:=by
 by_cases hn:n<=K
 ·exact hn
 ·have h1:=zcg h.dg h.fm (by omega);have h2:=zdG (show K<=n-1 by omega);have h3:=h.val;omega
theorem Dn.lt_pd {w x n d V K} (h:Dn w x n d V) (hn:n<=K):(V:Int)<pd K:=by
 have h1:=zcu h.dg;have h2:=zdG hn;have h3:=h.val;omega
theorem Qn.len {w s x n d y m g q K} (h:Qn w s x n d y m g q) (hq:Lo K q):n<=2*K/\m<=2*K :=
 ⟨h.num.dn.len_pd (by rw[zdV];exact hq.1),h.den.len_pd (by rw[zdV];exact hq.2)⟩
theorem Qn.lo {w s x n d y m g q K} (h:Qn w s x n d y m g q) (hn:n<=2*K) (hm:m<=2*K):Lo K q :=
 ⟨by rw[<-zdV];exact h.num.dn.lt_pd hn,by rw[<-zdV];exact h.den.lt_pd hm⟩
theorem Sx.qn {w B s x n c y m d u0 u1 u2 s1 x1 n1 d1 y1 m1 g1 q} (S:Sx w B s x n c y m d) (h:Qn w s1 x1 n1 d1 y1 m1 g1 q):Qn (((w.setCell ⟨B,0,none⟩ u0).setCell ⟨B,1,none⟩ u1).setCell ⟨B,2,none⟩ u2) s1 x1 n1 d1 y1 m1 g1 q :=
 ⟨⟨⟨S.rd h.num.dn.rd,h.num.dn.dg,h.num.dn.fm,h.num.dn.val⟩,h.num.sgn,h.num.pos⟩,⟨S.rd h.den.rd,h.den.dg,h.den.fm,h.den.val⟩⟩
def KE (L:Nat):Nat:=2*(4+64*(2*L+2))
theorem zrm {K K' w t q} (h:QnT K w t q) (hk:K<=K'):QnT K' w t q:=⟨le_trans h.1 hk,le_trans h.2.1 hk,h.2.2⟩
def KZ (L:Nat):Nat:=3+L+64*(2*L+2)
theorem zgQ:∀(a b:List Rat),psum (a++b) 0=psum a 0+psum b 0
 | [],b=>by show psum b 0=0+psum b 0;grind
 | q :: a,b=>by rw[List.cons_append,zcR,zcR,zgQ a b];grind
theorem zhP (q:Rat):psum [q] 0=q:=by rw[zcR];show q+0=q;grind
theorem zqn {B}:∀{l:List Rat},(∀q ∈ l,Lo B q)->Lo (1+l.length*(B+1)) (psum l 0)
 | [],_=>Lo.mono (zdY (L:=1) (le_refl 1)) (Nat.le_add_right _ _)
 | q :: l,h=>by
  rw[zcR];exact(zfu (h q List.mem_cons_self) (zqn (λp hp=>h p (List.mem_cons_of_mem _ hp)))).mono (by rw[List.length_cons,Nat.add_mul];omega)
theorem zfB {y j}:∀{ts:List (Int × Rat)} {q:Rat},q ∈ zbi y ts j->∃t ∈ ts,q=-y*t.2
 | [],q,h=>by simp[zbi]at h
 | (z,a) :: r,q,h=>by
  simp only[zbi,List.mem_append]at h;rcases h with h|h
  ·split at h
   ·exact⟨(z,a),List.mem_cons_self,by simpa using h⟩
   ·cases h
  ·obtain⟨t,h1,h2⟩:=zfB h;exact⟨t,List.mem_cons_of_mem _ h1,h2⟩
theorem zgk {j}:∀{rs:List RV} {ys:List Rat} {q:Rat},q ∈ zW rs ys j->∃v ∈ rs,∃y ∈ ys,∃t ∈ v.ts,q=-y*t.2
 | [],_,q,h=>by simp[zW]at h
 | _ :: _,[],q,h=>by simp[zW]at h
 | v :: rs,y :: ys,q,h=>by
  simp only[zW,List.mem_append]at h;rcases h with h|h
  ·obtain⟨t,h1,h2⟩:=zfB h;exact⟨v,List.mem_cons_self,y,List.mem_cons_self,t,h1,h2⟩
  ·obtain⟨v',h1,y',h2,r⟩:=zgk h;exact⟨v',List.mem_cons_of_mem _ h1,y',List.mem_cons_of_mem _ h2,r⟩
def cstQ (cs:List CV) (j:Nat):Rat:=(cs[j]?.map (·.cost)).getD 0
def roQ (cs:List CV) (rs:List RV) (ys:List Rat) (i j:Nat):Rat:=psum (zW (rs.take i) (ys.take i) j) 0+cstQ cs j
def rdQ (cs:List CV) (rs:List RV) (ys:List Rat) (i:Nat) (y:Rat) (ts:List (Int × Rat)) (j:Nat):Rat:=psum (zW (rs.take i) (ys.take i) j++zbi y ts j) 0+cstQ cs j
theorem zmJ (cs:List CV) (rs:List RV) (ys:List Rat) (j:Nat):roQ cs rs ys 0 j=cstQ cs j:=by
 show psum [] 0+cstQ cs j=_;show 0+cstQ cs j=_
 grind
theorem zpf (cs:List CV) (rs:List RV) (ys:List Rat) (i:Nat) (y:Rat) (ts:List (Int × Rat)):rdQ cs rs ys i y (ts.take 0)=roQ cs rs ys i:=by
 funext j
 show psum (_++[]) 0+_=_;rw[List.append_nil];rfl
theorem zpe {cs rs ys i v y} (h:rs[i]?=some v) (h2:ys[i]?=some y):rdQ cs rs ys i y v.ts=roQ cs rs ys (i+1):=by
 funext j
 unfold rdQ roQ;rw[zcn j h h2]
theorem zmN {cs rs ys i y} {ts:List (Int × Rat)} {p zn:Nat} {a} (h:ts[p]?=some ((zn:Int),a)) (j:Nat):rdQ cs rs ys i y (ts.take (p+1)) j=if zn=j then rdQ cs rs ys i y (ts.take p) j-y*a else rdQ cs rs ys i y (ts.take p) j:=by
 unfold rdQ;rw[zda j h,<-List.append_assoc,zgQ];by_cases e:zn=j
 ·rw[if_pos e,if_pos (by omega),zhP];grind
 ·rw[if_neg e,if_neg (by omega)];show _+(0:Rat)+_=_
  grind
theorem zrf {L cs rs ys i y ts j} (hi:i<rs.length) (hl:rs.length<=64) (hts:∀v ∈ rs,tsB cs.length (-1) v.ts=true) (ht:tsB cs.length (-1) ts=true) (hc:∀v ∈ cs,Lo L v.cost) (hy:∀q ∈ ys,Lo L q) (hy1:Lo L y) (hr:∀v ∈ rs,∀t ∈ v.ts,Lo L t.2) (ht1:∀t ∈ ts,Lo L t.2):Lo (KZ L) (rdQ cs rs ys i y ts j):=by
 have h1:=zbE (j:=j) (rs:=rs.take i) (ys:=ys.take i) (λv hv=>hts v (List.mem_of_mem_take hv));have h2:=zcJ (y:=y) (j:=j) ht;have h3:=zqn (B:=L+L+1) (l:=zW (rs.take i) (ys.take i) j++zbi y ts j) (λq hq=>by
  rcases List.mem_append.1 hq with hq|hq
  ·obtain⟨v,hv,y',hy',t,htt,rfl⟩:=zgk hq;exact zft (znx (hy y' (List.mem_of_mem_take hy'))) (hr v (List.mem_of_mem_take hv) t htt)
  ·obtain⟨t,h4,rfl⟩:=zfB hq;exact zft (znx hy1) (ht1 t h4))
 have h5:Lo (L+1) (cstQ cs j):=by
  unfold cstQ;cases e:cs[j]? with
  | none=>exact zdY (by omega)
  | some v=>exact(hc v (List.mem_of_getElem? e)).mono (Nat.le_succ _)
 refine(zfu h3 h5).mono ?_;have h6:(zW (rs.take i) (ys.take i) j++zbi y ts j).length<=64:=by
  rw[List.length_append];rw[List.length_take]at h1
  omega
 have h7:=Nat.mul_le_mul_right (L+L+1+1) h6;unfold KZ;have e:2*L+2=L+L+1+1:=by omega
 rw[e];omega
theorem zhM {rs ys}:∀{cs:List CV} {i j:Nat} {v:CV},cs[i]?=some v->(zaB rs ys j cs)[i]?=some (psum (zW rs ys (j+i)++[v.cost]) 0)
 | [],i,j,v,h=>by simp at h
 | v' :: cs,0,j,v,h=>by
  have e:v'=v:=by simpa using h
  subst e;rfl
 | v' :: cs,i+1,j,v,h=>by
  simp only[zaB,List.getElem?_cons_succ];rw[zhM (cs:=cs) (i:=i) (j:=j+1) (by simpa using h),show j+1+i=j+(i+1) by omega]
theorem zoX {cs rs ys j q} (hl:ys.length=rs.length) (h:(zaB rs ys 0 cs)[j]?=some q):roQ cs rs ys rs.length j=q:=by
 have hj:j<cs.length:=by rw[<-zaX rs ys cs 0];exact(List.getElem?_eq_some_iff.1 h).1
 obtain⟨v,hv⟩:∃v,cs[j]?=some v:=⟨_,getElem?_eq_getElem hj⟩;rw[zhM hv,zero_add]at h
 rw[<-Option.some.inj h,roQ,List.take_of_length_le (le_refl _),List.take_of_length_le (by omega),zgQ,zhP,cstQ,hv];rfl
theorem Rk.qn {w B n o u s x k f y m g q} (h:Rk w B n) (ho:o<n*3) (hx:Qn w s x k f y m g q):Qn (w.setCell ⟨B,o,none⟩ u) s x k f y m g q :=
 ⟨⟨⟨h.rd ho hx.num.dn.rd,hx.num.dn.dg,hx.num.dn.fm,hx.num.dn.val⟩,hx.num.sgn,hx.num.pos⟩,⟨h.rd ho hx.den.rd,hx.den.dg,hx.den.fm,hx.den.val⟩⟩
def Qr (K:Nat) (w:World) (B n:Nat) (Q:Nat->Rat):Prop:=∀j,j<n->∃t:Nm,C3 w B (j*3) (.bool t.s) (slice t.x t.n t.c) (slice t.y t.m t.d)/\QnT K w t (Q j)
theorem Qr.q_ {K w w' B n Q} (h:Qr K w B n Q) (hb:Bl w w'):Qr K w' B n Q:=λj hj=>by
 obtain⟨t,h1,h2⟩:=h j hj;exact⟨t,h1.q_ hb,h2.q_ hb⟩
theorem zsq {K w B n j Q Q' s x k c f y m d g} (h:Rk w B n) (hq:Qr K w B n Q) (hj:j<n) (hr:QnT K w ⟨s,x,k,c,f,y,m,d,g⟩ (Q' j)) (hs:∀j',j'≠j->Q' j'=Q j') :
  Rk (((w.setCell ⟨B,j*3,none⟩ (.bool s)).setCell ⟨B,j*3+1,none⟩ (slice x k c)).setCell ⟨B,j*3+2,none⟩ (slice y m d)) B n/\Qr K (((w.setCell ⟨B,j*3,none⟩ (.bool s)).setCell ⟨B,j*3+1,none⟩ (slice x k c)).setCell ⟨B,j*3+2,none⟩ (slice y m d)) B n Q':=by
 have k1:=h.set (o:=j*3) (u:=.bool s) (λi h=>by cases h);have k2:=k1.set (o:=j*3+1) (u:=slice x k c) (λi h=>by cases h);have k3:=k2.set (o:=j*3+2) (u:=slice y m d) (λi h=>by cases h);refine⟨k3,λj' hj'=>?_⟩;obtain⟨_,a0,_⟩:=h.has (j*3) (by omega);obtain⟨_,a1,_⟩:=k1.has (j*3+1) (by omega);obtain⟨_,a2,_⟩:=k2.has (j*3+2) (by omega);by_cases e:j'=j
 ·subst e;exact⟨⟨s,x,k,c,f,y,m,d,g⟩,⟨kCo (by omega) (kCo (by omega) (kCe (kI0 a0))),kCo (by omega) (kCe (kI0 a1)),kCe (kI0 a2)⟩,hr.1,hr.2.1,k2.qn (by omega) (k1.qn (by omega) (h.qn (by omega) hr.2.2))⟩
 ·obtain⟨t,⟨c0,c1,c2⟩,ht⟩:=hq j' hj';rw[hs j' e];exact⟨t,⟨kCo (by omega) (kCo (by omega) (kCo (by omega) c0)),kCo (by omega) (kCo (by omega) (kCo (by omega) c1)),kCo (by omega) (kCo (by omega) (kCo (by omega) c2))⟩,ht.1,ht.2.1,k2.qn (by omega) (k1.qn (by omega) (h.qn (by omega) ht.2.2))⟩
def Zl (w:World) (base K:Nat) (ao:Option Addr) (n:Nat) (Q:Nat->Rat):Prop:=0<n->∃B,ao=some ⟨B,0,none⟩/\base<=B/\Rk w B n/\Qr K w B n Q
theorem Zl.q_ {w w' base K ao n Q} (h:Zl w base K ao n Q) (hb:Bl w w'):Zl w' base K ao n Q:=λhn=>by
 obtain⟨B,h1,h2,h3,h4⟩:=h hn;exact⟨B,h1,h2,h3.q_ hb,h4.q_ hb⟩
theorem zsa {e base K n cap w ao T Q} (h:RowG e 3 base w (slice ao n cap) n (rcells (rls n T))) (hq:∀j,j<n->QnT K w (T j) (Q j)):Zl w base K ao n Q:=λhn=>by
 have hc:=λj (hj:j<n)=>zci h hj
 obtain⟨h1,h2⟩:=h;rcases h2 with⟨_,h0⟩|⟨g,cap',cur,hv,hb,hg,hle,hm,hs,ht,hnu⟩
 ·omega
 ·cases hv
  refine⟨g,rfl,hb,⟨(Array.getElem?_eq_some_iff.1 hg).1,λo ho=>?_,λo=>by simp[World.frozen?,hg]⟩,λj hj=>?_⟩
  ·have hlt:o<cur.size:=by omega
   exact⟨cur[o],by simp[World.cell?,hg,hlt],λi hi=>hnu o i (by rw[Array.getElem?_eq_getElem hlt,hi])⟩
  ·obtain⟨b,hb2,hc3⟩:=hc j hj;cases hb2
   rw[zero_add]at hc3
   exact⟨T j,hc3,hq j hj⟩
theorem Zl.rqs {w base K ao n Q p} (h:Zl w base K ao n Q) (hl:p.length=n) (hp:∀j q,p[j]?=some q->Q j=q):Rqs K w ao p:=λj q hj=>by
 have hlt:j<n:=by rw[<-hl];exact(List.getElem?_eq_some_iff.1 hj).1
 obtain⟨B,h1,_,_,h4⟩:=h (by omega);obtain⟨t,h5,h6⟩:=h4 j hlt;rw[hp j q hj]at h6
 exact⟨B,0,t,h1,by rw[zero_add];exact h5,h6⟩
def zrU (K:Nat) (w w':World) (e:Ending) (k:Nat) (p:List Rat):Prop:=∃aw cw,e=returned (slice aw k cw)/\Bl w w'/\(k<=cw/\cw<=9223372036854775807)/\Hid (Rqs K w' aw p)/\Hid (0<k->∃B,aw=some ⟨B,0,none⟩/\w.heap.size<=B)
theorem zph {w L M off cs rs ay k cap ys} (h:MqV (2*L) w M off cs rs) (hy:Rqs (2*L) w ay ys) (hk:ys.length=k) (hkr:k=rs.length) (hm:MvP cs rs) (hts:∀v ∈ rs,tsB cs.length (-1) v.ts=true) (hL:L<=60) :
  Calls prog 42 #[M.val,slice ay k cap] w λe w'=>zrU (2*KZ L) w w' e cs.length (zaB rs ys 0 cs):=by
 have hcl:=hm.cl;have hrl:=hm.rl;subst hkr;have HLQ:Hid (∀i y ts j,i<rs.length->tsB cs.length (-1) ts=true->Lo L y->(∀t ∈ ts,Lo L t.2)->Lo (KZ L) (rdQ cs rs ys i y ts j)):=by
  intro i y ts j hi ht hy1 ht1;refine zrf hi hrl hts ht (λv hv=>?_) (λq hq=>?_) hy1 (λv hv t htt=>?_) ht1
  ·obtain⟨j,hj,e⟩:=List.getElem_of_mem hv;have h1:=(h.cls j v (by rw[getElem?_eq_getElem hj,e])).2.cost;exact h1.2.2.lo h1.1 h1.2.1
  ·obtain⟨j,hj,e⟩:=List.getElem_of_mem hq;obtain⟨_,_,t,_,_,h1⟩:=hy j q (by rw[getElem?_eq_getElem hj,e]);exact h1.2.2.lo h1.1 h1.2.1
  ·obtain⟨j,hj,e⟩:=List.getElem_of_mem hv;obtain⟨p,hp,e2⟩:=List.getElem_of_mem htt;obtain⟨_,_,t3,_,_,h1⟩:=(h.rls j v (by rw[getElem?_eq_getElem hj,e])).2.tl p t.1 t.2 (by rw[getElem?_eq_getElem hp,e2]);exact h1.2.2.lo h1.1 h1.2.1
 obtain⟨⟨s,x,n,c,f,y,m,d,g⟩,ca,ck,cc,C,ra,rk,rc,R⟩:=M;have hck:ck=cs.length:=h.ck;have hrk:rk=rs.length:=h.rk;subst hck;subst hrk;have HC:Hid (∀j v,cs[j]?=some v->(∃b o,ca=some ⟨b,o,none⟩/\Cs w b (o+j*12) (C j).vs)/\QcV (2*L) w (C j) v):=h.cls;have HR:Hid (∀j v,rs[j]?=some v->(∃b o,ra=some ⟨b,o,none⟩/\Cs w b (o+j*10) (R j).vs)/\QrV (2*L) w (R j) v):=h.rls;have HX:=zk hy;have HTS:=zk hts;clear h hy hts hm;have HB0:=zk (zB w (cells #[.bool s,slice x n c,slice y m d,slice ca cs.length cc,slice ra rs.length rc] 96));have BM:=zk (zF w [.bool s,slice x n c,slice y m d,slice ca cs.length cc,slice ra rs.length rc] 96);show Calls prog 42 #[agg #[.bool s,slice x n c,slice y m d,slice ca cs.length cc,slice ra rs.length rc],slice ay rs.length cap] w _;have r3:=BM.out.cell (j:=3) rfl;go_enter func42,ntmps42;go_wp2_with fail
 clear r3;generalize(w.alloc (cells #[.bool s,slice x n c,slice y m d,slice ca cs.length cc,slice ra rs.length rc] 96))=w0 at *;go_loopw[5,15] (λov t wr=>∃(i:Nat) (T':Nat->Nm),i<=cs.length/\t=.int .i64 i/\Hid (Bl w0 wr)/\Hid (RowG 73 3 w0.heap.size wr ov i (rcells (rls i T')))/\Hid (∀j,j<i->QnT (2*KZ L) wr (T' j) (cstQ cs j))) (λ_ t _=>cs.length-(intOf t).toNat)
 case atStart=>exact⟨0,λj=>(C j).cost,by omega,rfl,Below.refl _ _,zak _ _ _ _,λj hj=>by omega⟩
 case round =>
  obtain⟨i,T',hi,rfl,HB,HRow,HT⟩:=hrel;by_cases hlt:i<cs.length
  ·obtain⟨v,hv⟩:∃v,cs[i]?=some v:=⟨_,getElem?_eq_getElem hlt⟩;have hbw:=bUp HB0.out HB.out;obtain⟨⟨b,o,hca,hc0⟩,hn⟩:=HC.out i v hv;subst hca;have hc:=hc0.q_ hbw;have hq:=zrm (K':=2*KZ L) (hn.cost.q_ hbw) (by unfold KZ;omega);have hcst:cstQ cs i=v.cost:=by unfold cstQ;rw[hv];rfl
   rw[<-hcst]at hq
   obtain⟨⟨z,⟨s0,x0,n0,c0,f0,y0,m0,d0,g0⟩,⟨i1,⟨s1,x1,n1,c1,f1,y1,m1,d1,g1⟩⟩,⟨i2,⟨s2,x2,n2,c2,f2,y2,m2,d2,g2⟩⟩⟩,hCi⟩:∃t,C i=t:=⟨_,rfl⟩;rw[hCi]at hc hq
   replace hq:QnT (2*KZ L) wr ⟨s0,x0,n0,c0,f0,y0,m0,d0,g0⟩ (cstQ cs i):=hq;obtain⟨q0,q1,q2,q3,q4,q5,q6,q7,q8,q9,q10,q11⟩:=hc.lc;have hbt:=zB wr (cells #[.string z,.bool s0,slice x0 n0 c0,slice y0 m0 d0,.int .i64 i1,.bool s1,slice x1 n1 c1,slice y1 m1 d1,.int .i64 i2,.bool s2,slice x2 n2 c2,slice y2 m2 d2] 131);have BC:=zF wr [.string z,.bool s0,slice x0 n0 c0,slice y0 m0 d0,.int .i64 i1,.bool s1,slice x1 n1 c1,slice y1 m1 d1,.int .i64 i2,.bool s2,slice x2 n2 c2,slice y2 m2 d2] 131;have i1':((i:Nat):Int)<((cs.length:Nat):Int):=by omega
   clear hCi hc hc0 hn hv hcst hbw;go_upto_region 5 with fail
   clear q0 q1 q2 q3 q4 q5 q6 q7 q8 q9 q10 q11;obtain⟨-,a1,a2,a3⟩:=bk4 BC;have HN:=zk (hq.q_ hbt);have HRow5:=zk (HRow.out.q_ hbt);have HB5:=zJ HB hbt
   have HT5:Hid (∀j,j<i->QnT (2*KZ L) (wr.alloc (cells #[.string z,.bool s0,slice x0 n0 c0,slice y0 m0 d0,.int .i64 i1,.bool s1,slice x1 n1 c1,slice y1 m1 d1,.int .i64 i2,.bool s2,slice x2 n2 c2,slice y2 m2 d2] 131)) (T' j) (cstQ cs j)):=λj hj=>(HT.out j hj).q_ hbt
   clear hbt BC hq HB HRow HT;generalize hbx:wr.heap.size=bx at *;generalize wr.alloc (cells #[.string z,.bool s0,slice x0 n0 c0,slice y0 m0 d0,.int .i64 i1,.bool s1,slice x1 n1 c1,slice y1 m1 d1,.int .i64 i2,.bool s2,slice x2 n2 c2,slice y2 m2 d2] 131)=w5 at *;clear hbx;have hsz:=HB5.out.size;go_wp2_with(at_builtin;go_must (refine zO w5 rfl (.tmp 19) (.tmp 22) 91 rfl w0.heap.size 73 56 3 (agg #[.bool false,slice none 0 0,slice none 0 0]) underlying91 zqq rfl (by decide) nz3 u5 i (rcells (rls i T')) rfl HRow5.out #[.bool s0,slice x0 n0 c0,slice y0 m0 d0] rfl rfl (zdp _ _ _ _ _ _ _) (zcD _ _ _ _ _ _ _) ?p1 (by decide) hsz ?_))
   case p1=>omega
   intro g8 cap8 w8 hr8 hk8 hb8 hg8;have HB8:=zk (hb8 w0 HB5.out (le_refl _));have HR8:Hid (RowG 73 3 w0.heap.size w8 (slice (some ⟨g8,0,none⟩) (i+1) cap8) (i+1) (rcells (rls (i+1) (zaE T' i ⟨s0,x0,n0,c0,f0,y0,m0,d0,g0⟩)))):=by
    show RowG _ _ _ _ _ _ _;rw[zcO];exact hr8
   have HT8:Hid (∀j,j<i+1->QnT (2*KZ L) w8 (zaE T' i ⟨s0,x0,n0,c0,f0,y0,m0,d0,g0⟩ j) (cstQ cs j)):=λj hj=>by
    by_cases e:j=i
    ·subst e;rw[zbt];exact HN.out.kp hk8
    ·rw[putN_ne e];exact(HT5.out j (by omega)).kp hk8
   clear hr8 hk8 hb8 hg8 HRow5 HT5 HB5 HN hsz a1 a2 a3;go_wp2;go_roundw
   case rel=>exact⟨i+1,_,by omega,by go_num,HB8.out,HR8.out,HT8.out⟩
   case measure=>simp[intOf];omega
  ·have e1:i=cs.length:=by omega
   have i4':¬(((i:Nat):Int)<((cs.length:Nat):Int)):=by omega
   rw[e1]at HRow HT
   obtain⟨aw,cw,rfl⟩:=HRow.out.slice;have hcw:cs.length<=cw/\cw<=9223372036854775807:=by
    rcases HRow.out.2 with⟨hv,h0⟩|⟨_,_,_,hv,_,_,h5,h6,_⟩
    ·simp only[Value.slice.injEq]at hv;obtain⟨_,_,h9⟩:=hv;omega
    ·simp only[Value.slice.injEq]at hv;obtain⟨_,_,h9⟩:=hv;unfold maxLen at h6;omega
   have HZ:Hid (Zl wr w0.heap.size (2*KZ L) aw cs.length (roQ cs rs ys 0)):=zsa HRow.out (λj hj=>by rw[zmJ];exact HT.out j hj);have r4:=(BM.out.q_ HB.out).cell (j:=4) rfl;have HW:=zk HB.out;have HCW:=zk hcw;clear e1 HT HB HRow HC hcw;go_wp2_with fail
   clear r4 i4' hi hlt;generalize wr=w1 at *;go_loopw[28] (λt wr=>∃(i:Nat),i<=rs.length/\t=.int .i64 i/\Hid (Bl w0 wr)/\Hid (Zl wr w0.heap.size (2*KZ L) aw cs.length (roQ cs rs ys i))) (λt _=>rs.length-(intOf t).toNat)
   case atStart=>exact⟨0,by omega,rfl,HW.out,HZ.out⟩
   case round =>
    clear HW HZ;obtain⟨i,hi,rfl,HB,HZ⟩:=hrel;by_cases hlt:i<rs.length
    ·obtain⟨v,hv⟩:∃v,rs[i]?=some v:=⟨_,getElem?_eq_getElem hlt⟩;obtain⟨yq,hyq⟩:∃t,ys[i]?=some t:=⟨_,getElem?_eq_getElem (by omega)⟩;have hbw:=bUp HB0.out HB.out;obtain⟨⟨b,o,hra,hc0⟩,hn⟩:=HR.out i v hv;subst hra;have hc:=hc0.q_ hbw;have hvm:=List.mem_of_getElem? hv;obtain⟨b',o',⟨s3,x3,n3,c3,f3,y3,m3,d3,g3⟩,hay,hcy,hqy⟩:=HX.out i yq hyq;subst hay;have HCY:Hid (C3 w b' (o'+i*3) (.bool s3) (slice x3 n3 c3) (slice y3 m3 d3)):=hcy;have HQY:Hid (n3<=2*L/\m3<=2*L/\Qn w s3 x3 n3 f3 y3 m3 g3 yq):=hqy;have HY1:Hid (Lo L yq):=hqy.2.2.lo hqy.1 hqy.2.1;have htl:=hn.tl;have htk:=hn.tk;have HS:=zk (HTS.out v hvm);have hvl:v.ts.length<=64:=by have:=zgz HS.out (by omega);omega
     have HRW:=zk (zpe (cs:=cs) hv hyq);obtain⟨⟨z,⟨i1,⟨s1,x1,n1,c1,f1,y1,m1,d1,g1⟩⟩,⟨i2,⟨s2,x2,n2,c2,f2,y2,m2,d2,g2⟩⟩,ta,tk,tc,tcol,tt⟩,hCi⟩:∃t,R i=t:=⟨_,rfl⟩;rw[hCi]at hc htl htk
     replace htk:tk=v.ts.length:=htk;subst htk;have HTQ:Hid (Tq (2*L) w ta v.ts):=htl;obtain⟨q0,q1,q2,q3,q4,q5,q6,q7,q8,q9⟩:=hc.lr;have hbt:=zB wr (cells #[.string z,.int .i64 i1,.bool s1,slice x1 n1 c1,slice y1 m1 d1,.int .i64 i2,.bool s2,slice x2 n2 c2,slice y2 m2 d2,slice ta v.ts.length tc] 134);have BC:=zF wr [.string z,.int .i64 i1,.bool s1,slice x1 n1 c1,slice y1 m1 d1,.int .i64 i2,.bool s2,slice x2 n2 c2,slice y2 m2 d2,slice ta v.ts.length tc] 134;have i1':((i:Nat):Int)<((rs.length:Nat):Int):=by omega
     clear hCi hc hc0 hn hv hvm hbw hyq hcy hqy htl;go_upto_region 10 with fail
     clear q0 q1 q2 q3 q4 q5 q6 q7 q8 q9;have a9:=BC.cell (j:=9) rfl;replace HB:=zJ HB hbt;replace HZ:=zk (HZ.out.q_ hbt)
     clear hbt BC;generalize hbx:wr.heap.size=bx at *;generalize wr.alloc (cells #[.string z,.int .i64 i1,.bool s1,slice x1 n1 c1,slice y1 m1 d1,.int .i64 i2,.bool s2,slice x2 n2 c2,slice y2 m2 d2,slice ta v.ts.length tc] 134)=w5 at *;clear hbx;go_wp2_with fail
     clear a9;go_loopw[36] (λt wr=>∃(p:Nat),p<=v.ts.length/\t=.int .i64 p/\Hid (Bl w0 wr)/\Hid (Zl wr w0.heap.size (2*KZ L) aw cs.length (rdQ cs rs ys i yq (v.ts.take p)))) (λt _=>v.ts.length-(intOf t).toNat)
     case atStart=>exact⟨0,by omega,rfl,HB.out,by show Zl _ _ _ _ _ _;rw[zpf];exact HZ.out⟩
     case round =>
      clear HB HZ;obtain⟨p,hp,rfl,HB,HZ⟩:=hrel;by_cases hlp:p<v.ts.length
      ·obtain⟨⟨z2,q⟩,haq⟩:∃t,v.ts[p]?=some t:=⟨_,getElem?_eq_getElem hlp⟩;obtain⟨hz0,hz1,_⟩:=zdy HS.out _ (List.mem_of_getElem? haq);replace hz0:(-1:Int)<z2:=hz0;replace hz1:z2<(cs.length:Int):=hz1;obtain⟨zn,rfl⟩:=Int.eq_ofNat_of_zero_le (show 0<=z2 by omega);have hbw:=bUp HB0.out HB.out;obtain⟨b2,o2,⟨ts,tx,tn,tc2,tf,ty,tm,td,tg⟩,hta,hc,hr⟩:=HTQ.out p (zn:Int) q haq;subst hta;obtain⟨k0,k1,k2,k3⟩:=hc.q_ hbw;replace k0:wr.cell? ⟨b2,o2+p*4,none⟩=some (.int .i64 zn):=k0;replace k1:wr.cell? ⟨b2,o2+p*4+1,none⟩=some (.bool ts):=k1;replace k2:wr.cell? ⟨b2,o2+p*4+2,none⟩=some (slice tx tn tc2):=k2;replace k3:wr.cell? ⟨b2,o2+p*4+3,none⟩=some (slice ty tm td):=k3;have hr2:tn<=2*L/\tm<=2*L/\Qn wr ts tx tn tf ty tm tg q:=hr.q_ hbw;obtain⟨BZ,hao,hge,hk,hqr⟩:=HZ.out (by omega);subst hao;obtain⟨⟨ls,lx,ln,lc,lf,ly,lm,ld,lg⟩,⟨p0,p1,p2⟩,hr0⟩:=hqr zn (by omega);replace p0:wr.cell? ⟨BZ,zn*3,none⟩=some (.bool ls):=p0;replace p1:wr.cell? ⟨BZ,zn*3+1,none⟩=some (slice lx ln lc):=p1;replace p2:wr.cell? ⟨BZ,zn*3+2,none⟩=some (slice ly lm ld):=p2;replace hr0:ln<=2*KZ L/\lm<=2*KZ L/\Qn wr ls lx ln lf ly lm lg (rdQ cs rs ys i yq (v.ts.take p) zn):=hr0;obtain⟨v0,v1,v2⟩:=HCY.out.q_ hbw;replace v0:wr.cell? ⟨b',o'+i*3,none⟩=some (.bool s3):=v0;replace v1:wr.cell? ⟨b',o'+i*3+1,none⟩=some (slice x3 n3 c3):=v1;replace v2:wr.cell? ⟨b',o'+i*3+2,none⟩=some (slice y3 m3 d3):=v2;have hr1:=HQY.out.2.2.q_ hbw;obtain⟨ly1,ly2,_⟩:=HQY.out;have hbt:=zB wr (cells #[.int .i64 zn,.bool ts,slice tx tn tc2,slice ty tm td] 136);obtain⟨a0,a1,a2,a3⟩:=bk4 (zF wr [.int .i64 zn,.bool ts,slice tx tn tc2,slice ty tm td] 136);have i2':((p:Nat):Int)<((v.ts.length:Nat):Int):=by omega
       have i3':((zn:Nat):Int)<((cs.length:Nat):Int):=by omega
       have i5':((i:Nat):Int)<((rs.length:Nat):Int):=by omega
       have hzn:zn<cs.length:=by omega
       have HST:=zk (λj=>zmN (cs:=cs) (rs:=rs) (ys:=ys) (i:=i) (y:=yq) haq j);have HL2:Hid (∀j,Lo (KZ L) (rdQ cs rs ys i yq (v.ts.take (p+1)) j)):=λj=>HLQ.out i yq _ j hlt (zcN _ HS.out) HY1.out (λt ht=>by
        obtain⟨j2,hj2,e2⟩:=List.getElem_of_mem (List.mem_of_mem_take ht);obtain⟨_,_,_,_,_,h1⟩:=HTQ.out j2 t.1 t.2 (by rw[getElem?_eq_getElem hj2,e2]);exact h1.2.2.lo h1.1 h1.2.1)
       clear haq hr hbw hc;go_upto_region 13 with fail
       clear k0 k1 k2 k3;replace p0:=kCb hbt p0;replace p1:=kCb hbt p1;replace p2:=kCb hbt p2;replace v0:=kCb hbt v0;replace v1:=kCb hbt v1;replace v2:=kCb hbt v2;have R0:=zk (hr0.2.2.q_ hbt);have R1:=zk (hr1.q_ hbt);have R2:=zk (hr2.2.2.q_ hbt)
       obtain⟨lz1,lz2,_⟩:=hr0;obtain⟨la1,la2,_⟩:=hr2;replace HB:=zJ HB hbt;have HK:=zk (hk.q_ hbt);have HQR:=zk (hqr.q_ hbt)
       clear hr1 hbt hk hqr HZ;generalize hbx:wr.heap.size=bx at *;generalize wr.alloc (cells #[.int .i64 zn,.bool ts,slice tx tn tc2,slice ty tm td] 136)=w5 at *;clear hbx;have CM:Hid (∀W,Bl w5 W->Calls prog 77 #[agg #[.bool s3,slice x3 n3 c3,slice y3 m3 d3],agg #[.bool ts,slice tx tn tc2,slice ty tm td]] W λe w'=>∃s x n c d y m e' g,e=returned (agg #[.bool s,slice x n c,slice y m e'])/\Bl W w'/\Hid ((n<=2*(L+L+1)/\m<=2*(L+L+1))/\Qn w' s x n d y m g (yq*q))):=λW hW =>
        (zrq (R1.out.q_ hW) (R2.out.q_ hW) (by omega) (by omega) (by omega) (by omega)).mono (λ_ _ ⟨s,x,n,c,d,y,m,c',g,h1,h2,h3,h4,h5⟩=>⟨s,x,n,c,d,y,m,c',g,h1,h2,h5.len (zft (R1.out.lo ly1 ly2) (R2.out.lo la1 la2)),h5⟩)
       have CA:Hid (∀(W:World) (s1:Bool) (x1:Option Addr) (n1 c1:Nat) (d1:Nat->Int) (y1:Option Addr) (m1 e1:Nat) (g1:Nat->Int),Bl w5 W->(n1<=2*(L+L+1)/\m1<=2*(L+L+1))/\Qn W s1 x1 n1 d1 y1 m1 g1 (yq*q)->Calls prog 76 #[agg #[.bool ls,slice lx ln lc,slice ly lm ld],agg #[.bool s1,slice x1 n1 c1,slice y1 m1 e1]] W λe w'=>∃s x n c d y m e' g,e=returned (agg #[.bool s,slice x n c,slice y m e'])/\Bl W w'/\Hid (QnT (2*KZ L) w' ⟨s,x,n,c,d,y,m,e',g⟩ (rdQ cs rs ys i yq (v.ts.take (p+1)) zn))):=λW s1 x1 n1 c1 d1 y1 m1 e1 g1 hW hh=>by
        have hkz:2*KZ L<=120000:=by unfold KZ;omega
        refine(zrn (R0.out.q_ hW) hh.2 (by omega) (by omega) (by omega) (by omega)).mono (λ_ _ ⟨s,x,n,c,d,y,m,c',g,h1,h2,h3,h4,h5⟩=>⟨s,x,n,c,d,y,m,c',g,h1,h2,?_⟩);have e2:=HST.out zn;rw[if_pos rfl]at e2
        have h6:=HL2.out zn;rw[<-e2]at h5
        exact⟨(h5.len h6).1,(h5.len h6).2,h5⟩
       refine zag (S:=(λw'=>w'.cell? ⟨bx,0,none⟩=some (.int .i64 zn)/\w'.cell? ⟨bx,1,none⟩=some (.bool ts)/\w'.cell? ⟨bx,2,none⟩=some (slice tx tn tc2)/\w'.cell? ⟨bx,3,none⟩=some (slice ty tm td)/\w'.cell? ⟨BZ,zn*3,none⟩=some (.bool ls)/\w'.cell? ⟨BZ,zn*3+1,none⟩=some (slice lx ln lc)/\w'.cell? ⟨BZ,zn*3+2,none⟩=some (slice ly lm ld)/\w'.cell? ⟨b',o'+i*3,none⟩=some (.bool s3)/\w'.cell? ⟨b',o'+i*3+1,none⟩=some (slice x3 n3 c3)/\w'.cell? ⟨b',o'+i*3+2,none⟩=some (slice y3 m3 d3))) 17 (by kernel_rfl) ⟨kCd a0,kCd a1,kCd a2,kCd a3,kCd p0,kCd p1,kCd p2,kCd v0,kCd v1,kCd v2⟩ (λhHeld=>?_);refine skP 0 ?_;refine skP 1 ?_;refine tkP 2 ?_;simp only[zA,Act.put];refine skP 3 ?_;refine skP 4 ?_;refine tkP 5 ?_;simp only[zA,Act.put];refine skP 6 ?_;refine tkP 7 ?_;refine skP 8 ?_;simp only[zA,Act.put];refine skP 9 ?_;refine skP 10 ?_;refine tkP 11 ?_;simp only[zA,Act.put];refine skP 12 ?_;refine tkP 13 ?_;simp only[zA,Act.put];refine rdP 14 (λK hK=>?_);go_simp
       go_at_call 77
       refine(CM.out _ (Below.drew (Below.refl _ _))).mono ?_;rintro e w6 ⟨s6,x6,n6,c6,f6,y6,m6,d6,g6,rfl,hb6,hq6⟩
       (try go_wp2_with fail)
       have yy0:=kCb hb6 (hHeld.1);have yy1:=kCb hb6 (hHeld.2.1);have yy2:=kCb hb6 (hHeld.2.2.1);have yy3:=kCb hb6 (hHeld.2.2.2.1);have yy4:=kCb hb6 (hHeld.2.2.2.2.1);have yy5:=kCb hb6 (hHeld.2.2.2.2.2.1);have yy6:=kCb hb6 (hHeld.2.2.2.2.2.2.1);have yy7:=kCb hb6 (hHeld.2.2.2.2.2.2.2.1);have yy8:=kCb hb6 (hHeld.2.2.2.2.2.2.2.2.1);have yy9:=kCb hb6 (hHeld.2.2.2.2.2.2.2.2.2);refine hK.out _ _ (λ_=>⟨yy0,yy1,yy2,yy3,yy4,yy5,yy6,yy7,yy8,yy9⟩) (λhS6=>?_);clear hK K hS6;try simp only[zA,Act.put]
       have Bd6:=(Below.drew (Below.refl w5.heap.size w5)).trans (hb6.mono (le_refl _));refine rdP 15 (λK hK=>?_);go_simp
       go_at_call 76
       refine(CA.out w6 s6 x6 n6 c6 f6 y6 m6 d6 g6 Bd6 hq6.out).mono ?_;rintro e w7 ⟨s7,x7,n7,c7,f7,y7,m7,d7,g7,rfl,hb7,hq7⟩
       (try go_wp2_with fail)
       have uu0:=kCb hb7 yy0;have uu1:=kCb hb7 yy1;have uu2:=kCb hb7 yy2;have uu3:=kCb hb7 yy3;have uu4:=kCb hb7 yy4;have uu5:=kCb hb7 yy5;have uu6:=kCb hb7 yy6;have uu7:=kCb hb7 yy7;have uu8:=kCb hb7 yy8;have uu9:=kCb hb7 yy9;refine hK.out _ _ (λ_=>⟨uu0,uu1,uu2,uu3,uu4,uu5,uu6,uu7,uu8,uu9⟩) (λhS7=>?_);clear hK K hS7;try simp only[zA,Act.put]
       have Bd7:=bUp Bd6 hb7;have hk7:=HK.out.q_ Bd7;obtain⟨R1a,R2a⟩:=zsq (j:=zn) (Q':=rdQ cs rs ys i yq (v.ts.take (p+1))) hk7 (HQR.out.q_ Bd7) hzn hq7.out (λj' h2=>by rw[HST.out j',if_neg (λe=>h2 e.symm)]);have HB7:=zk (zoh (o:=zn*3) (u0:=.bool s7) (u1:=slice x7 n7 c7) (u2:=slice y7 m7 d7) (bUp HB.out Bd7) hge);have tf2:=hk7.fz;have HR1:=zk R1a;have HR2:=zk R2a
       clear R1a R2a hq7 hq6 hk7 Bd7 Bd6 hb6 hb7 HK HQR HB R0 R1 R2 CM CA HL2 HST yy0 yy1 yy2 yy3 yy4 yy5 yy6 yy7 yy8 yy9 hHeld a0 a1 a2 a3 p0 p1 p2 v0 v1 v2;refine rdP 16 (λK hK=>?_);go_simp;refine hK.out _ _ (λ_=>⟨uu0,uu1,uu2,uu3,uu4,uu5,uu6,uu7,uu8,uu9⟩) (λhS9=>?_);clear hK K hS9;try simp only[zA,Act.put]
       refine rdP 17 (λK hK=>?_);go_simp;refine hK.out _ _ (λh=>by cases h) (λ_=>?_);clear hK K;try simp only[zA,Act.put]
       refine dnP ?_;clear uu0 uu1 uu2 uu3 uu4 uu5 uu6 uu7 uu8 uu9 tf2;go_wp2;go_roundw
       case rel=>exact⟨p+1,by omega,by go_num,HB7.out,λ_=>⟨BZ,rfl,hge,HR1.out,HR2.out⟩⟩
       case measure=>simp[intOf];omega
      ·have e1:p=v.ts.length:=by omega
       have i4':¬(((p:Nat):Int)<((v.ts.length:Nat):Int)):=by omega
       have HZ3:Hid (Zl wr w0.heap.size (2*KZ L) aw cs.length (roQ cs rs ys (i+1))):=by
        have h1:=HZ.out;rw[e1,List.take_length,HRW.out]at h1
        exact h1
       clear HZ e1 HRW;go_wp2;go_roundw
       case rel=>exact⟨i+1,by omega,by go_num,HB.out,HZ3.out⟩
       case measure=>simp[intOf];omega
    ·have e1:i=rs.length:=by omega
     have i4':¬(((i:Nat):Int)<((rs.length:Nat):Int)):=by omega
     have HF:Hid (Rqs (2*KZ L) wr aw (zaB rs ys 0 cs)):=HZ.out.rqs (zaX rs ys cs 0) (λj q hj=>by rw[e1];exact zoX hk hj);have HO:Hid (0<cs.length->∃B,aw=some ⟨B,0,none⟩/\w.heap.size<=B):=λh=>by obtain⟨B,h1,h2,_⟩:=HZ.out h;exact⟨B,h1,le_trans HB0.out.size h2⟩
     clear HZ e1;go_wp2;go_ret;exact⟨aw,cw,rfl,bUp HB0.out HB.out,HCW.out,HF,HO⟩
theorem zri {w L M off cs rs ay k cap ys} (h:MqV (2*L) w M off cs rs) (hy:Rqs (2*L) w ay ys) (hk:ys.length=k) (hkr:k=rs.length) (hm:MvP cs rs) (hts:∀v ∈ rs,tsB cs.length (-1) v.ts=true) (hL:L<=60) :
  Calls prog 42 #[M.val,slice ay k cap] w λe w'=>zjL (2*KZ L) w w' e cs.length (zaB rs ys 0 cs) :=
 (zph h hy hk hkr hm hts hL).mono λ_ _ ⟨aw,cw,h1,h2,h3,h4,_⟩=>⟨aw,cw,h1,h2,h3,h4⟩
def ShK (K k:Nat) (X:Nat->Nm):Prop:=k<=300/\∀j,j<k->(X j).n<=K/\(X j).m<=K
theorem zpH {K k X} (h:lgL K k X=true):ShK K k X:=by
 simp only[lgL,Bool.and_eq_true,decide_eq_true_eq]at h;exact⟨h.1,λj hj=>zgV h.2 j (by omega) (by omega)⟩
def TmK (K:Nat) (w:World) (M M':Mo):Prop:=Sm M M'/\MoW w M'/\MoX w M'/\(M'.ck<=64->M'.rk<=64->MoK K M')
theorem TmK.q_ {K w w' M M'} (h:TmK K w M M') (hb:Bl w w'):TmK K w' M M':=⟨h.1,h.2.1.q_ hb,h.2.2.1.q_ hb,h.2.2.2⟩
theorem TmK.valL {K w M M'} (L:Nat) (hL:K<=L) (hK:K<=100) (h:TmK K w M M') (hN:MoN M) (he:zaw M=0):MoV L w M' (nq M.off) (zbj M) (zbq M)/\zbl (zbj M) (zbq M)=true:=by
 obtain⟨s,hw,hx,hk⟩:=h;have he':zaw M'=0:=s.chk.trans he;obtain⟨l1,l2,_⟩:=zhq he';have k6:=hk l1 l2;have:=(hx.mor (s.mon hN) k6 (by omega) l1 l2).movC (k6.up hL) he';rw[s.csOf,s.rsOf,s.off.nq]at this
 exact this
theorem Tx.valK {K w ao k X X'} (h:Tx w ao k X X') (hs:ShK K k X) (ha:afB k X=true):Rf K w ao (zbh k X):=by
 rw[<-zgR h.2];refine h.1.rfC ?_ (λj hj=>by rw[(h.2 j hj).2.1,(h.2 j hj).2.2.2.1];exact hs.2 j hj);exact(zfJ (λj _ b=>h.2 j (by omega))).trans ha
theorem znd {K w ao k X X' M M'} (h:TmK K w M M') (hx:Tx w ao k X X'):zcB M' k X'=zcB M k X:=by
 unfold zcB;rw[h.1.chk,h.1.ck];unfold pnE;rw[show afB k X'=afB k X from zfJ (λj _ b=>hx.2 j (by omega))]
theorem zqS {K w ao k X X' M M'} (L:Nat) (hL:K<=L) (hK:K<=100) (h:TmK K w M M') (hN:MoN M) (hx:Tx w ao k X X') (hs:ShK K k X) (he:zcB M k X=0):MoV L w M' (nq M.off) (zbj M) (zbq M)/\zbl (zbj M) (zbq M)=true/\Rf L w ao (zbh k X)/\(zbh k X).length=k/\k=(zbj M).length:=by
 obtain⟨h1,h2,h3⟩:=znc he;obtain⟨a,b⟩:=h.valL L hL hK hN h1;exact⟨a,b,(hx.valK hs h2).mono hL,zcA _ _,by rw[znW];exact h3⟩
theorem zlk {K w M} (hX:MoX w M) (hN:MoN M) (hk:M.ck<=64->M.rk<=64->MoK K M) (hK:K<=100):Calls prog 7 #[M.val] w λe w'=>∃(vm:Value) (M':Mo),e=returned vm/\Bl w w'/\Hid (vm=M'.val/\TmK K w' M M') :=
 (zqQ (K:=K) hX hN hk (by omega)).mono λe w' ⟨M',h1,h2,h3,h4,h5,h6⟩=>⟨M'.val,M',h1,h2,zk ⟨rfl,h3,h4,h5,h6⟩⟩
theorem zdJ {t t'} (h:Sn t t'):nq t'=nq t:=by
 obtain⟨h1,h2,h3,h4,h5⟩:=h;unfold nq;rw[h1,h2,h3,h4,h5]
theorem Sm.crl {M M':Mo} (h:Sm M M'):crl (ccB M'.C) M'.ck=crl (ccB M.C) M.ck/\crl (rcB M'.R) M'.rk=crl (rcB M.R) M.rk:=by
 refine⟨?_,?_⟩
 ·rw[zcc (B':=ccB M.C) (λj hj=>?_),h.ck];rw[h.ck]at hj
  have p:=h.C j hj;unfold ccB zlY;rw[p.li,p.hi,zdJ p.lo,zdJ p.hv]
 ·rw[zcc (B':=rcB M.R) (λj hj=>?_),h.rk];rw[h.rk]at hj
  have p:=h.R j hj;unfold rcB zlY;rw[p.li,p.hi,zdJ p.lo,zdJ p.hv]
structure In8 (w:World) (M:Mo):Prop where
 x:MoX w M
 n:MoN M
 c:MoC M
 k:M.ck<=64->M.rk<=64->MoK 8 M
theorem In8.q_ {w w' M} (h:In8 w M) (hb:Bl w w'):In8 w' M:=⟨h.x.q_ hb,h.n,h.c,h.k⟩
theorem In8.val {w M} (h:In8 w M) (he:zaw M=0):MoV 8 w M (nq M.off) (zbj M) (zbq M)/\zbl (zbj M) (zbq M)=true:=by
 obtain⟨l1,l2,_⟩:=zhq he;exact(h.x.mor h.n (h.k l1 l2) (by decide) l1 l2).movC (h.k l1 l2) he
theorem zeR (a b:Int):lsf (two a b) 2=lstep a b:=by
 simp[lsf,two,lstep]
theorem znw (e:Int):lstep (lstep e 3) 7=lstep e 3:=by
 unfold lstep;split <;> split <;> omega
theorem znL {w ao k cap X} (hx:Rl w ao k X) (hs:ShK 8 k X) (ha:afB k X=true):Calls prog 44 #[slice ao k cap] w λe w'=>∃aw cw,e=returned (slice aw k cw)/\Bl w w'/\Hid (Rqs (2*8) w' aw (zbh k X)) :=
 (zpO (L:=8) (p:=zbh k X) hx (by have:=hs.1;omega) (by decide) (zcA _ _) (λj hj=>by
  obtain⟨b,o,_,_,hn⟩:=hx j hj;exact⟨nq (X j),zdU hj,NmS.val (K:=8) hn (zhw ha j (by omega) (by omega)) (hs.2 j hj)⟩)).mono (by
   rintro e w' ⟨aw,cw,rfl,h1,_,h3⟩;exact⟨aw,cw,rfl,h1,zk h3.out⟩)
theorem zpP {w M} (h:In8 w M) (he:zaw M=0):Calls prog 43 #[M.val] w λe w'=>∃M':Mo,e=returned M'.val/\Bl w w'/\Hid (MqV (2*8) w' M' (nq M.off) (zbj M) (zbq M)) :=
 (zpy (h.val he).1 (by decide) (h.val he).2).mono (by
  rintro e w' ⟨M',h1,h2,h3⟩;exact⟨M',h1,h2,zk h3⟩)
theorem zeM {w z} (h0:-1000<=z) (h1:z<=1000):Calls prog 21 #[.int .i64 z] w λe w'=>∃v,e=returned v/\Bl w w'/\GX 8 0 (z:Rat) v w':=by
 have HB:=zk (zB w (cells #[.int .i64 0,.bool false,slice none 0 0,slice none 0 0] 40));have BR:=zk (zF w [.int .i64 0,.bool false,slice none 0 0,slice none 0 0] 40);go_enter func21,ntmps21;go_wp2_with fail
 generalize w.alloc (cells #[.int .i64 0,.bool false,slice none 0 0,slice none 0 0] 40)=w0 at *;refine(zaF (z:=z) (by omega) (by omega)).mono ?_;rintro e w1 ⟨s,x,n,c,f,y,m,d,g,rfl,hb,hr⟩;replace HB:=zJ HB hb;replace BR:=zk (BR.out.q_ hb)
 obtain⟨hx1,hx2,hx3⟩:=zgF [.int .i64 0,.bool s,slice x n c,slice y m d] BR.out (zaa (λu hu q=>by simp at hu;rcases hu with rfl|rfl|rfl|rfl <;> simp)) HB.out (le_refl _);obtain⟨l0,l1,l2,l3⟩:=bk4 BR.out;have ff:=BR.out.frozen;have HX:Hid (Bl w (stl w.heap.size 0 [.int .i64 0,.bool s,slice x n c,slice y m d] w1)/\GX 8 0 (z:Rat) (agg #[.int .i64 0,.bool s,slice x n c,slice y m d]) (stl w.heap.size 0 [.int .i64 0,.bool s,slice x n c,slice y m d] w1)):=⟨hx1,⟨0,⟨s,x,n,c,f,y,m,d,g⟩⟩,rfl,rfl,(Rn.kp hr hx2).mono (by decide)⟩;clear hx1 hx2 hx3 hb hr HB;go_wp2;exact bodyPost_ret (v:=agg #[.int .i64 0,.bool s,slice x n c,slice y m d]) (by simp[results,results21,go_sem,l0,l1,l2,l3]) rfl ⟨_,rfl,HX.out⟩
theorem zkT {w z}:Calls prog 47 #[.string z] w λe w'=>∃v,e=returned v/\Bl w w'/\GC 8 ⟨z,-1,0,0,0,4⟩ v w':=by
 have HB:=zk (zB w (cells #[.string ⟨#[]⟩,.bool false,slice none 0 0,slice none 0 0,.int .i64 0,.bool false,slice none 0 0,slice none 0 0,.int .i64 0,.bool false,slice none 0 0,slice none 0 0] 60));have O0:Hid (Bk (w.alloc (cells #[.string ⟨#[]⟩,.bool false,slice none 0 0,slice none 0 0,.int .i64 0,.bool false,slice none 0 0,slice none 0 0,.int .i64 0,.bool false,slice none 0 0,slice none 0 0] 60)) w.heap.size [.string ⟨#[]⟩,.bool false,slice none 0 0,slice none 0 0,.int .i64 0,.bool false,slice none 0 0,slice none 0 0,.int .i64 0,.bool false,slice none 0 0,slice none 0 0] 60):=zF w [.string ⟨#[]⟩,.bool false,slice none 0 0,slice none 0 0,.int .i64 0,.bool false,slice none 0 0,slice none 0 0,.int .i64 0,.bool false,slice none 0 0,slice none 0 0] 60;go_enter func47,ntmps47;go_wp2_with fail
 generalize w.alloc (cells #[.string ⟨#[]⟩,.bool false,slice none 0 0,slice none 0 0,.int .i64 0,.bool false,slice none 0 0,slice none 0 0,.int .i64 0,.bool false,slice none 0 0,slice none 0 0] 60)=w0 at *;refine(zaF (z:=(-1)) (by decide) (by decide)).mono ?_;rintro e w1 ⟨s1,x1,n1,c1,f1,y1,m1,d1,g1,rfl,hb,hr⟩;replace HB:=zJ HB hb;replace O0:=zk (O0.out.q_ hb)
 have R1:=zk (hr.mono (show 4<=8 by decide));clear hb hr;go_wp2_with fail
 refine(zeM (z:=0) (by decide) (by decide)).mono ?_;rintro e w2 ⟨v2,rfl,hb,⟨⟨i2,⟨s2,x2,n2,c2,f2,y2,m2,d2,g2⟩⟩,ev,hi2,hv⟩⟩;replace ev:v2=agg #[.int .i64 i2,.bool s2,slice x2 n2 c2,slice y2 m2 d2]:=ev;subst ev;replace HB:=zJ HB hb;replace O0:=zk (O0.out.q_ hb);replace R1:=zk (R1.out.q_ hb)
 replace hi2:i2=0:=hi2;subst hi2;have R2:=zk (show Rn 8 w2 s2 x2 n2 c2 f2 y2 m2 d2 g2 (0:Int)from hv);clear hb hv;go_wp2_with fail
 refine(zeM (z:=4) (by decide) (by decide)).mono ?_;rintro e w3 ⟨v3,rfl,hb,⟨⟨i3,⟨s3,x3,n3,c3,f3,y3,m3,d3,g3⟩⟩,ev,hi3,hv⟩⟩;replace ev:v3=agg #[.int .i64 i3,.bool s3,slice x3 n3 c3,slice y3 m3 d3]:=ev;subst ev;replace HB:=zJ HB hb;replace O0:=zk (O0.out.q_ hb);replace R1:=zk (R1.out.q_ hb);replace R2:=zk (R2.out.q_ hb)
 replace hi3:i3=0:=hi3;subst hi3;have R3:=zk (show Rn 8 w3 s3 x3 n3 c3 f3 y3 m3 d3 g3 (4:Int)from hv);clear hb hv;obtain⟨hx1,hx2,hx3⟩:=zgF [.string z,.bool s1,slice x1 n1 c1,slice y1 m1 d1,.int .i64 0,.bool s2,slice x2 n2 c2,slice y2 m2 d2,.int .i64 0,.bool s3,slice x3 n3 c3,slice y3 m3 d3] O0.out (zaa (λu hu q=>by simp at hu;rcases hu with rfl|rfl|rfl|rfl|rfl|rfl|rfl|rfl|rfl <;> simp)) HB.out (le_refl _);obtain⟨l0,l1,l2,l3,l4,l5,l6,l7,l8,l9,l10,l11⟩:=zeg O0.out;have ff:=O0.out.frozen;have HX:Hid (Bl w (stl w.heap.size 0 [.string z,.bool s1,slice x1 n1 c1,slice y1 m1 d1,.int .i64 0,.bool s2,slice x2 n2 c2,slice y2 m2 d2,.int .i64 0,.bool s3,slice x3 n3 c3,slice y3 m3 d3] w3)/\GC 8 ⟨z,-1,0,0,0,4⟩ (agg #[.string z,.bool s1,slice x1 n1 c1,slice y1 m1 d1,.int .i64 0,.bool s2,slice x2 n2 c2,slice y2 m2 d2,.int .i64 0,.bool s3,slice x3 n3 c3,slice y3 m3 d3]) (stl w.heap.size 0 [.string z,.bool s1,slice x1 n1 c1,slice y1 m1 d1,.int .i64 0,.bool s2,slice x2 n2 c2,slice y2 m2 d2,.int .i64 0,.bool s3,slice x3 n3 c3,slice y3 m3 d3] w3)):=⟨hx1,⟨⟨z,⟨s1,x1,n1,c1,f1,y1,m1,d1,g1⟩,⟨0,⟨s2,x2,n2,c2,f2,y2,m2,d2,g2⟩⟩,⟨0,⟨s3,x3,n3,c3,f3,y3,m3,d3,g3⟩⟩⟩,rfl,rfl,Rn.kp R1.out hx2,rfl,Rn.kp R2.out hx2,rfl,Rn.kp R3.out hx2⟩⟩;clear hx1 hx2 hx3 HB O0;go_wp2;exact bodyPost_ret (v:=agg #[.string z,.bool s1,slice x1 n1 c1,slice y1 m1 d1,.int .i64 0,.bool s2,slice x2 n2 c2,slice y2 m2 d2,.int .i64 0,.bool s3,slice x3 n3 c3,slice y3 m3 d3]) (by simp[results,results47,go_sem,l0,l1,l2,l3,l4,l5,l6,l7,l8,l9,l10,l11]) rfl ⟨_,rfl,HX.out⟩
theorem zhX:Lo 4 (((-1:Int):Rat)/2):=⟨by decide +kernel,by decide +kernel⟩
theorem zcH {w} {z:Int} (h0:-1000<=z) (h1:z<=1000) (hl:Lo 4 ((z:Rat)/2)):Calls prog 18 #[.int .i64 z] w λe w'=>∃s x n c f y m d g,e=returned (agg #[.bool s,slice x n c,slice y m d])/\Bl w w'/\Hid (Rn 4 w' s x n c f y m d g ((z:Rat)/2)):=by
 have HB:=zk (zB w (cells #[.bool false,slice none 0 0,slice none 0 0] 24));have O0:=zk (zF w [.bool false,slice none 0 0,slice none 0 0] 24);go_enter func18,ntmps18;go_wp2_with fail
 generalize w.alloc (cells #[.bool false,slice none 0 0,slice none 0 0] 24)=w0 at *;refine(zfj (z:=z) (by omega) (by omega)).mono ?_;rintro e w1 ⟨s1,x1,n1,c1,d1,y1,m1,e1,g1,rfl,hb,hn1,hm1,hq⟩;replace HB:=zJ HB hb;replace O0:=zk (O0.out.q_ hb)
 have Q1:=zk hq;clear hb hq;go_wp2_with fail
 refine(zfj (z:=2) (by decide) (by decide)).mono ?_;rintro e w2 ⟨s2,x2,n2,c2,d2,y2,m2,e2,g2,rfl,hb,hn2,hm2,hq⟩;replace HB:=zJ HB hb;replace O0:=zk (O0.out.q_ hb);replace Q1:=zk (Q1.out.q_ hb)
 have Q2:=zk hq;clear hb hq;go_wp2_with fail
 refine(zro Q1.out Q2.out (by omega) (by omega) (by omega) (by omega) (by decide)).mono ?_;rintro e w3 ⟨s3,x3,n3,c3,d3,y3,m3,e3,g3,rfl,hb,hn3,hm3,hq⟩;replace HB:=zJ HB hb;replace O0:=zk (O0.out.q_ hb);replace Q1:=zk (Q1.out.q_ hb);replace Q2:=zk (Q2.out.q_ hb)
 have Q3:=zk hq;clear hb hq;go_wp2_with fail
 refine(zgN Q3.out (by omega) (by omega)).mono ?_;rintro e w4 ⟨z4,k4,t4,f4,v4,l4,u4,g4,rfl,hb,hr⟩;replace HB:=zJ HB hb;replace O0:=zk (O0.out.q_ hb);replace Q1:=zk (Q1.out.q_ hb);replace Q2:=zk (Q2.out.q_ hb);replace Q3:=zk (Q3.out.q_ hb)
 have R4:=zk (hr.out.cut (show Lo 4 ((z:Rat)/((2:Int):Rat))from hl));clear hb hr Q1 Q2 Q3;obtain⟨hx1,hx2,hx3⟩:=zgF [.bool s3,slice z4 k4 t4,slice v4 l4 u4] O0.out (zaa (λu hu q=>by simp at hu;rcases hu with rfl|rfl <;> simp)) HB.out (le_refl _);obtain⟨l0,l1,l2⟩:=bk3 O0.out;have ff:=O0.out.frozen;have HX:Hid (Bl w (stl w.heap.size 0 [.bool s3,slice z4 k4 t4,slice v4 l4 u4] w4)/\Hid (Rn 4 (stl w.heap.size 0 [.bool s3,slice z4 k4 t4,slice v4 l4 u4] w4) s3 z4 k4 t4 f4 v4 l4 u4 g4 ((z:Rat)/2))):=⟨hx1,zk (Rn.kp R4.out hx2)⟩;clear hx1 hx2 hx3 HB O0;go_wp2;exact bodyPost_ret (v:=agg #[.bool s3,slice z4 k4 t4,slice v4 l4 u4]) (by simp[results,results18,go_sem,l0,l1,l2]) rfl ⟨_,_,_,_,_,_,_,_,_,rfl,HX.out⟩
theorem zrw {w B o s x1 x2 x3 n1 n2 n3 c1 c2 c3 t} (h:Bk w B [slice x1 n1 c1,slice x2 n2 c2,slice x3 n3 c3] t):w.cell? ⟨B,o,none⟩≠some (.bool s):=λe=>by
 unfold Bk at h;simp only[World.cell?,h]at e
 match o,e with
 | 0,e=>simp at e
 | 1,e=>simp at e
 | 2,e=>simp at e
 | o+3,e=>simp at e
theorem Rf.kpo {L w w' ao B p} (h:Rf L w ao p) (hk:Kp w w') (hne:∀k,k≠B->w'.heap[k]?=w.heap[k]?) (hno:∀o s,w.cell? ⟨B,o,none⟩≠some (.bool s)):Rf L w' ao p:=λj q e=>by
 obtain⟨b,o,t,h1,h2,h3⟩:=h j q e;have hb:b≠B:=λe'=>by subst e';exact hno _ _ h2.x0
 have hc:∀i,w'.cell? ⟨b,i,none⟩=w.cell? ⟨b,i,none⟩:=λi=>by simp only[World.cell?,hne b hb]
 exact⟨b,o,t,h1,⟨(hc _).trans h2.x0,(hc _).trans h2.x1,(hc _).trans h2.x2⟩,Rn.kp h3 hk⟩
theorem best11_c {w}:Calls prog 19 #[] w λe w'=>∃a b c,e=returned (agg #[slice a 2 2,slice b 1 1,slice c 2 2])/\Bl w w'/\Hid (Rf 8 w' a [((4:Int):Rat),((1:Int):Rat)]/\Rf 8 w' b [((-1:Int):Rat)/2]/\Rf 8 w' c [((-1:Int):Rat)/2,((0:Int):Rat)]):=by
 have HB:=zk (zB w (cells #[slice none 0 0,slice none 0 0,slice none 0 0] 46));have O0:=zk (zF w [slice none 0 0,slice none 0 0,slice none 0 0] 46);go_enter func19,ntmps19;go_wp2_with fail
 generalize w.alloc (cells #[slice none 0 0,slice none 0 0,slice none 0 0] 46)=w0 at *;refine(zaF (z:=4) (by decide) (by decide)).mono ?_;rintro e w1 ⟨s1,x1,n1,c1,f1,y1,m1,d1,g1,rfl,hb,hr⟩;replace HB:=zJ HB hb;replace O0:=zk (O0.out.q_ hb)
 have R1:=zk (hr.mono (show 4<=8 by decide));clear hb hr;go_wp2_with fail
 refine(zaF (z:=1) (by decide) (by decide)).mono ?_;rintro e w2 ⟨s2,x2,n2,c2,f2,y2,m2,d2,g2,rfl,hb,hr⟩;replace HB:=zJ HB hb;replace O0:=zk (O0.out.q_ hb);replace R1:=zk (R1.out.q_ hb)
 have R2:=zk (hr.mono (show 4<=8 by decide));clear hb hr;have hn:=zB w2 (cells #[.bool s1,slice x1 n1 c1,slice y1 m1 d1,.bool s2,slice x2 n2 c2,slice y2 m2 d2] 24);have X1:=zk (show Rf 8 (w2.alloc (cells #[.bool s1,slice x1 n1 c1,slice y1 m1 d1,.bool s2,slice x2 n2 c2,slice y2 m2 d2] 24)) (some ⟨w2.heap.size,0,none⟩) [((4:Int):Rat),((1:Int):Rat)]from zmL (R1.out.mono (by decide)) (R2.out.mono (by decide)));replace HB:=zJ HB hn;replace O0:=zk (O0.out.q_ hn);replace R1:=zk (R1.out.q_ hn);replace R2:=zk (R2.out.q_ hn)
 clear hn;go_wp2_with fail
 generalize w2.alloc (cells #[.bool s1,slice x1 n1 c1,slice y1 m1 d1,.bool s2,slice x2 n2 c2,slice y2 m2 d2] 24)=vX1 at *;generalize w2.heap.size=pX1 at *;refine(zcH (z:=(-1)) (by decide) (by decide) zhX).mono ?_;rintro e w3 ⟨s3,x3,n3,c3,f3,y3,m3,d3,g3,rfl,hb,hr⟩;replace HB:=zJ HB hb;replace O0:=zk (O0.out.q_ hb);replace R1:=zk (R1.out.q_ hb);replace R2:=zk (R2.out.q_ hb);replace X1:=zk (X1.out.q_ hb)
 have R3:=zk hr.out;clear hb hr;have hn:=zB w3 (cells #[.bool s3,slice x3 n3 c3,slice y3 m3 d3] 24);have X2:=zk (show Rf 8 (w3.alloc (cells #[.bool s3,slice x3 n3 c3,slice y3 m3 d3] 24)) (some ⟨w3.heap.size,0,none⟩) [((-1:Int):Rat)/2]from(zhd (base:=0) (R3.out.mono (by decide)) (Nat.zero_le _)).rf);replace HB:=zJ HB hn;replace O0:=zk (O0.out.q_ hn);replace R1:=zk (R1.out.q_ hn);replace R2:=zk (R2.out.q_ hn);replace X1:=zk (X1.out.q_ hn);replace R3:=zk (R3.out.q_ hn)
 clear hn;go_wp2_with fail
 generalize w3.alloc (cells #[.bool s3,slice x3 n3 c3,slice y3 m3 d3] 24)=vX2 at *;generalize w3.heap.size=pX2 at *;refine(zcH (z:=(-1)) (by decide) (by decide) zhX).mono ?_;rintro e w4 ⟨s4,x4,n4,c4,f4,y4,m4,d4,g4,rfl,hb,hr⟩;replace HB:=zJ HB hb;replace O0:=zk (O0.out.q_ hb);replace R1:=zk (R1.out.q_ hb);replace R2:=zk (R2.out.q_ hb);replace X1:=zk (X1.out.q_ hb);replace R3:=zk (R3.out.q_ hb);replace X2:=zk (X2.out.q_ hb)
 have R4:=zk hr.out;clear hb hr;go_wp2_with fail
 refine(zaF (z:=0) (by decide) (by decide)).mono ?_;rintro e w5 ⟨s5,x5,n5,c5,f5,y5,m5,d5,g5,rfl,hb,hr⟩;replace HB:=zJ HB hb;replace O0:=zk (O0.out.q_ hb);replace R1:=zk (R1.out.q_ hb);replace R2:=zk (R2.out.q_ hb);replace X1:=zk (X1.out.q_ hb);replace R3:=zk (R3.out.q_ hb);replace X2:=zk (X2.out.q_ hb);replace R4:=zk (R4.out.q_ hb)
 have R5:=zk (hr.mono (show 4<=8 by decide));clear hb hr;have hn:=zB w5 (cells #[.bool s4,slice x4 n4 c4,slice y4 m4 d4,.bool s5,slice x5 n5 c5,slice y5 m5 d5] 24);have X3:=zk (show Rf 8 (w5.alloc (cells #[.bool s4,slice x4 n4 c4,slice y4 m4 d4,.bool s5,slice x5 n5 c5,slice y5 m5 d5] 24)) (some ⟨w5.heap.size,0,none⟩) [((-1:Int):Rat)/2,((0:Int):Rat)]from zmL (R4.out.mono (by decide)) (R5.out.mono (by decide)));replace HB:=zJ HB hn;replace O0:=zk (O0.out.q_ hn);replace R1:=zk (R1.out.q_ hn);replace R2:=zk (R2.out.q_ hn);replace X1:=zk (X1.out.q_ hn);replace R3:=zk (R3.out.q_ hn);replace X2:=zk (X2.out.q_ hn);replace R4:=zk (R4.out.q_ hn);replace R5:=zk (R5.out.q_ hn)
 clear hn R1 R2 R3 R4 R5;obtain⟨hx1,hx2,hx3⟩:=zgF [slice (some ⟨pX1,0,none⟩) 2 2,slice (some ⟨pX2,0,none⟩) 1 1,slice (some ⟨w5.heap.size,0,none⟩) 2 2] O0.out (zaa (λu hu q=>by simp at hu;subst hu;simp)) HB.out (le_refl _);obtain⟨l0,l1,l2⟩:=bk3 O0.out;have ff:=O0.out.frozen;have HX:Hid (Bl w (stl w.heap.size 0 [slice (some ⟨pX1,0,none⟩) 2 2,slice (some ⟨pX2,0,none⟩) 1 1,slice (some ⟨w5.heap.size,0,none⟩) 2 2] (w5.alloc (cells #[.bool s4,slice x4 n4 c4,slice y4 m4 d4,.bool s5,slice x5 n5 c5,slice y5 m5 d5] 24)))/\Hid (Rf 8 (stl w.heap.size 0 [slice (some ⟨pX1,0,none⟩) 2 2,slice (some ⟨pX2,0,none⟩) 1 1,slice (some ⟨w5.heap.size,0,none⟩) 2 2] (w5.alloc (cells #[.bool s4,slice x4 n4 c4,slice y4 m4 d4,.bool s5,slice x5 n5 c5,slice y5 m5 d5] 24))) (some ⟨pX1,0,none⟩) [((4:Int):Rat),((1:Int):Rat)]/\Rf 8 (stl w.heap.size 0 [slice (some ⟨pX1,0,none⟩) 2 2,slice (some ⟨pX2,0,none⟩) 1 1,slice (some ⟨w5.heap.size,0,none⟩) 2 2] (w5.alloc (cells #[.bool s4,slice x4 n4 c4,slice y4 m4 d4,.bool s5,slice x5 n5 c5,slice y5 m5 d5] 24))) (some ⟨pX2,0,none⟩) [((-1:Int):Rat)/2]/\Rf 8 (stl w.heap.size 0 [slice (some ⟨pX1,0,none⟩) 2 2,slice (some ⟨pX2,0,none⟩) 1 1,slice (some ⟨w5.heap.size,0,none⟩) 2 2] (w5.alloc (cells #[.bool s4,slice x4 n4 c4,slice y4 m4 d4,.bool s5,slice x5 n5 c5,slice y5 m5 d5] 24))) (some ⟨w5.heap.size,0,none⟩) [((-1:Int):Rat)/2,((0:Int):Rat)])):=⟨hx1,zk ⟨X1.out.kpo hx2 hx3 (λo s=>zrw O0.out),X2.out.kpo hx2 hx3 (λo s=>zrw O0.out),X3.out.kpo hx2 hx3 (λo s=>zrw O0.out)⟩⟩;clear hx1 hx2 hx3 HB O0;go_wp2;exact bodyPost_ret (v:=agg #[slice (some ⟨pX1,0,none⟩) 2 2,slice (some ⟨pX2,0,none⟩) 1 1,slice (some ⟨w5.heap.size,0,none⟩) 2 2]) (by simp[results,results19,go_sem,l0,l1,l2]) rfl ⟨_,_,_,rfl,HX.out⟩
def k2C:List CV:=[⟨⟨#[120]⟩,-1,0,0,0,4⟩,⟨⟨#[121]⟩,-1,0,0,0,4⟩]
def k2R:List RV:=[⟨⟨#[114]⟩,-1,0,0,6,[(0,1),(1,2)]⟩]
theorem first11_c {w}:Calls prog 17 #[] w λe w'=>∃M:Mo,e=returned M.val/\Bl w w'/\Hid (MoV 8 w' M 3 k2C k2R):=by
 have HB:=zk (zB w (cells #[.bool false,slice none 0 0,slice none 0 0,slice none 0 0,slice none 0 0] 28));have O0:=zk (zF w [.bool false,slice none 0 0,slice none 0 0,slice none 0 0,slice none 0 0] 28);go_enter func17,ntmps17;go_wp2_with fail
 generalize w.alloc (cells #[.bool false,slice none 0 0,slice none 0 0,slice none 0 0,slice none 0 0] 28)=w0 at *;refine(zaF (z:=3) (by decide) (by decide)).mono ?_;rintro e w1 ⟨s1,x1,n1,c1,f1,y1,m1,d1,g1,rfl,hb,hr⟩;replace HB:=zJ HB hb;replace O0:=zk (O0.out.q_ hb)
 have R1:=zk (hr.mono (show 4<=8 by decide));clear hb hr;go_wp2_with fail
 refine(zkT (z:=⟨#[120]⟩)).mono ?_;rintro e w2 ⟨v2,rfl,hb,⟨⟨z2,⟨sb2,xb2,nb2,cb2,fb2,yb2,mb2,db2,gb2⟩,⟨ic2,⟨sc2,xc2,nc2,cc2,fc2,yc2,mc2,dc2,gc2⟩⟩,⟨id2,⟨sd2,xd2,nd2,cd2,fd2,yd2,md2,dd2,gd2⟩⟩⟩,ev,hv⟩⟩;replace ev:v2=agg #[.string z2,.bool sb2,slice xb2 nb2 cb2,slice yb2 mb2 db2,.int .i64 ic2,.bool sc2,slice xc2 nc2 cc2,slice yc2 mc2 dc2,.int .i64 id2,.bool sd2,slice xd2 nd2 cd2,slice yd2 md2 dd2]:=ev;subst ev;replace HB:=zJ HB hb;replace O0:=zk (O0.out.q_ hb);replace R1:=zk (R1.out.q_ hb)
 have R2:=zk hv;clear hb hv;go_wp2_with fail
 refine(zkT (z:=⟨#[121]⟩)).mono ?_;rintro e w3 ⟨v3,rfl,hb,⟨⟨z3,⟨sb3,xb3,nb3,cb3,fb3,yb3,mb3,db3,gb3⟩,⟨ic3,⟨sc3,xc3,nc3,cc3,fc3,yc3,mc3,dc3,gc3⟩⟩,⟨id3,⟨sd3,xd3,nd3,cd3,fd3,yd3,md3,dd3,gd3⟩⟩⟩,ev,hv⟩⟩;replace ev:v3=agg #[.string z3,.bool sb3,slice xb3 nb3 cb3,slice yb3 mb3 db3,.int .i64 ic3,.bool sc3,slice xc3 nc3 cc3,slice yc3 mc3 dc3,.int .i64 id3,.bool sd3,slice xd3 nd3 cd3,slice yd3 md3 dd3]:=ev;subst ev;replace HB:=zJ HB hb;replace O0:=zk (O0.out.q_ hb);replace R1:=zk (R1.out.q_ hb);replace R2:=zk (R2.out.q_ hb)
 have R3:=zk hv;clear hb hv;have hn:=zB w3 (cells #[.string z2,.bool sb2,slice xb2 nb2 cb2,slice yb2 mb2 db2,.int .i64 ic2,.bool sc2,slice xc2 nc2 cc2,slice yc2 mc2 dc2,.int .i64 id2,.bool sd2,slice xd2 nd2 cd2,slice yd2 md2 dd2,.string z3,.bool sb3,slice xb3 nb3 cb3,slice yb3 mb3 db3,.int .i64 ic3,.bool sc3,slice xc3 nc3 cc3,slice yc3 mc3 dc3,.int .i64 id3,.bool sd3,slice xd3 nd3 cd3,slice yd3 md3 dd3] 60);have HC:Hid (Cs (w3.alloc (cells #[.string z2,.bool sb2,slice xb2 nb2 cb2,slice yb2 mb2 db2,.int .i64 ic2,.bool sc2,slice xc2 nc2 cc2,slice yc2 mc2 dc2,.int .i64 id2,.bool sd2,slice xd2 nd2 cd2,slice yd2 md2 dd2,.string z3,.bool sb3,slice xb3 nb3 cb3,slice yb3 mb3 db3,.int .i64 ic3,.bool sc3,slice xc3 nc3 cc3,slice yc3 mc3 dc3,.int .i64 id3,.bool sd3,slice xd3 nd3 cd3,slice yd3 md3 dd3] 60)) w3.heap.size 0 [.string z2,.bool sb2,slice xb2 nb2 cb2,slice yb2 mb2 db2,.int .i64 ic2,.bool sc2,slice xc2 nc2 cc2,slice yc2 mc2 dc2,.int .i64 id2,.bool sd2,slice xd2 nd2 cd2,slice yd2 md2 dd2]/\Cs (w3.alloc (cells #[.string z2,.bool sb2,slice xb2 nb2 cb2,slice yb2 mb2 db2,.int .i64 ic2,.bool sc2,slice xc2 nc2 cc2,slice yc2 mc2 dc2,.int .i64 id2,.bool sd2,slice xd2 nd2 cd2,slice yd2 md2 dd2,.string z3,.bool sb3,slice xb3 nb3 cb3,slice yb3 mb3 db3,.int .i64 ic3,.bool sc3,slice xc3 nc3 cc3,slice yc3 mc3 dc3,.int .i64 id3,.bool sd3,slice xd3 nd3 cd3,slice yd3 md3 dd3] 60)) w3.heap.size 12 [.string z3,.bool sb3,slice xb3 nb3 cb3,slice yb3 mb3 db3,.int .i64 ic3,.bool sc3,slice xc3 nc3 cc3,slice yc3 mc3 dc3,.int .i64 id3,.bool sd3,slice xd3 nd3 cd3,slice yd3 md3 dd3]):=znV w3 60 [.string z2,.bool sb2,slice xb2 nb2 cb2,slice yb2 mb2 db2,.int .i64 ic2,.bool sc2,slice xc2 nc2 cc2,slice yc2 mc2 dc2,.int .i64 id2,.bool sd2,slice xd2 nd2 cd2,slice yd2 md2 dd2] [.string z3,.bool sb3,slice xb3 nb3 cb3,slice yb3 mb3 db3,.int .i64 ic3,.bool sc3,slice xc3 nc3 cc3,slice yc3 mc3 dc3,.int .i64 id3,.bool sd3,slice xd3 nd3 cd3,slice yd3 md3 dd3];replace HB:=zJ HB hn;replace O0:=zk (O0.out.q_ hn);replace R1:=zk (R1.out.q_ hn);replace R2:=zk (R2.out.q_ hn);replace R3:=zk (R3.out.q_ hn)
 clear hn;go_wp2_with fail
 generalize hw8:w3.alloc (cells #[.string z2,.bool sb2,slice xb2 nb2 cb2,slice yb2 mb2 db2,.int .i64 ic2,.bool sc2,slice xc2 nc2 cc2,slice yc2 mc2 dc2,.int .i64 id2,.bool sd2,slice xd2 nd2 cd2,slice yd2 md2 dd2,.string z3,.bool sb3,slice xb3 nb3 cb3,slice yb3 mb3 db3,.int .i64 ic3,.bool sc3,slice xc3 nc3 cc3,slice yc3 mc3 dc3,.int .i64 id3,.bool sd3,slice xd3 nd3 cd3,slice yd3 md3 dd3] 60)=w4 at *;clear hw8;generalize w3.heap.size=bc at *;have HC1:=zk HC.out.1;have HC2:=zk HC.out.2
 clear HC;refine(zqD).mono ?_;rintro e w5 ⟨s5,x5,n5,c5,f5,y5,m5,d5,g5,rfl,hb,hF⟩;replace HB:=zJ HB hb;replace O0:=zk (O0.out.q_ hb);replace R1:=zk (R1.out.q_ hb);replace R2:=zk (R2.out.q_ hb);replace R3:=zk (R3.out.q_ hb);replace HC1:=zk (HC1.out.q_ hb);replace HC2:=zk (HC2.out.q_ hb)
 clear hb;go_wp2_with fail
 refine(zsc hF.out.2.2 (by have:=hF.out;omega) (by have:=hF.out;omega)).mono ?_;rintro e w6 ⟨x6,n6,c6,f6,y6,m6,d6,g6,rfl,hb,hE⟩;replace HB:=zJ HB hb;replace O0:=zk (O0.out.q_ hb);replace R1:=zk (R1.out.q_ hb);replace R2:=zk (R2.out.q_ hb);replace R3:=zk (R3.out.q_ hb);replace HC1:=zk (HC1.out.q_ hb);replace HC2:=zk (HC2.out.q_ hb)
 have R6:=zk (hE.out.rn.mono (show _<=8 by have:=hF.out;omega));clear hb hE hF;generalize s5=s6 at *;go_wp2_with fail
 refine(zeM (z:=6) (by decide) (by decide)).mono ?_;rintro e w7 ⟨v7,rfl,hb,⟨⟨i7,⟨s7,x7,n7,c7,f7,y7,m7,d7,g7⟩⟩,ev,hi7,hv⟩⟩;replace ev:v7=agg #[.int .i64 i7,.bool s7,slice x7 n7 c7,slice y7 m7 d7]:=ev;subst ev;replace HB:=zJ HB hb;replace O0:=zk (O0.out.q_ hb);replace R1:=zk (R1.out.q_ hb);replace R2:=zk (R2.out.q_ hb);replace R3:=zk (R3.out.q_ hb);replace HC1:=zk (HC1.out.q_ hb);replace HC2:=zk (HC2.out.q_ hb);replace R6:=zk (R6.out.q_ hb)
 replace hi7:i7=0:=hi7;subst hi7;have R7:=zk (show Rn 8 w7 s7 x7 n7 c7 f7 y7 m7 d7 g7 (6:Int)from hv);clear hb hv;go_wp2_with fail
 refine(zaF (z:=1) (by decide) (by decide)).mono ?_;rintro e w8 ⟨s8,x8,n8,c8,f8,y8,m8,d8,g8,rfl,hb,hr⟩;replace HB:=zJ HB hb;replace O0:=zk (O0.out.q_ hb);replace R1:=zk (R1.out.q_ hb);replace R2:=zk (R2.out.q_ hb);replace R3:=zk (R3.out.q_ hb);replace HC1:=zk (HC1.out.q_ hb);replace HC2:=zk (HC2.out.q_ hb);replace R6:=zk (R6.out.q_ hb);replace R7:=zk (R7.out.q_ hb)
 have R8:=zk (hr.mono (show 4<=8 by decide));clear hb hr;go_wp2_with fail
 refine(zaF (z:=2) (by decide) (by decide)).mono ?_;rintro e w9 ⟨s9,x9,n9,c9,f9,y9,m9,d9,g9,rfl,hb,hr⟩;replace HB:=zJ HB hb;replace O0:=zk (O0.out.q_ hb);replace R1:=zk (R1.out.q_ hb);replace R2:=zk (R2.out.q_ hb);replace R3:=zk (R3.out.q_ hb);replace HC1:=zk (HC1.out.q_ hb);replace HC2:=zk (HC2.out.q_ hb);replace R6:=zk (R6.out.q_ hb);replace R7:=zk (R7.out.q_ hb);replace R8:=zk (R8.out.q_ hb)
 have R9:=zk (hr.mono (show 4<=8 by decide));clear hb hr;have hn:=zB w9 (cells #[.int .i64 0,.bool s8,slice x8 n8 c8,slice y8 m8 d8,.int .i64 1,.bool s9,slice x9 n9 c9,slice y9 m9 d9] 65);have HT:Hid (GT [(0,⟨s8,x8,n8,c8,f8,y8,m8,d8,g8⟩),(1,⟨s9,x9,n9,c9,f9,y9,m9,d9,g9⟩)] (slice (some ⟨w9.heap.size,0,none⟩) 2 2) (w9.alloc (cells #[.int .i64 0,.bool s8,slice x8 n8 c8,slice y8 m8 d8,.int .i64 1,.bool s9,slice x9 n9 c9,slice y9 m9 d9] 65))):=zpM w9 65 0 1 ⟨s8,x8,n8,c8,f8,y8,m8,d8,g8⟩ ⟨s9,x9,n9,c9,f9,y9,m9,d9,g9⟩;replace HB:=zJ HB hn;replace O0:=zk (O0.out.q_ hn);replace R1:=zk (R1.out.q_ hn);replace R2:=zk (R2.out.q_ hn);replace R3:=zk (R3.out.q_ hn);replace HC1:=zk (HC1.out.q_ hn);replace HC2:=zk (HC2.out.q_ hn);replace R6:=zk (R6.out.q_ hn);replace R7:=zk (R7.out.q_ hn);replace R8:=zk (R8.out.q_ hn);replace R9:=zk (R9.out.q_ hn)
 clear hn;have hn:=zu (Below.refl (w9.alloc (cells #[.int .i64 0,.bool s8,slice x8 n8 c8,slice y8 m8 d8,.int .i64 1,.bool s9,slice x9 n9 c9,slice y9 m9 d9] 65)).heap.size (w9.alloc (cells #[.int .i64 0,.bool s8,slice x8 n8 c8,slice y8 m8 d8,.int .i64 1,.bool s9,slice x9 n9 c9,slice y9 m9 d9] 65))) (cells #[.string ⟨#[114]⟩,.int .i64 (-1),.bool s6,slice x6 n6 c6,slice y6 m6 d6,.int .i64 0,.bool s7,slice x7 n7 c7,slice y7 m7 d7,slice (some ⟨w9.heap.size,0,none⟩) 2 2] 63);have HRs:Hid (Cs ((w9.alloc (cells #[.int .i64 0,.bool s8,slice x8 n8 c8,slice y8 m8 d8,.int .i64 1,.bool s9,slice x9 n9 c9,slice y9 m9 d9] 65)).alloc (cells #[.string ⟨#[114]⟩,.int .i64 (-1),.bool s6,slice x6 n6 c6,slice y6 m6 d6,.int .i64 0,.bool s7,slice x7 n7 c7,slice y7 m7 d7,slice (some ⟨w9.heap.size,0,none⟩) 2 2] 63)) (w9.alloc (cells #[.int .i64 0,.bool s8,slice x8 n8 c8,slice y8 m8 d8,.int .i64 1,.bool s9,slice x9 n9 c9,slice y9 m9 d9] 65)).heap.size 0 [.string ⟨#[114]⟩,.int .i64 (-1),.bool s6,slice x6 n6 c6,slice y6 m6 d6,.int .i64 0,.bool s7,slice x7 n7 c7,slice y7 m7 d7,slice (some ⟨w9.heap.size,0,none⟩) 2 2]):=zdu (w9.alloc (cells #[.int .i64 0,.bool s8,slice x8 n8 c8,slice y8 m8 d8,.int .i64 1,.bool s9,slice x9 n9 c9,slice y9 m9 d9] 65)) 63 [.string ⟨#[114]⟩,.int .i64 (-1),.bool s6,slice x6 n6 c6,slice y6 m6 d6,.int .i64 0,.bool s7,slice x7 n7 c7,slice y7 m7 d7,slice (some ⟨w9.heap.size,0,none⟩) 2 2] [.string ⟨#[114]⟩,.int .i64 (-1),.bool s6,slice x6 n6 c6,slice y6 m6 d6,.int .i64 0,.bool s7,slice x7 n7 c7,slice y7 m7 d7,slice (some ⟨w9.heap.size,0,none⟩) 2 2] 0 (λj v e=>by rw[zero_add];exact e);replace HB:=zJ HB hn;replace O0:=zk (O0.out.q_ hn);replace R1:=zk (R1.out.q_ hn);replace R2:=zk (R2.out.q_ hn);replace R3:=zk (R3.out.q_ hn);replace HC1:=zk (HC1.out.q_ hn);replace HC2:=zk (HC2.out.q_ hn);replace R6:=zk (R6.out.q_ hn);replace R7:=zk (R7.out.q_ hn);replace R8:=zk (R8.out.q_ hn);replace R9:=zk (R9.out.q_ hn);replace HT:=zk (HT.out.q_ hn)
 clear hn;rw[zw]at HRs
 have HMo:Hid (MoV 8 ((w9.alloc (cells #[.int .i64 0,.bool s8,slice x8 n8 c8,slice y8 m8 d8,.int .i64 1,.bool s9,slice x9 n9 c9,slice y9 m9 d9] 65)).alloc (cells #[.string ⟨#[114]⟩,.int .i64 (-1),.bool s6,slice x6 n6 c6,slice y6 m6 d6,.int .i64 0,.bool s7,slice x7 n7 c7,slice y7 m7 d7,slice (some ⟨w9.heap.size,0,none⟩) 2 2] 63)) ⟨⟨s1,x1,n1,c1,f1,y1,m1,d1,g1⟩,some ⟨bc,0,none⟩,2,2,(λj=>if j=0 then ⟨z2,⟨sb2,xb2,nb2,cb2,fb2,yb2,mb2,db2,gb2⟩,⟨ic2,⟨sc2,xc2,nc2,cc2,fc2,yc2,mc2,dc2,gc2⟩⟩,⟨id2,⟨sd2,xd2,nd2,cd2,fd2,yd2,md2,dd2,gd2⟩⟩⟩ else ⟨z3,⟨sb3,xb3,nb3,cb3,fb3,yb3,mb3,db3,gb3⟩,⟨ic3,⟨sc3,xc3,nc3,cc3,fc3,yc3,mc3,dc3,gc3⟩⟩,⟨id3,⟨sd3,xd3,nd3,cd3,fd3,yd3,md3,dd3,gd3⟩⟩⟩),some ⟨w9.heap.size+1,0,none⟩,1,1,λ_=>⟨⟨#[114]⟩,⟨-1,⟨s6,x6,n6,c6,f6,y6,m6,d6,g6⟩⟩,⟨0,⟨s7,x7,n7,c7,f7,y7,m7,d7,g7⟩⟩,some ⟨w9.heap.size,0,none⟩,2,2,(λp=>if p=0 then 0 else 1),(λp=>if p=0 then ⟨s8,x8,n8,c8,f8,y8,m8,d8,g8⟩ else ⟨s9,x9,n9,c9,f9,y9,m9,d9,g9⟩)⟩⟩ 3 k2C k2R):=by
  refine⟨R1.out,rfl,rfl,λj v e=>?_,λj v e=>?_⟩
  ·match j,e with
   | 0,e=>cases e;exact⟨⟨_,0,rfl,HC1.out⟩,R2.out⟩
   | 1,e=>cases e;exact⟨⟨_,0,rfl,HC2.out⟩,R3.out⟩
  ·match j,e with
   | 0,e =>
    cases e
    obtain⟨bt,et,ht⟩:=HT.out;have et2:w9.heap.size=bt:=by injection et with et;injection et with et;injection et
    subst et2;refine⟨⟨_,0,rfl,HRs.out⟩,rfl,rfl,R6.out,rfl,R7.out,rfl,λp z q e=>?_⟩
    match p,e with
    | 0,e=>cases e;exact⟨rfl,R8.out,_,0,rfl,ht 0 _ _ rfl⟩
    | 1,e=>cases e;exact⟨rfl,R9.out,_,0,rfl,ht 1 _ _ rfl⟩
 obtain⟨hk1,hk2⟩:=zjo (v0:=.bool s1) (v1:=slice x1 n1 c1) (v2:=slice y1 m1 d1) (v3:=slice (some ⟨bc,0,none⟩) 2 2) (v4:=slice (some ⟨w9.heap.size+1,0,none⟩) 1 1) O0.out (zji _ _ _ _ _ _ _ _ _ _ _ _ _) rfl;have HM2:=zk (HMo.out.kp hk1 hk2 (ztm O0.out));have HB2:=zk (zei (u0:=.bool s1) (u1:=slice x1 n1 c1) (u2:=slice y1 m1 d1) (u3:=slice (some ⟨bc,0,none⟩) 2 2) (u4:=slice (some ⟨w9.heap.size+1,0,none⟩) 1 1) HB.out (le_refl w.heap.size));obtain⟨l0,l1,l2,l3,l4⟩:=bk5 O0.out;have ff:=O0.out.frozen;clear hk1 hk2 HMo HB O0 R1 R2 R3 R6 R7 R8 R9 HC1 HC2 HT HRs;go_wp2;exact bodyPost_ret (v:=agg #[.bool s1,slice x1 n1 c1,slice y1 m1 d1,slice (some ⟨bc,0,none⟩) 2 2,slice (some ⟨w9.heap.size+1,0,none⟩) 1 1]) (by simp[results,results17,go_sem,l0,l1,l2,l3,l4]) rfl ⟨⟨⟨s1,x1,n1,c1,f1,y1,m1,d1,g1⟩,some ⟨bc,0,none⟩,2,2,(λj=>if j=0 then ⟨z2,⟨sb2,xb2,nb2,cb2,fb2,yb2,mb2,db2,gb2⟩,⟨ic2,⟨sc2,xc2,nc2,cc2,fc2,yc2,mc2,dc2,gc2⟩⟩,⟨id2,⟨sd2,xd2,nd2,cd2,fd2,yd2,md2,dd2,gd2⟩⟩⟩ else ⟨z3,⟨sb3,xb3,nb3,cb3,fb3,yb3,mb3,db3,gb3⟩,⟨ic3,⟨sc3,xc3,nc3,cc3,fc3,yc3,mc3,dc3,gc3⟩⟩,⟨id3,⟨sd3,xd3,nd3,cd3,fd3,yd3,md3,dd3,gd3⟩⟩⟩),some ⟨w9.heap.size+1,0,none⟩,1,1,λ_=>⟨⟨#[114]⟩,⟨-1,⟨s6,x6,n6,c6,f6,y6,m6,d6,g6⟩⟩,⟨0,⟨s7,x7,n7,c7,f7,y7,m7,d7,g7⟩⟩,some ⟨w9.heap.size,0,none⟩,2,2,(λp=>if p=0 then 0 else 1),(λp=>if p=0 then ⟨s8,x8,n8,c8,f8,y8,m8,d8,g8⟩ else ⟨s9,x9,n9,c9,f9,y9,m9,d9,g9⟩)⟩⟩,rfl,HB2.out,HM2.out⟩
def rsR (rs:List RV) (ys xs:List Rat):List Bool:=List.zipWith (λv y=>rsB y v.li v.lq v.hi v.hq (zbL xs v)) rs ys
def rsC (cs:List CV) (zs xs:List Rat):List Bool:=List.zipWith (λv (t:Rat × Rat)=>rsB t.1 v.li v.lq v.hi v.hq t.2) cs (zs.zip xs)
def arB (cs:List CV) (rs:List RV) (xs ys zs:List Rat):Bool:=(rsR rs ys xs).all id && (rsC cs zs xs).all id
theorem zrc {rs ys xs} {i:Nat} {v y} (hv:rs[i]?=some v) (hy:ys[i]?=some y):(rsR rs ys xs)[i]?=some (rsB y v.li v.lq v.hi v.hq (zbL xs v)):=by
 unfold rsR;rw[List.getElem?_zipWith,hv,hy]
theorem zrd {cs zs xs} {i:Nat} {v z x} (hv:cs[i]?=some v) (hz:zs[i]?=some z) (hx:xs[i]?=some x):(rsC cs zs xs)[i]?=some (rsB z v.li v.lq v.hi v.hq x):=by
 unfold rsC;rw[List.getElem?_zipWith,hv,(List.getElem?_zip_eq_some (z:=(z,x))).2 ⟨hz,hx⟩]
theorem zoj {l:List Bool} {i} (h:l[i]?=some true) (ha:(l.take i).all id=true):(l.take (i+1)).all id=true:=by
 rw[List.take_add_one,h,List.all_append,ha];rfl
theorem zok {l:List Bool} {i:Nat} (h:l[i]?=some false):l.all id=false:=List.all_eq_false.2 ⟨false,List.mem_of_getElem? h,by simp⟩
theorem zjE {w L M off cs rs a0 a1 a2 k0 c0 k1 c1 k2 c2 X xs ys zs} (hW:MoW w M) (hx:Rl w a0 k0 X) (hk:k0<=1048576) (he:zcB M k0 X=0) (hv:MoV L w M off cs rs) (hm:zbl cs rs=true) (h0:Rf L w a0 xs) (l0:xs.length=k0) (e0:k0=cs.length) (h1:Rf L w a1 ys) (l1:ys.length=k1) (e1:k1=rs.length) (h2:Rf (KV L) w a2 zs) (l2:zs.length=k2) (e2:k2=cs.length) (hL:L<=30) :
  Calls prog 39 #[M.val,agg #[slice a0 k0 c0,slice a1 k1 c1,slice a2 k2 c2]] w λe w'=>e=returned (.bool (arB cs rs xs ys zs))/\Bl w w':=by
 have CA:Hid (∀W,Bl w W->Calls prog 71 #[M.val,slice a0 k0 c0] W λe w'=>zoD L W w' e 0 rs xs):=λW hW2=>zpq (hW.q_ hW2) (hx.q_ hW2) hk he (λ_=>⟨hv.q_ hW2,hm,h0.q_ hW2,l0,e0⟩) hL
 have mp:=zbk hm;have l64:=mp.cl;have r64:=mp.rl
 have HRB:=zk mp.rb;have HCB:=zk mp.cb
 obtain⟨⟨s,x,n,c,f,y,m,d,g⟩,ca,ck,cc,C,ra,rk,rc,R⟩:=M;have HC:Hid (∀j v,cs[j]?=some v->(∃b o,ca=some ⟨b,o,none⟩/\Cs w b (o+j*12) (C j).vs)/\ColV L w (C j) v):=hv.cls;have HR:Hid (∀j v,rs[j]?=some v->(∃b o,ra=some ⟨b,o,none⟩/\Cs w b (o+j*10) (R j).vs)/\RowV L w (R j) v):=hv.rls;have hck:ck=cs.length:=hv.ck;have hrk:rk=rs.length:=hv.rk;subst hck;subst hrk
 subst e0;subst e1;subst e2
 have HX:=zk h0;have HY:=zk h1;have HZ:=zk h2;have HXL:=zk l0;have HYL:=zk l1;have HZL:=zk l2
 clear hW hx hk he hv hm h0 l0 h1 l1 h2 l2 mp;replace CA:Hid (∀W,Bl w W->Calls prog 71 #[agg #[.bool s,slice x n c,slice y m d,slice ca cs.length cc,slice ra rs.length rc],slice a0 cs.length c0] W λe w'=>zoD L W w' e 0 rs xs):=CA;show Calls prog 39 #[agg #[.bool s,slice x n c,slice y m d,slice ca cs.length cc,slice ra rs.length rc],agg #[slice a0 cs.length c0,slice a1 rs.length c1,slice a2 cs.length c2]] w _;have hb:=zu (zB w (cells #[.bool s,slice x n c,slice y m d,slice ca cs.length cc,slice ra rs.length rc] 28)) (cells #[slice a0 cs.length c0,slice a1 rs.length c1,slice a2 cs.length c2] 46);have BM:=zk ((zF w [.bool s,slice x n c,slice y m d,slice ca cs.length cc,slice ra rs.length rc] 28).q_ (zB _ (cells #[slice a0 cs.length c0,slice a1 rs.length c1,slice a2 cs.length c2] 46)));have BP:=zqt w (cells #[.bool s,slice x n c,slice y m d,slice ca cs.length cc,slice ra rs.length rc] 28) [slice a0 cs.length c0,slice a1 rs.length c1,slice a2 cs.length c2] 46;have HB:=zk hb;replace BP:=zk BP
 clear hb;go_enter func39,ntmps39;go_upto_region 1 with fail
 generalize((w.alloc (cells #[.bool s,slice x n c,slice y m d,slice ca cs.length cc,slice ra rs.length rc] 28)).alloc (cells #[slice a0 cs.length c0,slice a1 rs.length c1,slice a2 cs.length c2] 46))=w1 at *;obtain⟨r0,r1,r2,r3,r4⟩:=bk5 BM.out;obtain⟨t0,t1,t2⟩:=bk3 BP.out;go_wp2_with fail
 clear r0 r1 r2 r3 r4 t0 t1 t2;refine(CA.out _ HB.out).mono ?_;rintro e w2 ⟨hb2,⟨h9,_⟩|⟨_,aa,ac,rfl,_,hq⟩⟩
 ·exact absurd rfl h9
 ·have HA:=zk hq;replace HB:=zJ HB hb2;replace BM:=zk (BM.out.q_ hb2);replace BP:=zk (BP.out.q_ hb2)
  clear hb2 hq CA;have r4:=BM.out.cell (j:=4) rfl;go_wp2_with fail
  clear r4;go_loopw[21] (λt wr=>∃(i:Nat),i<=rs.length/\t=.int .i64 i/\Hid (Bl w2 wr)/\Hid (((rsR rs ys xs).take i).all id=true)) (λt _=>rs.length-(intOf t).toNat)
  case atStart=>exact⟨0,by omega,rfl,Below.refl _ _,rfl⟩
  case round =>
   obtain⟨i,hi,rfl,HB2,HO⟩:=hrel;by_cases hlt:i<rs.length
   ·obtain⟨v,hv⟩:∃t,rs[i]?=some t:=⟨_,getElem?_eq_getElem (by omega)⟩;obtain⟨yq,hyq⟩:∃t,ys[i]?=some t:=⟨_,getElem?_eq_getElem (by have:=HYL.out;omega)⟩;have hbw:=bUp HB.out HB2.out;obtain⟨⟨b,o,hra,hc⟩,hRV⟩:=HR.out i v hv;subst hra;obtain⟨⟨z,⟨i1,⟨s1,x1,n1,e1,f1,y1,m1,d1,g1⟩⟩,⟨i2,⟨s2,x2,n2,e2,f2,y2,m2,d2,g2⟩⟩,ta,tk,tc,tcol,tt⟩,hCi⟩:∃t,R i=t:=⟨_,rfl⟩;rw[hCi]at hc hRV
    have q1e:i1=v.li:=hRV.li;have q2e:i2=v.hi:=hRV.hi
    have E1:Rn L w s1 x1 n1 e1 f1 y1 m1 d1 g1 v.lq:=hRV.lq;have E2:Rn L w s2 x2 n2 e2 f2 y2 m2 d2 g2 v.hq:=hRV.hq
    replace hc:=Cs.q_ hc hbw;obtain⟨q0,q1,q2,q3,q4,q5,q6,q7,q8,q9⟩:=hc.lr;obtain⟨b',o',⟨ss,sx,sn,sc,sf,sy,sm,sd,sg⟩,hax,⟨p0,p1,p2⟩,hr'⟩:=(HY.out.q_ hbw) i yq hyq;subst hax;replace p0:wr.cell? ⟨b',o'+i*3,none⟩=some (.bool ss):=p0;replace p1:wr.cell? ⟨b',o'+i*3+1,none⟩=some (slice sx sn sc):=p1;replace p2:wr.cell? ⟨b',o'+i*3+2,none⟩=some (slice sy sm sd):=p2;replace hr':Rn L wr ss sx sn sc sf sy sm sd sg yq:=hr';obtain⟨b3,o3,⟨us,ux,un,uc,uf,uy,um,ud,ug⟩,hax,⟨w0,w1',w2'⟩,hr3⟩:=(HA.out.q_ HB2.out) i (zbL xs v) (by rw[List.getElem?_map,hv];rfl);subst hax;have j0:wr.cell? ⟨b3,o3+i*3,none⟩=some (.bool us):=w0;have j1:wr.cell? ⟨b3,o3+i*3+1,none⟩=some (slice ux un uc):=w1';have j2:wr.cell? ⟨b3,o3+i*3+2,none⟩=some (slice uy um ud):=w2';replace hr3:Rn (KA L) wr us ux un uc uf uy um ud ug (zbL xs v):=hr3;clear w0 w1' w2';have hbt:=zB wr (cells #[.string z,.int .i64 i1,.bool s1,slice x1 n1 e1,slice y1 m1 d1,.int .i64 i2,.bool s2,slice x2 n2 e2,slice y2 m2 d2,slice ta tk tc] 63);obtain⟨-,ce1,ce2,ce3,ce4,ce5,ce6,ce7,ce8⟩:=bk9 (zF wr [.string z,.int .i64 i1,.bool s1,slice x1 n1 e1,slice y1 m1 d1,.int .i64 i2,.bool s2,slice x2 n2 e2,slice y2 m2 d2,slice ta tk tc] 63);have i1':((i:Nat):Int)<((rs.length:Nat):Int):=by omega
    replace p0:=kCb hbt p0;replace j0:=kCb hbt j0
    replace p1:=kCb hbt p1;replace j1:=kCb hbt j1
    replace p2:=kCb hbt p2;replace j2:=kCb hbt j2
    have v1:=kCb hbt ((BP.out.q_ HB2.out).cell (j:=1) rfl);have RY:=zk ((hr'.q_ hbt).mono (show _<=KV L by unfold KV;omega));have RA:=zk ((hr3.q_ hbt).mono (show _<=KV L by unfold KV;(try unfold KA);omega));have RE1:=zk (((E1.q_ hbw).q_ hbt).mono (show L<=KV L by unfold KV;omega));have RE2:=zk (((E2.q_ hbw).q_ hbt).mono (show L<=KV L by unfold KV;omega))
    have HAT:=zk (zrc (xs:=xs) hv hyq);rw[<-q1e,<-q2e]at HAT
    have HB3:=zJ HB2 hbt;clear hr' hr3 E1 E2 hCi hc hRV q1e q2e hbw hv hyq;obtain⟨rb,hrb⟩:∃t,rsB yq i1 v.lq i2 v.hq (zbL xs v)=t:=⟨_,rfl⟩;rw[hrb]at HAT
    have HRBB:=zk hrb;clear hrb;go_upto_region 5 with fail
    clear q0 q1 q2 q3 q4 q5 q6 q7 q8 q9 hbt;generalize wr.heap.size=bx at *;generalize(wr.alloc (cells #[.string z,.int .i64 i1,.bool s1,slice x1 n1 e1,slice y1 m1 d1,.int .i64 i2,.bool s2,slice x2 n2 e2,slice y2 m2 d2,slice ta tk tc] 63))=w5 at *;refine zag (S:=(λw'=>w'.cell? ⟨bx,1,none⟩=some (.int .i64 i1)/\w'.cell? ⟨bx,2,none⟩=some (.bool s1)/\w'.cell? ⟨bx,3,none⟩=some (slice x1 n1 e1)/\w'.cell? ⟨bx,4,none⟩=some (slice y1 m1 d1)/\w'.cell? ⟨bx,5,none⟩=some (.int .i64 i2)/\w'.cell? ⟨bx,6,none⟩=some (.bool s2)/\w'.cell? ⟨bx,7,none⟩=some (slice x2 n2 e2)/\w'.cell? ⟨bx,8,none⟩=some (slice y2 m2 d2)/\w'.cell? ⟨b',o'+i*3,none⟩=some (.bool ss)/\w'.cell? ⟨b',o'+i*3+1,none⟩=some (slice sx sn sc)/\w'.cell? ⟨b',o'+i*3+2,none⟩=some (slice sy sm sd)/\w'.cell? ⟨b3,o3+i*3,none⟩=some (.bool us)/\w'.cell? ⟨b3,o3+i*3+1,none⟩=some (slice ux un uc)/\w'.cell? ⟨b3,o3+i*3+2,none⟩=some (slice uy um ud)/\w'.cell? ⟨w.heap.size+1,1,none⟩=some (slice (some ⟨b',o',none⟩) rs.length c1))) 13 (by kernel_rfl) ⟨kCd ce1,kCd ce2,kCd ce3,kCd ce4,kCd ce5,kCd ce6,kCd ce7,kCd ce8,kCd p0,kCd p1,kCd p2,kCd j0,kCd j1,kCd j2,kCd v1⟩ (λhHeld=>?_);have hbd:=Below.drew (Below.refl w5.heap.size w5);replace HB3:=zJ HB3 hbd;replace RY:=zk (RY.out.q_ hbd);replace RA:=zk (RA.out.q_ hbd);replace RE1:=zk (RE1.out.q_ hbd);replace RE2:=zk (RE2.out.q_ hbd)
    clear hbd ce1 ce2 ce3 ce4 ce5 ce6 ce7 ce8 p0 p1 p2 j0 j1 j2 v1;generalize w5.drew=wd at *;refine skP 0 ?_;refine tkP 1 ?_;refine skP 2 ?_;simp only[zA,Act.put];refine skP 3 ?_;refine tkP 4 ?_;refine skP 5 ?_;simp only[zA,Act.put];refine tkP 6 ?_;refine skP 7 ?_;refine tkP 8 ?_;simp only[zA,Act.put];refine skP 9 ?_;refine skP 10 ?_;refine skP 11 ?_;simp only[zA,Act.put];refine tkP 12 ?_;simp only[zA,Act.put];refine rdP 13 (λK hK=>?_);go_simp
    go_at_call 72
    refine(ziv (L:=KV L) RY.out RE1.out RE2.out RA.out (by unfold KV;omega)).mono ?_;rintro e w6 ⟨rfl,hb6⟩;rw[HRBB.out]
    (try go_wp2_with fail)
    have HB6:=zJ HB3 hb6;clear hb6 RY RA RE1 RE2 HRBB hHeld HB3;refine hK.out _ _ (λh=>by cases h) (λ_=>?_);clear hK K;try simp only[zA,Act.put]
    refine zaC (i:=14) (v:=?_) rfl (by kernel_rfl) (by kernel_rfl) (by kernel_rfl) (by kernel_rfl) (λ_ _ _ h=>h) (Or.inl ⟨by rfl,?_⟩) (λh=>by cases h) ?_;rotate_left
    (focus (intro w0 hSw;go_simp <;> with_reducible rfl))
    simp only[List.getElem_toArray,List.getElem_cons_succ,List.getElem_cons_zero,Act.put,List.setIfInBounds_toArray,List.set_cons_zero,List.set_cons_succ];refine dnP ?_;cases rb
    ·go_wp2;go_ret;exact⟨by rw[show arB cs rs xs ys zs=false by unfold arB;rw[zok HAT.out];rfl];rfl,bUp HB.out HB6.out⟩
    ·have HN:=zk (zoj HAT.out HO.out);go_wp2;go_roundw
     case rel=>exact⟨i+1,by omega,by go_num,HB6.out,HN.out⟩
     case measure=>simp[intOf];omega
   ·have e1:i=rs.length:=by omega
    have i4':¬(((i:Nat):Int)<((rs.length:Nat):Int)):=by omega
    have HO1:=HO.out;rw[List.take_of_length_le (by unfold rsR;rw[List.length_zipWith];omega)]at HO1
    replace HO1:=zk HO1;replace HB:=zJ HB HB2.out;replace BM:=zk (BM.out.q_ HB2.out);replace BP:=zk (BP.out.q_ HB2.out);replace HA:=zk (HA.out.q_ HB2.out)
    have r3:=BM.out.cell (j:=3) rfl;clear HO HB2 e1;go_wp2_with fail
    clear r3;generalize wr=w3 at *;go_loopw[45] (λt wz=>∃(i:Nat),i<=cs.length/\t=.int .i64 i/\Hid (Bl w3 wz)/\Hid (((rsC cs zs xs).take i).all id=true)) (λt _=>cs.length-(intOf t).toNat)
    case atStart=>exact⟨0,by omega,rfl,Below.refl _ _,rfl⟩
    case round =>
     obtain⟨i,hi,rfl,HB2,HO⟩:=hrel;by_cases hlt:i<cs.length
     ·obtain⟨v,hv⟩:∃t,cs[i]?=some t:=⟨_,getElem?_eq_getElem (by omega)⟩;obtain⟨yq,hyq⟩:∃t,zs[i]?=some t:=⟨_,getElem?_eq_getElem (by have:=HZL.out;omega)⟩;obtain⟨aq,haq⟩:∃t,xs[i]?=some t:=⟨_,getElem?_eq_getElem (by have:=HXL.out;omega)⟩;have hbw:=bUp HB.out HB2.out;obtain⟨⟨b,o,hra,hc⟩,hRV⟩:=HC.out i v hv;subst hra;obtain⟨⟨z,⟨s0,x0,n0,e0,f0,y0,m0,d0,g0⟩,⟨i1,⟨s1,x1,n1,e1,f1,y1,m1,d1,g1⟩⟩,⟨i2,⟨s2,x2,n2,e2,f2,y2,m2,d2,g2⟩⟩⟩,hCi⟩:∃t,C i=t:=⟨_,rfl⟩;rw[hCi]at hc hRV
      have q1e:i1=v.li:=hRV.li;have q2e:i2=v.hi:=hRV.hi
      have E1:Rn L w s1 x1 n1 e1 f1 y1 m1 d1 g1 v.lq:=hRV.lq;have E2:Rn L w s2 x2 n2 e2 f2 y2 m2 d2 g2 v.hq:=hRV.hq
      replace hc:=Cs.q_ hc hbw;obtain⟨q0,q1,q2,q3,q4,q5,q6,q7,q8,q9,q10,q11⟩:=hc.lc;obtain⟨b',o',⟨ss,sx,sn,sc,sf,sy,sm,sd,sg⟩,hax,⟨p0,p1,p2⟩,hr'⟩:=(HZ.out.q_ hbw) i yq hyq;subst hax;replace p0:wr.cell? ⟨b',o'+i*3,none⟩=some (.bool ss):=p0;replace p1:wr.cell? ⟨b',o'+i*3+1,none⟩=some (slice sx sn sc):=p1;replace p2:wr.cell? ⟨b',o'+i*3+2,none⟩=some (slice sy sm sd):=p2;replace hr':Rn (KV L) wr ss sx sn sc sf sy sm sd sg yq:=hr';obtain⟨b3,o3,⟨us,ux,un,uc,uf,uy,um,ud,ug⟩,hax,⟨w0,w1',w2'⟩,hr3⟩:=(HX.out.q_ hbw) i aq haq;subst hax;have j0:wr.cell? ⟨b3,o3+i*3,none⟩=some (.bool us):=w0;have j1:wr.cell? ⟨b3,o3+i*3+1,none⟩=some (slice ux un uc):=w1';have j2:wr.cell? ⟨b3,o3+i*3+2,none⟩=some (slice uy um ud):=w2';replace hr3:Rn L wr us ux un uc uf uy um ud ug aq:=hr3;clear w0 w1' w2';have hbt:=zB wr (cells #[.string z,.bool s0,slice x0 n0 e0,slice y0 m0 d0,.int .i64 i1,.bool s1,slice x1 n1 e1,slice y1 m1 d1,.int .i64 i2,.bool s2,slice x2 n2 e2,slice y2 m2 d2] 60);obtain⟨-,-,-,-,ce4,ce5,ce6,ce7,ce8,ce9,ce10,ce11⟩:=zeg (zF wr [.string z,.bool s0,slice x0 n0 e0,slice y0 m0 d0,.int .i64 i1,.bool s1,slice x1 n1 e1,slice y1 m1 d1,.int .i64 i2,.bool s2,slice x2 n2 e2,slice y2 m2 d2] 60);have i1':((i:Nat):Int)<((cs.length:Nat):Int):=by omega
      replace p0:=kCb hbt p0;replace j0:=kCb hbt j0
      replace p1:=kCb hbt p1;replace j1:=kCb hbt j1
      replace p2:=kCb hbt p2;replace j2:=kCb hbt j2
      have v2:=kCb hbt ((BP.out.q_ HB2.out).cell (j:=2) rfl);have v0:=kCb hbt ((BP.out.q_ HB2.out).cell (j:=0) rfl);have RY:=zk ((hr'.q_ hbt).mono (show _<=KV L by unfold KV;omega));have RA:=zk ((hr3.q_ hbt).mono (show _<=KV L by unfold KV;(try unfold KA);omega));have RE1:=zk (((E1.q_ hbw).q_ hbt).mono (show L<=KV L by unfold KV;omega));have RE2:=zk (((E2.q_ hbw).q_ hbt).mono (show L<=KV L by unfold KV;omega))
      have HAT:=zk (zrd hv hyq haq);rw[<-q1e,<-q2e]at HAT
      have HB3:=zJ HB2 hbt;clear hr' hr3 E1 E2 hCi hc hRV q1e q2e hbw hv hyq haq;obtain⟨rb,hrb⟩:∃t,rsB yq i1 v.lq i2 v.hq aq=t:=⟨_,rfl⟩;rw[hrb]at HAT
      have HRBB:=zk hrb;clear hrb;go_upto_region 11 with fail
      clear q0 q1 q2 q3 q4 q5 q6 q7 q8 q9 q10 q11 hbt;generalize wr.heap.size=bx at *;generalize(wr.alloc (cells #[.string z,.bool s0,slice x0 n0 e0,slice y0 m0 d0,.int .i64 i1,.bool s1,slice x1 n1 e1,slice y1 m1 d1,.int .i64 i2,.bool s2,slice x2 n2 e2,slice y2 m2 d2] 60))=w5 at *;refine zag (S:=(λw'=>w'.cell? ⟨bx,4,none⟩=some (.int .i64 i1)/\w'.cell? ⟨bx,5,none⟩=some (.bool s1)/\w'.cell? ⟨bx,6,none⟩=some (slice x1 n1 e1)/\w'.cell? ⟨bx,7,none⟩=some (slice y1 m1 d1)/\w'.cell? ⟨bx,8,none⟩=some (.int .i64 i2)/\w'.cell? ⟨bx,9,none⟩=some (.bool s2)/\w'.cell? ⟨bx,10,none⟩=some (slice x2 n2 e2)/\w'.cell? ⟨bx,11,none⟩=some (slice y2 m2 d2)/\w'.cell? ⟨b',o'+i*3,none⟩=some (.bool ss)/\w'.cell? ⟨b',o'+i*3+1,none⟩=some (slice sx sn sc)/\w'.cell? ⟨b',o'+i*3+2,none⟩=some (slice sy sm sd)/\w'.cell? ⟨b3,o3+i*3,none⟩=some (.bool us)/\w'.cell? ⟨b3,o3+i*3+1,none⟩=some (slice ux un uc)/\w'.cell? ⟨b3,o3+i*3+2,none⟩=some (slice uy um ud)/\w'.cell? ⟨w.heap.size+1,2,none⟩=some (slice (some ⟨b',o',none⟩) cs.length c2)/\w'.cell? ⟨w.heap.size+1,0,none⟩=some (slice (some ⟨b3,o3,none⟩) cs.length c0))) 14 (by kernel_rfl) ⟨kCd ce4,kCd ce5,kCd ce6,kCd ce7,kCd ce8,kCd ce9,kCd ce10,kCd ce11,kCd p0,kCd p1,kCd p2,kCd j0,kCd j1,kCd j2,kCd v2,kCd v0⟩ (λhHeld=>?_);have hbd:=Below.drew (Below.refl w5.heap.size w5);replace HB3:=zJ HB3 hbd;replace RY:=zk (RY.out.q_ hbd);replace RA:=zk (RA.out.q_ hbd);replace RE1:=zk (RE1.out.q_ hbd);replace RE2:=zk (RE2.out.q_ hbd)
      clear hbd ce4 ce5 ce6 ce7 ce8 ce9 ce10 ce11 p0 p1 p2 j0 j1 j2 v2 v0;generalize w5.drew=wd at *;refine skP 0 ?_;refine tkP 1 ?_;refine skP 2 ?_;simp only[zA,Act.put];refine skP 3 ?_;refine tkP 4 ?_;refine skP 5 ?_;simp only[zA,Act.put];refine tkP 6 ?_;refine skP 7 ?_;refine tkP 8 ?_;simp only[zA,Act.put];refine skP 9 ?_;refine tkP 10 ?_;refine skP 11 ?_;simp only[zA,Act.put];refine skP 12 ?_;refine tkP 13 ?_;simp only[zA,Act.put];refine rdP 14 (λK hK=>?_);go_simp
      go_at_call 72
      refine(ziv (L:=KV L) RY.out RE1.out RE2.out RA.out (by unfold KV;omega)).mono ?_;rintro e w6 ⟨rfl,hb6⟩;rw[HRBB.out]
      (try go_wp2_with fail)
      have HB6:=zJ HB3 hb6;clear hb6 RY RA RE1 RE2 HRBB hHeld HB3;refine hK.out _ _ (λh=>by cases h) (λ_=>?_);clear hK K;try simp only[zA,Act.put]
      refine zaC (i:=15) (v:=?_) rfl (by kernel_rfl) (by kernel_rfl) (by kernel_rfl) (by kernel_rfl) (λ_ _ _ h=>h) (Or.inl ⟨by rfl,?_⟩) (λh=>by cases h) ?_;rotate_left
      (focus (intro w0 hSw;go_simp <;> with_reducible rfl))
      simp only[List.getElem_toArray,List.getElem_cons_succ,List.getElem_cons_zero,Act.put,List.setIfInBounds_toArray,List.set_cons_zero,List.set_cons_succ];refine dnP ?_;cases rb
      ·go_wp2;go_ret;exact⟨by rw[show arB cs rs xs ys zs=false by unfold arB;rw[zok HAT.out];exact Bool.and_false _];rfl,bUp HB.out HB6.out⟩
      ·have HN:=zk (zoj HAT.out HO.out);go_wp2;go_roundw
       case rel=>exact⟨i+1,by omega,by go_num,HB6.out,HN.out⟩
       case measure=>simp[intOf];omega
     ·have e1:i=cs.length:=by omega
      have i4':¬(((i:Nat):Int)<((cs.length:Nat):Int)):=by omega
      have HO2:=HO.out;rw[List.take_of_length_le (by unfold rsC;rw[List.length_zipWith];omega)]at HO2
      have HF:Hid (arB cs rs xs ys zs=true):=by show _=_;unfold arB;rw[HO1.out,HO2];rfl
      clear HO HO2 e1;go_wp2;go_ret;exact⟨by rw[HF.out];rfl,bUp HB.out HB2.out⟩
theorem zsh {a b} (h:sqB a b=true):nfB b=nfB a/\nq b=nq a:=by
 obtain⟨s,x,n,c,f,y,m,d,g⟩:=a;obtain⟨s',x',n',c',f',y',m',d',g'⟩:=b;obtain⟨h1,⟨h2,h3⟩,⟨h4,h5⟩⟩:=sq_iff.1 h;simp only at h1 h2 h3 h4 h5;subst h1;subst h2;subst h4
 have e1:vf f' n=vf f n:=(zN h3).symm;have e2:vf g' m=vf g m:=(zN h5).symm;have e3:∀{u v:Nat->Int} {k:Nat},(∀j,j<k->u j=v j)->fmB v k=fmB u k:=λ{u v k} hu=>by
  cases k with
  | zero=>rfl
  | succ k=>unfold fmB;rw[hu (k+1-1) (by omega)]
 constructor
 ·show rfB s f' n g' m=rfB s f n g m;unfold rfB wfB;rw[e1,e2,e3 h3,e3 h5]
 ·show mkRat (wv s f' n) (wv false g' m).toNat=mkRat (wv s f n) (wv false g m).toNat;unfold wv;rw[e1,e2]
theorem zkH {α e} {X Y:Nat->α}:∀{r i:Nat},eqf e X Y r i=true ↔ ∀j,i<=j->j<i+r->e (X j) (Y j)=true
 | 0,_=>⟨λ_ j a b=>by omega,λ_=>rfl⟩
 | r+1,i=>by
  simp only[eqf,Bool.and_eq_true,zkH (r:=r)];constructor
  ·rintro⟨h1,h2⟩ j a b;by_cases e:j=i
   ·subst e;exact h1
   ·exact h2 j (by omega) (by omega)
  ·exact λh=>⟨h i (by omega) (by omega),λj a b=>h j (by omega) (by omega)⟩
theorem Rl.cs {w ao k X} (h:Rl w ao k X):∀j,j<k->∃b o,ao=some ⟨b,o,none⟩/\Cs w b (o+j*3) (rcell (X j))/\NmS w (X j):=λj hj=>by
 obtain⟨b,o,h1,h2,h3⟩:=h j hj;refine⟨b,o,h1,λi v e=>?_,h3⟩
 match i,e with
 | 0,e=>cases e;exact h2.x0
 | 1,e=>cases e;exact h2.x1
 | 2,e=>cases e;exact h2.x2
 | i+3,e=>cases e
theorem zql {L w ao p} (h:Rf L w ao p):∃E:Nat->Nm,∀j q,p[j]?=some q->(∃b o,ao=some ⟨b,o,none⟩/\C3 w b (o+j*3) (.bool (E j).s) (.slice (E j).x (E j).n (E j).c) (.slice (E j).y (E j).m (E j).d))/\NmV L w (E j) q:=by
 refine Classical.axiomOfChoice (r:=λj (t:Nm)=>∀q,p[j]?=some q->(∃b o,ao=some ⟨b,o,none⟩/\C3 w b (o+j*3) (.bool t.s) (slice t.x t.n t.c) (slice t.y t.m t.d))/\NmV L w t q) (λj=>?_);by_cases hj:j<p.length
 ·obtain⟨b,o,t,h1,h2,h3⟩:=h j (p[j]) (getElem?_eq_getElem hj);refine⟨t,λq e=>?_⟩;rw[getElem?_eq_getElem hj]at e
  rw[Option.some.inj e]at h3
  exact⟨⟨b,o,h1,h2⟩,h3⟩
 ·exact⟨⟨false,none,0,0,λ_=>0,none,0,0,λ_=>0⟩,λq e=>by rw[List.getElem?_eq_none (by omega)]at e;cases e⟩
theorem zrK {L w w1 ao k k2 E Z p} (hp:p.length=k) (hE:∀j q,p[j]?=some q->NmV L w1 (E j) q) (hZ:Rl w ao k2 Z):eqfB sqB k k2 E Z=(afB k2 Z && decide (zbh k2 Z=p))/\(eqfB sqB k k2 E Z=true->Rf L w ao p/\p.length=k2):=by
 have hg:∀j,j<p.length->p[j]?=some (p.getD j 0):=λj hj=>by rw[List.getD_eq_getElem?_getD,getElem?_eq_getElem hj];rfl
 have key:eqfB sqB k k2 E Z=true ↔ k=k2/\∀j,j<k->sqB (E j) (Z j)=true:=by
  unfold eqfB;rw[Bool.and_eq_true,decide_eq_true_eq,zkH];exact⟨λ⟨a,b⟩=>⟨a,λj hj=>b j (by omega) (by omega)⟩,λ⟨a,b⟩=>⟨a,λj _ hj=>b j (by omega)⟩⟩
 have tru:eqfB sqB k k2 E Z=true->(k=k2/\∀j q,p[j]?=some q->NmV L w (Z j) q):=λh=>by
  obtain⟨a,b⟩:=key.1 h;refine⟨a,λj q e=>?_⟩;have hj:j<p.length:=(List.getElem?_eq_some_iff.1 e).1;have h1:=b j (by omega);have h2:=hE j q e;obtain⟨h3,h4⟩:=zsh h1;obtain⟨_,h5,h6⟩:=sq_iff.1 h1;obtain⟨b',o',_,_,h7⟩:=hZ j (by omega);have h8:=NmS.val (K:=L) h7 (by rw[h3];exact Rn.rf h2) ⟨by rw[<-h5.1];exact h2.ln,by rw[<-h6.1];exact h2.ld⟩;rw[h4,Rn.nq h2]at h8
  exact h8
 refine⟨?_,λh=>?_⟩
 ·rw[Bool.eq_iff_iff,Bool.and_eq_true,decide_eq_true_eq];constructor
  ·intro h;obtain⟨a,b⟩:=tru h;refine⟨zol (λj _ hj=>Rn.rf (b j _ (hg j (by omega)))),?_⟩;refine List.ext_getElem? (λj=>?_);unfold zbh;by_cases hj:j<k2
   ·rw[List.getElem?_map,List.getElem?_range hj,hg j (by omega)];exact congrArg some (Rn.nq (b j _ (hg j (by omega))))
   ·rw[List.getElem?_eq_none (by simp;omega),List.getElem?_eq_none (by omega)]
  ·rintro⟨a,b⟩;have hl:p.length=k2:=by rw[<-b,zcA]
   refine key.2 ⟨by omega,λj hj=>?_⟩;have h2:=hE j _ (hg j (by omega));obtain⟨b',o',_,_,h7⟩:=hZ j (by omega);have h8:=NmS.val (K:=65536) h7 (zhw a j (by omega) (by omega)) h7.2;have h9:p.getD j 0=nq (Z j):=by
    have e1:=hg j (by omega);rw[<-b]at e1
    unfold zbh at e1;rw[List.getElem?_map,List.getElem?_range (by omega)]at e1
    rw[<-b];exact(Option.some.inj e1).symm
   have:=(Rn.inj h2 h8).2 h9;exact sq_iff.2 this
 ·obtain⟨a,b⟩:=tru h;refine⟨λj q e=>?_,by omega⟩;have hj:j<p.length:=(List.getElem?_eq_some_iff.1 e).1;obtain⟨b',o',h1,h2,_⟩:=hZ j (by omega);exact⟨b',o',Z j,h1,h2,b j q e⟩
def zes (e1 e2:Int) (k2:Nat) (Z:Nat->Nm) (cs:List CV) (rs:List RV) (xs ys:List Rat):Bool:=(decide (e1=0) && zfA cs rs xs) && (decide (e2=0) && ((afB k2 Z && decide (zbh k2 Z=zaB rs ys 0 cs)) && arB cs rs xs ys (zaB rs ys 0 cs)))
theorem ziw {w L M off cs rs a0 a1 a2 k0 c0 k1 c1 k2 c2 X Y Z xs ys e1 e2} (hW:MoW w M) (hx:Rl w a0 k0 X) (hy:Rl w a1 k1 Y) (hz:Rl w a2 k2 Z) (hk0:k0<=1048576) (hk1:k1<=1048576) (hk2:k2<=1048576) (he1:zcB M k0 X=e1) (he2:zbA M k1 Y=e2) (hv1:e1=0->MoV L w M off cs rs/\zbl cs rs=true/\Rf L w a0 xs/\xs.length=k0/\k0=cs.length) (hv2:e2=0->MoV L w M off cs rs/\zbl cs rs=true/\Rf L w a1 ys/\ys.length=k1/\k1=rs.length) (hL:L<=30) :
  Calls prog 12 #[M.val,agg #[slice a0 k0 c0,slice a1 k1 c1,slice a2 k2 c2]] w λe w'=>e=returned (.tuple #[.bool (decide (zaw M=0) && zes e1 e2 k2 Z cs rs xs ys),.int .i64 (zaw M)])/\Bl w w':=by
 have CC:=zk (λW (hW2:Bl w W)=>zeW (hW.q_ hW2));have CF:=zk (λW (hW2:Bl w W)=>zpp (cap:=c0) (hW.q_ hW2) (hx.q_ hW2) hk0 he1 (λh=>by obtain⟨v1,v2,v3,v4,v5⟩:=hv1 h;exact⟨v1.q_ hW2,v2,v3.q_ hW2,v4,v5⟩) hL);have CR:=zk (λW (hW2:Bl w W)=>zdt (cap:=c1) (hW.q_ hW2) (hy.q_ hW2) hk1 he2 (λh=>by obtain⟨v1,v2,v3,v4,v5⟩:=hv2 h;exact⟨v1.q_ hW2,v2,v3.q_ hW2,v4,v5⟩) hL);have CA:Hid (∀W,Bl w W->e1=0->e2=0->Rf (KV L) W a2 (zaB rs ys 0 cs)->(zaB rs ys 0 cs).length=k2->Calls prog 39 #[M.val,agg #[slice a0 k0 c0,slice a1 k1 c1,slice a2 k2 c2]] W λe w2=>e=returned (.bool (arB cs rs xs ys (zaB rs ys 0 cs)))/\Bl W w2):=λW hW2 g1 g2 hr hl=>by
  obtain⟨v1,v2,v3,v4,v5⟩:=hv1 g1;obtain⟨_,_,u3,u4,u5⟩:=hv2 g2;exact zjE (hW.q_ hW2) (hx.q_ hW2) hk0 (he1.trans g1) (v1.q_ hW2) v2 (v3.q_ hW2) v4 v5 (u3.q_ hW2) u4 u5 hr hl (by rw[<-hl,zaX]) hL
 have HCL:Hid (e2=0->cs.length<=64):=λg=>by obtain⟨_,v2,_⟩:=hv2 g;exact(zbk v2).cl
 have HZ:=zk hz;clear hW hx hy hz he1 he2 hv1 hv2;obtain⟨e0,he0⟩:∃e,zaw M=e:=⟨_,rfl⟩;rw[he0]at CC ⊢
 clear he0;obtain⟨fs,hfs⟩:∃t,(decide (e1=0) && zfA cs rs xs)=t:=⟨_,rfl⟩;rw[hfs]at CF
 have HFS:=zk hfs;clear hfs;have HLn:=zk (zaX rs ys cs 0);obtain⟨zs,hzs⟩:∃t,zaB rs ys 0 cs=t:=⟨_,rfl⟩;unfold ziL at CR;rw[hzs]at CR CA HLn
 have HZS:=zk hzs;clear hzs;obtain⟨ar,har⟩:∃t,arB cs rs xs ys zs=t:=⟨_,rfl⟩;rw[har]at CA
 have HAR:=zk har;clear har;obtain⟨⟨s,x,n,c,f,y,m,d,g⟩,ca,ck,cc,C,ra,rk,rc,R⟩:=M;replace CC:Hid (∀W,Bl w W->Calls prog 29 #[agg #[.bool s,slice x n c,slice y m d,slice ca ck cc,slice ra rk rc]] W λr w'=>r=returned (.int .i64 e0)/\Bl W w'):=CC;replace CF:Hid (∀W,Bl w W->Calls prog 36 #[agg #[.bool s,slice x n c,slice y m d,slice ca ck cc,slice ra rk rc],slice a0 k0 c0] W λe w'=>e=returned (.tuple #[.bool fs,.int .i64 e1])/\Bl W w'):=CF;replace CR:Hid (∀W,Bl w W->Calls prog 10 #[agg #[.bool s,slice x n c,slice y m d,slice ca ck cc,slice ra rk rc],slice a1 k1 c1] W λe w'=>Bl W w'/\((e2≠0/\e=returned (.tuple #[slice none 0 0,.int .i64 e2]))∨(e2=0/\∃a c,e=returned (.tuple #[slice a cs.length c,.int .i64 0])/\(cs.length<=c/\c<=9223372036854775807)/\Rf (KV L) w' a zs))):=CR;replace CA:Hid (∀W,Bl w W->e1=0->e2=0->Rf (KV L) W a2 zs->zs.length=k2->Calls prog 39 #[agg #[.bool s,slice x n c,slice y m d,slice ca ck cc,slice ra rk rc],agg #[slice a0 k0 c0,slice a1 k1 c1,slice a2 k2 c2]] W λe w2=>e=returned (.bool ar)/\Bl W w2):=CA;show Calls prog 12 #[agg #[.bool s,slice x n c,slice y m d,slice ca ck cc,slice ra rk rc],agg #[slice a0 k0 c0,slice a1 k1 c1,slice a2 k2 c2]] w _;have hb:=zu (zB w (cells #[.bool s,slice x n c,slice y m d,slice ca ck cc,slice ra rk rc] 28)) (cells #[slice a0 k0 c0,slice a1 k1 c1,slice a2 k2 c2] 46);have BM:=zk ((zF w [.bool s,slice x n c,slice y m d,slice ca ck cc,slice ra rk rc] 28).q_ (zB _ (cells #[slice a0 k0 c0,slice a1 k1 c1,slice a2 k2 c2] 46)));have BP:=zqt w (cells #[.bool s,slice x n c,slice y m d,slice ca ck cc,slice ra rk rc] 28) [slice a0 k0 c0,slice a1 k1 c1,slice a2 k2 c2] 46;have HB:=zk hb;replace BP:=zk BP
 clear hb;go_enter func12,ntmps12;go_upto_region 1 with fail
 generalize((w.alloc (cells #[.bool s,slice x n c,slice y m d,slice ca ck cc,slice ra rk rc] 28)).alloc (cells #[slice a0 k0 c0,slice a1 k1 c1,slice a2 k2 c2] 46))=w1 at *;obtain⟨r0,r1,r2,r3,r4⟩:=bk5 BM.out;go_wp2_with fail
 clear r0 r1 r2 r3 r4
 go_at_call 29
 refine(CC.out _ HB.out).mono ?_;rintro e w2 ⟨rfl,hb2⟩;replace HB:=zJ HB hb2;replace BM:=zk (BM.out.q_ hb2);replace BP:=zk (BP.out.q_ hb2)
 clear hb2;clear CC;by_cases h0:e0=0
 case neg =>
  have h1:(e0 != 0)=true:=by simpa using h0
  have HE:Hid (decide (e0=0)=false):=decide_eq_false h0;clear h0 CF CR CA;go_wp2
  go_ret2
  exact⟨by rw[HE.out];rfl,HB.out⟩
 subst h0;obtain⟨r0,r1,r2,r3,r4⟩:=bk5 BM.out;obtain⟨p0,p1,p2⟩:=bk3 BP.out;go_wp2_with fail
 clear r0 r1 r2 r3 r4 p0 p1 p2
 go_at_call 36
 refine(CF.out _ HB.out).mono ?_;rintro e w3 ⟨rfl,hb3⟩;replace HB:=zJ HB hb3;replace BM:=zk (BM.out.q_ hb3);replace BP:=zk (BP.out.q_ hb3)
 clear hb3;clear CF;obtain⟨r0,r1,r2,r3,r4⟩:=bk5 BM.out;obtain⟨p0,p1,p2⟩:=bk3 BP.out;go_wp2_with fail
 clear r0 r1 r2 r3 r4 p0 p1 p2
 go_at_call 10
 refine(CR.out _ HB.out).mono ?_;clear CR;rintro e w4 ⟨hb4,⟨h9,rfl⟩|⟨h9,aa,ac,rfl,hca,hrf⟩⟩
 ·replace HB:=zJ HB hb4;replace BM:=zk (BM.out.q_ hb4);replace BP:=zk (BP.out.q_ hb4)
  clear hb4;have h1:(e2 != 0)=true:=by simpa using h9
  have HE:Hid (zes e1 e2 k2 Z cs rs xs ys=false):=by show _=_;unfold zes;rw[decide_eq_false h9];simp
  clear h9 CA HZ;cases fs
  ·go_wp2
   go_ret2
   exact⟨by rw[HE.out];rfl,HB.out⟩
  ·go_wp2
   go_ret2
   exact⟨by rw[HE.out];rfl,HB.out⟩
 ·replace HB:=zJ HB hb4;replace BM:=zk (BM.out.q_ hb4);replace BP:=zk (BP.out.q_ hb4)
  clear hb4;subst h9;have HRF:=zk hrf;have hcl:=HCL.out rfl;clear hrf HCL;cases fs
  case false =>
   have HE:Hid (zes e1 0 k2 Z cs rs xs ys=false):=by show _=_;unfold zes;rw[HFS.out];simp
   clear CA HZ HRF;go_wp2
   go_ret2
   exact⟨by rw[HE.out];rfl,HB.out⟩
  have HE1:Hid (e1=0):=by have h:=HFS.out;rw[Bool.and_eq_true,decide_eq_true_eq]at h;exact h.1
  obtain⟨E,hE⟩:=zql HRF.out;have CE:Hid (∀W,Bl w4 W->Calls prog 37 #[slice aa cs.length ac,slice a2 k2 c2,.func (.func 38) #[] #[]] W λe w9=>e=returned (.bool (eqfB sqB cs.length k2 E Z))/\Bl W w9):=λW hW2=>by
   have hb9:=bUp HB.out hW2;refine zjB (λj hj=>?_) (HZ.out.q_ hb9).cs (by omega) hk2;obtain⟨q,hq⟩:∃t,zs[j]?=some t:=⟨_,getElem?_eq_getElem (by have:=HLn.out;omega)⟩;obtain⟨⟨b,o,h1,h2⟩,h3⟩:=hE j q hq;refine⟨b,o,h1,λi v e=>?_,(NmV.nms (NmV.q_ h3 hW2) (by unfold KV;omega)).1⟩;replace h2:=C3.q_ h2 hW2
   match i,e with
   | 0,e=>cases e;exact h2.x0
   | 1,e=>cases e;exact h2.x1
   | 2,e=>cases e;exact h2.x2
   | i+3,e=>cases e
  have hz9:=λW (hW2:Bl w W)=>zrK (L:=KV L) (k:=cs.length) (E:=E) HLn.out (λj q e=>(hE j q e).2) (HZ.out.q_ hW2)
  have HZ9:=zk hz9;have HQ:=zk (hz9 w (Below.refl _ _)).1;clear hE hz9 HZ;obtain⟨qe,hqe⟩:∃t,eqfB sqB cs.length k2 E Z=t:=⟨_,rfl⟩;rw[hqe]at CE HQ
  have HQE:=zk hqe;clear hqe;have p2:=BP.out.cell (j:=2) rfl;go_wp2_with fail
  clear p2
  go_at_call 37
  refine(CE.out _ (Below.refl _ _)).mono ?_;rintro e w5 ⟨rfl,hb5⟩;replace HB:=zJ HB hb5;replace BM:=zk (BM.out.q_ hb5);replace BP:=zk (BP.out.q_ hb5)
  clear hb5;clear CE;cases qe
  case false =>
   have HE:Hid (zes e1 0 k2 Z cs rs xs ys=false):=by show _=_;unfold zes;rw[HZS.out,<-HQ.out];simp
   clear CA HRF;go_wp2
   go_ret2
   exact⟨by rw[HE.out];rfl,HB.out⟩
  have HE:Hid (zes e1 0 k2 Z cs rs xs ys=ar):=by show _=_;unfold zes;rw[HZS.out,<-HQ.out,HFS.out,HAR.out];simp
  obtain⟨g1,g2⟩:=(HZ9.out _ HB.out).2 HQE.out;have CA2:=zk (CA.out _ HB.out HE1.out (by first|rfl|trivial) g1 g2);clear CA g1 g2 HZ9 HQ HQE HRF;obtain⟨r0,r1,r2,r3,r4⟩:=bk5 BM.out;obtain⟨p0,p1,p2⟩:=bk3 BP.out;go_wp2_with fail
  clear r0 r1 r2 r3 r4 p0 p1 p2
  go_at_call 39
  refine CA2.out.mono ?_;rintro e w6 ⟨rfl,hb6⟩;replace HB:=zJ HB hb6;replace BM:=zk (BM.out.q_ hb6);replace BP:=zk (BP.out.q_ hb6)
  clear hb6;go_wp2
  go_ret2
  exact⟨by rw[HE.out];rfl,HB.out⟩
theorem zfh {L w ao p} (h:Rf L w ao p) (hL:L<=65536):∃E,Rl w ao p.length E/\afB p.length E=true/\zbh p.length E=p:=by
 obtain⟨E,hE⟩:=zql h;have hg:∀j,j<p.length->p[j]?=some (p.getD j 0):=λj hj=>by rw[List.getD_eq_getElem?_getD,getElem?_eq_getElem hj];rfl
 refine⟨E,λj hj=>?_,zol (λj _ hj=>(NmV.nms (hE j _ (hg j (by omega))).2 hL).2),?_⟩
 ·obtain⟨⟨b,o,h1,h2⟩,h3⟩:=hE j _ (hg j hj);exact⟨b,o,h1,h2,(NmV.nms h3 hL).1⟩
 ·refine List.ext_getElem? (λj=>?_);unfold zbh;by_cases hj:j<p.length
  ·rw[List.getElem?_map,List.getElem?_range hj,hg j hj];exact congrArg some (Rn.nq (hE j _ (hg j hj)).2)
  ·rw[List.getElem?_eq_none (by simp;omega),List.getElem?_eq_none (by omega)]
theorem zrr {k X z} (h:afB k X=true) (e:(k:Int)=z):pnE k X z=0:=by unfold pnE;rw[if_pos h,if_pos e]
theorem zhk {M k X} (h:zaw M=0) (h0:afB k X=true) (e0:k=M.rk):zbA M k X=0:=by
 subst e0;unfold zbA;rw[h,zrr h0 rfl];rfl
theorem zjC {w L M off cs rs a1 k1 c1 ys} (h:MoV L w M off cs rs) (ho:zbl cs rs=true) (hy:Rf L w a1 ys) (l1:ys.length=k1) (q1:k1=rs.length) (hL:L<=30):Calls prog 10 #[M.val,slice a1 k1 c1] w λe w'=>ziL L w w' e 0 cs rs ys:=by
 obtain⟨h1,h2⟩:=h.chk (by omega) ho;have mp:=zbk ho;have hcl:=mp.cl;have hrl:=mp.rl
 obtain⟨Y,y1,z1,_⟩:=zfh hy (by omega);rw[l1]at y1 z1
 have he:zbA M k1 Y=0:=zhk h1 z1 (by rw[h.rk];exact q1);exact zdt (λ_ _=>h2) y1 (by omega) he (λ_=>⟨h,ho,hy,l1,q1⟩) hL
theorem ziy {w L M off cs rs a1 k1 c1 ys} (h:MoV L w M off cs rs) (ho:zbl cs rs=true) (hy:Rf L w a1 ys) (l1:ys.length=k1) (q1:k1=rs.length) (hL4:4<=L) (hL:L<=8):Calls prog 11 #[M.val,slice a1 k1 c1] w λe w'=>zoB L w w' e 0 (bnP off cs rs ys):=by
 obtain⟨h1,h2⟩:=h.chk (by omega) ho;have mp:=zbk ho;have hcl:=mp.cl;have hrl:=mp.rl
 obtain⟨Y,y1,z1,_⟩:=zfh hy (by omega);rw[l1]at y1 z1
 have he:zbA M k1 Y=0:=zhk h1 z1 (by rw[h.rk];exact q1);exact zix (λ_ _=>h2) y1 (by omega) he (λ_=>⟨h,ho,hy,l1,q1⟩) hL4 hL
theorem znU {w L M off cs rs a1 k1 c1 ys a0 a2 k0 c0 k2 c2 xs zs} (h:MoV L w M off cs rs) (ho:zbl cs rs=true) (hy:Rf L w a1 ys) (l1:ys.length=k1) (q1:k1=rs.length) (hx:Rf L w a0 xs) (l0:xs.length=k0) (q0:k0=cs.length) (hz:Rf L w a2 zs) (l2:zs.length=k2) (hk2:k2<=1000) (hL:L<=30) :
  Calls prog 12 #[M.val,agg #[slice a0 k0 c0,slice a1 k1 c1,slice a2 k2 c2]] w λe w'=>e=returned (.tuple #[.bool (zfA cs rs xs && (decide (zs=zaB rs ys 0 cs) && arB cs rs xs ys (zaB rs ys 0 cs))),.int .i64 0])/\Bl w w':=by
 obtain⟨h1,h2⟩:=h.chk (by omega) ho;have mp:=zbk ho;have hcl:=mp.cl;have hrl:=mp.rl
 obtain⟨Y,y1,z1,_⟩:=zfh hy (by omega);rw[l1]at y1 z1
 have he:zbA M k1 Y=0:=zhk h1 z1 (by rw[h.rk];exact q1);obtain⟨X,y0,z0,_⟩:=zfh hx (by omega);rw[l0]at y0 z0
 obtain⟨Z,y2,z2,p2⟩:=zfh hz (by omega);rw[l2]at y2 z2 p2
 have he0:zcB M k0 X=0:=zpn h1 z0 (by rw[h.ck];exact q0);have:=ziw (c0:=c0) (c1:=c1) (c2:=c2) (λ_ _=>h2) y0 y1 y2 (by omega) (by omega) (by omega) he0 he (λ_=>⟨h,ho,hx,l0,q0⟩) (λ_=>⟨h,ho,hy,l1,q1⟩) hL;rw[h1]at this
 unfold zes at this;rw[z2,p2]at this
 simpa using this
theorem zkz:zbl k2C k2R=true:=by decide +kernel
theorem zsB:zaB k2R [((-1:Int):Rat)/2] 0 k2C=[((-1:Int):Rat)/2,((0:Int):Rat)]:=by decide +kernel
theorem k2_b1:smI (bnP 3 k2C k2R [((-1:Int):Rat)/2])=0/\smQ (bnP 3 k2C k2R [((-1:Int):Rat)/2])=((-2:Int):Rat):=by decide +kernel
theorem zsC:smI (bnP 3 k2C k2R [((1:Int):Rat)])=-1:=by decide +kernel
theorem k2_h:(zfA k2C k2R [((4:Int):Rat),((1:Int):Rat)] && (decide ([((-1:Int):Rat)/2,((0:Int):Rat)]=zaB k2R [((-1:Int):Rat)/2] 0 k2C) && arB k2C k2R [((4:Int):Rat),((1:Int):Rat)] [((-1:Int):Rat)/2] (zaB k2R [((-1:Int):Rat)/2] 0 k2C)))=true:=by decide +kernel
theorem zlU (w:World):Calls prog 4 #[] w λe w'=>e=returned (.bool true)/\Bl w w':=by
 have HB:=zk (Below.refl w.heap.size w);go_enter func4,ntmps4;go_wp2_with fail
 refine first11_c.mono ?_;rintro e v1 ⟨⟨⟨sm,xm,nm,cm,fm,ym,mm,dm,gm⟩,cam,ckm,ccm,Cm,ram,rkm,rcm,Rm⟩,rfl,hb,HM⟩;replace HB:=zJ HB hb;clear hb;go_wp2_with fail
 refine(zcH (z:=-1) (by decide) (by decide) zhX).mono ?_;rintro e v2 ⟨sh,xh,nh,ch,fh,yh,mh,dh,gh,rfl,hb,hr⟩;have hn:=zB v2 (cells #[.bool sh,slice xh nh ch,slice yh mh dh] 24);have hbn:=bUp hb hn;replace HB:=zJ HB hbn;replace HM:=zk (HM.out.q_ hbn)
 have HX:=zk (show Rf 8 (v2.alloc (cells #[.bool sh,slice xh nh ch,slice yh mh dh] 24)) (some ⟨v2.heap.size,0,none⟩) [((-1:Int):Rat)/2]from(zhd (base:=0) (hr.out.mono (by decide)) (Nat.zero_le _)).rf);clear hb hr hn hbn;go_wp2_with fail
 generalize v2.alloc (cells #[.bool sh,slice xh nh ch,slice yh mh dh] 24)=vvv2 at *;generalize v2.heap.size=ppv2 at *;refine(zjC (L:=8) HM.out zkz HX.out rfl rfl (by decide)).mono ?_;rintro e v3 ⟨hb,⟨h9,_⟩|⟨_,za,zc,rfl,_,hrf⟩⟩
 ·exact absurd rfl h9
 rw[zsB]at hrf
 rw[show k2C.length=2 from rfl];have HZ:=zk hrf;replace HB:=zJ HB hb;clear hb hrf HM HX;go_wp2_with fail
 refine first11_c.mono ?_;rintro e v4 ⟨⟨⟨sm,xm,nm,cm,fm,ym,mm,dm,gm⟩,cam,ckm,ccm,Cm,ram,rkm,rcm,Rm⟩,rfl,hb,HM⟩;replace HB:=zJ HB hb;replace HZ:=zk (HZ.out.q_ hb)
 clear hb;go_wp2_with fail
 refine(zcH (z:=-1) (by decide) (by decide) zhX).mono ?_;rintro e v5 ⟨sh,xh,nh,ch,fh,yh,mh,dh,gh,rfl,hb,hr⟩;have hn:=zB v5 (cells #[.bool sh,slice xh nh ch,slice yh mh dh] 24);have hbn:=bUp hb hn;replace HB:=zJ HB hbn;replace HZ:=zk (HZ.out.q_ hbn);replace HM:=zk (HM.out.q_ hbn)
 have HX:=zk (show Rf 8 (v5.alloc (cells #[.bool sh,slice xh nh ch,slice yh mh dh] 24)) (some ⟨v5.heap.size,0,none⟩) [((-1:Int):Rat)/2]from(zhd (base:=0) (hr.out.mono (by decide)) (Nat.zero_le _)).rf);clear hb hr hn hbn;go_wp2_with fail
 generalize v5.alloc (cells #[.bool sh,slice xh nh ch,slice yh mh dh] 24)=vvv5 at *;generalize v5.heap.size=ppv5 at *;refine(ziy (L:=8) HM.out zkz HX.out rfl rfl (by decide) (by decide)).mono ?_;rintro e v6 ⟨hb,⟨h9,_⟩|⟨_,sb,xb,nb,cb,fb,yb,mb,db,gb,rfl,hen⟩⟩
 ·exact absurd rfl h9
 rw[k2_b1.1]at hen ⊢
 rw[k2_b1.2]at hen
 have hn:=zB v6 (cells #[.int .i64 0,.bool sb,slice xb nb cb,slice yb mb db] 40);have hbn:=bUp hb hn;replace HB:=zJ HB hbn;replace HZ:=zk (HZ.out.q_ hbn)
 have Bb:=zk (zF v6 [.int .i64 0,.bool sb,slice xb nb cb,slice yb mb db] 40);have Hb:=zk (Rn.q_ hen.rn hn);clear hb hen hn hbn HM HX;go_wp2_with fail
 generalize v6.alloc (cells #[.int .i64 0,.bool sb,slice xb nb cb,slice yb mb db] 40)=vvv6 at *;generalize v6.heap.size=bxb at *;refine first11_c.mono ?_;rintro e v7 ⟨⟨⟨sm,xm,nm,cm,fm,ym,mm,dm,gm⟩,cam,ckm,ccm,Cm,ram,rkm,rcm,Rm⟩,rfl,hb,HM⟩;replace HB:=zJ HB hb;replace HZ:=zk (HZ.out.q_ hb);replace Bb:=zk (Bb.out.q_ hb);replace Hb:=zk (Hb.out.q_ hb)
 clear hb;go_wp2_with fail
 refine(zaF (z:=1) (by decide) (by decide)).mono ?_;rintro e v8 ⟨sh,xh,nh,ch,fh,yh,mh,dh,gh,rfl,hb,hr⟩;have hn:=zB v8 (cells #[.bool sh,slice xh nh ch,slice yh mh dh] 24);have hbn:=bUp hb hn;replace HB:=zJ HB hbn;replace HZ:=zk (HZ.out.q_ hbn);replace Bb:=zk (Bb.out.q_ hbn);replace Hb:=zk (Hb.out.q_ hbn);replace HM:=zk (HM.out.q_ hbn)
 have HX:=zk (show Rf 8 (v8.alloc (cells #[.bool sh,slice xh nh ch,slice yh mh dh] 24)) (some ⟨v8.heap.size,0,none⟩) [((1:Int):Rat)]from(zhd (base:=0) (hr.mono (by decide)) (Nat.zero_le _)).rf);clear hb hr hn hbn;go_wp2_with fail
 generalize v8.alloc (cells #[.bool sh,slice xh nh ch,slice yh mh dh] 24)=vvv8 at *;generalize v8.heap.size=ppv8 at *;refine(ziy (L:=8) HM.out zkz HX.out rfl rfl (by decide) (by decide)).mono ?_;rintro e v9 ⟨hb,⟨h9,_⟩|⟨_,sc,xc,nc,cc,fc,yc,mc,dc,gc,rfl,hen⟩⟩
 ·exact absurd rfl h9
 rw[zsC]at hen ⊢
 have hn:=zB v9 (cells #[.int .i64 (-1),.bool sc,slice xc nc cc,slice yc mc dc] 40);have hbn:=bUp hb hn;replace HB:=zJ HB hbn;replace HZ:=zk (HZ.out.q_ hbn);replace Bb:=zk (Bb.out.q_ hbn);replace Hb:=zk (Hb.out.q_ hbn)
 have Bc:=zk (zF v9 [.int .i64 (-1),.bool sc,slice xc nc cc,slice yc mc dc] 40);clear hb hen hn hbn HM HX;go_wp2_with fail
 generalize v9.alloc (cells #[.int .i64 (-1),.bool sc,slice xc nc cc,slice yc mc dc] 40)=vvv9 at *;generalize v9.heap.size=bxc at *;refine first11_c.mono ?_;rintro e v10 ⟨⟨⟨sm,xm,nm,cm,fm,ym,mm,dm,gm⟩,cam,ckm,ccm,Cm,ram,rkm,rcm,Rm⟩,rfl,hb,HM⟩;replace HB:=zJ HB hb;replace HZ:=zk (HZ.out.q_ hb);replace Bb:=zk (Bb.out.q_ hb);replace Hb:=zk (Hb.out.q_ hb);replace Bc:=zk (Bc.out.q_ hb)
 clear hb;go_wp2_with fail
 refine best11_c.mono ?_;rintro e v11 ⟨ax,ay,az,rfl,hb,hr⟩;replace HB:=zJ HB hb;replace HZ:=zk (HZ.out.q_ hb);replace Bb:=zk (Bb.out.q_ hb);replace Hb:=zk (Hb.out.q_ hb);replace Bc:=zk (Bc.out.q_ hb);replace HM:=zk (HM.out.q_ hb)
 have HP:=zk hr.out;clear hb hr;go_wp2_with fail
 refine(znU (L:=8) HM.out zkz HP.out.2.1 rfl rfl HP.out.1 rfl rfl HP.out.2.2 rfl (by decide) (by decide)).mono ?_;rintro e w5 ⟨rfl,hb⟩;rw[k2_h];replace HB:=zJ HB hb;replace HZ:=zk (HZ.out.q_ hb);replace Bb:=zk (Bb.out.q_ hb);replace Hb:=zk (Hb.out.q_ hb);replace Bc:=zk (Bc.out.q_ hb)
 clear hb HM HP;go_upto_region 5 with fail
 obtain⟨zb,zo,⟨s,x,n,c,f,y,m,d,g⟩,hb1,⟨p0,p1,p2⟩,hr⟩:=HZ.out 0 _ rfl;subst hb1;replace p0:w5.cell? ⟨zb,zo,none⟩=some (.bool s):=p0;replace p1:w5.cell? ⟨zb,zo+1,none⟩=some (slice x n c):=p1;replace p2:w5.cell? ⟨zb,zo+2,none⟩=some (slice y m d):=p2;have HR:Hid (Rn (KV 8) w5 s x n c f y m d g (((-1:Int):Rat)/2)):=hr;clear hr HZ;have k0:=Bb.out.cell (j:=0) rfl;have k1:=Bb.out.cell (j:=1) rfl;have k2:=Bb.out.cell (j:=2) rfl;have k3:=Bb.out.cell (j:=3) rfl
 have j0:=Bc.out.cell (j:=0) rfl;have CD:=zk (λW=>zcH (w:=W) (z:=-1) (by decide) (by decide) zhX);have CE:Hid (∀W,Calls prog 21 #[.int .i64 (-2)] W λe w'=>∃s x n c f y m d g,e=returned (agg #[.int .i64 0,.bool s,slice x n c,slice y m d])/\Bl W w'/\Rn 8 w' s x n c f y m d g ((-2:Int):Rat)):=λW=>(zeM (w:=W) (z:=-2) (by decide) (by decide)).mono (λe w' ⟨v8,h1,h2,⟨i8,⟨s8,x8,n8,c8,f8,y8,m8,d8,g8⟩⟩,ev,hi8,hv⟩=>by replace hi8:i8=0:=hi8;subst hi8;exact⟨s8,x8,n8,c8,f8,y8,m8,d8,g8,by rw[h1,ev];rfl,h2,hv⟩)
 have CS:Hid (∀W s2 x2 n2 c2 f2 y2 m2 d2 g2,Bl w5 W->Rn 4 W s2 x2 n2 c2 f2 y2 m2 d2 g2 (((-1:Int):Rat)/2)->Calls prog 16 #[agg #[.bool s,slice x n c,slice y m d],agg #[.bool s2,slice x2 n2 c2,slice y2 m2 d2]] W λe w'=>e=returned (.bool true)/\Bl W w'):=λW s2 x2 n2 c2 f2 y2 m2 d2 g2 hW h2=>zbZ (HR.out.q_ hW) h2 (by decide) (by decide)
 have CT:Hid (∀W s3 x3 n3 c3 f3 y3 m3 d3 g3,Bl w5 W->Rn 8 W s3 x3 n3 c3 f3 y3 m3 d3 g3 ((-2:Int):Rat)->Calls prog 20 #[agg #[.int .i64 0,.bool sb,slice xb nb cb,slice yb mb db],agg #[.int .i64 0,.bool s3,slice x3 n3 c3,slice y3 m3 d3]] W λe w'=>e=returned (.bool true)/\Bl W w'):=λW s3 x3 n3 c3 f3 y3 m3 d3 g3 hW h2=>zme (λV hV=>zbZ (Rn.q_ (Rn.q_ Hb.out hW) hV) (Rn.q_ h2 hV) (by decide) (by decide))
 go_region_held3 (λw'=>w'.cell? ⟨zb,zo,none⟩=some (.bool s)/\w'.cell? ⟨zb,zo+1,none⟩=some (slice x n c)/\w'.cell? ⟨zb,zo+2,none⟩=some (slice y m d)/\w'.cell? ⟨bxb,0,none⟩=some (.int .i64 0)/\w'.cell? ⟨bxb,1,none⟩=some (.bool sb)/\w'.cell? ⟨bxb,2,none⟩=some (slice xb nb cb)/\w'.cell? ⟨bxb,3,none⟩=some (slice yb mb db)/\w'.cell? ⟨bxc,0,none⟩=some (.int .i64 (-1)))
  (refine⟨?_,?_,?_,?_,?_,?_,?_,?_⟩ <;> repeat(with_reducible first|assumption|refine kCd ?_|refine kCb (by assumption) ?_))
  (first
   | (go_at_call 18;with_reducible refine(CD.out _).mono ?_;rintro e w6 ⟨s6,x6,n6,c6,f6,y6,m6,d6,g6,rfl,hb6,H6⟩)
   | (go_at_call 21;with_reducible refine(CE.out _).mono ?_;rintro e w8 ⟨s8,x8,n8,c8,f8,y8,m8,d8,g8,rfl,hb8,H8⟩;replace H8:=zk H8)
   | (go_at_call 16;with_reducible refine(CS.out _ s6 x6 n6 c6 f6 y6 m6 d6 g6 zai (H6.out.q_ zai)).mono ?_;rintro e w7 ⟨rfl,hb7⟩)
   | (go_at_call 20;with_reducible refine(CT.out _ s8 x8 n8 c8 f8 y8 m8 d8 g8 zai (H8.out.q_ zai)).mono ?_;rintro e w9 ⟨rfl,hb9⟩))
 all_goals
  have HB9:=zk (HB.out.trans ((show Bl w5 w9 from zai).mono HB.out.size));clear p0 p1 p2 k0 k1 k2 k3 j0 CD CS CE CT HR;go_wp2;go_ret;exact⟨by first|rfl|simp,HB9.out⟩
structure Fr (F:Nat->Prop) (w w':World):Prop where
 os:w'.os=w.os
 tape:w'.tape=w.tape
 output:w'.output=w.output
 size:w.heap.size<=w'.heap.size
 block:∀k,k<w.heap.size->¬F k->w'.heap[k]?=w.heap[k]?
 kp:∀a k f,Rd .u64 w a k f->Rd .u64 w' a k f
theorem Fr.of {F w w'} (h:Bl w w'):Fr F w w':=⟨h.os,h.tape,h.output,h.size,λk hk _=>h.block k hk,λ_ _ _ r=>r.kp (Kp.of_below h)⟩
theorem Fr.refl (F:Nat->Prop) (w:World):Fr F w w:=⟨rfl,rfl,rfl,le_refl _,λ_ _ _=>rfl,λ_ _ _ r=>r⟩
theorem Fr.trans {F w w1 w2} (h:Fr F w w1) (k:Fr F w1 w2):Fr F w w2 :=
 ⟨k.os.trans h.os,k.tape.trans h.tape,k.output.trans h.output,le_trans h.size k.size,λj hj hn=>(k.block j (Nat.lt_of_lt_of_le hj h.size) hn).trans (h.block j hj hn),λ_ _ _ r=>k.kp _ _ _ (h.kp _ _ _ r)⟩
theorem Fr.rn {F w w' L s x n c f y m d g q} (h:Fr F w w') (r:Rn L w s x n c f y m d g q):Rn L w' s x n c f y m d g q :=
 ⟨⟨h.kp _ _ _ r.num.rd,r.num.lm,r.num.wf,r.num.cap,r.num.nil,r.num.val⟩,⟨h.kp _ _ _ r.den.rd,r.den.lm,r.den.wf,r.den.cap,r.den.nil,r.den.val⟩,r.ln,r.ld⟩
theorem Fr.imp {F G w w'} (h:Fr F w w') (hi:∀k,F k->G k):Fr G w w':=⟨h.os,h.tape,h.output,h.size,λk hk hn=>h.block k hk (λhf=>hn (hi k hf)),h.kp⟩
theorem Fr.q_ {F w0 w w'} (h0:Bl w0 w) (h:Fr F w w') (hF:∀k,F k->w0.heap.size<=k):Bl w0 w' :=
 ⟨h.os.trans h0.os,h.tape.trans h0.tape,h.output.trans h0.output,le_trans h0.size h.size,λk hk=>(h.block k (Nat.lt_of_lt_of_le hk h0.size) (λhf=>by have:=hF k hf;omega)).trans (h0.block k hk)⟩
theorem Fr.bk {F w w' B vs t} (h:Fr F w w') (hb:Bk w B vs t) (hn:¬F B):Bk w' B vs t:=(h.block B hb.lt hn).trans hb
theorem Fr.cell {F w w' b o v} (h:Fr F w w') (hn:¬F b) (hc:w.cell? ⟨b,o,none⟩=some v):w'.cell? ⟨b,o,none⟩=some v:=(cell?_of_block (a:=⟨b,o,none⟩) (h.block b (block_lt_of_cell? w _ hc) hn)).trans hc
theorem Tf.fr {F L w w' ao v} (h:Tf L w ao v) (hf:Fr F w w') (hn:∀b o,ao=some ⟨b,o,none⟩->¬F b):Tf L w' ao v:=λj a q e=>by
 obtain⟨b,o,t,h1,h2,h3⟩:=h j a q e;have hb:=hn b o h1;exact⟨b,o,t,h1,⟨hf.cell hb h2.x0,hf.cell hb h2.x1,hf.cell hb h2.x2,hf.cell hb h2.x3⟩,hf.rn h3⟩
structure BV where
 q:Rat
 i:Int
 a:Rat
 up:Bool
 ts:List (Int × Rat)
theorem zge {w w':World} {B o} (h:w'.heap[B]?=w.heap[B]?):w'.frozen? ⟨B,o,none⟩=w.frozen? ⟨B,o,none⟩:=by
 simp only[World.frozen?,h]
theorem Rk.fr {F w w' B n} (h:Rk w B n) (hf:Fr F w w') (hn:¬F B):Rk w' B n :=
 ⟨Nat.lt_of_lt_of_le h.z hf.size,λo ho=>by obtain⟨u,h1,h2⟩:=h.has o ho;exact⟨u,hf.cell hn h1,h2⟩,λo=>(zge (hf.block B h.z hn)).trans (h.fz o)⟩
theorem Sx.fr {F w w' B s x n c y m d} (h:Sx w B s x n c y m d) (hf:Fr F w w') (hn:¬F B):Sx w' B s x n c y m d :=
 ⟨Nat.lt_of_lt_of_le h.z hf.size,hf.cell hn h.x0,hf.cell hn h.x1,hf.cell hn h.x2,λo=>(zge (hf.block B h.z hn)).trans (h.fz o)⟩
theorem Bk.sx {w B s x n c y m d t} (h:Bk w B [.bool s,slice x n c,slice y m d] t):Sx w B s x n c y m d:=⟨h.lt,h.cell (j:=0) rfl,h.cell (j:=1) rfl,h.cell (j:=2) rfl,h.frozen⟩
theorem Ob.sx {w B} (h:Ob w B):Sx w B false none 0 0 none 0 0:=⟨h.z,h.z0,h.z1,h.z2,h.zf⟩
theorem Ob.fr {F w w' B} (h:Ob w B) (hf:Fr F w w') (hn:¬F B):Ob w' B:=by
 have:=h.sx.fr hf hn;exact⟨this.z,this.x0,this.x1,this.x2,this.fz⟩
theorem Rf.fr {F L w w' B o p} (h:Rf L w (some ⟨B,o,none⟩) p) (hf:Fr F w w') (hn:¬F B):Rf L w' (some ⟨B,o,none⟩) p:=λj q e=>by
 obtain⟨b,o',t,e1,h1,h2⟩:=h j q e;cases e1
 exact⟨_,_,t,rfl,⟨hf.cell hn h1.x0,hf.cell hn h1.x1,hf.cell hn h1.x2⟩,hf.rn h2⟩
structure T4 (w:World) (b0 b1 b2 b3:Option Addr) (k0:Nat) (X0 Y0:Nat->Nm) (k1:Nat) (X1 Y1:Nat->Nm) (k2:Nat) (X2 Y2:Nat->Nm) (k3:Nat) (X3 Y3:Nat->Nm):Prop where
 t0:Tx w b0 k0 X0 Y0
 t1:Tx w b1 k1 X1 Y1
 t2:Tx w b2 k2 X2 Y2
 t3:Tx w b3 k3 X3 Y3
theorem T4.q_ {w w' b0 b1 b2 b3 k0 X0 Y0 k1 X1 Y1 k2 X2 Y2 k3 X3 Y3} (h:T4 w b0 b1 b2 b3 k0 X0 Y0 k1 X1 Y1 k2 X2 Y2 k3 X3 Y3) (hb:Bl w w'):T4 w' b0 b1 b2 b3 k0 X0 Y0 k1 X1 Y1 k2 X2 Y2 k3 X3 Y3:=⟨h.t0.q_ hb,h.t1.q_ hb,h.t2.q_ hb,h.t3.q_ hb⟩
theorem zhL (M:Mo):(zbq M).length=M.rk:=by simp[zbq]
theorem zcK {M k X} (h:zbA M k X=0):zaw M=0/\afB k X=true/\k=M.rk:=by
 obtain⟨h1,h2⟩:=zhD h;refine⟨h1,?_⟩;unfold pnE at h2;by_cases a:afB k X=true
 ·rw[if_pos a]at h2
  by_cases b:k=M.rk
  ·exact⟨a,b⟩
  ·rw[if_neg (by omega)]at h2;cases h2
 ·rw[if_neg a]at h2;cases h2
theorem zfC {K w ao k X X' M M'} (h:TmK K w M M') (hx:Tx w ao k X X'):zbA M' k X'=zbA M k X:=by
 unfold zbA;rw[h.1.chk,h.1.rk];unfold pnE;rw[show afB k X'=afB k X from zfJ (λj _ b=>hx.2 j (by omega))]
theorem zhg {K w ao k X X' M M'} (L:Nat) (hL:K<=L) (hK:K<=100) (h:TmK K w M M') (hN:MoN M) (hx:Tx w ao k X X') (hs:ShK K k X) (he:zbA M k X=0):MoV L w M' (nq M.off) (zbj M) (zbq M)/\zbl (zbj M) (zbq M)=true/\Rf L w ao (zbh k X)/\(zbh k X).length=k/\k=(zbq M).length:=by
 obtain⟨h1,h2,h3⟩:=zcK he;obtain⟨a,b⟩:=h.valL L hL hK hN h1;exact⟨a,b,(hx.valK hs h2).mono hL,zcA _ _,by rw[zhL];exact h3⟩
theorem zlS {K w M M' ao k cap X X'} (h:TmK K w M M') (hN:MoN M) (hx:Tx w ao k X X') (hs:ShK K k X) (hK4:4<=K) (hK:K<=8) :
  Calls prog 11 #[M'.val,slice ao k cap] w λe w'=>zoB K w w' e (zbA M k X) (bnP (nq M.off) (zbj M) (zbq M) (zbh k X)) :=
 zix h.2.1 hx.1 (by have:=hs.1;omega) (zfC h hx) (λhe=>zhg K (by omega) (by omega) h hN hx hs he) hK4 hK
def zsE (M:Mo) (k0:Nat) (X0:Nat->Nm) (k1:Nat) (X1:Nat->Nm) (k2:Nat) (X2:Nat->Nm):Bool:=decide (zaw M=0) && zes (zcB M k0 X0) (zbA M k1 X1) k2 X2 (zbj M) (zbq M) (zbh k0 X0) (zbh k1 X1)
theorem zlG {K w M M' a0 a1 a2 k0 c0 k1 c1 k2 c2 X0 X1 X2 Y0 Y1 Y2} (h:TmK K w M M') (hN:MoN M) (t0:Tx w a0 k0 X0 Y0) (t1:Tx w a1 k1 X1 Y1) (t2:Tx w a2 k2 X2 Y2) (s0:ShK K k0 X0) (s1:ShK K k1 X1) (s2:ShK K k2 X2) (hK:K<=30) :
  Calls prog 12 #[M'.val,agg #[slice a0 k0 c0,slice a1 k1 c1,slice a2 k2 c2]] w λe w'=>e=returned (.tuple #[.bool (zsE M k0 X0 k1 X1 k2 X2),.int .i64 (zaw M)])/\Bl w w':=by
 have:=ziw (c0:=c0) (c1:=c1) (c2:=c2) h.2.1 t0.1 t1.1 t2.1 (by have:=s0.1;omega) (by have:=s1.1;omega) (by have:=s2.1;omega) (znd h t0) (zfC h t1) (λhe=>zqS K (by omega) (by omega) h hN t0 s0 he) (λhe=>zhg K (by omega) (by omega) h hN t1 s1 he) hK;unfold zsE;rw[h.1.chk]at this
 unfold zes at this ⊢;rw[show afB k2 Y2=afB k2 X2 from zfJ (λj _ b=>t2.2 j (by omega)),zgR t2.2]at this
 exact this
theorem zno {cs rs} (h:zbl cs rs=true):∀v ∈ rs,tsB cs.length (-1) v.ts=true:=λv hv=>by
 simp only[zbl,Bool.and_eq_true,decide_eq_true_eq,List.all_eq_true]at h;exact(h.2.2.2.1 v hv).2.1
theorem zje {w M ao k cap X} (hI:In8 w M) (hx:Rl w ao k X) (hs:ShK 8 k X) :
  Calls prog 40 #[M.val,slice ao k cap] w λe w'=>e=returned (.int .i64 (zbA M k X))/\Bl w w':=by
 have CC:=zk (λW (hW:Bl w W)=>zjw (w:=W) ((hI.x.q_ hW).both hI.n hI.k (by decide)) hI.c);have CF:=zk (λW (hW:Bl w W)=>zpQ (w:=W) (cap:=cap) (hx.q_ hW) (by have:=hs.1;omega) (λj hj=>by have:=hs.2 j hj;omega));obtain⟨ec,hec⟩:∃e,zaw M=e:=⟨_,rfl⟩;obtain⟨bf,hbf⟩:∃e,afB k X=e:=⟨_,rfl⟩;unfold zbA pnE;rw[hec]at CC ⊢
 rw[hbf]at CF ⊢
 clear hI hx hs hec hbf;obtain⟨⟨s,x,n,c,f,y,m,d,g⟩,ca,ck,cc,C,ra,rk,rc,R⟩:=M;replace CC:Hid (∀W,Bl w W->Calls prog 73 #[agg #[.bool s,slice x n c,slice y m d,slice ca ck cc,slice ra rk rc]] W λe w'=>e=returned (.int .i64 ec)/\Bl W w'):=CC;show Calls prog 40 #[agg #[.bool s,slice x n c,slice y m d,slice ca ck cc,slice ra rk rc],slice ao k cap] w λe w'=>e=returned (.int .i64 (lsf (two ec (if bf=true then (if (k:Int)=(rk:Int) then 0 else 7) else 3)) 2))/\Bl w w'
 rw[zeR];obtain⟨er,her⟩:∃e,lstep ec (if bf=true then (if (k:Int)=(rk:Int) then 0 else 7) else 3)=e:=⟨_,rfl⟩;rw[her];have HE:=zk her;clear her;have HB:=zk (zB w (cells #[.bool s,slice x n c,slice y m d,slice ca ck cc,slice ra rk rc] 28));have BM:=zk (zF w [.bool s,slice x n c,slice y m d,slice ca ck cc,slice ra rk rc] 28);go_enter func40,ntmps40;obtain⟨r0,r1,r2,r3,r4⟩:=bk5 BM.out;go_wp2_with fail
 clear r0 r1 r2 r3 r4;generalize(w.alloc (cells #[.bool s,slice x n c,slice y m d,slice ca ck cc,slice ra rk rc] 28))=v0 at *;refine(CC.out _ HB.out).mono ?_;rintro e v1 ⟨rfl,hb⟩;replace HB:=zJ HB hb;replace BM:=zk (BM.out.q_ hb)
 clear hb;go_wp2_with fail
 refine(CF.out _ HB.out).mono ?_;rintro e v2 ⟨rfl,hb⟩;replace HB:=zJ HB hb;replace BM:=zk (BM.out.q_ hb)
 clear hb;clear CC CF;cases bf
 ·have h0:lstep ec 3=er:=HE.out;have hb:=zB v2 (cells #[.int .i64 ec,.int .i64 3] 3);go_wp2_with fail
  refine(zdN zdR (by decide)).mono ?_;rintro e w5 ⟨rfl,rfl⟩;replace HB:=zJ HB hb;replace BM:=zk (BM.out.q_ hb)
  clear hb;generalize v2.alloc (cells #[.int .i64 ec,.int .i64 3] 3)=v2' at *;rw[zeR,h0];have r4:=BM.out.cell (j:=4) rfl;by_cases hk:((k:Nat):Int)=((rk:Nat):Int)
  ·have hk':(((k:Nat):Int) != ((rk:Nat):Int))=false:=by simp[hk]
   go_wp2;go_ret;exact⟨rfl,HB.out⟩
  ·have hk':(((k:Nat):Int) != ((rk:Nat):Int))=true:=by simpa using hk
   have h1:lstep er 7=er:=by rw[<-h0];exact znw ec
   have hb:=zu (Below.refl v2'.heap.size v2') (cells #[.int .i64 er,.int .i64 7] 3);go_wp2_with fail
   refine(zdN zdR (by decide)).mono ?_;rintro e w5 ⟨rfl,rfl⟩;replace HB:=zJ HB hb;replace BM:=zk (BM.out.q_ hb)
   clear hb;generalize v2'.alloc (cells #[.int .i64 er,.int .i64 7] 3)=v2'' at *;rw[zeR,h1];go_wp2;go_ret;exact⟨rfl,HB.out⟩
 ·have h0:lstep ec (if (k:Int)=(rk:Int) then 0 else 7)=er:=HE.out;have r4:=BM.out.cell (j:=4) rfl;by_cases hk:((k:Nat):Int)=((rk:Nat):Int)
  ·have hk':(((k:Nat):Int) != ((rk:Nat):Int))=false:=by simp[hk]
   have h9:lstep ec 0=ec:=by unfold lstep;split <;> omega
   rw[if_pos hk,h9]at h0
   subst h0;clear h9;go_wp2;go_ret;exact⟨rfl,HB.out⟩
  ·have hk':(((k:Nat):Int) != ((rk:Nat):Int))=true:=by simpa using hk
   rw[if_neg hk]at h0
   have hb:=zB v2 (cells #[.int .i64 ec,.int .i64 7] 3);go_wp2_with fail
   refine(zdN zdR (by decide)).mono ?_;rintro e w5 ⟨rfl,rfl⟩;replace HB:=zJ HB hb;replace BM:=zk (BM.out.q_ hb)
   clear hb;generalize v2.alloc (cells #[.int .i64 ec,.int .i64 7] 3)=v2' at *;rw[zeR,h0];go_wp2;go_ret;exact⟨rfl,HB.out⟩
theorem zmt {w x n c d V} (h:Dn w x n d V) (hn:n<=1048576) :
  Calls prog 52 #[slice x n c] w λe w'=>∃z k c' f,e=returned (slice z k c')/\Bl w w'/\Hid (k<=n/\Wn w' false z k c' f (V:Int)/\Dw w' w.heap.size z k) :=
 (zjV x n c d w hn h.rd h.dg h.fm).mono (λ_ _ ⟨z,k,c',f,h1,h2,h3,_,h4,h5,h6,h7⟩=>⟨z,k,c',f,h1,h3,h4,znf h2 h5 h6 (h7.trans h.val),zjg h2⟩)
theorem zsr {w r x n c d y m e g A B} (ha:Dn w x n d A) (hb:Dn w y m g B) (hn:n<=200000) (hm:m<=200000) :
  Calls prog 26 #[agg #[.bool r,slice x n c,slice y m e]] w λen w'=>∃z k c' f z2 k2 c2 f2,en=returned (agg #[.bool r,slice z k c',slice z2 k2 c2])/\Bl w w'/\k<=n/\k2<=m/\Wn w' false z k c' f (A:Int)/\Wn w' false z2 k2 c2 f2 (B:Int)/\Dw w' w.heap.size z k/\Dw w' w.heap.size z2 k2:=by
 have h1:=(ha.alloc (cells #[.bool r,slice x n c,slice y m e] 73)).alloc (cells #[.bool false,slice none 0 0,slice none 0 0] 24);have h2:=(hb.alloc (cells #[.bool r,slice x n c,slice y m e] 73)).alloc (cells #[.bool false,slice none 0 0,slice none 0 0] 24);have h3:=zaA (w.alloc (cells #[.bool r,slice x n c,slice y m e] 73)) 24;rw[zw]at h3
 have h4:=zu (zB w (cells #[.bool r,slice x n c,slice y m e] 73)) (cells #[.bool false,slice none 0 0,slice none 0 0] 24);have h5:=(zbs w (.bool r) (slice x n c) (slice y m e) 73).alloc (cells #[.bool false,slice none 0 0,slice none 0 0] 24);clear ha hb;go_enter func26,ntmps26;go_wp2_with fail
 generalize(w.alloc (cells #[.bool r,slice x n c,slice y m e] 73)).alloc (cells #[.bool false,slice none 0 0,slice none 0 0] 24)=w1 at *;have HA:=zk h1;have HB:=zk h2;have OB:=h3;have HW:=zk h4
 obtain⟨hz,z0,z1,z2,zf⟩:=h3;obtain⟨hy,x0,x1,x2⟩:=h5;clear h1 h2 h4;have C1:Hid (∀W,Bl w1 W->Calls prog 52 #[slice x n c] W λe w'=>∃z k c' f,e=returned (slice z k c')/\Bl W w'/\Hid (k<=n/\Wn w' false z k c' f (A:Int)/\Dw w' W.heap.size z k)):=λW hW=>zmt (HA.out.q_ hW) (by omega)
 have C2:Hid (∀W,Bl w1 W->Calls prog 52 #[slice y m e] W λe w'=>∃z k c' f,e=returned (slice z k c')/\Bl W w'/\Hid (k<=m/\Wn w' false z k c' f (B:Int)/\Dw w' W.heap.size z k)):=λW hW=>zmt (HB.out.q_ hW) (by omega)
 go_region_held3 (λw'=>w'.cell? ⟨w.heap.size,0,none⟩=some (.bool r)/\w'.cell? ⟨w.heap.size,1,none⟩=some (slice x n c)/\w'.cell? ⟨w.heap.size,2,none⟩=some (slice y m e)/\(w'.cell? ⟨w.heap.size+1,0,none⟩).isSome=true/\(w'.cell? ⟨w.heap.size+1,1,none⟩).isSome=true/\(w'.cell? ⟨w.heap.size+1,2,none⟩).isSome=true/\w'.frozen? ⟨w.heap.size+1,0,none⟩=false/\w'.frozen? ⟨w.heap.size+1,1,none⟩=false/\w'.frozen? ⟨w.heap.size+1,2,none⟩=false)
  (refine⟨?_,?_,?_,?_,?_,?_,?_,?_,?_⟩ <;> repeat(with_reducible first|assumption|exact zf _|exact kI0 z0|exact kI0 z1|exact kI0 z2|exact tf _|exact kI0 t0|exact kI0 t1|exact kI0 t2|exact uf _|exact kI0 u0|exact kI0 u1|exact kI0 u2|refine kCd ?_|refine kId ?_|refine kFd ?_|refine kCs (by simp only[ne_eq];omega) ?_|refine kIs ?_|refine kFs ?_|refine kCb (by assumption) ?_|refine kIb (by assumption) ?_))
  (first
   | (go_at_call 52;with_reducible refine(C1.out _ zai).mono ?_;rintro e w5 ⟨za,ka,ca,fa,rfl,hb5,HP⟩;have TU:Ob w5 (w.heap.size+1):=(by repeat(with_reducible first|exact OB|exact hO2|exact TU|exact TV|exact TW|exact TX|exact TY|refine Ob.drew ?_|refine kOb (by assumption) ?_));obtain⟨_,t0,t1,t2,tf⟩:=id TU)
   | (go_at_call 52;with_reducible refine(C2.out _ zai).mono ?_;rintro e w6 ⟨zb,kb,cb,fb,rfl,hb6,HQ⟩;have TV:Ob w6 (w.heap.size+1):=(by repeat(with_reducible first|exact OB|exact hO2|exact TU|exact TV|exact TW|exact TX|exact TY|refine Ob.drew ?_|refine kOb (by assumption) ?_));obtain⟨_,u0,u1,u2,uf⟩:=id TV))
 have WA:Wn w6 false za ka ca fa (A:Int):=HP.out.2.1.q_ hb6;have hb:Bl w1 w6:=zai;have SX:Sx w6 (w.heap.size+1) false none 0 0 none 0 0:=⟨TV.z,TV.z0,TV.z1,TV.z2,TV.zf⟩;have HD:Hid (Dw2 w6 w.heap.size ⟨r,za,ka,ca,fa,zb,kb,cb,fb⟩):=⟨HQ.out.2.2.base (bUp HW.out zai).size,(HP.out.2.2.q_ hb6).base (bUp HW.out zai).size⟩;go_wp2;exact bodyPost_ret (v:=agg #[.bool r,slice za ka ca,slice zb kb cb]) (by simp[results,results26,go_sem,u0,u1,u2]) rfl ⟨za,ka,ca,fa,zb,kb,cb,fb,rfl,zU (bUp HW.out hb) (by omega),HP.out.1,HQ.out.1,TV.wn WA,TV.wn HQ.out.2.1,(HD.out.st3 SX).2,(HD.out.st3 SX).1⟩
theorem zmW {w s x n c d y m e g q} (h:Qn w s x n d y m g q) (hn:n<=200000) (hm:m<=200000) :
  Calls prog 26 #[agg #[.bool s,slice x n c,slice y m e]] w λen w'=>zhx (n+m) w w' en q:=by
 refine(zsr h.num.dn h.den hn hm).mono ?_;rintro en w' ⟨z,k,c',f,z2,k2,c2,f2,rfl,h2,h3,h4,h5,h6,h7,h8⟩;refine⟨s,z,k,c',f,z2,k2,c2,f2,rfl,h2,⟨⟨h5.rd,h5.lm,(wfB_iff _ _ _).2 ⟨fm_of_wfB h5.wf,λhs=>?_⟩,h5.cap,h5.nil,?_⟩,h6,by omega,by omega⟩,h8,h7⟩
 ·have h0:=h.num.dn.pos' (h.num.pos hs);rcases Nat.eq_zero_or_pos k with hk|hk
  ·subst hk;have hv:=h5.val;rw[zae]at hv
   have:(0:Int)=q.num.natAbs:=hv;omega
  ·exact hk
 ·have hv:=h5.val;rw[zae]at hv
  have hs:=h.num.sgn;cases s
  ·rw[zae,hv];exact hs.symm
  ·rw[zan,hv];exact hs.symm
def zqe (K:Nat) (w w':World) (e:Ending) (k:Nat) (p:List Rat):Prop:=∃a c,e=returned (slice a k c)/\Bl w w'/\(k<=c/\c<=9223372036854775807)/\Hid (GrO K w.heap.size w' (slice a k c) p)
def zrW (w w':World) (e:Ending) (er:Int) (k:Nat) (zs:List Rat):Prop:=Bl w w' /\
 ((er≠0/\e=returned (.tuple #[slice none 0 0,.int .i64 er]))∨(er=0/\∃a c,e=returned (.tuple #[slice a k c,.int .i64 0])/\(k<=c/\c<=9223372036854775807)/\GrO (2*(2*KZ 8)) w.heap.size w' (slice a k c) zs))
theorem zse {w K ao k cap p} (h:Rqs K w ao p) (hp:p.length=k) (hk:k<=10000) (hK:K<=200000) :
  Calls prog 41 #[slice ao k cap] w λe w'=>zqe (2*K) w w' e k p:=by
 have H:=zk h;clear h;have HPL:=zk hp;go_enter func41,ntmps41;go_wp2_with fail
 go_loopw[3,8] (λov t wr=>∃(i:Nat),i<=k/\t=.int .i64 i/\Hid (Bl w wr)/\Hid (GrO (2*K) w.heap.size wr ov (p.take i))) (λ_ t _=>k-(intOf t).toNat)
 case atStart=>exact⟨0,by omega,rfl,Below.refl _ _,zeT _ _ _⟩
 case round =>
  obtain⟨i,hi,rfl,HB,HG⟩:=hrel;by_cases hlt:i<k
  ·obtain⟨q,hq⟩:∃q,p[i]?=some q:=⟨_,getElem?_eq_getElem (by omega)⟩;obtain⟨b,o,⟨s,x,n,c,f,y,m,d,g⟩,hao,hc,hn⟩:=(H.out.q_ HB.out) i q hq;subst hao;obtain⟨x0,x1,x2⟩:=hc;replace x0:wr.cell? ⟨b,o+i*3,none⟩=some (.bool s):=x0;replace x1:wr.cell? ⟨b,o+i*3+1,none⟩=some (slice x n c):=x1;replace x2:wr.cell? ⟨b,o+i*3+2,none⟩=some (slice y m d):=x2;have i1:((i:Nat):Int)<((k:Nat):Int):=by omega
   have HQ:=zk hq;have hb5:=zB wr (cells #[.bool s,slice x n c,slice y m d] 73);have HN:=zk (hn.q_ hb5);have HB5:=zJ HB hb5;have HG5:=zk (HG.out.q_ hb5)
   have hli:(p.take i).length=i:=by rw[List.length_take];omega
   have HLI:=zk hli;clear hn hb5 hq hli;go_wp2_with fail
   clear x0 x1 x2 HB HG;generalize wr.alloc (cells #[.bool s,slice x n c,slice y m d] 73)=w5 at *;refine(zmW HN.out.2.2 (le_trans HN.out.1 hK) (le_trans HN.out.2.1 hK)).mono ?_;rintro e w6 ⟨s,zp,np,cp,fp,zq,nq9,cq,fq,rfl,hb6,hr,hd⟩;have HD:=zk (hd.base HB5.out.size);have HB6:=zJ HB5 hb6;have HG6:=zk (HG5.out.q_ hb6)
   have HR:Hid (Rn (2*K) w6 s zp np cp fp zq nq9 cq fq q):=hr.mono (by have h1:n<=K:=HN.out.1;have h2:m<=K:=HN.out.2.1;show n+m<=2*K;omega);clear hb6 HB5 HG5 HN hr hd;have hsz:=HB6.out.size;obtain⟨T9,hrow,hT⟩:=HG6.out;rw[HLI.out]at hrow
   have HROW:=zk hrow;have HTT:=zk hT
   clear hrow hT HG6;go_wp2_with(at_builtin;go_must (refine zO w6 rfl (.tmp 12) (.tmp 15) 29 rfl w.heap.size 24 56 3 (agg #[.bool false,slice none 0 0,slice none 0 0]) underlying29 zaR rfl (by decide) nz3 u3 i (rcells (rls i T9)) rfl HROW.out #[.bool s,slice zp np cp,slice zq nq9 cq] rfl rfl (zdp _ _ _ _ _ _ _) (zcD _ _ _ _ _ _ _) ?p1 (by decide) hsz ?_))
   case p1=>omega
   intro g8 cap8 w8 hr8 hk8 hb8 hg8;have HB8:=zk (hb8 w HB6.out (le_refl _));have HG8:Hid (GrO (2*K) w.heap.size w8 (slice (some ⟨g8,0,none⟩) (i+1) cap8) (p.take (i+1))):=by
    have hp9:=zif (p:=p.take i) HTT.out (by rw[HLI.out];exact hr8) hk8 HR.out HD.out;rw[HLI.out]at hp9
    rw[List.take_add_one,HQ.out];exact hp9
   clear hr8 hk8 hb8 hg8 HB6 hsz HROW HTT HLI HQ HR HD;go_wp2;go_roundw
   case rel=>exact⟨i+1,by omega,by go_num,HB8.out,HG8.out⟩
   case measure=>simp[intOf];omega
  ·have e1:i=k:=by omega
   have i1:¬(((i:Nat):Int)<((k:Nat):Int)):=by omega
   obtain⟨va,vc,hvs,hvc⟩:=HG.out.slice;rw[List.take_of_length_le (by omega)]at hvs hvc
   rw[hp]at hvs hvc
   have HG4:=HG.out;rw[hvs]at HG4
   replace HG4:=zk (show GrO (2*K) w.heap.size wr (slice va k vc) p by have:=HG4;rw[List.take_of_length_le (by omega)]at this;exact this);subst hvs;have HV4:=zk hvc;clear HG e1 hvc;go_wp2;go_ret;exact⟨va,vc,rfl,HB.out,HV4.out,HG4⟩
theorem zhh {w M ao k cap X} (hI:In8 w M) (hx:Rl w ao k X) (hs:ShK 8 k X) :
  Calls prog 13 #[M.val,slice ao k cap] w λe w'=>zrW w w' e (zbA M k X) (zbj M).length (zaB (zbq M) (zbh k X) 0 (zbj M)):=by
 have CC:=zk (λW (hW:Bl w W)=>zje (cap:=cap) (hI.q_ hW) (hx.q_ hW) hs);obtain⟨er,her⟩:∃e,zbA M k X=e:=⟨_,rfl⟩;have CX:=zk (λ(h0:er=0) W (hW:Bl w W)=>znL (cap:=cap) (hx.q_ hW) hs (zcK (her.trans h0)).2.1);have CM:=zk (λ(h0:er=0) W (hW:Bl w W)=>zpP (hI.q_ hW) (zcK (her.trans h0)).1);have CR:Hid (er=0->(zbj M).length<=64/\∀W (M':Mo) a c,MqV (2*8) W M' (nq M.off) (zbj M) (zbq M)->Rqs (2*8) W a (zbh k X)->Calls prog 42 #[M'.val,slice a k c] W λe w'=>zjL (2*KZ 8) W w' e (zbj M).length (zaB (zbq M) (zbh k X) 0 (zbj M))):=λh0=>by
  have h3:=zcK (her.trans h0);have hm:=(hI.val h3.1).2;exact⟨(zbk hm).cl,λW M' a c h1 h2=>zri (cap:=c) h1 h2 (zcA _ _) (by rw[zhL];exact h3.2.2) (zbk hm) (zno hm) (by decide)⟩
 rw[her];rw[her]at CC
 have HZL:=zaX (zbq M) (zbh k X) (zbj M) 0;obtain⟨zs,hzs⟩:∃e,zaB (zbq M) (zbh k X) 0 (zbj M)=e:=⟨_,rfl⟩;rw[hzs]at CR HZL ⊢
 obtain⟨xs,hxs⟩:∃e,zbh k X=e:=⟨_,rfl⟩;obtain⟨cs,hcs⟩:∃e,zbj M=e:=⟨_,rfl⟩;obtain⟨rs,hrs⟩:∃e,zbq M=e:=⟨_,rfl⟩;obtain⟨of,hof⟩:∃e,nq M.off=e:=⟨_,rfl⟩;rw[hcs]at HZL ⊢
 simp only[hcs,hrs,hof]at CM;simp only[hcs,hrs,hof,hxs]at CR;simp only[hxs]at CX;clear hI hx hs her hxs hcs hrs hof hzs;obtain⟨⟨s,x,n,c,f,y,m,d,g⟩,ca,ck,cc,C,ra,rk,rc,R⟩:=M;replace CC:Hid (∀W,Bl w W->Calls prog 40 #[agg #[.bool s,slice x n c,slice y m d,slice ca ck cc,slice ra rk rc],slice ao k cap] W λe w'=>e=returned (.int .i64 er)/\Bl W w'):=CC;replace CM:Hid (er=0->∀W,Bl w W->Calls prog 43 #[agg #[.bool s,slice x n c,slice y m d,slice ca ck cc,slice ra rk rc]] W λe w'=>∃M':Mo,e=returned M'.val/\Bl W w'/\Hid (MqV (2*8) w' M' of cs rs)):=CM;show Calls prog 13 #[agg #[.bool s,slice x n c,slice y m d,slice ca ck cc,slice ra rk rc],slice ao k cap] w _;have HB:=zk (zB w (cells #[.bool s,slice x n c,slice y m d,slice ca ck cc,slice ra rk rc] 28));have BM:=zk (zF w [.bool s,slice x n c,slice y m d,slice ca ck cc,slice ra rk rc] 28);have HZ:=zk HZL;clear HZL;go_enter func13,ntmps13;obtain⟨r0,r1,r2,r3,r4⟩:=bk5 BM.out;go_wp2_with fail
 clear r0 r1 r2 r3 r4;generalize(w.alloc (cells #[.bool s,slice x n c,slice y m d,slice ca ck cc,slice ra rk rc] 28))=v0 at *;refine(CC.out _ HB.out).mono ?_;rintro e v1 ⟨rfl,hb⟩;replace HB:=zJ HB hb;replace BM:=zk (BM.out.q_ hb)
 clear hb;clear CC;by_cases h0:er=0
 case neg =>
  have h1:(er != 0)=true:=by simpa using h0
  have HN:=zk h0;clear CX CM CR h0;go_wp2
  go_ret2
  exact⟨HB.out,.inl ⟨HN.out,rfl⟩⟩
 subst h0;replace CX:=zk (CX.out (by first|rfl|trivial));replace CM:=zk (CM.out (by first|rfl|trivial))
 obtain⟨hcl,hcr⟩:=CR.out (by first|rfl|trivial);replace CR:=zk hcr;clear hcr;obtain⟨r0,r1,r2,r3,r4⟩:=bk5 BM.out;go_wp2_with fail
 clear r0 r1 r2 r3 r4;refine(CM.out _ HB.out).mono ?_;rintro e w2 ⟨M1,rfl,hb,HM⟩;replace HB:=zJ HB hb;replace BM:=zk (BM.out.q_ hb)
 clear hb;clear CM;go_wp2_with fail
 refine(CX.out _ HB.out).mono ?_;rintro e w3 ⟨a3,c3,rfl,hb,H3⟩;replace HM:=zk (HM.out.q_ hb);replace HB:=zJ HB hb;replace BM:=zk (BM.out.q_ hb)
 clear hb;clear CX BM;go_wp2_with fail
 refine(CR.out _ M1 a3 c3 HM.out H3.out).mono ?_;rintro e w4 ⟨a4,c4,rfl,hb,_,H4⟩;replace HB:=zJ HB hb;clear hb CR HM H3;go_wp2_with fail
 refine(zse H4.out HZ.out (le_trans hcl (by decide)) (by decide)).mono ?_;rintro e w5 ⟨a5,c5,rfl,hb,hc5,H5⟩;have HG5:=zk (H5.out.base HB.out.size);replace HB:=zJ HB hb;have HC5:=zk hc5;clear hb H4 HZ hc5;go_wp2
 go_ret2
 exact⟨HB.out,.inr ⟨rfl,a5,c5,rfl,HC5.out,HG5.out⟩⟩
def smB (a b:Mo):Bool:=sqB a.off b.off && (eqfB scB a.ck b.ck a.C b.C && eqfB srB a.rk b.rk a.R b.R)
theorem zik (f:Nat->Int):∀(r i:Nat),eqs f f r i=true
 | 0,_=>rfl
 | r+1,i=>by simp[eqs,zik f r (i+1)]
theorem Sn.sq {t t':Nm} (h:Sn t t'):sqB t' t=true:=by
 obtain⟨h1,h2,h3,h4,h5⟩:=h;unfold sqB eqlB;rw[h1,h2,h3,h4,h5];simp[zik]
theorem zhE {a b:Ex} (hi:b.i=a.i) (h:Sn a.v b.v):sxB b a=true:=by unfold sxB;rw[hi,h.sq];simp
theorem zil {α:Type} {e:α->α->Bool} {X Y:Nat->α}:∀{r i:Nat},(∀j,i<=j->j<i+r->e (X j) (Y j)=true)->eqf e X Y r i=true
 | 0,_,_=>rfl
 | r+1,i,h=>by simp only[eqf];rw[h i (by omega) (by omega),zil (λj a b=>h j (by omega) (by omega))];rfl
theorem zea {α:Type} {e:α->α->Bool} {X Y:Nat->α} {n m:Nat} (hn:n=m) (h:∀j,j<m->e (X j) (Y j)=true):eqfB e n m X Y=true:=by
 subst hn;unfold eqfB;rw[zil (λj _ hj=>h j (by omega))];simp
theorem Sm.same {M M':Mo} (h:Sm M M'):smB M' M=true:=by
 have e1:eqfB scB M'.ck M.ck M'.C M.C=true:=zea h.ck (λj hj=>by
  have p:=h.C j hj;unfold scB;rw[p.cost.sq,zhE p.li p.lo,zhE p.hi p.hv,p.nm];simp)
 have e2:eqfB srB M'.rk M.rk M'.R M.R=true:=zea h.rk (λj hj=>by
  have p:=h.R j hj;unfold srB;rw[zhE p.li p.lo,zhE p.hi p.hv,p.nm,zea p.tk (λq hq=>zhE (a:=tex (M.R j).col (M.R j).T q) (b:=tex (M'.R j).col (M'.R j).T q) (by show(M'.R j).col q=_;rw[p.col];rfl) (p.T q hq))];simp)
 unfold smB;rw[h.off.sq,e1,e2];rfl
end Go.Proofs.YtlbgphjdibbkjaaGreat
