/-
 Walks.
-/
import Derived.Test.YtdagpgmehelfkaaGreatZ2
import Derived.Test.YtdagpgmehelfkaaGreatZ4
import Derived.Test.YtdagpgmehelfkaaGreatZ5
import Derived.BigQuiet
import Derived.Test.YtdagpgmehelfkaaGreatZ3
import Derived.Deep.RegionHeld3
import Derived.BigRegion
set_option maxRecDepth 100000
set_option maxHeartbeats 16000000
namespace Go.Proofs.YtdagpgmehelfkaaGreat
open Value (slice agg)
open Obj (cells)
open Ending (returned)
open Nat (le_refl le_trans zero_add)
open World (cell?_of_block block_lt_of_cell?)
open List (getElem?_eq_getElem)
open Go.Proofs.Tryz
open Go.RowKit
structure QcV (K:Nat) (w:World) (c:Lc) (v:CV):Prop where
 nm:c.nm=v.nm
 cost:QnT K w c.cost v.cost
 li:c.lo.i=v.li
 lq:QnT K w c.lo.v v.lq
 hi:c.hi.i=v.hi
 hq:QnT K w c.hi.v v.hq
structure QrV (K:Nat) (w:World) (r:Lr) (v:RV):Prop where
 nm:r.nm=v.nm
 li:r.lo.i=v.li
 lq:QnT K w r.lo.v v.lq
 hi:r.hi.i=v.hi
 hq:QnT K w r.hi.v v.hq
 tk:r.tk=v.ts.length
 tl:Tq K w r.ta v.ts
theorem QcV.q_ {K w w' c v} (h:QcV K w c v) (hb:Bl w w'):QcV K w' c v:=⟨h.nm,h.cost.q_ hb,h.li,h.lq.q_ hb,h.hi,h.hq.q_ hb⟩
theorem QcV.kp {K w w' c v} (h:QcV K w c v) (hb:Kp w w'):QcV K w' c v:=⟨h.nm,h.cost.kp hb,h.li,h.lq.kp hb,h.hi,h.hq.kp hb⟩
theorem QrV.q_ {K w w' c v} (h:QrV K w c v) (hb:Bl w w'):QrV K w' c v:=⟨h.nm,h.li,h.lq.q_ hb,h.hi,h.hq.q_ hb,h.tk,h.tl.q_ hb⟩
theorem Tq.of {K w w' ao l} (h:Tq K w ao l) (hb:l≠[]->∀b o s,ao=some ⟨b,o,s⟩->b<w.heap.size->w'.heap[b]?=w.heap[b]?) (hk:Kp w w'):Tq K w' ao l:=λj a q hj=>by
 obtain⟨b,o,t,e,⟨c0,c1,c2,c3⟩,h2⟩:=h j a q hj;have:=hb (λe=>by rw[e]at hj;simp at hj) b o none e (block_lt_of_cell? w _ c0);exact⟨b,o,t,e,⟨(cell?_of_block (a:=⟨b,o+j*4,none⟩) this).trans c0,(cell?_of_block (a:=⟨b,o+j*4+1,none⟩) this).trans c1,(cell?_of_block (a:=⟨b,o+j*4+2,none⟩) this).trans c2,(cell?_of_block (a:=⟨b,o+j*4+3,none⟩) this).trans c3⟩,h2.kp hk⟩
theorem Tq.lt {K w ao l} (h:Tq K w ao l) (hl:l≠[]):∀b o s,ao=some ⟨b,o,s⟩->b<w.heap.size:=λb o s e=>by
 match l,hl with
 | (a,q) :: r,_ =>
  obtain⟨b',o',t,e',h4,_⟩:=h 0 a q rfl;rw[e]at e';cases e'
  exact block_lt_of_cell? w _ h4.x0
theorem QrV.of {K w w' r v} (h:QrV K w r v) (hb:v.ts≠[]->∀b o s,r.ta=some ⟨b,o,s⟩->b<w.heap.size->w'.heap[b]?=w.heap[b]?) (hk:Kp w w'):QrV K w' r v:=⟨h.nm,h.li,h.lq.kp hk,h.hi,h.hq.kp hk,h.tk,h.tl.of hb hk⟩
structure MqV (K:Nat) (w:World) (M:Mo) (q:Rat) (cs:List CV) (rs:List RV):Prop where
 off:QnT K w M.off q
 ck:M.ck=cs.length
 rk:M.rk=rs.length
 cls:∀j v,cs[j]?=some v->(∃b o,M.ca=some ⟨b,o,none⟩/\Cs w b (o+j*12) (M.C j).vs)/\QcV K w (M.C j) v
 rls:∀j v,rs[j]?=some v->(∃b o,M.ra=some ⟨b,o,none⟩/\Cs w b (o+j*10) (M.R j).vs)/\QrV K w (M.R j) v
theorem MqV.q_ {K w w' M q cs rs} (h:MqV K w M q cs rs) (hb:Bl w w'):MqV K w' M q cs rs :=
 ⟨h.off.q_ hb,h.ck,h.rk,λj v e=>by obtain⟨⟨b,o,h1,h2⟩,h3⟩:=h.cls j v e;exact⟨⟨b,o,h1,h2.q_ hb⟩,h3.q_ hb⟩,λj v e=>by obtain⟨⟨b,o,h1,h2⟩,h3⟩:=h.rls j v e;exact⟨⟨b,o,h1,h2.q_ hb⟩,h3.q_ hb⟩⟩
theorem zpJ:(prog.info? 114).map (λi=>(i.zero,i.size,i.bytes))=some (some zC,12,200):=by kernel_rfl
theorem zpI:(prog.info? 89).map (λi=>(i.zero,i.size,i.bytes))=some (some zR,10,168):=by kernel_rfl
theorem zoJ {li lq hi hq} (h:bdB li lq hi hq=true):(li=0∨(li=-1∨li=1)/\lq=0)/\(hi=0∨(hi=-1∨hi=1)/\hq=0):=by
 simp only[bdB,Bool.and_eq_true,Bool.or_eq_true,decide_eq_true_eq]at h;exact⟨by rcases h.1 with h|h;exact .inl h;exact .inr ⟨.inl h.1,h.2⟩,by rcases h.2 with h|h;exact .inl h;exact .inr ⟨.inr h.1,h.2⟩⟩
def zmS (K:Nat) (w w':World) (e:Ending) (k:Nat) (v:List (Int × Rat)):Prop:=∃aw cw,e=returned (slice aw k cw)/\Bl w w'/\(k<=cw/\cw<=9223372036854775807)/\(∀b o s,aw=some ⟨b,o,s⟩->w.heap.size<=b)/\Hid (Tq K w' aw v)
theorem zml {w L ao k cap col T v} (h:Tl w ao k col T) (hk:k<=10000) (hL:L<=16000) (hlv:v.length=k) (hq:∀j,j<k->∃q,v[j]?=some (col j,q)/\Rn L w (T j).s (T j).x (T j).n (T j).c (T j).f (T j).y (T j).m (T j).d (T j).g q) :
  Calls prog 58 #[slice ao k cap] w λe w'=>zmS (2*L) w w' e k v:=by
 have H:=zk h;clear h;go_enter func58,ntmps58;go_wp2_with fail
 go_loopw[3,8] (λov t wr=>∃(i:Nat) (T':Nat->Nm),i<=k/\t=.int .i64 i/\Hid (Bl w wr)/\Hid (RowG 118 4 w.heap.size wr ov i (zaV (tls i col T')))/\Hid (∀j,j<i->∃q,v[j]?=some (col j,q)/\QnT (2*L) wr (T' j) q)) (λ_ t _=>k-(intOf t).toNat)
 case atStart=>exact⟨0,T,by omega,rfl,Below.refl _ _,zao _ _ _ _,λj hj=>by omega⟩
 case round =>
  obtain⟨i,T',hi,rfl,HB,HRow,HT⟩:=hrel;by_cases hlt:i<k
  ·obtain⟨b,o,hao,hc,hn,hn1,hn2⟩:=(H.out.q_ HB.out) i hlt;obtain⟨⟨s,x,n,c,f,y,m,d,g⟩,hTi⟩:∃t,T i=t:=⟨_,rfl⟩;subst hao;rw[hTi]at hc hn hn1 hn2
   obtain⟨z,hz⟩:∃z,col i=z:=⟨_,rfl⟩;rw[hz]at hc
   obtain⟨x0,x1,x2,x3⟩:=hc;replace x0:wr.cell? ⟨b,o+i*4,none⟩=some (.int .i64 z):=x0;replace x1:wr.cell? ⟨b,o+i*4+1,none⟩=some (.bool s):=x1;replace x2:wr.cell? ⟨b,o+i*4+2,none⟩=some (slice x n c):=x2;replace x3:wr.cell? ⟨b,o+i*4+3,none⟩=some (slice y m d):=x3;have i1:((i:Nat):Int)<((k:Nat):Int):=by omega
   obtain⟨q,hvq,hrn⟩:=hq i hlt;rw[hTi]at hrn
   replace hn:Rn L wr s x n c f y m d g q:=hrn.q_ HB.out;clear hn1 hn2;have HVq:=zk hvq;have HN:=zk hn;have HZ:=zk hz;have HTi:=zk hTi
   clear hn hz hTi;go_upto_region 5 with fail
   have hb5:=zF wr (cells #[.int .i64 z,.bool s,slice x n c,slice y m d] 64);obtain⟨a0,a1,a2,a3⟩:=bk4 (zJ wr [.int .i64 z,.bool s,slice x n c,slice y m d] 64);have hne:u3.ownBlock≠some wr.heap.size:=λe=>by have:=(HRow.out.lt _ e).2;omega
   replace HN:=zk (HN.out.q_ hb5);replace HRow:=zk (HRow.out.q_ hb5)
   replace HT:Hid (∀j,j<i->∃q,v[j]?=some (col j,q)/\QnT (2*L) (wr.alloc (cells #[.int .i64 z,.bool s,slice x n c,slice y m d] 64)) (T' j) q):=λj hj=>by obtain⟨q,h1,h2⟩:=HT.out j hj;exact⟨q,h1,h2.q_ hb5⟩
   replace HB:=zP HB hb5;clear x0 x1 x2 x3 hb5;have hsz:w.heap.size<=(wr.alloc (cells #[.int .i64 z,.bool s,slice x n c,slice y m d] 64)).heap.size:=HB.out.size;generalize wr.alloc (cells #[.int .i64 z,.bool s,slice x n c,slice y m d] 64)=w5 at *;have CT:Hid (∀W,Bl w5 W->Calls prog 56 #[agg #[.bool s,slice x n c,slice y m d]] W λe w'=>∃s6 x6 n6 c6 d6 y6 m6 e6 g6,e=returned (agg #[.bool s6,slice x6 n6 c6,slice y6 m6 e6])/\Bl W w'/\Hid (n6<=2*L/\m6<=2*L/\Qn w' s6 x6 n6 d6 y6 m6 g6 q)):=λW hW=>(zdc (HN.out.q_ hW) (by omega)).mono (λ_ _ ⟨s,x,n,c,d,y,m,c',g,h1,h2,h3,h4,h5⟩=>⟨s,x,n,c,d,y,m,c',g,h1,h2,h3,h4,h5⟩)
   go_region_held3 (λw'=>w'.cell? ⟨wr.heap.size,0,none⟩=some (.int .i64 z)/\w'.cell? ⟨wr.heap.size,1,none⟩=some (.bool s)/\w'.cell? ⟨wr.heap.size,2,none⟩=some (slice x n c)/\w'.cell? ⟨wr.heap.size,3,none⟩=some (slice y m d))
    (refine⟨?_,?_,?_,?_⟩ <;> repeat(with_reducible first|assumption|refine kCd ?_|refine kCa ?_|refine kCb (by assumption) ?_))
    (first
     | (go_at_call 56;with_reducible refine(CT.out _ zad).mono ?_;rintro e w6 ⟨s6,x6,n6,c6,d6,y6,m6,e6,g6,rfl,hb6,HQ⟩;have B6:Bl w5 w6:=zad;have HRow6:=HRow.out.q_ B6;have hz6:w.heap.size<=w6.heap.size:=le_trans hsz B6.size;have a06:=kCb B6 a0;have a16:=kCb B6 a1;have a26:=kCb B6 a2;have a36:=kCb B6 a3;have hlt6:=block_lt_of_cell? w6 _ a06)
     | (refine zat w6 rfl (.tmp 12) (.tmp 19) 87 rfl w.heap.size 118 64 4 (agg #[.int .i64 0,.bool false,slice none 0 0,slice none 0 0]) underlying87 zpH rfl (by decide) nz4 u3 i (zaV (tls i col T')) rfl HRow6 #[.int .i64 z,.bool s6,slice x6 n6 c6,slice y6 m6 e6] rfl rfl (zqw _ _ _ _ _ _ _ _) (zpx _ _ _ _ _ _ _ _) ?p1 (by decide) hz6 ?_;(case p1=>omega);intro g8 cap8 w8 hr8 hk8 hb8 hg8;have h88:=hg8 wr.heap.size hlt6 hne;have a08:=(cell?_of_block (a:=⟨wr.heap.size,0,none⟩) h88).trans a06;have a18:=(cell?_of_block (a:=⟨wr.heap.size,1,none⟩) h88).trans a16;have a28:=(cell?_of_block (a:=⟨wr.heap.size,2,none⟩) h88).trans a26;have a38:=(cell?_of_block (a:=⟨wr.heap.size,3,none⟩) h88).trans a36))
   all_goals
    (have HB8:=zk (hb8 w (bUp HB.out B6) (le_refl _))
     have HR8:Hid (RowG 118 4 w.heap.size w8 (slice (some ⟨g8,0,none⟩) (i+1) cap8) (i+1) (zaV (tls (i+1) col (zaG T' i ⟨s6,x6,n6,c6,d6,y6,m6,e6,g6⟩)))):=by
      show RowG _ _ _ _ _ _ _;rw[ziL,HZ.out];exact hr8
     have HT8:Hid (∀j,j<i+1->∃q,v[j]?=some (col j,q)/\QnT (2*L) w8 (zaG T' i ⟨s6,x6,n6,c6,d6,y6,m6,e6,g6⟩ j) q):=λj hj=>by
      by_cases e:j=i
      ·subst e;rw[zbD];exact⟨q,HVq.out,QnT.kp (t:=⟨s6,x6,n6,c6,d6,y6,m6,e6,g6⟩) HQ.out hk8⟩
      ·rw[putN_ne e];obtain⟨q,h1,h2⟩:=HT.out j (by omega);exact⟨q,h1,(h2.q_ B6).kp hk8⟩
     clear hr8 hk8 hb8 hg8 h88 a08 a18 a28 a38 a06 a16 a26 a36 hlt6 hne HRow6 B6 hb6 HQ HRow HT HB CT a0 a1 a2 a3 HN hz6;go_wp2;go_roundw
     case rel=>exact⟨i+1,_,by omega,by go_num,HB8.out,HR8.out,HT8.out⟩
     case measure=>simp[intOf];omega)
  ·have e1:i=k:=by omega
   have i1:¬(((i:Nat):Int)<((k:Nat):Int)):=by omega
   rw[e1]at HRow HT
   obtain⟨aw,cw,rfl⟩:=HRow.out.slice;have hcw:k<=cw/\cw<=9223372036854775807:=by
    rcases HRow.out.2 with⟨hv,h0⟩|⟨_,_,_,hv,_,_,h5,h6,_⟩
    ·cases hv;omega
    ·cases hv;unfold maxLen at h6;omega
   clear e1;go_wp2;go_ret;exact⟨aw,cw,rfl,HB.out,hcw,(λb o s e=>(HRow.out.lt b (by rw[e];rfl)).1),(λj a q hj=>by have hlt2:j<k:=by { have:=(List.getElem?_eq_some_iff.1 hj).1;omega };obtain⟨b,hb,h4⟩:=ziU HRow.out hlt2;obtain⟨q',h5,h6⟩:=HT.out j hlt2;rw[hj]at h5;obtain⟨rfl,rfl⟩:a=col j/\q=q':=by { simpa using h5 };exact⟨b,0,T' j,hb,h4,h6⟩)⟩
def FN (K:Nat) (q:Rat) (v:Value) (w:World):Prop:=∃t':Nm,v=t'.val/\QnT K w t' q
def FE (K:Nat) (i:Int) (q:Rat) (v:Value) (w:World):Prop:=∃e':Ex,v=e'.val/\e'.i=i/\QnT K w e'.v q
def FC (K:Nat) (cv:CV) (v:Value) (w:World):Prop:=∃c':Lc,v=agg c'.vs.toArray/\QcV K w c' cv
def FCs (K:Nat) (cv:CV) (v:Value) (w:World):Prop:=∃b,∃c':Lc,v=slice (some ⟨b,0,none⟩) 1 1/\Cs w b 0 c'.vs/\QcV K w c' cv
def FT (K base tk:Nat) (ts:List (Int × Rat)) (v:Value) (w:World):Prop:=∃aw cw,v=slice aw tk cw/\(∀b o s,aw=some ⟨b,o,s⟩->base<=b)/\Tq K w aw ts
def FR (K base:Nat) (rv:RV) (v:Value) (w:World):Prop:=∃r':Lr,v=agg r'.vs.toArray/\QrV K w r' rv/\∀b o s,r'.ta=some ⟨b,o,s⟩->base<=b
def FRs (K base:Nat) (rv:RV) (v:Value) (w:World):Prop:=∃b,∃r':Lr,v=slice (some ⟨b,0,none⟩) 1 1/\Cs w b 0 r'.vs/\QrV K w r' rv/\∀b o s,r'.ta=some ⟨b,o,s⟩->base<=b
theorem FN.q_ {K t v w w'} (h:FN K t v w) (hb:Bl w w'):FN K t v w':=by obtain⟨t',h1,h2⟩:=h;exact⟨t',h1,h2.q_ hb⟩
theorem FE.q_ {K i t v w w'} (h:FE K i t v w) (hb:Bl w w'):FE K i t v w':=by obtain⟨t',h1,h2,h3⟩:=h;exact⟨t',h1,h2,h3.q_ hb⟩
theorem FC.q_ {K t v w w'} (h:FC K t v w) (hb:Bl w w'):FC K t v w':=by obtain⟨t',h1,h2⟩:=h;exact⟨t',h1,h2.q_ hb⟩
theorem FCs.q_ {K t v w w'} (h:FCs K t v w) (hb:Bl w w'):FCs K t v w':=by obtain⟨b,t',h1,h2,h3⟩:=h;exact⟨b,t',h1,h2.q_ hb,h3.q_ hb⟩
theorem FT.q_ {K base tk ts v w w'} (h:FT K base tk ts v w) (hb:Bl w w'):FT K base tk ts v w':=by obtain⟨aw,cw,h1,h2,h3⟩:=h;exact⟨aw,cw,h1,h2,h3.q_ hb⟩
theorem FR.q_ {K base t v w w'} (h:FR K base t v w) (hb:Bl w w'):FR K base t v w':=by obtain⟨t',h1,h2,h3⟩:=h;exact⟨t',h1,h2.q_ hb,h3⟩
theorem FRs.q_ {K base t v w w'} (h:FRs K base t v w) (hb:Bl w w'):FRs K base t v w':=by obtain⟨b,t',h1,h2,h3,h4⟩:=h;exact⟨b,t',h1,h2.q_ hb,h3.q_ hb,h4⟩
structure FrC (w:World) (base b1 b2 b3:Nat) (P Z:List Value) (so:Bool) (zx:Option Addr) (zn zc:Nat) (zy:Option Addr) (zm zd:Nat) (oN:Nm) (K:Nat) (q:Rat) (cs:List CV) (wr:World) (i:Nat) (C':Nat->Lc) (vC:Value):Prop where
 bel:Bl w wr
 p1:Bk wr b1 P 28
 p2:Bk wr b2 Z 83
 p3:Bk wr b3 [.bool so,slice zx zn zc,slice zy zm zd,vC,slice none 0 0] 83
 bs:base<=wr.heap.size
 off:QnT K wr oN q
 row:RowG 114 12 base wr vC i (ccs C' i)
 el:∀j v,j<i->cs[j]?=some v->QcV K wr (C' j) v
theorem FrC.q_ {w base b1 b2 b3 P Z so zx zn zc zy zm zd oN K q cs wr i C' vC w'} (h:FrC w base b1 b2 b3 P Z so zx zn zc zy zm zd oN K q cs wr i C' vC) (hb:Bl wr w'):FrC w base b1 b2 b3 P Z so zx zn zc zy zm zd oN K q cs w' i C' vC :=
 ⟨h.bel.trans (hb.mono h.bel.size),h.p1.q_ hb,h.p2.q_ hb,h.p3.q_ hb,le_trans h.bs hb.size,h.off.q_ hb,h.row.q_ hb,λj v hj e=>(h.el j v hj e).q_ hb⟩
theorem FrC.next {w base b1 b2 b3 P Z so zx zn zc zy zm zd oN K q cs wr i C' vC w8 g8 cap8 c'} (h:FrC w base b1 b2 b3 P Z so zx zn zc zy zm zd oN K q cs wr i C' vC) (h12:b1<b2) (h23:b2<b3) (h3b:b3<base) (hwb:w.heap.size<=b1) (hc:∀v,cs[i]?=some v->QcV K wr c' v) (hr:RowG 114 12 base w8 (slice (some ⟨g8,0,none⟩) (i+1) cap8) (i+1) (ccs C' i++c'.vs)) (hk:Kp wr w8) (hg:wr.grownBy w8 vC.ownBlock) :
  FrC w base b1 b2 b3 P Z so zx zn zc zy zm zd oN K q cs (w8.setCell ⟨b3,3,none⟩ (slice (some ⟨g8,0,none⟩) (i+1) cap8)) (i+1) (putC C' i c') (slice (some ⟨g8,0,none⟩) (i+1) cap8):=by
 have hbs:=h.bs;have hlt:∀k,k<base->w8.heap[k]?=wr.heap[k]?:=λk hk=>hg.block k (by omega) (λe=>by have:=(h.row.lt k e.symm).1;omega)
 have hset:∀k,k≠b3->(w8.setCell ⟨b3,3,none⟩ (slice (some ⟨g8,0,none⟩) (i+1) cap8)).heap[k]?=w8.heap[k]?:=λk hk=>Below.heap_setCell _ _ _ _ hk
 have hp3:Bk w8 b3 [.bool so,slice zx zn zc,slice zy zm zd,vC,slice none 0 0] 83:=h.p3.of (hlt b3 h3b);have hg8:=(hr.lt g8 rfl).1;have hk9:Kp wr (w8.setCell ⟨b3,3,none⟩ (slice (some ⟨g8,0,none⟩) (i+1) cap8)):=hk.set (x:=⟨b3,3,none⟩) hp3 (by obtain⟨aw,cw,e⟩:=h.row.slice;rw[e];exact zhZ _ _ _ _ _ _ _ _ _ _ _ _ _) _;refine⟨?_,h.p1.of ((hset b1 (by omega)).trans (hlt b1 (by omega))),h.p2.of ((hset b2 (by omega)).trans (hlt b2 (by omega))),hp3.set 3 _,le_trans hbs hk9.size,h.off.kp hk9,?_,λj v hj ev=>?_⟩
 ·have h8:Bl w w8:=h.bel.grown hg (by have:=h.bel.size;omega) (λk e=>by have:=(h.row.lt k e).1;omega);exact zL h8 h8.size ((Turned.refl w.heap.size (b3+1) w8).set (x:=⟨b3,3,none⟩) (by show w.heap.size<=b3;omega) (by simp) _) (le_refl _)
 ·rw[zjF];exact hr.of (λk hk=>hset k (λe=>by have:g8=k:=(by simpa[Value.ownBlock]using hk);omega))
 ·by_cases e:j=i
  ·subst e;rw[zgb];exact(hc v ev).kp hk9
  ·rw[zga e];exact(h.el j v (by omega) ev).kp hk9
structure FrR (w:World) (base base2 b2 b3:Nat) (Z:List Value) (so:Bool) (zx:Option Addr) (zn zc:Nat) (zy:Option Addr) (zm zd:Nat) (oN:Nm) (K:Nat) (q:Rat) (cs:List CV) (ck:Nat) (C':Nat->Lc) (vC:Value) (rs:List RV) (wr:World) (i:Nat) (R':Nat->Lr) (vR:Value):Prop where
 bel:Bl w wr
 p2:Bk wr b2 Z 83
 p3:Bk wr b3 [.bool so,slice zx zn zc,slice zy zm zd,vC,vR] 83
 bs:base2<=wr.heap.size
 off:QnT K wr oN q
 rowC:RowG 114 12 base wr vC ck (ccs C' ck)
 elC:∀j v,j<ck->cs[j]?=some v->QcV K wr (C' j) v
 nv:∀k,vC.ownBlock=some k->k<base2
 row:RowG 89 10 base2 wr vR i (rcs R' i)
 el:∀j v,j<i->rs[j]?=some v->QrV K wr (R' j) v/\(v.ts≠[]->∀b o s,(R' j).ta=some ⟨b,o,s⟩->base2<=b/\vR.ownBlock≠some b)
theorem FrR.q_ {w base base2 b2 b3 Z so zx zn zc zy zm zd oN K q cs ck C' vC rs wr i R' vR w'} (h:FrR w base base2 b2 b3 Z so zx zn zc zy zm zd oN K q cs ck C' vC rs wr i R' vR) (hb:Bl wr w'):FrR w base base2 b2 b3 Z so zx zn zc zy zm zd oN K q cs ck C' vC rs w' i R' vR :=
 ⟨h.bel.trans (hb.mono h.bel.size),h.p2.q_ hb,h.p3.q_ hb,le_trans h.bs hb.size,h.off.q_ hb,h.rowC.q_ hb,λj v hj e=>(h.elC j v hj e).q_ hb,h.nv,h.row.q_ hb,λj v hj e=>⟨(h.el j v hj e).1.q_ hb,(h.el j v hj e).2⟩⟩
theorem FrR.next {w base base2 b2 b3 Z so zx zn zc zy zm zd oN K q cs ck C' vC rs wr i R' vR w8 g8 cap8 r'} (h:FrR w base base2 b2 b3 Z so zx zn zc zy zm zd oN K q cs ck C' vC rs wr i R' vR) (h23:b2<b3) (h3b:b3<base2) (hbb:b3<base) (hwb:w.heap.size<=b2) (hc:∀v,rs[i]?=some v->QrV K wr r' v) (hta:∀b o s,r'.ta=some ⟨b,o,s⟩->base2<=b/\vR.ownBlock≠some b) (hr:RowG 89 10 base2 w8 (slice (some ⟨g8,0,none⟩) (i+1) cap8) (i+1) (rcs R' i++r'.vs)) (hk:Kp wr w8) (hg:wr.grownBy w8 vR.ownBlock) (hl:vR.ownBlock=some g8∨wr.heap.size<=g8) :
  FrR w base base2 b2 b3 Z so zx zn zc zy zm zd oN K q cs ck C' vC rs (w8.setCell ⟨b3,4,none⟩ (slice (some ⟨g8,0,none⟩) (i+1) cap8)) (i+1) (zde R' i r') (slice (some ⟨g8,0,none⟩) (i+1) cap8):=by
 have hbs:=h.bs;have hlt:∀k,k<base2->w8.heap[k]?=wr.heap[k]?:=λk hk=>hg.block k (by omega) (λe=>by have:=(h.row.lt k e.symm).1;omega)
 have hset:∀k,k≠b3->(w8.setCell ⟨b3,4,none⟩ (slice (some ⟨g8,0,none⟩) (i+1) cap8)).heap[k]?=w8.heap[k]?:=λk hk=>Below.heap_setCell _ _ _ _ hk
 have hp3:Bk w8 b3 [.bool so,slice zx zn zc,slice zy zm zd,vC,vR] 83:=h.p3.of (hlt b3 h3b);have hg8:=(hr.lt g8 rfl).1;have hk9:Kp wr (w8.setCell ⟨b3,4,none⟩ (slice (some ⟨g8,0,none⟩) (i+1) cap8)):=hk.set (x:=⟨b3,4,none⟩) hp3 (by obtain⟨aw,cw,e⟩:=h.row.slice;obtain⟨aw2,cw2,e2⟩:=h.rowC.slice;rw[e,e2];exact zhZ _ _ _ _ _ _ _ _ _ _ _ _ _) _;have hta8:∀(r:Lr) (v:RV),QrV K wr r v->(v.ts≠[]->∀b o s,r.ta=some ⟨b,o,s⟩->base2<=b/\vR.ownBlock≠some b)->QrV K (w8.setCell ⟨b3,4,none⟩ (slice (some ⟨g8,0,none⟩) (i+1) cap8)) r v/\(v.ts≠[]->∀b o s,r.ta=some ⟨b,o,s⟩->base2<=b/\(Value.slice (some ⟨g8,0,none⟩) (i+1) cap8).ownBlock≠some b):=λr v h1 h2=>by
  refine⟨h1.of (λh3 b o s e hb=>?_) hk9,λh3 b o s e=>?_⟩
  ·obtain⟨k1,k2⟩:=h2 h3 b o s e;rw[hset b (by omega)];exact hg.block b hb (λe=>k2 e.symm)
  ·obtain⟨k1,k2⟩:=h2 h3 b o s e;refine⟨k1,λe2=>?_⟩;have e3:g8=b:=by simpa[Value.ownBlock]using e2
   rcases hl with h4|h4
   ·exact k2 (e3 ▸ h4)
   ·have:=h1.tl.lt h3 b o s e;omega
 refine⟨?_,h.p2.of ((hset b2 (by omega)).trans (hlt b2 (by omega))),hp3.set 4 _,le_trans hbs hk9.size,h.off.kp hk9,h.rowC.of (λk hk=>?_),λj v hj e=>(h.elC j v hj e).kp hk9,h.nv,?_,λj v hj ev=>?_⟩
 ·have h8:Bl w w8:=h.bel.grown hg (by have:=h.bel.size;omega) (λk e=>by have:=(h.row.lt k e).1;omega);exact zL h8 h8.size ((Turned.refl w.heap.size (b3+1) w8).set (x:=⟨b3,4,none⟩) (by show w.heap.size<=b3;omega) (by simp) _) (le_refl _)
 ·have:=(h.rowC.lt k hk).1;rw[hset k (by omega)];exact hlt k (h.nv k hk)
 ·rw[ziY];exact hr.of (λk hk=>hset k (λe=>by have:g8=k:=(by simpa[Value.ownBlock]using hk);omega))
 ·by_cases e:j=i
  ·subst e;rw[zeI];exact hta8 r' v (hc v ev) (λ_=>hta)
  ·rw[zeH e];exact hta8 _ v (h.el j v (by omega) ev).1 (h.el j v (by omega) ev).2
theorem FrR.done {w base base2 b2 b3 so zx zn zc zy zm zd oN K q cs ck C' rs rk R' wr aC cC aR cR w9 v0 v1 v2 v3 v4} (h:FrR w base base2 b2 b3 [.bool false,slice none 0 0,slice none 0 0,slice none 0 0,slice none 0 0] so zx zn zc zy zm zd oN K q cs ck C' (slice aC ck cC) rs wr rk R' (slice aR rk cR)) (h2:b2<base) (h22:b2<base2) (hwb:w.heap.size<=b2)
  (e:w9=((((wr.setCell ⟨b2,0,none⟩ v0).setCell ⟨b2,1,none⟩ v1).setCell ⟨b2,2,none⟩ v2).setCell ⟨b2,3,none⟩ v3).setCell ⟨b2,4,none⟩ v4) (hck:ck=cs.length) (hrk:rk=rs.length) :
  Bl w w9/\MqV K w9 ⟨oN,aC,ck,cC,C',aR,rk,cR,R'⟩ q cs rs:=by
 obtain⟨hk,hne⟩:=zif h.p2 (zhZ _ _ _ _ _ _ _ _ _ _ _ _ _) e;refine⟨by rw[e];exact zdI h.bel hwb,h.off.kp hk,hck,hrk,λj v hv=>?_,λj v hv=>?_⟩
 ·have hj:j<ck:=by rw[hck];exact(List.getElem?_eq_some_iff.1 hv).1
  rcases h.rowC.2 with⟨_,h0⟩|⟨gb,cap,cur,hv',hb,_⟩
  ·exact absurd hj (by rw[h0];exact Nat.not_lt_zero _)
  ·have hr:=h.rowC.of (w':=w9) (λk hk=>hne k (by have:=(h.rowC.lt k hk).1;omega));cases hv'
   refine⟨⟨gb,0,rfl,λp u hp=>?_⟩,(h.elC j v hj hv).kp hk⟩;rw[zero_add];exact hr.cells (zgA hp hj)
 ·have hj:j<rk:=by rw[hrk];exact(List.getElem?_eq_some_iff.1 hv).1
  rcases h.row.2 with⟨_,h0⟩|⟨gb,cap,cur,hv',hb,_⟩
  ·exact absurd hj (by rw[h0];exact Nat.not_lt_zero _)
  ·have hr:=h.row.of (w':=w9) (λk hk=>hne k (by have:=(h.row.lt k hk).1;omega));cases hv'
   refine⟨⟨gb,0,rfl,λp u hp=>?_⟩,(h.el j v hj hv).1.of (λh3 b o s e _=>hne b (by have:=((h.el j v hj hv).2 h3 b o s e).1;omega)) hk⟩;rw[zero_add];exact hr.cells (zfX hp hj)
theorem znN {w M L q cs rs} (h:MoV L w M q cs rs) (hL:L<=1000) (hok:zbA cs rs=true):Calls prog 32 #[M.val] w λe w'=>∃M':Mo,e=returned M'.val/\Bl w w'/\MqV (2*L) w' M' q cs rs:=by
 generalize hP:(λ(e:Ending) (w':World)=>∃M':Mo,e=returned M'.val/\Bl w w'/\MqV (2*L) w' M' q cs rs)=P;have HA:Hid (∀w' (M':Mo),Bl w w'->MqV (2*L) w' M' q cs rs->P (returned M'.val) w'):=by subst hP;exact λw' M' h1 h2=>⟨M',rfl,h1,h2⟩
 clear hP;simp only[zbA,Bool.and_eq_true,decide_eq_true_eq,List.all_eq_true]at hok;obtain⟨hck,hrk,hbc,hbr,_⟩:=hok;have HBC:=zk hbc;have HBR:=zk hbr
 have hlc:=h.ck;have hlr:=h.rk
 obtain⟨ho,hx1,hx2,hC,hR⟩:=h;clear hx1 hx2;obtain⟨⟨s,x,n,c,f,y,m,d,g⟩,ca,ck,cc,C,ra,rk,rc,R⟩:=M;replace hlc:ck=cs.length:=hlc;replace hlr:rk=rs.length:=hlr;rw[<-hlc]at hck
 rw[<-hlr]at hrk
 have HC:Hid (∀j v,cs[j]?=some v->(∃b o,ca=some ⟨b,o,none⟩/\Cs w b (o+j*12) (C j).vs)/\ColV L w (C j) v):=hC;have HRL:Hid (∀j v,rs[j]?=some v->(∃b o,ra=some ⟨b,o,none⟩/\Cs w b (o+j*10) (R j).vs)/\RowV L w (R j) v):=hR;have CO:=zk (λw' (hw:Bl w w')=>zdc (w:=w') (ho.q_ hw) (le_trans hL (by decide)));replace CO:Hid (∀w' (hw:Bl w w'),Calls prog 56 #[agg #[.bool s,slice x n c,slice y m d]] w' λe w2=>∃s x n c d y m c' g,e=returned (agg #[.bool s,slice x n c,slice y m c'])/\Bl w' w2/\n<=2*L/\m<=2*L/\Qn w2 s x n d y m g q):=CO;have HLC:=zk hlc;have HLR:=zk hlr
 clear ho hC hR hbc hbr hlc hlr;show Calls prog 32 #[agg #[.bool s,slice x n c,slice y m d,slice ca ck cc,slice ra rk rc]] w _;go_enter func32,ntmps32;go_wp2_with fail
 have hb1:=zu (zF w (cells #[.bool s,slice x n c,slice y m d,slice ca ck cc,slice ra rk rc] 28)) (cells #[.bool false,slice none 0 0,slice none 0 0,slice none 0 0,slice none 0 0] 83);have B1:=(zJ w [.bool s,slice x n c,slice y m d,slice ca ck cc,slice ra rk rc] 28).q_ (zu (Below.refl _ _) (cells #[.bool false,slice none 0 0,slice none 0 0,slice none 0 0,slice none 0 0] 83));have B2:=zJ (w.alloc (cells #[.bool s,slice x n c,slice y m d,slice ca ck cc,slice ra rk rc] 28)) [.bool false,slice none 0 0,slice none 0 0,slice none 0 0,slice none 0 0] 83;rw[zz]at B2
 replace B1:Bk ((w.alloc (cells #[.bool s,slice x n c,slice y m d,slice ca ck cc,slice ra rk rc] 28)).alloc (cells #[.bool false,slice none 0 0,slice none 0 0,slice none 0 0,slice none 0 0] 83)) w.heap.size [.bool s,slice x n c,slice y m d,slice ca ck cc,slice ra rk rc] 28:=B1;replace B2:Bk ((w.alloc (cells #[.bool s,slice x n c,slice y m d,slice ca ck cc,slice ra rk rc] 28)).alloc (cells #[.bool false,slice none 0 0,slice none 0 0,slice none 0 0,slice none 0 0] 83)) (w.heap.size+1) [.bool false,slice none 0 0,slice none 0 0,slice none 0 0,slice none 0 0] 83:=B2;generalize(w.alloc (cells #[.bool s,slice x n c,slice y m d,slice ca ck cc,slice ra rk rc] 28)).alloc (cells #[.bool false,slice none 0 0,slice none 0 0,slice none 0 0,slice none 0 0] 83)=w1 at *;refine(CO.out _ hb1).mono ?_;rintro e w2 ⟨sz,z2,nz,c2,fz,y2,mz,d2,gz,rfl,hb2,hq1,hq2,hq⟩;have B3:=zJ w2 [.bool sz,slice z2 nz c2,slice y2 mz d2,slice none 0 0,slice none 0 0] 83;have hb3:=zF w2 (cells #[.bool sz,slice z2 nz c2,slice y2 mz d2,slice none 0 0,slice none 0 0] 83);have l1:=B1.lt;have l2:=B2.lt;have l3:=hb2.size
 replace B1:=(B1.q_ hb2).q_ hb3;replace B2:=(B2.q_ hb2).q_ hb3
 have HB3:=zk ((bUp hb1 hb2).trans (hb3.mono (le_trans hb1.size hb2.size)));have HQ:Hid (QnT (2*L) (w2.alloc (cells #[.bool sz,slice z2 nz c2,slice y2 mz d2,slice none 0 0,slice none 0 0] 83)) ⟨sz,z2,nz,c2,fz,y2,mz,d2,gz⟩ q):=⟨hq1,hq2,hq.q_ hb3⟩;have k3:=B1.cell (j:=3) rfl;have HB1:=zk B1;have HB2:=zk B2
 obtain⟨b3,hb3e⟩:∃z,w2.heap.size=z:=⟨_,rfl⟩;have hl3:w.heap.size+1<b3:=by omega
 have hbs:b3<(w2.alloc (cells #[.bool sz,slice z2 nz c2,slice y2 mz d2,slice none 0 0,slice none 0 0] 83)).heap.size:=by simp;omega
 clear hb1 hb2 hb3 B1 B2 CO hq hq1 hq2 l1 l2 l3;go_wp2_with fail
 generalize w2.alloc (cells #[.bool sz,slice z2 nz c2,slice y2 mz d2,slice none 0 0,slice none 0 0] 83)=w3 at *;rw[hb3e]at B3
 obtain⟨base,hbase⟩:∃z,w3.heap.size=z:=⟨_,rfl⟩;have hbb:b3<base:=by omega
 have HI0:Hid (FrC w base w.heap.size (w.heap.size+1) b3 [.bool s,slice x n c,slice y m d,slice ca ck cc,slice ra rk rc] [.bool false,slice none 0 0,slice none 0 0,slice none 0 0,slice none 0 0] sz z2 nz c2 y2 mz d2 ⟨sz,z2,nz,c2,fz,y2,mz,d2,gz⟩ (2*L) q cs w3 0 C (slice none 0 0)):=⟨HB3.out,HB1.out,HB2.out,B3,by omega,HQ.out,zao _ _ _ _,λj v hj=>by omega⟩;clear HB3 HB1 HB2 B3 HQ k3 hb3e hbs hbase;go_loopw[15] (λt wr=>∃(i:Nat) (C':Nat->Lc) (vC:Value),i<=ck/\t=.int .i64 i/\Hid (FrC w base w.heap.size (w.heap.size+1) b3 [.bool s,slice x n c,slice y m d,slice ca ck cc,slice ra rk rc] [.bool false,slice none 0 0,slice none 0 0,slice none 0 0,slice none 0 0] sz z2 nz c2 y2 mz d2 ⟨sz,z2,nz,c2,fz,y2,mz,d2,gz⟩ (2*L) q cs wr i C' vC)) (λt _=>ck-(intOf t).toNat)
 case atStart=>exact⟨0,C,_,by omega,rfl,HI0.out⟩
 case round =>
  obtain⟨i,C',vC,hi,rfl,HI⟩:=hrel;clear HI0;by_cases hlt:i<ck
  ·obtain⟨cv,hcv⟩:∃v,cs[i]?=some v:=⟨_,getElem?_eq_getElem (by rw[<-HLC.out];exact hlt)⟩;obtain⟨⟨b,o,rfl,hc0⟩,hn0'⟩:=HC.out i cv hcv;have hc:=hc0.q_ HI.out.bel;have hn:=hn0'.q_ HI.out.bel;have hbd:=zoJ (HBC.out cv (List.mem_of_getElem? hcv));have HCV:=zk hcv;clear hc0 hn0' hcv;obtain⟨cN,hcN⟩:∃t,C i=t:=⟨_,rfl⟩;rw[hcN]at hc hn
   have HCN:=zk hcN;obtain⟨z,⟨s0,x0,n0,c0,f0,y0,m0,d0,g0⟩,⟨i1,⟨s1,x1,n1,c1,f1,y1,m1,d1,g1⟩⟩,⟨i2,⟨s2,x2,n2,c2',f2,y2',m2,d2',g2⟩⟩⟩:=cN;obtain⟨vnm,vcost,vli,vlq,vhi,vhq⟩:=cv;obtain⟨hnm,hn0,hli,hn1,hhi,hn2⟩:=hn;replace hnm:z=vnm:=hnm;replace hli:i1=vli:=hli;replace hhi:i2=vhi:=hhi;subst hnm;subst hli;subst hhi
   obtain⟨q0,q1,q2,q3,q4,q5,q6,q7,q8,q9,q10,q11⟩:=hc.lc;have HN0:Hid (Rn L wr s0 x0 n0 c0 f0 y0 m0 d0 g0 vcost):=hn0;have HN1:Hid (En L wr i1 s1 x1 n1 c1 f1 y1 m1 d1 g1 vlq):=⟨hn1,hbd.1⟩;have HN2:Hid (En L wr i2 s2 x2 n2 c2' f2 y2' m2 d2' g2 vhq):=⟨hn2,hbd.2⟩;have i1':((i:Nat):Int)<((ck:Nat):Int):=by omega
   clear hcN hc hn0 hn1 hn2 hbd;go_upto_region 5 with fail
   have hb5:=Below.drew (zF wr (cells #[.string z,.bool s0,slice x0 n0 c0,slice y0 m0 d0,.int .i64 i1,.bool s1,slice x1 n1 c1,slice y1 m1 d1,.int .i64 i2,.bool s2,slice x2 n2 c2',slice y2' m2 d2'] 59));have B5:Bk (wr.alloc (cells #[.string z,.bool s0,slice x0 n0 c0,slice y0 m0 d0,.int .i64 i1,.bool s1,slice x1 n1 c1,slice y1 m1 d1,.int .i64 i2,.bool s2,slice x2 n2 c2',slice y2' m2 d2'] 59)).drew wr.heap.size [.string z,.bool s0,slice x0 n0 c0,slice y0 m0 d0,.int .i64 i1,.bool s1,slice x1 n1 c1,slice y1 m1 d1,.int .i64 i2,.bool s2,slice x2 n2 c2',slice y2' m2 d2'] 59:=zJ wr [.string z,.bool s0,slice x0 n0 c0,slice y0 m0 d0,.int .i64 i1,.bool s1,slice x1 n1 c1,slice y1 m1 d1,.int .i64 i2,.bool s2,slice x2 n2 c2',slice y2' m2 d2'] 59;have hne:vC.ownBlock≠some wr.heap.size:=λe=>by have:=(HI.out.row.lt _ e).2;omega
   have hbz:=HI.out.bs;replace HI:=zk (HI.out.q_ hb5);replace HN0:=zk (HN0.out.q_ hb5);replace HN1:=zk (HN1.out.q_ hb5);replace HN2:=zk (HN2.out.q_ hb5)
   obtain⟨a0,a1,a2,a3,a4,a5,a6,a7,a8,a9,a10,a11⟩:=zfg B5;have HB5:=zk B5;obtain⟨bk,hbk⟩:∃z,wr.heap.size=z:=⟨_,rfl⟩;simp only[hbk]at *;clear hb5 hbk q0 q1 q2 q3 q4 q5 q6 q7 q8 q9 q10 q11 B5;refine wp_region_held_drew (S:=(λw'=>w'.cell? ⟨bk,0,none⟩=some (.string z)/\w'.cell? ⟨bk,1,none⟩=some (.bool s0)/\w'.cell? ⟨bk,2,none⟩=some (slice x0 n0 c0)/\w'.cell? ⟨bk,3,none⟩=some (slice y0 m0 d0)/\w'.cell? ⟨bk,4,none⟩=some (.int .i64 i1)/\w'.cell? ⟨bk,5,none⟩=some (.bool s1)/\w'.cell? ⟨bk,6,none⟩=some (slice x1 n1 c1)/\w'.cell? ⟨bk,7,none⟩=some (slice y1 m1 d1)/\w'.cell? ⟨bk,8,none⟩=some (.int .i64 i2)/\w'.cell? ⟨bk,9,none⟩=some (.bool s2)/\w'.cell? ⟨bk,10,none⟩=some (slice x2 n2 c2')/\w'.cell? ⟨bk,11,none⟩=some (slice y2' m2 d2'))) (by kernel_rfl) ?_ (λhHeld=>?_)
   ·exact⟨a0,a1,a2,a3,a4,a5,a6,a7,a8,a9,a10,a11⟩
   generalize hwd:(wr.alloc (cells #[.string z,.bool s0,slice x0 n0 c0,slice y0 m0 d0,.int .i64 i1,.bool s1,slice x1 n1 c1,slice y1 m1 d1,.int .i64 i2,.bool s2,slice x2 n2 c2',slice y2' m2 d2'] 59)).drew=wd at *;clear hwd;refine zH 0 ?_;refine zH 2 ?_;refine zH 3 ?_;simp only[zw,Act.put];refine zH 4 ?_;refine zH 5 ?_;refine zH 7 ?_;simp only[zw,Act.put];refine zH 8 ?_;refine zH 10 ?_;refine zH 11 ?_;simp only[zw,Act.put];refine(show wpAnyH _ _ _ _ _ (6+3) _ _ _ from zbl (λj v w=>match j with|1=>vC=v|6=>FN (2*L) vcost v w|9=>FE (2*L) i1 vlq v w|12=>FE (2*L) i2 vhq v w|13=>FC (2*L) ⟨z,vcost,i1,vlq,i2,vhq⟩ v w|14=>FCs (2*L) ⟨z,vcost,i1,vlq,i2,vhq⟩ v w|_=>True) [(1,20),(6,25),(9,28),(12,31),(13,32),(14,33)] [1,6,9,12,13,14] [15,16,17] _ _ _ 3 ?k1 ?k4 ?k2 ?k3 ?k5 ?k6 ?k8)
   case k1=>kernel_rfl
   case k4=>kernel_rfl
   case k2=>exact λw w' h hb=>⟨kCb hb h.1,kCb hb h.2.1,kCb hb h.2.2.1,kCb hb h.2.2.2.1,kCb hb h.2.2.2.2.1,kCb hb h.2.2.2.2.2.1,kCb hb h.2.2.2.2.2.2.1,kCb hb h.2.2.2.2.2.2.2.1,kCb hb h.2.2.2.2.2.2.2.2.1,kCb hb h.2.2.2.2.2.2.2.2.2.1,kCb hb h.2.2.2.2.2.2.2.2.2.2.1,kCb hb h.2.2.2.2.2.2.2.2.2.2.2⟩
   case k3 =>
    intro j v w w' h hb
    split at h <;> first|exact FN.q_ h hb|exact FE.q_ h hb|exact FC.q_ h hb|exact FCs.q_ h hb|exact h|trivial
   case k8=>exact hHeld
   case k5 =>
    intro i hi;simp only[List.mem_cons,List.not_mem_nil,or_false]at hi;rcases hi with rfl|rfl|rfl|rfl|rfl|rfl
    ·refine⟨_,rfl,λu w5 hS hb5 hd K hK=>?_⟩;have k5:=(HI.out.p3.q_ hb5).cell (j:=3) rfl;simp only[zam,zw,Act.put]at hK ⊢;go_simp;exact hK.out _ _ (Below.refl _ _) rfl
    ·refine⟨_,rfl,λu w5 hS hb5 hd K hK=>?_⟩;simp only[zam,zw,Act.put]at hK ⊢;go_simp
     go_at_call 56
     refine(zdc (HN0.out.q_ hb5) (le_trans hL (by decide))).mono ?_;rintro e w6 ⟨sq,zp,nq9,cp,dp,zq,mq9,cq,gq,rfl,hb6,hq1,hq2,hq⟩
     (try go_wp2_with fail)
     exact hK.out _ _ hb6 ⟨⟨sq,zp,nq9,cp,dp,zq,mq9,cq,gq⟩,rfl,hq1,hq2,hq⟩
    ·refine⟨_,rfl,λu w5 hS hb5 hd K hK=>?_⟩;simp only[zam,zw,Act.put]at hK ⊢;go_simp
     go_at_call 57
     refine(zdW (HN1.out.q_ hb5) (le_trans hL (by decide))).mono ?_;rintro e w6 ⟨sq,zp,nq9,cp,dp,zq,mq9,cq,gq,rfl,hb6,hq⟩
     (try go_wp2_with fail)
     exact hK.out _ _ hb6 ⟨⟨i1,⟨sq,zp,nq9,cp,dp,zq,mq9,cq,gq⟩⟩,rfl,rfl,hq.out.1,hq.out.2.1,hq.out.2.2.qn⟩
    ·refine⟨_,rfl,λu w5 hS hb5 hd K hK=>?_⟩;simp only[zam,zw,Act.put]at hK ⊢;go_simp
     go_at_call 57
     refine(zdW (HN2.out.q_ hb5) (le_trans hL (by decide))).mono ?_;rintro e w6 ⟨sq,zp,nq9,cp,dp,zq,mq9,cq,gq,rfl,hb6,hq⟩
     (try go_wp2_with fail)
     exact hK.out _ _ hb6 ⟨⟨i2,⟨sq,zp,nq9,cp,dp,zq,mq9,cq,gq⟩⟩,rfl,rfl,hq.out.1,hq.out.2.1,hq.out.2.2.qn⟩
    ·refine⟨_,rfl,λu w5 hS hb5 hd K hK=>?_⟩;have h6:FN (2*L) vcost (u 6) w5:=hd 6 (by kernel_rfl) (by kernel_rfl);obtain⟨⟨sa6,xa6,na6,ca6,fa6,ya6,ma6,da6,ga6⟩,e6,hv6⟩:=h6;replace e6:u 6=agg #[.bool sa6,slice xa6 na6 ca6,slice ya6 ma6 da6]:=e6;have h9:FE (2*L) i1 vlq (u 9) w5:=hd 9 (by kernel_rfl) (by kernel_rfl);obtain⟨⟨ia9,⟨sa9,xa9,na9,ca9,fa9,ya9,ma9,da9,ga9⟩⟩,e9,hi9,hv9⟩:=h9;replace e9:u 9=agg #[.int .i64 ia9,.bool sa9,slice xa9 na9 ca9,slice ya9 ma9 da9]:=e9;have h12:FE (2*L) i2 vhq (u 12) w5:=hd 12 (by kernel_rfl) (by kernel_rfl);obtain⟨⟨ia12,⟨sa12,xa12,na12,ca12,fa12,ya12,ma12,da12,ga12⟩⟩,e12,hi12,hv12⟩:=h12;replace e12:u 12=agg #[.int .i64 ia12,.bool sa12,slice xa12 na12 ca12,slice ya12 ma12 da12]:=e12;simp only[zam,zw,Act.put]at hK ⊢;simp only[e6,e9,e12]at hK ⊢;go_simp;exact hK.out _ _ (Below.refl _ _) ⟨⟨z,⟨sa6,xa6,na6,ca6,fa6,ya6,ma6,da6,ga6⟩,⟨ia9,⟨sa9,xa9,na9,ca9,fa9,ya9,ma9,da9,ga9⟩⟩,⟨ia12,⟨sa12,xa12,na12,ca12,fa12,ya12,ma12,da12,ga12⟩⟩⟩,rfl,rfl,hv6,hi9,hv9,hi12,hv12⟩
    ·refine⟨_,rfl,λu w5 hS hb5 hd K hK=>?_⟩;have h13:FC (2*L) ⟨z,vcost,i1,vlq,i2,vhq⟩ (u 13) w5:=hd 13 (by kernel_rfl) (by kernel_rfl);obtain⟨⟨zj,⟨sb,xb,nb,cb,fb,yb,mb,db,gb⟩,⟨ic,⟨sc,xc,nc,cc9,fc,yc,mc,dc,gc⟩⟩,⟨ie,⟨sd,xd,nd,cd,fd,yd,md,dd,gd⟩⟩⟩,e13,hv⟩:=h13;replace e13:u 13=agg #[.string zj,.bool sb,slice xb nb cb,slice yb mb db,.int .i64 ic,.bool sc,slice xc nc cc9,slice yc mc dc,.int .i64 ie,.bool sd,slice xd nd cd,slice yd md dd]:=e13;simp only[zam,zw,Act.put]at hK ⊢;simp only[e13]at hK ⊢;go_simp;have hn:=zF w5 (cells #[.string zj,.bool sb,slice xb nb cb,slice yb mb db,.int .i64 ic,.bool sc,slice xc nc cc9,slice yc mc dc,.int .i64 ie,.bool sd,slice xd nd cd,slice yd md dd] 114);have hx:=zcR w5 114 [.string zj,.bool sb,slice xb nb cb,slice yb mb db,.int .i64 ic,.bool sc,slice xc nc cc9,slice yc mc dc,.int .i64 ie,.bool sd,slice xd nd cd,slice yd md dd] [.string zj,.bool sb,slice xb nb cb,slice yb mb db,.int .i64 ic,.bool sc,slice xc nc cc9,slice yc mc dc,.int .i64 ie,.bool sd,slice xd nd cd,slice yd md dd] 0 (λj v e=>by rw[zero_add];exact e);exact hK.out _ _ hn ⟨w5.heap.size,⟨zj,⟨sb,xb,nb,cb,fb,yb,mb,db,gb⟩,⟨ic,⟨sc,xc,nc,cc9,fc,yc,mc,dc,gc⟩⟩,⟨ie,⟨sd,xd,nd,cd,fd,yd,md,dd,gd⟩⟩⟩,rfl,hx,hv.q_ hn⟩
   case k6 =>
    intro u w5 hS5 hb5 hg;have h1:vC=u 1:=hg 1 (by simp);have h14:FCs (2*L) ⟨z,vcost,i1,vlq,i2,vhq⟩ (u 14) w5:=hg 14 (by simp);obtain⟨b14,⟨zj,⟨sb,xb,nb,cb,fb,yb,mb,db,gb⟩,⟨ic,⟨sc,xc,nc,cc9,fc,yc,mc,dc,gc⟩⟩,⟨ie,⟨sd,xd,nd,cd,fd,yd,md,dd,gd⟩⟩⟩,e14,hcs,hqc⟩:=h14;replace HI:=zk (HI.out.q_ hb5);obtain⟨i0,hi0,hz0,hz1,hz2⟩:=info_parts zpJ;obtain⟨t0,t1,t2,t3,t4,t5,t6,t7,t8,t9,t10,t11⟩:=id hS5;have hbl:=block_lt_of_cell? w5 _ t0;replace hbl:bk<w5.heap.size:=hbl;clear hg;simp only[zam,zw,Act.put];simp only[<-h1,e14];clear h1 e14;refine rdO 15 (λK hK=>?_);refine zaQ w5 rfl (.tmp 20) (.tmp 33) 80 rfl base 114 i0 zC 12 200 underlying80 hi0 hz0 hz1 hz2 rfl (by decide) nzC vC i (ccs C' i) rfl HI.out.row ⟨b14,0,none⟩ 1 1 (Lc.vs ⟨zj,⟨sb,xb,nb,cb,fb,yb,mb,db,gb⟩,⟨ic,⟨sc,xc,nc,cc9,fc,yc,mc,dc,gc⟩⟩,⟨ie,⟨sd,xd,nd,cd,fd,yd,md,dd,gd⟩⟩⟩) rfl rfl ?n1 (ziC _) (zfK _) (by decide) ?p1 ?p2 HI.out.bs ?_
    case n1=>intro j u hu;rw[addr_add];exact hcs j u hu
    case p1=>unfold maxLen;omega
    case p2=>omega
    intro g8 cap8 w8 hr8 hgr8 hk8 hl8;have hB8:=hgr8.block bk hbl (λe=>hne e.symm);have e0:=(cell?_of_block (a:=⟨bk,0,none⟩) hB8).trans t0;have e1:=(cell?_of_block (a:=⟨bk,1,none⟩) hB8).trans t1;have e2:=(cell?_of_block (a:=⟨bk,2,none⟩) hB8).trans t2;have e3:=(cell?_of_block (a:=⟨bk,3,none⟩) hB8).trans t3;have e4:=(cell?_of_block (a:=⟨bk,4,none⟩) hB8).trans t4;have e5:=(cell?_of_block (a:=⟨bk,5,none⟩) hB8).trans t5;have e6:=(cell?_of_block (a:=⟨bk,6,none⟩) hB8).trans t6;have e7:=(cell?_of_block (a:=⟨bk,7,none⟩) hB8).trans t7;have e8:=(cell?_of_block (a:=⟨bk,8,none⟩) hB8).trans t8;have e9:=(cell?_of_block (a:=⟨bk,9,none⟩) hB8).trans t9;have e10:=(cell?_of_block (a:=⟨bk,10,none⟩) hB8).trans t10;have e11:=(cell?_of_block (a:=⟨bk,11,none⟩) hB8).trans t11;have hp8:=HI.out.p3.of (hgr8.block b3 HI.out.p3.lt (λe=>by have:=(HI.out.row.lt b3 e.symm).1;omega));have f0:=hp8.cell (j:=3) rfl;have ff:=hp8.frozen 3;refine hK.out _ _ ?_ (λhH8=>?_)
    ·exact⟨e0,e1,e2,e3,e4,e5,e6,e7,e8,e9,e10,e11⟩
    clear hK K;try simp only[Act.put,List.setIfInBounds_toArray]
    refine zH 16 ?_;simp only[zw,Act.put];refine rdO 17 (λK hK=>?_);go_simp;refine hK.out _ _ ?_ (λhH9=>?_)
    ·((try dsimp only);(refine⟨?_,?_,?_,?_,?_,?_,?_,?_,?_,?_,?_,?_⟩ <;> repeat(with_reducible first|assumption|refine kCs (by simp only[ne_eq];omega) ?_)))
    clear hK K;try simp only[Act.put]
    refine dnO ?_;have HI9:=zk (HI.out.next (by omega) (by omega) hbb (le_refl _) (λv hv=>by rw[HCV.out]at hv;cases hv;exact hqc) hr8 hk8 hgr8);clear hr8 hgr8 hk8 hl8 hB8 hp8 f0 ff hH8 hH9 HI hqc hcs hHeld HB5 e0 e1 e2 e3 e4 e5 e6 e7 e8 e9 e10 e11;go_wp2;go_roundw
    case rel=>exact⟨i+1,_,_,by omega,by go_num,HI9.out⟩
    case measure=>simp[intOf];omega
  ·have e1:i=ck:=by omega
   have i2':¬(((i:Nat):Int)<((ck:Nat):Int)):=by omega
   rw[e1]at HI
   have k4:=HI.out.p1.cell (j:=4) rfl;obtain⟨base2,hbase2⟩:∃z,wr.heap.size=z:=⟨_,rfl⟩;have hb2:base<=base2:=by have:=HI.out.bs;omega
   have HI2:Hid (FrR w base base2 (w.heap.size+1) b3 [.bool false,slice none 0 0,slice none 0 0,slice none 0 0,slice none 0 0] sz z2 nz c2 y2 mz d2 ⟨sz,z2,nz,c2,fz,y2,mz,d2,gz⟩ (2*L) q cs ck C' vC rs wr 0 R (slice none 0 0)):=⟨HI.out.bel,HI.out.p2,HI.out.p3,by omega,HI.out.off,HI.out.row,HI.out.el,λk hk=>by have:=(HI.out.row.lt k hk).2;omega,zao _ _ _ _,λj v hj=>by omega⟩;clear HI e1 HC hbase2;go_wp2_with fail
   go_loopw[40] (λt wr=>∃(i:Nat) (R':Nat->Lr) (vR:Value),i<=rk/\t=.int .i64 i/\Hid (FrR w base base2 (w.heap.size+1) b3 [.bool false,slice none 0 0,slice none 0 0,slice none 0 0,slice none 0 0] sz z2 nz c2 y2 mz d2 ⟨sz,z2,nz,c2,fz,y2,mz,d2,gz⟩ (2*L) q cs ck C' vC rs wr i R' vR)) (λt _=>rk-(intOf t).toNat)
   case atStart=>exact⟨0,R,_,by omega,rfl,HI2.out⟩
   case round =>
    obtain⟨i,R',vR,hi,rfl,HI⟩:=hrel;clear HI2 k4;by_cases hlt:i<rk
    ·obtain⟨rv,hrv⟩:∃v,rs[i]?=some v:=⟨_,getElem?_eq_getElem (by rw[<-HLR.out];exact hlt)⟩;obtain⟨⟨b,o,rfl,hc0⟩,hn0'⟩:=HRL.out i rv hrv;have hc:=hc0.q_ HI.out.bel;have hn:=hn0'.q_ HI.out.bel;obtain⟨hbd0,hts1,hts2⟩:=HBR.out rv (List.mem_of_getElem? hrv);have hbd:=zoJ hbd0;have HRV:=zk hrv;clear hc0 hn0' hrv hbd0 hts1;obtain⟨rN,hrN⟩:∃t,R i=t:=⟨_,rfl⟩;rw[hrN]at hc hn
     have HRN:=zk hrN;obtain⟨z,⟨i1,⟨s1,x1,n1,c1,f1,y1,m1,d1,g1⟩⟩,⟨i2,⟨s2,x2,n2,c2',f2,y2',m2,d2',g2⟩⟩,ta,tk,tc,tcol,tt⟩:=rN;have hT:=hn.tls (le_trans hL (by decide));have hQ:∀j,j<(Lr.mk z ⟨i1,⟨s1,x1,n1,c1,f1,y1,m1,d1,g1⟩⟩ ⟨i2,⟨s2,x2,n2,c2',f2,y2',m2,d2',g2⟩⟩ ta tk tc tcol tt).tk->∃q',rv.ts[j]?=some (tcol j,q')/\Rn L wr (tt j).s (tt j).x (tt j).n (tt j).c (tt j).f (tt j).y (tt j).m (tt j).d (tt j).g q':=λj hj=>by
      rw[hn.tk]at hj
      obtain⟨⟨a,q'⟩,e⟩:∃v,rv.ts[j]?=some v:=⟨_,getElem?_eq_getElem hj⟩;obtain⟨e1,e2,_⟩:=hn.tl j a q' e;exact⟨q',by rw[e,<-e1],e2⟩
     obtain⟨vnm,vli,vlq,vhi,vhq,vts⟩:=rv;obtain⟨hnm,hli,hn1,hhi,hn2,htk,_⟩:=hn;replace hnm:z=vnm:=hnm;replace hli:i1=vli:=hli;replace hhi:i2=vhi:=hhi;replace htk:tk=vts.length:=htk;subst hnm;subst hli;subst hhi
     obtain⟨q0,q1,q2,q3,q4,q5,q6,q7,q8,q9⟩:=hc.lr;have HN1:Hid (En L wr i1 s1 x1 n1 c1 f1 y1 m1 d1 g1 vlq):=⟨hn1,hbd.1⟩;have HN2:Hid (En L wr i2 s2 x2 n2 c2' f2 y2' m2 d2' g2 vhq):=⟨hn2,hbd.2⟩;have HN3:Hid (∀W,Bl wr W->Calls prog 58 #[slice ta tk tc] W λe w'=>zmS (2*L) W w' e tk vts):=λW hW=>zml (hT.q_ hW) (le_trans (Nat.le_of_eq htk) (le_trans hts2 (by decide))) (le_trans hL (by decide)) htk.symm (λj hj=>by obtain⟨q',e1,e2⟩:=hQ j hj;exact⟨q',e1,e2.q_ hW⟩)
     have HTK:=zk htk;have i1':((i:Nat):Int)<((rk:Nat):Int):=by omega
     clear hrN hc hn1 hn2 hT hQ hbd htk;go_upto_region 10 with fail
     have hb5:=Below.drew (zF wr (cells #[.string z,.int .i64 i1,.bool s1,slice x1 n1 c1,slice y1 m1 d1,.int .i64 i2,.bool s2,slice x2 n2 c2',slice y2' m2 d2',slice ta tk tc] 62));have B5:Bk (wr.alloc (cells #[.string z,.int .i64 i1,.bool s1,slice x1 n1 c1,slice y1 m1 d1,.int .i64 i2,.bool s2,slice x2 n2 c2',slice y2' m2 d2',slice ta tk tc] 62)).drew wr.heap.size [.string z,.int .i64 i1,.bool s1,slice x1 n1 c1,slice y1 m1 d1,.int .i64 i2,.bool s2,slice x2 n2 c2',slice y2' m2 d2',slice ta tk tc] 62:=zJ wr [.string z,.int .i64 i1,.bool s1,slice x1 n1 c1,slice y1 m1 d1,.int .i64 i2,.bool s2,slice x2 n2 c2',slice y2' m2 d2',slice ta tk tc] 62;have hne:vR.ownBlock≠some wr.heap.size:=λe=>by have:=(HI.out.row.lt _ e).2;omega
     have hbz:=HI.out.bs;replace HI:=zk (HI.out.q_ hb5);replace HN1:=zk (HN1.out.q_ hb5);replace HN2:=zk (HN2.out.q_ hb5)
     replace HN3:Hid (∀W,Below (wr.alloc (cells #[.string z,.int .i64 i1,.bool s1,slice x1 n1 c1,slice y1 m1 d1,.int .i64 i2,.bool s2,slice x2 n2 c2',slice y2' m2 d2',slice ta tk tc] 62)).drew.heap.size (wr.alloc (cells #[.string z,.int .i64 i1,.bool s1,slice x1 n1 c1,slice y1 m1 d1,.int .i64 i2,.bool s2,slice x2 n2 c2',slice y2' m2 d2',slice ta tk tc] 62)).drew W->Calls prog 58 #[slice ta tk tc] W λe w'=>zmS (2*L) W w' e tk vts):=λW hW=>HN3.out W (bUp hb5 hW)
     obtain⟨a0,a1,a2,a3,a4,a5,a6,a7,a8,a9⟩:=zdH B5;have HB5:=zk B5;obtain⟨bk,hbk⟩:∃z,wr.heap.size=z:=⟨_,rfl⟩;simp only[hbk]at *;clear hb5 hbk q0 q1 q2 q3 q4 q5 q6 q7 q8 q9 B5;refine wp_region_held_drew (S:=(λw'=>w'.cell? ⟨bk,0,none⟩=some (.string z)/\w'.cell? ⟨bk,1,none⟩=some (.int .i64 i1)/\w'.cell? ⟨bk,2,none⟩=some (.bool s1)/\w'.cell? ⟨bk,3,none⟩=some (slice x1 n1 c1)/\w'.cell? ⟨bk,4,none⟩=some (slice y1 m1 d1)/\w'.cell? ⟨bk,5,none⟩=some (.int .i64 i2)/\w'.cell? ⟨bk,6,none⟩=some (.bool s2)/\w'.cell? ⟨bk,7,none⟩=some (slice x2 n2 c2')/\w'.cell? ⟨bk,8,none⟩=some (slice y2' m2 d2')/\w'.cell? ⟨bk,9,none⟩=some (slice ta tk tc))) (by kernel_rfl) ?_ (λhHeld=>?_)
     ·exact⟨a0,a1,a2,a3,a4,a5,a6,a7,a8,a9⟩
     generalize hwd:(wr.alloc (cells #[.string z,.int .i64 i1,.bool s1,slice x1 n1 c1,slice y1 m1 d1,.int .i64 i2,.bool s2,slice x2 n2 c2',slice y2' m2 d2',slice ta tk tc] 62)).drew=wd at *;clear hwd;obtain⟨bse,hbse⟩:∃z,wd.heap.size=z:=⟨_,rfl⟩;have hb2s:base2<=bse:=by have:=HI.out.bs;omega
     have hown:∀b,bse<=b->vR.ownBlock≠some b:=λb hb e=>by have:=(HI.out.row.lt b e).2;omega
     have HW:=zk hown;clear hown;refine zH 0 ?_;refine zH 2 ?_;refine zH 3 ?_;simp only[zw,Act.put];refine zH 4 ?_;refine zH 5 ?_;refine zH 7 ?_;simp only[zw,Act.put];refine zH 8 ?_;refine zH 10 ?_;refine zH 11 ?_;simp only[zw,Act.put];refine(show wpAnyH _ _ _ _ _ (6+3) _ _ _ from zbl (λj v w=>match j with|1=>vR=v|6=>FE (2*L) i1 vlq v w|9=>FE (2*L) i2 vhq v w|12=>FT (2*L) bse tk vts v w|13=>FR (2*L) bse ⟨z,i1,vlq,i2,vhq,vts⟩ v w|14=>FRs (2*L) bse ⟨z,i1,vlq,i2,vhq,vts⟩ v w|_=>True) [(1,45),(6,50),(9,53),(12,56),(13,57),(14,58)] [1,6,9,12,13,14] [15,16,17] _ _ _ 3 ?k1 ?k4 ?k2 ?k3 ?k5 ?k6 ?k8)
     case k1=>kernel_rfl
     case k4=>kernel_rfl
     case k2=>exact λw w' h hb=>⟨kCb hb h.1,kCb hb h.2.1,kCb hb h.2.2.1,kCb hb h.2.2.2.1,kCb hb h.2.2.2.2.1,kCb hb h.2.2.2.2.2.1,kCb hb h.2.2.2.2.2.2.1,kCb hb h.2.2.2.2.2.2.2.1,kCb hb h.2.2.2.2.2.2.2.2.1,kCb hb h.2.2.2.2.2.2.2.2.2⟩
     case k3 =>
      intro j v w w' h hb
      split at h <;> first|exact FE.q_ h hb|exact FT.q_ h hb|exact FR.q_ h hb|exact FRs.q_ h hb|exact h|trivial
     case k8=>exact hHeld
     case k5 =>
      intro i hi;simp only[List.mem_cons,List.not_mem_nil,or_false]at hi;rcases hi with rfl|rfl|rfl|rfl|rfl|rfl
      ·refine⟨_,rfl,λu w5 hS hb5 hd K hK=>?_⟩;have k5:=(HI.out.p3.q_ hb5).cell (j:=4) rfl;simp only[zam,zw,Act.put]at hK ⊢;go_simp;exact hK.out _ _ (Below.refl _ _) rfl
      ·refine⟨_,rfl,λu w5 hS hb5 hd K hK=>?_⟩;simp only[zam,zw,Act.put]at hK ⊢;go_simp
       go_at_call 57
       refine(zdW (HN1.out.q_ hb5) (le_trans hL (by decide))).mono ?_;rintro e w6 ⟨sq,zp,nq9,cp,dp,zq,mq9,cq,gq,rfl,hb6,hq⟩
       (try go_wp2_with fail)
       exact hK.out _ _ hb6 ⟨⟨i1,⟨sq,zp,nq9,cp,dp,zq,mq9,cq,gq⟩⟩,rfl,rfl,hq.out.1,hq.out.2.1,hq.out.2.2.qn⟩
      ·refine⟨_,rfl,λu w5 hS hb5 hd K hK=>?_⟩;simp only[zam,zw,Act.put]at hK ⊢;go_simp
       go_at_call 57
       refine(zdW (HN2.out.q_ hb5) (le_trans hL (by decide))).mono ?_;rintro e w6 ⟨sq,zp,nq9,cp,dp,zq,mq9,cq,gq,rfl,hb6,hq⟩
       (try go_wp2_with fail)
       exact hK.out _ _ hb6 ⟨⟨i2,⟨sq,zp,nq9,cp,dp,zq,mq9,cq,gq⟩⟩,rfl,rfl,hq.out.1,hq.out.2.1,hq.out.2.2.qn⟩
      ·refine⟨_,rfl,λu w5 hS hb5 hd K hK=>?_⟩;simp only[zam,zw,Act.put]at hK ⊢;go_simp
       go_at_call 58
       refine(HN3.out _ hb5).mono ?_;rintro e w6 ⟨aw,cw,rfl,hb6,_,hfr,hq⟩
       (try go_wp2_with fail)
       exact hK.out _ _ hb6 ⟨aw,cw,rfl,λb o s e=>by have h1:=hfr b o s e;have h2:=hb5.size;omega,hq.out⟩
      ·refine⟨_,rfl,λu w5 hS hb5 hd K hK=>?_⟩;have h6:FE (2*L) i1 vlq (u 6) w5:=hd 6 (by kernel_rfl) (by kernel_rfl);obtain⟨⟨ia6,⟨sa6,xa6,na6,ca6,fa6,ya6,ma6,da6,ga6⟩⟩,e6,hi6,hv6⟩:=h6;replace e6:u 6=agg #[.int .i64 ia6,.bool sa6,slice xa6 na6 ca6,slice ya6 ma6 da6]:=e6;have h9:FE (2*L) i2 vhq (u 9) w5:=hd 9 (by kernel_rfl) (by kernel_rfl);obtain⟨⟨ia9,⟨sa9,xa9,na9,ca9,fa9,ya9,ma9,da9,ga9⟩⟩,e9,hi9,hv9⟩:=h9;replace e9:u 9=agg #[.int .i64 ia9,.bool sa9,slice xa9 na9 ca9,slice ya9 ma9 da9]:=e9;have h12:FT (2*L) bse tk vts (u 12) w5:=hd 12 (by kernel_rfl) (by kernel_rfl);obtain⟨aw,cw,e12,hfr,htq⟩:=h12;simp only[zam,zw,Act.put]at hK ⊢;simp only[e6,e9,e12]at hK ⊢;go_simp;exact hK.out _ _ (Below.refl _ _) ⟨⟨z,⟨ia6,⟨sa6,xa6,na6,ca6,fa6,ya6,ma6,da6,ga6⟩⟩,⟨ia9,⟨sa9,xa9,na9,ca9,fa9,ya9,ma9,da9,ga9⟩⟩,aw,tk,cw,λ_=>0,λ_=>nz9⟩,rfl,⟨rfl,hi6,hv6,hi9,hv9,HTK.out,htq⟩,hfr⟩
      ·refine⟨_,rfl,λu w5 hS hb5 hd K hK=>?_⟩;have h13:FR (2*L) bse ⟨z,i1,vlq,i2,vhq,vts⟩ (u 13) w5:=hd 13 (by kernel_rfl) (by kernel_rfl);obtain⟨⟨zj,⟨ic,⟨sc,xc,nc,cc9,fc,yc,mc,dc,gc⟩⟩,⟨ie,⟨sd,xd,nd,cd,fd,yd,md,dd,gd⟩⟩,ta9,tk9,tc9,tcol9,tt9⟩,e13,hv,hfr⟩:=h13;replace e13:u 13=agg #[.string zj,.int .i64 ic,.bool sc,slice xc nc cc9,slice yc mc dc,.int .i64 ie,.bool sd,slice xd nd cd,slice yd md dd,slice ta9 tk9 tc9]:=e13;simp only[zam,zw,Act.put]at hK ⊢;simp only[e13]at hK ⊢;go_simp;have hn:=zF w5 (cells #[.string zj,.int .i64 ic,.bool sc,slice xc nc cc9,slice yc mc dc,.int .i64 ie,.bool sd,slice xd nd cd,slice yd md dd,slice ta9 tk9 tc9] 89);have hx:=zcR w5 89 [.string zj,.int .i64 ic,.bool sc,slice xc nc cc9,slice yc mc dc,.int .i64 ie,.bool sd,slice xd nd cd,slice yd md dd,slice ta9 tk9 tc9] [.string zj,.int .i64 ic,.bool sc,slice xc nc cc9,slice yc mc dc,.int .i64 ie,.bool sd,slice xd nd cd,slice yd md dd,slice ta9 tk9 tc9] 0 (λj v e=>by rw[zero_add];exact e);exact hK.out _ _ hn ⟨w5.heap.size,⟨zj,⟨ic,⟨sc,xc,nc,cc9,fc,yc,mc,dc,gc⟩⟩,⟨ie,⟨sd,xd,nd,cd,fd,yd,md,dd,gd⟩⟩,ta9,tk9,tc9,tcol9,tt9⟩,rfl,hx,hv.q_ hn,hfr⟩
     case k6 =>
      intro u w5 hS5 hb5 hg;have h1:vR=u 1:=hg 1 (by simp);have h14:FRs (2*L) bse ⟨z,i1,vlq,i2,vhq,vts⟩ (u 14) w5:=hg 14 (by simp);obtain⟨b14,⟨zj,⟨ic,⟨sc,xc,nc,cc9,fc,yc,mc,dc,gc⟩⟩,⟨ie,⟨sd,xd,nd,cd,fd,yd,md,dd,gd⟩⟩,ta9,tk9,tc9,tcol9,tt9⟩,e14,hcs,hqc,hfr⟩:=h14;replace HI:=zk (HI.out.q_ hb5);obtain⟨i0,hi0,hz0,hz1,hz2⟩:=info_parts zpI;obtain⟨t0,t1,t2,t3,t4,t5,t6,t7,t8,t9⟩:=id hS5;have hbl:=block_lt_of_cell? w5 _ t0;replace hbl:bk<w5.heap.size:=hbl;clear hg;simp only[zam,zw,Act.put];simp only[<-h1,e14];clear h1 e14;refine rdO 15 (λK hK=>?_);refine zaQ w5 rfl (.tmp 45) (.tmp 58) 81 rfl base2 89 i0 zR 10 168 underlying81 hi0 hz0 hz1 hz2 rfl (by decide) nzR vR i (rcs R' i) rfl HI.out.row ⟨b14,0,none⟩ 1 1 (Lr.vs ⟨zj,⟨ic,⟨sc,xc,nc,cc9,fc,yc,mc,dc,gc⟩⟩,⟨ie,⟨sd,xd,nd,cd,fd,yd,md,dd,gd⟩⟩,ta9,tk9,tc9,tcol9,tt9⟩) rfl rfl ?n1 (ziB _) (zfJ _) (by decide) ?p1 ?p2 HI.out.bs ?_
      case n1=>intro j u hu;rw[addr_add];exact hcs j u hu
      case p1=>unfold maxLen;omega
      case p2=>omega
      intro g8 cap8 w8 hr8 hgr8 hk8 hl8;have hB8:=hgr8.block bk hbl (λe=>hne e.symm);have e0:=(cell?_of_block (a:=⟨bk,0,none⟩) hB8).trans t0;have e1:=(cell?_of_block (a:=⟨bk,1,none⟩) hB8).trans t1;have e2:=(cell?_of_block (a:=⟨bk,2,none⟩) hB8).trans t2;have e3:=(cell?_of_block (a:=⟨bk,3,none⟩) hB8).trans t3;have e4:=(cell?_of_block (a:=⟨bk,4,none⟩) hB8).trans t4;have e5:=(cell?_of_block (a:=⟨bk,5,none⟩) hB8).trans t5;have e6:=(cell?_of_block (a:=⟨bk,6,none⟩) hB8).trans t6;have e7:=(cell?_of_block (a:=⟨bk,7,none⟩) hB8).trans t7;have e8:=(cell?_of_block (a:=⟨bk,8,none⟩) hB8).trans t8;have e9:=(cell?_of_block (a:=⟨bk,9,none⟩) hB8).trans t9;have hp8:=HI.out.p3.of (hgr8.block b3 HI.out.p3.lt (λe=>by have:=(HI.out.row.lt b3 e.symm).1;omega));have f0:=hp8.cell (j:=4) rfl;have ff:=hp8.frozen 4;refine hK.out _ _ ?_ (λhH8=>?_)
      ·exact⟨e0,e1,e2,e3,e4,e5,e6,e7,e8,e9⟩
      clear hK K;try simp only[Act.put,List.setIfInBounds_toArray]
      refine zH 16 ?_;simp only[zw,Act.put];refine rdO 17 (λK hK=>?_);go_simp;refine hK.out _ _ ?_ (λhH9=>?_)
      ·((try dsimp only);(refine⟨?_,?_,?_,?_,?_,?_,?_,?_,?_,?_⟩ <;> repeat(with_reducible first|assumption|refine kCs (by simp only[ne_eq];omega) ?_)))
      clear hK K;try simp only[Act.put]
      refine dnO ?_;have HI9:=zk (HI.out.next (by omega) (by omega) hbb (by omega) (λv hv=>by rw[HRV.out]at hv;cases hv;exact hqc) (λb o s e=>⟨by have:=hfr b o s e;omega,HW.out b (hfr b o s e)⟩) hr8 hk8 hgr8 hl8);clear hr8 hgr8 hk8 hl8 hB8 hp8 f0 ff hH8 hH9 HI hqc hcs hHeld HB5 e0 e1 e2 e3 e4 e5 e6 e7 e8 e9;go_wp2;go_roundw
      case rel=>exact⟨i+1,_,_,by omega,by go_num,HI9.out⟩
      case measure=>simp[intOf];omega
    ·have e1:i=rk:=by omega
     have i2':¬(((i:Nat):Int)<((rk:Nat):Int)):=by omega
     rw[e1]at HI
     obtain⟨aC,cC,rfl⟩:=HI.out.rowC.slice;obtain⟨aR,cR,rfl⟩:=HI.out.row.slice;have o0:=HI.out.p3.cell (j:=0) rfl;have o1:=HI.out.p3.cell (j:=1) rfl;have o2:=HI.out.p3.cell (j:=2) rfl;have o3:=HI.out.p3.cell (j:=3) rfl;have o4:=HI.out.p3.cell (j:=4) rfl;have r0:=HI.out.p2.cell (j:=0) rfl;have r1:=HI.out.p2.cell (j:=1) rfl;have r2:=HI.out.p2.cell (j:=2) rfl;have r3:=HI.out.p2.cell (j:=3) rfl;have r4:=HI.out.p2.cell (j:=4) rfl;have rf:=HI.out.p2.frozen;obtain⟨hx1,hx2⟩:=HI.out.done (v0:=.bool sz) (v1:=slice z2 nz c2) (v2:=slice y2 mz d2) (v3:=slice aC ck cC) (v4:=slice aR rk cR) (by omega) (by omega) (by omega) rfl HLC.out HLR.out;have HX:=zk (HA.out _ _ hx1 hx2);clear hx1 hx2 HI e1;go_wp2;exact bodyPost_ret (v:=agg #[.bool sz,slice z2 nz c2,slice y2 mz d2,slice aC ck cC,slice aR rk cR]) (by simp[results,results32,go_sem,r0,r1,r2,r3,r4]) rfl HX.out
theorem NmS.val {w t K} (h:NmS w t) (hf:nfB t=true) (hk:t.n<=K/\t.m<=K):NmV K w t (nq t):=by
 obtain⟨q,hq⟩:=Nm.rn h hf hk.1 hk.2;rw[hq.nq];exact hq
def zht (c:Lc):CV:=⟨c.nm,nq c.cost,c.lo.i,nq c.lo.v,c.hi.i,nq c.hi.v⟩
def zeE (r:Lr):RV:=⟨r.nm,r.lo.i,nq r.lo.v,r.hi.i,nq r.hi.v,(List.range r.tk).map (λp=>(r.col p,nq (r.T p)))⟩
theorem zcZ {α:Type} {f n j} {v:α} (h:((List.range n).map f)[j]?=some v):j<n/\v=f j:=by
 have hlt:j<n:=by have:=(List.getElem?_eq_some_iff.1 h).1;simpa using this
 simp[hlt]at h
 exact⟨hlt,h.symm⟩
theorem zdu {α:Type} {f:Nat->α} {n j} (h:j<n):((List.range n).map f)[j]?=some (f j):=by simp[h]
theorem zoI {w a b K} (ha:NmS w a.v) (hb:NmS w b.v) (ka:a.v.n<=K/\a.v.m<=K) (kb:b.v.n<=K/\b.v.m<=K) (h:abB a b=true):NmV K w a.v (nq a.v)/\NmV K w b.v (nq b.v)/\bdB a.i (nq a.v) b.i (nq b.v)=true:=by
 obtain⟨f1,f2,h1,h2⟩:=zpU h;simp only[exF,efB,Bool.and_eq_true,Bool.or_eq_true,decide_eq_true_eq]at f1 f2;have v1:NmV K w a.v (nq a.v):=ha.val f1.1 ka;have v2:NmV K w b.v (nq b.v):=hb.val f2.1 kb;refine⟨v1,v2,?_⟩;simp only[bdB,Bool.and_eq_true,Bool.or_eq_true,decide_eq_true_eq];constructor
 ·rcases f1.2 with h|⟨h|h,h3⟩
  ·exact .inl h
  ·exact .inr ⟨h,(Rn.q_zero v1).2 h3⟩
  ·exact absurd h h1
 ·rcases f2.2 with h|⟨h|h,h3⟩
  ·exact .inl h
  ·exact absurd h h2
  ·exact .inr ⟨h,(Rn.q_zero v2).2 h3⟩
theorem zoz {w col T} {n K:Nat}:∀{r i:Nat} {last:Int},tfr col T r i last=true->(∀p,i<=p->p<i+r->col p<(n:Int))->(∀p,i<=p->p<i+r->NmV K w (T p) (nq (T p)))->tsB n last ((List.range' i r).map (λp=>(col p,nq (T p))))=true
 | 0,i,last,_,_,_=>rfl
 | r+1,i,last,h,hc,hv=>by
  simp only[tfr,Bool.and_eq_true,decide_eq_true_eq]at h;rw[List.range'_succ,List.map_cons];simp only[tsB,Bool.and_eq_true,decide_eq_true_eq];refine⟨h.1,hc i (by omega) (by omega),λe=>?_,zoz h.2.2.2 (λp a b=>hc p (by omega) (by omega)) (λp a b=>hv p (by omega) (by omega))⟩;have:=(Rn.q_zero (hv i (by omega) (by omega))).1 e;omega
def zbK (M:Mo):List CV:=(List.range M.ck).map (λj=>zht (M.C j))
def zch (M:Mo):List RV:=(List.range M.rk).map (λj=>zeE (M.R j))
theorem MoR.movC {w M K} (h:MoR w M) (hk:MoK K M) (he:zaM M=0):MoV K w M (nq M.off) (zbK M) (zch M)/\zbA (zbK M) (zch M)=true:=by
 obtain⟨l1,l2,hF,n1,n2,t1,t2,hAl⟩:=zgz he;simp only[moF,Bool.and_eq_true]at hF;obtain⟨hF0,hFC,hFR⟩:=hF;have hcol:∀j,j<M.ck->ColV K w (M.C j) (zht (M.C j))/\bdB (zht (M.C j)).li (zht (M.C j)).lq (zht (M.C j)).hi (zht (M.C j)).hq=true:=λj hj=>by
  obtain⟨_,_,_,_,hn⟩:=h.cls j hj;obtain⟨f1,f2⟩:=zgy hFC j (by omega) (by omega);have k:=hk.c j hj;obtain⟨v1,v2,hb⟩:=zoI hn.lo hn.hi k.2.1 k.2.2 f2;exact⟨⟨rfl,hn.cost.val f1 k.1,rfl,v1,rfl,v2⟩,hb⟩
 have hrow:∀j,j<M.rk->RowV K w (M.R j) (zeE (M.R j))/\bdB (zeE (M.R j)).li (zeE (M.R j)).lq (zeE (M.R j)).hi (zeE (M.R j)).hq=true/\tsB M.ck (-1) (zeE (M.R j)).ts=true:=λj hj=>by
  obtain⟨_,_,_,_,hn⟩:=h.rls j hj;obtain⟨f1,f2⟩:=zeg hFR j (by omega) (by omega);have k:=hk.r j hj;obtain⟨v1,v2,hb⟩:=zoI hn.lo hn.hi k.1 k.2.1 f1;have hall:=(znm f2).1;have hv:∀p,p<(M.R j).tk->NmV K w ((M.R j).T p) (nq ((M.R j).T p)):=λp hp=>by
   obtain⟨_,_,_,_,hr⟩:=hn.tl p hp;exact NmS.val hr (hall p (by omega) (by omega)).2.1 (k.2.2.2 p hp)
  refine⟨⟨rfl,rfl,v1,rfl,v2,by simp[zeE],λp z q e=>?_⟩,hb,?_⟩
  ·obtain⟨hp,e'⟩:=zcZ e;obtain⟨b,o,ea,c4,_⟩:=hn.tl p hp;cases e'
   exact⟨rfl,hv p hp,b,o,ea,c4⟩
  ·show tsB M.ck (-1) ((List.range (M.R j).tk).map _)=true;rw[List.range_eq_range'];exact zoz f2 (λp _ hp=>(zjD f2 (ziw hAl j (by omega) (by omega)) p (by omega)).2) (λp _ hp=>hv p (by omega))
 unfold zbK zch;refine⟨⟨h.off.val hF0 hk.off,by simp,by simp,λj v e=>?_,λj v e=>?_⟩,?_⟩
 ·obtain⟨hj,rfl⟩:=zcZ e;obtain⟨b,o,ea,hc,_⟩:=h.cls j hj;exact⟨⟨b,o,ea,hc⟩,(hcol j hj).1⟩
 ·obtain⟨hj,rfl⟩:=zcZ e;obtain⟨b,o,ea,hc,_⟩:=h.rls j hj;exact⟨⟨b,o,ea,hc⟩,(hrow j hj).1⟩
 ·have ec:∀j,j<M.ck->nmC ((List.range M.ck).map (λj=>zht (M.C j))) j=(M.C j).nm:=λj hj=>by unfold nmC;rw[zdu hj];rfl
  have er:∀j,j<M.rk->nmR ((List.range M.rk).map (λj=>zeE (M.R j))) j=(M.R j).nm:=λj hj=>by unfold nmR;rw[zdu hj];rfl
  simp only[zbA,Bool.and_eq_true,decide_eq_true_eq,List.all_eq_true,List.length_map,List.length_range,Bool.not_eq_true'];refine⟨l1,l2,λv hv=>?_,λv hv=>?_,?_,?_,?_,?_⟩
  ·obtain⟨j,hj,rfl⟩:=List.mem_map.1 hv;exact(hcol j (List.mem_range.1 hj)).2
  ·obtain⟨j,hj,rfl⟩:=List.mem_map.1 hv;have:=hrow j (List.mem_range.1 hj);refine⟨this.2.1,this.2.2,?_⟩;have h3:=(hk.r j (List.mem_range.1 hj)).2.2.1;simp[zeE];omega
  ·rw[zbd (S':=λj=>(M.C j).nm) (λj _ hj=>ec j (by omega))];exact n1
  ·rw[zbd (S':=λj=>(M.R j).nm) (λj _ hj=>er j (by omega))];exact n2
  ·rw[zbb (S':=λj=>(M.C j).nm) (λj hj=>ec j (by omega))];exact t1
  ·rw[zbb (S':=λj=>(M.R j).nm) (λj hj=>er j (by omega))];exact t2
theorem FnT.of {K w} {e:Ex} {i q} (h:QnT K w e.v q) (hi:e.i=i) (hb:i=0∨(i=-1∨i=1)/\q=0):Fn w e.i e.v.s e.v.x e.v.n e.v.f e.v.y e.v.m e.v.g q:=⟨h.2.2,by rw[hi];exact hb⟩
theorem Rn.sg {L w s x n c f y m d g q} (h:Rn L w s x n c f y m d g q):s=decide (q<0):=by
 have h1:=h.num.val;have h2:=h.num.wf;have h5:=zv h.num.lm;have hz:=h.q_zero
 cases s
 ·have h3:q.num=vf f n:=by rw[<-h1];rfl
  have h4:0<=q:=Rat.num_nonneg.1 (by omega);rw[decide_eq_false (Rat.not_lt.2 h4)]
 ·have hn:n≠0:=λe=>by subst e;simp[wfB]at h2
  have h3:q.num=- vf f n:=by rw[<-h1];rfl
  have h4:q<0:=Rat.not_le.1 (λe=>by
   have h6:=Rat.num_nonneg.2 e;exact hn (hz.1 (Rat.num_eq_zero.1 (by omega))))
  rw[decide_eq_true h4]
theorem zfw (xs:List Rat):∀(v:List (Int × Rat)) (acc:Rat),dsum xs v acc=zcm (v.map (zaZ xs)) acc
 | [],_=>rfl
 | (a,q) :: v,acc=>by
  show dsum xs v (acc+q*xs.getD a.toNat 0)=zcm (v.map (zaZ xs)) (acc+zaZ xs (a,q));exact zfw xs v _
theorem zpn {K w T s x n c f y m d g q s2 x2 n2 c2 f2 y2 m2 d2 g2 q2} (h:Rn K w s x n c f y m d g q) (h2:Rn K w s2 x2 n2 c2 f2 y2 m2 d2 g2 q2):Rf K (w.alloc (cells #[.bool s,slice x n c,slice y m d,.bool s2,slice x2 n2 c2,slice y2 m2 d2] T)) (some ⟨w.heap.size,0,none⟩) [q,q2]:=λj q' e=>by
 match j,e with
 | 0,e=>cases e;exact⟨w.heap.size,0,⟨s,x,n,c,f,y,m,d,g⟩,rfl,⟨by simp[go_sem],by simp[go_sem],by simp[go_sem]⟩,h.alloc _⟩
 | 1,e=>cases e;exact⟨w.heap.size,0,⟨s2,x2,n2,c2,f2,y2,m2,d2,g2⟩,rfl,⟨by simp[go_sem],by simp[go_sem],by simp[go_sem]⟩,h2.alloc _⟩
theorem zem {M k X} (h1:zaM M=0) (h2:afB k X=true) (h3:k=M.ck):zbq M k X=0:=by
 unfold zbq;rw[h1,show pnE k X M.ck=0 by unfold pnE;rw[if_pos h2,if_pos (by rw[h3])]];rfl
theorem zbO {L L' w sa xa na ca fa ya ma da ga sb xb nb cb fb yb mb db gb q} (ha:Rn L w sa xa na ca fa ya ma da ga q) (hb:Rn L' w sb xb nb cb fb yb mb db gb q) (h1:L<=1048576) (h2:L'<=1048576) :
  Calls prog 16 #[agg #[.bool sa,slice xa na ca,slice ya ma da],agg #[.bool sb,slice xb nb cb,slice yb mb db]] w λe w'=>e=returned (.bool true)/\Bl w w':=by
 have l1:=ha.ln;have l2:=ha.ld;have l3:=hb.ln;have l4:=hb.ld
 refine(zej sa xa ya na ca ma da fa ga sb xb yb nb cb mb db fb gb w ha.num.rd ha.den.rd hb.num.rd hb.den.rd (by omega) (by omega) (by omega) (by omega)).mono ?_;rintro e w' ⟨c,rfl,h3,h4⟩;refine⟨?_,h3⟩;rw[h4.2 ((ha.inj hb).2 rfl)]
theorem zkc {w L L' ao bo k ca cb p} (ha:Rf L w ao p) (hb:Rf L' w bo p) (hk:p.length=k) (hk2:k<=1048576) (h1:L<=1048576) (h2:L'<=1048576) :
  Calls prog 15 #[slice ao k ca,slice bo k cb] w λe w'=>e=returned (.bool true)/\Bl w w':=by
 have HA:=zk ha;have HB:=zk hb
 have hkk:(((k:Nat):Int) != ((k:Nat):Int))=false:=by simp
 clear ha hb;go_enter func15,ntmps15;go_wp2_with fail
 go_loopw[13] (λt wr=>∃(i:Nat),i<=k/\t=.int .i64 i/\Hid (Bl w wr)) (λt _=>k-(intOf t).toNat)
 case atStart=>exact⟨0,by omega,rfl,Below.refl _ _⟩
 case round =>
  obtain⟨i,hi,rfl,HW⟩:=hrel;by_cases hlt:i<k
  ·obtain⟨q,hq⟩:∃q,p[i]?=some q:=⟨_,getElem?_eq_getElem (by omega)⟩;obtain⟨b,o,⟨ts,tx,tn,tc,tf,ty,tm,td,tg⟩,rfl,hc,hr⟩:=(HA.out.q_ HW.out) i q hq;obtain⟨b',o',⟨ss,sx,sn,sc,sf,sy,sm,sd,sg⟩,rfl,hc',hr'⟩:=(HB.out.q_ HW.out) i q hq;obtain⟨x0,x1,x2⟩:=hc;obtain⟨p0,p1,p2⟩:=hc';replace x0:wr.cell? ⟨b,o+i*3,none⟩=some (.bool ts):=x0;replace x1:wr.cell? ⟨b,o+i*3+1,none⟩=some (slice tx tn tc):=x1;replace x2:wr.cell? ⟨b,o+i*3+2,none⟩=some (slice ty tm td):=x2;replace p0:wr.cell? ⟨b',o'+i*3,none⟩=some (.bool ss):=p0;replace p1:wr.cell? ⟨b',o'+i*3+1,none⟩=some (slice sx sn sc):=p1;replace p2:wr.cell? ⟨b',o'+i*3+2,none⟩=some (slice sy sm sd):=p2;have CS:Hid (∀W,Bl wr W->Calls prog 16 #[agg #[.bool ts,slice tx tn tc,slice ty tm td],agg #[.bool ss,slice sx sn sc,slice sy sm sd]] W λe w'=>e=returned (.bool true)/\Bl W w'):=λW hW =>
    zbO (Rn.q_ hr hW) (Rn.q_ hr' hW) h1 h2
   have i2:((i:Nat):Int)<((k:Nat):Int):=by omega
   clear hr hr' hq;go_upto_region 6 with fail
   go_region_held3 (λw'=>w'.cell? ⟨b,o+i*3,none⟩=some (.bool ts)/\w'.cell? ⟨b,o+i*3+1,none⟩=some (slice tx tn tc)/\w'.cell? ⟨b,o+i*3+2,none⟩=some (slice ty tm td)/\w'.cell? ⟨b',o'+i*3,none⟩=some (.bool ss)/\w'.cell? ⟨b',o'+i*3+1,none⟩=some (slice sx sn sc)/\w'.cell? ⟨b',o'+i*3+2,none⟩=some (slice sy sm sd))
    (refine⟨?_,?_,?_,?_,?_,?_⟩ <;> repeat(with_reducible first|assumption|refine kCd ?_|refine kCb (by assumption) ?_))
    ((go_at_call 16;with_reducible refine(CS.out _ (by repeat(with_reducible first|assumption|exact Below.refl _ _|refine zkn ?_|refine Below.drew ?_))).mono ?_;rintro e w5 ⟨rfl,hb5⟩))
   all_goals
    (have HW5:Hid (Bl w w5):=zk (HW.out.trans (Below.mono (show Bl wr w5 by repeat(with_reducible first|assumption|exact Below.refl _ _|refine zkn ?_|refine Below.drew ?_|refine kBb (by assumption) ?_)) HW.out.size))
     clear x0 x1 x2 p0 p1 p2 CS hb5;go_wp2;go_roundw
     case rel=>exact⟨i+1,by omega,by go_num,(by first|exact HW5.out|exact HW5.out.drew|exact zD HW5.out _)⟩
     case measure=>simp[intOf];omega)
  ·have i2:¬(((i:Nat):Int)<((k:Nat):Int)):=by omega
   go_wp2;go_ret;exact⟨rfl,HW.out⟩
theorem zpd {w M K} (hX:MoX w M) (hN:MoN M) (hk:M.ck<=64->M.rk<=64->MoK K M) (hK:K<=65536):Calls prog 7 #[M.val] w λe w'=>∃M':Mo,e=returned M'.val/\Bl w w'/\Sm M M'/\MoW w' M'/\MoX w' M'/\(M'.ck<=64->M'.rk<=64->MoK K M') :=
 (znL hX).mono λe w' ⟨M',h1,h2,h3,h4⟩=>⟨M',h1,h2,h3,λa b=>h4.mor (h3.mon hN) (h3.mok (hk (by rw[<-h3.ck];exact a) (by rw[<-h3.rk];exact b))) hK a b,h4,λa b=>h3.mok (hk (by rw[<-h3.ck];exact a) (by rw[<-h3.rk];exact b))⟩
theorem zqA {K M} (h:lgM K M=true):M.ck<=64->M.rk<=64->MoK K M:=λa b=>zpF h a b
theorem MoX.both {w M K} (h:MoX w M) (hn:MoN M) (hk:M.ck<=64->M.rk<=64->MoK K M) (hK:K<=1000):M.ck<=64->M.rk<=64->MoR w M/\MoS M:=λa b=>⟨h.mor hn (hk a b) (le_trans hK (by decide)) a b,(hk a b).mos hK⟩
theorem El.q_ {w w' ao k E} (h:El w ao k E) (hb:Bl w w'):El w' ao k E:=λj hj=>by
 obtain⟨b,o,e,h1⟩:=h j hj;exact⟨b,o,e,kCb hb h1⟩
theorem Sn.trans {a b c} (h:Sn a b) (k:Sn b c):Sn a c:=by
 obtain⟨h1,h2,h3,h4,h5⟩:=h;obtain⟨k1,k2,k3,k4,k5⟩:=k;exact⟨k1.trans h1,k2.trans h2,k3.trans h3,k4.trans h4,k5.trans h5⟩
theorem Sn.nq {t t':Nm} (h:Sn t t'):nq t'=nq t:=by
 obtain⟨h1,h2,h3,h4,h5⟩:=h;unfold Go.Proofs.YtdagpgmehelfkaaGreat.nq;rw[h1,h2,h3,h4,h5]
theorem Sm.csOf {M M':Mo} (h:Sm M M'):zbK M'=zbK M:=by
 unfold Go.Proofs.YtdagpgmehelfkaaGreat.zbK;rw[h.ck];refine List.map_congr_left (λj hj=>?_);have p:=h.C j (List.mem_range.1 hj);unfold zht;rw[p.nm,p.cost.nq,p.li,p.lo.nq,p.hi,p.hv.nq]
theorem Sm.rsOf {M M':Mo} (h:Sm M M'):zch M'=zch M:=by
 unfold Go.Proofs.YtdagpgmehelfkaaGreat.zch;rw[h.rk];refine List.map_congr_left (λj hj=>?_);have p:=h.R j (List.mem_range.1 hj);unfold zeE;rw[p.nm,p.li,p.lo.nq,p.hi,p.hv.nq,p.tk,p.col]
 congr 1
 exact List.map_congr_left (λq hq=>by rw[(p.T q (List.mem_range.1 hq)).nq])
def zbW (k:Nat) (X:Nat->Nm):List Rat:=(List.range k).map (λj=>nq (X j))
theorem zeJ (k:Nat) (X:Nat->Nm):(zbW k X).length=k:=by simp[zbW]
theorem zjb {k X X'} (h:∀j,j<k->Sn (X j) (X' j)):zbW k X'=zbW k X:=List.map_congr_left (λj hj=>(h j (List.mem_range.1 hj)).nq)
theorem Rl.rfC {w ao k K X} (h:Rl w ao k X) (hf:afB k X=true) (hk:∀j,j<k->(X j).n<=K/\(X j).m<=K):Rf K w ao (zbW k X):=λj q e=>by
 obtain⟨hj,rfl⟩:=zcZ e;obtain⟨b,o,h1,h2,h3⟩:=h j hj;exact⟨b,o,X j,h1,h2,NmS.val h3 (zjK hf j (by omega) (by omega)) (hk j hj)⟩
def lgL (K k:Nat) (X:Nat->Nm):Bool:=decide (k<=300) && nlg K X k 0
theorem MoK.up {K L M} (h:MoK K M) (hL:K<=L):MoK L M:=by
 have e:∀{a b:Nat},a<=K/\b<=K->a<=L/\b<=L:=λp=>⟨le_trans p.1 hL,le_trans p.2 hL⟩
 exact⟨e h.off,λj hj=>⟨e (h.c j hj).1,e (h.c j hj).2.1,e (h.c j hj).2.2⟩,λj hj=>⟨e (h.r j hj).1,e (h.r j hj).2.1,(h.r j hj).2.2.1,λp hp=>e ((h.r j hj).2.2.2 p hp)⟩⟩
theorem Rf.cut {K L w ao p} (h:Rf K w ao p) (hp:∀q,q ∈ p->Lo L q):Rf L w ao p:=λj q hj=>by
 obtain⟨b,o,t,e,h1,h2⟩:=h j q hj;exact⟨b,o,t,e,h1,h2.cut (hp q (List.mem_of_getElem? hj))⟩
theorem zcn {M k X} (h:zbq M k X=0):zaM M=0/\afB k X=true/\k=M.ck:=by
 obtain⟨h1,h2⟩:=zkX h;refine⟨h1,?_⟩;unfold pnE at h2;by_cases a:afB k X=true
 ·rw[if_pos a]at h2
  by_cases b:k=M.ck
  ·exact⟨a,b⟩
  ·rw[if_neg (by omega)]at h2;cases h2
 ·rw[if_neg a]at h2;cases h2
theorem zhu (M:Mo):(zbK M).length=M.ck:=by simp[zbK]
def Tx (w:World) (ao:Option Addr) (k:Nat) (X X':Nat->Nm):Prop:=Rl w ao k X'/\∀j,j<k->Sn (X j) (X' j)
theorem Tx.q_ {w w' ao k X X'} (h:Tx w ao k X X') (hb:Bl w w'):Tx w' ao k X X':=⟨h.1.q_ hb,h.2⟩
def Sh (k:Nat) (X:Nat->Nm):Prop:=k<=300/\∀j,j<k->(X j).n<=6/\(X j).m<=6
theorem Tx.val {w ao k X X'} (h:Tx w ao k X X') (hs:Sh k X) (ha:afB k X=true):Rf 6 w ao (zbW k X):=by
 rw[<-zjb h.2];refine h.1.rfC ?_ (λj hj=>by rw[(h.2 j hj).2.1,(h.2 j hj).2.2.2.1];exact hs.2 j hj);exact(zix (λj _ b=>h.2 j (by omega))).trans ha
theorem znx (w:World):Calls prog 59 #[] w λe w'=>zgG 2 w w' e 0:=by
 have h2:=zay w 72;have h3:=zF w (cells #[.bool false,slice none 0 0,slice none 0 0] 72);go_enter func59,ntmps59;go_wp2_with fail
 generalize w.alloc (cells #[.bool false,slice none 0 0,slice none 0 0] 72)=w1 at *;have OB:=zk h2;have HW:=zk h3
 clear h2 h3;refine(zfZ (z:=0) (by decide) (by decide)).mono ?_;rintro e w2 ⟨s2,x2,n2,c2,d2,y2,m2,e2,g2,rfl,hb,hl1,hl2,hq⟩;have HB2:=zk hb;have HQ:=zk hq;have L1:=zk hl1;have L2:=zk hl2
 clear hb hq hl1 hl2;obtain⟨hz,z0,z1,z2,zf⟩:=OB.out.q_ HB2.out;go_wp2;exact bodyPost_ret (v:=agg #[.bool s2,slice x2 n2 c2,slice y2 m2 e2]) (by simp[results,results59,go_sem,z0,z1,z2]) rfl ⟨s2,x2,n2,c2,d2,y2,m2,e2,g2,rfl,below_st (bUp HW.out HB2.out) (by omega),L1.out,L2.out,(OB.out.q_ HB2.out).qn HQ.out⟩
theorem znP {L} (hL:1<=L):Lo L 0:=by
 have h:=zaL hL;have h1:pw 1=18446744073709551616:=by decide
 constructor
 ·show((0:Nat):Int)<_;omega
 ·show((1:Nat):Int)<_;omega
theorem Tf.lo {L w ao v} (h:Tf L w ao v):∀(j:Nat) (a:Int) (q:Rat),v[j]?=some (a,q)->Lo L q:=λj a q hj=>by
 obtain⟨_,_,_,_,_,h2⟩:=h j a q hj;exact h2.lo h2.ln h2.ld
theorem Rf.lo {L w ao p} (h:Rf L w ao p):∀(j:Nat) (q:Rat),p[j]?=some q->Lo L q:=λj q hj=>by
 obtain⟨_,_,_,_,_,h2⟩:=h j q hj;exact h2.lo h2.ln h2.ld
theorem Dn.len_pd {w x n d V K} (h:Dn w x n d V) (hv:(V:Int)<pd K):n<=K:=by
 by_cases hn:n<=K
 ·exact hn
 ·have h1:=zbV h.dg h.fm (by omega);have h2:=zdg (show K<=n-1 by omega);have h3:=h.val;omega
theorem Dn.lt_pd {w x n d V K} (h:Dn w x n d V) (hn:n<=K):(V:Int)<pd K:=by
 have h1:=zcf h.dg;have h2:=zdg hn;have h3:=h.val;omega
theorem Qn.len {w s x n d y m g q K} (h:Qn w s x n d y m g q) (hq:Lo K q):n<=2*K/\m<=2*K :=
 ⟨h.num.dn.len_pd (by rw[zdv];exact hq.1),h.den.len_pd (by rw[zdv];exact hq.2)⟩
theorem Qn.lo {w s x n d y m g q K} (h:Qn w s x n d y m g q) (hn:n<=2*K) (hm:m<=2*K):Lo K q :=
 ⟨by rw[<-zdv];exact h.num.dn.lt_pd hn,by rw[<-zdv];exact h.den.lt_pd hm⟩
theorem Sx.qn {w B s x n c y m d u0 u1 u2 s1 x1 n1 d1 y1 m1 g1 q} (S:Sx w B s x n c y m d) (h:Qn w s1 x1 n1 d1 y1 m1 g1 q):Qn (((w.setCell ⟨B,0,none⟩ u0).setCell ⟨B,1,none⟩ u1).setCell ⟨B,2,none⟩ u2) s1 x1 n1 d1 y1 m1 g1 q :=
 ⟨⟨⟨S.rd h.num.dn.rd,h.num.dn.dg,h.num.dn.fm,h.num.dn.val⟩,h.num.sgn,h.num.pos⟩,⟨S.rd h.den.rd,h.den.dg,h.den.fm,h.den.val⟩⟩
theorem zpL {w L av ax k kx cv cx v p} (hv:Tq (2*L) w av v) (hx:Rqs (2*L) w ax p) (lv:v.length=k) (lp:p.length=kx) (hk:k<=64) (hL:L<=100) (hbel:∀(j:Nat) (a:Int) (q:Rat),v[j]?=some (a,q)->0<=a/\a<kx) :
  Calls prog 33 #[slice av k cv,slice ax kx cx] w λe w'=>zgG (2*(4+64*(2*L+2))) w w' e (dsum p v 0):=by
 have TV:=zk hv;have TX:=zk hx;have HBe:=zk hbel
 have h2:=zay w 72;have h3:=zF w (cells #[.bool false,slice none 0 0,slice none 0 0] 72);clear hv hx hbel;go_enter func33,ntmps33;go_wp2_with fail
 generalize w.alloc (cells #[.bool false,slice none 0 0,slice none 0 0] 72)=w0 at *;have OB0:=zk h2;have HB0:=zk h3
 clear h2 h3;refine(znx _).mono ?_;rintro e w4 ⟨s0,x0,n0,c0,d0,y0,m0,e0,g0,rfl,hb4,hl1,hl2,hq4⟩;have OB4:=zk (OB0.out.q_ hb4);have HB4:=zP HB0 hb4;have HQ4:=zk hq4
 clear OB0 HB0 hb4 hq4 hl1 hl2;go_wp2_with fail
 have hSx:Sx (w4.alloc (cells #[.bool s0,slice x0 n0 c0,slice y0 m0 e0] 72)) w4.heap.size s0 x0 n0 c0 y0 m0 e0:=⟨by simp,by simp[go_sem],by simp[go_sem],by simp[go_sem],λo=>by simp only[World.frozen?,heap_alloc_new w4 (cells #[.bool s0,slice x0 n0 c0,slice y0 m0 e0] 72)];simp⟩;have hal:=zF w4 (cells #[.bool s0,slice x0 n0 c0,slice y0 m0 e0] 72);have hne:w.heap.size<w4.heap.size:=OB4.out.z;have ST:=zk hSx;have HB5:=zP HB4 hal;have HQ5:=zk (HQ4.out.q_ hal);have OB5:=zk (OB4.out.q_ hal)
 clear hSx hal HB4 HQ4 OB4;generalize w4.alloc (cells #[.bool s0,slice x0 n0 c0,slice y0 m0 e0] 72)=w5' at *;generalize w4.heap.size=B at *;go_loopw[11] (λt wr=>∃(i:Nat) (acc:Rat) (s:Bool) (x:Option Addr) (n c:Nat) (d:Nat->Int) (y:Option Addr) (m e:Nat) (g:Nat->Int),i<=k/\t=.int .i64 i/\Hid (Bl w wr)/\Hid (Sx wr B s x n c y m e)/\Hid (Ob wr w.heap.size)/\Hid (Lo (4+i*(2*L+2)) acc/\Qn wr s x n d y m g acc)/\Hid (dsum p (v.drop i) acc=dsum p v 0)) (λt _=>k-(intOf t).toNat)
 case atStart=>exact⟨0,0,s0,x0,n0,c0,d0,y0,m0,e0,g0,by omega,rfl,HB5,ST,OB5,⟨znP (by omega),HQ5.out⟩,rfl⟩
 case round =>
  clear HB5 HQ5 OB5 ST;obtain⟨i,acc,s,x,n,c,d,y,m,e,g,hi,rfl,HB,HS,HO,HQ,HE⟩:=hrel;by_cases hlt:i<k
  ·obtain⟨⟨a,q⟩,haq⟩:∃t,v[i]?=some t:=⟨_,getElem?_eq_getElem (by omega)⟩;obtain⟨ha0,ha1⟩:=HBe.out i a q haq;obtain⟨an,rfl⟩:=Int.eq_ofNat_of_zero_le ha0;obtain⟨b,o,⟨ts,tx,tn,tc,tf,ty,tm,td,tg⟩,hav,hc,hr⟩:=(TV.out.q_ HB.out) i an q haq;obtain⟨r,hr2⟩:∃r,p[an]?=some r:=⟨_,getElem?_eq_getElem (by omega)⟩;obtain⟨b0,o0,_,hax0,hc0,_⟩:=TX.out an r hr2;have hb0:=block_lt_of_cell? w _ hc0.x0;obtain⟨b',o',⟨ss,sx,sn,sc,sf,sy,sm,sd,sg⟩,hax,hc',hr'⟩:=(TX.out.q_ HB.out) an r hr2;have nB2:B≠b':=by
    rw[hax0]at hax
    have:b0=b':=by simpa using congrArg (λa=>(a.map Addr.block)) hax
    have hb1:b0<w.heap.size:=hb0;omega
   clear hc0 hb0 hax0;have hav2:=hav;have hax2:=hax
   subst hav2;subst hax2
   obtain⟨x0',x1',x2',x3'⟩:=hc;obtain⟨p0,p1,p2⟩:=hc';replace x0':wr.cell? ⟨b,o+i*4,none⟩=some (.int .i64 an):=x0';replace x1':wr.cell? ⟨b,o+i*4+1,none⟩=some (.bool ts):=x1';replace x2':wr.cell? ⟨b,o+i*4+2,none⟩=some (slice tx tn tc):=x2';replace x3':wr.cell? ⟨b,o+i*4+3,none⟩=some (slice ty tm td):=x3';replace p0:wr.cell? ⟨b',o'+an*3,none⟩=some (.bool ss):=p0;replace p1:wr.cell? ⟨b',o'+an*3+1,none⟩=some (slice sx sn sc):=p1;replace p2:wr.cell? ⟨b',o'+an*3+2,none⟩=some (slice sy sm sd):=p2;have HR1:Hid (tn<=2*L/\tm<=2*L/\Qn wr ts tx tn tf ty tm tg q):=hr;have HR2:Hid (sn<=2*L/\sm<=2*L/\Qn wr ss sx sn sf sy sm sg r):=hr';have i2:((i:Nat):Int)<((k:Nat):Int):=by omega
   have i3:((an:Nat):Int)<((kx:Nat):Int):=by omega
   have HD:Hid (dsum p (v.drop (i+1)) (acc+q*r)=dsum p v 0):=by
    show _=_;have e1:v.drop i=((an:Int),q) :: v.drop (i+1):=by
     have hl:i<v.length:=by omega
     have:v[i]=((an:Int),q):=by rw[getElem?_eq_getElem hl]at haq;exact Option.some.inj haq
     rw[<-this];exact List.drop_eq_getElem_cons hl
    rw[<-HE.out,e1];show _=dsum p _ (acc+q*p.getD (an:Int).toNat 0);rw[Int.toNat_natCast,List.getD_eq_getElem?_getD,hr2];rfl
   have nB1:B≠wr.heap.size:=by have:=HS.out.z;omega
   clear hr hr' haq hr2 hav hax HE;go_upto_region 5 with fail
   have hb5:=zF wr (cells #[.int .i64 an,.bool ts,slice tx tn tc,slice ty tm td] 118);obtain⟨a0,a1,a2,a3⟩:=bk4 (zJ wr [.int .i64 an,.bool ts,slice tx tn tc,slice ty tm td] 118);replace p0:=kCb hb5 p0;replace p1:=kCb hb5 p1;replace p2:=kCb hb5 p2
   replace HS:=zk (HS.out.q_ hb5);replace HO:=zk (HO.out.q_ hb5);replace HQ:=zk (And.intro HQ.out.1 (HQ.out.2.q_ hb5));replace HR1:=zk (And.intro HR1.out.1 (And.intro HR1.out.2.1 (HR1.out.2.2.q_ hb5)));replace HR2:=zk (And.intro HR2.out.1 (And.intro HR2.out.2.1 (HR2.out.2.2.q_ hb5)))
   replace HB:=zP HB hb5;clear x0' x1' x2' x3' hb5;generalize wr.alloc (cells #[.int .i64 an,.bool ts,slice tx tn tc,slice ty tm td] 118)=w5 at *;obtain⟨sz,u0,u1,u2,uf⟩:=HS.out;have hKi:4+i*(2*L+2)<=4+64*(2*L+2):=by
    have h1:i*(2*L+2)<=64*(2*L+2):=Nat.mul_le_mul_right _ (by omega);omega
   obtain⟨hq1,hq2⟩:=HQ.out.2.len HQ.out.1;have CM:Hid (∀W,Bl w5 W->Calls prog 61 #[agg #[.bool ts,slice tx tn tc,slice ty tm td],agg #[.bool ss,slice sx sn sc,slice sy sm sd]] W λe w'=>∃s x n c d y m e' g,e=returned (agg #[.bool s,slice x n c,slice y m e'])/\Bl W w'/\Hid (Lo (2*L+1) (q*r)/\Qn w' s x n d y m g (q*r))):=λW hW =>
    (zpu (HR1.out.2.2.q_ hW) (HR2.out.2.2.q_ hW) (le_trans HR1.out.1 (by omega)) (le_trans HR1.out.2.1 (by omega)) (le_trans HR2.out.1 (by omega)) (le_trans HR2.out.2.1 (by omega))).mono (λ_ _ ⟨s,x,n,c,d,y,m,c',g,h1,h2,h3,h4,h5⟩=>⟨s,x,n,c,d,y,m,c',g,h1,h2,Lo.mono (zpB (HR1.out.2.2.lo HR1.out.1 HR1.out.2.1) (HR2.out.2.2.lo HR2.out.1 HR2.out.2.1)) (by omega),h5⟩)
   have CA:Hid (∀(W:World) (s1:Bool) (x1:Option Addr) (n1 c1:Nat) (d1:Nat->Int) (y1:Option Addr) (m1 e1:Nat) (g1:Nat->Int),Bl w5 W->Lo (2*L+1) (q*r)/\Qn W s1 x1 n1 d1 y1 m1 g1 (q*r)->Calls prog 60 #[agg #[.bool s,slice x n c,slice y m e],agg #[.bool s1,slice x1 n1 c1,slice y1 m1 e1]] W λe w'=>∃s x n c d y m e' g,e=returned (agg #[.bool s,slice x n c,slice y m e'])/\Bl W w'/\Hid (Lo (4+(i+1)*(2*L+2)) (acc+q*r)/\Qn w' s x n d y m g (acc+q*r))):=λW s1 x1 n1 c1 d1 y1 m1 e1 g1 hW hh=>by
    obtain⟨k1,k2⟩:=hh.2.len hh.1;refine(zpv (HQ.out.2.q_ hW) hh.2 (by omega) (by omega) (by omega) (by omega)).mono (λ_ _ ⟨s,x,n,c,d,y,m,c',g,h1,h2,h3,h4,h5⟩=>⟨s,x,n,c,d,y,m,c',g,h1,h2,Lo.mono (zic HQ.out.1 hh.1) ?_,h5⟩);rw[Nat.add_mul];omega
   clear hq1 hq2;refine wp_region_held_drew (S:=λw'=>w'.cell? ⟨wr.heap.size,0,none⟩=some (.int .i64 an)/\w'.cell? ⟨wr.heap.size,1,none⟩=some (.bool ts)/\w'.cell? ⟨wr.heap.size,2,none⟩=some (slice tx tn tc)/\w'.cell? ⟨wr.heap.size,3,none⟩=some (slice ty tm td)/\w'.cell? ⟨b',o'+an*3,none⟩=some (.bool ss)/\w'.cell? ⟨b',o'+an*3+1,none⟩=some (slice sx sn sc)/\w'.cell? ⟨b',o'+an*3+2,none⟩=some (slice sy sm sd)) (by kernel_rfl) ?_ (λhHeld=>?_)
   ·(refine⟨?_,?_,?_,?_,?_,?_,?_⟩ <;> repeat(with_reducible first|assumption|refine kCd ?_))
   refine zH 1 ?_;refine zH 2 ?_;refine zH 3 ?_;simp only[zw,Act.put];refine zH 4 ?_;refine zH 5 ?_;refine zH 6 ?_;simp only[zw,Act.put];refine zH 7 ?_;simp only[zw,Act.put];refine wpAnyH_ready (rs:=[0,8]) (by kernel_rfl) (by simp) ?_;refine AllReadyH.cons (o:=_) rfl (λK hK=>?_) ?_
   ·go_simp;refine hK.out _ _ ?_ (λhHeld2=>?_)
    ·((try dsimp only);(refine⟨?_,?_,?_,?_,?_,?_,?_⟩ <;> repeat(with_reducible first|assumption|refine kCd ?_)))
    clear hK K;try simp only[zw,Act.put]
    refine rdO 8 (λK hK=>?_);go_simp
    go_at_call 61
    with_reducible refine(CM.out _ zal).mono ?_
    rintro e w6 ⟨s8,x8,n8,c8,d8,y8,m8,e8,g8,rfl,hb6,H8⟩;have B6:Bl w5 w6:=zal;have S6:=HS.out.q_ B6;obtain⟨_,v0,v1,v2,vf6⟩:=id S6
    (try go_wp2_with fail)
    refine hK.out _ _ ?_ (λhHeld3=>?_)
    ·((try dsimp only);(refine⟨?_,?_,?_,?_,?_,?_,?_⟩ <;> repeat(with_reducible first|assumption|refine kCb B6 ?_)))
    clear hK K;try simp only[zw,Act.put]
    refine rdO 9 (λK hK=>?_);go_simp
    go_at_call 60
    with_reducible refine(CA.out _ s8 x8 n8 c8 d8 y8 m8 e8 g8 zal ⟨H8.out.1,H8.out.2⟩).mono ?_
    rintro e w7 ⟨s9,x9,n9,c9,d9,y9,m9,e9,g9,rfl,hb7,H9⟩;have B7:Bl w5 w7:=zal;have S7:=HS.out.q_ B7;have O7:=HO.out.q_ B7;obtain⟨_,t0,t1,t2,tf7⟩:=id S7
    (try go_wp2_with fail)
    refine hK.out _ _ ?_ (λhHeld4=>?_)
    ·((try dsimp only);(refine⟨?_,?_,?_,?_,?_,?_,?_⟩ <;> repeat(with_reducible first|assumption|refine kCb B7 ?_)))
    clear hK K;try simp only[zw,Act.put]
    refine rdO 10 (λK hK=>?_);go_simp;refine hK.out _ _ ?_ (λhHeld9=>?_)
    ·((try dsimp only);(refine⟨?_,?_,?_,?_,?_,?_,?_⟩ <;> repeat(with_reducible first|assumption|refine kCs (by simp only[ne_eq];omega) ?_|refine kCb B7 ?_)))
    clear hK K;try simp only[zw,Act.put]
    refine dnO ?_;have R1:=zk (And.intro (S7.st (s1:=s9) (x1:=x9) (n1:=n9) (c1:=c9) (y1:=y9) (m1:=m9) (d1:=e9)) (And.intro (S7.qn (u0:=.bool s9) (u1:=slice x9 n9 c9) (u2:=slice y9 m9 e9) H9.out.2) (And.intro (O7.far3 (u0:=.bool s9) (u1:=slice x9 n9 c9) (u2:=slice y9 m9 e9) (show B≠w.heap.size by omega)) (below_st (B:=B) (u0:=.bool s9) (u1:=slice x9 n9 c9) (u2:=slice y9 m9 e9) (bUp HB.out B7) (by omega)))));have L9:=zk H9.out.1;clear hHeld a0 a1 a2 a3 p0 p1 p2 u0 u1 u2 uf t0 t1 t2 tf7 CM CA S7 O7 B7 H8 H9 HS HO HQ HR1 HR2 HB;generalize((w7.setCell ⟨B,0,none⟩ (.bool s9)).setCell ⟨B,1,none⟩ (slice x9 n9 c9)).setCell ⟨B,2,none⟩ (slice y9 m9 e9)=w9 at *;go_wp2;go_roundw
    case rel=>exact⟨i+1,acc+q*r,s9,x9,n9,c9,d9,y9,m9,e9,g9,by omega,by go_num,R1.out.2.2.2,R1.out.1,R1.out.2.2.1,⟨L9.out,R1.out.2.1⟩,HD.out⟩
    case measure=>simp[intOf];omega
   refine AllReadyH.cons (o:=_) rfl (λK hK=>?_) ?_
   ·go_simp
    go_at_call 61
    with_reducible refine(CM.out _ zal).mono ?_
    rintro e w6 ⟨s8,x8,n8,c8,d8,y8,m8,e8,g8,rfl,hb6,H8⟩;have B6:Bl w5 w6:=zal;have S6:=HS.out.q_ B6;obtain⟨_,v0,v1,v2,vf6⟩:=id S6
    (try go_wp2_with fail)
    refine hK.out _ _ ?_ (λhHeld3=>?_)
    ·((try dsimp only);(refine⟨?_,?_,?_,?_,?_,?_,?_⟩ <;> repeat(with_reducible first|assumption|refine kCb B6 ?_)))
    clear hK K;try simp only[zw,Act.put]
    refine rdO 0 (λK hK=>?_);go_simp;refine hK.out _ _ ?_ (λhHeld2=>?_)
    ·((try dsimp only);(refine⟨?_,?_,?_,?_,?_,?_,?_⟩ <;> repeat(with_reducible first|assumption|refine kCb B6 ?_)))
    clear hK K;try simp only[zw,Act.put]
    refine rdO 9 (λK hK=>?_);go_simp
    go_at_call 60
    with_reducible refine(CA.out _ s8 x8 n8 c8 d8 y8 m8 e8 g8 zal ⟨H8.out.1,H8.out.2⟩).mono ?_
    rintro e w7 ⟨s9,x9,n9,c9,d9,y9,m9,e9,g9,rfl,hb7,H9⟩;have B7:Bl w5 w7:=zal;have S7:=HS.out.q_ B7;have O7:=HO.out.q_ B7;obtain⟨_,t0,t1,t2,tf7⟩:=id S7
    (try go_wp2_with fail)
    refine hK.out _ _ ?_ (λhHeld4=>?_)
    ·((try dsimp only);(refine⟨?_,?_,?_,?_,?_,?_,?_⟩ <;> repeat(with_reducible first|assumption|refine kCb B7 ?_)))
    clear hK K;try simp only[zw,Act.put]
    refine rdO 10 (λK hK=>?_);go_simp;refine hK.out _ _ ?_ (λhHeld9=>?_)
    ·((try dsimp only);(refine⟨?_,?_,?_,?_,?_,?_,?_⟩ <;> repeat(with_reducible first|assumption|refine kCs (by simp only[ne_eq];omega) ?_|refine kCb B7 ?_)))
    clear hK K;try simp only[zw,Act.put]
    refine dnO ?_;have R1:=zk (And.intro (S7.st (s1:=s9) (x1:=x9) (n1:=n9) (c1:=c9) (y1:=y9) (m1:=m9) (d1:=e9)) (And.intro (S7.qn (u0:=.bool s9) (u1:=slice x9 n9 c9) (u2:=slice y9 m9 e9) H9.out.2) (And.intro (O7.far3 (u0:=.bool s9) (u1:=slice x9 n9 c9) (u2:=slice y9 m9 e9) (show B≠w.heap.size by omega)) (below_st (B:=B) (u0:=.bool s9) (u1:=slice x9 n9 c9) (u2:=slice y9 m9 e9) (bUp HB.out B7) (by omega)))));have L9:=zk H9.out.1;clear hHeld a0 a1 a2 a3 p0 p1 p2 u0 u1 u2 uf t0 t1 t2 tf7 CM CA S7 O7 B7 H8 H9 HS HO HQ HR1 HR2 HB;generalize((w7.setCell ⟨B,0,none⟩ (.bool s9)).setCell ⟨B,1,none⟩ (slice x9 n9 c9)).setCell ⟨B,2,none⟩ (slice y9 m9 e9)=w9 at *;go_wp2;go_roundw
    case rel=>exact⟨i+1,acc+q*r,s9,x9,n9,c9,d9,y9,m9,e9,g9,by omega,by go_num,R1.out.2.2.2,R1.out.1,R1.out.2.2.1,⟨L9.out,R1.out.2.1⟩,HD.out⟩
    case measure=>simp[intOf];omega
   exact AllReadyH.nil
  ·have e1:i=k:=by omega
   have HF:Hid (acc=dsum p v 0):=by
    show _=_;rw[<-HE.out,e1,<-lv,List.drop_length];rfl
   have i2:¬(((i:Nat):Int)<((k:Nat):Int)):=by omega
   have hKi:4+i*(2*L+2)<=4+64*(2*L+2):=by
    have h1:i*(2*L+2)<=64*(2*L+2):=Nat.mul_le_mul_right _ (by omega);omega
   obtain⟨hq1,hq2⟩:=HQ.out.2.len HQ.out.1;obtain⟨sz,u0,u1,u2,uf⟩:=HS.out;obtain⟨hz,z0,z1,z2,zf⟩:=HO.out;clear e1 HE;go_wp2;exact bodyPost_ret (v:=agg #[.bool s,slice x n c,slice y m e]) (by simp[results,results33,go_sem,z0,z1,z2]) rfl ⟨s,x,n,c,d,y,m,e,g,rfl,below_st HB.out (by omega),by omega,by omega,by rw[<-HF.out];exact HO.out.qn HQ.out.2⟩
def KE (L:Nat):Nat:=2*(4+64*(2*L+2))
def ShK (K k:Nat) (X:Nat->Nm):Prop:=k<=300/\∀j,j<k->(X j).n<=K/\(X j).m<=K
theorem znX {K k X} (h:lgL K k X=true):ShK K k X:=by
 simp only[lgL,Bool.and_eq_true,decide_eq_true_eq]at h;exact⟨h.1,λj hj=>zgh h.2 j (by omega) (by omega)⟩
def TmK (K:Nat) (w:World) (M M':Mo):Prop:=Sm M M'/\MoW w M'/\MoX w M'/\(M'.ck<=64->M'.rk<=64->MoK K M')
theorem TmK.q_ {K w w' M M'} (h:TmK K w M M') (hb:Bl w w'):TmK K w' M M':=⟨h.1,h.2.1.q_ hb,h.2.2.1.q_ hb,h.2.2.2⟩
theorem TmK.valL {K w M M'} (L:Nat) (hL:K<=L) (hK:K<=100) (h:TmK K w M M') (hN:MoN M) (he:zaM M=0):MoV L w M' (nq M.off) (zbK M) (zch M)/\zbA (zbK M) (zch M)=true:=by
 obtain⟨s,hw,hx,hk⟩:=h;have he':zaM M'=0:=s.chk.trans he;obtain⟨l1,l2,_⟩:=zgz he';have k6:=hk l1 l2;have:=(hx.mor (s.mon hN) k6 (by omega) l1 l2).movC (k6.up hL) he';rw[s.csOf,s.rsOf,s.off.nq]at this
 exact this
theorem Tx.valK {K w ao k X X'} (h:Tx w ao k X X') (hs:ShK K k X) (ha:afB k X=true):Rf K w ao (zbW k X):=by
 rw[<-zjb h.2];refine h.1.rfC ?_ (λj hj=>by rw[(h.2 j hj).2.1,(h.2 j hj).2.2.2.1];exact hs.2 j hj);exact(zix (λj _ b=>h.2 j (by omega))).trans ha
theorem zeK {K w ao k X X' M M'} (h:TmK K w M M') (hx:Tx w ao k X X'):zbq M' k X'=zbq M k X:=by
 unfold zbq;rw[h.1.chk,h.1.ck];unfold pnE;rw[show afB k X'=afB k X from zix (λj _ b=>hx.2 j (by omega))]
theorem zhP {K w ao k X X' M M'} (L:Nat) (hL:K<=L) (hK:K<=100) (h:TmK K w M M') (hN:MoN M) (hx:Tx w ao k X X') (hs:ShK K k X) (he:zbq M k X=0):MoV L w M' (nq M.off) (zbK M) (zch M)/\zbA (zbK M) (zch M)=true/\Rf L w ao (zbW k X)/\(zbW k X).length=k/\k=(zbK M).length:=by
 obtain⟨h1,h2,h3⟩:=zcn he;obtain⟨a,b⟩:=h.valL L hL hK hN h1;exact⟨a,b,(hx.valK hs h2).mono hL,zeJ _ _,by rw[zhu];exact h3⟩
theorem zjU {K w M} (hX:MoX w M) (hN:MoN M) (hk:M.ck<=64->M.rk<=64->MoK K M) (hK:K<=100):Calls prog 7 #[M.val] w λe w'=>∃(vm:Value) (M':Mo),e=returned vm/\Bl w w'/\Hid (vm=M'.val/\TmK K w' M M') :=
 (zpd (K:=K) hX hN hk (by omega)).mono λe w' ⟨M',h1,h2,h3,h4,h5,h6⟩=>⟨M'.val,M',h1,h2,zk ⟨rfl,h3,h4,h5,h6⟩⟩
theorem zhy {w M M' ao k cap X X'} (h:TmK 8 w M M') (hN:MoN M) (hx:Tx w ao k X X') (hs:ShK 8 k X) :
  Calls prog 12 #[M'.val,slice ao k cap] w λe w'=>zfE w w' e (zbq M k X) (zbK M) (zch M) (zbW k X) :=
 zdx h.2.1 hx.1 (by have:=hs.1;omega) (zeK h hx) (λhe=>zhP 8 (by decide) (by decide) h hN hx hs he) (by decide)
theorem zdj {t t'} (h:Sn t t'):nq t'=nq t:=by
 obtain⟨h1,h2,h3,h4,h5⟩:=h;unfold nq;rw[h1,h2,h3,h4,h5]
theorem Sm.crl {M M':Mo} (h:Sm M M'):crl (ccB M'.C) M'.ck=crl (ccB M.C) M.ck/\crl (rcB M'.R) M'.rk=crl (rcB M.R) M.rk:=by
 refine⟨?_,?_⟩
 ·rw[zbT (B':=ccB M.C) (λj hj=>?_),h.ck];rw[h.ck]at hj
  have p:=h.C j hj;unfold ccB zkH;rw[p.li,p.hi,zdj p.lo,zdj p.hv]
 ·rw[zbT (B':=rcB M.R) (λj hj=>?_),h.rk];rw[h.rk]at hj
  have p:=h.R j hj;unfold rcB zkH;rw[p.li,p.hi,zdj p.lo,zdj p.hv]
structure In8 (w:World) (M:Mo):Prop where
 x:MoX w M
 n:MoN M
 c:MoC M
 k:M.ck<=64->M.rk<=64->MoK 8 M
theorem In8.q_ {w w' M} (h:In8 w M) (hb:Bl w w'):In8 w' M:=⟨h.x.q_ hb,h.n,h.c,h.k⟩
theorem In8.val {w M} (h:In8 w M) (he:zaM M=0):MoV 8 w M (nq M.off) (zbK M) (zch M)/\zbA (zbK M) (zch M)=true:=by
 obtain⟨l1,l2,_⟩:=zgz he;exact(h.x.mor h.n (h.k l1 l2) (by decide) l1 l2).movC (h.k l1 l2) he
theorem zes (a b:Int):lsf (two a b) 2=lstep a b:=by
 simp[lsf,two,lstep]
theorem zlY (e:Int):lstep (lstep e 3) 7=lstep e 3:=by
 unfold lstep;split <;> split <;> omega
theorem zmk {w ao k cap X} (hx:Rl w ao k X) (hs:ShK 8 k X) (ha:afB k X=true):Calls prog 34 #[slice ao k cap] w λe w'=>∃aw cw,e=returned (slice aw k cw)/\Bl w w'/\Hid (Rqs (2*8) w' aw (zbW k X)) :=
 (zof (L:=8) (p:=zbW k X) hx (by have:=hs.1;omega) (by decide) (zeJ _ _) (λj hj=>by
  obtain⟨b,o,_,_,hn⟩:=hx j hj;exact⟨nq (X j),zdu hj,NmS.val (K:=8) hn (zjK ha j (by omega) (by omega)) (hs.2 j hj)⟩)).mono (by
   rintro e w' ⟨aw,cw,rfl,h1,_,h3⟩;exact⟨aw,cw,rfl,h1,zk h3.out⟩)
theorem zog {w M} (h:In8 w M) (he:zaM M=0):Calls prog 32 #[M.val] w λe w'=>∃M':Mo,e=returned M'.val/\Bl w w'/\Hid (MqV (2*8) w' M' (nq M.off) (zbK M) (zch M)) :=
 (znN (h.val he).1 (by decide) (h.val he).2).mono (by
  rintro e w' ⟨M',h1,h2,h3⟩;exact⟨M',h1,h2,zk h3⟩)
theorem zlx {w M ao k cap X} (hI:In8 w M) (hx:Rl w ao k X) (hs:ShK 8 k X) :
  Calls prog 31 #[M.val,slice ao k cap] w λe w'=>e=returned (.int .i64 (zbq M k X))/\Bl w w':=by
 have CC:=zk (λW (hW:Bl w W)=>zio (w:=W) ((hI.x.q_ hW).both hI.n hI.k (by decide)) hI.c);have CF:=zk (λW (hW:Bl w W)=>zoh (w:=W) (cap:=cap) (hx.q_ hW) (by have:=hs.1;omega) (λj hj=>by have:=hs.2 j hj;omega));obtain⟨ec,hec⟩:∃e,zaM M=e:=⟨_,rfl⟩;obtain⟨bf,hbf⟩:∃e,afB k X=e:=⟨_,rfl⟩;unfold zbq pnE;rw[hec]at CC ⊢
 rw[hbf]at CF ⊢
 clear hI hx hs hec hbf;obtain⟨⟨s,x,n,c,f,y,m,d,g⟩,ca,ck,cc,C,ra,rk,rc,R⟩:=M;replace CC:Hid (∀W,Bl w W->Calls prog 53 #[agg #[.bool s,slice x n c,slice y m d,slice ca ck cc,slice ra rk rc]] W λe w'=>e=returned (.int .i64 ec)/\Bl W w'):=CC;show Calls prog 31 #[agg #[.bool s,slice x n c,slice y m d,slice ca ck cc,slice ra rk rc],slice ao k cap] w λe w'=>e=returned (.int .i64 (lsf (two ec (if bf=true then (if (k:Int)=(ck:Int) then 0 else 7) else 3)) 2))/\Bl w w'
 rw[zes];obtain⟨er,her⟩:∃e,lstep ec (if bf=true then (if (k:Int)=(ck:Int) then 0 else 7) else 3)=e:=⟨_,rfl⟩;rw[her];have HE:=zk her;clear her;have HB:=zk (zF w (cells #[.bool s,slice x n c,slice y m d,slice ca ck cc,slice ra rk rc] 28));have BM:=zk (zJ w [.bool s,slice x n c,slice y m d,slice ca ck cc,slice ra rk rc] 28);go_enter func31,ntmps31;obtain⟨r0,r1,r2,r3,r4⟩:=bk5 BM.out;go_wp2_with fail
 clear r0 r1 r2 r3 r4;generalize(w.alloc (cells #[.bool s,slice x n c,slice y m d,slice ca ck cc,slice ra rk rc] 28))=v0 at *;refine(CC.out _ HB.out).mono ?_;rintro e v1 ⟨rfl,hb⟩;replace HB:=zP HB hb;replace BM:=zk (BM.out.q_ hb)
 clear hb;go_wp2_with fail
 refine(CF.out _ HB.out).mono ?_;rintro e v2 ⟨rfl,hb⟩;replace HB:=zP HB hb;replace BM:=zk (BM.out.q_ hb)
 clear hb;clear CC CF;cases bf
 ·have h0:lstep ec 3=er:=HE.out;have hb:=zF v2 (cells #[.int .i64 ec,.int .i64 3] 3);go_wp2_with fail
  refine(zdp zfP (by decide)).mono ?_;rintro e w5 ⟨rfl,rfl⟩;replace HB:=zP HB hb;replace BM:=zk (BM.out.q_ hb)
  clear hb;generalize v2.alloc (cells #[.int .i64 ec,.int .i64 3] 3)=v2' at *;rw[zes,h0];have r3:=BM.out.cell (j:=3) rfl;by_cases hk:((k:Nat):Int)=((ck:Nat):Int)
  ·have hk':(((k:Nat):Int) != ((ck:Nat):Int))=false:=by simp[hk]
   go_wp2;go_ret;exact⟨rfl,HB.out⟩
  ·have hk':(((k:Nat):Int) != ((ck:Nat):Int))=true:=by simpa using hk
   have h1:lstep er 7=er:=by rw[<-h0];exact zlY ec
   have hb:=zu (Below.refl v2'.heap.size v2') (cells #[.int .i64 er,.int .i64 7] 3);go_wp2_with fail
   refine(zdp zfP (by decide)).mono ?_;rintro e w5 ⟨rfl,rfl⟩;replace HB:=zP HB hb;replace BM:=zk (BM.out.q_ hb)
   clear hb;generalize v2'.alloc (cells #[.int .i64 er,.int .i64 7] 3)=v2'' at *;rw[zes,h1];go_wp2;go_ret;exact⟨rfl,HB.out⟩
 ·have h0:lstep ec (if (k:Int)=(ck:Int) then 0 else 7)=er:=HE.out;have r3:=BM.out.cell (j:=3) rfl;by_cases hk:((k:Nat):Int)=((ck:Nat):Int)
  ·have hk':(((k:Nat):Int) != ((ck:Nat):Int))=false:=by simp[hk]
   have h9:lstep ec 0=ec:=by unfold lstep;split <;> omega
   rw[if_pos hk,h9]at h0
   subst h0;clear h9;go_wp2;go_ret;exact⟨rfl,HB.out⟩
  ·have hk':(((k:Nat):Int) != ((ck:Nat):Int))=true:=by simpa using hk
   rw[if_neg hk]at h0
   have hb:=zF v2 (cells #[.int .i64 ec,.int .i64 7] 3);go_wp2_with fail
   refine(zdp zfP (by decide)).mono ?_;rintro e w5 ⟨rfl,rfl⟩;replace HB:=zP HB hb;replace BM:=zk (BM.out.q_ hb)
   clear hb;generalize v2.alloc (cells #[.int .i64 ec,.int .i64 7] 3)=v2' at *;rw[zes,h0];go_wp2;go_ret;exact⟨rfl,HB.out⟩
theorem zlc {w x n c d V} (h:Dn w x n d V) (hn:n<=1048576) :
  Calls prog 43 #[slice x n c] w λe w'=>∃z k c' f,e=returned (slice z k c')/\Bl w w'/\Hid (k<=n/\Wn w' false z k c' f (V:Int)/\Dw w' w.heap.size z k) :=
 (ziK x n c d w hn h.rd h.dg h.fm).mono (λ_ _ ⟨z,k,c',f,h1,h2,h3,_,h4,h5,h6,h7⟩=>⟨z,k,c',f,h1,h3,h4,zlG h2 h5 h6 (h7.trans h.val),zhY h2⟩)
theorem zqs {w r x n c d y m e g A B} (ha:Dn w x n d A) (hb:Dn w y m g B) (hn:n<=200000) (hm:m<=200000) :
  Calls prog 24 #[agg #[.bool r,slice x n c,slice y m e]] w λen w'=>∃z k c' f z2 k2 c2 f2,en=returned (agg #[.bool r,slice z k c',slice z2 k2 c2])/\Bl w w'/\k<=n/\k2<=m/\Wn w' false z k c' f (A:Int)/\Wn w' false z2 k2 c2 f2 (B:Int)/\Dw w' w.heap.size z k/\Dw w' w.heap.size z2 k2:=by
 have h1:=(ha.alloc (cells #[.bool r,slice x n c,slice y m e] 72)).alloc (cells #[.bool false,slice none 0 0,slice none 0 0] 24);have h2:=(hb.alloc (cells #[.bool r,slice x n c,slice y m e] 72)).alloc (cells #[.bool false,slice none 0 0,slice none 0 0] 24);have h3:=zay (w.alloc (cells #[.bool r,slice x n c,slice y m e] 72)) 24;rw[zz]at h3
 have h4:=zu (zF w (cells #[.bool r,slice x n c,slice y m e] 72)) (cells #[.bool false,slice none 0 0,slice none 0 0] 24);have h5:=(zct w (.bool r) (slice x n c) (slice y m e) 72).alloc (cells #[.bool false,slice none 0 0,slice none 0 0] 24);clear ha hb;go_enter func24,ntmps24;go_wp2_with fail
 generalize(w.alloc (cells #[.bool r,slice x n c,slice y m e] 72)).alloc (cells #[.bool false,slice none 0 0,slice none 0 0] 24)=w1 at *;have HA:=zk h1;have HB:=zk h2;have OB:=h3;have HW:=zk h4
 obtain⟨hz,z0,z1,z2,zf⟩:=h3;obtain⟨hy,x0,x1,x2⟩:=h5;clear h1 h2 h4;have C1:Hid (∀W,Bl w1 W->Calls prog 43 #[slice x n c] W λe w'=>∃z k c' f,e=returned (slice z k c')/\Bl W w'/\Hid (k<=n/\Wn w' false z k c' f (A:Int)/\Dw w' W.heap.size z k)):=λW hW=>zlc (HA.out.q_ hW) (by omega)
 have C2:Hid (∀W,Bl w1 W->Calls prog 43 #[slice y m e] W λe w'=>∃z k c' f,e=returned (slice z k c')/\Bl W w'/\Hid (k<=m/\Wn w' false z k c' f (B:Int)/\Dw w' W.heap.size z k)):=λW hW=>zlc (HB.out.q_ hW) (by omega)
 go_region_held3 (λw'=>w'.cell? ⟨w.heap.size,0,none⟩=some (.bool r)/\w'.cell? ⟨w.heap.size,1,none⟩=some (slice x n c)/\w'.cell? ⟨w.heap.size,2,none⟩=some (slice y m e)/\(w'.cell? ⟨w.heap.size+1,0,none⟩).isSome=true/\(w'.cell? ⟨w.heap.size+1,1,none⟩).isSome=true/\(w'.cell? ⟨w.heap.size+1,2,none⟩).isSome=true/\w'.frozen? ⟨w.heap.size+1,0,none⟩=false/\w'.frozen? ⟨w.heap.size+1,1,none⟩=false/\w'.frozen? ⟨w.heap.size+1,2,none⟩=false)
  (refine⟨?_,?_,?_,?_,?_,?_,?_,?_,?_⟩ <;> repeat(with_reducible first|assumption|exact zf _|exact kI0 z0|exact kI0 z1|exact kI0 z2|exact tf _|exact kI0 t0|exact kI0 t1|exact kI0 t2|exact uf _|exact kI0 u0|exact kI0 u1|exact kI0 u2|refine kCd ?_|refine kId ?_|refine kFd ?_|refine kCs (by simp only[ne_eq];omega) ?_|refine kIs ?_|refine kFs ?_|refine kCb (by assumption) ?_|refine kIb (by assumption) ?_))
  (first
   | (go_at_call 43;with_reducible refine(C1.out _ zad).mono ?_;rintro e w5 ⟨za,ka,ca,fa,rfl,hb5,HP⟩;have TU:Ob w5 (w.heap.size+1):=(by repeat(with_reducible first|exact OB|exact hO2|exact TU|exact TV|exact TW|exact TX|exact TY|refine Ob.drew ?_|refine kOb (by assumption) ?_));obtain⟨_,t0,t1,t2,tf⟩:=id TU)
   | (go_at_call 43;with_reducible refine(C2.out _ zad).mono ?_;rintro e w6 ⟨zb,kb,cb,fb,rfl,hb6,HQ⟩;have TV:Ob w6 (w.heap.size+1):=(by repeat(with_reducible first|exact OB|exact hO2|exact TU|exact TV|exact TW|exact TX|exact TY|refine Ob.drew ?_|refine kOb (by assumption) ?_));obtain⟨_,u0,u1,u2,uf⟩:=id TV))
 have WA:Wn w6 false za ka ca fa (A:Int):=HP.out.2.1.q_ hb6;have hb:Bl w1 w6:=zad;have SX:Sx w6 (w.heap.size+1) false none 0 0 none 0 0:=⟨TV.z,TV.z0,TV.z1,TV.z2,TV.zf⟩;have HD:Hid (Dw2 w6 w.heap.size ⟨r,za,ka,ca,fa,zb,kb,cb,fb⟩):=⟨HQ.out.2.2.base (bUp HW.out zad).size,(HP.out.2.2.q_ hb6).base (bUp HW.out zad).size⟩;go_wp2;exact bodyPost_ret (v:=agg #[.bool r,slice za ka ca,slice zb kb cb]) (by simp[results,results24,go_sem,u0,u1,u2]) rfl ⟨za,ka,ca,fa,zb,kb,cb,fb,rfl,below_st (bUp HW.out hb) (by omega),HP.out.1,HQ.out.1,TV.wn WA,TV.wn HQ.out.2.1,(HD.out.st3 SX).2,(HD.out.st3 SX).1⟩
theorem zly {w s x n c d y m e g q} (h:Qn w s x n d y m g q) (hn:n<=200000) (hm:m<=200000) :
  Calls prog 24 #[agg #[.bool s,slice x n c,slice y m e]] w λen w'=>zgF (n+m) w w' en q:=by
 refine(zqs h.num.dn h.den hn hm).mono ?_;rintro en w' ⟨z,k,c',f,z2,k2,c2,f2,rfl,h2,h3,h4,h5,h6,h7,h8⟩;refine⟨s,z,k,c',f,z2,k2,c2,f2,rfl,h2,⟨⟨h5.rd,h5.lm,(wfB_iff _ _ _).2 ⟨fm_of_wfB h5.wf,λhs=>?_⟩,h5.cap,h5.nil,?_⟩,h6,by omega,by omega⟩,h8,h7⟩
 ·have h0:=h.num.dn.pos' (h.num.pos hs);rcases Nat.eq_zero_or_pos k with hk|hk
  ·subst hk;have hv:=h5.val;rw[zW]at hv
   have:(0:Int)=q.num.natAbs:=hv;omega
  ·exact hk
 ·have hv:=h5.val;rw[zW]at hv
  have hs:=h.num.sgn;cases s
  ·rw[zW,hv];exact hs.symm
  ·rw[zag,hv];exact hs.symm
def zqa (w w':World) (e:Ending) (er:Int) (rs:List RV) (xs:List Rat):Prop:=Bl w w' /\
 ((er≠0/\e=returned (.tuple #[slice none 0 0,.int .i64 er]))∨(er=0/\∃a c,e=returned (.tuple #[slice a rs.length c,.int .i64 0])/\(rs.length<=c/\c<=9223372036854775807)/\GrO (2*KE 8) w.heap.size w' (slice a rs.length c) (rs.map (zas xs))))
theorem zkw {w M ao k cap X} (hI:In8 w M) (hx:Rl w ao k X) (hs:ShK 8 k X) :
  Calls prog 13 #[M.val,slice ao k cap] w λe w'=>zqa w w' e (zbq M k X) (zch M) (zbW k X):=by
 have CC:=zk (λW (hW:Bl w W)=>zlx (cap:=cap) (hI.q_ hW) (hx.q_ hW) hs);obtain⟨er,her⟩:∃e,zbq M k X=e:=⟨_,rfl⟩;have CX:=zk (λ(h0:er=0) W (hW:Bl w W)=>zmk (cap:=cap) (hx.q_ hW) hs (zcn (her.trans h0)).2.1);have CM:=zk (λ(h0:er=0) W (hW:Bl w W)=>zog (hI.q_ hW) (zcn (her.trans h0)).1);have HP:Hid (er=0->MvP (zbK M) (zch M)/\(zbW k X).length=k/\k=(zbK M).length):=λh0=>by
  have h3:=zcn (her.trans h0);exact⟨zbo (hI.val h3.1).2,zeJ _ _,by rw[zhu];exact h3.2.2⟩
 rw[her];rw[her]at CC
 obtain⟨xs,hxs⟩:∃e,zbW k X=e:=⟨_,rfl⟩;obtain⟨cs,hcs⟩:∃e,zbK M=e:=⟨_,rfl⟩;obtain⟨rs,hrs⟩:∃e,zch M=e:=⟨_,rfl⟩;obtain⟨of,hof⟩:∃e,nq M.off=e:=⟨_,rfl⟩;rw[hrs,hxs];rw[hxs,hcs,hrs]at HP
 simp only[hcs,hrs,hof]at CM;simp only[hxs]at CX;clear hI hx hs her hxs hcs hrs hof;obtain⟨⟨s,x,n,c,f,y,m,d,g⟩,ca,ck,cc,C,ra,rk,rc,R⟩:=M;replace CC:Hid (∀W,Bl w W->Calls prog 31 #[agg #[.bool s,slice x n c,slice y m d,slice ca ck cc,slice ra rk rc],slice ao k cap] W λe w'=>e=returned (.int .i64 er)/\Bl W w'):=CC;replace CM:Hid (er=0->∀W,Bl w W->Calls prog 32 #[agg #[.bool s,slice x n c,slice y m d,slice ca ck cc,slice ra rk rc]] W λe w'=>∃M':Mo,e=returned M'.val/\Bl W w'/\Hid (MqV (2*8) w' M' of cs rs)):=CM;have hfd2:∀(b:Bool) (x:Option Addr) (n c:Nat) (y:Option Addr) (m e:Nat) (a1:Option Addr) (k1 e1:Nat) (a2:Option Addr) (k2 e2:Nat) (w:World),(Instr.field 83 (agg #[.bool b,slice x n c,slice y m e,slice a1 k1 e1,slice a2 k2 e2]) 2).run prog w=.ok (slice a2 k2 e2) w:=λ_ _ _ _ _ _ _ _ _ _ _ _ _ _=>by kernel_rfl
 show Calls prog 13 #[agg #[.bool s,slice x n c,slice y m d,slice ca ck cc,slice ra rk rc],slice ao k cap] w _;have HB:=zk (zF w (cells #[.bool s,slice x n c,slice y m d,slice ca ck cc,slice ra rk rc] 28));have BM:=zk (zJ w [.bool s,slice x n c,slice y m d,slice ca ck cc,slice ra rk rc] 28);go_enter func13,ntmps13;obtain⟨r0,r1,r2,r3,r4⟩:=bk5 BM.out;go_wp2_with fail
 clear r0 r1 r2 r3 r4;generalize(w.alloc (cells #[.bool s,slice x n c,slice y m d,slice ca ck cc,slice ra rk rc] 28))=v0 at *;refine(CC.out _ HB.out).mono ?_;rintro e v1 ⟨rfl,hb⟩;replace HB:=zP HB hb;replace BM:=zk (BM.out.q_ hb)
 clear hb;clear CC;by_cases h0:er=0
 case neg =>
  have h1:(er != 0)=true:=by simpa using h0
  have HN:=zk h0;clear CX CM h0 HP hfd2;go_wp2
  go_ret2
  exact⟨HB.out,.inl ⟨HN.out,rfl⟩⟩
 subst h0;obtain⟨r0,r1,r2,r3,r4⟩:=bk5 BM.out;go_wp2_with fail
 clear r0 r1 r2 r3 r4;refine(CM.out (by first|rfl|trivial) _ HB.out).mono ?_;rintro e w2 ⟨M1,hr,hb,HM⟩;obtain⟨⟨s',x',n',c',f',y',m',d',g'⟩,ca',ck',cc',C',ra',rk',rc',R'⟩:=M1;replace hr:e=returned (agg #[.bool s',slice x' n' c',slice y' m' d',slice ca' ck' cc',slice ra' rk' rc']):=hr;subst hr;have hq2:rk'=rs.length:=HM.out.rk;have HR:Hid (∀j v,rs[j]?=some v->(∃b o,ra'=some ⟨b,o,none⟩/\Cs w2 b (o+j*10) (R' j).vs)/\QrV (2*8) w2 (R' j) v):=HM.out.rls;replace HB:=zP HB hb;replace BM:=zk (BM.out.q_ hb)
 clear hb;clear HM CM BM;subst hq2;obtain⟨hP,hk,hkc⟩:=HP.out (by first|rfl|trivial);have hrl:=hP.rl;have hcl:=hP.cl;have hP:=zk hP;have HK:=zk hk;have HKC:=zk hkc
 clear hk hkc;replace CX:=zk (CX.out (by first|rfl|trivial));clear HP;go_wp2_with fail
 clear hfd2;go_loopw[7,20] (λov t wr=>∃(i:Nat),i<=rs.length/\t=.int .i64 i/\Hid (Bl w2 wr)/\Hid (GrO (2*KE 8) w2.heap.size wr ov ((rs.map (zas xs)).take i))) (λ_ t _=>rs.length-(intOf t).toNat)
 case atStart=>exact⟨0,by omega,rfl,Below.refl _ _,zet _ _ _⟩
 case round =>
  obtain⟨i,hi,rfl,HBr,HG⟩:=hrel;by_cases hlt:i<rs.length
  ·obtain⟨v,hv⟩:∃v,rs[i]?=some v:=⟨_,getElem?_eq_getElem hlt⟩;have hbw:=bUp HB.out HBr.out;obtain⟨⟨b,o,hra,hc0⟩,hn⟩:=HR.out i v hv;subst hra;have hc:=hc0.q_ HBr.out;replace hn:=hn.q_ HBr.out;have hvm:=List.mem_of_getElem? hv;have CD:Hid (∀W a c,Bl wr W->Rqs (2*8) W a xs->Calls prog 33 #[.slice (R' i).ta (R' i).tk (R' i).tc,slice a k c] W λe w2=>zgG (KE 8) W w2 e (zas xs v)):=λW a c hW hX=>by
    have:=zpL (L:=8) (cx:=c) (cv:=(R' i).tc) (hn.tl.q_ hW) hX hn.tk.symm HK.out (by rw[hn.tk];exact hP.out.tl v hvm) (by omega) (λj a q e=>HKC.out ▸ hP.out.tc v hvm (a,q) (List.mem_of_getElem? e));rw[show dsum xs v.ts 0=zas xs v from by simp only[zas,zfw]]at this
    exact this
   obtain⟨⟨z,⟨i1,⟨s1,x1,n1,c1,f1,y1,m1,d1,g1⟩⟩,⟨i2,⟨s2,x2,n2,c2,f2,y2,m2,d2,g2⟩⟩,ta,tk,tc,tcol,tt⟩,hCi⟩:∃t,R' i=t:=⟨_,rfl⟩;rw[hCi]at hc CD
   replace CD:Hid (∀W a c,Bl wr W->Rqs (2*8) W a xs->Calls prog 33 #[slice ta tk tc,slice a k c] W λe w2=>zgG (KE 8) W w2 e (zas xs v)):=CD;obtain⟨q0,q1,q2,q3,q4,q5,q6,q7,q8,q9⟩:=hc.lr;have hbt:=zF wr (cells #[.string z,.int .i64 i1,.bool s1,slice x1 n1 c1,slice y1 m1 d1,.int .i64 i2,.bool s2,slice x2 n2 c2,slice y2 m2 d2,slice ta tk tc] 89);have BC:=zJ wr [.string z,.int .i64 i1,.bool s1,slice x1 n1 c1,slice y1 m1 d1,.int .i64 i2,.bool s2,slice x2 n2 c2,slice y2 m2 d2,slice ta tk tc] 89;have i1':((i:Nat):Int)<((rs.length:Nat):Int):=by omega
   have HV:=zk hv;clear hCi hc hc0 hn hv hvm hbw;have HNE:Hid (u7.ownBlock≠some wr.heap.size):=by
    obtain⟨T9,h9,_⟩:=HG.out;exact λe=>by have:=(h9.lt _ e).2;omega
   go_upto_region 8 with fail
   clear q0 q1 q2 q3 q4 q5 q6 q7 q8 q9;obtain⟨-,-,-,-,-,-,-,-,a8,a9⟩:=zdH BC;replace CD:=zk (λW a c (hW:Below (wr.alloc (cells #[.string z,.int .i64 i1,.bool s1,slice x1 n1 c1,slice y1 m1 d1,.int .i64 i2,.bool s2,slice x2 n2 c2,slice y2 m2 d2,slice ta tk tc] 89)).heap.size (wr.alloc (cells #[.string z,.int .i64 i1,.bool s1,slice x1 n1 c1,slice y1 m1 d1,.int .i64 i2,.bool s2,slice x2 n2 c2,slice y2 m2 d2,slice ta tk tc] 89)) W)=>CD.out W a c (bUp hbt hW));replace HBr:=zP HBr hbt;replace HG:=zk (HG.out.q_ hbt)
   clear hbt BC;generalize hbx:wr.heap.size=bx at *;generalize wr.alloc (cells #[.string z,.int .i64 i1,.bool s1,slice x1 n1 c1,slice y1 m1 d1,.int .i64 i2,.bool s2,slice x2 n2 c2,slice y2 m2 d2,slice ta tk tc] 89)=w5 at *;clear hbx;refine wp_region_held_drew (S:=(λw'=>w'.cell? ⟨bx,8,none⟩=some (slice y2 m2 d2)/\w'.cell? ⟨bx,9,none⟩=some (slice ta tk tc))) (by kernel_rfl) ?_ (λhHeld=>?_)
   ·(refine⟨?_,?_⟩ <;> repeat(with_reducible first|assumption|refine kCd ?_))
   have hbd:=Below.drew (Below.refl w5.heap.size w5);replace HBr:=zP HBr hbd;replace HG:=zk (HG.out.q_ hbd);replace CD:=zk (λW a c (hW:Below w5.drew.heap.size w5.drew W)=>CD.out W a c (bUp hbd hW))
   generalize w5.drew=wd at *;clear hbd a8 a9;obtain⟨a8,a9⟩:=id hHeld;refine zH 0 ?_;refine zH 1 ?_;refine zH 2 ?_;simp only[zw,Act.put];refine zH 3 ?_;simp only[zw,Act.put];refine rdO 4 (λK hK=>?_);go_simp
   go_at_call 34
   refine(CX.out _ (bUp HB.out HBr.out)).mono ?_;rintro e w6 ⟨a6,c6,rfl,hb6,H6⟩
   (try go_wp2_with fail)
   refine hK.out _ _ ?_ (λhH6=>?_)
   ·((try dsimp only);(refine⟨?_,?_⟩ <;> repeat(with_reducible first|assumption|refine kCb (by assumption) ?_)))
   clear hK K;try simp only[zw,Act.put]
   refine rdO 5 (λK hK=>?_);go_simp
   go_at_call 33
   refine(CD.out _ a6 c6 hb6 H6.out).mono ?_;rintro e w7 ⟨s7,x7,n7,c7,d7,y7,m7,e7,g7,rfl,hb7,hq1,hq2,hq⟩
   (try go_wp2_with fail)
   refine hK.out _ _ ?_ (λhH7=>?_)
   ·((try dsimp only);(refine⟨?_,?_⟩ <;> repeat(with_reducible first|assumption|refine kCb (by assumption) ?_)))
   clear hK K;try simp only[zw,Act.put]
   refine rdO 6 (λK hK=>?_);go_simp
   go_at_call 24
   refine(zly hq (le_trans hq1 (by decide)) (le_trans hq2 (by decide))).mono ?_;rintro e w8 ⟨s8,zp,np,cp,fp,zq,nq9,cq,fq,rfl,hb8,hr,hdw⟩
   (try go_wp2_with fail)
   refine hK.out _ _ ?_ (λhH8=>?_)
   ·((try dsimp only);(refine⟨?_,?_⟩ <;> repeat(with_reducible first|assumption|refine kCb (by assumption) ?_)))
   clear hK K;try simp only[zw,Act.put]
   have hb:=(bUp hb6 hb7).trans (hb8.mono (le_trans hb6.size hb7.size));have hdw8:=hdw.base (bUp HBr.out (bUp hb6 hb7)).size;have HB8:=zP HBr hb;replace HG:=zk (HG.out.q_ hb)
   have hq6:Rn (2*KE 8) w8 s8 zp np cp fp zq nq9 cq fq (zas xs v):=hr.mono (by omega);replace a8:=kCb hb a8;replace a9:=kCb hb a9
   clear hHeld hH6 hH7 hH8 hb6 hb7 hb8 hb H6 hq hr hdw CD CX HBr hq1 hq2;refine rdO 7 (λK hK=>?_);go_simp;refine hK.out _ _ ?_ (λhH9=>?_)
   ·((try dsimp only);(refine⟨?_,?_⟩ <;> repeat(with_reducible first|assumption|refine kCb (zu (Below.refl _ _) _) ?_)))
   clear hK K;try simp only[zw,Act.put]
   refine rdO 8 (λK hK=>?_);obtain⟨T9,hrow,hT⟩:=HG.out;have hli:((rs.map (zas xs)).take i).length=i:=by simp;omega
   rw[hli]at hrow
   refine zat w8 rfl (.tmp 24) (.tmp 31) 29 rfl w2.heap.size 24 56 3 (agg #[.bool false,slice none 0 0,slice none 0 0]) underlying29 zbg rfl (by decide) nz3 u7 i _ rfl hrow #[.bool s8,slice zp np cp,slice zq nq9 cq] rfl rfl (zeM _ _ _ _ _ _ _) (zdy _ _ _ _ _ _ _) (by omega) (by decide) HB8.out.size ?_;intro g9 cap9 w9 hr9 hk9 hb9 hg9;have HB9:Hid (Bl w2 w9):=hb9 w2 HB8.out (le_refl _);have h9h:=hg9 bx (block_lt_of_cell? w8 _ a9) HNE.out;replace a8:w9.cell? ⟨bx,8,none⟩=some (slice y2 m2 d2):=(cell?_of_block (a:=⟨bx,8,none⟩) h9h).trans a8;replace a9:w9.cell? ⟨bx,9,none⟩=some (slice ta tk tc):=(cell?_of_block (a:=⟨bx,9,none⟩) h9h).trans a9;have HG9:Hid (GrO (2*KE 8) w2.heap.size w9 (slice (some ⟨g9,0,none⟩) (i+1) cap9) ((rs.map (zas xs)).take (i+1))):=by
    have hp9:=zhi (p:=(rs.map (zas xs)).take i) hT (by rw[hli];exact hr9) hk9 hq6 hdw8;rw[hli]at hp9
    have e9:(rs.map (zas xs))[i]?=some (zas xs v):=by rw[List.getElem?_map,HV.out];rfl
    rw[List.take_add_one,e9];exact hp9
   refine hK.out _ _ ⟨a8,a9⟩ (λhH9=>?_);clear hK K;try simp only[Act.put,List.setIfInBounds_toArray]
   clear hr9 hk9 hb9 hg9 hrow hT hq6 hdw8 HG HB8;refine zH 9 ?_;simp only[zw,Act.put];refine dnO ?_;clear hH9 HV a8 a9 h9h HNE;go_wp2;go_roundw
   case rel=>exact⟨i+1,by omega,by go_num,HB9.out,HG9.out⟩
   case measure=>simp[intOf];omega
  ·have e1:i=rs.length:=by omega
   have i4':¬(((i:Nat):Int)<((rs.length:Nat):Int)):=by omega
   have hla:(rs.map (zas xs)).length=rs.length:=by simp
   obtain⟨va,vc,hvs,hvc⟩:=HG.out.slice;rw[List.take_of_length_le (by omega)]at hvs hvc
   rw[hla]at hvs hvc
   have HG4:=HG.out;rw[hvs]at HG4
   replace HG4:=zk (show GrO (2*KE 8) w.heap.size wr (slice va rs.length vc) (rs.map (zas xs)) by have:=HG4.base (b':=w.heap.size) HB.out.size;rw[List.take_of_length_le (by omega)]at this;exact this);subst hvs;have HV4:=zk hvc;clear HG e1 hvc hla;go_wp2
   go_ret2
   exact⟨bUp HB.out HBr.out,.inr ⟨rfl,va,vc,rfl,HV4.out,HG4.out⟩⟩
theorem zjs {f g}:∀{r i:Nat},eqs f g r i=true ↔ ∀j,i<=j->j<i+r->f j=g j
 | 0,i=>⟨λ_ j a b=>by omega,λ_=>rfl⟩
 | r+1,i=>by
  simp only[eqs,Bool.and_eq_true,decide_eq_true_eq,zjs (r:=r)];constructor
  ·rintro⟨h1,h2⟩ j a b;by_cases e:j=i
   ·subst e;exact h1
   ·exact h2 j (by omega) (by omega)
  ·intro h;exact⟨h i (by omega) (by omega),λj a b=>h j (by omega) (by omega)⟩
theorem zoj {n m f g}:zmp n m f g=true ↔ Alk n m f g:=by
 unfold zmp Alk;simp only[Bool.and_eq_true,decide_eq_true_eq,zjs];exact⟨λ⟨a,b⟩=>⟨a,λj hj=>b j (by omega) (by omega)⟩,λ⟨a,b⟩=>⟨a,λj _ hj=>b j (by omega)⟩⟩
theorem sq_iff {a b}:sqB a b=true ↔ a.s=b.s/\Alk a.n b.n a.f b.f/\Alk a.m b.m a.g b.g:=by
 unfold sqB;simp only[Bool.and_eq_true,decide_eq_true_eq,zoj]
theorem zny {w a b} (ha:NmS w a) (hb:NmS w b):Calls prog 16 #[a.val,b.val] w λr w'=>r=returned (.bool (sqB a b))/\Bl w w' :=
 (zej a.s a.x a.y a.n a.c a.m a.d a.f a.g b.s b.x b.y b.n b.c b.m b.d b.f b.g w ha.1.rx ha.1.ry hb.1.rx hb.1.ry (le_trans ha.2.1 (by decide)) (le_trans ha.2.2 (by decide)) (le_trans hb.2.1 (by decide)) (le_trans hb.2.2 (by decide))).mono
  λe w' ⟨q,h1,h2,h3⟩=>⟨by rw[h1,Bool.eq_iff_iff.2 (h3.trans sq_iff.symm)],h2⟩
def smB (a b:Mo):Bool:=sqB a.off b.off && (zca scB a.ck b.ck a.C b.C && zca srB a.rk b.rk a.R b.R)
theorem zhn (f:Nat->Int):∀(r i:Nat),eqs f f r i=true
 | 0,_=>rfl
 | r+1,i=>by simp[eqs,zhn f r (i+1)]
theorem Sn.sq {t t':Nm} (h:Sn t t'):sqB t' t=true:=by
 obtain⟨h1,h2,h3,h4,h5⟩:=h;unfold sqB zmp;rw[h1,h2,h3,h4,h5];simp[zhn]
theorem zgM {a b:Ex} (hi:b.i=a.i) (h:Sn a.v b.v):sxB b a=true:=by unfold sxB;rw[hi,h.sq];simp
theorem zho {α:Type} {e:α->α->Bool} {X Y:Nat->α}:∀{r i:Nat},(∀j,i<=j->j<i+r->e (X j) (Y j)=true)->eqf e X Y r i=true
 | 0,_,_=>rfl
 | r+1,i,h=>by simp only[eqf];rw[h i (by omega) (by omega),zho (λj a b=>h j (by omega) (by omega))];rfl
theorem zdB {α:Type} {e:α->α->Bool} {X Y:Nat->α} {n m:Nat} (hn:n=m) (h:∀j,j<m->e (X j) (Y j)=true):zca e n m X Y=true:=by
 subst hn;unfold zca;rw[zho (λj _ hj=>h j (by omega))];simp
theorem Sm.same {M M':Mo} (h:Sm M M'):smB M' M=true:=by
 have e1:zca scB M'.ck M.ck M'.C M.C=true:=zdB h.ck (λj hj=>by
  have p:=h.C j hj;unfold scB;rw[p.cost.sq,zgM p.li p.lo,zgM p.hi p.hv,p.nm];simp)
 have e2:zca srB M'.rk M.rk M'.R M.R=true:=zdB h.rk (λj hj=>by
  have p:=h.R j hj;unfold srB;rw[zgM p.li p.lo,zgM p.hi p.hv,p.nm,zdB p.tk (λq hq=>zgM (a:=tex (M.R j).col (M.R j).T q) (b:=tex (M'.R j).col (M'.R j).T q) (by show(M'.R j).col q=_;rw[p.col];rfl) (p.T q hq))];simp)
 unfold smB;rw[h.off.sq,e1,e2];rfl
theorem zkb {w ao bo k ca cb X Y} (ha:Rl w ao k X) (hb:Rl w bo k Y) (hs:∀j,j<k->Sn (Y j) (X j)) (hk2:k<=1048576) :
  Calls prog 15 #[slice ao k ca,slice bo k cb] w λe w'=>e=returned (.bool true)/\Bl w w':=by
 have HA:=zk ha;have HB:=zk hb;have HSn:=zk hs
 have hkk:(((k:Nat):Int) != ((k:Nat):Int))=false:=by simp
 clear ha hb hs;go_enter func15,ntmps15;go_wp2_with fail
 go_loopw[13] (λt wr=>∃(i:Nat),i<=k/\t=.int .i64 i/\Hid (Bl w wr)) (λt _=>k-(intOf t).toNat)
 case atStart=>exact⟨0,by omega,rfl,Below.refl _ _⟩
 case round =>
  obtain⟨i,hi,rfl,HW⟩:=hrel;by_cases hlt:i<k
  ·obtain⟨b,o,rfl,hc,hr⟩:=(HA.out.q_ HW.out) i hlt;obtain⟨b',o',rfl,hc',hr'⟩:=(HB.out.q_ HW.out) i hlt;have hsn:=HSn.out i hlt;generalize X i=t1 at hc hr hsn;generalize Y i=t2 at hc' hr' hsn;obtain⟨ts,tx,tn,tc,tf,ty,tm,td,tg⟩:=t1;obtain⟨ss,sx,sn,sc,sf,sy,sm,sd,sg⟩:=t2;obtain⟨x0,x1,x2⟩:=hc;obtain⟨p0,p1,p2⟩:=hc';replace x0:wr.cell? ⟨b,o+i*3,none⟩=some (.bool ts):=x0;replace x1:wr.cell? ⟨b,o+i*3+1,none⟩=some (slice tx tn tc):=x1;replace x2:wr.cell? ⟨b,o+i*3+2,none⟩=some (slice ty tm td):=x2;replace p0:wr.cell? ⟨b',o'+i*3,none⟩=some (.bool ss):=p0;replace p1:wr.cell? ⟨b',o'+i*3+1,none⟩=some (slice sx sn sc):=p1;replace p2:wr.cell? ⟨b',o'+i*3+2,none⟩=some (slice sy sm sd):=p2;have CS:Hid (∀W,Bl wr W->Calls prog 16 #[agg #[.bool ts,slice tx tn tc,slice ty tm td],agg #[.bool ss,slice sx sn sc,slice sy sm sd]] W λe w'=>e=returned (.bool true)/\Bl W w'):=λW hW =>
    (zny (NmS.q_ hr hW) (NmS.q_ hr' hW)).mono λe w' h=>by rw[hsn.sq]at h;exact h
   have i2:((i:Nat):Int)<((k:Nat):Int):=by omega
   clear hr hr' hsn;go_upto_region 6 with fail
   go_region_held3 (λw'=>w'.cell? ⟨b,o+i*3,none⟩=some (.bool ts)/\w'.cell? ⟨b,o+i*3+1,none⟩=some (slice tx tn tc)/\w'.cell? ⟨b,o+i*3+2,none⟩=some (slice ty tm td)/\w'.cell? ⟨b',o'+i*3,none⟩=some (.bool ss)/\w'.cell? ⟨b',o'+i*3+1,none⟩=some (slice sx sn sc)/\w'.cell? ⟨b',o'+i*3+2,none⟩=some (slice sy sm sd))
    (refine⟨?_,?_,?_,?_,?_,?_⟩ <;> repeat(with_reducible first|assumption|refine kCd ?_|refine kCb (by assumption) ?_))
    ((go_at_call 16;with_reducible refine(CS.out _ (by repeat(with_reducible first|assumption|exact Below.refl _ _|refine zkn ?_|refine Below.drew ?_))).mono ?_;rintro e w5 ⟨rfl,hb5⟩))
   all_goals
    (have HW5:Hid (Bl w w5):=zk (HW.out.trans (Below.mono (show Bl wr w5 by repeat(with_reducible first|assumption|exact Below.refl _ _|refine zkn ?_|refine Below.drew ?_|refine kBb (by assumption) ?_)) HW.out.size))
     clear x0 x1 x2 p0 p1 p2 CS hb5;go_wp2;go_roundw
     case rel=>exact⟨i+1,by omega,by go_num,(by first|exact HW5.out|exact HW5.out.drew|exact zD HW5.out _)⟩
     case measure=>simp[intOf];omega)
  ·have i2:¬(((i:Nat):Int)<((k:Nat):Int)):=by omega
   go_wp2;go_ret;exact⟨rfl,HW.out⟩
theorem MoX.kp {w w' M} (h:MoX w M) (hk:Kp w w') {B} (hne:∀k,k≠B->w'.heap[k]?=w.heap[k]?) (hno:∀o v,w.cell? ⟨B,o,none⟩=some v->(∀s,v≠.string s)/\∀k z,v≠.int k z):MoX w' M:=by
 refine⟨h.off.kp hk,λj hj=>?_,λj hj=>?_,h.ck,h.rk⟩
 ·obtain⟨b,o,e,h1,h2⟩:=h.cls j hj;have hb:b≠B:=λe=>(hno _ (.string (M.C j).nm) (e ▸ h1 0 _ rfl)).1 _ rfl
  exact⟨b,o,e,λq v hq=>(cell?_of_block (a:=⟨b,_,none⟩) (hne b hb)).trans (h1 q v hq),h2.kp hk⟩
 ·obtain⟨b,o,e,h1,h2⟩:=h.rls j hj;have hb:b≠B:=λe=>(hno _ (.string (M.R j).nm) (e ▸ h1 0 _ rfl)).1 _ rfl
  refine⟨b,o,e,λq v hq=>(cell?_of_block (a:=⟨b,_,none⟩) (hne b hb)).trans (h1 q v hq),h2.of (λh3 b' o' s' e' _=>hne b' ?_) hk⟩;intro eB;obtain⟨b2,o2,e2,⟨c0,_⟩,_⟩:=h2.tr 0 (by omega);rw[e']at e2
  cases e2
  exact(hno _ _ (eB ▸ c0)).2 _ _ rfl
theorem TmK.kp {K w w' M M'} (h:TmK K w M M') (hN:MoN M) (hK:K<=1000) (hk:Kp w w') {B} (hne:∀k,k≠B->w'.heap[k]?=w.heap[k]?) (hno:∀o v,w.cell? ⟨B,o,none⟩=some v->(∀s,v≠.string s)/\∀k z,v≠.int k z):TmK K w' M M':=by
 obtain⟨h1,h2,h3,h4⟩:=h;have hx:=h3.kp hk hne hno;exact⟨h1,λa b=>(hx.both (h1.mon hN) h4 hK a b).1,hx,h4⟩
theorem Tx.ne {w w' ao k X X' B} (h:Tx w ao k X X') (hk:Kp w w') (hne:∀b,b≠B->w'.heap[b]?=w.heap[b]?) (hB:k≠0->∀o s,ao≠some ⟨B,o,s⟩):Tx w' ao k X X':=by
 refine⟨λj hj=>?_,h.2⟩;obtain⟨b,o,e,⟨c0,c1,c2⟩,h1,h2⟩:=h.1 j hj;have hs:=hne b (λe2=>hB (by omega) o none (e2 ▸ e));exact⟨b,o,e,⟨(cell?_of_block (a:=⟨b,o+j*3,none⟩) hs).trans c0,(cell?_of_block (a:=⟨b,o+j*3+1,none⟩) hs).trans c1,(cell?_of_block (a:=⟨b,o+j*3+2,none⟩) hs).trans c2⟩,h1.kp hk,h2⟩
theorem Tx.lt {w a k X X'} (h:Tx w a k X X') (hk:k≠0) {b o s} (e:a=some ⟨b,o,s⟩):b<w.heap.size:=by
 obtain⟨b',o',e',⟨c0,_⟩,_⟩:=h.1 0 (by omega);rw[e]at e'
 cases e'
 exact block_lt_of_cell? w _ c0
structure Kw (ok:Nat->Prop) (w w':World):Prop where
 os:w'.os=w.os
 tape:w'.tape=w.tape
 output:w'.output=w.output
 size:w.heap.size<=w'.heap.size
 block:∀k,k<w.heap.size->¬ok k->w'.heap[k]?=w.heap[k]?
theorem Kw.refl (ok:Nat->Prop) (w:World):Kw ok w w:=⟨rfl,rfl,rfl,le_refl _,λ_ _ _=>rfl⟩
theorem Kw.set {ok:Nat->Prop} {a w:World} (h:Kw ok a w) {x:Addr} (hx:ok x.block) (u:Value):Kw ok a (w.setCell x u) :=
 ⟨h.os,h.tape,h.output,by simpa[World.setCell]using h.size,λk hk hn=>(Below.heap_setCell _ _ _ _ (λ(e:k=x.block)=>hn (by rw[e];exact hx))).trans (h.block k hk hn)⟩
theorem Kw.q_ {ok:Nat->Prop} {a w w':World} (h:Kw ok a w) (hb:Bl w w'):Kw ok a w' :=
 ⟨hb.os.trans h.os,hb.tape.trans h.tape,hb.output.trans h.output,le_trans h.size hb.size,λk hk hn=>(hb.block k (Nat.lt_of_lt_of_le hk h.size)).trans (h.block k hk hn)⟩
theorem Kw.blw {ok:Nat->Prop} {a w w':World} (h:Kw ok w w') (hb:Bl a w) (hn:∀k,k<a.heap.size->¬ok k):Bl a w' :=
 ⟨h.os.trans hb.os,h.tape.trans hb.tape,h.output.trans hb.output,le_trans hb.size h.size,λk hk=>(h.block k (Nat.lt_of_lt_of_le hk hb.size) (hn k hk)).trans (hb.block k hk)⟩
theorem RowG.den {e sz base w v n xs b q u} (h:RowG e sz base w v n xs) (hb:w.cell? ⟨b,0,none⟩=some (.int .u64 q)):RowG e sz base (w.setCell ⟨b,0,none⟩ u) v n xs:=h.of λg hg=>by
 have hne:g≠b:=by
  rintro rfl;rcases h.2 with⟨hv,_⟩|⟨g',cap,cur,hv,_,hc,_,_,_,_,hnu⟩
  ·rw[hv]at hg;cases hg
  ·rw[hv]at hg;cases hg
   simp[World.cell?,hc]at hb
   exact hnu _ _ hb
 exact Below.heap_setCell _ _ _ _ hne
theorem RowG.set {e sz base w n xs g cap o u} (h:RowG e sz base w (.slice (some ⟨g,0,none⟩) n cap) n xs) (hu:∀q,u≠.int .u64 q):∃xs',RowG e sz base (w.setCell ⟨g,o,none⟩ u) (.slice (some ⟨g,0,none⟩) n cap) n xs':=by
 obtain⟨h0,h1⟩:=h;rcases h1 with⟨hv,_⟩|⟨g',cap',cur,hv,hge,hcur,hn,hm,hs,ht,hnu⟩
 ·cases hv
 ·cases hv
  refine⟨(cur.setIfInBounds o u).toList.take (n*sz),?_,.inr ⟨g,cap,cur.setIfInBounds o u,rfl,hge,?_,hn,hm,by simpa using hs,rfl,λi q hq=>?_⟩⟩
  ·rw[List.length_take,Array.length_toList,Array.size_setIfInBounds,hs];exact Nat.min_eq_left (Nat.mul_le_mul_right _ hn)
  ·simp[World.setCell,Array.getElem?_modify,hcur]
  ·rw[Array.getElem?_setIfInBounds]at hq
   split at hq
   ·split at hq
    ·cases hq;exact hu q rfl
    ·cases hq
   ·exact hnu i q hq
structure Mk (ok:Nat->Prop) (base:Nat) (wG:World) (v:Value) (n:Nat) (w:World) (j:Nat):Prop where
 kq:Kw ok wG w
 row:∃xs,RowG 24 3 base w v n xs
 el:∀i,j<=i->i<n->∃g cap s x k c b m d q,v=slice (some ⟨g,0,none⟩) n cap/\ok g/\g<w.heap.size/\(∀o,w.frozen? ⟨g,o,none⟩=false)/\C3 w g (i*3) (.bool s) (slice x k c) (slice (some ⟨b,0,none⟩) m d)/\0<m/\ok b/\w.cell? ⟨b,0,none⟩=some (.int .u64 q)/\w.frozen? ⟨b,0,none⟩=false
theorem Mk.q_ {ok base wG v n w w' j} (h:Mk ok base wG v n w j) (hb:Bl w w'):Mk ok base wG v n w' j:=by
 obtain⟨_,hf⟩:=zaC hb;obtain⟨xs,hx⟩:=h.row;refine⟨h.kq.q_ hb,⟨xs,hx.q_ hb⟩,λi h1 h2=>?_⟩;obtain⟨g,cap,s,x,k,c,b,m,d,q,e1,e2,e3,e4,e5,e6,e7,e8,e9⟩:=h.el i h1 h2;exact⟨g,cap,s,x,k,c,b,m,d,q,e1,e2,Nat.lt_of_lt_of_le e3 hb.size,λo=>(hf _ _ e3).trans (e4 o),e5.q_ hb,e6,e7,kCb hb e8,(hf _ _ (block_lt_of_cell? w _ e8)).trans e9⟩
theorem zbj {w:World} {p a:Addr} {u v z:Value} (hp:w.cell? p=some u) (ha:w.cell? a=some v) (hne:u≠v):(w.setCell p z).cell? a=some v:=by
 have hpa:p≠a:=λe=>hne (Option.some.inj (by rw[<-hp,<-ha,e]))
 exact(World.cell?_setCell_other w p a z hpa).trans ha
theorem Mk.den {ok base wG v n w j b q} (h:Mk ok base wG v n w j) (hb:w.cell? ⟨b,0,none⟩=some (.int .u64 q)) (hok:ok b) (z:Int):Mk ok base wG v n (w.setCell ⟨b,0,none⟩ (.int .u64 z)) j:=by
 obtain⟨xs,hx⟩:=h.row;refine⟨h.kq.set hok _,⟨xs,hx.den hb⟩,λi h1 h2=>?_⟩;obtain⟨g,cap,s,x,k,c,b',m,d,q',e1,e2,e3,e4,⟨x0,x1,x2⟩,e6,e7,e8,e9⟩:=h.el i h1 h2;have hc:C3 (w.setCell ⟨b,0,none⟩ (.int .u64 z)) g (i*3) (.bool s) (slice x k c) (slice (some ⟨b',0,none⟩) m d):=⟨zbj hb x0 (λh=>by cases h),zbj hb x1 (λh=>by cases h),zbj hb x2 (λh=>by cases h)⟩;by_cases e:b'=b
 ·subst e;exact⟨g,cap,s,x,k,c,b',m,d,z,e1,e2,by simpa[World.setCell]using e3,λo=>kFs (e4 o),hc,e6,e7,kCe (kI0 e8),kFs e9⟩
 ·exact⟨g,cap,s,x,k,c,b',m,d,q',e1,e2,by simpa[World.setCell]using e3,λo=>kFs (e4 o),hc,e6,e7,kCs (λh=>e h.symm) e8,kFs e9⟩
theorem Mk.set {ok base wG n w j g cap o u z} (h:Mk ok base wG (slice (some ⟨g,0,none⟩) n cap) n w j) (hc:w.cell? ⟨g,o,none⟩=some z) (hz:∀q,z≠.int .u64 q) (hu:∀q,u≠.int .u64 q) (ho:o<j*3) (hok:ok g):Mk ok base wG (slice (some ⟨g,0,none⟩) n cap) n (w.setCell ⟨g,o,none⟩ u) j:=by
 obtain⟨xs,hx⟩:=h.row;refine⟨h.kq.set hok _,hx.set hu,λi h1 h2=>?_⟩;obtain⟨g',cap',s,x,k,c,b',m,d,q',e1,e2,e3,e4,⟨x0,x1,x2⟩,e6,e7,e8,e9⟩:=h.el i h1 h2;cases e1
 have hk:∀t u',w.cell? ⟨g,i*3+t,none⟩=some u'->(w.setCell ⟨g,o,none⟩ u).cell? ⟨g,i*3+t,none⟩=some u':=λt u' hu=>kCo (by have:j*3<=i*3:=Nat.mul_le_mul_right 3 h1;omega) hu
 exact⟨g,cap,s,x,k,c,b',m,d,q',rfl,e2,by simpa[World.setCell]using e3,λo=>kFs (e4 o),⟨hk 0 _ x0,hk 1 _ x1,hk 2 _ x2⟩,e6,e7,zbj hc e8 (hz _),kFs e9⟩
theorem Mk.up {ok base wG v n w j j'} (h:Mk ok base wG v n w j) (hj:j<=j'):Mk ok base wG v n w j':=⟨h.kq,h.row,λi h1 h2=>h.el i (le_trans hj h1) h2⟩
theorem GrO.mk {ok:Nat->Prop} {K base w v p w'} (h:GrO K base w v p) (hb:Bl w w') (hok:∀b,base<=b->b<w.heap.size->ok b):Mk ok base w' v p.length w' 0:=by
 have h0:Mk ok base w v p.length w 0:=by
  obtain⟨T,h1,h2⟩:=h;refine⟨Kw.refl _ _,⟨_,h1⟩,λi _ hi=>?_⟩;rcases h1.2 with⟨_,hn⟩|⟨g,cap,cur,hv,hge,hcur,hn,hm,hs,ht,hnu⟩
  ·omega
  ·subst hv;obtain⟨b,hb,hc⟩:=zcX h1 hi;cases hb
   have hl:g<w.heap.size:=(Array.getElem?_eq_some_iff.1 hcur).1;obtain⟨q,hq⟩:∃q,p[i]?=some q:=⟨_,getElem?_eq_getElem hi⟩;obtain⟨h3,h4⟩:=h2 i q hq;obtain⟨b,h5,h6,⟨z,h7⟩,h8⟩:=h4.1 (h3.den.pos (by have:=q.den_pos;omega));rw[zero_add,h5]at hc
   exact⟨g,cap,_,_,_,_,b,_,_,z,rfl,hok g hge hl,hl,λo=>by simp[World.frozen?,hcur],hc,h3.den.pos (by have:=q.den_pos;omega),hok b h6 (block_lt_of_cell? w _ h7),h7,h8⟩
 have h1:=h0.q_ hb;exact⟨Kw.refl _ _,h1.row,h1.el⟩
theorem zhp {w z} (h0:-9223372036854775808<=z) (h1:z<=9223372036854775807) :
  Calls prog 9 #[.int .i64 z] w λe w'=>zgF 4 w w' e (z:Rat):=by
 have h2:=zay w 24;have h3:=zF w (cells #[.bool false,slice none 0 0,slice none 0 0] 24);go_enter func9,ntmps9;go_wp2_with fail
 generalize w.alloc (cells #[.bool false,slice none 0 0,slice none 0 0] 24)=w1 at *;have OB:=zk h2;have HW:=zk h3
 clear h2 h3;refine(zfZ h0 h1).mono ?_;rintro e w2 ⟨s2,x2,n2,c2,d2,y2,m2,e2,g2,rfl,hb,hl1,hl2,hq⟩;have HB2:=zk hb;have HQ:=zk hq
 clear hb hq;go_wp2_with fail
 refine(zly HQ.out (by omega) (by omega)).mono ?_;rintro e w3 ⟨s3,z3,k3,c3,f3,y3,m3,e3,g3,rfl,hb,hr3,hd3⟩;have R3:=zk hr3;have D3:=zk (hd3.base (bUp HW.out HB2.out).size)
 clear hr3 hd3;have HB3:=zP HB2 hb;clear hb;obtain⟨hz,z0,z1,z2,zf⟩:=OB.out.q_ HB3.out;go_wp2;exact bodyPost_ret (v:=agg #[.bool s3,slice z3 k3 c3,slice y3 m3 e3]) (by simp[results,results9,go_sem,z0,z1,z2]) rfl ⟨s3,z3,k3,c3,f3,y3,m3,e3,g3,rfl,below_st (bUp HW.out HB3.out) (by omega),(OB.out.q_ HB3.out).rn (R3.out.mono (by omega)),D3.out.st3 ⟨hz,z0,z1,z2,zf⟩⟩
theorem zhO {K w ao k cap X} (h:Rl w ao k X) (hs:ShK K k X) (hK:K<=100):Calls prog 8 #[slice ao k cap] w λe w'=>∃(a:Option Addr) (c:Nat) (X':Nat->Nm),e=returned (slice a k c)/\Bl w w'/\Hid (Tx w' a k X X'/\RowG 24 3 w.heap.size w' (slice a k c) k (zar (rls k X'))) :=
 (znk h (by have:=hs.1;omega) (λj hj=>by have:=hs.2 j hj;omega)).mono λe w' ⟨a,c,X',h1,h2,_,h4⟩=>⟨a,c,X',h1,h2,zk ⟨h4.out.1,h4.out.2⟩⟩
theorem Tx.put {w w' e base a k X X' g cap s x n c y m d} (h:Tx w a k X X') (hr:RowG e 3 base w' (slice (some ⟨g,0,none⟩) (k+1) cap) (k+1) (zar (rls k X')++#[Value.bool s,slice x n c,slice y m d].toList)) (hk:Kp w w'):Tx w' (some ⟨g,0,none⟩) k X X':=by
 refine⟨λj hj=>?_,h.2⟩;obtain⟨_,_,_,_,h1,h2⟩:=h.1 j hj;have hr2:RowG e 3 base w' (slice (some ⟨g,0,none⟩) (k+1) cap) (k+1) (zar (rls (k+1) (zaG X' k ⟨s,x,n,c,λ_=>0,y,m,d,λ_=>0⟩))):=by rw[zcY];exact hr
 obtain⟨b,e1,hc⟩:=zcX hr2 (show j<k+1 by omega);rw[putN_ne (by omega)]at hc
 cases e1
 exact⟨g,0,rfl,hc,h1.kp hk,h2⟩
theorem zek {w a b} (ha:NmB w a) (hb:NmB w b):Calls prog 16 #[a.val,b.val] w λr w'=>r=returned (.bool (sqB a b))/\Bl w w' :=
 (zej a.s a.x a.y a.n a.c a.m a.d a.f a.g b.s b.x b.y b.n b.c b.m b.d b.f b.g w ha.1.rx ha.1.ry hb.1.rx hb.1.ry (le_trans ha.2.1 (by decide)) (le_trans ha.2.2 (by decide)) (le_trans hb.2.1 (by decide)) (le_trans hb.2.2 (by decide))).mono
  λe w' ⟨q,h1,h2,h3⟩=>⟨by rw[h1,Bool.eq_iff_iff.2 (h3.trans sq_iff.symm)],h2⟩
theorem zdV {w a b} (ha:NmB w a.v) (hb:NmB w b.v):Calls prog 35 #[a.val,b.val] w λr w'=>r=returned (.bool (sxB a b))/\Bl w w':=by
 have CS:=zk (λw' (hw:Bl w w')=>zek (w:=w') (ha.q_ hw) (hb.q_ hw));obtain⟨q,hq⟩:∃q,sqB a.v b.v=q:=⟨_,rfl⟩;rw[hq]at CS
 obtain⟨an,han⟩:∃t,sxB a b=t:=⟨_,rfl⟩;rw[han];have HA:=zk (show an=(decide (a.i=b.i) && q)from by rw[<-han,sxB,hq]);clear ha hb hq han;obtain⟨i1,⟨s1,x1,n1,c1,f1,y1,m1,d1,g1⟩⟩:=a;obtain⟨i2,⟨s2,x2,n2,c2,f2,y2,m2,d2,g2⟩⟩:=b;replace CS:Hid (∀w' (hw:Bl w w'),Calls prog 16 #[agg #[.bool s1,slice x1 n1 c1,slice y1 m1 d1],agg #[.bool s2,slice x2 n2 c2,slice y2 m2 d2]] w' λr w2=>r=returned (.bool q)/\Bl w' w2):=CS;replace HA:Hid (an=(decide (i1=i2) && q)):=HA;show Calls prog 35 #[agg #[.int .i64 i1,.bool s1,slice x1 n1 c1,slice y1 m1 d1],agg #[.int .i64 i2,.bool s2,slice x2 n2 c2,slice y2 m2 d2]] w _;have h1:=(zbe w (.int .i64 i1) (.bool s1) (slice x1 n1 c1) (slice y1 m1 d1) 57).alloc (cells #[.int .i64 i2,.bool s2,slice x2 n2 c2,slice y2 m2 d2] 57);have h2:=zbe (w.alloc (cells #[.int .i64 i1,.bool s1,slice x1 n1 c1,slice y1 m1 d1] 57)) (.int .i64 i2) (.bool s2) (slice x2 n2 c2) (slice y2 m2 d2) 57;rw[zz]at h2
 have h3:=zu (zF w (cells #[.int .i64 i1,.bool s1,slice x1 n1 c1,slice y1 m1 d1] 57)) (cells #[.int .i64 i2,.bool s2,slice x2 n2 c2,slice y2 m2 d2] 57);go_enter func35,ntmps35;go_upto_region 1 with fail
 generalize(w.alloc (cells #[.int .i64 i1,.bool s1,slice x1 n1 c1,slice y1 m1 d1] 57)).alloc (cells #[.int .i64 i2,.bool s2,slice x2 n2 c2,slice y2 m2 d2] 57)=w1 at *;have HW:=zk h3;obtain⟨za,a0,a1,a2,a3⟩:=h1;obtain⟨zb,b0,b1,b2,b3⟩:=h2;clear h3;by_cases hi:i1=i2
 ·subst hi;have hii:(i1==i1)=true:=by simp
  go_wp2_with fail
  refine(CS.out _ HW.out).mono ?_;rintro e w2 ⟨rfl,hb⟩;have HB:=zP HW hb;clear hb;go_wp2;go_ret;exact⟨by rw[HA.out];simp,HB.out⟩
 ·have hii:(i1==i2)=false:=by simpa using hi
  have HF:=zk (show an=false from by rw[HA.out];simp[hi]);go_wp2;go_ret;exact⟨by rw[HF.out];rfl,HW.out⟩
theorem znh {w ao bo k m ca cb col col' T T'} (ha:Tr w ao k col T) (la:∀p,p<k->(T p).n<=17592186044416/\(T p).m<=17592186044416) (hb:Tr w bo m col' T') (lb:∀p,p<m->(T' p).n<=17592186044416/\(T' p).m<=17592186044416) (hk:k<=2199023255552) (hm:m<=2199023255552) :
  Calls prog 36 #[slice ao k ca,slice bo m cb] w λe w'=>e=returned (.bool (zca sxB k m (tex col T) (tex col' T')))/\Bl w w':=by
 have HA:=zk ha;have HB:=zk hb;have LA:=zk la;have LB:=zk lb
 clear ha hb la lb;obtain⟨an,han⟩:∃t,zca sxB k m (tex col T) (tex col' T')=t:=⟨_,rfl⟩;rw[han];by_cases hnm:k=m
 case neg =>
  have HE:=zk (show an=false from by rw[<-han,zca];simp[hnm]);have e1:((k:Int) != (m:Int))=true:=by simp;omega
  clear hnm han;go_enter func36,ntmps36;go_wp2;go_ret;refine⟨?_,Below.refl _ _⟩;rw[HE.out];rfl
 subst hnm;have HAN:=zk (show an=eqf sxB (tex col T) (tex col' T') k 0 from by rw[<-han,zca];simp);have hkk:(((k:Nat):Int) != ((k:Nat):Int))=false:=by simp
 clear han;go_enter func36,ntmps36;go_wp2_with fail
 go_loopw[13] (λt wr=>∃(i:Nat),i<=k/\t=.int .i64 i/\Hid (Bl w wr)/\Hid (an=eqf sxB (tex col T) (tex col' T') (k-i) i)) (λt _=>k-(intOf t).toNat)
 case atStart=>exact⟨0,by omega,rfl,Below.refl _ _,HAN.out⟩
 case round =>
  obtain⟨i,hi,rfl,HW,HI⟩:=hrel;by_cases hlt:i<k
  ·obtain⟨b,o,rfl,⟨x0,x1,x2,x3⟩,hr⟩:=(HA.out.q_ HW.out) i hlt;obtain⟨b',o',rfl,⟨p0,p1,p2,p3⟩,hr'⟩:=(HB.out.q_ HW.out) i hlt;obtain⟨r,hrr⟩:∃r,k-i=r+1:=⟨k-i-1,by omega⟩;have hT:an=(sxB (tex col T i) (tex col' T' i) && eqf sxB (tex col T) (tex col' T') r (i+1)):=by rw[HI.out,hrr];rfl
   have hr2:k-(i+1)=r:=by omega
   obtain⟨q,hq⟩:∃q,sqB (T i) (T' i)=q:=⟨_,rfl⟩;have CS:=zk (λW (hW:Bl wr W)=>zek (w:=W) (a:=T i) (b:=T' i) ⟨Rw.q_ hr hW,LA.out i hlt⟩ ⟨Rw.q_ hr' hW,LB.out i hlt⟩);rw[hq]at CS
   have hT2:an=((decide (col i=col' i) && q) && eqf sxB (tex col T) (tex col' T') r (i+1)):=by rw[hT];unfold sxB;show((decide (col i=col' i) && sqB (T i) (T' i)) && _)=_;rw[hq]
   obtain⟨a,hca⟩:∃z,col i=z:=⟨_,rfl⟩;obtain⟨a',hcb⟩:∃z,col' i=z:=⟨_,rfl⟩;rw[hca,hcb]at hT2
   rw[hca]at x0
   rw[hcb]at p0
   obtain⟨⟨ts,tx,tn,tc,tf,ty,tm,td,tg⟩,hTi⟩:∃t,T i=t:=⟨_,rfl⟩;obtain⟨⟨ss,sx,sn,sc,sf,sy,sm,sd,sg⟩,hTi'⟩:∃t,T' i=t:=⟨_,rfl⟩;rw[hTi]at x1 x2 x3 CS
   rw[hTi']at p1 p2 p3 CS
   replace x0:wr.cell? ⟨b,o+i*4,none⟩=some (.int .i64 a):=x0;replace x1:wr.cell? ⟨b,o+i*4+1,none⟩=some (.bool ts):=x1;replace x2:wr.cell? ⟨b,o+i*4+2,none⟩=some (slice tx tn tc):=x2;replace x3:wr.cell? ⟨b,o+i*4+3,none⟩=some (slice ty tm td):=x3;replace p0:wr.cell? ⟨b',o'+i*4,none⟩=some (.int .i64 a'):=p0;replace p1:wr.cell? ⟨b',o'+i*4+1,none⟩=some (.bool ss):=p1;replace p2:wr.cell? ⟨b',o'+i*4+2,none⟩=some (slice sx sn sc):=p2;replace p3:wr.cell? ⟨b',o'+i*4+3,none⟩=some (slice sy sm sd):=p3;replace CS:Hid (∀W,Bl wr W->Calls prog 16 #[agg #[.bool ts,slice tx tn tc,slice ty tm td],agg #[.bool ss,slice sx sn sc,slice sy sm sd]] W λe w'=>e=returned (.bool q)/\Bl W w'):=CS;have i2:((i:Nat):Int)<((k:Nat):Int):=by omega
   have HR:=zk hr2;clear hr hr' hT hr2 hrr hq hca hcb hTi hTi' HI;go_upto_region 6 with fail
   by_cases haa:a=a'
   ·subst haa;have hne:(a != a)=false:=by simp
    have HT:=zk (show an=(q && eqf sxB (tex col T) (tex col' T') r (i+1))from by rw[hT2];simp);clear hT2;go_region_held3 (λw'=>w'.cell? ⟨b,o+i*4,none⟩=some (.int .i64 a)/\w'.cell? ⟨b,o+i*4+1,none⟩=some (.bool ts)/\w'.cell? ⟨b,o+i*4+2,none⟩=some (slice tx tn tc)/\w'.cell? ⟨b,o+i*4+3,none⟩=some (slice ty tm td)/\w'.cell? ⟨b',o'+i*4,none⟩=some (.int .i64 a)/\w'.cell? ⟨b',o'+i*4+1,none⟩=some (.bool ss)/\w'.cell? ⟨b',o'+i*4+2,none⟩=some (slice sx sn sc)/\w'.cell? ⟨b',o'+i*4+3,none⟩=some (slice sy sm sd))
     (refine⟨?_,?_,?_,?_,?_,?_,?_,?_⟩ <;> repeat(with_reducible first|assumption|refine kCd ?_|refine kCb (by assumption) ?_))
     ((go_at_call 16;with_reducible refine(CS.out _ (by repeat(with_reducible first|assumption|exact Below.refl _ _|refine zkn ?_|refine Below.drew ?_))).mono ?_;rintro e w5 ⟨rfl,hb5⟩))
    all_goals
     (have HW5:Hid (Bl w w5):=zk (HW.out.trans (Below.mono (show Bl wr w5 by repeat(with_reducible first|assumption|exact Below.refl _ _|refine zkn ?_|refine Below.drew ?_|refine kBb (by assumption) ?_)) HW.out.size))
      clear x0 x1 x2 x3 p0 p1 p2 p3 CS hb5;cases q
      ·go_wp2;go_ret;exact⟨by rw[HT.out];rfl,by first|exact HW5.out|exact HW5.out.drew|exact zD HW5.out _⟩
      ·go_wp2;go_roundw
       case rel=>exact⟨i+1,by omega,by go_num,(by first|exact HW5.out|exact HW5.out.drew|exact zD HW5.out _),by show _=_;rw[HT.out,HR.out];rfl⟩
       case measure=>simp[intOf];omega)
   ·have hne:(a != a')=true:=by simpa using haa
    have HF:=zk (show an=false from by rw[hT2];simp[haa]);clear hT2;refine wp_region_held_drew (S:=(λw'=>w'.cell? ⟨b,o+i*4,none⟩=some (.int .i64 a)/\w'.cell? ⟨b',o'+i*4,none⟩=some (.int .i64 a'))) (by kernel_rfl) ?_ (λhHeld=>?_)
    ·(refine⟨?_,?_⟩ <;> repeat(with_reducible first|assumption|refine kCd ?_))
    generalize hwd:wr.drew=wd at *;refine zH 0 ?_;refine zH 1 ?_;refine zH 2 ?_;refine zH 3 ?_;simp only[zw,Act.put];refine zH 4 ?_;refine zH 5 ?_;refine zH 6 ?_;refine zH 7 ?_;simp only[zw,Act.put];refine zH 8 ?_;refine zH 9 ?_;refine zH 10 ?_;refine zH 11 ?_;simp only[zw,Act.put];refine skO 12 ?_;refine skO 13 ?_;refine skO 14 ?_;refine skO 15 ?_;simp only[zw,Act.put];refine skO 16 ?_;refine skO 17 ?_;refine skO 18 ?_;refine skO 19 ?_;simp only[zw,Act.put];refine skO 20 ?_;refine skO 21 ?_;refine skO 22 ?_;refine skO 23 ?_;simp only[zw,Act.put];refine zH 24 ?_;simp only[zw,Act.put];refine dnO ?_;subst hwd;go_wp2;go_ret;exact⟨by rw[HF.out];rfl,HW.out.drew⟩
  ·have e1:i=k:=by omega
   have i2:¬(((i:Nat):Int)<((k:Nat):Int)):=by omega
   have HE:=zk (show an=true from by rw[HI.out,e1,Nat.sub_self];rfl);clear e1 HI;go_wp2;go_ret;exact⟨by rw[HE.out];rfl,HW.out⟩
theorem znM {w:World} {a b:Mo} (ha:MoX w a) (hb:MoX w b):Calls prog 14 #[a.val,b.val] w λr w'=>r=returned (.bool (smB a b))/\Bl w w':=by
 have CO:=zk (λw' (hw:Bl w w')=>zek (w:=w') (ha.off.q_ hw) (hb.off.q_ hw));obtain⟨tO,hto⟩:∃t,sqB a.off b.off=t:=⟨_,rfl⟩;rw[hto]at CO
 obtain⟨an,han⟩:∃t,smB a b=t:=⟨_,rfl⟩;rw[han];have HA:=zk (show an=(tO && (zca scB a.ck b.ck a.C b.C && zca srB a.rk b.rk a.R b.R))from by rw[<-han,smB,hto]);obtain⟨_,hC,hR,hck,hrk⟩:=ha;obtain⟨_,hC',hR',hck',hrk'⟩:=hb;clear han hto;obtain⟨⟨s,x,n,c,f,y,m,d,g⟩,ca,ck,cc,C,ra,rk,rc,R⟩:=a;obtain⟨⟨vs,vx,vn,vc,vf,vy,vm,vd,vg⟩,vca,vck,vcc,vC,vra,vrk,vrc,vR⟩:=b;replace hck:ck<=703687441776:=hck;replace hrk:rk<=837723144971:=hrk;replace hck':vck<=703687441776:=hck';replace hrk':vrk<=837723144971:=hrk';have HC:Hid (Cl9 w ca ck C):=hC;have HR:Hid (Rl9 w ra rk R):=hR;have HC':Hid (Cl9 w vca vck vC):=hC';have HR':Hid (Rl9 w vra vrk vR):=hR';replace HA:Hid (an=(tO && (zca scB ck vck C vC && zca srB rk vrk R vR))):=HA;replace CO:Hid (∀w' (hw:Bl w w'),Calls prog 16 #[agg #[.bool s,slice x n c,slice y m d],agg #[.bool vs,slice vx vn vc,slice vy vm vd]] w' λr w2=>r=returned (.bool tO)/\Bl w' w2):=CO;clear hC hR hC' hR';show Calls prog 14 #[agg #[.bool s,slice x n c,slice y m d,slice ca ck cc,slice ra rk rc],agg #[.bool vs,slice vx vn vc,slice vy vm vd,slice vca vck vcc,slice vra vrk vrc]] w _;have h3:=zu (zu (Below.refl w.heap.size w) (cells #[.bool s,slice x n c,slice y m d,slice ca ck cc,slice ra rk rc] 28)) (cells #[.bool vs,slice vx vn vc,slice vy vm vd,slice vca vck vcc,slice vra vrk vrc] 28);have B1:=(zJ w [.bool s,slice x n c,slice y m d,slice ca ck cc,slice ra rk rc] 28).q_ (zu (Below.refl _ _) (cells #[.bool vs,slice vx vn vc,slice vy vm vd,slice vca vck vcc,slice vra vrk vrc] 28));have B2:=zJ (w.alloc (cells #[.bool s,slice x n c,slice y m d,slice ca ck cc,slice ra rk rc] 28)) [.bool vs,slice vx vn vc,slice vy vm vd,slice vca vck vcc,slice vra vrk vrc] 28;rw[zz]at B2
 replace B1:Bk ((w.alloc (cells #[.bool s,slice x n c,slice y m d,slice ca ck cc,slice ra rk rc] 28)).alloc (cells #[.bool vs,slice vx vn vc,slice vy vm vd,slice vca vck vcc,slice vra vrk vrc] 28)) w.heap.size [.bool s,slice x n c,slice y m d,slice ca ck cc,slice ra rk rc] 28:=B1;replace B2:Bk ((w.alloc (cells #[.bool s,slice x n c,slice y m d,slice ca ck cc,slice ra rk rc] 28)).alloc (cells #[.bool vs,slice vx vn vc,slice vy vm vd,slice vca vck vcc,slice vra vrk vrc] 28)) (w.heap.size+1) [.bool vs,slice vx vn vc,slice vy vm vd,slice vca vck vcc,slice vra vrk vrc] 28:=B2;go_enter func14,ntmps14;go_upto_region 1 with fail
 generalize(w.alloc (cells #[.bool s,slice x n c,slice y m d,slice ca ck cc,slice ra rk rc] 28)).alloc (cells #[.bool vs,slice vx vn vc,slice vy vm vd,slice vca vck vcc,slice vra vrk vrc] 28)=w1 at *;obtain⟨r0,r1,r2,r3,r4⟩:=bk5 B1;obtain⟨q0,q1,q2,q3,q4⟩:=bk5 B2;go_wp2_with fail
 refine(CO.out _ h3).mono ?_;rintro e w2 ⟨rfl,hb2⟩;have HW:=zk (h3.trans (hb2.mono h3.size));replace B1:=B1.q_ hb2;replace B2:=B2.q_ hb2
 clear hb2 h3 CO r0 r1 r2 r3 r4 q0 q1 q2 q3 q4;cases tO
 ·have HF:=zk (show an=false from by rw[HA.out];rfl);clear HA;go_wp2;go_ret;exact⟨by rw[HF.out];rfl,HW.out⟩
 obtain⟨r0,r1,r2,r3,r4⟩:=bk5 B1;obtain⟨q0,q1,q2,q3,q4⟩:=bk5 B2;by_cases h1:ck=vck
 case neg =>
  have HF:=zk (show an=false from by rw[HA.out,zca];simp[h1]);have e1:((ck:Int) != (vck:Int))=true:=by simp;omega
  clear HA;go_wp2;go_ret;exact⟨by rw[HF.out];rfl,HW.out⟩
 subst h1;have e1:((ck:Int) != (ck:Int))=false:=by simp
 by_cases h2:rk=vrk
 case neg =>
  have HF:=zk (show an=false from by rw[HA.out];simp[zca,h2]);have e2:((rk:Int) != (vrk:Int))=true:=by simp;omega
  clear HA;go_wp2;go_ret;exact⟨by rw[HF.out];rfl,HW.out⟩
 subst h2;have e2:((rk:Int) != (rk:Int))=false:=by simp
 replace HA:=zk (show an=(eqf scB C vC ck 0 && eqf srB R vR rk 0)from by rw[HA.out];simp[zca]);go_wp2_with fail
 go_loopw[38] (λt wr=>∃(i:Nat),i<=ck/\t=.int .i64 i/\Hid (Bl w2 wr)/\Hid (an=(eqf scB C vC (ck-i) i && eqf srB R vR rk 0))) (λt _=>ck-(intOf t).toNat)
 case atStart=>exact⟨0,by omega,rfl,Below.refl _ _,HA.out⟩
 case round =>
  obtain⟨i,hi,rfl,HB,HI⟩:=hrel;clear HA r0 r1 r2 r3 r4 q0 q1 q2 q3 q4;by_cases hlt:i<ck
  ·obtain⟨b,o,rfl,hc,hn⟩:=(HC.out.q_ (HW.out.trans (HB.out.mono HW.out.size))) i hlt;obtain⟨b',o',rfl,hc',hn'⟩:=(HC'.out.q_ (HW.out.trans (HB.out.mono HW.out.size))) i hlt;obtain⟨r,hr⟩:∃r,ck-i=r+1:=⟨ck-i-1,by omega⟩;have hr2:ck-(i+1)=r:=by omega
   obtain⟨t0,ht0⟩:∃t,sqB (C i).cost (vC i).cost=t:=⟨_,rfl⟩;have C0:=zk (λW (hW:Bl wr W)=>zek (w:=W) (hn.cost.q_ hW) (hn'.cost.q_ hW));rw[ht0]at C0
   obtain⟨t1,ht1⟩:∃t,sxB (C i).lo (vC i).lo=t:=⟨_,rfl⟩;have C1:=zk (λW (hW:Bl wr W)=>zdV (w:=W) (hn.lo.q_ hW) (hn'.lo.q_ hW));rw[ht1]at C1
   obtain⟨t2,ht2⟩:∃t,sxB (C i).hi (vC i).hi=t:=⟨_,rfl⟩;have C2:=zk (λW (hW:Bl wr W)=>zdV (w:=W) (hn.hi.q_ hW) (hn'.hi.q_ hW));rw[ht2]at C2
   have hT:an=((decide ((C i).nm=(vC i).nm) && (t0 && (t1 && t2))) && eqf scB C vC r (i+1) && eqf srB R vR rk 0):=by
    rw[HI.out,hr,<-ht0,<-ht1,<-ht2];rfl
   obtain⟨⟨z,⟨s0,x0,n0,c0,f0,y0,m0,d0,g0⟩,⟨i1,⟨s1,x1,n1,c1,f1,y1,m1,d1,g1⟩⟩,⟨i2,⟨s2,x2,n2,c2,f2,y2,m2,d2,g2⟩⟩⟩,hCi⟩:∃t,C i=t:=⟨_,rfl⟩;obtain⟨⟨vz,⟨vs0,vx0,vn0,vc0,vf0,vy0,vm0,vd0,vg0⟩,⟨vi1,⟨vs1,vx1,vn1,vc1,vf1,vy1,vm1,vd1,vg1⟩⟩,⟨vi2,⟨vs2,vx2,vn2,vc2,vf2,vy2,vm2,vd2,vg2⟩⟩⟩,hCi'⟩:∃t,vC i=t:=⟨_,rfl⟩;rw[hCi]at hc hT C0 C1 C2
   rw[hCi']at hc' hT C0 C1 C2
   replace hT:an=((decide (z=vz) && (t0 && (t1 && t2))) && eqf scB C vC r (i+1) && eqf srB R vR rk 0):=hT;replace C0:Hid (∀W (hW:Bl wr W),Calls prog 16 #[agg #[.bool s0,slice x0 n0 c0,slice y0 m0 d0],agg #[.bool vs0,slice vx0 vn0 vc0,slice vy0 vm0 vd0]] W λr w2=>r=returned (.bool t0)/\Bl W w2):=C0;replace C1:Hid (∀W (hW:Bl wr W),Calls prog 35 #[agg #[.int .i64 i1,.bool s1,slice x1 n1 c1,slice y1 m1 d1],agg #[.int .i64 vi1,.bool vs1,slice vx1 vn1 vc1,slice vy1 vm1 vd1]] W λr w2=>r=returned (.bool t1)/\Bl W w2):=C1;replace C2:Hid (∀W (hW:Bl wr W),Calls prog 35 #[agg #[.int .i64 i2,.bool s2,slice x2 n2 c2,slice y2 m2 d2],agg #[.int .i64 vi2,.bool vs2,slice vx2 vn2 vc2,slice vy2 vm2 vd2]] W λr w2=>r=returned (.bool t2)/\Bl W w2):=C2;obtain⟨p0,p1,p2,p3,p4,p5,p6,p7,p8,p9,p10,p11⟩:=hc.lc;have u0':wr.cell? ⟨b',o'+i*12,none⟩=some (.string vz):=hc' 0 _ rfl;have u1':wr.cell? ⟨b',o'+i*12+1,none⟩=some (.bool vs0):=hc' 1 _ rfl;have u2':wr.cell? ⟨b',o'+i*12+2,none⟩=some (slice vx0 vn0 vc0):=hc' 2 _ rfl;have u3':wr.cell? ⟨b',o'+i*12+3,none⟩=some (slice vy0 vm0 vd0):=hc' 3 _ rfl;have u4':wr.cell? ⟨b',o'+i*12+4,none⟩=some (.int .i64 vi1):=hc' 4 _ rfl;have u5':wr.cell? ⟨b',o'+i*12+5,none⟩=some (.bool vs1):=hc' 5 _ rfl;have u6':wr.cell? ⟨b',o'+i*12+6,none⟩=some (slice vx1 vn1 vc1):=hc' 6 _ rfl;have u7':wr.cell? ⟨b',o'+i*12+7,none⟩=some (slice vy1 vm1 vd1):=hc' 7 _ rfl;have u8':wr.cell? ⟨b',o'+i*12+8,none⟩=some (.int .i64 vi2):=hc' 8 _ rfl;have u9':wr.cell? ⟨b',o'+i*12+9,none⟩=some (.bool vs2):=hc' 9 _ rfl;have u10':wr.cell? ⟨b',o'+i*12+10,none⟩=some (slice vx2 vn2 vc2):=hc' 10 _ rfl;have u11':wr.cell? ⟨b',o'+i*12+11,none⟩=some (slice vy2 vm2 vd2):=hc' 11 _ rfl;have k9:=(B2.q_ HB.out).cell (j:=3) rfl;have hkl:=(B2.q_ HB.out).lt;have hcl:=block_lt_of_cell? wr _ u0';replace hcl:b'<wr.heap.size:=hcl;have k95:(wr.alloc (cells #[.string z,.bool s0,slice x0 n0 c0,slice y0 m0 d0,.int .i64 i1,.bool s1,slice x1 n1 c1,slice y1 m1 d1,.int .i64 i2,.bool s2,slice x2 n2 c2,slice y2 m2 d2] 59)).cell? ⟨w.heap.size+1,3,none⟩=some (slice (some ⟨b',o',none⟩) ck vcc):=kCa k9;have u05:(wr.alloc (cells #[.string z,.bool s0,slice x0 n0 c0,slice y0 m0 d0,.int .i64 i1,.bool s1,slice x1 n1 c1,slice y1 m1 d1,.int .i64 i2,.bool s2,slice x2 n2 c2,slice y2 m2 d2] 59)).cell? ⟨b',o'+i*12,none⟩=some (.string vz):=kCa u0';have u15:(wr.alloc (cells #[.string z,.bool s0,slice x0 n0 c0,slice y0 m0 d0,.int .i64 i1,.bool s1,slice x1 n1 c1,slice y1 m1 d1,.int .i64 i2,.bool s2,slice x2 n2 c2,slice y2 m2 d2] 59)).cell? ⟨b',o'+i*12+1,none⟩=some (.bool vs0):=kCa u1';have u25:(wr.alloc (cells #[.string z,.bool s0,slice x0 n0 c0,slice y0 m0 d0,.int .i64 i1,.bool s1,slice x1 n1 c1,slice y1 m1 d1,.int .i64 i2,.bool s2,slice x2 n2 c2,slice y2 m2 d2] 59)).cell? ⟨b',o'+i*12+2,none⟩=some (slice vx0 vn0 vc0):=kCa u2';have u35:(wr.alloc (cells #[.string z,.bool s0,slice x0 n0 c0,slice y0 m0 d0,.int .i64 i1,.bool s1,slice x1 n1 c1,slice y1 m1 d1,.int .i64 i2,.bool s2,slice x2 n2 c2,slice y2 m2 d2] 59)).cell? ⟨b',o'+i*12+3,none⟩=some (slice vy0 vm0 vd0):=kCa u3';have u45:(wr.alloc (cells #[.string z,.bool s0,slice x0 n0 c0,slice y0 m0 d0,.int .i64 i1,.bool s1,slice x1 n1 c1,slice y1 m1 d1,.int .i64 i2,.bool s2,slice x2 n2 c2,slice y2 m2 d2] 59)).cell? ⟨b',o'+i*12+4,none⟩=some (.int .i64 vi1):=kCa u4';have u55:(wr.alloc (cells #[.string z,.bool s0,slice x0 n0 c0,slice y0 m0 d0,.int .i64 i1,.bool s1,slice x1 n1 c1,slice y1 m1 d1,.int .i64 i2,.bool s2,slice x2 n2 c2,slice y2 m2 d2] 59)).cell? ⟨b',o'+i*12+5,none⟩=some (.bool vs1):=kCa u5';have u65:(wr.alloc (cells #[.string z,.bool s0,slice x0 n0 c0,slice y0 m0 d0,.int .i64 i1,.bool s1,slice x1 n1 c1,slice y1 m1 d1,.int .i64 i2,.bool s2,slice x2 n2 c2,slice y2 m2 d2] 59)).cell? ⟨b',o'+i*12+6,none⟩=some (slice vx1 vn1 vc1):=kCa u6';have u75:(wr.alloc (cells #[.string z,.bool s0,slice x0 n0 c0,slice y0 m0 d0,.int .i64 i1,.bool s1,slice x1 n1 c1,slice y1 m1 d1,.int .i64 i2,.bool s2,slice x2 n2 c2,slice y2 m2 d2] 59)).cell? ⟨b',o'+i*12+7,none⟩=some (slice vy1 vm1 vd1):=kCa u7';have u85:(wr.alloc (cells #[.string z,.bool s0,slice x0 n0 c0,slice y0 m0 d0,.int .i64 i1,.bool s1,slice x1 n1 c1,slice y1 m1 d1,.int .i64 i2,.bool s2,slice x2 n2 c2,slice y2 m2 d2] 59)).cell? ⟨b',o'+i*12+8,none⟩=some (.int .i64 vi2):=kCa u8';have u95:(wr.alloc (cells #[.string z,.bool s0,slice x0 n0 c0,slice y0 m0 d0,.int .i64 i1,.bool s1,slice x1 n1 c1,slice y1 m1 d1,.int .i64 i2,.bool s2,slice x2 n2 c2,slice y2 m2 d2] 59)).cell? ⟨b',o'+i*12+9,none⟩=some (.bool vs2):=kCa u9';have u105:(wr.alloc (cells #[.string z,.bool s0,slice x0 n0 c0,slice y0 m0 d0,.int .i64 i1,.bool s1,slice x1 n1 c1,slice y1 m1 d1,.int .i64 i2,.bool s2,slice x2 n2 c2,slice y2 m2 d2] 59)).cell? ⟨b',o'+i*12+10,none⟩=some (slice vx2 vn2 vc2):=kCa u10';have u115:(wr.alloc (cells #[.string z,.bool s0,slice x0 n0 c0,slice y0 m0 d0,.int .i64 i1,.bool s1,slice x1 n1 c1,slice y1 m1 d1,.int .i64 i2,.bool s2,slice x2 n2 c2,slice y2 m2 d2] 59)).cell? ⟨b',o'+i*12+11,none⟩=some (slice vy2 vm2 vd2):=kCa u11';have i1':((i:Nat):Int)<((ck:Nat):Int):=by omega
   have HRR:=zk hr2;have HT:=zk hT;clear hCi hCi' hc hc' hn hn' hr hr2 hT HI ht0 ht1 ht2;go_upto_region 7 with fail
   have h5:=zu (zu (Below.refl wr.heap.size wr) (cells #[.string z,.bool s0,slice x0 n0 c0,slice y0 m0 d0,.int .i64 i1,.bool s1,slice x1 n1 c1,slice y1 m1 d1,.int .i64 i2,.bool s2,slice x2 n2 c2,slice y2 m2 d2] 59)) (cells #[.string vz,.bool vs0,slice vx0 vn0 vc0,slice vy0 vm0 vd0,.int .i64 vi1,.bool vs1,slice vx1 vn1 vc1,slice vy1 vm1 vd1,.int .i64 vi2,.bool vs2,slice vx2 vn2 vc2,slice vy2 vm2 vd2] 59);have D1:=(zJ wr [.string z,.bool s0,slice x0 n0 c0,slice y0 m0 d0,.int .i64 i1,.bool s1,slice x1 n1 c1,slice y1 m1 d1,.int .i64 i2,.bool s2,slice x2 n2 c2,slice y2 m2 d2] 59).q_ (zu (Below.refl _ _) (cells #[.string vz,.bool vs0,slice vx0 vn0 vc0,slice vy0 vm0 vd0,.int .i64 vi1,.bool vs1,slice vx1 vn1 vc1,slice vy1 vm1 vd1,.int .i64 vi2,.bool vs2,slice vx2 vn2 vc2,slice vy2 vm2 vd2] 59));have D2:=zJ (wr.alloc (cells #[.string z,.bool s0,slice x0 n0 c0,slice y0 m0 d0,.int .i64 i1,.bool s1,slice x1 n1 c1,slice y1 m1 d1,.int .i64 i2,.bool s2,slice x2 n2 c2,slice y2 m2 d2] 59)) [.string vz,.bool vs0,slice vx0 vn0 vc0,slice vy0 vm0 vd0,.int .i64 vi1,.bool vs1,slice vx1 vn1 vc1,slice vy1 vm1 vd1,.int .i64 vi2,.bool vs2,slice vx2 vn2 vc2,slice vy2 vm2 vd2] 59;rw[zz]at D2
   replace D1:Bk ((wr.alloc (cells #[.string z,.bool s0,slice x0 n0 c0,slice y0 m0 d0,.int .i64 i1,.bool s1,slice x1 n1 c1,slice y1 m1 d1,.int .i64 i2,.bool s2,slice x2 n2 c2,slice y2 m2 d2] 59)).alloc (cells #[.string vz,.bool vs0,slice vx0 vn0 vc0,slice vy0 vm0 vd0,.int .i64 vi1,.bool vs1,slice vx1 vn1 vc1,slice vy1 vm1 vd1,.int .i64 vi2,.bool vs2,slice vx2 vn2 vc2,slice vy2 vm2 vd2] 59)) wr.heap.size [.string z,.bool s0,slice x0 n0 c0,slice y0 m0 d0,.int .i64 i1,.bool s1,slice x1 n1 c1,slice y1 m1 d1,.int .i64 i2,.bool s2,slice x2 n2 c2,slice y2 m2 d2] 59:=D1;replace D2:Bk ((wr.alloc (cells #[.string z,.bool s0,slice x0 n0 c0,slice y0 m0 d0,.int .i64 i1,.bool s1,slice x1 n1 c1,slice y1 m1 d1,.int .i64 i2,.bool s2,slice x2 n2 c2,slice y2 m2 d2] 59)).alloc (cells #[.string vz,.bool vs0,slice vx0 vn0 vc0,slice vy0 vm0 vd0,.int .i64 vi1,.bool vs1,slice vx1 vn1 vc1,slice vy1 vm1 vd1,.int .i64 vi2,.bool vs2,slice vx2 vn2 vc2,slice vy2 vm2 vd2] 59)) (wr.heap.size+1) [.string vz,.bool vs0,slice vx0 vn0 vc0,slice vy0 vm0 vd0,.int .i64 vi1,.bool vs1,slice vx1 vn1 vc1,slice vy1 vm1 vd1,.int .i64 vi2,.bool vs2,slice vx2 vn2 vc2,slice vy2 vm2 vd2] 59:=D2;clear p0 p1 p2 p3 p4 p5 p6 p7 p8 p9 p10 p11 u0' u1' u2' u3' u4' u5' u6' u7' u8' u9' u10' u11' u05 u15 u25 u35 u45 u55 u65 u75 u85 u95 u105 u115 k9 k95;generalize(wr.alloc (cells #[.string z,.bool s0,slice x0 n0 c0,slice y0 m0 d0,.int .i64 i1,.bool s1,slice x1 n1 c1,slice y1 m1 d1,.int .i64 i2,.bool s2,slice x2 n2 c2,slice y2 m2 d2] 59)).alloc (cells #[.string vz,.bool vs0,slice vx0 vn0 vc0,slice vy0 vm0 vd0,.int .i64 vi1,.bool vs1,slice vx1 vn1 vc1,slice vy1 vm1 vd1,.int .i64 vi2,.bool vs2,slice vx2 vn2 vc2,slice vy2 vm2 vd2] 59)=w5 at *;obtain⟨a0,a1,a2,a3,a4,a5,a6,a7,a8,a9,a10,a11⟩:=zfg D1;obtain⟨b0,b1,b2,b3,b4,b5,b6,b7,b8,b9,b10,b11⟩:=zfg D2;by_cases hz:z=vz
   case neg =>
    have hne:=zfT hz;have HF:=zk (show an=false from by rw[HT.out];simp[hz]);go_wp2;go_ret;exact⟨by rw[HF.out];rfl,HW.out.trans ((HB.out.trans ((h5).mono HB.out.size)).mono HW.out.size)⟩
   subst hz;replace HT:=zk (show an=((t0 && (t1 && t2)) && eqf scB C vC r (i+1) && eqf srB R vR rk 0)from by rw[HT.out];simp);go_wp2_with fail
   refine(C0.out _ h5).mono ?_;rintro e w6 ⟨rfl,hb6⟩;have h51:=zk (h5.trans (hb6.mono h5.size));replace D1:=D1.q_ hb6;replace D2:=D2.q_ hb6
   clear a0 a1 a2 a3 a4 a5 a6 a7 a8 a9 a10 a11 b0 b1 b2 b3 b4 b5 b6 b7 b8 b9 b10 b11 C0 hb6;cases t0
   ·have HF:=zk (show an=false from by rw[HT.out];simp);go_wp2;go_ret;exact⟨by rw[HF.out];rfl,HW.out.trans ((HB.out.trans ((h51.out).mono HB.out.size)).mono HW.out.size)⟩
   obtain⟨a0,a1,a2,a3,a4,a5,a6,a7,a8,a9,a10,a11⟩:=zfg D1;obtain⟨b0,b1,b2,b3,b4,b5,b6,b7,b8,b9,b10,b11⟩:=zfg D2;go_wp2_with fail
   refine(C1.out _ h51.out).mono ?_;rintro e w7 ⟨rfl,hb7⟩;have h52:=zk (h51.out.trans (hb7.mono h51.out.size));replace D1:=D1.q_ hb7;replace D2:=D2.q_ hb7
   clear a0 a1 a2 a3 a4 a5 a6 a7 a8 a9 a10 a11 b0 b1 b2 b3 b4 b5 b6 b7 b8 b9 b10 b11 C1 hb7;cases t1
   ·have HF:=zk (show an=false from by rw[HT.out];simp);go_wp2;go_ret;exact⟨by rw[HF.out];rfl,HW.out.trans ((HB.out.trans ((h52.out).mono HB.out.size)).mono HW.out.size)⟩
   obtain⟨a0,a1,a2,a3,a4,a5,a6,a7,a8,a9,a10,a11⟩:=zfg D1;obtain⟨b0,b1,b2,b3,b4,b5,b6,b7,b8,b9,b10,b11⟩:=zfg D2;go_wp2_with fail
   refine(C2.out _ h52.out).mono ?_;rintro e w8 ⟨rfl,hb8⟩;have h53:=zk (h52.out.trans (hb8.mono h52.out.size));replace D1:=D1.q_ hb8;replace D2:=D2.q_ hb8
   clear a0 a1 a2 a3 a4 a5 a6 a7 a8 a9 a10 a11 b0 b1 b2 b3 b4 b5 b6 b7 b8 b9 b10 b11 C2 hb8;cases t2
   ·have HF:=zk (show an=false from by rw[HT.out];simp);go_wp2;go_ret;exact⟨by rw[HF.out];rfl,HW.out.trans ((HB.out.trans ((h53.out).mono HB.out.size)).mono HW.out.size)⟩
   have HB9:=zk (HB.out.trans (h53.out.mono HB.out.size));go_wp2;go_roundw
   case rel=>exact⟨i+1,by omega,by go_num,HB9.out,by show _=_;rw[HT.out,HRR.out];simp⟩
   case measure=>simp[intOf];omega
  ·have e3:i=ck:=by omega
   have i2:¬(((i:Nat):Int)<((ck:Nat):Int)):=by omega
   have HA2:=zk (show an=eqf srB R vR rk 0 from by rw[HI.out,e3,Nat.sub_self];rfl);have HW2:=zk (HW.out.trans (HB.out.mono HW.out.size));replace B1:=B1.q_ HB.out;replace B2:=B2.q_ HB.out
   clear e3 HI HB HC HC';obtain⟨r0,r1,r2,r3,r4⟩:=bk5 B1;obtain⟨q0,q1,q2,q3,q4⟩:=bk5 B2;generalize wr=wa at *;go_wp2_with fail
   go_loopw[81] (λt wr=>∃(i:Nat),i<=rk/\t=.int .i64 i/\Hid (Bl wa wr)/\Hid (an=eqf srB R vR (rk-i) i)) (λt _=>rk-(intOf t).toNat)
   case atStart=>exact⟨0,by omega,rfl,Below.refl _ _,HA2.out⟩
   case round =>
    obtain⟨i,hi,rfl,HB,HI⟩:=hrel;clear HA2 r0 r1 r2 r3 r4 q0 q1 q2 q3 q4;by_cases hlt:i<rk
    ·obtain⟨b,o,rfl,hc,hn⟩:=(HR.out.q_ (HW2.out.trans (HB.out.mono HW2.out.size))) i hlt;obtain⟨b',o',rfl,hc',hn'⟩:=(HR'.out.q_ (HW2.out.trans (HB.out.mono HW2.out.size))) i hlt;obtain⟨r,hr⟩:∃r,rk-i=r+1:=⟨rk-i-1,by omega⟩;have hr2:rk-(i+1)=r:=by omega
     obtain⟨t0,ht0⟩:∃t,sxB (R i).lo (vR i).lo=t:=⟨_,rfl⟩;have C0:=zk (λW (hW:Bl wr W)=>zdV (w:=W) (hn.lo.q_ hW) (hn'.lo.q_ hW));rw[ht0]at C0
     obtain⟨t1,ht1⟩:∃t,sxB (R i).hi (vR i).hi=t:=⟨_,rfl⟩;have C1:=zk (λW (hW:Bl wr W)=>zdV (w:=W) (hn.hi.q_ hW) (hn'.hi.q_ hW));rw[ht1]at C1
     obtain⟨t2,ht2⟩:∃t,zca sxB (R i).tk (vR i).tk (tex (R i).col (R i).T) (tex (vR i).col (vR i).T)=t:=⟨_,rfl⟩;have C2:=zk (λW (hW:Bl wr W)=>znh (w:=W) (ca:=(R i).tc) (cb:=(vR i).tc) (hn.tr.q_ hW) hn.tn (hn'.tr.q_ hW) hn'.tn hn.tk hn'.tk);rw[ht2]at C2
     have hT:an=((decide ((R i).nm=(vR i).nm) && (t0 && (t1 && t2))) && eqf srB R vR r (i+1)):=by
      rw[HI.out,hr,<-ht0,<-ht1,<-ht2];rfl
     obtain⟨⟨z,⟨i1,⟨s1,x1,n1,c1,f1,y1,m1,d1,g1⟩⟩,⟨i2,⟨s2,x2,n2,c2,f2,y2,m2,d2,g2⟩⟩,ta,tk,tc,tcol,tt⟩,hCi⟩:∃t,R i=t:=⟨_,rfl⟩;obtain⟨⟨vz,⟨vi1,⟨vs1,vx1,vn1,vc1,vf1,vy1,vm1,vd1,vg1⟩⟩,⟨vi2,⟨vs2,vx2,vn2,vc2,vf2,vy2,vm2,vd2,vg2⟩⟩,vta,vtk,vtc,vtcol,vtt⟩,hCi'⟩:∃t,vR i=t:=⟨_,rfl⟩;rw[hCi]at hc hT C0 C1 C2
     rw[hCi']at hc' hT C0 C1 C2
     replace hT:an=((decide (z=vz) && (t0 && (t1 && t2))) && eqf srB R vR r (i+1)):=hT;replace C0:Hid (∀W (hW:Bl wr W),Calls prog 35 #[agg #[.int .i64 i1,.bool s1,slice x1 n1 c1,slice y1 m1 d1],agg #[.int .i64 vi1,.bool vs1,slice vx1 vn1 vc1,slice vy1 vm1 vd1]] W λr w2=>r=returned (.bool t0)/\Bl W w2):=C0;replace C1:Hid (∀W (hW:Bl wr W),Calls prog 35 #[agg #[.int .i64 i2,.bool s2,slice x2 n2 c2,slice y2 m2 d2],agg #[.int .i64 vi2,.bool vs2,slice vx2 vn2 vc2,slice vy2 vm2 vd2]] W λr w2=>r=returned (.bool t1)/\Bl W w2):=C1;replace C2:Hid (∀W (hW:Bl wr W),Calls prog 36 #[slice ta tk tc,slice vta vtk vtc] W λr w2=>r=returned (.bool t2)/\Bl W w2):=C2;obtain⟨p0,p1,p2,p3,p4,p5,p6,p7,p8,p9⟩:=hc.lr;have u0':wr.cell? ⟨b',o'+i*10,none⟩=some (.string vz):=hc' 0 _ rfl;have u1':wr.cell? ⟨b',o'+i*10+1,none⟩=some (.int .i64 vi1):=hc' 1 _ rfl;have u2':wr.cell? ⟨b',o'+i*10+2,none⟩=some (.bool vs1):=hc' 2 _ rfl;have u3':wr.cell? ⟨b',o'+i*10+3,none⟩=some (slice vx1 vn1 vc1):=hc' 3 _ rfl;have u4':wr.cell? ⟨b',o'+i*10+4,none⟩=some (slice vy1 vm1 vd1):=hc' 4 _ rfl;have u5':wr.cell? ⟨b',o'+i*10+5,none⟩=some (.int .i64 vi2):=hc' 5 _ rfl;have u6':wr.cell? ⟨b',o'+i*10+6,none⟩=some (.bool vs2):=hc' 6 _ rfl;have u7':wr.cell? ⟨b',o'+i*10+7,none⟩=some (slice vx2 vn2 vc2):=hc' 7 _ rfl;have u8':wr.cell? ⟨b',o'+i*10+8,none⟩=some (slice vy2 vm2 vd2):=hc' 8 _ rfl;have u9':wr.cell? ⟨b',o'+i*10+9,none⟩=some (slice vta vtk vtc):=hc' 9 _ rfl;have k9:=(B2.q_ HB.out).cell (j:=4) rfl;have hkl:=(B2.q_ HB.out).lt;have hcl:=block_lt_of_cell? wr _ u0';replace hcl:b'<wr.heap.size:=hcl;have k95:(wr.alloc (cells #[.string z,.int .i64 i1,.bool s1,slice x1 n1 c1,slice y1 m1 d1,.int .i64 i2,.bool s2,slice x2 n2 c2,slice y2 m2 d2,slice ta tk tc] 62)).cell? ⟨w.heap.size+1,4,none⟩=some (slice (some ⟨b',o',none⟩) rk vrc):=kCa k9;have u05:(wr.alloc (cells #[.string z,.int .i64 i1,.bool s1,slice x1 n1 c1,slice y1 m1 d1,.int .i64 i2,.bool s2,slice x2 n2 c2,slice y2 m2 d2,slice ta tk tc] 62)).cell? ⟨b',o'+i*10,none⟩=some (.string vz):=kCa u0';have u15:(wr.alloc (cells #[.string z,.int .i64 i1,.bool s1,slice x1 n1 c1,slice y1 m1 d1,.int .i64 i2,.bool s2,slice x2 n2 c2,slice y2 m2 d2,slice ta tk tc] 62)).cell? ⟨b',o'+i*10+1,none⟩=some (.int .i64 vi1):=kCa u1';have u25:(wr.alloc (cells #[.string z,.int .i64 i1,.bool s1,slice x1 n1 c1,slice y1 m1 d1,.int .i64 i2,.bool s2,slice x2 n2 c2,slice y2 m2 d2,slice ta tk tc] 62)).cell? ⟨b',o'+i*10+2,none⟩=some (.bool vs1):=kCa u2';have u35:(wr.alloc (cells #[.string z,.int .i64 i1,.bool s1,slice x1 n1 c1,slice y1 m1 d1,.int .i64 i2,.bool s2,slice x2 n2 c2,slice y2 m2 d2,slice ta tk tc] 62)).cell? ⟨b',o'+i*10+3,none⟩=some (slice vx1 vn1 vc1):=kCa u3';have u45:(wr.alloc (cells #[.string z,.int .i64 i1,.bool s1,slice x1 n1 c1,slice y1 m1 d1,.int .i64 i2,.bool s2,slice x2 n2 c2,slice y2 m2 d2,slice ta tk tc] 62)).cell? ⟨b',o'+i*10+4,none⟩=some (slice vy1 vm1 vd1):=kCa u4';have u55:(wr.alloc (cells #[.string z,.int .i64 i1,.bool s1,slice x1 n1 c1,slice y1 m1 d1,.int .i64 i2,.bool s2,slice x2 n2 c2,slice y2 m2 d2,slice ta tk tc] 62)).cell? ⟨b',o'+i*10+5,none⟩=some (.int .i64 vi2):=kCa u5';have u65:(wr.alloc (cells #[.string z,.int .i64 i1,.bool s1,slice x1 n1 c1,slice y1 m1 d1,.int .i64 i2,.bool s2,slice x2 n2 c2,slice y2 m2 d2,slice ta tk tc] 62)).cell? ⟨b',o'+i*10+6,none⟩=some (.bool vs2):=kCa u6';have u75:(wr.alloc (cells #[.string z,.int .i64 i1,.bool s1,slice x1 n1 c1,slice y1 m1 d1,.int .i64 i2,.bool s2,slice x2 n2 c2,slice y2 m2 d2,slice ta tk tc] 62)).cell? ⟨b',o'+i*10+7,none⟩=some (slice vx2 vn2 vc2):=kCa u7';have u85:(wr.alloc (cells #[.string z,.int .i64 i1,.bool s1,slice x1 n1 c1,slice y1 m1 d1,.int .i64 i2,.bool s2,slice x2 n2 c2,slice y2 m2 d2,slice ta tk tc] 62)).cell? ⟨b',o'+i*10+8,none⟩=some (slice vy2 vm2 vd2):=kCa u8';have u95:(wr.alloc (cells #[.string z,.int .i64 i1,.bool s1,slice x1 n1 c1,slice y1 m1 d1,.int .i64 i2,.bool s2,slice x2 n2 c2,slice y2 m2 d2,slice ta tk tc] 62)).cell? ⟨b',o'+i*10+9,none⟩=some (slice vta vtk vtc):=kCa u9';have i1':((i:Nat):Int)<((rk:Nat):Int):=by omega
     have HRR:=zk hr2;have HT:=zk hT;clear hCi hCi' hc hc' hn hn' hr hr2 hT HI ht0 ht1 ht2;go_upto_region 14 with fail
     have h5:=zu (zu (Below.refl wr.heap.size wr) (cells #[.string z,.int .i64 i1,.bool s1,slice x1 n1 c1,slice y1 m1 d1,.int .i64 i2,.bool s2,slice x2 n2 c2,slice y2 m2 d2,slice ta tk tc] 62)) (cells #[.string vz,.int .i64 vi1,.bool vs1,slice vx1 vn1 vc1,slice vy1 vm1 vd1,.int .i64 vi2,.bool vs2,slice vx2 vn2 vc2,slice vy2 vm2 vd2,slice vta vtk vtc] 62);have D1:=(zJ wr [.string z,.int .i64 i1,.bool s1,slice x1 n1 c1,slice y1 m1 d1,.int .i64 i2,.bool s2,slice x2 n2 c2,slice y2 m2 d2,slice ta tk tc] 62).q_ (zu (Below.refl _ _) (cells #[.string vz,.int .i64 vi1,.bool vs1,slice vx1 vn1 vc1,slice vy1 vm1 vd1,.int .i64 vi2,.bool vs2,slice vx2 vn2 vc2,slice vy2 vm2 vd2,slice vta vtk vtc] 62));have D2:=zJ (wr.alloc (cells #[.string z,.int .i64 i1,.bool s1,slice x1 n1 c1,slice y1 m1 d1,.int .i64 i2,.bool s2,slice x2 n2 c2,slice y2 m2 d2,slice ta tk tc] 62)) [.string vz,.int .i64 vi1,.bool vs1,slice vx1 vn1 vc1,slice vy1 vm1 vd1,.int .i64 vi2,.bool vs2,slice vx2 vn2 vc2,slice vy2 vm2 vd2,slice vta vtk vtc] 62;rw[zz]at D2
     replace D1:Bk ((wr.alloc (cells #[.string z,.int .i64 i1,.bool s1,slice x1 n1 c1,slice y1 m1 d1,.int .i64 i2,.bool s2,slice x2 n2 c2,slice y2 m2 d2,slice ta tk tc] 62)).alloc (cells #[.string vz,.int .i64 vi1,.bool vs1,slice vx1 vn1 vc1,slice vy1 vm1 vd1,.int .i64 vi2,.bool vs2,slice vx2 vn2 vc2,slice vy2 vm2 vd2,slice vta vtk vtc] 62)) wr.heap.size [.string z,.int .i64 i1,.bool s1,slice x1 n1 c1,slice y1 m1 d1,.int .i64 i2,.bool s2,slice x2 n2 c2,slice y2 m2 d2,slice ta tk tc] 62:=D1;replace D2:Bk ((wr.alloc (cells #[.string z,.int .i64 i1,.bool s1,slice x1 n1 c1,slice y1 m1 d1,.int .i64 i2,.bool s2,slice x2 n2 c2,slice y2 m2 d2,slice ta tk tc] 62)).alloc (cells #[.string vz,.int .i64 vi1,.bool vs1,slice vx1 vn1 vc1,slice vy1 vm1 vd1,.int .i64 vi2,.bool vs2,slice vx2 vn2 vc2,slice vy2 vm2 vd2,slice vta vtk vtc] 62)) (wr.heap.size+1) [.string vz,.int .i64 vi1,.bool vs1,slice vx1 vn1 vc1,slice vy1 vm1 vd1,.int .i64 vi2,.bool vs2,slice vx2 vn2 vc2,slice vy2 vm2 vd2,slice vta vtk vtc] 62:=D2;clear p0 p1 p2 p3 p4 p5 p6 p7 p8 p9 u0' u1' u2' u3' u4' u5' u6' u7' u8' u9' u05 u15 u25 u35 u45 u55 u65 u75 u85 u95 k9 k95;generalize(wr.alloc (cells #[.string z,.int .i64 i1,.bool s1,slice x1 n1 c1,slice y1 m1 d1,.int .i64 i2,.bool s2,slice x2 n2 c2,slice y2 m2 d2,slice ta tk tc] 62)).alloc (cells #[.string vz,.int .i64 vi1,.bool vs1,slice vx1 vn1 vc1,slice vy1 vm1 vd1,.int .i64 vi2,.bool vs2,slice vx2 vn2 vc2,slice vy2 vm2 vd2,slice vta vtk vtc] 62)=w5 at *;obtain⟨a0,a1,a2,a3,a4,a5,a6,a7,a8,a9⟩:=zdH D1;obtain⟨b0,b1,b2,b3,b4,b5,b6,b7,b8,b9⟩:=zdH D2;by_cases hz:z=vz
     case neg =>
      have hne:=zfT hz;have HF:=zk (show an=false from by rw[HT.out];simp[hz]);go_wp2;go_ret;exact⟨by rw[HF.out];rfl,HW2.out.trans ((HB.out.trans ((h5).mono HB.out.size)).mono HW2.out.size)⟩
     subst hz;replace HT:=zk (show an=((t0 && (t1 && t2)) && eqf srB R vR r (i+1))from by rw[HT.out];simp);go_wp2_with fail
     refine(C0.out _ h5).mono ?_;rintro e w6 ⟨rfl,hb6⟩;have h51:=zk (h5.trans (hb6.mono h5.size));replace D1:=D1.q_ hb6;replace D2:=D2.q_ hb6
     clear a0 a1 a2 a3 a4 a5 a6 a7 a8 a9 b0 b1 b2 b3 b4 b5 b6 b7 b8 b9 C0 hb6;cases t0
     ·have HF:=zk (show an=false from by rw[HT.out];simp);go_wp2;go_ret;exact⟨by rw[HF.out];rfl,HW2.out.trans ((HB.out.trans ((h51.out).mono HB.out.size)).mono HW2.out.size)⟩
     obtain⟨a0,a1,a2,a3,a4,a5,a6,a7,a8,a9⟩:=zdH D1;obtain⟨b0,b1,b2,b3,b4,b5,b6,b7,b8,b9⟩:=zdH D2;go_wp2_with fail
     refine(C1.out _ h51.out).mono ?_;rintro e w7 ⟨rfl,hb7⟩;have h52:=zk (h51.out.trans (hb7.mono h51.out.size));replace D1:=D1.q_ hb7;replace D2:=D2.q_ hb7
     clear a0 a1 a2 a3 a4 a5 a6 a7 a8 a9 b0 b1 b2 b3 b4 b5 b6 b7 b8 b9 C1 hb7;cases t1
     ·have HF:=zk (show an=false from by rw[HT.out];simp);go_wp2;go_ret;exact⟨by rw[HF.out];rfl,HW2.out.trans ((HB.out.trans ((h52.out).mono HB.out.size)).mono HW2.out.size)⟩
     obtain⟨a0,a1,a2,a3,a4,a5,a6,a7,a8,a9⟩:=zdH D1;obtain⟨b0,b1,b2,b3,b4,b5,b6,b7,b8,b9⟩:=zdH D2;go_wp2_with fail
     refine(C2.out _ h52.out).mono ?_;rintro e w8 ⟨rfl,hb8⟩;have h53:=zk (h52.out.trans (hb8.mono h52.out.size));replace D1:=D1.q_ hb8;replace D2:=D2.q_ hb8
     clear a0 a1 a2 a3 a4 a5 a6 a7 a8 a9 b0 b1 b2 b3 b4 b5 b6 b7 b8 b9 C2 hb8;cases t2
     ·have HF:=zk (show an=false from by rw[HT.out];simp);go_wp2;go_ret;exact⟨by rw[HF.out];rfl,HW2.out.trans ((HB.out.trans ((h53.out).mono HB.out.size)).mono HW2.out.size)⟩
     have HB9:=zk (HB.out.trans (h53.out.mono HB.out.size));go_wp2;go_roundw
     case rel=>exact⟨i+1,by omega,by go_num,HB9.out,by show _=_;rw[HT.out,HRR.out];simp⟩
     case measure=>simp[intOf];omega
    ·have e3:i=rk:=by omega
     have i2:¬(((i:Nat):Int)<((rk:Nat):Int)):=by omega
     have HT:=zk (show an=true from by rw[HI.out,e3,Nat.sub_self];rfl);have HW3:=zk (HW2.out.trans (HB.out.mono HW2.out.size));clear e3 HI HB;go_wp2;go_ret;exact⟨by rw[HT.out];rfl,HW3.out⟩
def KW (L:Nat):Nat:=4*L+2*KE L+3
def GN (K:Nat) (q:Rat) (v:Value) (w:World):Prop:=∃t:Nm,v=t.val/\NmV K w t q
def GTm (K:Nat) (z:Int) (q:Rat) (v:Value) (w:World):Prop:=∃t:Nm,v=agg #[.int .i64 z,.bool t.s,slice t.x t.n t.c,slice t.y t.m t.d]/\NmV K w t q
def GT2 (K:Nat) (z0:Int) (q0:Rat) (z1:Int) (q1:Rat) (v:Value) (w:World):Prop:=∃b,∃t0 t1:Nm,v=slice (some ⟨b,0,none⟩) 2 2/\(∀p z t,[(z0,t0),(z1,t1)][p]?=some (z,t)->C4 w b (0+p*4) (.int .i64 z) (.bool t.s) (slice t.x t.n t.c) (slice t.y t.m t.d))/\NmV K w t0 q0/\NmV K w t1 q1
def GR1 (L:Nat) (c0:RV) (v:Value) (w:World):Prop:=∃b x0,v=slice (some ⟨b,0,none⟩) 1 1/\Cs w b 0 x0.vs/\RowV L w x0 c0
theorem GN.q_ {K q v w w'} (h:GN K q v w) (hb:Bl w w'):GN K q v w':=by obtain⟨t,h1,h2⟩:=h;exact⟨t,h1,Rn.q_ h2 hb⟩
theorem GTm.q_ {K z q v w w'} (h:GTm K z q v w) (hb:Bl w w'):GTm K z q v w':=by obtain⟨t,h1,h2⟩:=h;exact⟨t,h1,Rn.q_ h2 hb⟩
theorem GT2.q_ {K z0 q0 z1 q1 v w w'} (h:GT2 K z0 q0 z1 q1 v w) (hb:Bl w w'):GT2 K z0 q0 z1 q1 v w':=by obtain⟨b,t0,t1,h1,h2,h3,h4⟩:=h;exact⟨b,t0,t1,h1,λp z t e=>(h2 p z t e).q_ hb,Rn.q_ h3 hb,Rn.q_ h4 hb⟩
theorem GR1.q_ {L c0 v w w'} (h:GR1 L c0 v w) (hb:Bl w w'):GR1 L c0 v w':=by obtain⟨b,x0,h1,h2,h3⟩:=h;exact⟨b,x0,h1,h2.q_ hb,h3.q_ hb⟩
def f0C:List CV:=[⟨⟨#[120]⟩,3,0,0,1,0⟩,⟨⟨#[121]⟩,0,-1,0,1,0⟩]
def f0R:List RV:=[⟨⟨#[114]⟩,0,1,0,5,[(0,1),(1,2)]⟩]
theorem zgg {w z} (h0:-1000<=z) (h1:z<=1000):Calls prog 40 #[.int .i64 z] w λe w'=>∃v,e=returned v/\Bl w w'/\GX 8 0 (z:Rat) v w':=by
 have HB:=zk (zF w (cells #[.int .i64 0,.bool false,slice none 0 0,slice none 0 0] 57));have BR:=zk (zJ w [.int .i64 0,.bool false,slice none 0 0,slice none 0 0] 57);go_enter func40,ntmps40;go_wp2_with fail
 generalize w.alloc (cells #[.int .i64 0,.bool false,slice none 0 0,slice none 0 0] 57)=w0 at *;refine(zaz (z:=z) (by omega) (by omega)).mono ?_;rintro e w1 ⟨s,x,n,c,f,y,m,d,g,rfl,hb,hr⟩;replace HB:=zP HB hb;replace BR:=zk (BR.out.q_ hb)
 obtain⟨hx1,hx2,hx3⟩:=zpj [.int .i64 0,.bool s,slice x n c,slice y m d] BR.out (zab (λu hu q=>by simp at hu;rcases hu with rfl|rfl|rfl|rfl <;> simp)) HB.out (le_refl _);obtain⟨l0,l1,l2,l3⟩:=bk4 BR.out;have ff:=BR.out.frozen;have HX:Hid (Bl w (stl w.heap.size 0 [.int .i64 0,.bool s,slice x n c,slice y m d] w1)/\GX 8 0 (z:Rat) (agg #[.int .i64 0,.bool s,slice x n c,slice y m d]) (stl w.heap.size 0 [.int .i64 0,.bool s,slice x n c,slice y m d] w1)):=⟨hx1,⟨0,⟨s,x,n,c,f,y,m,d,g⟩⟩,rfl,rfl,(Rn.kp hr hx2).mono (by decide)⟩;clear hx1 hx2 hx3 hb hr HB;go_wp2;exact bodyPost_ret (v:=agg #[.int .i64 0,.bool s,slice x n c,slice y m d]) (by simp[results,results40,go_sem,l0,l1,l2,l3]) rfl ⟨_,rfl,HX.out⟩
theorem zec {w a b} (h0:-1000<=a) (h1:a<=1000) (h2:-1000<=b) (h3:b<=1000):Calls prog 18 #[.int .i64 a,.int .i64 b] w λe w'=>∃ad,e=returned (slice ad 2 2)/\Bl w w'/\Hid (Rf 8 w' ad [(a:Rat),(b:Rat)]):=by
 go_enter func18,ntmps18;go_wp2_with fail
 refine(zaz (z:=a) (by omega) (by omega)).mono ?_;rintro e w1 ⟨s1,x1,n1,c1,f1,y1,m1,d1,g1,rfl,hb1,hr1⟩;have HR1:=zk hr1;have HB1:=zk hb1
 clear hr1 hb1;go_wp2_with fail
 refine(zaz (z:=b) (by omega) (by omega)).mono ?_;rintro e w2 ⟨s2,x2,n2,c2,f2,y2,m2,d2,g2,rfl,hb2,hr2⟩;have HR:=zk (show Rf 8 (w2.alloc (cells #[.bool s1,slice x1 n1 c1,slice y1 m1 d1,.bool s2,slice x2 n2 c2,slice y2 m2 d2] 24)) (some ⟨w2.heap.size,0,none⟩) [(a:Rat),(b:Rat)]from zpn ((HR1.out.q_ hb2).mono (by decide)) (hr2.mono (by decide)));have HB:=zk (zu (bUp HB1.out hb2) (cells #[.bool s1,slice x1 n1 c1,slice y1 m1 d1,.bool s2,slice x2 n2 c2,slice y2 m2 d2] 24));clear HR1 HB1 hb2 hr2;go_wp2;go_ret;exact⟨_,rfl,HB.out,HR.out⟩
theorem first10_c {w}:Calls prog 17 #[] w λe w'=>∃M:Mo,e=returned M.val/\Bl w w'/\Hid (MoV 8 w' M 1 f0C f0R):=by
 generalize hP:(λ(e:Ending) (w':World)=>∃M:Mo,e=returned M.val/\Bl w w'/\Hid (MoV 8 w' M 1 f0C f0R))=P;have HA:Hid (∀w' (M:Mo),Bl w w'->MoV 8 w' M 1 f0C f0R->P (returned M.val) w'):=by subst hP;exact λw' M h1 h2=>⟨M,rfl,h1,h2⟩
 clear hP;have HB:=zk (zF w (cells #[.bool false,slice none 0 0,slice none 0 0,slice none 0 0,slice none 0 0] 28));have O0:=zk (zJ w [.bool false,slice none 0 0,slice none 0 0,slice none 0 0,slice none 0 0] 28);go_enter func17,ntmps17;go_wp2_with fail
 generalize w.alloc (cells #[.bool false,slice none 0 0,slice none 0 0,slice none 0 0,slice none 0 0] 28)=w0 at *;refine(znc).mono ?_;rintro e w1 ⟨s1,x1,n1,c1,f1,y1,m1,d1,g1,rfl,hb,hF⟩;replace HB:=zP HB hb;replace O0:=zk (O0.out.q_ hb)
 clear hb;go_wp2_with fail
 refine(zox hF.out.2.2 (by have:=hF.out;omega) (by have:=hF.out;omega)).mono ?_;rintro e w2 ⟨xi,ni,ci,fi,yi,mi,di,gi,rfl,hb,hE⟩;replace HB:=zP HB hb;replace O0:=zk (O0.out.q_ hb)
 have HI:=zk (hE.out.rn.mono (show _<=8 by have:=hF.out;omega));clear hb hE hF;generalize s1=si at *;go_upto_region 2 with fail
 have hb4:=zF w2 (cells #[.int .i64 1,.bool si,slice xi ni ci,slice yi mi di] 57);have B1:=zk (zJ w2 [.int .i64 1,.bool si,slice xi ni ci,slice yi mi di] 57);have hop:=O0.out.lt;replace O0:=zk (O0.out.q_ hb4);replace HB:=zP HB hb4;replace HI:=zk (Rn.q_ HI.out hb4)
 generalize w2.alloc (cells #[.int .i64 1,.bool si,slice xi ni ci,slice yi mi di] 57)=w4 at *;generalize w2.heap.size=p1 at *;clear hb4;have hbd:=Below.drew (Below.refl w4.heap.size w4);replace B1:=zk (B1.out.q_ hbd);replace O0:=zk (O0.out.q_ hbd);replace HI:=zk (Rn.q_ HI.out hbd);replace HB:=zP HB hbd
 clear hbd;refine wp_region_held_drew (S:=(λw'=>w'.cell? ⟨p1,0,none⟩=some (.int .i64 1)/\w'.cell? ⟨p1,1,none⟩=some (.bool si)/\w'.cell? ⟨p1,2,none⟩=some (slice xi ni ci)/\w'.cell? ⟨p1,3,none⟩=some (slice yi mi di))) (by kernel_rfl) ?_ (λhHeld=>?_)
 ·exact⟨B1.out.cell (j:=0) rfl,B1.out.cell (j:=1) rfl,B1.out.cell (j:=2) rfl,B1.out.cell (j:=3) rfl⟩
 generalize hwd:w4.drew=wd at *;clear hwd;refine zH 3 ?_;refine zH 8 ?_;simp only[zw,Act.put];refine(show wpAnyH _ _ _ _ _ (19+1) _ _ _ from zbl (λj v w=>match j with|0=>GN 8 1 v w|1=>GN 8 3 v w|2=>GX 8 0 0 v w|4=>GC 8 ⟨⟨#[120]⟩,3,0,0,1,0⟩ v w|5=>GN 8 0 v w|6=>GF (-1) v w|7=>GX 8 (-1) 0 v w|9=>GC 8 ⟨⟨#[121]⟩,0,-1,0,1,0⟩ v w|10=>GCs 8 ⟨⟨#[120]⟩,3,0,0,1,0⟩ ⟨⟨#[121]⟩,0,-1,0,1,0⟩ v w|11=>GX 8 0 1 v w|12=>GX 8 0 5 v w|13=>GN 8 1 v w|14=>GTm 8 0 1 v w|15=>GN 8 2 v w|16=>GTm 8 1 2 v w|17=>GT2 8 0 1 1 2 v w|18=>GR 8 ⟨⟨#[114]⟩,0,1,0,5,[(0,1),(1,2)]⟩ v w|19=>GR1 8 ⟨⟨#[114]⟩,0,1,0,5,[(0,1),(1,2)]⟩ v w|20=>GM 8 1 f0C f0R v w|_=>True) [(0,4),(1,5),(2,6),(4,8),(5,9),(6,10),(7,11),(9,13),(10,14),(11,15),(12,16),(13,17),(14,18),(15,19),(16,20),(17,21),(18,22),(19,23),(20,24)] [0,1,2,4,5,6,7,9,10,11,12,13,14,15,16,17,18,19,20] [21] _ _ _ 1 ?k1 ?k4 ?k2 ?k3 ?k5 ?k6 ?k8)
 case k1=>kernel_rfl
 case k4=>kernel_rfl
 case k2=>exact λw w' h hb=>⟨kCb hb h.1,kCb hb h.2.1,kCb hb h.2.2.1,kCb hb h.2.2.2⟩
 case k3 =>
  intro j v w w' h hb
  split at h <;> first|exact GX.q_ h hb|exact GF.q_ h hb|exact GC.q_ h hb|exact GCs.q_ h hb|exact GN.q_ h hb|exact GTm.q_ h hb|exact GT2.q_ h hb|exact GR.q_ h hb|exact GR1.q_ h hb|exact GM.q_ h hb|exact h|trivial
 case k8=>exact hHeld
 case k5 =>
  intro i hi;simp only[List.mem_cons,List.not_mem_nil,or_false]at hi;rcases hi with rfl|rfl|rfl|rfl|rfl|rfl|rfl|rfl|rfl|rfl|rfl|rfl|rfl|rfl|rfl|rfl|rfl|rfl|rfl
  ·refine⟨_,rfl,λu w5 hS hb5 hd K hK=>?_⟩;simp only[zam,zw,Act.put]at hK ⊢;go_simp
   go_at_call 9
   refine(zaz (z:=1) (by decide) (by decide)).mono ?_;rintro e w6 ⟨s6,x6,n6,c6,f6,y6,m6,d6,g6,rfl,hb6,hr⟩
   (try go_wp2_with fail)
   exact hK.out _ _ hb6 ⟨⟨s6,x6,n6,c6,f6,y6,m6,d6,g6⟩,rfl,hr.mono (by decide)⟩
  ·refine⟨_,rfl,λu w5 hS hb5 hd K hK=>?_⟩;simp only[zam,zw,Act.put]at hK ⊢;go_simp
   go_at_call 9
   refine(zaz (z:=3) (by decide) (by decide)).mono ?_;rintro e w6 ⟨s6,x6,n6,c6,f6,y6,m6,d6,g6,rfl,hb6,hr⟩
   (try go_wp2_with fail)
   exact hK.out _ _ hb6 ⟨⟨s6,x6,n6,c6,f6,y6,m6,d6,g6⟩,rfl,hr.mono (by decide)⟩
  ·refine⟨_,rfl,λu w5 hS hb5 hd K hK=>?_⟩;simp only[zam,zw,Act.put]at hK ⊢;go_simp
   go_at_call 40
   refine(zgg (z:=0) (by decide) (by decide)).mono ?_;rintro e w6 ⟨v6,rfl,hb6,hr⟩
   (try go_wp2_with fail)
   exact hK.out _ _ hb6 hr
  ·refine⟨_,rfl,λu w5 hS hb5 hd K hK=>?_⟩;have h1:GN 8 3 (u 1) w5:=hd 1 (by kernel_rfl) (by kernel_rfl);obtain⟨⟨sa1,xa1,na1,ca1,fa1,ya1,ma1,da1,ga1⟩,e1,v1⟩:=h1;replace e1:u 1=agg #[.bool sa1,slice xa1 na1 ca1,slice ya1 ma1 da1]:=e1;have h2:GX 8 0 0 (u 2) w5:=hd 2 (by kernel_rfl) (by kernel_rfl);obtain⟨⟨i2,⟨sa2,xa2,na2,ca2,fa2,ya2,ma2,da2,ga2⟩⟩,e2,hi2,v2⟩:=h2;replace e2:u 2=agg #[.int .i64 i2,.bool sa2,slice xa2 na2 ca2,slice ya2 ma2 da2]:=e2;simp only[zam,zw,Act.put]at hK ⊢;simp only[e1,e2]at hK ⊢;go_simp;exact hK.out _ _ (Below.refl _ _) ⟨⟨⟨#[120]⟩,⟨sa1,xa1,na1,ca1,fa1,ya1,ma1,da1,ga1⟩,⟨i2,⟨sa2,xa2,na2,ca2,fa2,ya2,ma2,da2,ga2⟩⟩,⟨1,⟨si,xi,ni,ci,fi,yi,mi,di,gi⟩⟩⟩,rfl,rfl,v1,hi2,v2,rfl,Rn.q_ HI.out hb5⟩
  ·refine⟨_,rfl,λu w5 hS hb5 hd K hK=>?_⟩;simp only[zam,zw,Act.put]at hK ⊢;go_simp
   go_at_call 9
   refine(zaz (z:=0) (by decide) (by decide)).mono ?_;rintro e w6 ⟨s6,x6,n6,c6,f6,y6,m6,d6,g6,rfl,hb6,hr⟩
   (try go_wp2_with fail)
   exact hK.out _ _ hb6 ⟨⟨s6,x6,n6,c6,f6,y6,m6,d6,g6⟩,rfl,hr.mono (by decide)⟩
  ·refine⟨_,rfl,λu w5 hS hb5 hd K hK=>?_⟩;simp only[zam,zw,Act.put]at hK ⊢;go_simp
   go_at_call 41
   refine xLow_c.mono ?_;rintro e w6 ⟨s6,x6,n6,c6,d6,y6,m6,e6,g6,rfl,hb6,hF⟩
   (try go_wp2_with fail)
   exact hK.out _ _ hb6 ⟨s6,x6,n6,c6,d6,y6,m6,e6,g6,rfl,hF.out⟩
  ·refine⟨_,rfl,λu w5 hS hb5 hd K hK=>?_⟩;have h6:GF (-1) (u 6) w5:=hd 6 (by kernel_rfl) (by kernel_rfl);obtain⟨s6,x6,n6,c6,d6,y6,m6,e6,g6,e8,l1,l2,hF⟩:=h6;simp only[zam,zw,Act.put]at hK ⊢;simp only[e8]at hK ⊢;go_simp
   go_at_call 38
   refine(zox hF (by omega) (by omega)).mono ?_;rintro e w6 ⟨z7,k7,c7,f7,y7,k8,c8,f8,rfl,hb6,hE⟩
   (try go_wp2_with fail)
   exact hK.out _ _ hb6 ⟨⟨-1,⟨s6,z7,k7,c7,f7,y7,k8,c8,f8⟩⟩,rfl,rfl,hE.out.rn.mono (by omega)⟩
  ·refine⟨_,rfl,λu w5 hS hb5 hd K hK=>?_⟩;have h5:GN 8 0 (u 5) w5:=hd 5 (by kernel_rfl) (by kernel_rfl);obtain⟨⟨sa5,xa5,na5,ca5,fa5,ya5,ma5,da5,ga5⟩,e5,v5⟩:=h5;replace e5:u 5=agg #[.bool sa5,slice xa5 na5 ca5,slice ya5 ma5 da5]:=e5;have h7:GX 8 (-1) 0 (u 7) w5:=hd 7 (by kernel_rfl) (by kernel_rfl);obtain⟨⟨i7,⟨sa7,xa7,na7,ca7,fa7,ya7,ma7,da7,ga7⟩⟩,e7,hi7,v7⟩:=h7;replace e7:u 7=agg #[.int .i64 i7,.bool sa7,slice xa7 na7 ca7,slice ya7 ma7 da7]:=e7;simp only[zam,zw,Act.put]at hK ⊢;simp only[e5,e7]at hK ⊢;go_simp;exact hK.out _ _ (Below.refl _ _) ⟨⟨⟨#[121]⟩,⟨sa5,xa5,na5,ca5,fa5,ya5,ma5,da5,ga5⟩,⟨i7,⟨sa7,xa7,na7,ca7,fa7,ya7,ma7,da7,ga7⟩⟩,⟨1,⟨si,xi,ni,ci,fi,yi,mi,di,gi⟩⟩⟩,rfl,rfl,v5,hi7,v7,rfl,Rn.q_ HI.out hb5⟩
  ·refine⟨_,rfl,λu w5 hS hb5 hd K hK=>?_⟩;have h4:GC 8 ⟨⟨#[120]⟩,3,0,0,1,0⟩ (u 4) w5:=hd 4 (by kernel_rfl) (by kernel_rfl);obtain⟨⟨z4,⟨sb4,xb4,nb4,cb4,fb4,yb4,mb4,db4,gb4⟩,⟨ic4,⟨sc4,xc4,nc4,cc4,fc4,yc4,mc4,dc4,gc4⟩⟩,⟨id4,⟨sd4,xd4,nd4,cd4,fd4,yd4,md4,dd4,gd4⟩⟩⟩,e4,v4⟩:=h4;replace e4:u 4=agg #[.string z4,.bool sb4,slice xb4 nb4 cb4,slice yb4 mb4 db4,.int .i64 ic4,.bool sc4,slice xc4 nc4 cc4,slice yc4 mc4 dc4,.int .i64 id4,.bool sd4,slice xd4 nd4 cd4,slice yd4 md4 dd4]:=e4;have h9:GC 8 ⟨⟨#[121]⟩,0,-1,0,1,0⟩ (u 9) w5:=hd 9 (by kernel_rfl) (by kernel_rfl);obtain⟨⟨z9,⟨sb9,xb9,nb9,cb9,fb9,yb9,mb9,db9,gb9⟩,⟨ic9,⟨sc9,xc9,nc9,cc9,fc9,yc9,mc9,dc9,gc9⟩⟩,⟨id9,⟨sd9,xd9,nd9,cd9,fd9,yd9,md9,dd9,gd9⟩⟩⟩,e9,v9⟩:=h9;replace e9:u 9=agg #[.string z9,.bool sb9,slice xb9 nb9 cb9,slice yb9 mb9 db9,.int .i64 ic9,.bool sc9,slice xc9 nc9 cc9,slice yc9 mc9 dc9,.int .i64 id9,.bool sd9,slice xd9 nd9 cd9,slice yd9 md9 dd9]:=e9;simp only[zam,zw,Act.put]at hK ⊢;simp only[e4,e9]at hK ⊢;go_simp;have hn:=zF w5 (cells (([.string z4,.bool sb4,slice xb4 nb4 cb4,slice yb4 mb4 db4,.int .i64 ic4,.bool sc4,slice xc4 nc4 cc4,slice yc4 mc4 dc4,.int .i64 id4,.bool sd4,slice xd4 nd4 cd4,slice yd4 md4 dd4]:List Value)++([.string z9,.bool sb9,slice xb9 nb9 cb9,slice yb9 mb9 db9,.int .i64 ic9,.bool sc9,slice xc9 nc9 cc9,slice yc9 mc9 dc9,.int .i64 id9,.bool sd9,slice xd9 nd9 cd9,slice yd9 md9 dd9]:List Value)).toArray 59);have hx:=zmt w5 59 [.string z4,.bool sb4,slice xb4 nb4 cb4,slice yb4 mb4 db4,.int .i64 ic4,.bool sc4,slice xc4 nc4 cc4,slice yc4 mc4 dc4,.int .i64 id4,.bool sd4,slice xd4 nd4 cd4,slice yd4 md4 dd4] [.string z9,.bool sb9,slice xb9 nb9 cb9,slice yb9 mb9 db9,.int .i64 ic9,.bool sc9,slice xc9 nc9 cc9,slice yc9 mc9 dc9,.int .i64 id9,.bool sd9,slice xd9 nd9 cd9,slice yd9 md9 dd9];exact hK.out _ _ hn ⟨w5.heap.size,⟨z4,⟨sb4,xb4,nb4,cb4,fb4,yb4,mb4,db4,gb4⟩,⟨ic4,⟨sc4,xc4,nc4,cc4,fc4,yc4,mc4,dc4,gc4⟩⟩,⟨id4,⟨sd4,xd4,nd4,cd4,fd4,yd4,md4,dd4,gd4⟩⟩⟩,⟨z9,⟨sb9,xb9,nb9,cb9,fb9,yb9,mb9,db9,gb9⟩,⟨ic9,⟨sc9,xc9,nc9,cc9,fc9,yc9,mc9,dc9,gc9⟩⟩,⟨id9,⟨sd9,xd9,nd9,cd9,fd9,yd9,md9,dd9,gd9⟩⟩⟩,rfl,hx.1,hx.2,v4.q_ hn,v9.q_ hn⟩
  ·refine⟨_,rfl,λu w5 hS hb5 hd K hK=>?_⟩;simp only[zam,zw,Act.put]at hK ⊢;go_simp
   go_at_call 40
   refine(zgg (z:=1) (by decide) (by decide)).mono ?_;rintro e w6 ⟨v6,rfl,hb6,hr⟩
   (try go_wp2_with fail)
   exact hK.out _ _ hb6 hr
  ·refine⟨_,rfl,λu w5 hS hb5 hd K hK=>?_⟩;simp only[zam,zw,Act.put]at hK ⊢;go_simp
   go_at_call 40
   refine(zgg (z:=5) (by decide) (by decide)).mono ?_;rintro e w6 ⟨v6,rfl,hb6,hr⟩
   (try go_wp2_with fail)
   exact hK.out _ _ hb6 hr
  ·refine⟨_,rfl,λu w5 hS hb5 hd K hK=>?_⟩;simp only[zam,zw,Act.put]at hK ⊢;go_simp
   go_at_call 9
   refine(zaz (z:=1) (by decide) (by decide)).mono ?_;rintro e w6 ⟨s6,x6,n6,c6,f6,y6,m6,d6,g6,rfl,hb6,hr⟩
   (try go_wp2_with fail)
   exact hK.out _ _ hb6 ⟨⟨s6,x6,n6,c6,f6,y6,m6,d6,g6⟩,rfl,hr.mono (by decide)⟩
  ·refine⟨_,rfl,λu w5 hS hb5 hd K hK=>?_⟩;have h13:GN 8 1 (u 13) w5:=hd 13 (by kernel_rfl) (by kernel_rfl);obtain⟨⟨sa13,xa13,na13,ca13,fa13,ya13,ma13,da13,ga13⟩,e13,v13⟩:=h13;replace e13:u 13=agg #[.bool sa13,slice xa13 na13 ca13,slice ya13 ma13 da13]:=e13;simp only[zam,zw,Act.put]at hK ⊢;simp only[e13]at hK ⊢;go_simp;exact hK.out _ _ (Below.refl _ _) ⟨⟨sa13,xa13,na13,ca13,fa13,ya13,ma13,da13,ga13⟩,rfl,v13⟩
  ·refine⟨_,rfl,λu w5 hS hb5 hd K hK=>?_⟩;simp only[zam,zw,Act.put]at hK ⊢;go_simp
   go_at_call 9
   refine(zaz (z:=2) (by decide) (by decide)).mono ?_;rintro e w6 ⟨s6,x6,n6,c6,f6,y6,m6,d6,g6,rfl,hb6,hr⟩
   (try go_wp2_with fail)
   exact hK.out _ _ hb6 ⟨⟨s6,x6,n6,c6,f6,y6,m6,d6,g6⟩,rfl,hr.mono (by decide)⟩
  ·refine⟨_,rfl,λu w5 hS hb5 hd K hK=>?_⟩;have h15:GN 8 2 (u 15) w5:=hd 15 (by kernel_rfl) (by kernel_rfl);obtain⟨⟨sa15,xa15,na15,ca15,fa15,ya15,ma15,da15,ga15⟩,e15,v15⟩:=h15;replace e15:u 15=agg #[.bool sa15,slice xa15 na15 ca15,slice ya15 ma15 da15]:=e15;simp only[zam,zw,Act.put]at hK ⊢;simp only[e15]at hK ⊢;go_simp;exact hK.out _ _ (Below.refl _ _) ⟨⟨sa15,xa15,na15,ca15,fa15,ya15,ma15,da15,ga15⟩,rfl,v15⟩
  ·refine⟨_,rfl,λu w5 hS hb5 hd K hK=>?_⟩;have h14:GTm 8 0 1 (u 14) w5:=hd 14 (by kernel_rfl) (by kernel_rfl);obtain⟨⟨sa14,xa14,na14,ca14,fa14,ya14,ma14,da14,ga14⟩,e14,v14⟩:=h14;replace e14:u 14=agg #[.int .i64 0,.bool sa14,slice xa14 na14 ca14,slice ya14 ma14 da14]:=e14;have h16:GTm 8 1 2 (u 16) w5:=hd 16 (by kernel_rfl) (by kernel_rfl);obtain⟨⟨sa16,xa16,na16,ca16,fa16,ya16,ma16,da16,ga16⟩,e16,v16⟩:=h16;replace e16:u 16=agg #[.int .i64 1,.bool sa16,slice xa16 na16 ca16,slice ya16 ma16 da16]:=e16;simp only[zam,zw,Act.put]at hK ⊢;simp only[e14,e16]at hK ⊢;go_simp;have hn:=zF w5 (cells (tvs 0 ⟨sa14,xa14,na14,ca14,fa14,ya14,ma14,da14,ga14⟩++tvs 1 ⟨sa16,xa16,na16,ca16,fa16,ya16,ma16,da16,ga16⟩).toArray 64);obtain⟨b9,e9,h9⟩:=zod w5 64 0 1 ⟨sa14,xa14,na14,ca14,fa14,ya14,ma14,da14,ga14⟩ ⟨sa16,xa16,na16,ca16,fa16,ya16,ma16,da16,ga16⟩;replace e9:Value.slice (some ⟨w5.heap.size,0,none⟩) 2 2=slice (some ⟨b9,0,none⟩) 2 2:=e9;have hbb:w5.heap.size=b9:=by injection e9 with e9;injection e9 with e9;injection e9
   subst hbb;exact hK.out _ _ hn ⟨w5.heap.size,⟨sa14,xa14,na14,ca14,fa14,ya14,ma14,da14,ga14⟩,⟨sa16,xa16,na16,ca16,fa16,ya16,ma16,da16,ga16⟩,rfl,h9,Rn.q_ v14 hn,Rn.q_ v16 hn⟩
  ·refine⟨_,rfl,λu w5 hS hb5 hd K hK=>?_⟩;have h11:GX 8 0 1 (u 11) w5:=hd 11 (by kernel_rfl) (by kernel_rfl);obtain⟨⟨i11,⟨sa11,xa11,na11,ca11,fa11,ya11,ma11,da11,ga11⟩⟩,e11,hi11,v11⟩:=h11;replace e11:u 11=agg #[.int .i64 i11,.bool sa11,slice xa11 na11 ca11,slice ya11 ma11 da11]:=e11;have h12:GX 8 0 5 (u 12) w5:=hd 12 (by kernel_rfl) (by kernel_rfl);obtain⟨⟨i12,⟨sa12,xa12,na12,ca12,fa12,ya12,ma12,da12,ga12⟩⟩,e12,hi12,v12⟩:=h12;replace e12:u 12=agg #[.int .i64 i12,.bool sa12,slice xa12 na12 ca12,slice ya12 ma12 da12]:=e12;have h17:GT2 8 0 1 1 2 (u 17) w5:=hd 17 (by kernel_rfl) (by kernel_rfl);obtain⟨bt,t0,t1,et,ht,hv0,hv1⟩:=h17;simp only[zam,zw,Act.put]at hK ⊢;simp only[e11,e12,et]at hK ⊢;go_simp;have hR:RowV 8 w5 ⟨⟨#[114]⟩,⟨i11,⟨sa11,xa11,na11,ca11,fa11,ya11,ma11,da11,ga11⟩⟩,⟨i12,⟨sa12,xa12,na12,ca12,fa12,ya12,ma12,da12,ga12⟩⟩,some ⟨bt,0,none⟩,2,2,(λp=>if p=0 then 0 else 1),(λp=>if p=0 then t0 else t1)⟩ ⟨⟨#[114]⟩,0,1,0,5,[(0,1),(1,2)]⟩:=by
    refine⟨rfl,hi11,v11,hi12,v12,rfl,λp z q e=>?_⟩
    match p,e with
    | 0,e=>cases e;exact⟨rfl,hv0,bt,0,rfl,ht 0 _ _ rfl⟩
    | 1,e=>cases e;exact⟨rfl,hv1,bt,0,rfl,ht 1 _ _ rfl⟩
   exact hK.out _ _ (Below.refl _ _) ⟨_,rfl,hR⟩
  ·refine⟨_,rfl,λu w5 hS hb5 hd K hK=>?_⟩;have h18:GR 8 ⟨⟨#[114]⟩,0,1,0,5,[(0,1),(1,2)]⟩ (u 18) w5:=hd 18 (by kernel_rfl) (by kernel_rfl);obtain⟨⟨z18,⟨ic18,⟨sc18,xc18,nc18,cc18,fc18,yc18,mc18,dc18,gc18⟩⟩,⟨id18,⟨sd18,xd18,nd18,cd18,fd18,yd18,md18,dd18,gd18⟩⟩,ta18,tk18,tc18,tcol18,tt18⟩,e18,v18⟩:=h18;replace e18:u 18=agg #[.string z18,.int .i64 ic18,.bool sc18,slice xc18 nc18 cc18,slice yc18 mc18 dc18,.int .i64 id18,.bool sd18,slice xd18 nd18 cd18,slice yd18 md18 dd18,slice ta18 tk18 tc18]:=e18;simp only[zam,zw,Act.put]at hK ⊢;simp only[e18]at hK ⊢;go_simp;have hn:=zF w5 (cells ([.string z18,.int .i64 ic18,.bool sc18,slice xc18 nc18 cc18,slice yc18 mc18 dc18,.int .i64 id18,.bool sd18,slice xd18 nd18 cd18,slice yd18 md18 dd18,slice ta18 tk18 tc18]:List Value).toArray 62);have hx:=zcR w5 62 [.string z18,.int .i64 ic18,.bool sc18,slice xc18 nc18 cc18,slice yc18 mc18 dc18,.int .i64 id18,.bool sd18,slice xd18 nd18 cd18,slice yd18 md18 dd18,slice ta18 tk18 tc18] [.string z18,.int .i64 ic18,.bool sc18,slice xc18 nc18 cc18,slice yc18 mc18 dc18,.int .i64 id18,.bool sd18,slice xd18 nd18 cd18,slice yd18 md18 dd18,slice ta18 tk18 tc18] 0 (λj v e=>by rw[zero_add];exact e);exact hK.out _ _ hn ⟨w5.heap.size,⟨z18,⟨ic18,⟨sc18,xc18,nc18,cc18,fc18,yc18,mc18,dc18,gc18⟩⟩,⟨id18,⟨sd18,xd18,nd18,cd18,fd18,yd18,md18,dd18,gd18⟩⟩,ta18,tk18,tc18,tcol18,tt18⟩,rfl,hx,v18.q_ hn⟩
  ·refine⟨_,rfl,λu w5 hS hb5 hd K hK=>?_⟩;have h0:GN 8 1 (u 0) w5:=hd 0 (by kernel_rfl) (by kernel_rfl);obtain⟨⟨sa0,xa0,na0,ca0,fa0,ya0,ma0,da0,ga0⟩,e0,v0⟩:=h0;replace e0:u 0=agg #[.bool sa0,slice xa0 na0 ca0,slice ya0 ma0 da0]:=e0;have h10:GCs 8 ⟨⟨#[120]⟩,3,0,0,1,0⟩ ⟨⟨#[121]⟩,0,-1,0,1,0⟩ (u 10) w5:=hd 10 (by kernel_rfl) (by kernel_rfl);obtain⟨b13,l0,l1,e13,q0,q1,k0,k1⟩:=h10;have h19:GR1 8 ⟨⟨#[114]⟩,0,1,0,5,[(0,1),(1,2)]⟩ (u 19) w5:=hd 19 (by kernel_rfl) (by kernel_rfl);obtain⟨b32,r0,e32,q2,k2⟩:=h19;simp only[zam,zw,Act.put]at hK ⊢;simp only[e0,e13,e32]at hK ⊢;go_simp;have hM:MoV 8 w5 ⟨⟨sa0,xa0,na0,ca0,fa0,ya0,ma0,da0,ga0⟩,some ⟨b13,0,none⟩,2,2,(λj=>if j=0 then l0 else l1),some ⟨b32,0,none⟩,1,1,(λ_=>r0)⟩ 1 f0C f0R:=by
    refine⟨v0,rfl,rfl,λj v e=>?_,λj v e=>?_⟩
    ·match j,e with
     | 0,e=>cases e;exact⟨⟨b13,0,rfl,q0⟩,k0⟩
     | 1,e=>cases e;exact⟨⟨b13,0,rfl,q1⟩,k1⟩
    ·match j,e with
     | 0,e=>cases e;exact⟨⟨b32,0,rfl,q2⟩,k2⟩
   exact hK.out _ _ (Below.refl _ _) ⟨_,rfl,hM⟩
 case k6 =>
  intro u w5 hS5 hb5 hg;have h33:GM 8 1 f0C f0R (u 20) w5:=hg 20 (by simp);obtain⟨⟨⟨sm,xm,nm,cm,fm,ym,mm,dm,gm⟩,ca,ck,cc,C,ra,rk,rc,R⟩,e33,hM⟩:=h33;replace e33:u 20=agg #[.bool sm,slice xm nm cm,slice ym mm dm,slice ca ck cc,slice ra rk rc]:=e33;have HM:=zk hM;have O5:=O0.out.q_ hb5;obtain⟨o0,o1,o2,o3,o4⟩:=bk5 O5;have of:=O5.frozen;have HO5:=zk O5;have HB5:=zP HB hb5;obtain⟨t0,t1,t2,t3⟩:=id hS5;clear hg hM O5;simp only[zam,zw,Act.put];simp only[e33];refine rdO 21 (λK hK=>?_);go_simp;refine hK.out _ _ ?_ (λhH9=>?_)
  ·((try dsimp only);(refine⟨?_,?_,?_,?_⟩ <;> repeat(with_reducible first|assumption|refine kCs (by simp only[ne_eq];omega) ?_)))
  clear hK K;try simp only[Act.put]
  refine dnO ?_;obtain⟨hk9,hn9⟩:=zif (v0:=.bool sm) (v1:=slice xm nm cm) (v2:=slice ym mm dm) (v3:=slice ca ck cc) (v4:=slice ra rk rc) HO5.out (zhZ _ _ _ _ _ _ _ _ _ _ _ _ _) rfl;have HM9:=zk (HM.out.kp hk9 hn9 (zri HO5.out));have HB9:=zk (zdI (u0:=.bool sm) (u1:=slice xm nm cm) (u2:=slice ym mm dm) (u3:=slice ca ck cc) (u4:=slice ra rk rc) HB5.out (le_refl _));clear hk9 hn9 hH9;go_wp2;exact bodyPost_ret (v:=agg #[.bool sm,slice xm nm cm,slice ym mm dm,slice ca ck cc,slice ra rk rc]) (by simp[results,results17,go_sem,o0,o1,o2,o3,o4]) rfl (HA.out _ ⟨⟨sm,xm,nm,cm,fm,ym,mm,dm,gm⟩,ca,ck,cc,C,ra,rk,rc,R⟩ HB9.out HM9.out)
theorem znE {w L M off cs rs ao k cap xs} (h:MoV L w M off cs rs) (ho:zbA cs rs=true) (hx:Rf L w ao xs) (hk:xs.length=k) (hkc:k=cs.length) (hL:L<=30) :
  Calls prog 10 #[M.val,slice ao k cap] w λe w'=>zoN L w w' e 0 rs xs:=by
 obtain⟨h1,h2⟩:=h.chk (by omega) ho;obtain⟨S,h3,h4⟩:=ziX hx (by omega);have mp:=zbo ho;rw[hk]at h3 h4
 exact znD (λ_ _=>h2) h3 (by have:=mp.cl;omega) (zem h1 h4 (by rw[h.ck];exact hkc)) (λ_=>⟨h,ho,hx,hk,hkc⟩) hL
theorem zlD {w L M off cs rs ao k cap xs} (h:MoV L w M off cs rs) (ho:zbA cs rs=true) (hx:Rf L w ao xs) (hk:xs.length=k) (hkc:k=cs.length) (hL:L<=30) :
  Calls prog 11 #[M.val,slice ao k cap] w λe w'=>zoL L w w' e 0 off cs xs:=by
 obtain⟨h1,h2⟩:=h.chk (by omega) ho;obtain⟨S,h3,h4⟩:=ziX hx (by omega);have mp:=zbo ho;rw[hk]at h3 h4
 exact zlC (λ_ _=>h2) h3 (by have:=mp.cl;omega) (zem h1 h4 (by rw[h.ck];exact hkc)) (λ_=>⟨h,ho,hx,hk,hkc⟩) hL
theorem znC {w L M off cs rs ao k cap xs} (h:MoV L w M off cs rs) (ho:zbA cs rs=true) (hx:Rf L w ao xs) (hk:xs.length=k) (hkc:k=cs.length) (hL:L<=30) :
  Calls prog 19 #[M.val,slice ao k cap] w λe w'=>e=returned (.tuple #[.bool (decide ((0:Int)=0) && zhl cs rs xs),.int .i64 0])/\Bl w w':=by
 obtain⟨h1,h2⟩:=h.chk (by omega) ho;obtain⟨S,h3,h4⟩:=ziX hx (by omega);have mp:=zbo ho;rw[hk]at h3 h4
 exact znB (λ_ _=>h2) h3 (by have:=mp.cl;omega) (zem h1 h4 (by rw[h.ck];exact hkc)) (λ_=>⟨h,ho,hx,hk,hkc⟩) hL
theorem zki {w L M off cs rs ao k cap xs} (h:MoV L w M off cs rs) (ho:zbA cs rs=true) (hx:Rf L w ao xs) (hk:xs.length=k) (hkc:k=cs.length) (hL:L<=30) :
  Calls prog 12 #[M.val,slice ao k cap] w λe w'=>zfE w w' e 0 cs rs xs:=by
 obtain⟨h1,h2⟩:=h.chk (by omega) ho;obtain⟨S,h3,h4⟩:=ziX hx (by omega);have mp:=zbo ho;rw[hk]at h3 h4
 exact zdx (λ_ _=>h2) h3 (by have:=mp.cl;omega) (zem h1 h4 (by rw[h.ck];exact hkc)) (λ_=>⟨h,ho,hx,hk,hkc⟩) hL
theorem zjq:zbA f0C f0R=true:=by decide +kernel
theorem zpN:f0R.map (zas [((1:Int):Rat),((1:Int):Rat)])=[((3:Int):Rat)]:=by decide +kernel
theorem zpM:zjT 1 f0C [((1:Int):Rat),((1:Int):Rat)]=((4:Int):Rat):=by decide +kernel
theorem f0_fe:zhl f0C f0R [((1:Int):Rat),((1:Int):Rat)]=true:=by decide +kernel
theorem zqJ:(crl (bcB f0C [((-1:Int):Rat),((0:Int):Rat)]) f0C.length).length=1:=by decide +kernel
theorem zqI:(crl (brB f0R [((-1:Int):Rat),((0:Int):Rat)]) f0R.length).length=1:=by decide +kernel
theorem zkC (w:World):Calls prog 4 #[] w λe w'=>e=returned (.bool true)/\Bl w w':=by
 have HB:=zk (Below.refl w.heap.size w);go_enter func4,ntmps4;go_wp2_with fail
 refine first10_c.mono ?_;rintro e v1 ⟨⟨⟨sm,xm,nm,cm,fm,ym,mm,dm,gm⟩,cam,ckm,ccm,Cm,ram,rkm,rcm,Rm⟩,rfl,hb,HM⟩;replace HB:=zP HB hb;clear hb;go_wp2_with fail
 refine(zec (a:=1) (b:=1) (by decide) (by decide) (by decide) (by decide)).mono ?_;rintro e v2 ⟨ax,rfl,hb,HX⟩;replace HB:=zP HB hb;replace HM:=zk (HM.out.q_ hb)
 clear hb;go_wp2_with fail
 refine(znE (L:=8) HM.out zjq HX.out rfl rfl (by decide)).mono ?_;rintro e w1 ⟨hb,⟨h9,_⟩|⟨_,a1,c1,rfl,hc1,hr1⟩⟩
 ·exact absurd rfl h9
 rw[zpN]at hr1
 rw[show f0R.length=1 from rfl];have HA:=zk hr1;replace HB:=zP HB hb;clear hb hr1 hc1 HM HX;go_wp2_with fail
 refine first10_c.mono ?_;rintro e v3 ⟨⟨⟨sm,xm,nm,cm,fm,ym,mm,dm,gm⟩,cam,ckm,ccm,Cm,ram,rkm,rcm,Rm⟩,rfl,hb,HM⟩;replace HB:=zP HB hb;replace HA:=zk (HA.out.q_ hb)
 clear hb;go_wp2_with fail
 refine(zec (a:=1) (b:=1) (by decide) (by decide) (by decide) (by decide)).mono ?_;rintro e v4 ⟨ax,rfl,hb,HX⟩;replace HB:=zP HB hb;replace HM:=zk (HM.out.q_ hb);replace HA:=zk (HA.out.q_ hb)
 clear hb;go_wp2_with fail
 refine(zlD (L:=8) HM.out zjq HX.out rfl rfl (by decide)).mono ?_;rintro e w2 ⟨hb,⟨h9,_⟩|⟨_,s2,x2,n2,c2,f2,y2,m2,d2,g2,rfl,hr2⟩⟩
 ·exact absurd rfl h9
 rw[zpM]at hr2
 replace HB:=zP HB hb;replace HA:=zk (HA.out.q_ hb)
 have hbn:=zF w2 (cells #[.bool s2,slice x2 n2 c2,slice y2 m2 d2] 24);have BV:=zk (zJ w2 [.bool s2,slice x2 n2 c2,slice y2 m2 d2] 24);have HV:=zk (hr2.q_ hbn);replace HB:=zP HB hbn;replace HA:=zk (HA.out.q_ hbn)
 clear hb hbn hr2 HM HX;go_wp2_with fail
 generalize w2.alloc (cells #[.bool s2,slice x2 n2 c2,slice y2 m2 d2] 24)=w3 at *;generalize w2.heap.size=bv at *;refine first10_c.mono ?_;rintro e v5 ⟨⟨⟨sm,xm,nm,cm,fm,ym,mm,dm,gm⟩,cam,ckm,ccm,Cm,ram,rkm,rcm,Rm⟩,rfl,hb,HM⟩;replace HB:=zP HB hb;replace HA:=zk (HA.out.q_ hb);replace HV:=zk (HV.out.q_ hb);replace BV:=zk (BV.out.q_ hb)
 clear hb;go_wp2_with fail
 refine(zec (a:=1) (b:=1) (by decide) (by decide) (by decide) (by decide)).mono ?_;rintro e v6 ⟨ax,rfl,hb,HX⟩;replace HB:=zP HB hb;replace HM:=zk (HM.out.q_ hb);replace HA:=zk (HA.out.q_ hb);replace HV:=zk (HV.out.q_ hb);replace BV:=zk (BV.out.q_ hb)
 clear hb;go_wp2_with fail
 refine(znC (L:=8) HM.out zjq HX.out rfl rfl (by decide)).mono ?_;rintro e w4 ⟨rfl,hb⟩;rw[f0_fe];replace HB:=zP HB hb;replace HA:=zk (HA.out.q_ hb);replace HV:=zk (HV.out.q_ hb);replace BV:=zk (BV.out.q_ hb)
 clear hb HM HX;go_wp2_with fail
 refine first10_c.mono ?_;rintro e v7 ⟨⟨⟨sm,xm,nm,cm,fm,ym,mm,dm,gm⟩,cam,ckm,ccm,Cm,ram,rkm,rcm,Rm⟩,rfl,hb,HM⟩;replace HB:=zP HB hb;replace HA:=zk (HA.out.q_ hb);replace HV:=zk (HV.out.q_ hb);replace BV:=zk (BV.out.q_ hb)
 clear hb;go_wp2_with fail
 refine(zec (a:=-1) (b:=0) (by decide) (by decide) (by decide) (by decide)).mono ?_;rintro e v8 ⟨ax,rfl,hb,HX⟩;replace HB:=zP HB hb;replace HM:=zk (HM.out.q_ hb);replace HA:=zk (HA.out.q_ hb);replace HV:=zk (HV.out.q_ hb);replace BV:=zk (BV.out.q_ hb)
 clear hb;go_wp2_with fail
 refine(zki (L:=8) HM.out zjq HX.out rfl rfl (by decide)).mono ?_;rintro e w5 ⟨hb,⟨h9,_⟩|⟨_,xa,xc,ya,yc,rfl,_,_⟩⟩
 ·exact absurd rfl h9
 rw[zqJ,zqI];replace HB:=zP HB hb;replace HA:=zk (HA.out.q_ hb);replace HV:=zk (HV.out.q_ hb);replace BV:=zk (BV.out.q_ hb)
 clear hb HM HX;obtain⟨b,o,⟨s,x,n,c,f,y,m,d,g⟩,hb1,⟨p0,p1,p2⟩,hr⟩:=HA.out 0 _ rfl;subst hb1;replace p0:w5.cell? ⟨b,o,none⟩=some (.bool s):=p0;replace p1:w5.cell? ⟨b,o+1,none⟩=some (slice x n c):=p1;replace p2:w5.cell? ⟨b,o+2,none⟩=some (slice y m d):=p2;have HR:Hid (Rn (KA 8) w5 s x n c f y m d g ((3:Int):Rat)):=hr;clear hr HA;obtain⟨k0,k1,k2⟩:=bk3 BV.out;go_upto_region 5 with fail
 have CD:=zk (λW=>zaz (w:=W) (z:=3) (by decide) (by decide));have CE:=zk (λW=>zaz (w:=W) (z:=4) (by decide) (by decide));unfold zcS at CD CE;have CS:Hid (∀W s2 x2 n2 c2 f2 y2 m2 d2 g2,Bl w5 W->Rn 4 W s2 x2 n2 c2 f2 y2 m2 d2 g2 ((3:Int):Rat)->Calls prog 16 #[agg #[.bool s,slice x n c,slice y m d],agg #[.bool s2,slice x2 n2 c2,slice y2 m2 d2]] W λe w'=>e=returned (.bool true)/\Bl W w'):=λW s2 x2 n2 c2 f2 y2 m2 d2 g2 hW h2=>zbO (HR.out.q_ hW) h2 (by decide) (by decide)
 have CT:Hid (∀W s3 x3 n3 c3 f3 y3 m3 d3 g3,Bl w5 W->Rn 4 W s3 x3 n3 c3 f3 y3 m3 d3 g3 ((4:Int):Rat)->Calls prog 16 #[agg #[.bool s2,slice x2 n2 c2,slice y2 m2 d2],agg #[.bool s3,slice x3 n3 c3,slice y3 m3 d3]] W λe w'=>e=returned (.bool true)/\Bl W w'):=λW s3 x3 n3 c3 f3 y3 m3 d3 g3 hW h2=>zbO (HV.out.q_ hW) h2 (by decide) (by decide)
 go_region_held3 (λw'=>w'.cell? ⟨b,o,none⟩=some (.bool s)/\w'.cell? ⟨b,o+1,none⟩=some (slice x n c)/\w'.cell? ⟨b,o+2,none⟩=some (slice y m d)/\w'.cell? ⟨bv,0,none⟩=some (.bool s2)/\w'.cell? ⟨bv,1,none⟩=some (slice x2 n2 c2)/\w'.cell? ⟨bv,2,none⟩=some (slice y2 m2 d2))
  (refine⟨?_,?_,?_,?_,?_,?_⟩ <;> repeat(with_reducible first|assumption|refine kCd ?_|refine kCb (by assumption) ?_))
  (first
   | (have h9:=H5.out;clear h9;go_at_call 9;with_reducible refine(CE.out _).mono ?_;rintro e w8 ⟨s8,x8,n8,c8,f8,y8,m8,d8,g8,rfl,hb8,H8⟩;replace H8:=zk H8)
   | (go_at_call 9;with_reducible refine(CD.out _).mono ?_;rintro e w6 ⟨s6,x6,n6,c6,f6,y6,m6,d6,g6,rfl,hb6,H6⟩;replace H6:=zk H6)
   | (have h9:=H8.out;clear h9;go_at_call 16;with_reducible refine(CT.out _ s8 x8 n8 c8 f8 y8 m8 d8 g8 zad (H8.out.q_ zad)).mono ?_;rintro e w9 ⟨rfl,hb9⟩)
   | (go_at_call 16;with_reducible refine(CS.out _ s6 x6 n6 c6 f6 y6 m6 d6 g6 zad (H6.out.q_ zad)).mono ?_;rintro e w7 ⟨rfl,hb7⟩;have H5:=zk True.intro))
 all_goals
  have HB9:=zk (HB.out.trans ((show Bl w5 w9 from zad).mono HB.out.size));clear p0 p1 p2 k0 k1 k2 CD CS CE CT HR;go_wp2;go_ret;exact⟨by first|rfl|simp,HB9.out⟩
structure zrv (w:World) (M:Mo) (ao:Option Addr) (k:Nat) (X:Nat->Nm):Prop where
 i:In8 w M
 hx:Rl w ao k X
 sx:ShK 8 k X
end Go.Proofs.YtdagpgmehelfkaaGreat
