/-
 Walks.
-/
import Derived.Test.YtdbbncamlaiajaaGreatZ6
import Derived.Test.YtdbbncamlaiajaaGreatZ5
import Derived.Test.YtdbbncamlaiajaaGreatZ3
import Derived.Test.YtdbbncamlaiajaaGreatZ2
import Derived.BigQuiet
import Derived.Test.YtdbbncamlaiajaaGreatZ4
import Derived.BigRegion
set_option maxRecDepth 100000
set_option maxHeartbeats 16000000
namespace Go.Proofs.YtdbbncamlaiajaaGreat
open Nat (le_refl le_trans zero_add)
open World (cell?_of_block)
open List (getElem?_eq_getElem setIfInBounds_toArray set_cons_zero set_cons_succ foldl_cons foldl_nil)
open Go.Proofs.Tryz
open Go.RowKit
def KZ (L:Nat):Nat:=3+L+64*(2*L+2)
theorem zdx:∀(a b:List Rat),psum (a++b) 0=psum a 0+psum b 0
 | [],b=>by show psum b 0=0+psum b 0;grind
 | q :: a,b=>by rw [List.cons_append,zbY,zbY,zdx a b];grind
theorem zfn (q:Rat):psum [q] 0=q:=by rw [zbY];show q+0=q;grind
theorem zni {B}:∀{l:List Rat},(∀q ∈ l,Lo B q)->Lo (1+l.length*(B+1)) (psum l 0)
 | [],_=>Lo.mono (zcL (L:=1) (le_refl 1)) (Nat.le_add_right _ _)
 | q :: l,h=>by
  rw [zbY];exact (zfx (h q List.mem_cons_self) (zni (fun p hp=>h p (List.mem_cons_of_mem _ hp)))).mono (by rw [List.length_cons,Nat.add_mul];omega)
theorem zfF {y j}:∀{ts:List (Int × Rat)} {q:Rat},q ∈ zbA y ts j->∃t ∈ ts,q=-y*t.2
 | [],q,h=>by simp [zbA] at h
 | (z,a) :: r,q,h=>by
  simp only [zbA,List.mem_append] at h;rcases h with h | h
  ·split at h
   ·exact ⟨(z,a),List.mem_cons_self,by simpa using h⟩
   ·cases h
  ·obtain ⟨t,h1,h2⟩:=zfF h;exact ⟨t,List.mem_cons_of_mem _ h1,h2⟩
theorem zgs {j}:∀{rs:List RV} {ys:List Rat} {q:Rat},q ∈ zaj rs ys j->∃v ∈ rs,∃y ∈ ys,∃t ∈ v.ts,q=-y*t.2
 | [],_,q,h=>by simp [zaj] at h
 | _ :: _,[],q,h=>by simp [zaj] at h
 | v :: rs,y :: ys,q,h=>by
  simp only [zaj,List.mem_append] at h;rcases h with h | h
  ·obtain ⟨t,h1,h2⟩:=zfF h;exact ⟨v,List.mem_cons_self,y,List.mem_cons_self,t,h1,h2⟩
  ·obtain ⟨v',h1,y',h2,r⟩:=zgs h;exact ⟨v',List.mem_cons_of_mem _ h1,y',List.mem_cons_of_mem _ h2,r⟩
def cstQ (cs:List CV) (j:Nat):Rat:=(cs[j]?.map (·.cost)).getD 0
def roQ (cs:List CV) (rs:List RV) (ys:List Rat) (i j:Nat):Rat:=psum (zaj (rs.take i) (ys.take i) j) 0+cstQ cs j
def rdQ (cs:List CV) (rs:List RV) (ys:List Rat) (i:Nat) (y:Rat) (ts:List (Int × Rat)) (j:Nat):Rat:=psum (zaj (rs.take i) (ys.take i) j++zbA y ts j) 0+cstQ cs j
theorem zmB (cs:List CV) (rs:List RV) (ys:List Rat) (j:Nat):roQ cs rs ys 0 j=cstQ cs j:=by
 show psum [] 0+cstQ cs j=_;show 0+cstQ cs j=_
 grind
theorem zoR (cs:List CV) (rs:List RV) (ys:List Rat) (i:Nat) (y:Rat) (ts:List (Int × Rat)):rdQ cs rs ys i y (ts.take 0)=roQ cs rs ys i:=by
 funext j
 show psum (_++[]) 0+_=_;rw [List.append_nil];rfl
theorem zoQ {cs rs ys i v y} (h:rs[i]?=some v) (h2:ys[i]?=some y):rdQ cs rs ys i y v.ts=roQ cs rs ys (i+1):=by
 funext j
 unfold rdQ roQ;rw [zdk j h h2]
theorem zmF {cs rs ys i y} {ts:List (Int × Rat)} {p zn:Nat} {a} (h:ts[p]?=some ((zn:Int),a)) (j:Nat):rdQ cs rs ys i y (ts.take (p+1)) j=if zn=j then rdQ cs rs ys i y (ts.take p) j-y*a else rdQ cs rs ys i y (ts.take p) j:=by
 unfold rdQ;rw [zdW j h,<-List.append_assoc,zdx];by_cases e:zn=j
 ·rw [if_pos e,if_pos (by omega),zfn];grind
 ·rw [if_neg e,if_neg (by omega)];show _+(0:Rat)+_=_
  grind
theorem zqI {L cs rs ys i y ts j} (hi:i<rs.length) (hl:rs.length<=64) (hts:∀v ∈ rs,tsB cs.length (-1) v.ts=true) (ht:tsB cs.length (-1) ts=true) (hc:∀v ∈ cs,Lo L v.cost) (hy:∀q ∈ ys,Lo L q) (hy1:Lo L y) (hr:∀v ∈ rs,∀t ∈ v.ts,Lo L t.2) (ht1:∀t ∈ ts,Lo L t.2):Lo (KZ L) (rdQ cs rs ys i y ts j):=by
 have h1:=zcP (j:=j) (rs:=rs.take i) (ys:=ys.take i) (fun v hv=>hts v (List.mem_of_mem_take hv));have h2:=zdJ (y:=y) (j:=j) ht;have h3:=zni (B:=L+L+1) (l:=zaj (rs.take i) (ys.take i) j++zbA y ts j) (fun q hq=>by
  rcases List.mem_append.1 hq with hq | hq
  ·obtain ⟨v,hv,y',hy',t,htt,rfl⟩:=zgs hq;exact zcj (znj (hy y' (List.mem_of_mem_take hy'))) (hr v (List.mem_of_mem_take hv) t htt)
  ·obtain ⟨t,h4,rfl⟩:=zfF hq;exact zcj (znj hy1) (ht1 t h4))
 have h5:Lo (L+1) (cstQ cs j):=by
  unfold cstQ;cases e:cs[j]? with
  | none=>exact zcL (by omega)
  | some v=>exact (hc v (List.mem_of_getElem? e)).mono (Nat.le_succ _)
 refine (zfx h3 h5).mono ?_;have h6:(zaj (rs.take i) (ys.take i) j++zbA y ts j).length<=64:=by
  rw [List.length_append];rw [List.length_take] at h1;omega
 have h7:=Nat.mul_le_mul_right (L+L+1+1) h6;unfold KZ;have e:2*L+2=L+L+1+1:=by omega
 rw [e];omega
theorem zhJ {rs ys}:∀{cs:List CV} {i j:Nat} {v:CV},cs[i]?=some v->(zaz rs ys j cs)[i]?=some (psum (zaj rs ys (j+i)++[v.cost]) 0)
 | [],i,j,v,h=>by simp at h
 | v' :: cs,0,j,v,h=>by
  have e:v'=v:=by simpa using h
  subst e;rfl
 | v' :: cs,i+1,j,v,h=>by
  simp only [zaz,List.getElem?_cons_succ];rw [zhJ (cs:=cs) (i:=i) (j:=j+1) (by simpa using h),show j+1+i=j+(i+1) by omega]
theorem zoJ {cs rs ys j q} (hl:ys.length=rs.length) (h:(zaz rs ys 0 cs)[j]?=some q):roQ cs rs ys rs.length j=q:=by
 have hj:j<cs.length:=by rw [<-zba rs ys cs 0];exact (List.getElem?_eq_some_iff.1 h).1
 obtain ⟨v,hv⟩:∃v,cs[j]?=some v:=⟨_,getElem?_eq_getElem hj⟩;rw [zhJ hv,zero_add] at h;rw [<-Option.some.inj h,roQ,List.take_of_length_le (le_refl _),List.take_of_length_le (by omega),zdx,zfn,cstQ,hv];rfl
theorem Rk.qn {w B n o u s x k f y m g q} (h:Rk w B n) (ho:o<n*3) (hx:Qn w s x k f y m g q):Qn (w.setCell ⟨B,o,none⟩ u) s x k f y m g q :=
 ⟨⟨⟨h.rd ho hx.num.dn.rd,hx.num.dn.dg,hx.num.dn.fm,hx.num.dn.val⟩,hx.num.sgn,hx.num.pos⟩,⟨h.rd ho hx.den.rd,hx.den.dg,hx.den.fm,hx.den.val⟩⟩
def Qr (K:Nat) (w:World) (B n:Nat) (Q:Nat->Rat):Prop:=∀j,j<n->∃t:Nm,C3 w B (j*3) (.bool t.s) (.slice t.x t.n t.c) (.slice t.y t.m t.d)/\QnT K w t (Q j)
theorem Qr.q_ {K w w' B n Q} (h:Qr K w B n Q) (hb:Bl w w'):Qr K w' B n Q:=fun j hj=>by
 obtain ⟨t,h1,h2⟩:=h j hj;exact ⟨t,h1.q_ hb,h2.q_ hb⟩
theorem zrW {K w B n j Q Q' s x k c f y m d g} (h:Rk w B n) (hq:Qr K w B n Q) (hj:j<n) (hr:QnT K w ⟨s,x,k,c,f,y,m,d,g⟩ (Q' j)) (hs:∀j',j'≠j->Q' j'=Q j') :
  Rk (((w.setCell ⟨B,j*3,none⟩ (.bool s)).setCell ⟨B,j*3+1,none⟩ (.slice x k c)).setCell ⟨B,j*3+2,none⟩ (.slice y m d)) B n/\Qr K (((w.setCell ⟨B,j*3,none⟩ (.bool s)).setCell ⟨B,j*3+1,none⟩ (.slice x k c)).setCell ⟨B,j*3+2,none⟩ (.slice y m d)) B n Q':=by
 have k1:=h.set (o:=j*3) (u:=.bool s) (fun i h=>by cases h);have k2:=k1.set (o:=j*3+1) (u:=.slice x k c) (fun i h=>by cases h);have k3:=k2.set (o:=j*3+2) (u:=.slice y m d) (fun i h=>by cases h);refine ⟨k3,fun j' hj'=>?_⟩;obtain ⟨_,a0,_⟩:=h.has (j*3) (by omega);obtain ⟨_,a1,_⟩:=k1.has (j*3+1) (by omega);obtain ⟨_,a2,_⟩:=k2.has (j*3+2) (by omega);by_cases e:j'=j
 ·subst e;exact ⟨⟨s,x,k,c,f,y,m,d,g⟩,⟨kCo (by omega) (kCo (by omega) (kCe (kI0 a0))),kCo (by omega) (kCe (kI0 a1)),kCe (kI0 a2)⟩,hr.1,hr.2.1,k2.qn (by omega) (k1.qn (by omega) (h.qn (by omega) hr.2.2))⟩
 ·obtain ⟨t,⟨c0,c1,c2⟩,ht⟩:=hq j' hj';rw [hs j' e];exact ⟨t,⟨kCo (by omega) (kCo (by omega) (kCo (by omega) c0)),kCo (by omega) (kCo (by omega) (kCo (by omega) c1)),kCo (by omega) (kCo (by omega) (kCo (by omega) c2))⟩,ht.1,ht.2.1,k2.qn (by omega) (k1.qn (by omega) (h.qn (by omega) ht.2.2))⟩
def Zl (w:World) (base K:Nat) (ao:Option Addr) (n:Nat) (Q:Nat->Rat):Prop:=0<n->∃B,ao=some ⟨B,0,none⟩/\base<=B/\Rk w B n/\Qr K w B n Q
theorem Zl.q_ {w w' base K ao n Q} (h:Zl w base K ao n Q) (hb:Bl w w'):Zl w' base K ao n Q:=fun hn=>by
 obtain ⟨B,h1,h2,h3,h4⟩:=h hn;exact ⟨B,h1,h2,h3.q_ hb,h4.q_ hb⟩
theorem zrI {e base K n cap w ao T Q} (h:RowG e 3 base w (.slice ao n cap) n (rcells (rls n T))) (hq:∀j,j<n->QnT K w (T j) (Q j)):Zl w base K ao n Q:=fun hn=>by
 have hc:=fun j (hj:j<n)=>zdq h hj
 obtain ⟨h1,h2⟩:=h;rcases h2 with ⟨_,h0⟩ | ⟨g,cap',cur,hv,hb,hg,hle,hm,hs,ht,hnu⟩
 ·omega
 ·cases hv
  refine ⟨g,rfl,hb,⟨(Array.getElem?_eq_some_iff.1 hg).1,fun o ho=>?_,fun o=>by simp [World.frozen?,hg]⟩,fun j hj=>?_⟩
  ·have hlt:o<cur.size:=by omega
   exact ⟨cur[o],by simp [World.cell?,hg,hlt],fun i hi=>hnu o i (by rw [Array.getElem?_eq_getElem hlt,hi])⟩
  ·obtain ⟨b,hb2,hc3⟩:=hc j hj;cases hb2
   rw [zero_add] at hc3;exact ⟨T j,hc3,hq j hj⟩
theorem Zl.rqs {w base K ao n Q p} (h:Zl w base K ao n Q) (hl:p.length=n) (hp:∀j q,p[j]?=some q->Q j=q):Rqs K w ao p:=fun j q hj=>by
 have hlt:j<n:=by rw [<-hl];exact (List.getElem?_eq_some_iff.1 hj).1
 obtain ⟨B,h1,_,_,h4⟩:=h (by omega);obtain ⟨t,h5,h6⟩:=h4 j hlt;rw [hp j q hj] at h6;exact ⟨B,0,t,h1,by rw [zero_add];exact h5,h6⟩
def zoj (K:Nat) (w w':World) (e:Ending) (k:Nat) (p:List Rat):Prop:=∃aw cw,e=.returned (.slice aw k cw)/\Bl w w'/\(k<=cw/\cw<=9223372036854775807)/\Hid (Rqs K w' aw p)/\Hid (0<k->∃B,aw=some ⟨B,0,none⟩/\w.heap.size<=B)
theorem zjT {w L M off cs rs ay k cap ys} (h:MqV (2*L) w M off cs rs) (hy:Rqs (2*L) w ay ys) (hk:ys.length=k) (hkr:k=rs.length) (hm:MvP cs rs) (hts:∀v ∈ rs,tsB cs.length (-1) v.ts=true) (hL:L<=60) :
  Calls prog 38 #[M.val,.slice ay k cap] w fun e w'=>zoj (2*KZ L) w w' e cs.length (zaz rs ys 0 cs):=by
 have hcl:=hm.cl;have hrl:=hm.rl;subst hkr;have HLQ:Hid (∀i y ts j,i<rs.length->tsB cs.length (-1) ts=true->Lo L y->(∀t ∈ ts,Lo L t.2)->Lo (KZ L) (rdQ cs rs ys i y ts j)):=by
  intro i y ts j hi ht hy1 ht1;refine zqI hi hrl hts ht (fun v hv=>?_) (fun q hq=>?_) hy1 (fun v hv t htt=>?_) ht1
  ·obtain ⟨j,hj,e⟩:=List.getElem_of_mem hv;have h1:=(h.cls j v (by rw [getElem?_eq_getElem hj,e])).2.cost;exact h1.2.2.lo h1.1 h1.2.1
  ·obtain ⟨j,hj,e⟩:=List.getElem_of_mem hq;obtain ⟨_,_,t,_,_,h1⟩:=hy j q (by rw [getElem?_eq_getElem hj,e]);exact h1.2.2.lo h1.1 h1.2.1
  ·obtain ⟨j,hj,e⟩:=List.getElem_of_mem hv;obtain ⟨p,hp,e2⟩:=List.getElem_of_mem htt;obtain ⟨_,_,t3,_,_,h1⟩:=(h.rls j v (by rw [getElem?_eq_getElem hj,e])).2.tl p t.1 t.2 (by rw [getElem?_eq_getElem hp,e2]);exact h1.2.2.lo h1.1 h1.2.1
 obtain ⟨⟨s,x,n,c,f,y,m,d,g⟩,ca,ck,cc,C,ra,rk,rc,R⟩:=M;have hck:ck=cs.length:=h.ck;have hrk:rk=rs.length:=h.rk;subst hck;subst hrk;have HC:Hid (∀j v,cs[j]?=some v->(∃b o,ca=some ⟨b,o,none⟩/\Cs w b (o+j*12) (C j).vs)/\QcV (2*L) w (C j) v):=h.cls;have HR:Hid (∀j v,rs[j]?=some v->(∃b o,ra=some ⟨b,o,none⟩/\Cs w b (o+j*10) (R j).vs)/\QrV (2*L) w (R j) v):=h.rls;have HX:=zk hy;have HTS:=zk hts;clear h hy hts hm;have HB0:=zk (zB w (.cells #[.bool s,.slice x n c,.slice y m d,.slice ca cs.length cc,.slice ra rs.length rc] 93));have BM:=zk (zH w [.bool s,.slice x n c,.slice y m d,.slice ca cs.length cc,.slice ra rs.length rc] 93);show Calls prog 38 #[.agg #[.bool s,.slice x n c,.slice y m d,.slice ca cs.length cc,.slice ra rs.length rc],.slice ay rs.length cap] w _;have r3:=BM.out.cell (j:=3) rfl;go_enter func38,ntmps38;go_wp2_with fail
 clear r3;generalize (w.alloc (.cells #[.bool s,.slice x n c,.slice y m d,.slice ca cs.length cc,.slice ra rs.length rc] 93))=w0 at *;go_loopw [5,15] (fun ov t wr=>∃(i:Nat) (T':Nat->Nm),i<=cs.length/\t=.int .i64 i/\Hid (Bl w0 wr)/\Hid (RowG 89 3 w0.heap.size wr ov i (rcells (rls i T')))/\Hid (∀j,j<i->QnT (2*KZ L) wr (T' j) (cstQ cs j))) (fun _ t _=>cs.length-(intOf t).toNat)
 case atStart=>exact ⟨0,fun j=>(C j).cost,by omega,rfl,Below.refl _ _,zao _ _ _ _,fun j hj=>by omega⟩
 case round =>
  obtain ⟨i,T',hi,rfl,HB,HRow,HT⟩:=hrel;by_cases hlt:i<cs.length
  ·obtain ⟨v,hv⟩:∃v,cs[i]?=some v:=⟨_,getElem?_eq_getElem hlt⟩;have hbw:=bUp HB0.out HB.out;obtain ⟨⟨b,o,hca,hc0⟩,hn⟩:=HC.out i v hv;subst hca;have hc:=hc0.q_ hbw;have hq:=zqP (K':=2*KZ L) (hn.cost.q_ hbw) (by unfold KZ;omega);have hcst:cstQ cs i=v.cost:=by unfold cstQ;rw [hv];rfl
   rw [<-hcst] at hq;obtain ⟨⟨z,⟨s0,x0,n0,c0,f0,y0,m0,d0,g0⟩,⟨i1,⟨s1,x1,n1,c1,f1,y1,m1,d1,g1⟩⟩,⟨i2,⟨s2,x2,n2,c2,f2,y2,m2,d2,g2⟩⟩⟩,hCi⟩:∃t,C i=t:=⟨_,rfl⟩;rw [hCi] at hc hq;replace hq:QnT (2*KZ L) wr ⟨s0,x0,n0,c0,f0,y0,m0,d0,g0⟩ (cstQ cs i):=hq;obtain ⟨q0,q1,q2,q3,q4,q5,q6,q7,q8,q9,q10,q11⟩:=hc.lc;have hbt:=zB wr (.cells #[.string z,.bool s0,.slice x0 n0 c0,.slice y0 m0 d0,.int .i64 i1,.bool s1,.slice x1 n1 c1,.slice y1 m1 d1,.int .i64 i2,.bool s2,.slice x2 n2 c2,.slice y2 m2 d2] 128);have BC:=zH wr [.string z,.bool s0,.slice x0 n0 c0,.slice y0 m0 d0,.int .i64 i1,.bool s1,.slice x1 n1 c1,.slice y1 m1 d1,.int .i64 i2,.bool s2,.slice x2 n2 c2,.slice y2 m2 d2] 128;have i1':((i:Nat):Int)<((cs.length:Nat):Int):=by omega
   clear hCi hc hc0 hn hv hcst hbw;go_upto_region 5 with fail
   clear q0 q1 q2 q3 q4 q5 q6 q7 q8 q9 q10 q11;obtain ⟨-,a1,a2,a3⟩:=bk4 BC;have HN:=zk (hq.q_ hbt);have HRow5:=zk (HRow.out.q_ hbt);have HB5:=zI HB hbt
   have HT5:Hid (∀j,j<i->QnT (2*KZ L) (wr.alloc (.cells #[.string z,.bool s0,.slice x0 n0 c0,.slice y0 m0 d0,.int .i64 i1,.bool s1,.slice x1 n1 c1,.slice y1 m1 d1,.int .i64 i2,.bool s2,.slice x2 n2 c2,.slice y2 m2 d2] 128)) (T' j) (cstQ cs j)):=fun j hj=>(HT.out j hj).q_ hbt
   clear hbt BC hq HB HRow HT;generalize hbx:wr.heap.size=bx at *;generalize wr.alloc (.cells #[.string z,.bool s0,.slice x0 n0 c0,.slice y0 m0 d0,.int .i64 i1,.bool s1,.slice x1 n1 c1,.slice y1 m1 d1,.int .i64 i2,.bool s2,.slice x2 n2 c2,.slice y2 m2 d2] 128)=w5 at *;clear hbx;have hsz:=HB5.out.size;go_wp2_with (at_builtin;go_must (refine zaa w5 rfl (.tmp 19) (.tmp 22) 84 rfl w0.heap.size 89 56 3 (.agg #[.bool false,.slice none 0 0,.slice none 0 0]) underlying84 zpS rfl (by decide) nz3 u5 i (rcells (rls i T')) rfl HRow5.out #[.bool s0,.slice x0 n0 c0,.slice y0 m0 d0] rfl rfl (zfT _ _ _ _ _ _ _) (zen _ _ _ _ _ _ _) ?p1 (by decide) hsz ?_))
   case p1=>omega
   intro g8 cap8 w8 hr8 hk8 hb8 hg8;have HB8:=zk (hb8 w0 HB5.out (le_refl _));have HR8:Hid (RowG 89 3 w0.heap.size w8 (.slice (some ⟨g8,0,none⟩) (i+1) cap8) (i+1) (rcells (rls (i+1) (zaI T' i ⟨s0,x0,n0,c0,f0,y0,m0,d0,g0⟩)))):=by
    show RowG _ _ _ _ _ _ _;rw [zeB];exact hr8
   have HT8:Hid (∀j,j<i+1->QnT (2*KZ L) w8 (zaI T' i ⟨s0,x0,n0,c0,f0,y0,m0,d0,g0⟩ j) (cstQ cs j)):=fun j hj=>by
    by_cases e:j=i
    ·subst e;rw [zbz];exact HN.out.kp hk8
    ·rw [putN_ne e];exact (HT5.out j (by omega)).kp hk8
   clear hr8 hk8 hb8 hg8 HRow5 HT5 HB5 HN hsz a1 a2 a3;go_wp2;go_roundw
   case rel=>exact ⟨i+1,_,by omega,by go_num,HB8.out,HR8.out,HT8.out⟩
   case measure=>simp [intOf];omega
  ·have e1:i=cs.length:=by omega
   have i4':¬(((i:Nat):Int)<((cs.length:Nat):Int)):=by omega
   rw [e1] at HRow HT;obtain ⟨aw,cw,rfl⟩:=HRow.out.slice;have hcw:cs.length<=cw/\cw<=9223372036854775807:=by
    rcases HRow.out.2 with ⟨hv,h0⟩ | ⟨_,_,_,hv,_,_,h5,h6,_⟩
    ·simp only [Value.slice.injEq] at hv;obtain ⟨_,_,h9⟩:=hv;omega
    ·simp only [Value.slice.injEq] at hv;obtain ⟨_,_,h9⟩:=hv;unfold maxLen at h6;omega
   have HZ:Hid (Zl wr w0.heap.size (2*KZ L) aw cs.length (roQ cs rs ys 0)):=zrI HRow.out (fun j hj=>by rw [zmB];exact HT.out j hj);have r4:=(BM.out.q_ HB.out).cell (j:=4) rfl;have HW:=zk HB.out;have HCW:=zk hcw;clear e1 HT HB HRow HC hcw;go_wp2_with fail
   clear r4 i4' hi hlt;generalize wr=w1 at *;go_loopw [28] (fun t wr=>∃(i:Nat),i<=rs.length/\t=.int .i64 i/\Hid (Bl w0 wr)/\Hid (Zl wr w0.heap.size (2*KZ L) aw cs.length (roQ cs rs ys i))) (fun t _=>rs.length-(intOf t).toNat)
   case atStart=>exact ⟨0,by omega,rfl,HW.out,HZ.out⟩
   case round =>
    clear HW HZ;obtain ⟨i,hi,rfl,HB,HZ⟩:=hrel;by_cases hlt:i<rs.length
    ·obtain ⟨v,hv⟩:∃v,rs[i]?=some v:=⟨_,getElem?_eq_getElem hlt⟩;obtain ⟨yq,hyq⟩:∃t,ys[i]?=some t:=⟨_,getElem?_eq_getElem (by omega)⟩;have hbw:=bUp HB0.out HB.out;obtain ⟨⟨b,o,hra,hc0⟩,hn⟩:=HR.out i v hv;subst hra;have hc:=hc0.q_ hbw;have hvm:=List.mem_of_getElem? hv;obtain ⟨b',o',⟨s3,x3,n3,c3,f3,y3,m3,d3,g3⟩,hay,hcy,hqy⟩:=HX.out i yq hyq;subst hay;have HCY:Hid (C3 w b' (o'+i*3) (.bool s3) (.slice x3 n3 c3) (.slice y3 m3 d3)):=hcy;have HQY:Hid (n3<=2*L/\m3<=2*L/\Qn w s3 x3 n3 f3 y3 m3 g3 yq):=hqy;have HY1:Hid (Lo L yq):=hqy.2.2.lo hqy.1 hqy.2.1;have htl:=hn.tl;have htk:=hn.tk;have HS:=zk (HTS.out v hvm);have hvl:v.ts.length<=64:=by have:=zgG HS.out (by omega);omega
     have HRW:=zk (zoQ (cs:=cs) hv hyq);obtain ⟨⟨z,⟨i1,⟨s1,x1,n1,c1,f1,y1,m1,d1,g1⟩⟩,⟨i2,⟨s2,x2,n2,c2,f2,y2,m2,d2,g2⟩⟩,ta,tk,tc,tcol,tt⟩,hCi⟩:∃t,R i=t:=⟨_,rfl⟩;rw [hCi] at hc htl htk;replace htk:tk=v.ts.length:=htk;subst htk;have HTQ:Hid (Tq (2*L) w ta v.ts):=htl;obtain ⟨q0,q1,q2,q3,q4,q5,q6,q7,q8,q9⟩:=hc.lr;have hbt:=zB wr (.cells #[.string z,.int .i64 i1,.bool s1,.slice x1 n1 c1,.slice y1 m1 d1,.int .i64 i2,.bool s2,.slice x2 n2 c2,.slice y2 m2 d2,.slice ta v.ts.length tc] 131);have BC:=zH wr [.string z,.int .i64 i1,.bool s1,.slice x1 n1 c1,.slice y1 m1 d1,.int .i64 i2,.bool s2,.slice x2 n2 c2,.slice y2 m2 d2,.slice ta v.ts.length tc] 131;have i1':((i:Nat):Int)<((rs.length:Nat):Int):=by omega
     clear hCi hc hc0 hn hv hvm hbw hyq hcy hqy htl;go_upto_region 10 with fail
     clear q0 q1 q2 q3 q4 q5 q6 q7 q8 q9;have a9:=BC.cell (j:=9) rfl;replace HB:=zI HB hbt;replace HZ:=zk (HZ.out.q_ hbt)
     clear hbt BC;generalize hbx:wr.heap.size=bx at *;generalize wr.alloc (.cells #[.string z,.int .i64 i1,.bool s1,.slice x1 n1 c1,.slice y1 m1 d1,.int .i64 i2,.bool s2,.slice x2 n2 c2,.slice y2 m2 d2,.slice ta v.ts.length tc] 131)=w5 at *;clear hbx;go_wp2_with fail
     clear a9;go_loopw [36] (fun t wr=>∃(p:Nat),p<=v.ts.length/\t=.int .i64 p/\Hid (Bl w0 wr)/\Hid (Zl wr w0.heap.size (2*KZ L) aw cs.length (rdQ cs rs ys i yq (v.ts.take p)))) (fun t _=>v.ts.length-(intOf t).toNat)
     case atStart=>exact ⟨0,by omega,rfl,HB.out,by show Zl _ _ _ _ _ _;rw [zoR];exact HZ.out⟩
     case round =>
      clear HB HZ;obtain ⟨p,hp,rfl,HB,HZ⟩:=hrel;by_cases hlp:p<v.ts.length
      ·obtain ⟨⟨z2,q⟩,haq⟩:∃t,v.ts[p]?=some t:=⟨_,getElem?_eq_getElem hlp⟩;obtain ⟨hz0,hz1,_⟩:=zey HS.out _ (List.mem_of_getElem? haq);replace hz0:(-1:Int)<z2:=hz0;replace hz1:z2<(cs.length:Int):=hz1;obtain ⟨zn,rfl⟩:=Int.eq_ofNat_of_zero_le (show 0<=z2 by omega);have hbw:=bUp HB0.out HB.out;obtain ⟨b2,o2,⟨ts,tx,tn,tc2,tf,ty,tm,td,tg⟩,hta,hc,hr⟩:=HTQ.out p (zn:Int) q haq;subst hta;obtain ⟨k0,k1,k2,k3⟩:=hc.q_ hbw;replace k0:wr.cell? ⟨b2,o2+p*4,none⟩=some (.int .i64 zn):=k0;replace k1:wr.cell? ⟨b2,o2+p*4+1,none⟩=some (.bool ts):=k1;replace k2:wr.cell? ⟨b2,o2+p*4+2,none⟩=some (.slice tx tn tc2):=k2;replace k3:wr.cell? ⟨b2,o2+p*4+3,none⟩=some (.slice ty tm td):=k3;have hr2:tn<=2*L/\tm<=2*L/\Qn wr ts tx tn tf ty tm tg q:=hr.q_ hbw;obtain ⟨BZ,hao,hge,hk,hqr⟩:=HZ.out (by omega);subst hao;obtain ⟨⟨ls,lx,ln,lc,lf,ly,lm,ld,lg⟩,⟨p0,p1,p2⟩,hr0⟩:=hqr zn (by omega);replace p0:wr.cell? ⟨BZ,zn*3,none⟩=some (.bool ls):=p0;replace p1:wr.cell? ⟨BZ,zn*3+1,none⟩=some (.slice lx ln lc):=p1;replace p2:wr.cell? ⟨BZ,zn*3+2,none⟩=some (.slice ly lm ld):=p2;replace hr0:ln<=2*KZ L/\lm<=2*KZ L/\Qn wr ls lx ln lf ly lm lg (rdQ cs rs ys i yq (v.ts.take p) zn):=hr0;obtain ⟨v0,v1,v2⟩:=HCY.out.q_ hbw;replace v0:wr.cell? ⟨b',o'+i*3,none⟩=some (.bool s3):=v0;replace v1:wr.cell? ⟨b',o'+i*3+1,none⟩=some (.slice x3 n3 c3):=v1;replace v2:wr.cell? ⟨b',o'+i*3+2,none⟩=some (.slice y3 m3 d3):=v2;have hr1:=HQY.out.2.2.q_ hbw;obtain ⟨ly1,ly2,_⟩:=HQY.out;have hbt:=zB wr (.cells #[.int .i64 zn,.bool ts,.slice tx tn tc2,.slice ty tm td] 133);obtain ⟨a0,a1,a2,a3⟩:=bk4 (zH wr [.int .i64 zn,.bool ts,.slice tx tn tc2,.slice ty tm td] 133);have i2':((p:Nat):Int)<((v.ts.length:Nat):Int):=by omega
       have i3':((zn:Nat):Int)<((cs.length:Nat):Int):=by omega
       have i5':((i:Nat):Int)<((rs.length:Nat):Int):=by omega
       have hzn:zn<cs.length:=by omega
       have HST:=zk (fun j=>zmF (cs:=cs) (rs:=rs) (ys:=ys) (i:=i) (y:=yq) haq j);have HL2:Hid (∀j,Lo (KZ L) (rdQ cs rs ys i yq (v.ts.take (p+1)) j)):=fun j=>HLQ.out i yq _ j hlt (zdN _ HS.out) HY1.out (fun t ht=>by
        obtain ⟨j2,hj2,e2⟩:=List.getElem_of_mem (List.mem_of_mem_take ht);obtain ⟨_,_,_,_,_,h1⟩:=HTQ.out j2 t.1 t.2 (by rw [getElem?_eq_getElem hj2,e2]);exact h1.2.2.lo h1.1 h1.2.1)
       clear haq hr hbw hc;go_upto_region 13 with fail
       clear k0 k1 k2 k3;replace p0:=kCb hbt p0;replace p1:=kCb hbt p1;replace p2:=kCb hbt p2;replace v0:=kCb hbt v0;replace v1:=kCb hbt v1;replace v2:=kCb hbt v2;have R0:=zk (hr0.2.2.q_ hbt);have R1:=zk (hr1.q_ hbt);have R2:=zk (hr2.2.2.q_ hbt)
       obtain ⟨lz1,lz2,_⟩:=hr0;obtain ⟨la1,la2,_⟩:=hr2;replace HB:=zI HB hbt;have HK:=zk (hk.q_ hbt);have HQR:=zk (hqr.q_ hbt)
       clear hr1 hbt hk hqr HZ;generalize hbx:wr.heap.size=bx at *;generalize wr.alloc (.cells #[.int .i64 zn,.bool ts,.slice tx tn tc2,.slice ty tm td] 133)=w5 at *;clear hbx;have CM:Hid (∀W,Bl w5 W->Calls prog 73 #[.agg #[.bool s3,.slice x3 n3 c3,.slice y3 m3 d3],.agg #[.bool ts,.slice tx tn tc2,.slice ty tm td]] W fun e w'=>∃s x n c d y m e' g,e=.returned (.agg #[.bool s,.slice x n c,.slice y m e'])/\Bl W w'/\Hid ((n<=2*(L+L+1)/\m<=2*(L+L+1))/\Qn w' s x n d y m g (yq*q))):=fun W hW =>
        (ziS (R1.out.q_ hW) (R2.out.q_ hW) (by omega) (by omega) (by omega) (by omega)).mono (fun _ _ ⟨s,x,n,c,d,y,m,c',g,h1,h2,h3,h4,h5⟩=>⟨s,x,n,c,d,y,m,c',g,h1,h2,h5.len (zcj (R1.out.lo ly1 ly2) (R2.out.lo la1 la2)),h5⟩)
       have CA:Hid (∀(W:World) (s1:Bool) (x1:Option Addr) (n1 c1:Nat) (d1:Nat->Int) (y1:Option Addr) (m1 e1:Nat) (g1:Nat->Int),Bl w5 W->(n1<=2*(L+L+1)/\m1<=2*(L+L+1))/\Qn W s1 x1 n1 d1 y1 m1 g1 (yq*q)->Calls prog 72 #[.agg #[.bool ls,.slice lx ln lc,.slice ly lm ld],.agg #[.bool s1,.slice x1 n1 c1,.slice y1 m1 e1]] W fun e w'=>∃s x n c d y m e' g,e=.returned (.agg #[.bool s,.slice x n c,.slice y m e'])/\Bl W w'/\Hid (QnT (2*KZ L) w' ⟨s,x,n,c,d,y,m,e',g⟩ (rdQ cs rs ys i yq (v.ts.take (p+1)) zn))):=fun W s1 x1 n1 c1 d1 y1 m1 e1 g1 hW hh=>by
        have hkz:2*KZ L<=120000:=by unfold KZ;omega
        refine (zqQ (R0.out.q_ hW) hh.2 (by omega) (by omega) (by omega) (by omega)).mono (fun _ _ ⟨s,x,n,c,d,y,m,c',g,h1,h2,h3,h4,h5⟩=>⟨s,x,n,c,d,y,m,c',g,h1,h2,?_⟩);have e2:=HST.out zn;rw [if_pos rfl] at e2;have h6:=HL2.out zn;rw [<-e2] at h5;exact ⟨(h5.len h6).1,(h5.len h6).2,h5⟩
       refine zai (S:=(fun w'=>w'.cell? ⟨bx,0,none⟩=some (.int .i64 zn)/\w'.cell? ⟨bx,1,none⟩=some (.bool ts)/\w'.cell? ⟨bx,2,none⟩=some (.slice tx tn tc2)/\w'.cell? ⟨bx,3,none⟩=some (.slice ty tm td)/\w'.cell? ⟨BZ,zn*3,none⟩=some (.bool ls)/\w'.cell? ⟨BZ,zn*3+1,none⟩=some (.slice lx ln lc)/\w'.cell? ⟨BZ,zn*3+2,none⟩=some (.slice ly lm ld)/\w'.cell? ⟨b',o'+i*3,none⟩=some (.bool s3)/\w'.cell? ⟨b',o'+i*3+1,none⟩=some (.slice x3 n3 c3)/\w'.cell? ⟨b',o'+i*3+2,none⟩=some (.slice y3 m3 d3))) 17 (by kernel_rfl) ⟨kCd a0,kCd a1,kCd a2,kCd a3,kCd p0,kCd p1,kCd p2,kCd v0,kCd v1,kCd v2⟩ (fun hHeld=>?_);refine skP 0 ?_;simp only [zw,Act.put];refine skP 1 ?_;simp only [zw,Act.put];refine tkP 2 ?_;simp only [zw,Act.put];refine skP 3 ?_;simp only [zw,Act.put];refine skP 4 ?_;simp only [zw,Act.put];refine tkP 5 ?_;simp only [zw,Act.put];refine skP 6 ?_;simp only [zw,Act.put];refine tkP 7 ?_;simp only [zw,Act.put];refine skP 8 ?_;simp only [zw,Act.put];refine skP 9 ?_;simp only [zw,Act.put];refine skP 10 ?_;simp only [zw,Act.put];refine tkP 11 ?_;simp only [zw,Act.put];refine skP 12 ?_;simp only [zw,Act.put];refine tkP 13 ?_;simp only [zw,Act.put];refine zJ (rs:=[14]) (by kernel_rfl) (by simp) ?_;refine AllReadyP.cons (o:=_) rfl (fun K hK=>?_) ?_;rotate_left;exact AllReadyP.nil;go_simp
       go_at_call 73
       refine (CM.out _ (Below.drew (Below.refl _ _))).mono ?_;rintro e w6 ⟨s6,x6,n6,c6,f6,y6,m6,d6,g6,rfl,hb6,hq6⟩
       (try go_wp2_with fail)
       have yy0:=kCb hb6 (hHeld.1);have yy1:=kCb hb6 (hHeld.2.1);have yy2:=kCb hb6 (hHeld.2.2.1);have yy3:=kCb hb6 (hHeld.2.2.2.1);have yy4:=kCb hb6 (hHeld.2.2.2.2.1);have yy5:=kCb hb6 (hHeld.2.2.2.2.2.1);have yy6:=kCb hb6 (hHeld.2.2.2.2.2.2.1);have yy7:=kCb hb6 (hHeld.2.2.2.2.2.2.2.1);have yy8:=kCb hb6 (hHeld.2.2.2.2.2.2.2.2.1);have yy9:=kCb hb6 (hHeld.2.2.2.2.2.2.2.2.2);refine hK.out _ _ (fun _=>⟨yy0,yy1,yy2,yy3,yy4,yy5,yy6,yy7,yy8,yy9⟩) (fun hS6=>?_);clear hK K hS6;try simp only [Act.put,setIfInBounds_toArray,set_cons_zero,set_cons_succ]
       have Bd6:=(Below.drew (Below.refl w5.heap.size w5)).trans (hb6.mono (le_refl _));refine zJ (rs:=[15]) (by kernel_rfl) (by simp) ?_;refine AllReadyP.cons (o:=_) rfl (fun K hK=>?_) ?_;rotate_left;exact AllReadyP.nil;go_simp
       go_at_call 72
       refine (CA.out w6 s6 x6 n6 c6 f6 y6 m6 d6 g6 Bd6 hq6.out).mono ?_;rintro e w7 ⟨s7,x7,n7,c7,f7,y7,m7,d7,g7,rfl,hb7,hq7⟩
       (try go_wp2_with fail)
       have uu0:=kCb hb7 yy0;have uu1:=kCb hb7 yy1;have uu2:=kCb hb7 yy2;have uu3:=kCb hb7 yy3;have uu4:=kCb hb7 yy4;have uu5:=kCb hb7 yy5;have uu6:=kCb hb7 yy6;have uu7:=kCb hb7 yy7;have uu8:=kCb hb7 yy8;have uu9:=kCb hb7 yy9;refine hK.out _ _ (fun _=>⟨uu0,uu1,uu2,uu3,uu4,uu5,uu6,uu7,uu8,uu9⟩) (fun hS7=>?_);clear hK K hS7;try simp only [Act.put,setIfInBounds_toArray,set_cons_zero,set_cons_succ]
       have Bd7:=bUp Bd6 hb7;have hk7:=HK.out.q_ Bd7;obtain ⟨R1a,R2a⟩:=zrW (j:=zn) (Q':=rdQ cs rs ys i yq (v.ts.take (p+1))) hk7 (HQR.out.q_ Bd7) hzn hq7.out (fun j' h2=>by rw [HST.out j',if_neg (fun e=>h2 e.symm)]);have HB7:=zk (znR (o:=zn*3) (u0:=.bool s7) (u1:=.slice x7 n7 c7) (u2:=.slice y7 m7 d7) (bUp HB.out Bd7) hge);have tf2:=hk7.fz;have HR1:=zk R1a;have HR2:=zk R2a
       clear R1a R2a hq7 hq6 hk7 Bd7 Bd6 hb6 hb7 HK HQR HB R0 R1 R2 CM CA HL2 HST yy0 yy1 yy2 yy3 yy4 yy5 yy6 yy7 yy8 yy9 hHeld a0 a1 a2 a3 p0 p1 p2 v0 v1 v2;refine zJ (rs:=[16]) (by kernel_rfl) (by simp) ?_;refine AllReadyP.cons (o:=_) rfl (fun K hK=>?_) ?_;rotate_left;exact AllReadyP.nil;go_simp;refine hK.out _ _ (fun _=>⟨uu0,uu1,uu2,uu3,uu4,uu5,uu6,uu7,uu8,uu9⟩) (fun hS9=>?_);clear hK K hS9;try simp only [Act.put,setIfInBounds_toArray,set_cons_zero,set_cons_succ]
       refine zJ (rs:=[17]) (by kernel_rfl) (by simp) ?_;refine AllReadyP.cons (o:=_) rfl (fun K hK=>?_) ?_;rotate_left;exact AllReadyP.nil;go_simp;refine hK.out _ _ (fun h=>by cases h) (fun _=>?_);clear hK K;try simp only [Act.put,setIfInBounds_toArray,set_cons_zero,set_cons_succ]
       refine zaB (by kernel_rfl) ?_ _;clear uu0 uu1 uu2 uu3 uu4 uu5 uu6 uu7 uu8 uu9 tf2;go_wp2;go_roundw
       case rel=>exact ⟨p+1,by omega,by go_num,HB7.out,fun _=>⟨BZ,rfl,hge,HR1.out,HR2.out⟩⟩
       case measure=>simp [intOf];omega
      ·have e1:p=v.ts.length:=by omega
       have i4':¬(((p:Nat):Int)<((v.ts.length:Nat):Int)):=by omega
       have HZ3:Hid (Zl wr w0.heap.size (2*KZ L) aw cs.length (roQ cs rs ys (i+1))):=by
        have h1:=HZ.out;rw [e1,List.take_length,HRW.out] at h1;exact h1
       clear HZ e1 HRW;go_wp2;go_roundw
       case rel=>exact ⟨i+1,by omega,by go_num,HB.out,HZ3.out⟩
       case measure=>simp [intOf];omega
    ·have e1:i=rs.length:=by omega
     have i4':¬(((i:Nat):Int)<((rs.length:Nat):Int)):=by omega
     have HF:Hid (Rqs (2*KZ L) wr aw (zaz rs ys 0 cs)):=HZ.out.rqs (zba rs ys cs 0) (fun j q hj=>by rw [e1];exact zoJ hk hj);have HO:Hid (0<cs.length->∃B,aw=some ⟨B,0,none⟩/\w.heap.size<=B):=fun h=>by obtain ⟨B,h1,h2,_⟩:=HZ.out h;exact ⟨B,h1,le_trans HB0.out.size h2⟩
     clear HZ e1;go_wp2;go_ret;exact ⟨aw,cw,rfl,bUp HB0.out HB.out,HCW.out,HF,HO⟩
theorem zqL {w L M off cs rs ay k cap ys} (h:MqV (2*L) w M off cs rs) (hy:Rqs (2*L) w ay ys) (hk:ys.length=k) (hkr:k=rs.length) (hm:MvP cs rs) (hts:∀v ∈ rs,tsB cs.length (-1) v.ts=true) (hL:L<=60) :
  Calls prog 38 #[M.val,.slice ay k cap] w fun e w'=>zjw (2*KZ L) w w' e cs.length (zaz rs ys 0 cs) :=
 (zjT h hy hk hkr hm hts hL).mono fun _ _ ⟨aw,cw,h1,h2,h3,h4,_⟩=>⟨aw,cw,h1,h2,h3,h4⟩
def ShK (K k:Nat) (X:Nat->Nm):Prop:=k<=300/\∀j,j<k->(X j).n<=K/\(X j).m<=K
theorem zpo {K k X} (h:lgL K k X=true):ShK K k X:=by
 simp only [lgL,Bool.and_eq_true,decide_eq_true_eq] at h;exact ⟨h.1,fun j hj=>zgY h.2 j (by omega) (by omega)⟩
def TmK (K:Nat) (w:World) (M M':Mo):Prop:=Sm M M'/\MoW w M'/\MoX w M'/\(M'.ck<=64->M'.rk<=64->MoK K M')
theorem TmK.q_ {K w w' M M'} (h:TmK K w M M') (hb:Bl w w'):TmK K w' M M':=⟨h.1,h.2.1.q_ hb,h.2.2.1.q_ hb,h.2.2.2⟩
theorem TmK.valL {K w M M'} (L:Nat) (hL:K<=L) (hK:K<=100) (h:TmK K w M M') (hN:MoN M) (he:zaA M=0):MoV L w M' (nq M.off) (zbg M) (zbf M)/\zbw (zbg M) (zbf M)=true:=by
 obtain ⟨s,hw,hx,hk⟩:=h;have he':zaA M'=0:=s.chk.trans he;obtain ⟨l1,l2,_⟩:=zhq he';have k6:=hk l1 l2;have:=(hx.mor (s.mon hN) k6 (by omega) l1 l2).movC (k6.up hL) he';rw [s.csOf,s.rsOf,s.off.nq] at this;exact this
theorem Tx.valK {K w ao k X X'} (h:Tx w ao k X X') (hs:ShK K k X) (ha:afB k X=true):Rf K w ao (zaW k X):=by
 rw [<-zjX h.2];refine h.1.rfC ?_ (fun j hj=>by rw [(h.2 j hj).2.1,(h.2 j hj).2.2.2.1];exact hs.2 j hj);exact (zju (fun j _ b=>h.2 j (by omega))).trans ha
theorem zkV {K w M} (hX:MoX w M) (hN:MoN M) (hk:M.ck<=64->M.rk<=64->MoK K M) (hK:K<=100):Calls prog 9 #[M.val] w fun e w'=>∃(vm:Value) (M':Mo),e=.returned vm/\Bl w w'/\Hid (vm=M'.val/\TmK K w' M M') :=
 (zqt (K:=K) hX hN hk (by omega)).mono fun e w' ⟨M',h1,h2,h3,h4,h5,h6⟩=>⟨M'.val,M',h1,h2,zk ⟨rfl,h3,h4,h5,h6⟩⟩
theorem ziK {K w ao k cap X} (h:Rl w ao k X) (hs:ShK K k X) (hK:K<=100):Calls prog 10 #[.slice ao k cap] w fun e w'=>∃(a:Option Addr) (c:Nat) (X':Nat->Nm),e=.returned (.slice a k c)/\Bl w w'/\(k<=c/\c<=9223372036854775807)/\Hid (Tx w' a k X X') :=
 (zoB h (by have:=hs.1;omega) (fun j hj=>by have:=hs.2 j hj;omega)).mono fun e w' ⟨a,c,X',h1,h2,h3,h4⟩=>⟨a,c,X',h1,h2,h3,zk h4.out⟩
theorem zdC {t t'} (h:Sn t t'):nq t'=nq t:=by
 obtain ⟨h1,h2,h3,h4,h5⟩:=h;unfold nq;rw [h1,h2,h3,h4,h5]
theorem Sm.crl {M M':Mo} (h:Sm M M'):crl (ccB M'.C) M'.ck=crl (ccB M.C) M.ck/\crl (rcB M'.R) M'.rk=crl (rcB M.R) M.rk:=by
 refine ⟨?_,?_⟩
 ·rw [zcc (B':=ccB M.C) (fun j hj=>?_),h.ck];rw [h.ck] at hj;have p:=h.C j hj;unfold ccB zlI;rw [p.li,p.hi,zdC p.lo,zdC p.hv]
 ·rw [zcc (B':=rcB M.R) (fun j hj=>?_),h.rk];rw [h.rk] at hj;have p:=h.R j hj;unfold rcB zlI;rw [p.li,p.hi,zdC p.lo,zdC p.hv]
structure In8 (w:World) (M:Mo):Prop where
 x:MoX w M
 n:MoN M
 c:MoC M
 k:M.ck<=64->M.rk<=64->MoK 8 M
theorem In8.q_ {w w' M} (h:In8 w M) (hb:Bl w w'):In8 w' M:=⟨h.x.q_ hb,h.n,h.c,h.k⟩
theorem In8.val {w M} (h:In8 w M) (he:zaA M=0):MoV 8 w M (nq M.off) (zbg M) (zbf M)/\zbw (zbg M) (zbf M)=true:=by
 obtain ⟨l1,l2,_⟩:=zhq he;exact (h.x.mor h.n (h.k l1 l2) (by decide) l1 l2).movC (h.k l1 l2) he
theorem zeM (a b:Int):lsf (two a b) 2=lstep a b:=by
 simp [lsf,two,lstep]
theorem znh (e:Int):lstep (lstep e 3) 7=lstep e 3:=by
 unfold lstep;split <;> split <;> omega
theorem zic {w ao k cap X} (hx:Rl w ao k X) (hs:ShK 8 k X) (ha:afB k X=true):Calls prog 40 #[.slice ao k cap] w fun e w'=>∃aw cw,e=.returned (.slice aw k cw)/\Bl w w'/\Hid (Rqs (2*8) w' aw (zaW k X)) :=
 (zpv (L:=8) (p:=zaW k X) hx (by have:=hs.1;omega) (by decide) (zbZ _ _) (fun j hj=>by
  obtain ⟨b,o,_,_,hn⟩:=hx j hj;exact ⟨nq (X j),zdP hj,NmS.val (K:=8) hn (zhw ha j (by omega) (by omega)) (hs.2 j hj)⟩)).mono (by
   rintro e w' ⟨aw,cw,rfl,h1,_,h3⟩;exact ⟨aw,cw,rfl,h1,zk h3.out⟩)
theorem zkp {w M} (h:In8 w M) (he:zaA M=0):Calls prog 39 #[M.val] w fun e w'=>∃M':Mo,e=.returned M'.val/\Bl w w'/\Hid (MqV (2*8) w' M' (nq M.off) (zbg M) (zbf M)) :=
 (zpg (h.val he).1 (by decide) (h.val he).2).mono (by
  rintro e w' ⟨M',h1,h2,h3⟩;exact ⟨M',h1,h2,zk h3⟩)
theorem zeH {w z} (h0:-1000<=z) (h1:z<=1000):Calls prog 25 #[.int .i64 z] w fun e w'=>∃v,e=.returned v/\Bl w w'/\GX 8 0 (z:Rat) v w':=by
 have HB:=zk (zB w (.cells #[.int .i64 0,.bool false,.slice none 0 0,.slice none 0 0] 42));have BR:=zk (zH w [.int .i64 0,.bool false,.slice none 0 0,.slice none 0 0] 42);go_enter func25,ntmps25;go_wp2_with fail
 generalize w.alloc (.cells #[.int .i64 0,.bool false,.slice none 0 0,.slice none 0 0] 42)=w0 at *;refine (zbk (z:=z) (by omega) (by omega)).mono ?_;rintro e w1 ⟨s,x,n,c,f,y,m,d,g,rfl,hb,hr⟩;replace HB:=zI HB hb;replace BR:=zk (BR.out.q_ hb)
 obtain ⟨hx1,hx2,hx3⟩:=zfb [.int .i64 0,.bool s,.slice x n c,.slice y m d] BR.out (zab (fun u hu q=>by simp at hu;rcases hu with rfl | rfl | rfl | rfl <;> simp)) HB.out (le_refl _);obtain ⟨l0,l1,l2,l3⟩:=bk4 BR.out;have ff:=BR.out.frozen;have HX:Hid (Bl w (stl w.heap.size 0 [.int .i64 0,.bool s,.slice x n c,.slice y m d] w1)/\GX 8 0 (z:Rat) (.agg #[.int .i64 0,.bool s,.slice x n c,.slice y m d]) (stl w.heap.size 0 [.int .i64 0,.bool s,.slice x n c,.slice y m d] w1)):=⟨hx1,⟨0,⟨s,x,n,c,f,y,m,d,g⟩⟩,rfl,rfl,(Rn.kp hr hx2).mono (by decide)⟩;clear hx1 hx2 hx3 hb hr HB;go_wp2;exact bodyPost_ret (v:=.agg #[.int .i64 0,.bool s,.slice x n c,.slice y m d]) (by simp [results,results25,go_sem,l0,l1,l2,l3]) rfl ⟨_,rfl,HX.out⟩
theorem zkG {w z}:Calls prog 53 #[.string z] w fun e w'=>∃v,e=.returned v/\Bl w w'/\GC 8 ⟨z,-1,0,0,0,4⟩ v w':=by
 have HB:=zk (zB w (.cells #[.string ⟨#[]⟩,.bool false,.slice none 0 0,.slice none 0 0,.int .i64 0,.bool false,.slice none 0 0,.slice none 0 0,.int .i64 0,.bool false,.slice none 0 0,.slice none 0 0] 65));have O0:Hid (Bk (w.alloc (.cells #[.string ⟨#[]⟩,.bool false,.slice none 0 0,.slice none 0 0,.int .i64 0,.bool false,.slice none 0 0,.slice none 0 0,.int .i64 0,.bool false,.slice none 0 0,.slice none 0 0] 65)) w.heap.size [.string ⟨#[]⟩,.bool false,.slice none 0 0,.slice none 0 0,.int .i64 0,.bool false,.slice none 0 0,.slice none 0 0,.int .i64 0,.bool false,.slice none 0 0,.slice none 0 0] 65):=zH w [.string ⟨#[]⟩,.bool false,.slice none 0 0,.slice none 0 0,.int .i64 0,.bool false,.slice none 0 0,.slice none 0 0,.int .i64 0,.bool false,.slice none 0 0,.slice none 0 0] 65;go_enter func53,ntmps53;go_wp2_with fail
 generalize w.alloc (.cells #[.string ⟨#[]⟩,.bool false,.slice none 0 0,.slice none 0 0,.int .i64 0,.bool false,.slice none 0 0,.slice none 0 0,.int .i64 0,.bool false,.slice none 0 0,.slice none 0 0] 65)=w0 at *;refine (zbk (z:=(-1)) (by decide) (by decide)).mono ?_;rintro e w1 ⟨s1,x1,n1,c1,f1,y1,m1,d1,g1,rfl,hb,hr⟩;replace HB:=zI HB hb;replace O0:=zk (O0.out.q_ hb)
 have R1:=zk (hr.mono (show 4<=8 by decide));clear hb hr;go_wp2_with fail
 refine (zeH (z:=0) (by decide) (by decide)).mono ?_;rintro e w2 ⟨v2,rfl,hb,⟨⟨i2,⟨s2,x2,n2,c2,f2,y2,m2,d2,g2⟩⟩,ev,hi2,hv⟩⟩;replace ev:v2=.agg #[.int .i64 i2,.bool s2,.slice x2 n2 c2,.slice y2 m2 d2]:=ev;subst ev;replace HB:=zI HB hb;replace O0:=zk (O0.out.q_ hb);replace R1:=zk (R1.out.q_ hb)
 replace hi2:i2=0:=hi2;subst hi2;have R2:=zk (show Rn 8 w2 s2 x2 n2 c2 f2 y2 m2 d2 g2 (0:Int) from hv);clear hb hv;go_wp2_with fail
 refine (zeH (z:=4) (by decide) (by decide)).mono ?_;rintro e w3 ⟨v3,rfl,hb,⟨⟨i3,⟨s3,x3,n3,c3,f3,y3,m3,d3,g3⟩⟩,ev,hi3,hv⟩⟩;replace ev:v3=.agg #[.int .i64 i3,.bool s3,.slice x3 n3 c3,.slice y3 m3 d3]:=ev;subst ev;replace HB:=zI HB hb;replace O0:=zk (O0.out.q_ hb);replace R1:=zk (R1.out.q_ hb);replace R2:=zk (R2.out.q_ hb)
 replace hi3:i3=0:=hi3;subst hi3;have R3:=zk (show Rn 8 w3 s3 x3 n3 c3 f3 y3 m3 d3 g3 (4:Int) from hv);clear hb hv;obtain ⟨hx1,hx2,hx3⟩:=zfb [.string z,.bool s1,.slice x1 n1 c1,.slice y1 m1 d1,.int .i64 0,.bool s2,.slice x2 n2 c2,.slice y2 m2 d2,.int .i64 0,.bool s3,.slice x3 n3 c3,.slice y3 m3 d3] O0.out (zab (fun u hu q=>by simp at hu;rcases hu with rfl | rfl | rfl | rfl | rfl | rfl | rfl | rfl | rfl <;> simp)) HB.out (le_refl _);obtain ⟨l0,l1,l2,l3,l4,l5,l6,l7,l8,l9,l10,l11⟩:=zjs O0.out;have ff:=O0.out.frozen;have HX:Hid (Bl w (stl w.heap.size 0 [.string z,.bool s1,.slice x1 n1 c1,.slice y1 m1 d1,.int .i64 0,.bool s2,.slice x2 n2 c2,.slice y2 m2 d2,.int .i64 0,.bool s3,.slice x3 n3 c3,.slice y3 m3 d3] w3)/\GC 8 ⟨z,-1,0,0,0,4⟩ (.agg #[.string z,.bool s1,.slice x1 n1 c1,.slice y1 m1 d1,.int .i64 0,.bool s2,.slice x2 n2 c2,.slice y2 m2 d2,.int .i64 0,.bool s3,.slice x3 n3 c3,.slice y3 m3 d3]) (stl w.heap.size 0 [.string z,.bool s1,.slice x1 n1 c1,.slice y1 m1 d1,.int .i64 0,.bool s2,.slice x2 n2 c2,.slice y2 m2 d2,.int .i64 0,.bool s3,.slice x3 n3 c3,.slice y3 m3 d3] w3)):=⟨hx1,⟨⟨z,⟨s1,x1,n1,c1,f1,y1,m1,d1,g1⟩,⟨0,⟨s2,x2,n2,c2,f2,y2,m2,d2,g2⟩⟩,⟨0,⟨s3,x3,n3,c3,f3,y3,m3,d3,g3⟩⟩⟩,rfl,rfl,Rn.kp R1.out hx2,rfl,Rn.kp R2.out hx2,rfl,Rn.kp R3.out hx2⟩⟩;clear hx1 hx2 hx3 HB O0;go_wp2;exact bodyPost_ret (v:=.agg #[.string z,.bool s1,.slice x1 n1 c1,.slice y1 m1 d1,.int .i64 0,.bool s2,.slice x2 n2 c2,.slice y2 m2 d2,.int .i64 0,.bool s3,.slice x3 n3 c3,.slice y3 m3 d3]) (by simp [results,results53,go_sem,l0,l1,l2,l3,l4,l5,l6,l7,l8,l9,l10,l11]) rfl ⟨_,rfl,HX.out⟩
theorem zhV:Lo 4 (((-1:Int):Rat)/2):=⟨by decide +kernel,by decide +kernel⟩
theorem zcA {w} {z:Int} (h0:-1000<=z) (h1:z<=1000) (hl:Lo 4 ((z:Rat)/2)):Calls prog 21 #[.int .i64 z] w fun e w'=>∃s x n c f y m d g,e=.returned (.agg #[.bool s,.slice x n c,.slice y m d])/\Bl w w'/\Hid (Rn 4 w' s x n c f y m d g ((z:Rat)/2)):=by
 have HB:=zk (zB w (.cells #[.bool false,.slice none 0 0,.slice none 0 0] 24));have O0:=zk (zH w [.bool false,.slice none 0 0,.slice none 0 0] 24);go_enter func21,ntmps21;go_wp2_with fail
 generalize w.alloc (.cells #[.bool false,.slice none 0 0,.slice none 0 0] 24)=w0 at *;refine (zfk (z:=z) (by omega) (by omega)).mono ?_;rintro e w1 ⟨s1,x1,n1,c1,d1,y1,m1,e1,g1,rfl,hb,hn1,hm1,hq⟩;replace HB:=zI HB hb;replace O0:=zk (O0.out.q_ hb)
 have Q1:=zk hq;clear hb hq;go_wp2_with fail
 refine (zfk (z:=2) (by decide) (by decide)).mono ?_;rintro e w2 ⟨s2,x2,n2,c2,d2,y2,m2,e2,g2,rfl,hb,hn2,hm2,hq⟩;replace HB:=zI HB hb;replace O0:=zk (O0.out.q_ hb);replace Q1:=zk (Q1.out.q_ hb)
 have Q2:=zk hq;clear hb hq;go_wp2_with fail
 refine (zqR Q1.out Q2.out (by omega) (by omega) (by omega) (by omega) (by decide)).mono ?_;rintro e w3 ⟨s3,x3,n3,c3,d3,y3,m3,e3,g3,rfl,hb,hn3,hm3,hq⟩;replace HB:=zI HB hb;replace O0:=zk (O0.out.q_ hb);replace Q1:=zk (Q1.out.q_ hb);replace Q2:=zk (Q2.out.q_ hb)
 have Q3:=zk hq;clear hb hq;go_wp2_with fail
 refine (zfj Q3.out (by omega) (by omega)).mono ?_;rintro e w4 ⟨z4,k4,t4,f4,v4,l4,u4,g4,rfl,hb,hr⟩;replace HB:=zI HB hb;replace O0:=zk (O0.out.q_ hb);replace Q1:=zk (Q1.out.q_ hb);replace Q2:=zk (Q2.out.q_ hb);replace Q3:=zk (Q3.out.q_ hb)
 have R4:=zk (hr.out.cut (show Lo 4 ((z:Rat)/((2:Int):Rat)) from hl));clear hb hr Q1 Q2 Q3;obtain ⟨hx1,hx2,hx3⟩:=zfb [.bool s3,.slice z4 k4 t4,.slice v4 l4 u4] O0.out (zab (fun u hu q=>by simp at hu;rcases hu with rfl | rfl <;> simp)) HB.out (le_refl _);obtain ⟨l0,l1,l2⟩:=bk3 O0.out;have ff:=O0.out.frozen;have HX:Hid (Bl w (stl w.heap.size 0 [.bool s3,.slice z4 k4 t4,.slice v4 l4 u4] w4)/\Hid (Rn 4 (stl w.heap.size 0 [.bool s3,.slice z4 k4 t4,.slice v4 l4 u4] w4) s3 z4 k4 t4 f4 v4 l4 u4 g4 ((z:Rat)/2))):=⟨hx1,zk (Rn.kp R4.out hx2)⟩;clear hx1 hx2 hx3 HB O0;go_wp2;exact bodyPost_ret (v:=.agg #[.bool s3,.slice z4 k4 t4,.slice v4 l4 u4]) (by simp [results,results21,go_sem,l0,l1,l2]) rfl ⟨_,_,_,_,_,_,_,_,_,rfl,HX.out⟩
theorem zqY {w B o s x1 x2 x3 n1 n2 n3 c1 c2 c3 t} (h:Bk w B [.slice x1 n1 c1,.slice x2 n2 c2,.slice x3 n3 c3] t):w.cell? ⟨B,o,none⟩≠some (.bool s):=fun e=>by
 unfold Bk at h;simp only [World.cell?,h] at e
 match o,e with
 | 0,e=>simp at e
 | 1,e=>simp at e
 | 2,e=>simp at e
 | o+3,e=>simp at e
theorem Rf.kpo {L w w' ao B p} (h:Rf L w ao p) (hk:Kp w w') (hne:∀k,k≠B->w'.heap[k]?=w.heap[k]?) (hno:∀o s,w.cell? ⟨B,o,none⟩≠some (.bool s)):Rf L w' ao p:=fun j q e=>by
 obtain ⟨b,o,t,h1,h2,h3⟩:=h j q e;have hb:b≠B:=fun e'=>by subst e';exact hno _ _ h2.x0
 have hc:∀i,w'.cell? ⟨b,i,none⟩=w.cell? ⟨b,i,none⟩:=fun i=>by simp only [World.cell?,hne b hb]
 exact ⟨b,o,t,h1,⟨(hc _).trans h2.x0,(hc _).trans h2.x1,(hc _).trans h2.x2⟩,Rn.kp h3 hk⟩
theorem best11_c {w}:Calls prog 23 #[] w fun e w'=>∃a b c,e=.returned (.agg #[.slice a 2 2,.slice b 1 1,.slice c 2 2])/\Bl w w'/\Hid (Rf 8 w' a [((4:Int):Rat),((1:Int):Rat)]/\Rf 8 w' b [((-1:Int):Rat)/2]/\Rf 8 w' c [((-1:Int):Rat)/2,((0:Int):Rat)]):=by
 have HB:=zk (zB w (.cells #[.slice none 0 0,.slice none 0 0,.slice none 0 0] 50));have O0:=zk (zH w [.slice none 0 0,.slice none 0 0,.slice none 0 0] 50);go_enter func23,ntmps23;go_wp2_with fail
 generalize w.alloc (.cells #[.slice none 0 0,.slice none 0 0,.slice none 0 0] 50)=w0 at *;refine (zbk (z:=4) (by decide) (by decide)).mono ?_;rintro e w1 ⟨s1,x1,n1,c1,f1,y1,m1,d1,g1,rfl,hb,hr⟩;replace HB:=zI HB hb;replace O0:=zk (O0.out.q_ hb)
 have R1:=zk (hr.mono (show 4<=8 by decide));clear hb hr;go_wp2_with fail
 refine (zbk (z:=1) (by decide) (by decide)).mono ?_;rintro e w2 ⟨s2,x2,n2,c2,f2,y2,m2,d2,g2,rfl,hb,hr⟩;replace HB:=zI HB hb;replace O0:=zk (O0.out.q_ hb);replace R1:=zk (R1.out.q_ hb)
 have R2:=zk (hr.mono (show 4<=8 by decide));clear hb hr;have hn:=zB w2 (.cells #[.bool s1,.slice x1 n1 c1,.slice y1 m1 d1,.bool s2,.slice x2 n2 c2,.slice y2 m2 d2] 24);have X1:=zk (show Rf 8 (w2.alloc (.cells #[.bool s1,.slice x1 n1 c1,.slice y1 m1 d1,.bool s2,.slice x2 n2 c2,.slice y2 m2 d2] 24)) (some ⟨w2.heap.size,0,none⟩) [((4:Int):Rat),((1:Int):Rat)] from zmD (R1.out.mono (by decide)) (R2.out.mono (by decide)));replace HB:=zI HB hn;replace O0:=zk (O0.out.q_ hn);replace R1:=zk (R1.out.q_ hn);replace R2:=zk (R2.out.q_ hn)
 clear hn;go_wp2_with fail
 generalize w2.alloc (.cells #[.bool s1,.slice x1 n1 c1,.slice y1 m1 d1,.bool s2,.slice x2 n2 c2,.slice y2 m2 d2] 24)=vX1 at *;generalize w2.heap.size=pX1 at *;refine (zcA (z:=(-1)) (by decide) (by decide) zhV).mono ?_;rintro e w3 ⟨s3,x3,n3,c3,f3,y3,m3,d3,g3,rfl,hb,hr⟩;replace HB:=zI HB hb;replace O0:=zk (O0.out.q_ hb);replace R1:=zk (R1.out.q_ hb);replace R2:=zk (R2.out.q_ hb);replace X1:=zk (X1.out.q_ hb)
 have R3:=zk hr.out;clear hb hr;have hn:=zB w3 (.cells #[.bool s3,.slice x3 n3 c3,.slice y3 m3 d3] 24);have X2:=zk (show Rf 8 (w3.alloc (.cells #[.bool s3,.slice x3 n3 c3,.slice y3 m3 d3] 24)) (some ⟨w3.heap.size,0,none⟩) [((-1:Int):Rat)/2] from (zhf (base:=0) (R3.out.mono (by decide)) (Nat.zero_le _)).rf);replace HB:=zI HB hn;replace O0:=zk (O0.out.q_ hn);replace R1:=zk (R1.out.q_ hn);replace R2:=zk (R2.out.q_ hn);replace X1:=zk (X1.out.q_ hn);replace R3:=zk (R3.out.q_ hn)
 clear hn;go_wp2_with fail
 generalize w3.alloc (.cells #[.bool s3,.slice x3 n3 c3,.slice y3 m3 d3] 24)=vX2 at *;generalize w3.heap.size=pX2 at *;refine (zcA (z:=(-1)) (by decide) (by decide) zhV).mono ?_;rintro e w4 ⟨s4,x4,n4,c4,f4,y4,m4,d4,g4,rfl,hb,hr⟩;replace HB:=zI HB hb;replace O0:=zk (O0.out.q_ hb);replace R1:=zk (R1.out.q_ hb);replace R2:=zk (R2.out.q_ hb);replace X1:=zk (X1.out.q_ hb);replace R3:=zk (R3.out.q_ hb);replace X2:=zk (X2.out.q_ hb)
 have R4:=zk hr.out;clear hb hr;go_wp2_with fail
 refine (zbk (z:=0) (by decide) (by decide)).mono ?_;rintro e w5 ⟨s5,x5,n5,c5,f5,y5,m5,d5,g5,rfl,hb,hr⟩;replace HB:=zI HB hb;replace O0:=zk (O0.out.q_ hb);replace R1:=zk (R1.out.q_ hb);replace R2:=zk (R2.out.q_ hb);replace X1:=zk (X1.out.q_ hb);replace R3:=zk (R3.out.q_ hb);replace X2:=zk (X2.out.q_ hb);replace R4:=zk (R4.out.q_ hb)
 have R5:=zk (hr.mono (show 4<=8 by decide));clear hb hr;have hn:=zB w5 (.cells #[.bool s4,.slice x4 n4 c4,.slice y4 m4 d4,.bool s5,.slice x5 n5 c5,.slice y5 m5 d5] 24);have X3:=zk (show Rf 8 (w5.alloc (.cells #[.bool s4,.slice x4 n4 c4,.slice y4 m4 d4,.bool s5,.slice x5 n5 c5,.slice y5 m5 d5] 24)) (some ⟨w5.heap.size,0,none⟩) [((-1:Int):Rat)/2,((0:Int):Rat)] from zmD (R4.out.mono (by decide)) (R5.out.mono (by decide)));replace HB:=zI HB hn;replace O0:=zk (O0.out.q_ hn);replace R1:=zk (R1.out.q_ hn);replace R2:=zk (R2.out.q_ hn);replace X1:=zk (X1.out.q_ hn);replace R3:=zk (R3.out.q_ hn);replace X2:=zk (X2.out.q_ hn);replace R4:=zk (R4.out.q_ hn);replace R5:=zk (R5.out.q_ hn)
 clear hn R1 R2 R3 R4 R5;obtain ⟨hx1,hx2,hx3⟩:=zfb [.slice (some ⟨pX1,0,none⟩) 2 2,.slice (some ⟨pX2,0,none⟩) 1 1,.slice (some ⟨w5.heap.size,0,none⟩) 2 2] O0.out (zab (fun u hu q=>by simp at hu;subst hu;simp)) HB.out (le_refl _);obtain ⟨l0,l1,l2⟩:=bk3 O0.out;have ff:=O0.out.frozen;have HX:Hid (Bl w (stl w.heap.size 0 [.slice (some ⟨pX1,0,none⟩) 2 2,.slice (some ⟨pX2,0,none⟩) 1 1,.slice (some ⟨w5.heap.size,0,none⟩) 2 2] (w5.alloc (.cells #[.bool s4,.slice x4 n4 c4,.slice y4 m4 d4,.bool s5,.slice x5 n5 c5,.slice y5 m5 d5] 24)))/\Hid (Rf 8 (stl w.heap.size 0 [.slice (some ⟨pX1,0,none⟩) 2 2,.slice (some ⟨pX2,0,none⟩) 1 1,.slice (some ⟨w5.heap.size,0,none⟩) 2 2] (w5.alloc (.cells #[.bool s4,.slice x4 n4 c4,.slice y4 m4 d4,.bool s5,.slice x5 n5 c5,.slice y5 m5 d5] 24))) (some ⟨pX1,0,none⟩) [((4:Int):Rat),((1:Int):Rat)]/\Rf 8 (stl w.heap.size 0 [.slice (some ⟨pX1,0,none⟩) 2 2,.slice (some ⟨pX2,0,none⟩) 1 1,.slice (some ⟨w5.heap.size,0,none⟩) 2 2] (w5.alloc (.cells #[.bool s4,.slice x4 n4 c4,.slice y4 m4 d4,.bool s5,.slice x5 n5 c5,.slice y5 m5 d5] 24))) (some ⟨pX2,0,none⟩) [((-1:Int):Rat)/2]/\Rf 8 (stl w.heap.size 0 [.slice (some ⟨pX1,0,none⟩) 2 2,.slice (some ⟨pX2,0,none⟩) 1 1,.slice (some ⟨w5.heap.size,0,none⟩) 2 2] (w5.alloc (.cells #[.bool s4,.slice x4 n4 c4,.slice y4 m4 d4,.bool s5,.slice x5 n5 c5,.slice y5 m5 d5] 24))) (some ⟨w5.heap.size,0,none⟩) [((-1:Int):Rat)/2,((0:Int):Rat)])):=⟨hx1,zk ⟨X1.out.kpo hx2 hx3 (fun o s=>zqY O0.out),X2.out.kpo hx2 hx3 (fun o s=>zqY O0.out),X3.out.kpo hx2 hx3 (fun o s=>zqY O0.out)⟩⟩;clear hx1 hx2 hx3 HB O0;go_wp2;exact bodyPost_ret (v:=.agg #[.slice (some ⟨pX1,0,none⟩) 2 2,.slice (some ⟨pX2,0,none⟩) 1 1,.slice (some ⟨w5.heap.size,0,none⟩) 2 2]) (by simp [results,results23,go_sem,l0,l1,l2]) rfl ⟨_,_,_,rfl,HX.out⟩
def k2C:List CV:=[⟨⟨#[120]⟩,-1,0,0,0,4⟩,⟨⟨#[121]⟩,-1,0,0,0,4⟩]
def k2R:List RV:=[⟨⟨#[114]⟩,-1,0,0,6,[(0,1),(1,2)]⟩]
theorem first11_c {w}:Calls prog 20 #[] w fun e w'=>∃M:Mo,e=.returned M.val/\Bl w w'/\Hid (MoV 8 w' M 3 k2C k2R):=by
 have HB:=zk (zB w (.cells #[.bool false,.slice none 0 0,.slice none 0 0,.slice none 0 0,.slice none 0 0] 28));have O0:=zk (zH w [.bool false,.slice none 0 0,.slice none 0 0,.slice none 0 0,.slice none 0 0] 28);go_enter func20,ntmps20;go_wp2_with fail
 generalize w.alloc (.cells #[.bool false,.slice none 0 0,.slice none 0 0,.slice none 0 0,.slice none 0 0] 28)=w0 at *;refine (zbk (z:=3) (by decide) (by decide)).mono ?_;rintro e w1 ⟨s1,x1,n1,c1,f1,y1,m1,d1,g1,rfl,hb,hr⟩;replace HB:=zI HB hb;replace O0:=zk (O0.out.q_ hb)
 have R1:=zk (hr.mono (show 4<=8 by decide));clear hb hr;go_wp2_with fail
 refine (zkG (z:=⟨#[120]⟩)).mono ?_;rintro e w2 ⟨v2,rfl,hb,⟨⟨z2,⟨sb2,xb2,nb2,cb2,fb2,yb2,mb2,db2,gb2⟩,⟨ic2,⟨sc2,xc2,nc2,cc2,fc2,yc2,mc2,dc2,gc2⟩⟩,⟨id2,⟨sd2,xd2,nd2,cd2,fd2,yd2,md2,dd2,gd2⟩⟩⟩,ev,hv⟩⟩;replace ev:v2=.agg #[.string z2,.bool sb2,.slice xb2 nb2 cb2,.slice yb2 mb2 db2,.int .i64 ic2,.bool sc2,.slice xc2 nc2 cc2,.slice yc2 mc2 dc2,.int .i64 id2,.bool sd2,.slice xd2 nd2 cd2,.slice yd2 md2 dd2]:=ev;subst ev;replace HB:=zI HB hb;replace O0:=zk (O0.out.q_ hb);replace R1:=zk (R1.out.q_ hb)
 have R2:=zk hv;clear hb hv;go_wp2_with fail
 refine (zkG (z:=⟨#[121]⟩)).mono ?_;rintro e w3 ⟨v3,rfl,hb,⟨⟨z3,⟨sb3,xb3,nb3,cb3,fb3,yb3,mb3,db3,gb3⟩,⟨ic3,⟨sc3,xc3,nc3,cc3,fc3,yc3,mc3,dc3,gc3⟩⟩,⟨id3,⟨sd3,xd3,nd3,cd3,fd3,yd3,md3,dd3,gd3⟩⟩⟩,ev,hv⟩⟩;replace ev:v3=.agg #[.string z3,.bool sb3,.slice xb3 nb3 cb3,.slice yb3 mb3 db3,.int .i64 ic3,.bool sc3,.slice xc3 nc3 cc3,.slice yc3 mc3 dc3,.int .i64 id3,.bool sd3,.slice xd3 nd3 cd3,.slice yd3 md3 dd3]:=ev;subst ev;replace HB:=zI HB hb;replace O0:=zk (O0.out.q_ hb);replace R1:=zk (R1.out.q_ hb);replace R2:=zk (R2.out.q_ hb)
 have R3:=zk hv;clear hb hv;have hn:=zB w3 (.cells #[.string z2,.bool sb2,.slice xb2 nb2 cb2,.slice yb2 mb2 db2,.int .i64 ic2,.bool sc2,.slice xc2 nc2 cc2,.slice yc2 mc2 dc2,.int .i64 id2,.bool sd2,.slice xd2 nd2 cd2,.slice yd2 md2 dd2,.string z3,.bool sb3,.slice xb3 nb3 cb3,.slice yb3 mb3 db3,.int .i64 ic3,.bool sc3,.slice xc3 nc3 cc3,.slice yc3 mc3 dc3,.int .i64 id3,.bool sd3,.slice xd3 nd3 cd3,.slice yd3 md3 dd3] 65);have HC:Hid (Cs (w3.alloc (.cells #[.string z2,.bool sb2,.slice xb2 nb2 cb2,.slice yb2 mb2 db2,.int .i64 ic2,.bool sc2,.slice xc2 nc2 cc2,.slice yc2 mc2 dc2,.int .i64 id2,.bool sd2,.slice xd2 nd2 cd2,.slice yd2 md2 dd2,.string z3,.bool sb3,.slice xb3 nb3 cb3,.slice yb3 mb3 db3,.int .i64 ic3,.bool sc3,.slice xc3 nc3 cc3,.slice yc3 mc3 dc3,.int .i64 id3,.bool sd3,.slice xd3 nd3 cd3,.slice yd3 md3 dd3] 65)) w3.heap.size 0 [.string z2,.bool sb2,.slice xb2 nb2 cb2,.slice yb2 mb2 db2,.int .i64 ic2,.bool sc2,.slice xc2 nc2 cc2,.slice yc2 mc2 dc2,.int .i64 id2,.bool sd2,.slice xd2 nd2 cd2,.slice yd2 md2 dd2]/\Cs (w3.alloc (.cells #[.string z2,.bool sb2,.slice xb2 nb2 cb2,.slice yb2 mb2 db2,.int .i64 ic2,.bool sc2,.slice xc2 nc2 cc2,.slice yc2 mc2 dc2,.int .i64 id2,.bool sd2,.slice xd2 nd2 cd2,.slice yd2 md2 dd2,.string z3,.bool sb3,.slice xb3 nb3 cb3,.slice yb3 mb3 db3,.int .i64 ic3,.bool sc3,.slice xc3 nc3 cc3,.slice yc3 mc3 dc3,.int .i64 id3,.bool sd3,.slice xd3 nd3 cd3,.slice yd3 md3 dd3] 65)) w3.heap.size 12 [.string z3,.bool sb3,.slice xb3 nb3 cb3,.slice yb3 mb3 db3,.int .i64 ic3,.bool sc3,.slice xc3 nc3 cc3,.slice yc3 mc3 dc3,.int .i64 id3,.bool sd3,.slice xd3 nd3 cd3,.slice yd3 md3 dd3]):=znG w3 65 [.string z2,.bool sb2,.slice xb2 nb2 cb2,.slice yb2 mb2 db2,.int .i64 ic2,.bool sc2,.slice xc2 nc2 cc2,.slice yc2 mc2 dc2,.int .i64 id2,.bool sd2,.slice xd2 nd2 cd2,.slice yd2 md2 dd2] [.string z3,.bool sb3,.slice xb3 nb3 cb3,.slice yb3 mb3 db3,.int .i64 ic3,.bool sc3,.slice xc3 nc3 cc3,.slice yc3 mc3 dc3,.int .i64 id3,.bool sd3,.slice xd3 nd3 cd3,.slice yd3 md3 dd3];replace HB:=zI HB hn;replace O0:=zk (O0.out.q_ hn);replace R1:=zk (R1.out.q_ hn);replace R2:=zk (R2.out.q_ hn);replace R3:=zk (R3.out.q_ hn)
 clear hn;go_wp2_with fail
 generalize hw8:w3.alloc (.cells #[.string z2,.bool sb2,.slice xb2 nb2 cb2,.slice yb2 mb2 db2,.int .i64 ic2,.bool sc2,.slice xc2 nc2 cc2,.slice yc2 mc2 dc2,.int .i64 id2,.bool sd2,.slice xd2 nd2 cd2,.slice yd2 md2 dd2,.string z3,.bool sb3,.slice xb3 nb3 cb3,.slice yb3 mb3 db3,.int .i64 ic3,.bool sc3,.slice xc3 nc3 cc3,.slice yc3 mc3 dc3,.int .i64 id3,.bool sd3,.slice xd3 nd3 cd3,.slice yd3 md3 dd3] 65)=w4 at *;clear hw8;generalize w3.heap.size=bc at *;have HC1:=zk HC.out.1;have HC2:=zk HC.out.2
 clear HC;refine (xLow_c).mono ?_;rintro e w5 ⟨s5,x5,n5,c5,f5,y5,m5,d5,g5,rfl,hb,hF⟩;replace HB:=zI HB hb;replace O0:=zk (O0.out.q_ hb);replace R1:=zk (R1.out.q_ hb);replace R2:=zk (R2.out.q_ hb);replace R3:=zk (R3.out.q_ hb);replace HC1:=zk (HC1.out.q_ hb);replace HC2:=zk (HC2.out.q_ hb)
 clear hb;go_wp2_with fail
 refine (zlQ hF.out.2.2 (by have:=hF.out;omega) (by have:=hF.out;omega)).mono ?_;rintro e w6 ⟨x6,n6,c6,f6,y6,m6,d6,g6,rfl,hb,hE⟩;replace HB:=zI HB hb;replace O0:=zk (O0.out.q_ hb);replace R1:=zk (R1.out.q_ hb);replace R2:=zk (R2.out.q_ hb);replace R3:=zk (R3.out.q_ hb);replace HC1:=zk (HC1.out.q_ hb);replace HC2:=zk (HC2.out.q_ hb)
 have R6:=zk (hE.out.rn.mono (show _<=8 by have:=hF.out;omega));clear hb hE hF;generalize s5=s6 at *;go_wp2_with fail
 refine (zeH (z:=6) (by decide) (by decide)).mono ?_;rintro e w7 ⟨v7,rfl,hb,⟨⟨i7,⟨s7,x7,n7,c7,f7,y7,m7,d7,g7⟩⟩,ev,hi7,hv⟩⟩;replace ev:v7=.agg #[.int .i64 i7,.bool s7,.slice x7 n7 c7,.slice y7 m7 d7]:=ev;subst ev;replace HB:=zI HB hb;replace O0:=zk (O0.out.q_ hb);replace R1:=zk (R1.out.q_ hb);replace R2:=zk (R2.out.q_ hb);replace R3:=zk (R3.out.q_ hb);replace HC1:=zk (HC1.out.q_ hb);replace HC2:=zk (HC2.out.q_ hb);replace R6:=zk (R6.out.q_ hb)
 replace hi7:i7=0:=hi7;subst hi7;have R7:=zk (show Rn 8 w7 s7 x7 n7 c7 f7 y7 m7 d7 g7 (6:Int) from hv);clear hb hv;go_wp2_with fail
 refine (zbk (z:=1) (by decide) (by decide)).mono ?_;rintro e w8 ⟨s8,x8,n8,c8,f8,y8,m8,d8,g8,rfl,hb,hr⟩;replace HB:=zI HB hb;replace O0:=zk (O0.out.q_ hb);replace R1:=zk (R1.out.q_ hb);replace R2:=zk (R2.out.q_ hb);replace R3:=zk (R3.out.q_ hb);replace HC1:=zk (HC1.out.q_ hb);replace HC2:=zk (HC2.out.q_ hb);replace R6:=zk (R6.out.q_ hb);replace R7:=zk (R7.out.q_ hb)
 have R8:=zk (hr.mono (show 4<=8 by decide));clear hb hr;go_wp2_with fail
 refine (zbk (z:=2) (by decide) (by decide)).mono ?_;rintro e w9 ⟨s9,x9,n9,c9,f9,y9,m9,d9,g9,rfl,hb,hr⟩;replace HB:=zI HB hb;replace O0:=zk (O0.out.q_ hb);replace R1:=zk (R1.out.q_ hb);replace R2:=zk (R2.out.q_ hb);replace R3:=zk (R3.out.q_ hb);replace HC1:=zk (HC1.out.q_ hb);replace HC2:=zk (HC2.out.q_ hb);replace R6:=zk (R6.out.q_ hb);replace R7:=zk (R7.out.q_ hb);replace R8:=zk (R8.out.q_ hb)
 have R9:=zk (hr.mono (show 4<=8 by decide));clear hb hr;have hn:=zB w9 (.cells #[.int .i64 0,.bool s8,.slice x8 n8 c8,.slice y8 m8 d8,.int .i64 1,.bool s9,.slice x9 n9 c9,.slice y9 m9 d9] 70);have HT:Hid (GT [(0,⟨s8,x8,n8,c8,f8,y8,m8,d8,g8⟩),(1,⟨s9,x9,n9,c9,f9,y9,m9,d9,g9⟩)] (.slice (some ⟨w9.heap.size,0,none⟩) 2 2) (w9.alloc (.cells #[.int .i64 0,.bool s8,.slice x8 n8 c8,.slice y8 m8 d8,.int .i64 1,.bool s9,.slice x9 n9 c9,.slice y9 m9 d9] 70))):=zpt w9 70 0 1 ⟨s8,x8,n8,c8,f8,y8,m8,d8,g8⟩ ⟨s9,x9,n9,c9,f9,y9,m9,d9,g9⟩;replace HB:=zI HB hn;replace O0:=zk (O0.out.q_ hn);replace R1:=zk (R1.out.q_ hn);replace R2:=zk (R2.out.q_ hn);replace R3:=zk (R3.out.q_ hn);replace HC1:=zk (HC1.out.q_ hn);replace HC2:=zk (HC2.out.q_ hn);replace R6:=zk (R6.out.q_ hn);replace R7:=zk (R7.out.q_ hn);replace R8:=zk (R8.out.q_ hn);replace R9:=zk (R9.out.q_ hn)
 clear hn;have hn:=zu (Below.refl (w9.alloc (.cells #[.int .i64 0,.bool s8,.slice x8 n8 c8,.slice y8 m8 d8,.int .i64 1,.bool s9,.slice x9 n9 c9,.slice y9 m9 d9] 70)).heap.size (w9.alloc (.cells #[.int .i64 0,.bool s8,.slice x8 n8 c8,.slice y8 m8 d8,.int .i64 1,.bool s9,.slice x9 n9 c9,.slice y9 m9 d9] 70))) (.cells #[.string ⟨#[114]⟩,.int .i64 (-1),.bool s6,.slice x6 n6 c6,.slice y6 m6 d6,.int .i64 0,.bool s7,.slice x7 n7 c7,.slice y7 m7 d7,.slice (some ⟨w9.heap.size,0,none⟩) 2 2] 68);have HRs:Hid (Cs ((w9.alloc (.cells #[.int .i64 0,.bool s8,.slice x8 n8 c8,.slice y8 m8 d8,.int .i64 1,.bool s9,.slice x9 n9 c9,.slice y9 m9 d9] 70)).alloc (.cells #[.string ⟨#[114]⟩,.int .i64 (-1),.bool s6,.slice x6 n6 c6,.slice y6 m6 d6,.int .i64 0,.bool s7,.slice x7 n7 c7,.slice y7 m7 d7,.slice (some ⟨w9.heap.size,0,none⟩) 2 2] 68)) (w9.alloc (.cells #[.int .i64 0,.bool s8,.slice x8 n8 c8,.slice y8 m8 d8,.int .i64 1,.bool s9,.slice x9 n9 c9,.slice y9 m9 d9] 70)).heap.size 0 [.string ⟨#[114]⟩,.int .i64 (-1),.bool s6,.slice x6 n6 c6,.slice y6 m6 d6,.int .i64 0,.bool s7,.slice x7 n7 c7,.slice y7 m7 d7,.slice (some ⟨w9.heap.size,0,none⟩) 2 2]):=zdj (w9.alloc (.cells #[.int .i64 0,.bool s8,.slice x8 n8 c8,.slice y8 m8 d8,.int .i64 1,.bool s9,.slice x9 n9 c9,.slice y9 m9 d9] 70)) 68 [.string ⟨#[114]⟩,.int .i64 (-1),.bool s6,.slice x6 n6 c6,.slice y6 m6 d6,.int .i64 0,.bool s7,.slice x7 n7 c7,.slice y7 m7 d7,.slice (some ⟨w9.heap.size,0,none⟩) 2 2] [.string ⟨#[114]⟩,.int .i64 (-1),.bool s6,.slice x6 n6 c6,.slice y6 m6 d6,.int .i64 0,.bool s7,.slice x7 n7 c7,.slice y7 m7 d7,.slice (some ⟨w9.heap.size,0,none⟩) 2 2] 0 (fun j v e=>by rw [zero_add];exact e);replace HB:=zI HB hn;replace O0:=zk (O0.out.q_ hn);replace R1:=zk (R1.out.q_ hn);replace R2:=zk (R2.out.q_ hn);replace R3:=zk (R3.out.q_ hn);replace HC1:=zk (HC1.out.q_ hn);replace HC2:=zk (HC2.out.q_ hn);replace R6:=zk (R6.out.q_ hn);replace R7:=zk (R7.out.q_ hn);replace R8:=zk (R8.out.q_ hn);replace R9:=zk (R9.out.q_ hn);replace HT:=zk (HT.out.q_ hn)
 clear hn;rw [zz] at HRs;have HMo:Hid (MoV 8 ((w9.alloc (.cells #[.int .i64 0,.bool s8,.slice x8 n8 c8,.slice y8 m8 d8,.int .i64 1,.bool s9,.slice x9 n9 c9,.slice y9 m9 d9] 70)).alloc (.cells #[.string ⟨#[114]⟩,.int .i64 (-1),.bool s6,.slice x6 n6 c6,.slice y6 m6 d6,.int .i64 0,.bool s7,.slice x7 n7 c7,.slice y7 m7 d7,.slice (some ⟨w9.heap.size,0,none⟩) 2 2] 68)) ⟨⟨s1,x1,n1,c1,f1,y1,m1,d1,g1⟩,some ⟨bc,0,none⟩,2,2,(fun j=>if j=0 then ⟨z2,⟨sb2,xb2,nb2,cb2,fb2,yb2,mb2,db2,gb2⟩,⟨ic2,⟨sc2,xc2,nc2,cc2,fc2,yc2,mc2,dc2,gc2⟩⟩,⟨id2,⟨sd2,xd2,nd2,cd2,fd2,yd2,md2,dd2,gd2⟩⟩⟩ else ⟨z3,⟨sb3,xb3,nb3,cb3,fb3,yb3,mb3,db3,gb3⟩,⟨ic3,⟨sc3,xc3,nc3,cc3,fc3,yc3,mc3,dc3,gc3⟩⟩,⟨id3,⟨sd3,xd3,nd3,cd3,fd3,yd3,md3,dd3,gd3⟩⟩⟩),some ⟨w9.heap.size+1,0,none⟩,1,1,fun _=>⟨⟨#[114]⟩,⟨-1,⟨s6,x6,n6,c6,f6,y6,m6,d6,g6⟩⟩,⟨0,⟨s7,x7,n7,c7,f7,y7,m7,d7,g7⟩⟩,some ⟨w9.heap.size,0,none⟩,2,2,(fun p=>if p=0 then 0 else 1),(fun p=>if p=0 then ⟨s8,x8,n8,c8,f8,y8,m8,d8,g8⟩ else ⟨s9,x9,n9,c9,f9,y9,m9,d9,g9⟩)⟩⟩ 3 k2C k2R):=by
  refine ⟨R1.out,rfl,rfl,fun j v e=>?_,fun j v e=>?_⟩
  ·match j,e with
   | 0,e=>cases e;exact ⟨⟨_,0,rfl,HC1.out⟩,R2.out⟩
   | 1,e=>cases e;exact ⟨⟨_,0,rfl,HC2.out⟩,R3.out⟩
  ·match j,e with
   | 0,e =>
    cases e
    obtain ⟨bt,et,ht⟩:=HT.out;have et2:w9.heap.size=bt:=by injection et with et;injection et with et;injection et
    subst et2;refine ⟨⟨_,0,rfl,HRs.out⟩,rfl,rfl,R6.out,rfl,R7.out,rfl,fun p z q e=>?_⟩
    match p,e with
    | 0,e=>cases e;exact ⟨rfl,R8.out,_,0,rfl,ht 0 _ _ rfl⟩
    | 1,e=>cases e;exact ⟨rfl,R9.out,_,0,rfl,ht 1 _ _ rfl⟩
 obtain ⟨hk1,hk2⟩:=zja (v0:=.bool s1) (v1:=.slice x1 n1 c1) (v2:=.slice y1 m1 d1) (v3:=.slice (some ⟨bc,0,none⟩) 2 2) (v4:=.slice (some ⟨w9.heap.size+1,0,none⟩) 1 1) O0.out (ziU _ _ _ _ _ _ _ _ _ _ _ _ _) rfl;have HM2:=zk (HMo.out.kp hk1 hk2 (zsO O0.out));have HB2:=zk (zec (u0:=.bool s1) (u1:=.slice x1 n1 c1) (u2:=.slice y1 m1 d1) (u3:=.slice (some ⟨bc,0,none⟩) 2 2) (u4:=.slice (some ⟨w9.heap.size+1,0,none⟩) 1 1) HB.out (le_refl w.heap.size));obtain ⟨l0,l1,l2,l3,l4⟩:=bk5 O0.out;have ff:=O0.out.frozen;clear hk1 hk2 HMo HB O0 R1 R2 R3 R6 R7 R8 R9 HC1 HC2 HT HRs;go_wp2;exact bodyPost_ret (v:=.agg #[.bool s1,.slice x1 n1 c1,.slice y1 m1 d1,.slice (some ⟨bc,0,none⟩) 2 2,.slice (some ⟨w9.heap.size+1,0,none⟩) 1 1]) (by simp [results,results20,go_sem,l0,l1,l2,l3,l4]) rfl ⟨⟨⟨s1,x1,n1,c1,f1,y1,m1,d1,g1⟩,some ⟨bc,0,none⟩,2,2,(fun j=>if j=0 then ⟨z2,⟨sb2,xb2,nb2,cb2,fb2,yb2,mb2,db2,gb2⟩,⟨ic2,⟨sc2,xc2,nc2,cc2,fc2,yc2,mc2,dc2,gc2⟩⟩,⟨id2,⟨sd2,xd2,nd2,cd2,fd2,yd2,md2,dd2,gd2⟩⟩⟩ else ⟨z3,⟨sb3,xb3,nb3,cb3,fb3,yb3,mb3,db3,gb3⟩,⟨ic3,⟨sc3,xc3,nc3,cc3,fc3,yc3,mc3,dc3,gc3⟩⟩,⟨id3,⟨sd3,xd3,nd3,cd3,fd3,yd3,md3,dd3,gd3⟩⟩⟩),some ⟨w9.heap.size+1,0,none⟩,1,1,fun _=>⟨⟨#[114]⟩,⟨-1,⟨s6,x6,n6,c6,f6,y6,m6,d6,g6⟩⟩,⟨0,⟨s7,x7,n7,c7,f7,y7,m7,d7,g7⟩⟩,some ⟨w9.heap.size,0,none⟩,2,2,(fun p=>if p=0 then 0 else 1),(fun p=>if p=0 then ⟨s8,x8,n8,c8,f8,y8,m8,d8,g8⟩ else ⟨s9,x9,n9,c9,f9,y9,m9,d9,g9⟩)⟩⟩,rfl,HB2.out,HM2.out⟩
def rsR (rs:List RV) (ys xs:List Rat):List Bool:=List.zipWith (fun v y=>rsB y v.li v.lq v.hi v.hq (zbH xs v)) rs ys
def rsC (cs:List CV) (zs xs:List Rat):List Bool:=List.zipWith (fun v (t:Rat × Rat)=>rsB t.1 v.li v.lq v.hi v.hq t.2) cs (zs.zip xs)
def arB (cs:List CV) (rs:List RV) (xs ys zs:List Rat):Bool:=(rsR rs ys xs).all id && (rsC cs zs xs).all id
theorem zqF {rs ys xs} {i:Nat} {v y} (hv:rs[i]?=some v) (hy:ys[i]?=some y):(rsR rs ys xs)[i]?=some (rsB y v.li v.lq v.hi v.hq (zbH xs v)):=by
 unfold rsR;rw [List.getElem?_zipWith,hv,hy]
theorem zqG {cs zs xs} {i:Nat} {v z x} (hv:cs[i]?=some v) (hz:zs[i]?=some z) (hx:xs[i]?=some x):(rsC cs zs xs)[i]?=some (rsB z v.li v.lq v.hi v.hq x):=by
 unfold rsC;rw [List.getElem?_zipWith,hv,(List.getElem?_zip_eq_some (z:=(z,x))).2 ⟨hz,hx⟩]
theorem znT {l:List Bool} {i} (h:l[i]?=some true) (ha:(l.take i).all id=true):(l.take (i+1)).all id=true:=by
 rw [List.take_add_one,h,List.all_append,ha];rfl
theorem znU {l:List Bool} {i:Nat} (h:l[i]?=some false):l.all id=false:=List.all_eq_false.2 ⟨false,List.mem_of_getElem? h,by simp⟩
theorem zjp {w L M off cs rs a0 a1 a2 k0 c0 k1 c1 k2 c2 X xs ys zs} (hW:MoW w M) (hx:Rl w a0 k0 X) (hk:k0<=1048576) (he:zfp M k0 X=0) (hv:MoV L w M off cs rs) (hm:zbw cs rs=true) (h0:Rf L w a0 xs) (l0:xs.length=k0) (e0:k0=cs.length) (h1:Rf L w a1 ys) (l1:ys.length=k1) (e1:k1=rs.length) (h2:Rf (KV L) w a2 zs) (l2:zs.length=k2) (e2:k2=cs.length) (hL:L<=30) :
  Calls prog 50 #[M.val,.agg #[.slice a0 k0 c0,.slice a1 k1 c1,.slice a2 k2 c2]] w fun e w'=>e=.returned (.bool (arB cs rs xs ys zs))/\Bl w w':=by
 have CA:Hid (∀W,Bl w W->Calls prog 85 #[M.val,.slice a0 k0 c0] W fun e w'=>zoq L W w' e 0 rs xs):=fun W hW2=>zpa (hW.q_ hW2) (hx.q_ hW2) hk he (fun _=>⟨hv.q_ hW2,hm,h0.q_ hW2,l0,e0⟩) hL
 have mp:=zbj hm;have l64:=mp.cl;have r64:=mp.rl
 have HRB:=zk mp.rb;have HCB:=zk mp.cb
 obtain ⟨⟨s,x,n,c,f,y,m,d,g⟩,ca,ck,cc,C,ra,rk,rc,R⟩:=M;have HC:Hid (∀j v,cs[j]?=some v->(∃b o,ca=some ⟨b,o,none⟩/\Cs w b (o+j*12) (C j).vs)/\ColV L w (C j) v):=hv.cls;have HR:Hid (∀j v,rs[j]?=some v->(∃b o,ra=some ⟨b,o,none⟩/\Cs w b (o+j*10) (R j).vs)/\RowV L w (R j) v):=hv.rls;have hck:ck=cs.length:=hv.ck;have hrk:rk=rs.length:=hv.rk;subst hck;subst hrk
 subst e0;subst e1;subst e2
 have HX:=zk h0;have HY:=zk h1;have HZ:=zk h2;have HXL:=zk l0;have HYL:=zk l1;have HZL:=zk l2
 clear hW hx hk he hv hm h0 l0 h1 l1 h2 l2 mp;replace CA:Hid (∀W,Bl w W->Calls prog 85 #[.agg #[.bool s,.slice x n c,.slice y m d,.slice ca cs.length cc,.slice ra rs.length rc],.slice a0 cs.length c0] W fun e w'=>zoq L W w' e 0 rs xs):=CA;show Calls prog 50 #[.agg #[.bool s,.slice x n c,.slice y m d,.slice ca cs.length cc,.slice ra rs.length rc],.agg #[.slice a0 cs.length c0,.slice a1 rs.length c1,.slice a2 cs.length c2]] w _;have hb:=zu (zB w (.cells #[.bool s,.slice x n c,.slice y m d,.slice ca cs.length cc,.slice ra rs.length rc] 28)) (.cells #[.slice a0 cs.length c0,.slice a1 rs.length c1,.slice a2 cs.length c2] 50);have BM:=zk ((zH w [.bool s,.slice x n c,.slice y m d,.slice ca cs.length cc,.slice ra rs.length rc] 28).q_ (zB _ (.cells #[.slice a0 cs.length c0,.slice a1 rs.length c1,.slice a2 cs.length c2] 50)));have BP:=zgu w (.cells #[.bool s,.slice x n c,.slice y m d,.slice ca cs.length cc,.slice ra rs.length rc] 28) [.slice a0 cs.length c0,.slice a1 rs.length c1,.slice a2 cs.length c2] 50;have HB:=zk hb;replace BP:=zk BP
 clear hb;go_enter func50,ntmps50;go_upto_region 1 with fail
 generalize ((w.alloc (.cells #[.bool s,.slice x n c,.slice y m d,.slice ca cs.length cc,.slice ra rs.length rc] 28)).alloc (.cells #[.slice a0 cs.length c0,.slice a1 rs.length c1,.slice a2 cs.length c2] 50))=w1 at *;obtain ⟨r0,r1,r2,r3,r4⟩:=bk5 BM.out;obtain ⟨t0,t1,t2⟩:=bk3 BP.out;go_wp2_with fail
 clear r0 r1 r2 r3 r4 t0 t1 t2;refine (CA.out _ HB.out).mono ?_;rintro e w2 ⟨hb2,⟨h9,_⟩ | ⟨_,aa,ac,rfl,_,hq⟩⟩
 ·exact absurd rfl h9
 ·have HA:=zk hq;replace HB:=zI HB hb2;replace BM:=zk (BM.out.q_ hb2);replace BP:=zk (BP.out.q_ hb2)
  clear hb2 hq CA;have r4:=BM.out.cell (j:=4) rfl;go_wp2_with fail
  clear r4;go_loopw [21] (fun t wr=>∃(i:Nat),i<=rs.length/\t=.int .i64 i/\Hid (Bl w2 wr)/\Hid (((rsR rs ys xs).take i).all id=true)) (fun t _=>rs.length-(intOf t).toNat)
  case atStart=>exact ⟨0,by omega,rfl,Below.refl _ _,rfl⟩
  case round =>
   obtain ⟨i,hi,rfl,HB2,HO⟩:=hrel;by_cases hlt:i<rs.length
   ·obtain ⟨v,hv⟩:∃t,rs[i]?=some t:=⟨_,getElem?_eq_getElem (by omega)⟩;obtain ⟨yq,hyq⟩:∃t,ys[i]?=some t:=⟨_,getElem?_eq_getElem (by have:=HYL.out;omega)⟩;have hbw:=bUp HB.out HB2.out;obtain ⟨⟨b,o,hra,hc⟩,hRV⟩:=HR.out i v hv;subst hra;obtain ⟨⟨z,⟨i1,⟨s1,x1,n1,e1,f1,y1,m1,d1,g1⟩⟩,⟨i2,⟨s2,x2,n2,e2,f2,y2,m2,d2,g2⟩⟩,ta,tk,tc,tcol,tt⟩,hCi⟩:∃t,R i=t:=⟨_,rfl⟩;rw [hCi] at hc hRV;have q1e:i1=v.li:=hRV.li;have q2e:i2=v.hi:=hRV.hi
    have E1:Rn L w s1 x1 n1 e1 f1 y1 m1 d1 g1 v.lq:=hRV.lq;have E2:Rn L w s2 x2 n2 e2 f2 y2 m2 d2 g2 v.hq:=hRV.hq
    replace hc:=Cs.q_ hc hbw;obtain ⟨q0,q1,q2,q3,q4,q5,q6,q7,q8,q9⟩:=hc.lr;obtain ⟨b',o',⟨ss,sx,sn,sc,sf,sy,sm,sd,sg⟩,hax,⟨p0,p1,p2⟩,hr'⟩:=(HY.out.q_ hbw) i yq hyq;subst hax;replace p0:wr.cell? ⟨b',o'+i*3,none⟩=some (.bool ss):=p0;replace p1:wr.cell? ⟨b',o'+i*3+1,none⟩=some (.slice sx sn sc):=p1;replace p2:wr.cell? ⟨b',o'+i*3+2,none⟩=some (.slice sy sm sd):=p2;replace hr':Rn L wr ss sx sn sc sf sy sm sd sg yq:=hr';obtain ⟨b3,o3,⟨us,ux,un,uc,uf,uy,um,ud,ug⟩,hax,⟨w0,w1',w2'⟩,hr3⟩:=(HA.out.q_ HB2.out) i (zbH xs v) (by rw [List.getElem?_map,hv];rfl);subst hax;have j0:wr.cell? ⟨b3,o3+i*3,none⟩=some (.bool us):=w0;have j1:wr.cell? ⟨b3,o3+i*3+1,none⟩=some (.slice ux un uc):=w1';have j2:wr.cell? ⟨b3,o3+i*3+2,none⟩=some (.slice uy um ud):=w2';replace hr3:Rn (KA L) wr us ux un uc uf uy um ud ug (zbH xs v):=hr3;clear w0 w1' w2';have hbt:=zB wr (.cells #[.string z,.int .i64 i1,.bool s1,.slice x1 n1 e1,.slice y1 m1 d1,.int .i64 i2,.bool s2,.slice x2 n2 e2,.slice y2 m2 d2,.slice ta tk tc] 68);obtain ⟨-,ce1,ce2,ce3,ce4,ce5,ce6,ce7,ce8⟩:=bk9 (zH wr [.string z,.int .i64 i1,.bool s1,.slice x1 n1 e1,.slice y1 m1 d1,.int .i64 i2,.bool s2,.slice x2 n2 e2,.slice y2 m2 d2,.slice ta tk tc] 68);have i1':((i:Nat):Int)<((rs.length:Nat):Int):=by omega
    replace p0:=kCb hbt p0;replace j0:=kCb hbt j0
    replace p1:=kCb hbt p1;replace j1:=kCb hbt j1
    replace p2:=kCb hbt p2;replace j2:=kCb hbt j2
    have v1:=kCb hbt ((BP.out.q_ HB2.out).cell (j:=1) rfl);have RY:=zk ((hr'.q_ hbt).mono (show _<=KV L by unfold KV;omega));have RA:=zk ((hr3.q_ hbt).mono (show _<=KV L by unfold KV;(try unfold KA);omega));have RE1:=zk (((E1.q_ hbw).q_ hbt).mono (show L<=KV L by unfold KV;omega));have RE2:=zk (((E2.q_ hbw).q_ hbt).mono (show L<=KV L by unfold KV;omega))
    have HAT:=zk (zqF (xs:=xs) hv hyq);rw [<-q1e,<-q2e] at HAT;have HB3:=zI HB2 hbt;clear hr' hr3 E1 E2 hCi hc hRV q1e q2e hbw hv hyq;obtain ⟨rb,hrb⟩:∃t,rsB yq i1 v.lq i2 v.hq (zbH xs v)=t:=⟨_,rfl⟩;rw [hrb] at HAT;have HRBB:=zk hrb;clear hrb;go_upto_region 5 with fail
    clear q0 q1 q2 q3 q4 q5 q6 q7 q8 q9 hbt;generalize wr.heap.size=bx at *;generalize (wr.alloc (.cells #[.string z,.int .i64 i1,.bool s1,.slice x1 n1 e1,.slice y1 m1 d1,.int .i64 i2,.bool s2,.slice x2 n2 e2,.slice y2 m2 d2,.slice ta tk tc] 68))=w5 at *;refine zai (S:=(fun w'=>w'.cell? ⟨bx,1,none⟩=some (.int .i64 i1)/\w'.cell? ⟨bx,2,none⟩=some (.bool s1)/\w'.cell? ⟨bx,3,none⟩=some (.slice x1 n1 e1)/\w'.cell? ⟨bx,4,none⟩=some (.slice y1 m1 d1)/\w'.cell? ⟨bx,5,none⟩=some (.int .i64 i2)/\w'.cell? ⟨bx,6,none⟩=some (.bool s2)/\w'.cell? ⟨bx,7,none⟩=some (.slice x2 n2 e2)/\w'.cell? ⟨bx,8,none⟩=some (.slice y2 m2 d2)/\w'.cell? ⟨b',o'+i*3,none⟩=some (.bool ss)/\w'.cell? ⟨b',o'+i*3+1,none⟩=some (.slice sx sn sc)/\w'.cell? ⟨b',o'+i*3+2,none⟩=some (.slice sy sm sd)/\w'.cell? ⟨b3,o3+i*3,none⟩=some (.bool us)/\w'.cell? ⟨b3,o3+i*3+1,none⟩=some (.slice ux un uc)/\w'.cell? ⟨b3,o3+i*3+2,none⟩=some (.slice uy um ud)/\w'.cell? ⟨w.heap.size+1,1,none⟩=some (.slice (some ⟨b',o',none⟩) rs.length c1))) 13 (by kernel_rfl) ⟨kCd ce1,kCd ce2,kCd ce3,kCd ce4,kCd ce5,kCd ce6,kCd ce7,kCd ce8,kCd p0,kCd p1,kCd p2,kCd j0,kCd j1,kCd j2,kCd v1⟩ (fun hHeld=>?_);have hbd:=Below.drew (Below.refl w5.heap.size w5);replace HB3:=zI HB3 hbd;replace RY:=zk (RY.out.q_ hbd);replace RA:=zk (RA.out.q_ hbd);replace RE1:=zk (RE1.out.q_ hbd);replace RE2:=zk (RE2.out.q_ hbd)
    clear hbd ce1 ce2 ce3 ce4 ce5 ce6 ce7 ce8 p0 p1 p2 j0 j1 j2 v1;generalize w5.drew=wd at *;refine skP 0 ?_;simp only [zw,Act.put];refine tkP 1 ?_;simp only [zw,Act.put];refine skP 2 ?_;simp only [zw,Act.put];refine skP 3 ?_;simp only [zw,Act.put];refine tkP 4 ?_;simp only [zw,Act.put];refine skP 5 ?_;simp only [zw,Act.put];refine tkP 6 ?_;simp only [zw,Act.put];refine skP 7 ?_;simp only [zw,Act.put];refine tkP 8 ?_;simp only [zw,Act.put];refine skP 9 ?_;simp only [zw,Act.put];refine skP 10 ?_;simp only [zw,Act.put];refine skP 11 ?_;simp only [zw,Act.put];refine tkP 12 ?_;simp only [zw,Act.put];refine zJ (rs:=[13]) (by kernel_rfl) (by simp) ?_;refine AllReadyP.cons (o:=_) rfl (fun K hK=>?_) ?_;rotate_left;exact AllReadyP.nil;go_simp
    go_at_call 86
    refine (zin (L:=KV L) RY.out RE1.out RE2.out RA.out (by unfold KV;omega)).mono ?_;rintro e w6 ⟨rfl,hb6⟩;rw [HRBB.out]
    (try go_wp2_with fail)
    have HB6:=zI HB3 hb6;clear hb6 RY RA RE1 RE2 HRBB hHeld HB3;refine hK.out _ _ (fun h=>by cases h) (fun _=>?_);clear hK K;try simp only [Act.put,setIfInBounds_toArray,set_cons_zero,set_cons_succ]
    refine zaJ (i:=14) (v:=?_) rfl (by kernel_rfl) (by kernel_rfl) (by kernel_rfl) (by kernel_rfl) (fun _ _ _ h=>h) (Or.inl ⟨by rfl,?_⟩) (fun h=>by cases h) ?_;rotate_left
    (focus (intro w0 hSw;go_simp <;> with_reducible rfl))
    simp only [zw,Act.put];refine zaB (by kernel_rfl) ?_ _;cases rb
    ·go_wp2;go_ret;exact ⟨by rw [show arB cs rs xs ys zs=false by unfold arB;rw [znU HAT.out];rfl];rfl,bUp HB.out HB6.out⟩
    ·have HN:=zk (znT HAT.out HO.out);go_wp2;go_roundw
     case rel=>exact ⟨i+1,by omega,by go_num,HB6.out,HN.out⟩
     case measure=>simp [intOf];omega
   ·have e1:i=rs.length:=by omega
    have i4':¬(((i:Nat):Int)<((rs.length:Nat):Int)):=by omega
    have HO1:=HO.out;rw [List.take_of_length_le (by unfold rsR;rw [List.length_zipWith];omega)] at HO1;replace HO1:=zk HO1;replace HB:=zI HB HB2.out;replace BM:=zk (BM.out.q_ HB2.out);replace BP:=zk (BP.out.q_ HB2.out);replace HA:=zk (HA.out.q_ HB2.out)
    have r3:=BM.out.cell (j:=3) rfl;clear HO HB2 e1;go_wp2_with fail
    clear r3;generalize wr=w3 at *;go_loopw [45] (fun t wz=>∃(i:Nat),i<=cs.length/\t=.int .i64 i/\Hid (Bl w3 wz)/\Hid (((rsC cs zs xs).take i).all id=true)) (fun t _=>cs.length-(intOf t).toNat)
    case atStart=>exact ⟨0,by omega,rfl,Below.refl _ _,rfl⟩
    case round =>
     obtain ⟨i,hi,rfl,HB2,HO⟩:=hrel;by_cases hlt:i<cs.length
     ·obtain ⟨v,hv⟩:∃t,cs[i]?=some t:=⟨_,getElem?_eq_getElem (by omega)⟩;obtain ⟨yq,hyq⟩:∃t,zs[i]?=some t:=⟨_,getElem?_eq_getElem (by have:=HZL.out;omega)⟩;obtain ⟨aq,haq⟩:∃t,xs[i]?=some t:=⟨_,getElem?_eq_getElem (by have:=HXL.out;omega)⟩;have hbw:=bUp HB.out HB2.out;obtain ⟨⟨b,o,hra,hc⟩,hRV⟩:=HC.out i v hv;subst hra;obtain ⟨⟨z,⟨s0,x0,n0,e0,f0,y0,m0,d0,g0⟩,⟨i1,⟨s1,x1,n1,e1,f1,y1,m1,d1,g1⟩⟩,⟨i2,⟨s2,x2,n2,e2,f2,y2,m2,d2,g2⟩⟩⟩,hCi⟩:∃t,C i=t:=⟨_,rfl⟩;rw [hCi] at hc hRV;have q1e:i1=v.li:=hRV.li;have q2e:i2=v.hi:=hRV.hi
      have E1:Rn L w s1 x1 n1 e1 f1 y1 m1 d1 g1 v.lq:=hRV.lq;have E2:Rn L w s2 x2 n2 e2 f2 y2 m2 d2 g2 v.hq:=hRV.hq
      replace hc:=Cs.q_ hc hbw;obtain ⟨q0,q1,q2,q3,q4,q5,q6,q7,q8,q9,q10,q11⟩:=hc.lc;obtain ⟨b',o',⟨ss,sx,sn,sc,sf,sy,sm,sd,sg⟩,hax,⟨p0,p1,p2⟩,hr'⟩:=(HZ.out.q_ hbw) i yq hyq;subst hax;replace p0:wr.cell? ⟨b',o'+i*3,none⟩=some (.bool ss):=p0;replace p1:wr.cell? ⟨b',o'+i*3+1,none⟩=some (.slice sx sn sc):=p1;replace p2:wr.cell? ⟨b',o'+i*3+2,none⟩=some (.slice sy sm sd):=p2;replace hr':Rn (KV L) wr ss sx sn sc sf sy sm sd sg yq:=hr';obtain ⟨b3,o3,⟨us,ux,un,uc,uf,uy,um,ud,ug⟩,hax,⟨w0,w1',w2'⟩,hr3⟩:=(HX.out.q_ hbw) i aq haq;subst hax;have j0:wr.cell? ⟨b3,o3+i*3,none⟩=some (.bool us):=w0;have j1:wr.cell? ⟨b3,o3+i*3+1,none⟩=some (.slice ux un uc):=w1';have j2:wr.cell? ⟨b3,o3+i*3+2,none⟩=some (.slice uy um ud):=w2';replace hr3:Rn L wr us ux un uc uf uy um ud ug aq:=hr3;clear w0 w1' w2';have hbt:=zB wr (.cells #[.string z,.bool s0,.slice x0 n0 e0,.slice y0 m0 d0,.int .i64 i1,.bool s1,.slice x1 n1 e1,.slice y1 m1 d1,.int .i64 i2,.bool s2,.slice x2 n2 e2,.slice y2 m2 d2] 65);obtain ⟨-,-,-,-,ce4,ce5,ce6,ce7,ce8,ce9,ce10,ce11⟩:=zjs (zH wr [.string z,.bool s0,.slice x0 n0 e0,.slice y0 m0 d0,.int .i64 i1,.bool s1,.slice x1 n1 e1,.slice y1 m1 d1,.int .i64 i2,.bool s2,.slice x2 n2 e2,.slice y2 m2 d2] 65);have i1':((i:Nat):Int)<((cs.length:Nat):Int):=by omega
      replace p0:=kCb hbt p0;replace j0:=kCb hbt j0
      replace p1:=kCb hbt p1;replace j1:=kCb hbt j1
      replace p2:=kCb hbt p2;replace j2:=kCb hbt j2
      have v2:=kCb hbt ((BP.out.q_ HB2.out).cell (j:=2) rfl);have v0:=kCb hbt ((BP.out.q_ HB2.out).cell (j:=0) rfl);have RY:=zk ((hr'.q_ hbt).mono (show _<=KV L by unfold KV;omega));have RA:=zk ((hr3.q_ hbt).mono (show _<=KV L by unfold KV;(try unfold KA);omega));have RE1:=zk (((E1.q_ hbw).q_ hbt).mono (show L<=KV L by unfold KV;omega));have RE2:=zk (((E2.q_ hbw).q_ hbt).mono (show L<=KV L by unfold KV;omega))
      have HAT:=zk (zqG hv hyq haq);rw [<-q1e,<-q2e] at HAT;have HB3:=zI HB2 hbt;clear hr' hr3 E1 E2 hCi hc hRV q1e q2e hbw hv hyq haq;obtain ⟨rb,hrb⟩:∃t,rsB yq i1 v.lq i2 v.hq aq=t:=⟨_,rfl⟩;rw [hrb] at HAT;have HRBB:=zk hrb;clear hrb;go_upto_region 11 with fail
      clear q0 q1 q2 q3 q4 q5 q6 q7 q8 q9 q10 q11 hbt;generalize wr.heap.size=bx at *;generalize (wr.alloc (.cells #[.string z,.bool s0,.slice x0 n0 e0,.slice y0 m0 d0,.int .i64 i1,.bool s1,.slice x1 n1 e1,.slice y1 m1 d1,.int .i64 i2,.bool s2,.slice x2 n2 e2,.slice y2 m2 d2] 65))=w5 at *;refine zai (S:=(fun w'=>w'.cell? ⟨bx,4,none⟩=some (.int .i64 i1)/\w'.cell? ⟨bx,5,none⟩=some (.bool s1)/\w'.cell? ⟨bx,6,none⟩=some (.slice x1 n1 e1)/\w'.cell? ⟨bx,7,none⟩=some (.slice y1 m1 d1)/\w'.cell? ⟨bx,8,none⟩=some (.int .i64 i2)/\w'.cell? ⟨bx,9,none⟩=some (.bool s2)/\w'.cell? ⟨bx,10,none⟩=some (.slice x2 n2 e2)/\w'.cell? ⟨bx,11,none⟩=some (.slice y2 m2 d2)/\w'.cell? ⟨b',o'+i*3,none⟩=some (.bool ss)/\w'.cell? ⟨b',o'+i*3+1,none⟩=some (.slice sx sn sc)/\w'.cell? ⟨b',o'+i*3+2,none⟩=some (.slice sy sm sd)/\w'.cell? ⟨b3,o3+i*3,none⟩=some (.bool us)/\w'.cell? ⟨b3,o3+i*3+1,none⟩=some (.slice ux un uc)/\w'.cell? ⟨b3,o3+i*3+2,none⟩=some (.slice uy um ud)/\w'.cell? ⟨w.heap.size+1,2,none⟩=some (.slice (some ⟨b',o',none⟩) cs.length c2)/\w'.cell? ⟨w.heap.size+1,0,none⟩=some (.slice (some ⟨b3,o3,none⟩) cs.length c0))) 14 (by kernel_rfl) ⟨kCd ce4,kCd ce5,kCd ce6,kCd ce7,kCd ce8,kCd ce9,kCd ce10,kCd ce11,kCd p0,kCd p1,kCd p2,kCd j0,kCd j1,kCd j2,kCd v2,kCd v0⟩ (fun hHeld=>?_);have hbd:=Below.drew (Below.refl w5.heap.size w5);replace HB3:=zI HB3 hbd;replace RY:=zk (RY.out.q_ hbd);replace RA:=zk (RA.out.q_ hbd);replace RE1:=zk (RE1.out.q_ hbd);replace RE2:=zk (RE2.out.q_ hbd)
      clear hbd ce4 ce5 ce6 ce7 ce8 ce9 ce10 ce11 p0 p1 p2 j0 j1 j2 v2 v0;generalize w5.drew=wd at *;refine skP 0 ?_;simp only [zw,Act.put];refine tkP 1 ?_;simp only [zw,Act.put];refine skP 2 ?_;simp only [zw,Act.put];refine skP 3 ?_;simp only [zw,Act.put];refine tkP 4 ?_;simp only [zw,Act.put];refine skP 5 ?_;simp only [zw,Act.put];refine tkP 6 ?_;simp only [zw,Act.put];refine skP 7 ?_;simp only [zw,Act.put];refine tkP 8 ?_;simp only [zw,Act.put];refine skP 9 ?_;simp only [zw,Act.put];refine tkP 10 ?_;simp only [zw,Act.put];refine skP 11 ?_;simp only [zw,Act.put];refine skP 12 ?_;simp only [zw,Act.put];refine tkP 13 ?_;simp only [zw,Act.put];refine zJ (rs:=[14]) (by kernel_rfl) (by simp) ?_;refine AllReadyP.cons (o:=_) rfl (fun K hK=>?_) ?_;rotate_left;exact AllReadyP.nil;go_simp
      go_at_call 86
      refine (zin (L:=KV L) RY.out RE1.out RE2.out RA.out (by unfold KV;omega)).mono ?_;rintro e w6 ⟨rfl,hb6⟩;rw [HRBB.out]
      (try go_wp2_with fail)
      have HB6:=zI HB3 hb6;clear hb6 RY RA RE1 RE2 HRBB hHeld HB3;refine hK.out _ _ (fun h=>by cases h) (fun _=>?_);clear hK K;try simp only [Act.put,setIfInBounds_toArray,set_cons_zero,set_cons_succ]
      refine zaJ (i:=15) (v:=?_) rfl (by kernel_rfl) (by kernel_rfl) (by kernel_rfl) (by kernel_rfl) (fun _ _ _ h=>h) (Or.inl ⟨by rfl,?_⟩) (fun h=>by cases h) ?_;rotate_left
      (focus (intro w0 hSw;go_simp <;> with_reducible rfl))
      simp only [zw,Act.put];refine zaB (by kernel_rfl) ?_ _;cases rb
      ·go_wp2;go_ret;exact ⟨by rw [show arB cs rs xs ys zs=false by unfold arB;rw [znU HAT.out];exact Bool.and_false _];rfl,bUp HB.out HB6.out⟩
      ·have HN:=zk (znT HAT.out HO.out);go_wp2;go_roundw
       case rel=>exact ⟨i+1,by omega,by go_num,HB6.out,HN.out⟩
       case measure=>simp [intOf];omega
     ·have e1:i=cs.length:=by omega
      have i4':¬(((i:Nat):Int)<((cs.length:Nat):Int)):=by omega
      have HO2:=HO.out;rw [List.take_of_length_le (by unfold rsC;rw [List.length_zipWith];omega)] at HO2;have HF:Hid (arB cs rs xs ys zs=true):=by show _=_;unfold arB;rw [HO1.out,HO2];rfl
      clear HO HO2 e1;go_wp2;go_ret;exact ⟨by rw [HF.out];rfl,bUp HB.out HB2.out⟩
theorem zrP {a b} (h:sqB a b=true):nfB b=nfB a/\nq b=nq a:=by
 obtain ⟨s,x,n,c,f,y,m,d,g⟩:=a;obtain ⟨s',x',n',c',f',y',m',d',g'⟩:=b;obtain ⟨h1,⟨h2,h3⟩,⟨h4,h5⟩⟩:=sq_iff.1 h;simp only at h1 h2 h3 h4 h5;subst h1;subst h2;subst h4
 have e1:vf f' n=vf f n:=(zP h3).symm;have e2:vf g' m=vf g m:=(zP h5).symm;have e3:∀{u v:Nat->Int} {k:Nat},(∀j,j<k->u j=v j)->fmB v k=fmB u k:=fun {u v k} hu=>by
  cases k with
  | zero=>rfl
  | succ k=>unfold fmB;rw [hu (k+1-1) (by omega)]
 constructor
 ·show rfB s f' n g' m=rfB s f n g m;unfold rfB wfB;rw [e1,e2,e3 h3,e3 h5]
 ·show mkRat (wv s f' n) (wv false g' m).toNat=mkRat (wv s f n) (wv false g m).toNat;unfold wv;rw [e1,e2]
theorem zku {α e} {X Y:Nat->α}:∀{r i:Nat},eqf e X Y r i=true ↔ ∀j,i<=j->j<i+r->e (X j) (Y j)=true
 | 0,_=>⟨fun _ j a b=>by omega,fun _=>rfl⟩
 | r+1,i=>by
  simp only [eqf,Bool.and_eq_true,zku (r:=r)];constructor
  ·rintro ⟨h1,h2⟩ j a b;by_cases e:j=i
   ·subst e;exact h1
   ·exact h2 j (by omega) (by omega)
  ·exact fun h=>⟨h i (by omega) (by omega),fun j a b=>h j (by omega) (by omega)⟩
theorem Rl.cs {w ao k X} (h:Rl w ao k X):∀j,j<k->∃b o,ao=some ⟨b,o,none⟩/\Cs w b (o+j*3) (rcell (X j))/\NmS w (X j):=fun j hj=>by
 obtain ⟨b,o,h1,h2,h3⟩:=h j hj;refine ⟨b,o,h1,fun i v e=>?_,h3⟩
 match i,e with
 | 0,e=>cases e;exact h2.x0
 | 1,e=>cases e;exact h2.x1
 | 2,e=>cases e;exact h2.x2
 | i+3,e=>cases e
theorem zpN {L w ao p} (h:Rf L w ao p):∃E:Nat->Nm,∀j q,p[j]?=some q->(∃b o,ao=some ⟨b,o,none⟩/\C3 w b (o+j*3) (.bool (E j).s) (.slice (E j).x (E j).n (E j).c) (.slice (E j).y (E j).m (E j).d))/\NmV L w (E j) q:=by
 refine Classical.axiomOfChoice (r:=fun j (t:Nm)=>∀q,p[j]?=some q->(∃b o,ao=some ⟨b,o,none⟩/\C3 w b (o+j*3) (.bool t.s) (.slice t.x t.n t.c) (.slice t.y t.m t.d))/\NmV L w t q) (fun j=>?_);by_cases hj:j<p.length
 ·obtain ⟨b,o,t,h1,h2,h3⟩:=h j (p[j]) (getElem?_eq_getElem hj);refine ⟨t,fun q e=>?_⟩;rw [getElem?_eq_getElem hj] at e;rw [Option.some.inj e] at h3;exact ⟨⟨b,o,h1,h2⟩,h3⟩
 ·exact ⟨⟨false,none,0,0,fun _=>0,none,0,0,fun _=>0⟩,fun q e=>by rw [List.getElem?_eq_none (by omega)] at e;cases e⟩
theorem zro {L w w1 ao k k2 E Z p} (hp:p.length=k) (hE:∀j q,p[j]?=some q->NmV L w1 (E j) q) (hZ:Rl w ao k2 Z):eqfB sqB k k2 E Z=(afB k2 Z && decide (zaW k2 Z=p))/\(eqfB sqB k k2 E Z=true->Rf L w ao p/\p.length=k2):=by
 have hg:∀j,j<p.length->p[j]?=some (p.getD j 0):=fun j hj=>by rw [List.getD_eq_getElem?_getD,getElem?_eq_getElem hj];rfl
 have key:eqfB sqB k k2 E Z=true ↔ k=k2/\∀j,j<k->sqB (E j) (Z j)=true:=by
  unfold eqfB;rw [Bool.and_eq_true,decide_eq_true_eq,zku];exact ⟨fun ⟨a,b⟩=>⟨a,fun j hj=>b j (by omega) (by omega)⟩,fun ⟨a,b⟩=>⟨a,fun j _ hj=>b j (by omega)⟩⟩
 have tru:eqfB sqB k k2 E Z=true->(k=k2/\∀j q,p[j]?=some q->NmV L w (Z j) q):=fun h=>by
  obtain ⟨a,b⟩:=key.1 h;refine ⟨a,fun j q e=>?_⟩;have hj:j<p.length:=(List.getElem?_eq_some_iff.1 e).1;have h1:=b j (by omega);have h2:=hE j q e;obtain ⟨h3,h4⟩:=zrP h1;obtain ⟨_,h5,h6⟩:=sq_iff.1 h1;obtain ⟨b',o',_,_,h7⟩:=hZ j (by omega);have h8:=NmS.val (K:=L) h7 (by rw [h3];exact Rn.rf h2) ⟨by rw [<-h5.1];exact h2.ln,by rw [<-h6.1];exact h2.ld⟩;rw [h4,Rn.nq h2] at h8;exact h8
 refine ⟨?_,fun h=>?_⟩
 ·rw [Bool.eq_iff_iff,Bool.and_eq_true,decide_eq_true_eq];constructor
  ·intro h;obtain ⟨a,b⟩:=tru h;refine ⟨znV (fun j _ hj=>Rn.rf (b j _ (hg j (by omega)))),?_⟩;refine List.ext_getElem? (fun j=>?_);unfold zaW;by_cases hj:j<k2
   ·rw [List.getElem?_map,List.getElem?_range hj,hg j (by omega)];exact congrArg some (Rn.nq (b j _ (hg j (by omega))))
   ·rw [List.getElem?_eq_none (by simp;omega),List.getElem?_eq_none (by omega)]
  ·rintro ⟨a,b⟩;have hl:p.length=k2:=by rw [<-b,zbZ]
   refine key.2 ⟨by omega,fun j hj=>?_⟩;have h2:=hE j _ (hg j (by omega));obtain ⟨b',o',_,_,h7⟩:=hZ j (by omega);have h8:=NmS.val (K:=65536) h7 (zhw a j (by omega) (by omega)) h7.2;have h9:p.getD j 0=nq (Z j):=by
    have e1:=hg j (by omega);rw [<-b] at e1;unfold zaW at e1;rw [List.getElem?_map,List.getElem?_range (by omega)] at e1;rw [<-b];exact (Option.some.inj e1).symm
   have:=(Rn.inj h2 h8).2 h9;exact sq_iff.2 this
 ·obtain ⟨a,b⟩:=tru h;refine ⟨fun j q e=>?_,by omega⟩;have hj:j<p.length:=(List.getElem?_eq_some_iff.1 e).1;obtain ⟨b',o',h1,h2,_⟩:=hZ j (by omega);exact ⟨b',o',Z j,h1,h2,b j q e⟩
def zfU (e1 e2:Int) (k2:Nat) (Z:Nat->Nm) (cs:List CV) (rs:List RV) (xs ys:List Rat):Bool:=(decide (e1=0) && zfE cs rs xs) && (decide (e2=0) && ((afB k2 Z && decide (zaW k2 Z=zaz rs ys 0 cs)) && arB cs rs xs ys (zaz rs ys 0 cs)))
theorem znE {w L M off cs rs a0 a1 a2 k0 c0 k1 c1 k2 c2 X Y Z xs ys e1 e2} (hW:MoW w M) (hx:Rl w a0 k0 X) (hy:Rl w a1 k1 Y) (hz:Rl w a2 k2 Z) (hk0:k0<=1048576) (hk1:k1<=1048576) (hk2:k2<=1048576) (he1:zfp M k0 X=e1) (he2:zbF M k1 Y=e2) (hv1:e1=0->MoV L w M off cs rs/\zbw cs rs=true/\Rf L w a0 xs/\xs.length=k0/\k0=cs.length) (hv2:e2=0->MoV L w M off cs rs/\zbw cs rs=true/\Rf L w a1 ys/\ys.length=k1/\k1=rs.length) (hL:L<=30) :
  Calls prog 17 #[M.val,.agg #[.slice a0 k0 c0,.slice a1 k1 c1,.slice a2 k2 c2]] w fun e w'=>e=.returned (.tuple #[.bool (decide (zaA M=0) && zfU e1 e2 k2 Z cs rs xs ys),.int .i64 (zaA M)])/\Bl w w':=by
 have CC:=zk (fun W (hW2:Bl w W)=>zhr (hW.q_ hW2));have CF:=zk (fun W (hW2:Bl w W)=>zoZ (cap:=c0) (hW.q_ hW2) (hx.q_ hW2) hk0 he1 (fun h=>by obtain ⟨v1,v2,v3,v4,v5⟩:=hv1 h;exact ⟨v1.q_ hW2,v2,v3.q_ hW2,v4,v5⟩) hL);have CR:=zk (fun W (hW2:Bl w W)=>zcl (cap:=c1) (hW.q_ hW2) (hy.q_ hW2) hk1 he2 (fun h=>by obtain ⟨v1,v2,v3,v4,v5⟩:=hv2 h;exact ⟨v1.q_ hW2,v2,v3.q_ hW2,v4,v5⟩) hL);have CA:Hid (∀W,Bl w W->e1=0->e2=0->Rf (KV L) W a2 (zaz rs ys 0 cs)->(zaz rs ys 0 cs).length=k2->Calls prog 50 #[M.val,.agg #[.slice a0 k0 c0,.slice a1 k1 c1,.slice a2 k2 c2]] W fun e w2=>e=.returned (.bool (arB cs rs xs ys (zaz rs ys 0 cs)))/\Bl W w2):=fun W hW2 g1 g2 hr hl=>by
  obtain ⟨v1,v2,v3,v4,v5⟩:=hv1 g1;obtain ⟨_,_,u3,u4,u5⟩:=hv2 g2;exact zjp (hW.q_ hW2) (hx.q_ hW2) hk0 (he1.trans g1) (v1.q_ hW2) v2 (v3.q_ hW2) v4 v5 (u3.q_ hW2) u4 u5 hr hl (by rw [<-hl,zba]) hL
 have HCL:Hid (e2=0->cs.length<=64):=fun g=>by obtain ⟨_,v2,_⟩:=hv2 g;exact (zbj v2).cl
 have HZ:=zk hz;clear hW hx hy hz he1 he2 hv1 hv2;obtain ⟨e0,he0⟩:∃e,zaA M=e:=⟨_,rfl⟩;rw [he0] at CC ⊢;clear he0;obtain ⟨fs,hfs⟩:∃t,(decide (e1=0) && zfE cs rs xs)=t:=⟨_,rfl⟩;rw [hfs] at CF;have HFS:=zk hfs;clear hfs;have HLn:=zk (zba rs ys cs 0);obtain ⟨zs,hzs⟩:∃t,zaz rs ys 0 cs=t:=⟨_,rfl⟩;unfold zfM at CR;rw [hzs] at CR CA HLn;have HZS:=zk hzs;clear hzs;obtain ⟨ar,har⟩:∃t,arB cs rs xs ys zs=t:=⟨_,rfl⟩;rw [har] at CA;have HAR:=zk har;clear har;obtain ⟨⟨s,x,n,c,f,y,m,d,g⟩,ca,ck,cc,C,ra,rk,rc,R⟩:=M;replace CC:Hid (∀W,Bl w W->Calls prog 28 #[.agg #[.bool s,.slice x n c,.slice y m d,.slice ca ck cc,.slice ra rk rc]] W fun r w'=>r=.returned (.int .i64 e0)/\Bl W w'):=CC;replace CF:Hid (∀W,Bl w W->Calls prog 47 #[.agg #[.bool s,.slice x n c,.slice y m d,.slice ca ck cc,.slice ra rk rc],.slice a0 k0 c0] W fun e w'=>e=.returned (.tuple #[.bool fs,.int .i64 e1])/\Bl W w'):=CF;replace CR:Hid (∀W,Bl w W->Calls prog 8 #[.agg #[.bool s,.slice x n c,.slice y m d,.slice ca ck cc,.slice ra rk rc],.slice a1 k1 c1] W fun e w'=>Bl W w'/\((e2≠0/\e=.returned (.tuple #[.slice none 0 0,.int .i64 e2]))∨(e2=0/\∃a c,e=.returned (.tuple #[.slice a cs.length c,.int .i64 0])/\(cs.length<=c/\c<=9223372036854775807)/\Rf (KV L) w' a zs))):=CR;replace CA:Hid (∀W,Bl w W->e1=0->e2=0->Rf (KV L) W a2 zs->zs.length=k2->Calls prog 50 #[.agg #[.bool s,.slice x n c,.slice y m d,.slice ca ck cc,.slice ra rk rc],.agg #[.slice a0 k0 c0,.slice a1 k1 c1,.slice a2 k2 c2]] W fun e w2=>e=.returned (.bool ar)/\Bl W w2):=CA;show Calls prog 17 #[.agg #[.bool s,.slice x n c,.slice y m d,.slice ca ck cc,.slice ra rk rc],.agg #[.slice a0 k0 c0,.slice a1 k1 c1,.slice a2 k2 c2]] w _;have hb:=zu (zB w (.cells #[.bool s,.slice x n c,.slice y m d,.slice ca ck cc,.slice ra rk rc] 28)) (.cells #[.slice a0 k0 c0,.slice a1 k1 c1,.slice a2 k2 c2] 50);have BM:=zk ((zH w [.bool s,.slice x n c,.slice y m d,.slice ca ck cc,.slice ra rk rc] 28).q_ (zB _ (.cells #[.slice a0 k0 c0,.slice a1 k1 c1,.slice a2 k2 c2] 50)));have BP:=zgu w (.cells #[.bool s,.slice x n c,.slice y m d,.slice ca ck cc,.slice ra rk rc] 28) [.slice a0 k0 c0,.slice a1 k1 c1,.slice a2 k2 c2] 50;have HB:=zk hb;replace BP:=zk BP
 clear hb;go_enter func17,ntmps17;go_upto_region 1 with fail
 generalize ((w.alloc (.cells #[.bool s,.slice x n c,.slice y m d,.slice ca ck cc,.slice ra rk rc] 28)).alloc (.cells #[.slice a0 k0 c0,.slice a1 k1 c1,.slice a2 k2 c2] 50))=w1 at *;obtain ⟨r0,r1,r2,r3,r4⟩:=bk5 BM.out;go_wp2_with fail
 clear r0 r1 r2 r3 r4
 go_at_call 28
 refine (CC.out _ HB.out).mono ?_;rintro e w2 ⟨rfl,hb2⟩;replace HB:=zI HB hb2;replace BM:=zk (BM.out.q_ hb2);replace BP:=zk (BP.out.q_ hb2)
 clear hb2;clear CC;by_cases h0:e0=0
 case neg =>
  have h1:(e0 != 0)=true:=by simpa using h0
  have HE:Hid (decide (e0=0)=false):=decide_eq_false h0;clear h0 CF CR CA;go_wp2
  go_ret2
  exact ⟨by rw [HE.out];rfl,HB.out⟩
 subst h0;obtain ⟨r0,r1,r2,r3,r4⟩:=bk5 BM.out;obtain ⟨p0,p1,p2⟩:=bk3 BP.out;go_wp2_with fail
 clear r0 r1 r2 r3 r4 p0 p1 p2
 go_at_call 47
 refine (CF.out _ HB.out).mono ?_;rintro e w3 ⟨rfl,hb3⟩;replace HB:=zI HB hb3;replace BM:=zk (BM.out.q_ hb3);replace BP:=zk (BP.out.q_ hb3)
 clear hb3;clear CF;obtain ⟨r0,r1,r2,r3,r4⟩:=bk5 BM.out;obtain ⟨p0,p1,p2⟩:=bk3 BP.out;go_wp2_with fail
 clear r0 r1 r2 r3 r4 p0 p1 p2
 go_at_call 8
 refine (CR.out _ HB.out).mono ?_;clear CR;rintro e w4 ⟨hb4,⟨h9,rfl⟩ | ⟨h9,aa,ac,rfl,hca,hrf⟩⟩
 ·replace HB:=zI HB hb4;replace BM:=zk (BM.out.q_ hb4);replace BP:=zk (BP.out.q_ hb4)
  clear hb4;have h1:(e2 != 0)=true:=by simpa using h9
  have HE:Hid (zfU e1 e2 k2 Z cs rs xs ys=false):=by show _=_;unfold zfU;rw [decide_eq_false h9];simp
  clear h9 CA HZ;cases fs
  ·go_wp2
   go_ret2
   exact ⟨by rw [HE.out];rfl,HB.out⟩
  ·go_wp2
   go_ret2
   exact ⟨by rw [HE.out];rfl,HB.out⟩
 ·replace HB:=zI HB hb4;replace BM:=zk (BM.out.q_ hb4);replace BP:=zk (BP.out.q_ hb4)
  clear hb4;subst h9;have HRF:=zk hrf;have hcl:=HCL.out rfl;clear hrf HCL;cases fs
  case false =>
   have HE:Hid (zfU e1 0 k2 Z cs rs xs ys=false):=by show _=_;unfold zfU;rw [HFS.out];simp
   clear CA HZ HRF;go_wp2
   go_ret2
   exact ⟨by rw [HE.out];rfl,HB.out⟩
  have HE1:Hid (e1=0):=by have h:=HFS.out;rw [Bool.and_eq_true,decide_eq_true_eq] at h;exact h.1
  obtain ⟨E,hE⟩:=zpN HRF.out;have CE:Hid (∀W,Bl w4 W->Calls prog 48 #[.slice aa cs.length ac,.slice a2 k2 c2,.func (.func 49) #[] #[]] W fun e w9=>e=.returned (.bool (eqfB sqB cs.length k2 E Z))/\Bl W w9):=fun W hW2=>by
   have hb9:=bUp HB.out hW2;refine zjn (fun j hj=>?_) (HZ.out.q_ hb9).cs (by omega) hk2;obtain ⟨q,hq⟩:∃t,zs[j]?=some t:=⟨_,getElem?_eq_getElem (by have:=HLn.out;omega)⟩;obtain ⟨⟨b,o,h1,h2⟩,h3⟩:=hE j q hq;refine ⟨b,o,h1,fun i v e=>?_,(NmV.nms (NmV.q_ h3 hW2) (by unfold KV;omega)).1⟩;replace h2:=C3.q_ h2 hW2
   match i,e with
   | 0,e=>cases e;exact h2.x0
   | 1,e=>cases e;exact h2.x1
   | 2,e=>cases e;exact h2.x2
   | i+3,e=>cases e
  have hz9:=fun W (hW2:Bl w W)=>zro (L:=KV L) (k:=cs.length) (E:=E) HLn.out (fun j q e=>(hE j q e).2) (HZ.out.q_ hW2)
  have HZ9:=zk hz9;have HQ:=zk (hz9 w (Below.refl _ _)).1;clear hE hz9 HZ;obtain ⟨qe,hqe⟩:∃t,eqfB sqB cs.length k2 E Z=t:=⟨_,rfl⟩;rw [hqe] at CE HQ;have HQE:=zk hqe;clear hqe;have p2:=BP.out.cell (j:=2) rfl;go_wp2_with fail
  clear p2
  go_at_call 48
  refine (CE.out _ (Below.refl _ _)).mono ?_;rintro e w5 ⟨rfl,hb5⟩;replace HB:=zI HB hb5;replace BM:=zk (BM.out.q_ hb5);replace BP:=zk (BP.out.q_ hb5)
  clear hb5;clear CE;cases qe
  case false =>
   have HE:Hid (zfU e1 0 k2 Z cs rs xs ys=false):=by show _=_;unfold zfU;rw [HZS.out,<-HQ.out];simp
   clear CA HRF;go_wp2
   go_ret2
   exact ⟨by rw [HE.out];rfl,HB.out⟩
  have HE:Hid (zfU e1 0 k2 Z cs rs xs ys=ar):=by show _=_;unfold zfU;rw [HZS.out,<-HQ.out,HFS.out,HAR.out];simp
  obtain ⟨g1,g2⟩:=(HZ9.out _ HB.out).2 HQE.out;have CA2:=zk (CA.out _ HB.out HE1.out (by first | rfl | trivial) g1 g2);clear CA g1 g2 HZ9 HQ HQE HRF;obtain ⟨r0,r1,r2,r3,r4⟩:=bk5 BM.out;obtain ⟨p0,p1,p2⟩:=bk3 BP.out;go_wp2_with fail
  clear r0 r1 r2 r3 r4 p0 p1 p2
  go_at_call 50
  refine CA2.out.mono ?_;rintro e w6 ⟨rfl,hb6⟩;replace HB:=zI HB hb6;replace BM:=zk (BM.out.q_ hb6);replace BP:=zk (BP.out.q_ hb6)
  clear hb6;go_wp2
  go_ret2
  exact ⟨by rw [HE.out];rfl,HB.out⟩
theorem zfg {L w ao p} (h:Rf L w ao p) (hL:L<=65536):∃E,Rl w ao p.length E/\afB p.length E=true/\zaW p.length E=p:=by
 obtain ⟨E,hE⟩:=zpN h;have hg:∀j,j<p.length->p[j]?=some (p.getD j 0):=fun j hj=>by rw [List.getD_eq_getElem?_getD,getElem?_eq_getElem hj];rfl
 refine ⟨E,fun j hj=>?_,znV (fun j _ hj=>(NmV.nms (hE j _ (hg j (by omega))).2 hL).2),?_⟩
 ·obtain ⟨⟨b,o,h1,h2⟩,h3⟩:=hE j _ (hg j hj);exact ⟨b,o,h1,h2,(NmV.nms h3 hL).1⟩
 ·refine List.ext_getElem? (fun j=>?_);unfold zaW;by_cases hj:j<p.length
  ·rw [List.getElem?_map,List.getElem?_range hj,hg j hj];exact congrArg some (Rn.nq (hE j _ (hg j hj)).2)
  ·rw [List.getElem?_eq_none (by simp;omega),List.getElem?_eq_none (by omega)]
theorem zqT {k X z} (h:afB k X=true) (e:(k:Int)=z):pnE k X z=0:=by unfold pnE;rw [if_pos h,if_pos e]
theorem zhk {M k X} (h:zaA M=0) (h0:afB k X=true) (e0:k=M.rk):zbF M k X=0:=by
 subst e0;unfold zbF;rw [h,zqT h0 rfl];rfl
theorem zjo {w L M off cs rs a1 k1 c1 ys} (h:MoV L w M off cs rs) (ho:zbw cs rs=true) (hy:Rf L w a1 ys) (l1:ys.length=k1) (q1:k1=rs.length) (hL:L<=30):Calls prog 8 #[M.val,.slice a1 k1 c1] w fun e w'=>zfM L w w' e 0 cs rs ys:=by
 obtain ⟨h1,h2⟩:=h.chk (by omega) ho;have mp:=zbj ho;have hcl:=mp.cl;have hrl:=mp.rl
 obtain ⟨Y,y1,z1,_⟩:=zfg hy (by omega);rw [l1] at y1 z1;have he:zbF M k1 Y=0:=zhk h1 z1 (by rw [h.rk];exact q1);exact zcl (fun _ _=>h2) y1 (by omega) he (fun _=>⟨h,ho,hy,l1,q1⟩) hL
theorem ziq {w L M off cs rs a1 k1 c1 ys} (h:MoV L w M off cs rs) (ho:zbw cs rs=true) (hy:Rf L w a1 ys) (l1:ys.length=k1) (q1:k1=rs.length) (hL4:4<=L) (hL:L<=8):Calls prog 13 #[M.val,.slice a1 k1 c1] w fun e w'=>BoAns L w w' e 0 (bnP off cs rs ys):=by
 obtain ⟨h1,h2⟩:=h.chk (by omega) ho;have mp:=zbj ho;have hcl:=mp.cl;have hrl:=mp.rl
 obtain ⟨Y,y1,z1,_⟩:=zfg hy (by omega);rw [l1] at y1 z1;have he:zbF M k1 Y=0:=zhk h1 z1 (by rw [h.rk];exact q1);exact zio (fun _ _=>h2) y1 (by omega) he (fun _=>⟨h,ho,hy,l1,q1⟩) hL4 hL
theorem znF {w L M off cs rs a1 k1 c1 ys a0 a2 k0 c0 k2 c2 xs zs} (h:MoV L w M off cs rs) (ho:zbw cs rs=true) (hy:Rf L w a1 ys) (l1:ys.length=k1) (q1:k1=rs.length) (hx:Rf L w a0 xs) (l0:xs.length=k0) (q0:k0=cs.length) (hz:Rf L w a2 zs) (l2:zs.length=k2) (hk2:k2<=1000) (hL:L<=30) :
  Calls prog 17 #[M.val,.agg #[.slice a0 k0 c0,.slice a1 k1 c1,.slice a2 k2 c2]] w fun e w'=>e=.returned (.tuple #[.bool (zfE cs rs xs && (decide (zs=zaz rs ys 0 cs) && arB cs rs xs ys (zaz rs ys 0 cs))),.int .i64 0])/\Bl w w':=by
 obtain ⟨h1,h2⟩:=h.chk (by omega) ho;have mp:=zbj ho;have hcl:=mp.cl;have hrl:=mp.rl
 obtain ⟨Y,y1,z1,_⟩:=zfg hy (by omega);rw [l1] at y1 z1;have he:zbF M k1 Y=0:=zhk h1 z1 (by rw [h.rk];exact q1);obtain ⟨X,y0,z0,_⟩:=zfg hx (by omega);rw [l0] at y0 z0;obtain ⟨Z,y2,z2,p2⟩:=zfg hz (by omega);rw [l2] at y2 z2 p2;have he0:zfp M k0 X=0:=zoY h1 z0 (by rw [h.ck];exact q0);have:=znE (c0:=c0) (c1:=c1) (c2:=c2) (fun _ _=>h2) y0 y1 y2 (by omega) (by omega) (by omega) he0 he (fun _=>⟨h,ho,hx,l0,q0⟩) (fun _=>⟨h,ho,hy,l1,q1⟩) hL;rw [h1] at this;unfold zfU at this;rw [z2,p2] at this;simpa using this
theorem zkk:zbw k2C k2R=true:=by decide +kernel
theorem zsf:zaz k2R [((-1:Int):Rat)/2] 0 k2C=[((-1:Int):Rat)/2,((0:Int):Rat)]:=by decide +kernel
theorem k2_b1:smI (bnP 3 k2C k2R [((-1:Int):Rat)/2])=0/\smQ (bnP 3 k2C k2R [((-1:Int):Rat)/2])=((-2:Int):Rat):=by decide +kernel
theorem zsg:smI (bnP 3 k2C k2R [((1:Int):Rat)])=-1:=by decide +kernel
theorem k2_h:(zfE k2C k2R [((4:Int):Rat),((1:Int):Rat)] && (decide ([((-1:Int):Rat)/2,((0:Int):Rat)]=zaz k2R [((-1:Int):Rat)/2] 0 k2C) && arB k2C k2R [((4:Int):Rat),((1:Int):Rat)] [((-1:Int):Rat)/2] (zaz k2R [((-1:Int):Rat)/2] 0 k2C)))=true:=by decide +kernel
theorem zlE (w:World):Calls prog 5 #[] w fun e w'=>e=.returned (.bool true)/\Bl w w':=by
 have HB:=zk (Below.refl w.heap.size w);go_enter func5,ntmps5;go_wp2_with fail
 refine first11_c.mono ?_;rintro e v1 ⟨⟨⟨sm,xm,nm,cm,fm,ym,mm,dm,gm⟩,cam,ckm,ccm,Cm,ram,rkm,rcm,Rm⟩,rfl,hb,HM⟩;replace HB:=zI HB hb;clear hb;go_wp2_with fail
 refine (zcA (z:=-1) (by decide) (by decide) zhV).mono ?_;rintro e v2 ⟨sh,xh,nh,ch,fh,yh,mh,dh,gh,rfl,hb,hr⟩;have hn:=zB v2 (.cells #[.bool sh,.slice xh nh ch,.slice yh mh dh] 24);have hbn:=bUp hb hn;replace HB:=zI HB hbn;replace HM:=zk (HM.out.q_ hbn)
 have HX:=zk (show Rf 8 (v2.alloc (.cells #[.bool sh,.slice xh nh ch,.slice yh mh dh] 24)) (some ⟨v2.heap.size,0,none⟩) [((-1:Int):Rat)/2] from (zhf (base:=0) (hr.out.mono (by decide)) (Nat.zero_le _)).rf);clear hb hr hn hbn;go_wp2_with fail
 generalize v2.alloc (.cells #[.bool sh,.slice xh nh ch,.slice yh mh dh] 24)=vvv2 at *;generalize v2.heap.size=ppv2 at *;refine (zjo (L:=8) HM.out zkk HX.out rfl rfl (by decide)).mono ?_;rintro e v3 ⟨hb,⟨h9,_⟩ | ⟨_,za,zc,rfl,_,hrf⟩⟩
 ·exact absurd rfl h9
 rw [zsf] at hrf;rw [show k2C.length=2 from rfl];have HZ:=zk hrf;replace HB:=zI HB hb;clear hb hrf HM HX;go_wp2_with fail
 refine first11_c.mono ?_;rintro e v4 ⟨⟨⟨sm,xm,nm,cm,fm,ym,mm,dm,gm⟩,cam,ckm,ccm,Cm,ram,rkm,rcm,Rm⟩,rfl,hb,HM⟩;replace HB:=zI HB hb;replace HZ:=zk (HZ.out.q_ hb)
 clear hb;go_wp2_with fail
 refine (zcA (z:=-1) (by decide) (by decide) zhV).mono ?_;rintro e v5 ⟨sh,xh,nh,ch,fh,yh,mh,dh,gh,rfl,hb,hr⟩;have hn:=zB v5 (.cells #[.bool sh,.slice xh nh ch,.slice yh mh dh] 24);have hbn:=bUp hb hn;replace HB:=zI HB hbn;replace HZ:=zk (HZ.out.q_ hbn);replace HM:=zk (HM.out.q_ hbn)
 have HX:=zk (show Rf 8 (v5.alloc (.cells #[.bool sh,.slice xh nh ch,.slice yh mh dh] 24)) (some ⟨v5.heap.size,0,none⟩) [((-1:Int):Rat)/2] from (zhf (base:=0) (hr.out.mono (by decide)) (Nat.zero_le _)).rf);clear hb hr hn hbn;go_wp2_with fail
 generalize v5.alloc (.cells #[.bool sh,.slice xh nh ch,.slice yh mh dh] 24)=vvv5 at *;generalize v5.heap.size=ppv5 at *;refine (ziq (L:=8) HM.out zkk HX.out rfl rfl (by decide) (by decide)).mono ?_;rintro e v6 ⟨hb,⟨h9,_⟩ | ⟨_,sb,xb,nb,cb,fb,yb,mb,db,gb,rfl,hen⟩⟩
 ·exact absurd rfl h9
 rw [k2_b1.1] at hen ⊢;rw [k2_b1.2] at hen;have hn:=zB v6 (.cells #[.int .i64 0,.bool sb,.slice xb nb cb,.slice yb mb db] 42);have hbn:=bUp hb hn;replace HB:=zI HB hbn;replace HZ:=zk (HZ.out.q_ hbn)
 have Bb:=zk (zH v6 [.int .i64 0,.bool sb,.slice xb nb cb,.slice yb mb db] 42);have Hb:=zk (Rn.q_ hen.rn hn);clear hb hen hn hbn HM HX;go_wp2_with fail
 generalize v6.alloc (.cells #[.int .i64 0,.bool sb,.slice xb nb cb,.slice yb mb db] 42)=vvv6 at *;generalize v6.heap.size=bxb at *;refine first11_c.mono ?_;rintro e v7 ⟨⟨⟨sm,xm,nm,cm,fm,ym,mm,dm,gm⟩,cam,ckm,ccm,Cm,ram,rkm,rcm,Rm⟩,rfl,hb,HM⟩;replace HB:=zI HB hb;replace HZ:=zk (HZ.out.q_ hb);replace Bb:=zk (Bb.out.q_ hb);replace Hb:=zk (Hb.out.q_ hb)
 clear hb;go_wp2_with fail
 refine (zbk (z:=1) (by decide) (by decide)).mono ?_;rintro e v8 ⟨sh,xh,nh,ch,fh,yh,mh,dh,gh,rfl,hb,hr⟩;have hn:=zB v8 (.cells #[.bool sh,.slice xh nh ch,.slice yh mh dh] 24);have hbn:=bUp hb hn;replace HB:=zI HB hbn;replace HZ:=zk (HZ.out.q_ hbn);replace Bb:=zk (Bb.out.q_ hbn);replace Hb:=zk (Hb.out.q_ hbn);replace HM:=zk (HM.out.q_ hbn)
 have HX:=zk (show Rf 8 (v8.alloc (.cells #[.bool sh,.slice xh nh ch,.slice yh mh dh] 24)) (some ⟨v8.heap.size,0,none⟩) [((1:Int):Rat)] from (zhf (base:=0) (hr.mono (by decide)) (Nat.zero_le _)).rf);clear hb hr hn hbn;go_wp2_with fail
 generalize v8.alloc (.cells #[.bool sh,.slice xh nh ch,.slice yh mh dh] 24)=vvv8 at *;generalize v8.heap.size=ppv8 at *;refine (ziq (L:=8) HM.out zkk HX.out rfl rfl (by decide) (by decide)).mono ?_;rintro e v9 ⟨hb,⟨h9,_⟩ | ⟨_,sc,xc,nc,cc,fc,yc,mc,dc,gc,rfl,hen⟩⟩
 ·exact absurd rfl h9
 rw [zsg] at hen ⊢;have hn:=zB v9 (.cells #[.int .i64 (-1),.bool sc,.slice xc nc cc,.slice yc mc dc] 42);have hbn:=bUp hb hn;replace HB:=zI HB hbn;replace HZ:=zk (HZ.out.q_ hbn);replace Bb:=zk (Bb.out.q_ hbn);replace Hb:=zk (Hb.out.q_ hbn)
 have Bc:=zk (zH v9 [.int .i64 (-1),.bool sc,.slice xc nc cc,.slice yc mc dc] 42);clear hb hen hn hbn HM HX;go_wp2_with fail
 generalize v9.alloc (.cells #[.int .i64 (-1),.bool sc,.slice xc nc cc,.slice yc mc dc] 42)=vvv9 at *;generalize v9.heap.size=bxc at *;refine first11_c.mono ?_;rintro e v10 ⟨⟨⟨sm,xm,nm,cm,fm,ym,mm,dm,gm⟩,cam,ckm,ccm,Cm,ram,rkm,rcm,Rm⟩,rfl,hb,HM⟩;replace HB:=zI HB hb;replace HZ:=zk (HZ.out.q_ hb);replace Bb:=zk (Bb.out.q_ hb);replace Hb:=zk (Hb.out.q_ hb);replace Bc:=zk (Bc.out.q_ hb)
 clear hb;go_wp2_with fail
 refine best11_c.mono ?_;rintro e v11 ⟨ax,ay,az,rfl,hb,hr⟩;replace HB:=zI HB hb;replace HZ:=zk (HZ.out.q_ hb);replace Bb:=zk (Bb.out.q_ hb);replace Hb:=zk (Hb.out.q_ hb);replace Bc:=zk (Bc.out.q_ hb);replace HM:=zk (HM.out.q_ hb)
 have HP:=zk hr.out;clear hb hr;go_wp2_with fail
 refine (znF (L:=8) HM.out zkk HP.out.2.1 rfl rfl HP.out.1 rfl rfl HP.out.2.2 rfl (by decide) (by decide)).mono ?_;rintro e w5 ⟨rfl,hb⟩;rw [k2_h];replace HB:=zI HB hb;replace HZ:=zk (HZ.out.q_ hb);replace Bb:=zk (Bb.out.q_ hb);replace Hb:=zk (Hb.out.q_ hb);replace Bc:=zk (Bc.out.q_ hb)
 clear hb HM HP;go_upto_region 5 with fail
 obtain ⟨zb,zo,⟨s,x,n,c,f,y,m,d,g⟩,hb1,⟨p0,p1,p2⟩,hr⟩:=HZ.out 0 _ rfl;subst hb1;replace p0:w5.cell? ⟨zb,zo,none⟩=some (.bool s):=p0;replace p1:w5.cell? ⟨zb,zo+1,none⟩=some (.slice x n c):=p1;replace p2:w5.cell? ⟨zb,zo+2,none⟩=some (.slice y m d):=p2;have HR:Hid (Rn (KV 8) w5 s x n c f y m d g (((-1:Int):Rat)/2)):=hr;clear hr HZ;have k0:=Bb.out.cell (j:=0) rfl;have k1:=Bb.out.cell (j:=1) rfl;have k2:=Bb.out.cell (j:=2) rfl;have k3:=Bb.out.cell (j:=3) rfl
 have j0:=Bc.out.cell (j:=0) rfl;have CD:=zk (fun W=>zcA (w:=W) (z:=-1) (by decide) (by decide) zhV);have CE:Hid (∀W,Calls prog 25 #[.int .i64 (-2)] W fun e w'=>∃s x n c f y m d g,e=.returned (.agg #[.int .i64 0,.bool s,.slice x n c,.slice y m d])/\Bl W w'/\Rn 8 w' s x n c f y m d g ((-2:Int):Rat)):=fun W=>(zeH (w:=W) (z:=-2) (by decide) (by decide)).mono (fun e w' ⟨v8,h1,h2,⟨i8,⟨s8,x8,n8,c8,f8,y8,m8,d8,g8⟩⟩,ev,hi8,hv⟩=>by replace hi8:i8=0:=hi8;subst hi8;exact ⟨s8,x8,n8,c8,f8,y8,m8,d8,g8,by rw [h1,ev];rfl,h2,hv⟩)
 have CS:Hid (∀W s2 x2 n2 c2 f2 y2 m2 d2 g2,Bl w5 W->Rn 4 W s2 x2 n2 c2 f2 y2 m2 d2 g2 (((-1:Int):Rat)/2)->Calls prog 24 #[.agg #[.bool s,.slice x n c,.slice y m d],.agg #[.bool s2,.slice x2 n2 c2,.slice y2 m2 d2]] W fun e w'=>e=.returned (.bool true)/\Bl W w'):=fun W s2 x2 n2 c2 f2 y2 m2 d2 g2 hW h2=>zcG (HR.out.q_ hW) h2 (by decide) (by decide)
 have CT:Hid (∀W s3 x3 n3 c3 f3 y3 m3 d3 g3,Bl w5 W->Rn 8 W s3 x3 n3 c3 f3 y3 m3 d3 g3 ((-2:Int):Rat)->Calls prog 15 #[.agg #[.int .i64 0,.bool sb,.slice xb nb cb,.slice yb mb db],.agg #[.int .i64 0,.bool s3,.slice x3 n3 c3,.slice y3 m3 d3]] W fun e w'=>e=.returned (.bool true)/\Bl W w'):=fun W s3 x3 n3 c3 f3 y3 m3 d3 g3 hW h2=>zhy (fun V hV=>zcG (Rn.q_ (Rn.q_ Hb.out hW) hV) (Rn.q_ h2 hV) (by decide) (by decide))
 go_region_held3 (fun w'=>w'.cell? ⟨zb,zo,none⟩=some (.bool s)/\w'.cell? ⟨zb,zo+1,none⟩=some (.slice x n c)/\w'.cell? ⟨zb,zo+2,none⟩=some (.slice y m d)/\w'.cell? ⟨bxb,0,none⟩=some (.int .i64 0)/\w'.cell? ⟨bxb,1,none⟩=some (.bool sb)/\w'.cell? ⟨bxb,2,none⟩=some (.slice xb nb cb)/\w'.cell? ⟨bxb,3,none⟩=some (.slice yb mb db)/\w'.cell? ⟨bxc,0,none⟩=some (.int .i64 (-1)))
  (refine ⟨?_,?_,?_,?_,?_,?_,?_,?_⟩ <;> repeat (with_reducible first | assumption | refine kCd ?_ | refine kCb (by assumption) ?_))
  (first
   | (go_at_call 21;with_reducible refine (CD.out _).mono ?_;rintro e w6 ⟨s6,x6,n6,c6,f6,y6,m6,d6,g6,rfl,hb6,H6⟩)
   | (go_at_call 25;with_reducible refine (CE.out _).mono ?_;rintro e w8 ⟨s8,x8,n8,c8,f8,y8,m8,d8,g8,rfl,hb8,H8⟩;replace H8:=zk H8)
   | (go_at_call 24;with_reducible refine (CS.out _ s6 x6 n6 c6 f6 y6 m6 d6 g6 zak (H6.out.q_ zak)).mono ?_;rintro e w7 ⟨rfl,hb7⟩)
   | (go_at_call 15;with_reducible refine (CT.out _ s8 x8 n8 c8 f8 y8 m8 d8 g8 zak (H8.out.q_ zak)).mono ?_;rintro e w9 ⟨rfl,hb9⟩))
 all_goals
  have HB9:=zk (HB.out.trans ((show Bl w5 w9 from zak).mono HB.out.size));clear p0 p1 p2 k0 k1 k2 k3 j0 CD CS CE CT HR;go_wp2;go_ret;exact ⟨by first | rfl | simp,HB9.out⟩
structure Fr (F:Nat->Prop) (w w':World):Prop where
 os:w'.os=w.os
 tape:w'.tape=w.tape
 output:w'.output=w.output
 size:w.heap.size<=w'.heap.size
 block:∀k,k<w.heap.size->¬F k->w'.heap[k]?=w.heap[k]?
 kp:∀a k f,Rd .u64 w a k f->Rd .u64 w' a k f
theorem Fr.of {F w w'} (h:Bl w w'):Fr F w w':=⟨h.os,h.tape,h.output,h.size,fun k hk _=>h.block k hk,fun _ _ _ r=>r.kp (Kp.of_below h)⟩
theorem Fr.refl (F:Nat->Prop) (w:World):Fr F w w:=⟨rfl,rfl,rfl,le_refl _,fun _ _ _=>rfl,fun _ _ _ r=>r⟩
theorem Fr.trans {F w w1 w2} (h:Fr F w w1) (k:Fr F w1 w2):Fr F w w2 :=
 ⟨k.os.trans h.os,k.tape.trans h.tape,k.output.trans h.output,le_trans h.size k.size,fun j hj hn=>(k.block j (Nat.lt_of_lt_of_le hj h.size) hn).trans (h.block j hj hn),fun _ _ _ r=>k.kp _ _ _ (h.kp _ _ _ r)⟩
theorem Fr.rn {F w w' L s x n c f y m d g q} (h:Fr F w w') (r:Rn L w s x n c f y m d g q):Rn L w' s x n c f y m d g q :=
 ⟨⟨h.kp _ _ _ r.num.rd,r.num.lm,r.num.wf,r.num.cap,r.num.nil,r.num.val⟩,⟨h.kp _ _ _ r.den.rd,r.den.lm,r.den.wf,r.den.cap,r.den.nil,r.den.val⟩,r.ln,r.ld⟩
theorem Fr.imp {F G w w'} (h:Fr F w w') (hi:∀k,F k->G k):Fr G w w':=⟨h.os,h.tape,h.output,h.size,fun k hk hn=>h.block k hk (fun hf=>hn (hi k hf)),h.kp⟩
theorem Fr.q_ {F w0 w w'} (h0:Bl w0 w) (h:Fr F w w') (hF:∀k,F k->w0.heap.size<=k):Bl w0 w' :=
 ⟨h.os.trans h0.os,h.tape.trans h0.tape,h.output.trans h0.output,le_trans h0.size h.size,fun k hk=>(h.block k (Nat.lt_of_lt_of_le hk h0.size) (fun hf=>by have:=hF k hf;omega)).trans (h0.block k hk)⟩
theorem Fr.bk {F w w' B vs t} (h:Fr F w w') (hb:Bk w B vs t) (hn:¬F B):Bk w' B vs t:=(h.block B hb.lt hn).trans hb
theorem Fr.cell {F w w' b o v} (h:Fr F w w') (hn:¬F b) (hc:w.cell? ⟨b,o,none⟩=some v):w'.cell? ⟨b,o,none⟩=some v:=(cell?_of_block (a:=⟨b,o,none⟩) (h.block b (World.block_lt_of_cell? w _ hc) hn)).trans hc
theorem Tf.fr {F L w w' ao v} (h:Tf L w ao v) (hf:Fr F w w') (hn:∀b o,ao=some ⟨b,o,none⟩->¬F b):Tf L w' ao v:=fun j a q e=>by
 obtain ⟨b,o,t,h1,h2,h3⟩:=h j a q e;have hb:=hn b o h1;exact ⟨b,o,t,h1,⟨hf.cell hb h2.x0,hf.cell hb h2.x1,hf.cell hb h2.x2,hf.cell hb h2.x3⟩,hf.rn h3⟩
structure BV where
 q:Rat
 i:Int
 a:Rat
 up:Bool
 ts:List (Int × Rat)
theorem zgl {w w':World} {B o} (h:w'.heap[B]?=w.heap[B]?):w'.frozen? ⟨B,o,none⟩=w.frozen? ⟨B,o,none⟩:=by
 simp only [World.frozen?,h]
theorem Rk.fr {F w w' B n} (h:Rk w B n) (hf:Fr F w w') (hn:¬F B):Rk w' B n :=
 ⟨Nat.lt_of_lt_of_le h.z hf.size,fun o ho=>by obtain ⟨u,h1,h2⟩:=h.has o ho;exact ⟨u,hf.cell hn h1,h2⟩,fun o=>(zgl (hf.block B h.z hn)).trans (h.fz o)⟩
theorem Sx.fr {F w w' B s x n c y m d} (h:Sx w B s x n c y m d) (hf:Fr F w w') (hn:¬F B):Sx w' B s x n c y m d :=
 ⟨Nat.lt_of_lt_of_le h.z hf.size,hf.cell hn h.x0,hf.cell hn h.x1,hf.cell hn h.x2,fun o=>(zgl (hf.block B h.z hn)).trans (h.fz o)⟩
theorem Bk.sx {w B s x n c y m d t} (h:Bk w B [.bool s,.slice x n c,.slice y m d] t):Sx w B s x n c y m d:=⟨h.lt,h.cell (j:=0) rfl,h.cell (j:=1) rfl,h.cell (j:=2) rfl,h.frozen⟩
theorem Ob.sx {w B} (h:Ob w B):Sx w B false none 0 0 none 0 0:=⟨h.z,h.z0,h.z1,h.z2,h.zf⟩
theorem Ob.fr {F w w' B} (h:Ob w B) (hf:Fr F w w') (hn:¬F B):Ob w' B:=by
 have:=h.sx.fr hf hn;exact ⟨this.z,this.x0,this.x1,this.x2,this.fz⟩
theorem Rf.fr {F L w w' B o p} (h:Rf L w (some ⟨B,o,none⟩) p) (hf:Fr F w w') (hn:¬F B):Rf L w' (some ⟨B,o,none⟩) p:=fun j q e=>by
 obtain ⟨b,o',t,e1,h1,h2⟩:=h j q e;cases e1
 exact ⟨_,_,t,rfl,⟨hf.cell hn h1.x0,hf.cell hn h1.x1,hf.cell hn h1.x2⟩,hf.rn h2⟩
structure T4 (w:World) (b0 b1 b2 b3:Option Addr) (k0:Nat) (X0 Y0:Nat->Nm) (k1:Nat) (X1 Y1:Nat->Nm) (k2:Nat) (X2 Y2:Nat->Nm) (k3:Nat) (X3 Y3:Nat->Nm):Prop where
 t0:Tx w b0 k0 X0 Y0
 t1:Tx w b1 k1 X1 Y1
 t2:Tx w b2 k2 X2 Y2
 t3:Tx w b3 k3 X3 Y3
theorem T4.q_ {w w' b0 b1 b2 b3 k0 X0 Y0 k1 X1 Y1 k2 X2 Y2 k3 X3 Y3} (h:T4 w b0 b1 b2 b3 k0 X0 Y0 k1 X1 Y1 k2 X2 Y2 k3 X3 Y3) (hb:Bl w w'):T4 w' b0 b1 b2 b3 k0 X0 Y0 k1 X1 Y1 k2 X2 Y2 k3 X3 Y3:=⟨h.t0.q_ hb,h.t1.q_ hb,h.t2.q_ hb,h.t3.q_ hb⟩
theorem zfe (M:Mo):(zbf M).length=M.rk:=by simp [zbf]
theorem zlM {α β γ:Type} {f a b} {q:γ} (h:q ∈ List.zipWith f a b):∃(i:Nat) (x:α) (y:β),a[i]?=some x/\b[i]?=some y/\q=f x y:=by
 obtain ⟨i,hi⟩:=List.getElem?_of_mem h;rw [List.getElem?_zipWith] at hi;cases ha:a[i]? with
 | none=>rw [ha] at hi;cases hi
 | some x =>
  cases hb:b[i]? with
  | none=>rw [ha,hb] at hi;cases hi
  | some y=>rw [ha,hb] at hi;exact ⟨i,x,y,ha,hb,(Option.some.inj hi).symm⟩
theorem zbx {M k X} (h:zbF M k X=0):zaA M=0/\afB k X=true/\k=M.rk:=by
 obtain ⟨h1,h2⟩:=zma h;refine ⟨h1,?_⟩;unfold pnE at h2;by_cases a:afB k X=true
 ·rw [if_pos a] at h2;by_cases b:k=M.rk
  ·exact ⟨a,b⟩
  ·rw [if_neg (by omega)] at h2;cases h2
 ·rw [if_neg a] at h2;cases h2
theorem zil {K w ao k X X' M M'} (h:TmK K w M M') (hx:Tx w ao k X X'):zbF M' k X'=zbF M k X:=by
 unfold zbF;rw [h.1.chk,h.1.rk];unfold pnE;rw [show afB k X'=afB k X from zju (fun j _ b=>hx.2 j (by omega))]
theorem zkz {K w ao k X X' M M'} (L:Nat) (hL:K<=L) (hK:K<=100) (h:TmK K w M M') (hN:MoN M) (hx:Tx w ao k X X') (hs:ShK K k X) (he:zbF M k X=0):MoV L w M' (nq M.off) (zbg M) (zbf M)/\zbw (zbg M) (zbf M)=true/\Rf L w ao (zaW k X)/\(zaW k X).length=k/\k=(zbf M).length:=by
 obtain ⟨h1,h2,h3⟩:=zbx he;obtain ⟨a,b⟩:=h.valL L hL hK hN h1;exact ⟨a,b,(hx.valK hs h2).mono hL,zbZ _ _,by rw [zfe];exact h3⟩
theorem zlB {K w M M' ao k cap X X'} (h:TmK K w M M') (hN:MoN M) (hx:Tx w ao k X X') (hs:ShK K k X) (hK4:4<=K) (hK:K<=8) :
  Calls prog 13 #[M'.val,.slice ao k cap] w fun e w'=>BoAns K w w' e (zbF M k X) (bnP (nq M.off) (zbg M) (zbf M) (zaW k X)) :=
 zio h.2.1 hx.1 (by have:=hs.1;omega) (zil h hx) (fun he=>zkz K (by omega) (by omega) h hN hx hs he) hK4 hK
theorem zhI {K w M M' ao k cap X X'} (h:TmK K w M M') (hN:MoN M) (hx:Tx w ao k X X') (hs:ShK K k X) (hK:K<=30) :
  Calls prog 8 #[M'.val,.slice ao k cap] w fun e w'=>zfM K w w' e (zbF M k X) (zbg M) (zbf M) (zaW k X) :=
 zcl h.2.1 hx.1 (by have:=hs.1;omega) (zil h hx) (fun he=>zkz K (by omega) (by omega) h hN hx hs he) hK
theorem zhS {cs rs} (h:zbw cs rs=true):∀v ∈ rs,tsB cs.length (-1) v.ts=true:=fun v hv=>by
 simp only [zbw,Bool.and_eq_true,decide_eq_true_eq,List.all_eq_true] at h;exact (h.2.2.2.1 v hv).2.1
def zrz (K:Nat) (w w':World) (e:Ending) (k:Nat) (p:List Rat):Prop:=∃a c,e=.returned (.slice a k c)/\Bl w w'/\(k<=c/\c<=9223372036854775807)/\Hid (Rf K w' a p)
theorem zrM {w K ao k cap p} (h:Rqs K w ao p) (hp:p.length=k) (hk:k<=10000) (hK:K<=200000) :
  Calls prog 37 #[.slice ao k cap] w fun e w'=>zrz (2*K) w w' e k p:=by
 have H:=zk h;clear h;have HPL:=zk hp;go_enter func37,ntmps37;go_wp2_with fail
 go_loopw [3,8] (fun ov t wr=>∃(i:Nat),i<=k/\t=.int .i64 i/\Hid (Bl w wr)/\Hid (Gr (2*K) w.heap.size wr ov (p.take i))) (fun _ t _=>k-(intOf t).toNat)
 case atStart=>exact ⟨0,by omega,rfl,Below.refl _ _,zfD _ _ _⟩
 case round =>
  obtain ⟨i,hi,rfl,HB,HG⟩:=hrel;by_cases hlt:i<k
  ·obtain ⟨q,hq⟩:∃q,p[i]?=some q:=⟨_,getElem?_eq_getElem (by omega)⟩;obtain ⟨b,o,⟨s,x,n,c,f,y,m,d,g⟩,hao,hc,hn⟩:=(H.out.q_ HB.out) i q hq;subst hao;obtain ⟨x0,x1,x2⟩:=hc;replace x0:wr.cell? ⟨b,o+i*3,none⟩=some (.bool s):=x0;replace x1:wr.cell? ⟨b,o+i*3+1,none⟩=some (.slice x n c):=x1;replace x2:wr.cell? ⟨b,o+i*3+2,none⟩=some (.slice y m d):=x2;have i1:((i:Nat):Int)<((k:Nat):Int):=by omega
   have HQ:=zk hq;have hb5:=zB wr (.cells #[.bool s,.slice x n c,.slice y m d] 89);have HN:=zk (hn.q_ hb5);have HB5:=zI HB hb5;have HG5:=zk (HG.out.q_ hb5)
   have hli:(p.take i).length=i:=by rw [List.length_take];omega
   have HLI:=zk hli;clear hn hb5 hq hli;go_wp2_with fail
   clear x0 x1 x2 HB HG;generalize wr.alloc (.cells #[.bool s,.slice x n c,.slice y m d] 89)=w5 at *;refine (zfj HN.out.2.2 (le_trans HN.out.1 hK) (le_trans HN.out.2.1 hK)).mono ?_;rintro e w6 ⟨zp,np,cp,fp,zq,nq9,cq,fq,rfl,hb6,hr⟩;have HB6:=zI HB5 hb6;have HG6:=zk (HG5.out.q_ hb6)
   have HR:Hid (Rn (2*K) w6 s zp np cp fp zq nq9 cq fq q):=hr.out.mono (by have h1:n<=K:=HN.out.1;have h2:m<=K:=HN.out.2.1;show n+m<=2*K;omega);clear hb6 HB5 HG5 HN hr;have hsz:=HB6.out.size;obtain ⟨T9,hrow,hT⟩:=HG6.out;rw [HLI.out] at hrow;have HROW:=zk hrow;have HTT:=zk hT
   clear hrow hT HG6;go_wp2_with (at_builtin;go_must (refine zaa w6 rfl (.tmp 12) (.tmp 15) 29 rfl w.heap.size 24 56 3 (.agg #[.bool false,.slice none 0 0,.slice none 0 0]) underlying29 zbL rfl (by decide) nz3 u3 i (rcells (rls i T9)) rfl HROW.out #[.bool s,.slice zp np cp,.slice zq nq9 cq] rfl rfl (zfT _ _ _ _ _ _ _) (zen _ _ _ _ _ _ _) ?p1 (by decide) hsz ?_))
   case p1=>omega
   intro g8 cap8 w8 hr8 hk8 hb8 hg8;have HB8:=zk (hb8 w HB6.out (le_refl _));have HG8:Hid (Gr (2*K) w.heap.size w8 (.slice (some ⟨g8,0,none⟩) (i+1) cap8) (p.take (i+1))):=by
    have hp9:=zdH (p:=p.take i) HTT.out (by rw [HLI.out];exact hr8) hk8 HR.out;rw [HLI.out] at hp9;rw [List.take_add_one,HQ.out];exact hp9
   clear hr8 hk8 hb8 hg8 HB6 hsz HROW HTT HLI HQ HR;go_wp2;go_roundw
   case rel=>exact ⟨i+1,by omega,by go_num,HB8.out,HG8.out⟩
   case measure=>simp [intOf];omega
  ·have e1:i=k:=by omega
   have i1:¬(((i:Nat):Int)<((k:Nat):Int)):=by omega
   obtain ⟨va,vc,hvs,hvc⟩:=HG.out.slice;rw [List.take_of_length_le (by omega)] at hvs hvc;rw [hp] at hvs hvc;have HG4:=HG.out;rw [hvs] at HG4;replace HG4:=zk (show Rf (2*K) wr va p by have:=HG4.rf;rw [List.take_of_length_le (by omega)] at this;exact this);subst hvs;have HV4:=zk hvc;clear HG e1 hvc;go_wp2;go_ret;exact ⟨va,vc,rfl,HB.out,HV4.out,HG4⟩
theorem zfi {w M ao k cap X} (hI:In8 w M) (hx:Rl w ao k X) (hs:ShK 8 k X) :
  Calls prog 36 #[M.val,.slice ao k cap] w fun e w'=>e=.returned (.int .i64 (zbF M k X))/\Bl w w':=by
 have CC:=zk (fun W (hW:Bl w W)=>zji (w:=W) ((hI.x.q_ hW).both hI.n hI.k (by decide)) hI.c);have CF:=zk (fun W (hW:Bl w W)=>zpw (w:=W) (cap:=cap) (hx.q_ hW) (by have:=hs.1;omega) (fun j hj=>by have:=hs.2 j hj;omega));obtain ⟨ec,hec⟩:∃e,zaA M=e:=⟨_,rfl⟩;obtain ⟨bf,hbf⟩:∃e,afB k X=e:=⟨_,rfl⟩;unfold zbF pnE;rw [hec] at CC ⊢;rw [hbf] at CF ⊢;clear hI hx hs hec hbf;obtain ⟨⟨s,x,n,c,f,y,m,d,g⟩,ca,ck,cc,C,ra,rk,rc,R⟩:=M;replace CC:Hid (∀W,Bl w W->Calls prog 51 #[.agg #[.bool s,.slice x n c,.slice y m d,.slice ca ck cc,.slice ra rk rc]] W fun e w'=>e=.returned (.int .i64 ec)/\Bl W w'):=CC;show Calls prog 36 #[.agg #[.bool s,.slice x n c,.slice y m d,.slice ca ck cc,.slice ra rk rc],.slice ao k cap] w fun e w'=>e=.returned (.int .i64 (lsf (two ec (if bf=true then (if (k:Int)=(rk:Int) then 0 else 7) else 3)) 2))/\Bl w w'
 rw [zeM];obtain ⟨er,her⟩:∃e,lstep ec (if bf=true then (if (k:Int)=(rk:Int) then 0 else 7) else 3)=e:=⟨_,rfl⟩;rw [her];have HE:=zk her;clear her;have HB:=zk (zB w (.cells #[.bool s,.slice x n c,.slice y m d,.slice ca ck cc,.slice ra rk rc] 28));have BM:=zk (zH w [.bool s,.slice x n c,.slice y m d,.slice ca ck cc,.slice ra rk rc] 28);go_enter func36,ntmps36;obtain ⟨r0,r1,r2,r3,r4⟩:=bk5 BM.out;go_wp2_with fail
 clear r0 r1 r2 r3 r4;generalize (w.alloc (.cells #[.bool s,.slice x n c,.slice y m d,.slice ca ck cc,.slice ra rk rc] 28))=v0 at *;refine (CC.out _ HB.out).mono ?_;rintro e v1 ⟨rfl,hb⟩;replace HB:=zI HB hb;replace BM:=zk (BM.out.q_ hb)
 clear hb;go_wp2_with fail
 refine (CF.out _ HB.out).mono ?_;rintro e v2 ⟨rfl,hb⟩;replace HB:=zI HB hb;replace BM:=zk (BM.out.q_ hb)
 clear hb;clear CC CF;cases bf
 ·have h0:lstep ec 3=er:=HE.out;have hb:=zB v2 (.cells #[.int .i64 ec,.int .i64 3] 3);go_wp2_with fail
  refine (zdI zeY (by decide)).mono ?_;rintro e w5 ⟨rfl,rfl⟩;replace HB:=zI HB hb;replace BM:=zk (BM.out.q_ hb)
  clear hb;generalize v2.alloc (.cells #[.int .i64 ec,.int .i64 3] 3)=v2' at *;rw [zeM,h0];have r4:=BM.out.cell (j:=4) rfl;by_cases hk:((k:Nat):Int)=((rk:Nat):Int)
  ·have hk':(((k:Nat):Int) != ((rk:Nat):Int))=false:=by simp [hk]
   go_wp2;go_ret;exact ⟨rfl,HB.out⟩
  ·have hk':(((k:Nat):Int) != ((rk:Nat):Int))=true:=by simpa using hk
   have h1:lstep er 7=er:=by rw [<-h0];exact znh ec
   have hb:=zu (Below.refl v2'.heap.size v2') (.cells #[.int .i64 er,.int .i64 7] 3);go_wp2_with fail
   refine (zdI zeY (by decide)).mono ?_;rintro e w5 ⟨rfl,rfl⟩;replace HB:=zI HB hb;replace BM:=zk (BM.out.q_ hb)
   clear hb;generalize v2'.alloc (.cells #[.int .i64 er,.int .i64 7] 3)=v2'' at *;rw [zeM,h1];go_wp2;go_ret;exact ⟨rfl,HB.out⟩
 ·have h0:lstep ec (if (k:Int)=(rk:Int) then 0 else 7)=er:=HE.out;have r4:=BM.out.cell (j:=4) rfl;by_cases hk:((k:Nat):Int)=((rk:Nat):Int)
  ·have hk':(((k:Nat):Int) != ((rk:Nat):Int))=false:=by simp [hk]
   have h9:lstep ec 0=ec:=by unfold lstep;split <;> omega
   rw [if_pos hk,h9] at h0;subst h0;clear h9;go_wp2;go_ret;exact ⟨rfl,HB.out⟩
  ·have hk':(((k:Nat):Int) != ((rk:Nat):Int))=true:=by simpa using hk
   rw [if_neg hk] at h0;have hb:=zB v2 (.cells #[.int .i64 ec,.int .i64 7] 3);go_wp2_with fail
   refine (zdI zeY (by decide)).mono ?_;rintro e w5 ⟨rfl,rfl⟩;replace HB:=zI HB hb;replace BM:=zk (BM.out.q_ hb)
   clear hb;generalize v2.alloc (.cells #[.int .i64 ec,.int .i64 7] 3)=v2' at *;rw [zeM,h0];go_wp2;go_ret;exact ⟨rfl,HB.out⟩
def zsz (w w':World) (e:Ending) (er:Int) (k:Nat) (zs:List Rat):Prop:=Bl w w' /\
 ((er≠0/\e=.returned (.tuple #[.slice none 0 0,.int .i64 er]))∨(er=0/\∃a c,e=.returned (.tuple #[.slice a k c,.int .i64 0])/\(k<=c/\c<=9223372036854775807)/\Rf (2*(2*KZ 8)) w' a zs))
theorem zhh {w M ao k cap X} (hI:In8 w M) (hx:Rl w ao k X) (hs:ShK 8 k X) :
  Calls prog 11 #[M.val,.slice ao k cap] w fun e w'=>zsz w w' e (zbF M k X) (zbg M).length (zaz (zbf M) (zaW k X) 0 (zbg M)):=by
 have CC:=zk (fun W (hW:Bl w W)=>zfi (cap:=cap) (hI.q_ hW) (hx.q_ hW) hs);obtain ⟨er,her⟩:∃e,zbF M k X=e:=⟨_,rfl⟩;have CX:=zk (fun (h0:er=0) W (hW:Bl w W)=>zic (cap:=cap) (hx.q_ hW) hs (zbx (her.trans h0)).2.1);have CM:=zk (fun (h0:er=0) W (hW:Bl w W)=>zkp (hI.q_ hW) (zbx (her.trans h0)).1);have CR:Hid (er=0->(zbg M).length<=64/\∀W (M':Mo) a c,MqV (2*8) W M' (nq M.off) (zbg M) (zbf M)->Rqs (2*8) W a (zaW k X)->Calls prog 38 #[M'.val,.slice a k c] W fun e w'=>zjw (2*KZ 8) W w' e (zbg M).length (zaz (zbf M) (zaW k X) 0 (zbg M))):=fun h0=>by
  have h3:=zbx (her.trans h0);have hm:=(hI.val h3.1).2;exact ⟨(zbj hm).cl,fun W M' a c h1 h2=>zqL (cap:=c) h1 h2 (zbZ _ _) (by rw [zfe];exact h3.2.2) (zbj hm) (zhS hm) (by decide)⟩
 rw [her];rw [her] at CC;have HZL:=zba (zbf M) (zaW k X) (zbg M) 0;obtain ⟨zs,hzs⟩:∃e,zaz (zbf M) (zaW k X) 0 (zbg M)=e:=⟨_,rfl⟩;rw [hzs] at CR HZL ⊢;obtain ⟨xs,hxs⟩:∃e,zaW k X=e:=⟨_,rfl⟩;obtain ⟨cs,hcs⟩:∃e,zbg M=e:=⟨_,rfl⟩;obtain ⟨rs,hrs⟩:∃e,zbf M=e:=⟨_,rfl⟩;obtain ⟨of,hof⟩:∃e,nq M.off=e:=⟨_,rfl⟩;rw [hcs] at HZL ⊢;simp only [hcs,hrs,hof] at CM;simp only [hcs,hrs,hof,hxs] at CR;simp only [hxs] at CX;clear hI hx hs her hxs hcs hrs hof hzs;obtain ⟨⟨s,x,n,c,f,y,m,d,g⟩,ca,ck,cc,C,ra,rk,rc,R⟩:=M;replace CC:Hid (∀W,Bl w W->Calls prog 36 #[.agg #[.bool s,.slice x n c,.slice y m d,.slice ca ck cc,.slice ra rk rc],.slice ao k cap] W fun e w'=>e=.returned (.int .i64 er)/\Bl W w'):=CC;replace CM:Hid (er=0->∀W,Bl w W->Calls prog 39 #[.agg #[.bool s,.slice x n c,.slice y m d,.slice ca ck cc,.slice ra rk rc]] W fun e w'=>∃M':Mo,e=.returned M'.val/\Bl W w'/\Hid (MqV (2*8) w' M' of cs rs)):=CM;show Calls prog 11 #[.agg #[.bool s,.slice x n c,.slice y m d,.slice ca ck cc,.slice ra rk rc],.slice ao k cap] w _;have HB:=zk (zB w (.cells #[.bool s,.slice x n c,.slice y m d,.slice ca ck cc,.slice ra rk rc] 28));have BM:=zk (zH w [.bool s,.slice x n c,.slice y m d,.slice ca ck cc,.slice ra rk rc] 28);have HZ:=zk HZL;clear HZL;go_enter func11,ntmps11;obtain ⟨r0,r1,r2,r3,r4⟩:=bk5 BM.out;go_wp2_with fail
 clear r0 r1 r2 r3 r4;generalize (w.alloc (.cells #[.bool s,.slice x n c,.slice y m d,.slice ca ck cc,.slice ra rk rc] 28))=v0 at *;refine (CC.out _ HB.out).mono ?_;rintro e v1 ⟨rfl,hb⟩;replace HB:=zI HB hb;replace BM:=zk (BM.out.q_ hb)
 clear hb;clear CC;by_cases h0:er=0
 case neg =>
  have h1:(er != 0)=true:=by simpa using h0
  have HN:=zk h0;clear CX CM CR h0;go_wp2
  go_ret2
  exact ⟨HB.out,.inl ⟨HN.out,rfl⟩⟩
 subst h0;replace CX:=zk (CX.out (by first | rfl | trivial));replace CM:=zk (CM.out (by first | rfl | trivial))
 obtain ⟨hcl,hcr⟩:=CR.out (by first | rfl | trivial);replace CR:=zk hcr;clear hcr;obtain ⟨r0,r1,r2,r3,r4⟩:=bk5 BM.out;go_wp2_with fail
 clear r0 r1 r2 r3 r4;refine (CM.out _ HB.out).mono ?_;rintro e w2 ⟨M1,rfl,hb,HM⟩;replace HB:=zI HB hb;replace BM:=zk (BM.out.q_ hb)
 clear hb;clear CM;go_wp2_with fail
 refine (CX.out _ HB.out).mono ?_;rintro e w3 ⟨a3,c3,rfl,hb,H3⟩;replace HM:=zk (HM.out.q_ hb);replace HB:=zI HB hb;replace BM:=zk (BM.out.q_ hb)
 clear hb;clear CX BM;go_wp2_with fail
 refine (CR.out _ M1 a3 c3 HM.out H3.out).mono ?_;rintro e w4 ⟨a4,c4,rfl,hb,_,H4⟩;replace HB:=zI HB hb;clear hb CR HM H3;go_wp2_with fail
 refine (zrM H4.out HZ.out (le_trans hcl (by decide)) (by decide)).mono ?_;rintro e w5 ⟨a5,c5,rfl,hb,hc5,H5⟩;replace HB:=zI HB hb;have HC5:=zk hc5;clear hb H4 HZ hc5;go_wp2
 go_ret2
 exact ⟨HB.out,.inr ⟨rfl,a5,c5,rfl,HC5.out,H5.out⟩⟩
def ziD (K:Nat) (w w':World) (e:Ending) (i:Int) (q:Rat):Prop:=∃s x n c d y m c' g,e=.returned (.tuple #[.agg #[.bool s,.slice x n c,.slice y m c'],.bool (decide (i=0))])/\Bl w w'/\Hid (QnT K w' ⟨s,x,n,c,d,y,m,c',g⟩ q)
theorem zmT {w L P i1 i2 s1 x1 n1 c1 f1 y1 m1 d1 g1 q1 s2 x2 n2 c2 f2 y2 m2 d2 g2 q2 s3 x3 n3 c3 f3 y3 m3 d3 g3 q3} (h1:Fn w i1 s1 x1 n1 f1 y1 m1 g1 q1) (l1:n1<=2*L/\m1<=2*L) (h2:Fn w i2 s2 x2 n2 f2 y2 m2 g2 q2) (l2:n2<=2*L/\m2<=2*L) (h3:Qn w s3 x3 n3 f3 y3 m3 g3 q3) (l3:n3<=2*P/\m3<=2*P) (hL:L<=100) (hP:P<=15000) :
  Calls prog 80 #[.agg #[.int .i64 i1,.bool s1,.slice x1 n1 c1,.slice y1 m1 d1],.agg #[.int .i64 i2,.bool s2,.slice x2 n2 c2,.slice y2 m2 d2],.agg #[.bool s3,.slice x3 n3 c3,.slice y3 m3 d3]] w fun e w'=>ziD (2*(P+L+1)) w w' e (shI q3 i1 i2) (shQ q3 q1 q2):=by
 have hb:=zu (zu (zu (zB w (.cells #[.int .i64 i1,.bool s1,.slice x1 n1 c1,.slice y1 m1 d1] 103)) (.cells #[.int .i64 i2,.bool s2,.slice x2 n2 c2,.slice y2 m2 d2] 103)) (.cells #[.bool s3,.slice x3 n3 c3,.slice y3 m3 d3] 89)) (.cells #[.bool false,.slice none 0 0,.slice none 0 0] 89);have B1:=zk ((((zH w [.int .i64 i1,.bool s1,.slice x1 n1 c1,.slice y1 m1 d1] 103).q_ (zB _ (.cells #[.int .i64 i2,.bool s2,.slice x2 n2 c2,.slice y2 m2 d2] 103))).q_ (zB _ (.cells #[.bool s3,.slice x3 n3 c3,.slice y3 m3 d3] 89))).q_ (zB _ (.cells #[.bool false,.slice none 0 0,.slice none 0 0] 89)));have B2:=zk (((zgu w (.cells #[.int .i64 i1,.bool s1,.slice x1 n1 c1,.slice y1 m1 d1] 103) [.int .i64 i2,.bool s2,.slice x2 n2 c2,.slice y2 m2 d2] 103).q_ (zB _ (.cells #[.bool s3,.slice x3 n3 c3,.slice y3 m3 d3] 89))).q_ (zB _ (.cells #[.bool false,.slice none 0 0,.slice none 0 0] 89)));have B3:=zgu (w.alloc (.cells #[.int .i64 i1,.bool s1,.slice x1 n1 c1,.slice y1 m1 d1] 103)) (.cells #[.int .i64 i2,.bool s2,.slice x2 n2 c2,.slice y2 m2 d2] 103) [.bool s3,.slice x3 n3 c3,.slice y3 m3 d3] 89;rw [zz] at B3;replace B3:=zk (B3.q_ (zB _ (.cells #[.bool false,.slice none 0 0,.slice none 0 0] 89)));have OB:=zaE (((w.alloc (.cells #[.int .i64 i1,.bool s1,.slice x1 n1 c1,.slice y1 m1 d1] 103)).alloc (.cells #[.int .i64 i2,.bool s2,.slice x2 n2 c2,.slice y2 m2 d2] 103)).alloc (.cells #[.bool s3,.slice x3 n3 c3,.slice y3 m3 d3] 89)) 89;rw [zz,zz,zz] at OB;replace OB:=zk OB;have H1:=zk (h1.q_ hb);have H2:=zk (h2.q_ hb);have H3:=zk (h3.q_ hb);have HB:=zk hb
 have HL1:=zk (h1.qn.lo l1.1 l1.2);have HL2:=zk (h2.qn.lo l2.1 l2.2);have HL3:=zk (h3.lo l3.1 l3.2)
 clear hb h1 h2 h3;go_enter func80,ntmps80;go_upto_region 1 with fail
 generalize ((((w.alloc (.cells #[.int .i64 i1,.bool s1,.slice x1 n1 c1,.slice y1 m1 d1] 103)).alloc (.cells #[.int .i64 i2,.bool s2,.slice x2 n2 c2,.slice y2 m2 d2] 103)).alloc (.cells #[.bool s3,.slice x3 n3 c3,.slice y3 m3 d3] 89)).alloc (.cells #[.bool false,.slice none 0 0,.slice none 0 0] 89))=w1 at *;obtain ⟨t0,t1,t2⟩:=bk3 B3.out;go_wp2_with fail
 clear t0 t1 t2;refine (zoV H3.out (by omega)).mono ?_;rintro e w2 ⟨cc,rfl,hb,ho⟩;have hz:=zmM ho;replace HB:=zI HB hb;replace B1:=zk (B1.out.q_ hb);replace B2:=zk (B2.out.q_ hb);replace B3:=zk (B3.out.q_ hb);replace H1:=zk (H1.out.q_ hb);replace H2:=zk (H2.out.q_ hb);replace H3:=zk (H3.out.q_ hb);replace OB:=zk (OB.out.q_ hb)
 clear hb ho;rcases hz with ⟨rfl,hq⟩ | ⟨rfl,hq⟩ | ⟨rfl,hq⟩
 ·have HV:Hid (decide (shI q3 i1 i2=0)=(i2==0)/\shQ q3 q1 q2=q3*q2):=by
   show _/\_;unfold shI shQ;rw [if_neg (show ¬q3=0 by grind),if_pos hq,if_neg (show ¬q3=0 by grind),if_pos hq];exact ⟨by rw [show (i2==0)=decide (i2=0) from rfl,decide_eq_decide];omega,Rat.mul_comm _ _⟩
  clear hq;obtain ⟨r0,r1,r2,r3⟩:=bk4 B2.out;obtain ⟨t0,t1,t2⟩:=bk3 B3.out;go_upto_region 5 with fail
  refine wp_region_held_drew (S:=(fun w'=>w'.cell? ⟨w.heap.size+1,0,none⟩=some (.int .i64 i2)/\w'.cell? ⟨w.heap.size+1,1,none⟩=some (.bool s2)/\w'.cell? ⟨w.heap.size+1,2,none⟩=some (.slice x2 n2 c2)/\w'.cell? ⟨w.heap.size+1,3,none⟩=some (.slice y2 m2 d2)/\w'.cell? ⟨w.heap.size+1+1,0,none⟩=some (.bool s3)/\w'.cell? ⟨w.heap.size+1+1,1,none⟩=some (.slice x3 n3 c3)/\w'.cell? ⟨w.heap.size+1+1,2,none⟩=some (.slice y3 m3 d3))) (by kernel_rfl) ?_ (fun hHeld=>?_)
  ·(refine ⟨?_,?_,?_,?_,?_,?_,?_⟩ <;> repeat (with_reducible first | assumption | refine kCd ?_))
  have hbd:=Below.drew (Below.refl w2.heap.size w2);replace HB:=zI HB hbd;replace OB:=zk (OB.out.q_ hbd);replace H2:=zk (H2.out.q_ hbd);replace H3:=zk (H3.out.q_ hbd)
  generalize w2.drew=wd at *;clear hbd B1 B2 B3 H1 r0 r1 r2 r3 t0 t1 t2;obtain ⟨r0,r1,r2,r3,t0,t1,t2⟩:=id hHeld;refine zM 0 ?_;simp only [zw,Act.put];refine zM 1 ?_;simp only [zw,Act.put];refine zM 2 ?_;simp only [zw,Act.put];refine zM 4 ?_;simp only [zw,Act.put];refine zM 5 ?_;simp only [zw,Act.put];refine zM 6 ?_;simp only [zw,Act.put];refine wpAnyH_ready (rs:=[3]) (by kernel_rfl) (by simp) ?_;refine AllReadyH.cons (o:=_) rfl (fun K hK=>?_) ?_;rotate_left;exact AllReadyH.nil;go_simp
  go_at_call 73
  refine (ziS H3.out H2.out.qn (by omega) (by omega) (by omega) (by omega)).mono ?_;rintro e w6 ⟨s7,x7,n7,c7,d7,y7,m7,e7,g7,rfl,hb6,hr1,hr2,hr⟩
  (try go_wp2_with fail)
  refine hK.out _ _ ?_ (fun hH6=>?_)
  ·((try dsimp only);(refine ⟨?_,?_,?_,?_,?_,?_,?_⟩ <;> repeat (with_reducible first | assumption | refine kCb (by assumption) ?_)))
  clear hK K;try simp only [zw,Act.put]
  have HR:=zk (hr.len (zcj HL3.out HL2.out));replace HB:=zI HB hb6;replace OB:=zk (OB.out.q_ hb6)
  have HQ:=zk hr;clear hHeld hb6 hr1 hr2 hr H2 H3 r0 r1 r2 r3 t0 t1 t2;obtain ⟨r0,r1,r2,r3,t0,t1,t2⟩:=id hH6;obtain ⟨hz,z0,z1,z2,zf⟩:=id OB.out;refine wpAnyH_ready (rs:=[7]) (by kernel_rfl) (by simp) ?_;refine AllReadyH.cons (o:=_) rfl (fun K hK=>?_) ?_;rotate_left;exact AllReadyH.nil;go_simp;refine hK.out _ _ ?_ (fun hH8=>?_)
  ·((try dsimp only);(refine ⟨?_,?_,?_,?_,?_,?_,?_⟩ <;> repeat (with_reducible first | assumption | refine kCs (by simp only [ne_eq];omega) ?_ | refine kCb (by assumption) ?_)))
  clear hK K;try simp only [zw,Act.put]
  refine zM 8 ?_;simp only [zw,Act.put];refine wpAnyH_done (by kernel_rfl) ?_ _;clear hH6 hH8 r0 r1 r2 r3 t0 t1 t2;go_wp2;exact bodyPost_ret (v:=.tuple #[.agg #[.bool s7,.slice x7 n7 c7,.slice y7 m7 e7],.bool (i2==0)]) (by simp [results,results80,go_sem,z0,z1,z2]) rfl ⟨s7,x7,n7,c7,d7,y7,m7,e7,g7,by rw [HV.out.1],zW HB.out (by omega),zk ⟨HR.out.1,HR.out.2,by rw [HV.out.2];exact OB.out.qn HQ.out⟩⟩
 ·have HV:Hid (decide (shI q3 i1 i2=0)=true/\shQ q3 q1 q2=0):=by
   show _/\_;unfold shI shQ;rw [if_pos hq,if_pos hq];exact ⟨rfl,rfl⟩
  clear hq;go_wp2_with fail
  refine (zgS _).mono ?_;rintro e w6 ⟨s7,x7,n7,c7,d7,y7,m7,e7,g7,rfl,hb6,hr1,hr2,hr⟩;replace HB:=zI HB hb6;replace OB:=zk (OB.out.q_ hb6)
  clear hb6 B1 B2 B3 H1 H2 H3;obtain ⟨hz,z0,z1,z2,zf⟩:=id OB.out;go_wp2;exact bodyPost_ret (v:=.tuple #[.agg #[.bool s7,.slice x7 n7 c7,.slice y7 m7 e7],.bool true]) (by simp [results,results80,go_sem,z0,z1,z2]) rfl ⟨s7,x7,n7,c7,d7,y7,m7,e7,g7,by rw [HV.out.1],zW HB.out (by omega),zk ⟨by show n7<=_;omega,by show m7<=_;omega,by rw [HV.out.2];exact OB.out.qn hr⟩⟩
 ·have HV:Hid (decide (shI q3 i1 i2=0)=(i1==0)/\shQ q3 q1 q2=q3*q1):=by
   show _/\_;unfold shI shQ;rw [if_neg (show ¬q3=0 by grind),if_neg (show ¬q3<0 by grind),if_neg (show ¬q3=0 by grind),if_neg (show ¬q3<0 by grind)];exact ⟨rfl,Rat.mul_comm _ _⟩
  clear hq;obtain ⟨r0,r1,r2,r3⟩:=bk4 B1.out;obtain ⟨t0,t1,t2⟩:=bk3 B3.out;go_upto_region 3 with fail
  refine wp_region_held_drew (S:=(fun w'=>w'.cell? ⟨w.heap.size,0,none⟩=some (.int .i64 i1)/\w'.cell? ⟨w.heap.size,1,none⟩=some (.bool s1)/\w'.cell? ⟨w.heap.size,2,none⟩=some (.slice x1 n1 c1)/\w'.cell? ⟨w.heap.size,3,none⟩=some (.slice y1 m1 d1)/\w'.cell? ⟨w.heap.size+1+1,0,none⟩=some (.bool s3)/\w'.cell? ⟨w.heap.size+1+1,1,none⟩=some (.slice x3 n3 c3)/\w'.cell? ⟨w.heap.size+1+1,2,none⟩=some (.slice y3 m3 d3))) (by kernel_rfl) ?_ (fun hHeld=>?_)
  ·(refine ⟨?_,?_,?_,?_,?_,?_,?_⟩ <;> repeat (with_reducible first | assumption | refine kCd ?_))
  have hbd:=Below.drew (Below.refl w2.heap.size w2);replace HB:=zI HB hbd;replace OB:=zk (OB.out.q_ hbd);replace H1:=zk (H1.out.q_ hbd);replace H3:=zk (H3.out.q_ hbd)
  generalize w2.drew=wd at *;clear hbd B1 B2 B3 H2 r0 r1 r2 r3 t0 t1 t2;obtain ⟨r0,r1,r2,r3,t0,t1,t2⟩:=id hHeld;refine zM 0 ?_;simp only [zw,Act.put];refine zM 1 ?_;simp only [zw,Act.put];refine zM 2 ?_;simp only [zw,Act.put];refine zM 4 ?_;simp only [zw,Act.put];refine zM 5 ?_;simp only [zw,Act.put];refine zM 6 ?_;simp only [zw,Act.put];refine wpAnyH_ready (rs:=[3]) (by kernel_rfl) (by simp) ?_;refine AllReadyH.cons (o:=_) rfl (fun K hK=>?_) ?_;rotate_left;exact AllReadyH.nil;go_simp
  go_at_call 73
  refine (ziS H3.out H1.out.qn (by omega) (by omega) (by omega) (by omega)).mono ?_;rintro e w6 ⟨s7,x7,n7,c7,d7,y7,m7,e7,g7,rfl,hb6,hr1,hr2,hr⟩
  (try go_wp2_with fail)
  refine hK.out _ _ ?_ (fun hH6=>?_)
  ·((try dsimp only);(refine ⟨?_,?_,?_,?_,?_,?_,?_⟩ <;> repeat (with_reducible first | assumption | refine kCb (by assumption) ?_)))
  clear hK K;try simp only [zw,Act.put]
  have HR:=zk (hr.len (zcj HL3.out HL1.out));replace HB:=zI HB hb6;replace OB:=zk (OB.out.q_ hb6)
  have HQ:=zk hr;clear hHeld hb6 hr1 hr2 hr H1 H3 r0 r1 r2 r3 t0 t1 t2;obtain ⟨r0,r1,r2,r3,t0,t1,t2⟩:=id hH6;obtain ⟨hz,z0,z1,z2,zf⟩:=id OB.out;refine wpAnyH_ready (rs:=[7]) (by kernel_rfl) (by simp) ?_;refine AllReadyH.cons (o:=_) rfl (fun K hK=>?_) ?_;rotate_left;exact AllReadyH.nil;go_simp;refine hK.out _ _ ?_ (fun hH8=>?_)
  ·((try dsimp only);(refine ⟨?_,?_,?_,?_,?_,?_,?_⟩ <;> repeat (with_reducible first | assumption | refine kCs (by simp only [ne_eq];omega) ?_ | refine kCb (by assumption) ?_)))
  clear hK K;try simp only [zw,Act.put]
  refine zM 8 ?_;simp only [zw,Act.put];refine wpAnyH_done (by kernel_rfl) ?_ _;clear hH6 hH8 r0 r1 r2 r3 t0 t1 t2;go_wp2;exact bodyPost_ret (v:=.tuple #[.agg #[.bool s7,.slice x7 n7 c7,.slice y7 m7 e7],.bool (i1==0)]) (by simp [results,results80,go_sem,z0,z1,z2]) rfl ⟨s7,x7,n7,c7,d7,y7,m7,e7,g7,by rw [HV.out.1],zW HB.out (by omega),zk ⟨HR.out.1,HR.out.2,by rw [HV.out.2];exact OB.out.qn HQ.out⟩⟩
def zsq (md:Region.Mode) (ops:Array Oper) (l:Array Bool) (i:Nat):Array Bool:=((List.range ops.size).map (fun j=>l.getD j false || (zed md ops ops.size [i]).contains j)).toArray
def zkq (md:Region.Mode) (ops:Array Oper) (listed:Array Bool) (E T st:List Nat):Bool :=
 listed.size==ops.size && (E++T).Nodup &&
 (List.range ops.size).all (fun i=>!(listed.getD i false) || (depsOf md ops i).all (fun j=>listed.getD j false)) &&
 (E++T).all (fun i=>!(listed.getD i true) && decide (i<ops.size) && !(st.contains i) && (depsOf md ops i).all (fun j=>decide (j<i) && (listed.getD j false || (E++T).contains j))) &&
 (List.range ops.size).all (fun i=>listed.getD i false || (E++T).contains i || st.contains i) &&
 st.all (fun s=>!(listed.getD s true) && ((depsOf md ops s).any (fun j=>st.contains j) || E.all (fun j=>(zed md ops ops.size [s]).contains j))) &&
 T.all (fun i=>Region.free md ops (zsq md ops listed i) i)
def zrA (P:Program) (md:Region.Mode) (ops:Array Oper) (S:World->Prop) (G:Nat->Value->World->Prop) (a0:Act) (D:List (Nat × Tmp)) (F:List Nat) (i:Nat):Prop :=
 ∃o,ops[i]?=some o/\∀u w,S w->(∀j,F.contains j=true->(depsOf md ops i).contains j=true->G j (u j) w)->∃v,YieldsIf P ops S o v (fill a0 D u)/\G i v w
theorem zlu {md ops l l' i} (h:Region.free md ops l i=true) (hl:∀j,l.getD j true=true->l'.getD j true=true):Region.free md ops l' i=true:=by
 unfold Region.free at h ⊢;cases ho:ops[i]? with
 | none=>rw [ho] at h;exact h
 | some oi =>
  rw [ho] at h;simp only [List.all_eq_true] at h ⊢;intro j hj;have h1:=h j hj;simp only [Bool.or_eq_true] at h1 ⊢;rcases h1 with (h1 | h1) | h1
  ·exact .inl (.inl h1)
  ·exact .inl (.inr (hl j h1))
  ·exact .inr h1
theorem zdm {P md ops Q S} (G:Nat->Value->World->Prop) (D:List (Nat × Tmp)) (E T st:List Nat) (listed0:Array Bool) (a0:Act) (w0:World) (fuel:Nat) (hok:zkq md ops listed0 E T st=true) (hsl:zeA ops D (E++T)=true) (hns:Region.noSelect ops=true) (hQ0:∀c a (d:Tmp) (v:Value) w,Q (.panic c) (a.put (some d) v) w->Q (.panic c) a w) (hS:∀w w',S w->Bl w w'->S w') (hG:∀j v w w',G j v w->Bl w w'->G j v w') (hstep:∀i,i ∈ E->zof P md ops Q S G a0 w0 D (E++T) i) (htake:∀i,i ∈ T->zrA P md ops S G a0 D (E++T) i) (hend:∀u w,S w->Bl w0 w->(∀j,j ∈ E++T->G j (u j) w)->wpAnyH P md ops Q S fuel (zbU ops st) (fill a0 D u) w) (hS0:S w0):wpAnyH P md ops Q S ((E++T).length+fuel) listed0 a0 w0:=by
 simp only [zkq,Bool.and_eq_true,beq_iff_eq] at hok;obtain ⟨⟨⟨⟨⟨⟨k1,k0⟩,k2⟩,k3⟩,k4⟩,k5⟩,k6⟩:=hok;obtain ⟨F,hFE⟩:∃F,F=E++T:=⟨_,rfl⟩;have inE:∀i,i ∈ F->i ∈ E∨i ∈ T:=fun i hi=>by rw [hFE] at hi;exact List.mem_append.1 hi
 have Esub:∀i,i ∈ E->i ∈ F:=fun i hi=>by rw [hFE];exact List.mem_append_left _ hi
 have Tsub:∀i,i ∈ T->i ∈ F:=fun i hi=>by rw [hFE];exact List.mem_append_right _ hi
 rw [<-hFE] at k0 k3 k4 hsl hstep htake hend ⊢;have k0:F.Nodup:=of_decide_eq_true k0;have k2':∀i j,listed0.getD i false=true->j ∈ depsOf md ops i->listed0.getD j false=true:=fun i j hi hj=>by
  have hlt:i<ops.size:=by
   rcases Nat.lt_or_ge i ops.size with h | h
   ·exact h
   ·rw [<-k1] at h;simp [Array.getElem?_eq_none h] at hi
  have:=List.all_eq_true.1 k2 i (List.mem_range.2 hlt);rw [hi] at this;simpa using List.all_eq_true.1 (by simpa using this) j hj
 have k3':∀i,i ∈ F->listed0.getD i true=false/\i<ops.size/\i ∉ st/\∀j,j ∈ depsOf md ops i->j<i/\(listed0.getD j false=true∨j ∈ F):=fun i hi=>by
  have:=List.all_eq_true.1 k3 i hi;simp only [Bool.and_eq_true,Bool.not_eq_true',decide_eq_true_eq] at this;obtain ⟨⟨⟨a,b⟩,c⟩,d⟩:=this;refine ⟨a,b,fun h=>?_,fun j hj=>?_⟩
  ·rw [List.contains_iff_mem.2 h] at c;cases c
  ·have:=List.all_eq_true.1 d j hj;simp only [Bool.and_eq_true,decide_eq_true_eq,Bool.or_eq_true] at this;exact ⟨this.1,this.2.imp id (fun h=>List.contains_iff_mem.1 h)⟩
 have k4':∀i,i<ops.size->listed0.getD i false=true∨i ∈ F∨i ∈ st:=fun i hi=>by
  have:=List.all_eq_true.1 k4 i (List.mem_range.2 hi);simp only [Bool.or_eq_true] at this;rcases this with (h | h) | h
  ·exact .inl h
  ·exact .inr (.inl (List.contains_iff_mem.1 h))
  ·exact .inr (.inr (List.contains_iff_mem.1 h))
 have k5':∀s,s ∈ st->listed0.getD s true=false/\((∃j,j ∈ depsOf md ops s/\j ∈ st)∨∀j,j ∈ E->j ∈ zed md ops ops.size [s]):=fun s hs=>by
  have:=List.all_eq_true.1 k5 s hs;simp only [Bool.and_eq_true,Bool.not_eq_true',Bool.or_eq_true] at this;refine ⟨this.1,this.2.imp (fun h=>?_) (fun h j hj=>List.contains_iff_mem.1 (List.all_eq_true.1 h j hj))⟩;obtain ⟨j,h1,h2⟩:=List.any_eq_true.1 h;exact ⟨j,h1,List.contains_iff_mem.1 h2⟩
 simp only [zeA,Bool.and_eq_true,beq_iff_eq,decide_eq_true_eq] at hsl;obtain ⟨⟨hf,h2⟩,h3⟩:=hsl;have h1:(D.map Prod.fst).Nodup:=hf ▸ k0;have hput:∀i,i ∈ F->∀u v,(fill a0 D u).put (zcV ops i) v=fill a0 D (zeX u i v):=fun i hi u v=>by
  rw [<-hf] at hi;obtain ⟨⟨i',d⟩,hp,rfl⟩:=List.mem_map.1 hi;have h4:=List.all_eq_true.1 h3 _ hp;rw [beq_iff_eq.1 h4];exact zie v h1 h2 hp
 have h0:fill a0 D (zlo a0 D)=a0:=zgm (zkg h1)
 -- at any time
 have main:∀(n:Nat) (listed:Array Bool) (u:Nat->Value) (w:World),left listed F<=n->listed.size=ops.size->(∀i,i ∉ F->listed.getD i false=listed0.getD i false)->(∀i j,listed.getD i false=true->j ∈ depsOf md ops i->listed.getD j false=true) ->
   S w->Bl w0 w->(∀j,j ∈ F->listed.getD j false=true->G j (u j) w)->∀m,m=left listed F->wpAnyH P md ops Q S (m+fuel) listed (fill a0 D u) w:=by
  intro n
  induction n with
  | zero =>
   intro listed u w hn hsz hout hcl hw hb hg m hm;have hz:left listed F=0:=by omega
   have hall:=zdV hz;have hl:listed=zbU ops st:=by
    apply Array.ext
    ·rw [hsz];simp [zbU]
    ·intro i h1 h2;have hi:i<ops.size:=by omega
     have e1:listed[i]=listed.getD i false:=by simp [Array.getD,h1]
     have e2:(zbU ops st)[i]=!(st.contains i):=by simp [zbU]
     rw [e1,e2];by_cases hF:i ∈ F
     ·rw [hall i hF];have:=(k3' i hF).2.2.1;simp [this]
     ·rw [hout i hF];by_cases hs:i ∈ st
      ·have:=(k5' i hs).1;rw [zaH (by omega)] at this;rw [this];simp [hs]
      ·rcases k4' i hi with h | h | h
       ·rw [h];simp [hs]
       ·exact absurd h hF
       ·exact absurd h hs
   rw [hm,hz,zero_add,hl];exact hend u w hw hb (fun j hj=>hg j hj (hall j hj))
  | succ n ih =>
   intro listed u w hn hsz hout hcl hw hb hg m hm;by_cases hz:left listed F=0
   ·exact ih listed u w (by omega) hsz hout hcl hw hb hg m hm
   ·obtain ⟨m',rfl⟩:∃m',m=m'+1:=⟨m-1,by omega⟩
    -- one of F is ready
    have hex:=zdU hz;have hmin:∀b i,i<=b->i ∈ F->listed.getD i false=false->∃i,i ∈ F/\listed.getD i false=false/\∀j,j ∈ F->j<i->listed.getD j false=true:=by
     intro b
     induction b with
     | zero=>intro i hi hF hl;exact ⟨i,hF,hl,fun j _ hj=>by omega⟩
     | succ b ihb =>
      intro i hi hF hl;by_cases h:∃j,j ∈ F/\j<i/\listed.getD j false=false
      ·obtain ⟨j,h1,h2,h3⟩:=h;exact ihb j (by omega) h1 h3
      ·refine ⟨i,hF,hl,fun j h1 h2=>?_⟩;cases h3:listed.getD j false
       ·exact absurd ⟨j,h1,h2,h3⟩ h
       ·rfl
    obtain ⟨i0,hi0F,hi0l,hi0m⟩:∃i,i ∈ F/\listed.getD i false=false/\∀j,j ∈ F->j<i->listed.getD j false=true:=by
     obtain ⟨i0,h1,h2⟩:=hex;exact hmin i0 i0 (le_refl _) h1 h2
    have hrdy:i0 ∈ Region.ready md ops listed:=by
     obtain ⟨_,hlt,_,hd⟩:=k3' i0 hi0F;exact mem_ready.2 ⟨by rw [zaH (by omega)];exact hi0l,ops[i0],by simp [hlt],fun e he hb=>by
      obtain ⟨h1,h2⟩:=hd e.on (mem_deps.2 ⟨ops[i0],by simp [hlt],e,he,hb,rfl⟩);by_cases hFe:e.on ∈ F
      ·exact hi0m _ hFe h1
      ·rw [hout _ hFe];exact h2.resolve_right hFe⟩
    have hne:Region.ready md ops listed≠[]:=by
     intro h;rw [h] at hrdy;cases hrdy
    -- what is put down once an operation of F is carried out
    have next:∀i,i ∈ F->listed.getD i false=false->(∀j,j ∈ depsOf md ops i->listed.getD j false=true)->∀v w',Bl w w'->G i v w'->S w'/\wpAnyH P md ops Q S (m'+fuel) (listed.setIfInBounds i true) ((fill a0 D u).put (zcV ops i) v) w':=fun i hF hlf hdl v w' hb' hgi=>by
     have hlt:i<ops.size:=(k3' i hF).2.1;refine ⟨hS w w' hw hb',?_⟩;rw [hput i hF];have hlt':=zfy (by omega) hlf k0;simp only [hF,if_true] at hlt';have hset:∀j,j≠i->(listed.setIfInBounds i true).getD j false=listed.getD j false:=fun j hj=>getD_set_ne false (Ne.symm hj)
     have hseti:(listed.setIfInBounds i true).getD i false=true:=by simp [Array.getD,show i<listed.size by omega]
     refine ih (listed.setIfInBounds i true) (zeX u i v) w' (by omega) (by simpa using hsz) (fun j hj=>?_) (fun j k hj hk=>?_) (hS w w' hw hb') (hb.trans (hb'.mono hb.size)) (fun j hj hl=>?_) m' (by omega)
     ·rw [hset j (fun e=>hj (e ▸ hF)),hout j hj]
     ·by_cases hji:j=i
      ·subst hji;exact getD_set_true (hdl k hk)
      ·rw [hset j hji] at hj;exact getD_set_true (hcl j k hj hk)
     ·by_cases hji:j=i
      ·subst hji;rw [zgF];exact hgi
      ·rw [zex hji];rw [hset j hji] at hl;exact hG j (u j) w w' (hg j hj hl) hb'
    by_cases hT0:i0 ∈ T
    ·-- taken at once
     obtain ⟨o,ho,hv⟩:=htake i0 hT0;have hdl0:∀j,j ∈ depsOf md ops i0->listed.getD j false=true:=fun j hj=>by
      obtain ⟨_,o',ho',hdep⟩:=mem_ready.1 hrdy;obtain ⟨o2,ho2,e,he,hb',rfl⟩:=mem_deps.1 hj;have:o2=o':=Option.some.inj (ho2.symm.trans ho');subst this;exact hdep e he hb'
     obtain ⟨v,hy,hgv⟩:=hv u w hw (fun j hj hd=>hg j (List.contains_iff_mem.1 hj) (hdl0 j (List.contains_iff_mem.1 hd)));have hfr:Region.free md ops listed i0=true:=zlu (List.all_eq_true.1 k6 i0 hT0) (fun j hj=>by
      by_cases hjl:j<ops.size
      ·have h1:(listed0.getD j false || (zed md ops ops.size [i0]).contains j)=true:=by
        simpa [zsq,Array.getD,hjl] using hj
       rw [zaH (by omega)];rcases Bool.or_eq_true _ _ ▸ h1 with h1 | h1
       ·by_cases hjF:j ∈ F
        ·have h2:=(k3' j hjF).1;rw [zaH (by omega),h1] at h2;cases h2
        ·rw [hout j hjF];exact h1
       ·exact zbr hcl ops.size [i0] (fun k hk l hl=>by simp at hk;subst hk;exact hdl0 l hl) j (List.contains_iff_mem.1 h1)
      ·simp [Array.getD,show ¬j<listed.size by omega])
     have hnx:=(next i0 hi0F hi0l hdl0 v w (Below.refl _ _) hgv).2;have hdst:o.dst=zcV ops i0:=by simp [zcV,ho]
     rw [<-hdst] at hnx;rw [show m'+1+fuel=(m'+fuel)+1 by omega];obtain ⟨d,hd⟩:∃d,o.dst=some d:=by
      have hi0D:=hi0F;rw [<-hf] at hi0D;obtain ⟨⟨i',d⟩,hp,he⟩:=List.mem_map.1 hi0D;have h4:=List.all_eq_true.1 h3 _ hp;exact ⟨d,by rw [hdst,<-he];exact beq_iff_eq.1 h4⟩
     exact wpAnyH_take ho hns hfr (by simpa using hrdy) (fun c a w h=>hQ0 c a d v w (by rw [<-hd];exact h)) hy hw hnx
    rw [show m'+1+fuel=(m'+fuel)+1 by omega];refine ⟨fun h=>absurd h hne,fun i hi=>?_⟩;obtain ⟨hun,o,ho,hdep⟩:=mem_ready.1 hi;have hlt:i<ops.size:=(Array.getElem?_eq_some_iff.1 ho).1;have hlf:listed.getD i false=false:=by rw [<-zaH (by omega)];exact hun
    have hdl:∀j,j ∈ depsOf md ops i->listed.getD j false=true:=fun j hj=>by
     obtain ⟨o',ho',e,he,hb',rfl⟩:=mem_deps.1 hj;have:o'=o:=Option.some.inj (ho'.symm.trans ho);subst this;exact hdep e he hb'
    by_cases hF:i ∈ F
    case neg =>
     exfalso;have h1:=hout i hF;rw [hlf] at h1;rcases k4' i hlt with h | h | h
     ·rw [h] at h1;cases h1
     ·exact hF h
     ·rcases (k5' i h).2 with ⟨j,hj,hjs⟩ | hanc
      ·have h2:=hdl j hj;have h3:=k5' j hjs;by_cases hjF:j ∈ F
       ·exact (k3' j hjF).2.2.1 hjs
       ·rw [hout j hjF] at h2;have h4:=h3.1;have hjl:j<listed0.size:=by
         rcases Nat.lt_or_ge j listed0.size with h | h
         ·exact h
         ·simp [Array.getElem?_eq_none h] at h2
        rw [zaH hjl,h2] at h4;cases h4
      ·have hE0:i0 ∈ E:=(inE i0 hi0F).resolve_right hT0;have:=zbr hcl ops.size [i] (fun k hk l hl=>by simp at hk;subst hk;exact hdl l hl) i0 (hanc i0 hE0);rw [hi0l] at this;cases this
    have hdst:o.dst=zcV ops i:=by simp [zcV,ho]
    rcases inE i hF with hE | hTi
    ·obtain ⟨o',ho',hst⟩:=hstep i hE;obtain rfl:o'=o:=Option.some.inj (ho'.symm.trans ho);refine zjy ho ?_;refine hst u w hw hb (fun j hj hd=>hg j (List.contains_iff_mem.1 hj) (hdl j (List.contains_iff_mem.1 hd))) _ (fun v w' hb' hgi=>?_);rw [hdst];exact next i hF hlf hdl v w' hb' hgi
    ·obtain ⟨o',ho',hv⟩:=htake i hTi;obtain rfl:o'=o:=Option.some.inj (ho'.symm.trans ho);obtain ⟨v,hy,hgv⟩:=hv u w hw (fun j hj hd=>hg j (List.contains_iff_mem.1 hj) (hdl j (List.contains_iff_mem.1 hd)));refine hy.wpOp ho hw ?_;rw [hdst];exact next i hF hlf hdl v w (Below.refl _ _) hgv
 have hleft:left listed0 F=F.length:=zfz (fun i hi=>by
  have h1:=(k3' i hi).1;have h2:=(k3' i hi).2.1;rw [zaH (by omega)] at h1;exact h1)
 have:=main (left listed0 F) listed0 (zlo a0 D) w0 (le_refl _) k1 (fun _ _=>rfl) k2' hS0 (Below.refl _ _) (fun j hj hl=>by
  have h1:=(k3' j hj).1;have h2:=(k3' j hj).2.1;rw [zaH (by omega),hl] at h1;cases h1) F.length hleft.symm
 rw [h0] at this;exact this
def GT2v (G:Value->World->Prop) (b:Value) (v:Value) (w:World):Prop:=∃a,v=.tuple #[a,b]/\G a w
def GIs (x:Value) (v:Value) (_:World):Prop:=v=x
def GBx (base:Nat) (zs:List Value) (ty:TypeId) (v:Value) (w:World):Prop:=∃bx,v=.pointer (some ⟨bx,0,none⟩)/\Bk w bx zs ty/\base<=bx
theorem GT2v.q_ {G b v w w'} (hG:∀a,G a w->G a w') (h:GT2v G b v w):GT2v G b v w':=by obtain ⟨a,e,h⟩:=h;exact ⟨a,e,hG a h⟩
theorem GBx.q_ {base zs ty v w w'} (h:GBx base zs ty v w) (hb:Bl w w'):GBx base zs ty v w':=by obtain ⟨b,e,h,l⟩:=h;exact ⟨b,e,h.q_ hb,l⟩
def sC (off:Rat) (p:List (Int × Rat)) (i:Nat):Rat:=off+psum ((p.take i).map (·.2)) 0
theorem zjJ (off:Rat) (p:List (Int × Rat)):sC off p 0=off:=by show off+0=off;grind
theorem zmz {off p i t} (h:p[i]?=some t):sC off p (i+1)=sC off p i+t.2:=by
 unfold sC;rw [List.take_add_one,h,List.map_append,zdx];show off+(_+psum [t.2] 0)=_;rw [zfn];grind
theorem zpM {A B off p} (ho:Lo A off) (h:∀t ∈ p,Lo B t.2) (hl:p.length<=64) (i:Nat):Lo (A+(1+64*(B+1))+1) (sC off p i):=by
 refine zfx ho ((zni (B:=B) (l:=(p.take i).map (·.2)) (fun q hq=>?_)).mono ?_)
 ·obtain ⟨t,ht,rfl⟩:=List.mem_map.1 hq;exact h t (List.mem_of_mem_take ht)
 ·have h1:((p.take i).map (·.2)).length<=64:=by rw [List.length_map,List.length_take];omega
  have:=Nat.mul_le_mul_right (B+1) h1;omega
theorem zms {A B y q1 q2} (hy:Lo A y) (h1:Lo B q1) (h2:Lo B q2):Lo (A+B+1) (shQ y q1 q2):=by
 unfold shQ
 split
 ·exact zcL (by omega)
 ·split
  ·exact (zcj h2 hy).mono (by omega)
  ·exact (zcj h1 hy).mono (by omega)
def KB1 (L:Nat):Nat:=L+(1+64*(KZ L+L+1+1))+1
def KB (L:Nat):Nat:=KB1 L+(1+64*(L+L+1+1))+1
theorem zsp {off cs rs ys t} (h:t ∈ shR rs ys∨t ∈ shC cs (zaz rs ys 0 cs)) (h0:t.1≠0):smI (bnP off cs rs ys)=-1/\smQ (bnP off cs rs ys)=0:=by
 have hm:t ∈ bnP off cs rs ys:=List.mem_cons_of_mem _ (List.mem_append.2 h);obtain ⟨i,hi,e⟩:=List.getElem_of_mem hm;exact zpJ (a:=t.1) (q:=t.2) (by rw [getElem?_eq_getElem hi,e]) h0
theorem zrv {off cs rs ys} (h1:∀t ∈ shR rs ys,t.1=0) (h2:∀t ∈ shC cs (zaz rs ys 0 cs),t.1=0):smI (bnP off cs rs ys)=0/\smQ (bnP off cs rs ys)=sC (sC off (shC cs (zaz rs ys 0 cs)) (shC cs (zaz rs ys 0 cs)).length) (shR rs ys) (shR rs ys).length:=by
 obtain ⟨e1,e2⟩:=zmj (p:=bnP off cs rs ys) (fun t ht=>by
  rcases List.mem_cons.1 ht with rfl | ht
  ·rfl
  ·rcases List.mem_append.1 ht with ht | ht
   ·exact h1 t ht
   ·exact h2 t ht)
 refine ⟨e1,?_⟩;rw [e2];unfold sC bnP;rw [List.take_length,List.take_length,List.map_cons,List.map_append,zbY,zdx];show off+_=_
 grind
theorem zqC {cs zs} {i:Nat} {v q} (h1:cs[i]?=some v) (h2:zs[i]?=some q):(shC cs zs)[i]?=some (shI q v.li v.hi,shQ q v.lq v.hq):=by
 unfold shC;rw [List.getElem?_zipWith,h1,h2]
theorem zqB {rs ys} {i:Nat} {v q} (h1:rs[i]?=some v) (h2:ys[i]?=some q):(shR rs ys)[i]?=some (shI q v.li v.hi,shQ q v.lq v.hq):=by
 unfold shR;rw [List.getElem?_zipWith,h1,h2]
def GQn (K:Nat) (q:Rat) (v:Value) (w:World):Prop:=∃s x n c f y m d g,v=.agg #[.bool s,.slice x n c,.slice y m d]/\QnT K w ⟨s,x,n,c,f,y,m,d,g⟩ q
theorem GQn.q_ {K q v w w'} (h:GQn K q v w) (hb:Bl w w'):GQn K q v w':=by
 obtain ⟨s,x,n,c,f,y,m,d,g,e,h⟩:=h;exact ⟨s,x,n,c,f,y,m,d,g,e,h.q_ hb⟩
def SbQ (K:Nat) (w:World) (B:Nat) (q:Rat):Prop:=∃s x n c f y m d g,Bk w B [.bool s,.slice x n c,.slice y m d] 89/\QnT K w ⟨s,x,n,c,f,y,m,d,g⟩ q
theorem SbQ.q_ {K w w' B q} (h:SbQ K w B q) (hb:Bl w w'):SbQ K w' B q:=by
 obtain ⟨s,x,n,c,f,y,m,d,g,e,h⟩:=h;exact ⟨s,x,n,c,f,y,m,d,g,e.q_ hb,h.q_ hb⟩
def RqF (K:Nat) (w:World) (B:Nat) (ao:Option Addr) (p:List Rat):Prop:=Rqs K w ao p/\∀(j:Nat) (q:Rat),p[j]?=some q->∀(b o:Nat),ao=some ⟨b,o,none⟩->b≠B
theorem RqF.q_ {K w w' B ao p} (h:RqF K w B ao p) (hb:Bl w w'):RqF K w' B ao p:=⟨h.1.q_ hb,h.2⟩
theorem RqF.st {K w w' B ao p} (h:RqF K w B ao p) (hk:Kp w w') (hh:∀k,k≠B->w'.heap[k]?=w.heap[k]?):RqF K w' B ao p:=⟨fun j q hj=>by
 obtain ⟨b,o,t,h1,⟨c0,c1,c2⟩,h3⟩:=h.1 j q hj;have hb:=hh b (h.2 j q hj b o h1);exact ⟨b,o,t,h1,⟨(cell?_of_block (a:=⟨b,_,none⟩) hb).trans c0,(cell?_of_block (a:=⟨b,_,none⟩) hb).trans c1,(cell?_of_block (a:=⟨b,_,none⟩) hb).trans c2⟩,h3.kp hk⟩,h.2⟩
theorem st3 {w w6 B us} (s:Bool) (x:Option Addr) (n c:Nat) (y:Option Addr) (m d:Nat) {u0 u1 u2 u3 u4 u5 u6} (hu:us=[.bool u0,.slice u1 u2 u3,.slice u4 u5 u6]) (h:Bk w6 B us 89) (hb:Bl w w6) (hB:w.heap.size<=B) :
  Bl w (((w6.setCell ⟨B,0,none⟩ (.bool s)).setCell ⟨B,1,none⟩ (.slice x n c)).setCell ⟨B,2,none⟩ (.slice y m d))/\Kp w6 (((w6.setCell ⟨B,0,none⟩ (.bool s)).setCell ⟨B,1,none⟩ (.slice x n c)).setCell ⟨B,2,none⟩ (.slice y m d)) /\
  (∀k,k≠B->(((w6.setCell ⟨B,0,none⟩ (.bool s)).setCell ⟨B,1,none⟩ (.slice x n c)).setCell ⟨B,2,none⟩ (.slice y m d)).heap[k]?=w6.heap[k]?)/\Bk (((w6.setCell ⟨B,0,none⟩ (.bool s)).setCell ⟨B,1,none⟩ (.slice x n c)).setCell ⟨B,2,none⟩ (.slice y m d)) B [.bool s,.slice x n c,.slice y m d] 89:=by
 subst hu;obtain ⟨h1,h2,h3⟩:=zfb [.bool s,.slice x n c,.slice y m d] h (zab (fun u hu q=>by simp at hu;rcases hu with rfl | rfl | rfl <;> simp)) hb hB;have h4:=zmh [.bool s,.slice x n c,.slice y m d] _ 0 _ rfl h;simp only [stl,zero_add,Nat.reduceAdd,List.take_zero,List.nil_append] at h1 h2 h3 h4;exact ⟨h1,h2,h3,h4⟩
def zoo (K:Nat) (w w':World) (e:Ending) (p:List (Int × Rat)):Prop:=∃s x n c f y m d g,e=.returned (.tuple #[.agg #[.bool s,.slice x n c,.slice y m d],.bool (decide (smI p=0))])/\Bl w w'/\Hid (QnT K w' ⟨s,x,n,c,f,y,m,d,g⟩ (smQ p))
theorem zmK {w L M off cs rs ay yc ys} (h:MqV (2*L) w M off cs rs) (hy:Rqs (2*L) w ay ys) (ly:ys.length=rs.length) (hm:MvP cs rs) (hts:∀v ∈ rs,tsB cs.length (-1) v.ts=true) (hL:L<=8) :
  Calls prog 43 #[M.val,.slice ay rs.length yc] w fun e w'=>zoo (2*KB L) w w' e (bnP off cs rs ys):=by
 have hcl:=hm.cl;have hrl:=hm.rl;have hP:=zk hm;have lr:=zba rs ys cs 0;have CR:=zk (fun W (hW:Bl w W)=>zjT (cap:=yc) (h.q_ hW) (hy.q_ hW) ly rfl hm hts (by omega));have HNO:=zk (fun t (ht:t ∈ shR rs ys∨t ∈ shC cs (zaz rs ys 0 cs)) (h0:t.1≠0)=>zsp (off:=off) ht h0);have HYE:=zk (zrv (off:=off) (cs:=cs) (rs:=rs) (ys:=ys));obtain ⟨ds,hds⟩:∃t,zaz rs ys 0 cs=t:=⟨_,rfl⟩;rw [hds] at lr;simp only [hds] at CR HNO HYE;clear hds;obtain ⟨bn,hbn⟩:∃t,bnP off cs rs ys=t:=⟨_,rfl⟩;rw [hbn] at HYE ⊢;simp only [hbn] at HNO;clear hbn;have hlc:(shC cs ds).length=cs.length:=by unfold shC;rw [List.length_zipWith];omega
 have hlr:(shR rs ys).length=rs.length:=by unfold shR;rw [List.length_zipWith];omega
 have HO1:=zk (h.off.2.2.lo h.off.1 h.off.2.1);have HLR:Hid (∀t ∈ shR rs ys,Lo (L+L+1) t.2):=fun t ht=>by
  obtain ⟨i,v,q,hv,hq,rfl⟩:=zlM ht;have h1:=(h.rls i v hv).2;obtain ⟨_,_,t,_,_,h3⟩:=hy i q hq;exact zms (h3.2.2.lo h3.1 h3.2.1) (h1.lq.2.2.lo h1.lq.1 h1.lq.2.1) (h1.hq.2.2.lo h1.hq.1 h1.hq.2.1)
 have HLC:Hid ((∀(j:Nat) (q:Rat),ds[j]?=some q->Lo (KZ L) q)->∀t ∈ shC cs ds,Lo (KZ L+L+1) t.2):=fun hz t ht=>by
  obtain ⟨i,v,q,hv,hq,rfl⟩:=zlM ht;have h1:=(h.cls i v hv).2;exact zms (hz i q hq) (h1.lq.2.2.lo h1.lq.1 h1.lq.2.1) (h1.hq.2.2.lo h1.hq.1 h1.hq.2.1)
 obtain ⟨⟨s,x,n,c,f,y,m,d,g⟩,ca,ck,cc,C,ra,rk,rc,R⟩:=M;have hck:ck=cs.length:=h.ck;have hrk:rk=rs.length:=h.rk;subst hck;subst hrk;have HC:Hid (∀j v,cs[j]?=some v->(∃b o,ca=some ⟨b,o,none⟩/\Cs w b (o+j*12) (C j).vs)/\QcV (2*L) w (C j) v):=h.cls;have HR:Hid (∀j v,rs[j]?=some v->(∃b o,ra=some ⟨b,o,none⟩/\Cs w b (o+j*10) (R j).vs)/\QrV (2*L) w (R j) v):=h.rls;have HOF:Hid (QnT (2*L) w ⟨s,x,n,c,f,y,m,d,g⟩ off):=h.off;have HY:=zk hy;clear h hy hts hm;replace CR:Hid (∀W,Bl w W->Calls prog 38 #[.agg #[.bool s,.slice x n c,.slice y m d,.slice ca cs.length cc,.slice ra rs.length rc],.slice ay rs.length yc] W fun e w2=>zoj (2*KZ L) W w2 e cs.length ds):=CR;show Calls prog 43 #[.agg #[.bool s,.slice x n c,.slice y m d,.slice ca cs.length cc,.slice ra rs.length rc],.slice ay rs.length yc] w _;have hb3:=zu (zu (zB w (.cells #[.bool s,.slice x n c,.slice y m d,.slice ca cs.length cc,.slice ra rs.length rc] 93)) (.cells #[.bool false,.slice none 0 0,.slice none 0 0] 89)) (.cells #[.bool s,.slice x n c,.slice y m d] 89);have BM:=zk (((zH w [.bool s,.slice x n c,.slice y m d,.slice ca cs.length cc,.slice ra rs.length rc] 93).q_ (zB _ (.cells #[.bool false,.slice none 0 0,.slice none 0 0] 89))).q_ (zB _ (.cells #[.bool s,.slice x n c,.slice y m d] 89)));have BM2:=(zH w [.bool s,.slice x n c,.slice y m d,.slice ca cs.length cc,.slice ra rs.length rc] 93).q_ (zB _ (.cells #[.bool false,.slice none 0 0,.slice none 0 0] 89));have BZ:=zk ((zgu w (.cells #[.bool s,.slice x n c,.slice y m d,.slice ca cs.length cc,.slice ra rs.length rc] 93) [.bool false,.slice none 0 0,.slice none 0 0] 89).q_ (zB _ (.cells #[.bool s,.slice x n c,.slice y m d] 89)));have BS3:=zgu (w.alloc (.cells #[.bool s,.slice x n c,.slice y m d,.slice ca cs.length cc,.slice ra rs.length rc] 93)) (.cells #[.bool false,.slice none 0 0,.slice none 0 0] 89) [.bool s,.slice x n c,.slice y m d] 89;rw [zz] at BS3;have HB:=zk hb3;have hOF3:=HOF.out.q_ hb3;obtain ⟨r0,r1,r2,r3,r4⟩:=bk5 BM2;clear hb3 BM2;go_enter func43,ntmps43;go_upto_region 2 with fail
 clear r0 r1 r2 r3 r4;generalize ((w.alloc (.cells #[.bool s,.slice x n c,.slice y m d,.slice ca cs.length cc,.slice ra rs.length rc] 93)).alloc (.cells #[.bool false,.slice none 0 0,.slice none 0 0] 89)).alloc (.cells #[.bool s,.slice x n c,.slice y m d] 89)=w1 at *;obtain ⟨r0,r1,r2,r3,r4⟩:=bk5 BM.out;go_wp2_with fail
 clear r0 r1 r2 r3 r4;refine (CR.out _ HB.out).mono ?_;rintro e w2 ⟨az,zc,rfl,hb,hcz,hz,ho⟩;have hs1:(w.heap.size+1+1)<w1.heap.size:=BS3.lt;have HD:Hid (RqF (2*KZ L) w2 (w.heap.size+1+1) az ds):=⟨hz.out,fun j q hj b o e=>by
  have:j<ds.length:=(List.getElem?_eq_some_iff.1 hj).1;obtain ⟨B,h1,h2⟩:=ho.out (by omega);rw [h1] at e;cases e;omega⟩
 replace HLC:=zk (HLC.out (fun j q hj=>by obtain ⟨_,_,t,_,_,h3⟩:=hz.out j q hj;exact h3.2.2.lo h3.1 h3.2.1));have HS1:=zk (fun i=>zpM HO1.out HLC.out (by omega) i);have HS2:=zk (fun i=>zpM (HS1.out (shC cs ds).length) HLR.out (by omega) i);replace HS1:Hid (∀i,Lo (KB L) (sC off (shC cs ds) i)):=fun i=>(HS1.out i).mono (by unfold KB KB1;omega)
 replace HS2:Hid (∀i,Lo (KB L) (sC (sC off (shC cs ds) (shC cs ds).length) (shR rs ys) i)):=HS2;have hkb:2*KB L<=200000:=by unfold KB KB1 KZ;omega
 have HKB:=zk hkb;have hkz:KZ L<=1300:=by unfold KZ;omega
 have HKZ:=zk hkz;have BS:Hid (SbQ (2*KB L) w2 (w.heap.size+1+1) (sC off (shC cs ds) 0)):=by
  have h9:=hOF3.q_ hb;rw [zjJ];exact zk ⟨s,x,n,c,f,y,m,d,g,BS3.q_ hb,le_trans h9.1 (by unfold KB KB1;omega),le_trans h9.2.1 (by unfold KB KB1;omega),h9.2.2⟩
 replace HB:=zI HB hb;replace BM:=zk (BM.out.q_ hb);replace BZ:=zk (BZ.out.q_ hb)
 clear hb hcz hz ho CR BS3 hOF3 hs1 HLR HLC hkb hkz HOF HO1;go_wp2_with fail
 go_loopw [21] (fun t wr=>∃(i:Nat),i<=cs.length/\t=.int .i64 i/\Hid (Bl w wr)/\Hid (Bk wr w.heap.size [.bool s,.slice x n c,.slice y m d,.slice ca cs.length cc,.slice ra rs.length rc] 93)/\Hid (Bk wr (w.heap.size+1) [.bool false,.slice none 0 0,.slice none 0 0] 89)/\Hid (SbQ (2*KB L) wr (w.heap.size+1+1) (sC off (shC cs ds) i))/\Hid (RqF (2*KZ L) wr (w.heap.size+1+1) az ds)/\Hid (∀t ∈ (shC cs ds).take i,t.1=0)) (fun t _=>cs.length-(intOf t).toNat)
 case atStart=>exact ⟨0,by omega,rfl,HB.out,BM.out,BZ.out,BS.out,HD.out,fun t ht=>by cases ht⟩
 case round =>
  clear HB BM BZ BS HD;obtain ⟨i,hi,rfl,HB,BM,BZ,BS,HD,HT⟩:=hrel;by_cases hlt:i<cs.length
  ·obtain ⟨v,hv⟩:∃v,cs[i]?=some v:=⟨_,getElem?_eq_getElem hlt⟩;obtain ⟨zq,hzq⟩:∃t,ds[i]?=some t:=⟨_,getElem?_eq_getElem (by omega)⟩;obtain ⟨⟨b,o,hca,hc0⟩,hn⟩:=HC.out i v hv;subst hca;have hc:=hc0.q_ HB.out;replace hn:=hn.q_ HB.out;have hbd:=hP.out.cb v (List.mem_of_getElem? hv);obtain ⟨b5,o5,⟨s5,x5,n5,c5,f5,y5,m5,d5,g5⟩,haz,hz5,hqz⟩:=HD.out.1 i zq hzq;subst haz;have HPI:=zk (zqC hv hzq);have hkz:=HKZ.out;have CA:Hid (∀W,Bl wr W->Calls prog 80 #[(C i).lo.val,(C i).hi.val,.agg #[.bool s5,.slice x5 n5 c5,.slice y5 m5 d5]] W fun e w2=>ziD (2*(KZ L+L+1)) W w2 e (shI zq v.li v.hi) (shQ zq v.lq v.hq)):=fun W hW=>by
    have h1:=hn.lq.q_ hW;have h2:=hn.hq.q_ hW;have h4:=hqz.q_ hW
    have h5:=zmT (L:=L) (P:=KZ L) (c1:=(C i).lo.v.c) (d1:=(C i).lo.v.d) (c2:=(C i).hi.v.c) (d2:=(C i).hi.v.d) (c3:=c5) (d3:=d5) (i1:=(C i).lo.i) (i2:=(C i).hi.i) (w:=W) ⟨h1.2.2,by rw [hn.li];exact hbd.1⟩ ⟨h1.1,h1.2.1⟩ ⟨h2.2.2,by rw [hn.hi];exact hbd.2⟩ ⟨h2.1,h2.2.1⟩ h4.2.2 ⟨h4.1,h4.2.1⟩ (by omega) (by omega);rw [show shI zq (C i).lo.i (C i).hi.i=shI zq v.li v.hi from by rw [hn.li,hn.hi]] at h5;exact h5
   obtain ⟨pi,hpi⟩:∃t,shI zq v.li v.hi=t:=⟨_,rfl⟩;obtain ⟨pq,hpq⟩:∃t,shQ zq v.lq v.hq=t:=⟨_,rfl⟩;rw [hpi,hpq] at CA HPI;unfold ziD at CA;obtain ⟨ok,hok⟩:∃t,decide (pi=0)=t:=⟨_,rfl⟩;rw [hok] at CA;have HOK:=zk hok;obtain ⟨⟨z,⟨s0,x0,n0,c0,f0,y0,m0,d0,g0⟩,⟨i1,⟨s1,x1,n1,c1,f1,y1,m1,d1,g1⟩⟩,⟨i2,⟨s2,x2,n2,c2,f2,y2,m2,d2,g2⟩⟩⟩,hCi⟩:∃t,C i=t:=⟨_,rfl⟩;rw [hCi] at hc CA;replace CA:Hid (∀W,Bl wr W->Calls prog 80 #[.agg #[.int .i64 i1,.bool s1,.slice x1 n1 c1,.slice y1 m1 d1],.agg #[.int .i64 i2,.bool s2,.slice x2 n2 c2,.slice y2 m2 d2],.agg #[.bool s5,.slice x5 n5 c5,.slice y5 m5 d5]] W fun e w2=>∃s x n c d y m c' g,e=.returned (.tuple #[.agg #[.bool s,.slice x n c,.slice y m c'],.bool ok])/\Bl W w2/\Hid (QnT (2*(KZ L+L+1)) w2 ⟨s,x,n,c,d,y,m,c',g⟩ pq)):=CA;obtain ⟨-,-,-,-,q4,q5,q6,q7,q8,q9,q10,q11⟩:=hc.lc;obtain ⟨u0,u1,u2⟩:=hz5;replace u0:wr.cell? ⟨b5,o5+i*3,none⟩=some (.bool s5):=u0;replace u1:wr.cell? ⟨b5,o5+i*3+1,none⟩=some (.slice x5 n5 c5):=u1;replace u2:wr.cell? ⟨b5,o5+i*3+2,none⟩=some (.slice y5 m5 d5):=u2;have i1':((i:Nat):Int)<((cs.length:Nat):Int):=by omega
   have hbt:=zB wr (.cells #[.bool s5,.slice x5 n5 c5,.slice y5 m5 d5] 89);have BC:=zH wr [.bool s5,.slice x5 n5 c5,.slice y5 m5 d5] 89;have r3:=BM.out.cell (j:=3) rfl;clear hCi hc hc0 hn hv hzq hqz hbd hpi hpq hok hkz;go_upto_region 5 with fail
   clear u0 u1 u2;replace q4:=kCb hbt q4;replace q5:=kCb hbt q5;replace q6:=kCb hbt q6;replace q7:=kCb hbt q7;replace q8:=kCb hbt q8;replace q9:=kCb hbt q9;replace q10:=kCb hbt q10;replace q11:=kCb hbt q11;replace r3:=kCb hbt r3;obtain ⟨a0,a1,a2⟩:=bk3 BC;replace CA:=zk (fun W (hW:Below (wr.alloc (.cells #[.bool s5,.slice x5 n5 c5,.slice y5 m5 d5] 89)).heap.size (wr.alloc (.cells #[.bool s5,.slice x5 n5 c5,.slice y5 m5 d5] 89)) W)=>CA.out W (bUp hbt hW));replace HB:=zI HB hbt;replace BM:=zk (BM.out.q_ hbt);replace BZ:=zk (BZ.out.q_ hbt);replace BS:=zk (BS.out.q_ hbt);replace HD:=zk (HD.out.q_ hbt)
   clear hbt BC;generalize hbx:wr.heap.size=bx at *;generalize (wr.alloc (.cells #[.bool s5,.slice x5 n5 c5,.slice y5 m5 d5] 89))=w5 at *;clear hbx;have hbd:=Below.drew (Below.refl w5.heap.size w5);replace HB:=zI HB hbd;replace BM:=zk (BM.out.q_ hbd);replace BZ:=zk (BZ.out.q_ hbd);replace BS:=zk (BS.out.q_ hbd);replace HD:=zk (HD.out.q_ hbd)
   replace CA:=zk (fun W (hW:Below w5.drew.heap.size w5.drew W)=>CA.out W (bUp hbd hW));clear hbd;refine wp_region_held_drew (S:=(fun w'=>w'.cell? ⟨bx,0,none⟩=some (.bool s5)/\w'.cell? ⟨bx,1,none⟩=some (.slice x5 n5 c5)/\w'.cell? ⟨bx,2,none⟩=some (.slice y5 m5 d5)/\w'.cell? ⟨w.heap.size,3,none⟩=some (.slice (some ⟨b,o,none⟩) cs.length cc)/\w'.cell? ⟨b,o+i*12+4,none⟩=some (.int .i64 i1)/\w'.cell? ⟨b,o+i*12+5,none⟩=some (.bool s1)/\w'.cell? ⟨b,o+i*12+6,none⟩=some (.slice x1 n1 c1)/\w'.cell? ⟨b,o+i*12+7,none⟩=some (.slice y1 m1 d1)/\w'.cell? ⟨b,o+i*12+8,none⟩=some (.int .i64 i2)/\w'.cell? ⟨b,o+i*12+9,none⟩=some (.bool s2)/\w'.cell? ⟨b,o+i*12+10,none⟩=some (.slice x2 n2 c2)/\w'.cell? ⟨b,o+i*12+11,none⟩=some (.slice y2 m2 d2))) (by kernel_rfl) ?_ (fun hHeld=>?_)
   ·exact ⟨kCd a0,kCd a1,kCd a2,kCd r3,kCd q4,kCd q5,kCd q6,kCd q7,kCd q8,kCd q9,kCd q10,kCd q11⟩
   generalize w5.drew=wd at *;clear a0 a1 a2 r3 q4 q5 q6 q7 q8 q9 q10 q11;refine zM 0 ?_;simp only [zw,Act.put];refine zM 1 ?_;simp only [zw,Act.put];refine zM 2 ?_;simp only [zw,Act.put];refine zM 3 ?_;simp only [zw,Act.put];refine zM 4 ?_;simp only [zw,Act.put];refine zM 5 ?_;simp only [zw,Act.put];refine zM 6 ?_;simp only [zw,Act.put];refine zM 7 ?_;simp only [zw,Act.put];refine zM 8 ?_;simp only [zw,Act.put];refine zM 9 ?_;simp only [zw,Act.put];refine zM 10 ?_;simp only [zw,Act.put];refine zM 11 ?_;simp only [zw,Act.put];refine zM 12 ?_;simp only [zw,Act.put];refine (show wpAnyH _ _ _ _ _ (5+2) _ _ _ from zdm (fun j v w=>match j with | 13=>GT2v (GQn (2*(KZ L+L+1)) pq) (.bool ok) v w | 14=>GT2v (GQn (2*(KZ L+L+1)) pq) (.bool ok) v w | 15=>GQn (2*(KZ L+L+1)) pq v w | 16=>GIs (.bool ok) v w | 17=>GBx wd.heap.size [.bool false,.slice none 0 0,.slice none 0 0] 89 v w | _=>True) [(13,40),(17,9),(14,26),(15,41),(16,42)] [13,17] [14,15,16] [18,19] _ _ _ 2 ?k1 ?k4 ?kn ?kq ?k2 ?k3 ?k5 ?kt ?k6 ?k8)
   case k1=>kernel_rfl
   case k4=>kernel_rfl
   case kn=>kernel_rfl
   case kq=>exact fun _ _ _ _ _ h=>h
   case k2=>exact fun w w' h hb=>⟨kCb hb h.1,kCb hb h.2.1,kCb hb h.2.2.1,kCb hb h.2.2.2.1,kCb hb h.2.2.2.2.1,kCb hb h.2.2.2.2.2.1,kCb hb h.2.2.2.2.2.2.1,kCb hb h.2.2.2.2.2.2.2.1,kCb hb h.2.2.2.2.2.2.2.2.1,kCb hb h.2.2.2.2.2.2.2.2.2.1,kCb hb h.2.2.2.2.2.2.2.2.2.2.1,kCb hb h.2.2.2.2.2.2.2.2.2.2.2⟩
   case k3 =>
    intro j v w w' h hb
    split at h <;> first | exact GT2v.q_ (fun a h=>GQn.q_ h hb) h | exact GQn.q_ h hb | exact GBx.q_ h hb | exact h | trivial
   case k8=>exact hHeld
   case k5 =>
    intro i hi;simp only [List.mem_cons,List.not_mem_nil,or_false] at hi;rcases hi with rfl | rfl
    ·refine ⟨_,rfl,fun u w5 hS hb5 hd K hK=>?_⟩;have hw5:=bUp HB.out hb5;simp only [fill,foldl_cons,foldl_nil,Act.put,setIfInBounds_toArray,set_cons_zero,set_cons_succ] at hK ⊢;go_simp
     go_at_call 80
     refine (CA.out _ hb5).mono ?_;rintro e w6 ⟨s7,x7,n7,c7,f7,y7,m7,d7,g7,rfl,hb6,hq⟩
     (try go_wp2_with fail)
     exact hK.out _ _ hb6 ⟨_,rfl,s7,x7,n7,c7,f7,y7,m7,d7,g7,rfl,hq.out⟩
    ·refine ⟨_,rfl,fun u w5 hS hb5 hd K hK=>?_⟩;have hw5:=bUp HB.out hb5;simp only [fill,foldl_cons,foldl_nil,Act.put,setIfInBounds_toArray,set_cons_zero,set_cons_succ] at hK ⊢;go_simp;exact hK.out _ _ (zB w5 _) ⟨w5.heap.size,rfl,zH w5 [.bool false,.slice none 0 0,.slice none 0 0] 89,hb5.size⟩
   case kt =>
    intro i hi;simp only [List.mem_cons,List.not_mem_nil,or_false] at hi;rcases hi with rfl | rfl | rfl
    ·refine ⟨_,rfl,fun u w5 hS hd=>?_⟩;have h13:GT2v (GQn (2*(KZ L+L+1)) pq) (.bool ok) (u 13) w5:=hd 13 (by kernel_rfl) (by kernel_rfl);obtain ⟨va,e13,hA⟩:=h13;simp only [fill,foldl_cons,foldl_nil,Act.put,setIfInBounds_toArray,set_cons_zero,set_cons_succ];simp only [e13];exact ⟨.tuple #[va,.bool ok],Or.inl ⟨by rfl,fun w0 hSw=>by go_simp <;> with_reducible rfl⟩,⟨va,rfl,hA⟩⟩
    ·refine ⟨_,rfl,fun u w5 hS hd=>?_⟩;have h14:GT2v (GQn (2*(KZ L+L+1)) pq) (.bool ok) (u 14) w5:=hd 14 (by kernel_rfl) (by kernel_rfl);obtain ⟨va,e14,hA⟩:=h14;simp only [fill,foldl_cons,foldl_nil,Act.put,setIfInBounds_toArray,set_cons_zero,set_cons_succ];simp only [e14];exact ⟨va,Or.inl ⟨by rfl,fun w0 hSw=>by go_simp <;> with_reducible rfl⟩,hA⟩
    ·refine ⟨_,rfl,fun u w5 hS hd=>?_⟩;have h14:GT2v (GQn (2*(KZ L+L+1)) pq) (.bool ok) (u 14) w5:=hd 14 (by kernel_rfl) (by kernel_rfl);obtain ⟨va,e14,hA⟩:=h14;simp only [fill,foldl_cons,foldl_nil,Act.put,setIfInBounds_toArray,set_cons_zero,set_cons_succ];simp only [e14];exact ⟨.bool ok,Or.inl ⟨by rfl,fun w0 hSw=>by go_simp <;> with_reducible rfl⟩,rfl⟩
   case k6 =>
    intro u w6 hS6 hb6 hg;have h6:GQn (2*(KZ L+L+1)) pq (u 15) w6:=hg 15 (by simp);have h8:u 16=.bool ok:=hg 16 (by simp);have h9:GBx wd.heap.size [.bool false,.slice none 0 0,.slice none 0 0] 89 (u 17) w6:=hg 17 (by simp);obtain ⟨s7,x7,n7,c7,f7,y7,m7,d7,g7,e6,hq7⟩:=h6;obtain ⟨bx7,e9,hBX,hge⟩:=h9;simp only [fill,foldl_cons,foldl_nil,Act.put,setIfInBounds_toArray,set_cons_zero,set_cons_succ];simp only [e6,h8,e9];clear e6 h8 e9 hg;obtain ⟨hx1,hx2,hx3,hbk⟩:=st3 s7 x7 n7 c7 y7 m7 d7 rfl hBX hb6 hge;obtain ⟨l0,l1,l2⟩:=bk3 hBX;have ff:=hBX.frozen;refine wpAnyH_ready (rs:=[18]) (by kernel_rfl) (by simp) ?_;refine AllReadyH.cons (o:=_) rfl (fun K hK=>?_) ?_;rotate_left;exact AllReadyH.nil;go_simp;generalize (((w6.setCell ⟨bx7,0,none⟩ (.bool s7)).setCell ⟨bx7,1,none⟩ (.slice x7 n7 c7)).setCell ⟨bx7,2,none⟩ (.slice y7 m7 d7))=zF at *;have HQ7:=zk (hq7.kp hx2);have BX7:=zk hbk;have hx9:=hx1;replace HB:=zI HB hx9;replace BM:=zk (BM.out.q_ hx9);replace BZ:=zk (BZ.out.q_ hx9);replace BS:=zk (BS.out.q_ hx9);replace HD:=zk (HD.out.q_ hx9)
    clear hx9;refine hK.out _ _ ?_ (fun hHd=>?_)
    ·exact ⟨kCb hx1 hHeld.1,kCb hx1 hHeld.2.1,kCb hx1 hHeld.2.2.1,kCb hx1 hHeld.2.2.2.1,kCb hx1 hHeld.2.2.2.2.1,kCb hx1 hHeld.2.2.2.2.2.1,kCb hx1 hHeld.2.2.2.2.2.2.1,kCb hx1 hHeld.2.2.2.2.2.2.2.1,kCb hx1 hHeld.2.2.2.2.2.2.2.2.1,kCb hx1 hHeld.2.2.2.2.2.2.2.2.2.1,kCb hx1 hHeld.2.2.2.2.2.2.2.2.2.2.1,kCb hx1 hHeld.2.2.2.2.2.2.2.2.2.2.2⟩
    clear hK K;try simp only [zw,Act.put]
    refine zM 19 ?_;simp only [zw,Act.put];refine wpAnyH_done (by kernel_rfl) ?_ _;clear hHd hHeld hS6 hb6 hx1 hx2 hx3 hbk hq7 ff hBX hge l0 l1 l2 CA;cases ok
    ·have HN:=HNO.out _ (.inr (List.mem_of_getElem? HPI.out)) (of_decide_eq_false HOK.out);obtain ⟨e1,e2⟩:=HN;have HF:Hid (decide (smI bn=0)=false/\smQ bn=0):=by rw [e1,e2];exact ⟨rfl,rfl⟩
     clear HPI HOK HT BX7 HQ7 BS HD e1 e2;go_wp2_with fail
     refine (zgS _).mono ?_;rintro e w8 ⟨s8,x8,n8,c8,d8,y8,m8,e8,g8,rfl,hb,hr1,hr2,hr⟩;replace HB:=zI HB hb;replace BZ:=zk (BZ.out.q_ hb)
     clear hb;obtain ⟨z0,z1,z2⟩:=bk3 BZ.out;have zf:=BZ.out.frozen;obtain ⟨hx1,hx2,hx3,hbk⟩:=st3 s8 x8 n8 c8 y8 m8 e8 rfl BZ.out HB.out (by omega);obtain ⟨k0,k1,k2⟩:=bk3 hbk;have HQ:Hid (QnT 2 _ ⟨s8,x8,n8,c8,d8,y8,m8,e8,g8⟩ 0):=QnT.kp (t:=⟨s8,x8,n8,c8,d8,y8,m8,e8,g8⟩) ⟨hr1,hr2,hr⟩ hx2;have HX:=zk hx1;clear hx1 hx2 hx3 hbk hr1 hr2 hr;go_wp2;exact bodyPost_ret (v:=.tuple #[.agg #[.bool s8,.slice x8 n8 c8,.slice y8 m8 e8],.bool false]) (by simp [results,results43,go_sem,z0,z1,z2]) rfl ⟨s8,x8,n8,c8,d8,y8,m8,e8,g8,by rw [HF.out.1],HX.out,zk ⟨le_trans HQ.out.1 (by unfold KB;omega),le_trans HQ.out.2.1 (by unfold KB;omega),by rw [HF.out.2];exact HQ.out.2.2⟩⟩
    ·have hp0:pi=0:=of_decide_eq_true HOK.out;subst hp0;obtain ⟨s9,x9,n9,c9,f9,y9,m9,d9,g9,hb9,hq9⟩:=BS.out;have BS9:=zk hb9;have HQ9:=zk hq9
     clear BS HOK hb9 hq9;obtain ⟨t0,t1,t2⟩:=bk3 BS9.out;obtain ⟨v0,v1,v2⟩:=bk3 BX7.out;go_wp2_with fail
     clear t0 t1 t2 v0 v1 v2;have hkb:=HKB.out;have hkz:=HKZ.out
     have g1:=HQ7.out.1;have g2:=HQ7.out.2.1;have g3:=HQ9.out.1;have g4:=HQ9.out.2.1
     replace g1:n7<=2*(KZ L+L+1):=g1;replace g2:m7<=2*(KZ L+L+1):=g2;replace g3:n9<=2*KB L:=g3;replace g4:m9<=2*KB L:=g4
     refine (zgT HQ9.out.2.2 HQ7.out.2.2 (by show n9+m7<=_;omega) (by show n7+m9<=_;omega) (by show m9+m7<=_;omega)).mono ?_;rintro e w8 ⟨s8,x8,n8,c8,d8,y8,m8,e8,g8,rfl,hb,hr1,hr2,hr⟩;clear g1 g2 g3 g4 hkb hkz;replace HB:=zI HB hb;replace BM:=zk (BM.out.q_ hb);replace BZ:=zk (BZ.out.q_ hb);replace HD:=zk (HD.out.q_ hb);replace BS9:=zk (BS9.out.q_ hb)
     clear hb BX7 HQ7 HQ9;have hsu:=zmz (off:=off) HPI.out;rw [<-hsu] at hr;have hrl:=hr.len (HS1.out (i+1));have HT2:Hid (∀t ∈ (shC cs ds).take (i+1),t.1=0):=fun t ht=>by
      rw [List.take_add_one,HPI.out] at ht;rcases List.mem_append.1 ht with ht | ht
      ·exact HT.out t ht
      ·simp at ht;rw [ht]
     clear hsu HT HPI hr1 hr2;obtain ⟨t0,t1,t2⟩:=bk3 BS9.out;have tf:=BS9.out.frozen;obtain ⟨hx1,hx2,hx3,hbk⟩:=st3 s8 x8 n8 c8 y8 m8 e8 rfl BS9.out HB.out (by omega);have h1:=BM.out.of (hx3 _ (by omega));have h2:=BZ.out.of (hx3 _ (by omega));have h3:=HD.out.st hx2 hx3
     have BSn:Hid (SbQ (2*KB L) _ (w.heap.size+1+1) (sC off (shC cs ds) (i+1))):=⟨s8,x8,n8,c8,d8,y8,m8,e8,g8,hbk,QnT.kp (t:=⟨s8,x8,n8,c8,d8,y8,m8,e8,g8⟩) ⟨hrl.1,hrl.2,hr⟩ hx2⟩;have HBn:=zk hx1;have BMn:=zk h1;have BZn:=zk h2;have HDn:=zk h3
     clear hx1 hx2 hx3 hbk h1 h2 h3 hr hrl HB BM BZ HD BS9;go_wp2;go_roundw
     case rel=>exact ⟨i+1,by omega,by go_num,HBn.out,BMn.out,BZn.out,BSn.out,HDn.out,HT2.out⟩
     case measure=>simp [intOf];omega
  ·have e1:i=cs.length:=by omega
   have i4':¬(((i:Nat):Int)<((cs.length:Nat):Int)):=by omega
   rw [e1,<-hlc] at BS;rw [e1,<-hlc,List.take_length] at HT;have HT1:=zk HT.out;have r4:=BM.out.cell (j:=4) rfl;clear e1 HT;go_wp2_with fail
   clear r4 i4' hi hlt;generalize wr=w3 at *;go_loopw [53] (fun t wr=>∃(i:Nat),i<=rs.length/\t=.int .i64 i/\Hid (Bl w wr)/\Hid (Bk wr w.heap.size [.bool s,.slice x n c,.slice y m d,.slice ca cs.length cc,.slice ra rs.length rc] 93)/\Hid (Bk wr (w.heap.size+1) [.bool false,.slice none 0 0,.slice none 0 0] 89)/\Hid (SbQ (2*KB L) wr (w.heap.size+1+1) (sC (sC off (shC cs ds) (shC cs ds).length) (shR rs ys) i))/\Hid (RqF (2*KZ L) wr (w.heap.size+1+1) az ds)/\Hid (∀t ∈ (shR rs ys).take i,t.1=0)) (fun t _=>rs.length-(intOf t).toNat)
   case atStart=>exact ⟨0,by omega,rfl,HB.out,BM.out,BZ.out,by have:=BS.out;rw [zjJ];exact this,HD.out,fun t ht=>by cases ht⟩
   case round =>
    clear HB BM BZ BS HD;obtain ⟨i,hi,rfl,HB,BM,BZ,BS,HD,HT⟩:=hrel;by_cases hlt:i<rs.length
    ·obtain ⟨v,hv⟩:∃v,rs[i]?=some v:=⟨_,getElem?_eq_getElem hlt⟩;obtain ⟨zq,hzq⟩:∃t,ys[i]?=some t:=⟨_,getElem?_eq_getElem (by omega)⟩;obtain ⟨⟨b,o,hca,hc0⟩,hn⟩:=HR.out i v hv;subst hca;have hc:=hc0.q_ HB.out;replace hn:=hn.q_ HB.out;have hbd:=hP.out.rb v (List.mem_of_getElem? hv);obtain ⟨b5,o5,⟨s5,x5,n5,c5,f5,y5,m5,d5,g5⟩,hay,hz5,hqz⟩:=(HY.out.q_ HB.out) i zq hzq;subst hay;have HPI:=zk (zqB hv hzq);have hkz:=HKZ.out;have CA:Hid (∀W,Bl wr W->Calls prog 80 #[(R i).lo.val,(R i).hi.val,.agg #[.bool s5,.slice x5 n5 c5,.slice y5 m5 d5]] W fun e w2=>ziD (2*(L+L+1)) W w2 e (shI zq v.li v.hi) (shQ zq v.lq v.hq)):=fun W hW=>by
      have h1:=hn.lq.q_ hW;have h2:=hn.hq.q_ hW;have h4:=hqz.q_ hW
      have h5:=zmT (L:=L) (P:=L) (c1:=(R i).lo.v.c) (d1:=(R i).lo.v.d) (c2:=(R i).hi.v.c) (d2:=(R i).hi.v.d) (c3:=c5) (d3:=d5) (i1:=(R i).lo.i) (i2:=(R i).hi.i) (w:=W) ⟨h1.2.2,by rw [hn.li];exact hbd.1⟩ ⟨h1.1,h1.2.1⟩ ⟨h2.2.2,by rw [hn.hi];exact hbd.2⟩ ⟨h2.1,h2.2.1⟩ h4.2.2 ⟨h4.1,h4.2.1⟩ (by omega) (by omega);rw [show shI zq (R i).lo.i (R i).hi.i=shI zq v.li v.hi from by rw [hn.li,hn.hi]] at h5;exact h5
     obtain ⟨pi,hpi⟩:∃t,shI zq v.li v.hi=t:=⟨_,rfl⟩;obtain ⟨pq,hpq⟩:∃t,shQ zq v.lq v.hq=t:=⟨_,rfl⟩;rw [hpi,hpq] at CA HPI;unfold ziD at CA;obtain ⟨ok,hok⟩:∃t,decide (pi=0)=t:=⟨_,rfl⟩;rw [hok] at CA;have HOK:=zk hok;obtain ⟨⟨z,⟨i1,⟨s1,x1,n1,c1,f1,y1,m1,d1,g1⟩⟩,⟨i2,⟨s2,x2,n2,c2,f2,y2,m2,d2,g2⟩⟩,ta,tk,tc,tcol,tt⟩,hCi⟩:∃t,R i=t:=⟨_,rfl⟩;rw [hCi] at hc CA;replace CA:Hid (∀W,Bl wr W->Calls prog 80 #[.agg #[.int .i64 i1,.bool s1,.slice x1 n1 c1,.slice y1 m1 d1],.agg #[.int .i64 i2,.bool s2,.slice x2 n2 c2,.slice y2 m2 d2],.agg #[.bool s5,.slice x5 n5 c5,.slice y5 m5 d5]] W fun e w2=>∃s x n c d y m c' g,e=.returned (.tuple #[.agg #[.bool s,.slice x n c,.slice y m c'],.bool ok])/\Bl W w2/\Hid (QnT (2*(L+L+1)) w2 ⟨s,x,n,c,d,y,m,c',g⟩ pq)):=CA;obtain ⟨q0,q1,q2,q3,q4,q5,q6,q7,q8,q9⟩:=hc.lr;obtain ⟨u0,u1,u2⟩:=hz5;replace u0:wr.cell? ⟨b5,o5+i*3,none⟩=some (.bool s5):=u0;replace u1:wr.cell? ⟨b5,o5+i*3+1,none⟩=some (.slice x5 n5 c5):=u1;replace u2:wr.cell? ⟨b5,o5+i*3+2,none⟩=some (.slice y5 m5 d5):=u2;have i1':((i:Nat):Int)<((rs.length:Nat):Int):=by omega
     have hbt:=zB wr (.cells #[.string z,.int .i64 i1,.bool s1,.slice x1 n1 c1,.slice y1 m1 d1,.int .i64 i2,.bool s2,.slice x2 n2 c2,.slice y2 m2 d2,.slice ta tk tc] 131);have BC:=zH wr [.string z,.int .i64 i1,.bool s1,.slice x1 n1 c1,.slice y1 m1 d1,.int .i64 i2,.bool s2,.slice x2 n2 c2,.slice y2 m2 d2,.slice ta tk tc] 131;clear hCi hc hc0 hn hv hzq hqz hbd hpi hpq hok hkz;go_upto_region 13 with fail
     clear q0 q1 q2 q3 q4 q5 q6 q7 q8 q9;replace u0:=kCb hbt u0;replace u1:=kCb hbt u1;replace u2:=kCb hbt u2;obtain ⟨-,a1,a2,a3,a4,a5,a6,a7,a8⟩:=bk9 BC;replace CA:=zk (fun W (hW:Below (wr.alloc (.cells #[.string z,.int .i64 i1,.bool s1,.slice x1 n1 c1,.slice y1 m1 d1,.int .i64 i2,.bool s2,.slice x2 n2 c2,.slice y2 m2 d2,.slice ta tk tc] 131)).heap.size (wr.alloc (.cells #[.string z,.int .i64 i1,.bool s1,.slice x1 n1 c1,.slice y1 m1 d1,.int .i64 i2,.bool s2,.slice x2 n2 c2,.slice y2 m2 d2,.slice ta tk tc] 131)) W)=>CA.out W (bUp hbt hW));replace HB:=zI HB hbt;replace BM:=zk (BM.out.q_ hbt);replace BZ:=zk (BZ.out.q_ hbt);replace BS:=zk (BS.out.q_ hbt);replace HD:=zk (HD.out.q_ hbt)
     clear hbt BC;generalize hbx:wr.heap.size=bx at *;generalize (wr.alloc (.cells #[.string z,.int .i64 i1,.bool s1,.slice x1 n1 c1,.slice y1 m1 d1,.int .i64 i2,.bool s2,.slice x2 n2 c2,.slice y2 m2 d2,.slice ta tk tc] 131))=w5 at *;clear hbx;have hbd:=Below.drew (Below.refl w5.heap.size w5);replace HB:=zI HB hbd;replace BM:=zk (BM.out.q_ hbd);replace BZ:=zk (BZ.out.q_ hbd);replace BS:=zk (BS.out.q_ hbd);replace HD:=zk (HD.out.q_ hbd)
     replace CA:=zk (fun W (hW:Below w5.drew.heap.size w5.drew W)=>CA.out W (bUp hbd hW));clear hbd;refine wp_region_held_drew (S:=(fun w'=>w'.cell? ⟨bx,1,none⟩=some (.int .i64 i1)/\w'.cell? ⟨bx,2,none⟩=some (.bool s1)/\w'.cell? ⟨bx,3,none⟩=some (.slice x1 n1 c1)/\w'.cell? ⟨bx,4,none⟩=some (.slice y1 m1 d1)/\w'.cell? ⟨bx,5,none⟩=some (.int .i64 i2)/\w'.cell? ⟨bx,6,none⟩=some (.bool s2)/\w'.cell? ⟨bx,7,none⟩=some (.slice x2 n2 c2)/\w'.cell? ⟨bx,8,none⟩=some (.slice y2 m2 d2)/\w'.cell? ⟨b5,o5+i*3,none⟩=some (.bool s5)/\w'.cell? ⟨b5,o5+i*3+1,none⟩=some (.slice x5 n5 c5)/\w'.cell? ⟨b5,o5+i*3+2,none⟩=some (.slice y5 m5 d5))) (by kernel_rfl) ?_ (fun hHeld=>?_)
     ·exact ⟨kCd a1,kCd a2,kCd a3,kCd a4,kCd a5,kCd a6,kCd a7,kCd a8,kCd u0,kCd u1,kCd u2⟩
     generalize w5.drew=wd at *;clear a1 a2 a3 a4 a5 a6 a7 a8 u0 u1 u2;refine zM 0 ?_;simp only [zw,Act.put];refine zM 1 ?_;simp only [zw,Act.put];refine zM 2 ?_;simp only [zw,Act.put];refine zM 3 ?_;simp only [zw,Act.put];refine zM 4 ?_;simp only [zw,Act.put];refine zM 5 ?_;simp only [zw,Act.put];refine zM 6 ?_;simp only [zw,Act.put];refine zM 7 ?_;simp only [zw,Act.put];refine (show wpAnyH _ _ _ _ _ (5+2) _ _ _ from zdm (fun j v w=>match j with | 8=>GT2v (GQn (2*(L+L+1)) pq) (.bool ok) v w | 9=>GT2v (GQn (2*(L+L+1)) pq) (.bool ok) v w | 10=>GQn (2*(L+L+1)) pq v w | 11=>GIs (.bool ok) v w | 12=>GBx wd.heap.size [.bool false,.slice none 0 0,.slice none 0 0] 89 v w | _=>True) [(8,67),(12,13),(9,58),(10,68),(11,69)] [8,12] [9,10,11] [13,14] _ _ _ 2 ?k1 ?k4 ?kn ?kq ?k2 ?k3 ?k5 ?kt ?k6 ?k8)
     case k1=>kernel_rfl
     case k4=>kernel_rfl
     case kn=>kernel_rfl
     case kq=>exact fun _ _ _ _ _ h=>h
     case k2=>exact fun w w' h hb=>⟨kCb hb h.1,kCb hb h.2.1,kCb hb h.2.2.1,kCb hb h.2.2.2.1,kCb hb h.2.2.2.2.1,kCb hb h.2.2.2.2.2.1,kCb hb h.2.2.2.2.2.2.1,kCb hb h.2.2.2.2.2.2.2.1,kCb hb h.2.2.2.2.2.2.2.2.1,kCb hb h.2.2.2.2.2.2.2.2.2.1,kCb hb h.2.2.2.2.2.2.2.2.2.2⟩
     case k3 =>
      intro j v w w' h hb
      split at h <;> first | exact GT2v.q_ (fun a h=>GQn.q_ h hb) h | exact GQn.q_ h hb | exact GBx.q_ h hb | exact h | trivial
     case k8=>exact hHeld
     case k5 =>
      intro i hi;simp only [List.mem_cons,List.not_mem_nil,or_false] at hi;rcases hi with rfl | rfl
      ·refine ⟨_,rfl,fun u w5 hS hb5 hd K hK=>?_⟩;have hw5:=bUp HB.out hb5;simp only [fill,foldl_cons,foldl_nil,Act.put,setIfInBounds_toArray,set_cons_zero,set_cons_succ] at hK ⊢;go_simp
       go_at_call 80
       refine (CA.out _ hb5).mono ?_;rintro e w6 ⟨s7,x7,n7,c7,f7,y7,m7,d7,g7,rfl,hb6,hq⟩
       (try go_wp2_with fail)
       exact hK.out _ _ hb6 ⟨_,rfl,s7,x7,n7,c7,f7,y7,m7,d7,g7,rfl,hq.out⟩
      ·refine ⟨_,rfl,fun u w5 hS hb5 hd K hK=>?_⟩;have hw5:=bUp HB.out hb5;simp only [fill,foldl_cons,foldl_nil,Act.put,setIfInBounds_toArray,set_cons_zero,set_cons_succ] at hK ⊢;go_simp;exact hK.out _ _ (zB w5 _) ⟨w5.heap.size,rfl,zH w5 [.bool false,.slice none 0 0,.slice none 0 0] 89,hb5.size⟩
     case kt =>
      intro i hi;simp only [List.mem_cons,List.not_mem_nil,or_false] at hi;rcases hi with rfl | rfl | rfl
      ·refine ⟨_,rfl,fun u w5 hS hd=>?_⟩;have h8:GT2v (GQn (2*(L+L+1)) pq) (.bool ok) (u 8) w5:=hd 8 (by kernel_rfl) (by kernel_rfl);obtain ⟨va,e8,hA⟩:=h8;simp only [fill,foldl_cons,foldl_nil,Act.put,setIfInBounds_toArray,set_cons_zero,set_cons_succ];simp only [e8];exact ⟨.tuple #[va,.bool ok],Or.inl ⟨by rfl,fun w0 hSw=>by go_simp <;> with_reducible rfl⟩,⟨va,rfl,hA⟩⟩
      ·refine ⟨_,rfl,fun u w5 hS hd=>?_⟩;have h9:GT2v (GQn (2*(L+L+1)) pq) (.bool ok) (u 9) w5:=hd 9 (by kernel_rfl) (by kernel_rfl);obtain ⟨va,e9,hA⟩:=h9;simp only [fill,foldl_cons,foldl_nil,Act.put,setIfInBounds_toArray,set_cons_zero,set_cons_succ];simp only [e9];exact ⟨va,Or.inl ⟨by rfl,fun w0 hSw=>by go_simp <;> with_reducible rfl⟩,hA⟩
      ·refine ⟨_,rfl,fun u w5 hS hd=>?_⟩;have h9:GT2v (GQn (2*(L+L+1)) pq) (.bool ok) (u 9) w5:=hd 9 (by kernel_rfl) (by kernel_rfl);obtain ⟨va,e9,hA⟩:=h9;simp only [fill,foldl_cons,foldl_nil,Act.put,setIfInBounds_toArray,set_cons_zero,set_cons_succ];simp only [e9];exact ⟨.bool ok,Or.inl ⟨by rfl,fun w0 hSw=>by go_simp <;> with_reducible rfl⟩,rfl⟩
     case k6 =>
      intro u w6 hS6 hb6 hg;have h6:GQn (2*(L+L+1)) pq (u 10) w6:=hg 10 (by simp);have h8:u 11=.bool ok:=hg 11 (by simp);have h9:GBx wd.heap.size [.bool false,.slice none 0 0,.slice none 0 0] 89 (u 12) w6:=hg 12 (by simp);obtain ⟨s7,x7,n7,c7,f7,y7,m7,d7,g7,e6,hq7⟩:=h6;obtain ⟨bx7,e9,hBX,hge⟩:=h9;simp only [fill,foldl_cons,foldl_nil,Act.put,setIfInBounds_toArray,set_cons_zero,set_cons_succ];simp only [e6,h8,e9];clear e6 h8 e9 hg;obtain ⟨hx1,hx2,hx3,hbk⟩:=st3 s7 x7 n7 c7 y7 m7 d7 rfl hBX hb6 hge;obtain ⟨l0,l1,l2⟩:=bk3 hBX;have ff:=hBX.frozen;refine wpAnyH_ready (rs:=[13]) (by kernel_rfl) (by simp) ?_;refine AllReadyH.cons (o:=_) rfl (fun K hK=>?_) ?_;rotate_left;exact AllReadyH.nil;go_simp;generalize (((w6.setCell ⟨bx7,0,none⟩ (.bool s7)).setCell ⟨bx7,1,none⟩ (.slice x7 n7 c7)).setCell ⟨bx7,2,none⟩ (.slice y7 m7 d7))=zF at *;have HQ7:=zk (hq7.kp hx2);have BX7:=zk hbk;have hx9:=hx1;replace HB:=zI HB hx9;replace BM:=zk (BM.out.q_ hx9);replace BZ:=zk (BZ.out.q_ hx9);replace BS:=zk (BS.out.q_ hx9);replace HD:=zk (HD.out.q_ hx9)
      clear hx9;refine hK.out _ _ ?_ (fun hHd=>?_)
      ·exact ⟨kCb hx1 hHeld.1,kCb hx1 hHeld.2.1,kCb hx1 hHeld.2.2.1,kCb hx1 hHeld.2.2.2.1,kCb hx1 hHeld.2.2.2.2.1,kCb hx1 hHeld.2.2.2.2.2.1,kCb hx1 hHeld.2.2.2.2.2.2.1,kCb hx1 hHeld.2.2.2.2.2.2.2.1,kCb hx1 hHeld.2.2.2.2.2.2.2.2.1,kCb hx1 hHeld.2.2.2.2.2.2.2.2.2.1,kCb hx1 hHeld.2.2.2.2.2.2.2.2.2.2⟩
      clear hK K;try simp only [zw,Act.put]
      refine zM 14 ?_;simp only [zw,Act.put];refine wpAnyH_done (by kernel_rfl) ?_ _;clear hHd hHeld hS6 hb6 hx1 hx2 hx3 hbk hq7 ff hBX hge l0 l1 l2 CA;cases ok
      ·have HN:=HNO.out _ (.inl (List.mem_of_getElem? HPI.out)) (of_decide_eq_false HOK.out);obtain ⟨e1,e2⟩:=HN;have HF:Hid (decide (smI bn=0)=false/\smQ bn=0):=by rw [e1,e2];exact ⟨rfl,rfl⟩
       clear HPI HOK HT BX7 HQ7 BS HD e1 e2;go_wp2_with fail
       refine (zgS _).mono ?_;rintro e w8 ⟨s8,x8,n8,c8,d8,y8,m8,e8,g8,rfl,hb,hr1,hr2,hr⟩;replace HB:=zI HB hb;replace BZ:=zk (BZ.out.q_ hb)
       clear hb;obtain ⟨z0,z1,z2⟩:=bk3 BZ.out;have zf:=BZ.out.frozen;obtain ⟨hx1,hx2,hx3,hbk⟩:=st3 s8 x8 n8 c8 y8 m8 e8 rfl BZ.out HB.out (by omega);obtain ⟨k0,k1,k2⟩:=bk3 hbk;have HQ:Hid (QnT 2 _ ⟨s8,x8,n8,c8,d8,y8,m8,e8,g8⟩ 0):=QnT.kp (t:=⟨s8,x8,n8,c8,d8,y8,m8,e8,g8⟩) ⟨hr1,hr2,hr⟩ hx2;have HX:=zk hx1;clear hx1 hx2 hx3 hbk hr1 hr2 hr;go_wp2;exact bodyPost_ret (v:=.tuple #[.agg #[.bool s8,.slice x8 n8 c8,.slice y8 m8 e8],.bool false]) (by simp [results,results43,go_sem,z0,z1,z2]) rfl ⟨s8,x8,n8,c8,d8,y8,m8,e8,g8,by rw [HF.out.1],HX.out,zk ⟨le_trans HQ.out.1 (by unfold KB;omega),le_trans HQ.out.2.1 (by unfold KB;omega),by rw [HF.out.2];exact HQ.out.2.2⟩⟩
      ·have hp0:pi=0:=of_decide_eq_true HOK.out;subst hp0;obtain ⟨s9,x9,n9,c9,f9,y9,m9,d9,g9,hb9,hq9⟩:=BS.out;have BS9:=zk hb9;have HQ9:=zk hq9
       clear BS HOK hb9 hq9;obtain ⟨t0,t1,t2⟩:=bk3 BS9.out;obtain ⟨v0,v1,v2⟩:=bk3 BX7.out;go_wp2_with fail
       clear t0 t1 t2 v0 v1 v2;have hkb:=HKB.out;have hkz:=HKZ.out
       have g1:=HQ7.out.1;have g2:=HQ7.out.2.1;have g3:=HQ9.out.1;have g4:=HQ9.out.2.1
       replace g1:n7<=2*(L+L+1):=g1;replace g2:m7<=2*(L+L+1):=g2;replace g3:n9<=2*KB L:=g3;replace g4:m9<=2*KB L:=g4
       refine (zgT HQ9.out.2.2 HQ7.out.2.2 (by show n9+m7<=_;omega) (by show n7+m9<=_;omega) (by show m9+m7<=_;omega)).mono ?_;rintro e w8 ⟨s8,x8,n8,c8,d8,y8,m8,e8,g8,rfl,hb,hr1,hr2,hr⟩;clear g1 g2 g3 g4 hkb hkz;replace HB:=zI HB hb;replace BM:=zk (BM.out.q_ hb);replace BZ:=zk (BZ.out.q_ hb);replace HD:=zk (HD.out.q_ hb);replace BS9:=zk (BS9.out.q_ hb)
       clear hb BX7 HQ7 HQ9;have hsu:=zmz (off:=sC off (shC cs ds) (shC cs ds).length) HPI.out;rw [<-hsu] at hr;have hrl:=hr.len (HS2.out (i+1));have HT2:Hid (∀t ∈ (shR rs ys).take (i+1),t.1=0):=fun t ht=>by
        rw [List.take_add_one,HPI.out] at ht;rcases List.mem_append.1 ht with ht | ht
        ·exact HT.out t ht
        ·simp at ht;rw [ht]
       clear hsu HT HPI hr1 hr2;obtain ⟨t0,t1,t2⟩:=bk3 BS9.out;have tf:=BS9.out.frozen;obtain ⟨hx1,hx2,hx3,hbk⟩:=st3 s8 x8 n8 c8 y8 m8 e8 rfl BS9.out HB.out (by omega);have h1:=BM.out.of (hx3 _ (by omega));have h2:=BZ.out.of (hx3 _ (by omega));have h3:=HD.out.st hx2 hx3
       have BSn:Hid (SbQ (2*KB L) _ (w.heap.size+1+1) (sC (sC off (shC cs ds) (shC cs ds).length) (shR rs ys) (i+1))):=⟨s8,x8,n8,c8,d8,y8,m8,e8,g8,hbk,QnT.kp (t:=⟨s8,x8,n8,c8,d8,y8,m8,e8,g8⟩) ⟨hrl.1,hrl.2,hr⟩ hx2⟩;have HBn:=zk hx1;have BMn:=zk h1;have BZn:=zk h2;have HDn:=zk h3
       clear hx1 hx2 hx3 hbk h1 h2 h3 hr hrl HB BM BZ HD BS9;go_wp2;go_roundw
       case rel=>exact ⟨i+1,by omega,by go_num,HBn.out,BMn.out,BZn.out,BSn.out,HDn.out,HT2.out⟩
       case measure=>simp [intOf];omega
    ·have e1:i=rs.length:=by omega
     have i4':¬(((i:Nat):Int)<((rs.length:Nat):Int)):=by omega
     rw [e1,<-hlr] at BS;rw [e1,<-hlr,List.take_length] at HT;have HF:=zk (HYE.out HT.out HT1.out);obtain ⟨s9,x9,n9,c9,f9,y9,m9,d9,g9,hb9,hq9⟩:=BS.out;obtain ⟨t0,t1,t2⟩:=bk3 hb9;obtain ⟨z0,z1,z2⟩:=bk3 BZ.out;have zf:=BZ.out.frozen;obtain ⟨hx1,hx2,hx3,hbk⟩:=st3 s9 x9 n9 c9 y9 m9 d9 rfl BZ.out HB.out (by omega);have HQ:=zk (hq9.kp hx2);have HX:=zk hx1;clear e1 HT HT1 hx1 hx2 hx3 hbk hq9 hb9 BS BM HD HB;go_wp2;exact bodyPost_ret (v:=.tuple #[.agg #[.bool s9,.slice x9 n9 c9,.slice y9 m9 d9],.bool true]) (by simp [results,results43,go_sem,z0,z1,z2]) rfl ⟨s9,x9,n9,c9,f9,y9,m9,d9,g9,by rw [HF.out.1];rfl,HX.out,zk ⟨HQ.out.1,HQ.out.2.1,by rw [HF.out.2];exact HQ.out.2.2⟩⟩
structure zte (w:World) (M:Mo) (ao:Option Addr) (k:Nat) (X:Nat->Nm):Prop where
 i:In8 w M
 hx:Rl w ao k X
 sx:ShK 8 k X
def ANs (er:Int) (K:Nat) (w:World) (a:Option Addr) (n:Nat) (p:List Rat):Prop:=er≠0/\n=0∨er=0/\n=p.length/\Rf K w a p
theorem ANs.q_ {er K w w' a n p} (h:ANs er K w a n p) (hb:Bl w w'):ANs er K w' a n p:=by
 rcases h with h | ⟨h1,h2,h3⟩
 ·exact .inl h
 ·exact .inr ⟨h1,h2,h3.q_ hb⟩
theorem zmy {w er K K' a b n m ca cb p} (h1:ANs er K w a n p) (h2:ANs er K' w b m p) (hp:er=0->p.length<=64) (hK:K<=1048576) (hK':K'<=1048576) :
  Calls prog 12 #[.slice a n ca,.slice b m cb] w fun e w'=>e=.returned (.bool true)/\Bl w w':=by
 rcases h1 with ⟨h0,rfl⟩ | ⟨h0,rfl,h1⟩
 ·rcases h2 with ⟨_,rfl⟩ | ⟨h9,_⟩
  ·exact zgb (L:=1) (L':=1) (p:=[]) (fun j q hj=>by simp at hj) (fun j q hj=>by simp at hj) rfl (by decide) (by decide) (by decide)
  ·exact absurd h9 h0
 ·rcases h2 with ⟨h9,_⟩ | ⟨_,rfl,h2⟩
  ·exact absurd h0 h9
  ·exact zgb h1 h2 rfl (by have:=hp h0;omega) hK hK'
def VNs (er:Int) (K:Nat) (w:World) (t:Nm) (q:Rat):Prop:=er≠0/\t=⟨false,none,0,0,fun _=>0,none,0,0,fun _=>0⟩∨er=0/\NmV K w t q
theorem VNs.q_ {er K w w' t q} (h:VNs er K w t q) (hb:Bl w w'):VNs er K w' t q:=by
 rcases h with h | ⟨h1,h2⟩
 ·exact .inl h
 ·exact .inr ⟨h1,h2.q_ hb⟩
theorem zhP (w:World):NmS w ⟨false,none,0,0,fun _=>0,none,0,0,fun _=>0⟩:=⟨⟨fun j h=>absurd h (Nat.not_lt_zero j),fun j h=>absurd h (Nat.not_lt_zero j),by decide,fun _=>⟨rfl,rfl⟩,fun j h=>absurd h (Nat.not_lt_zero j),fun j h=>absurd h (Nat.not_lt_zero j),by decide,fun _=>⟨rfl,rfl⟩⟩,by decide,by decide⟩
theorem zmw {w er K K' t t2 q} (h1:VNs er K w t q) (h2:VNs er K' w t2 q) (hK:K<=1048576) (hK':K'<=1048576) :
  Calls prog 24 #[.agg #[.bool t.s,.slice t.x t.n t.c,.slice t.y t.m t.d],.agg #[.bool t2.s,.slice t2.x t2.n t2.c,.slice t2.y t2.m t2.d]] w fun e w'=>e=.returned (.bool true)/\Bl w w':=by
 rcases h1 with ⟨h0,rfl⟩ | ⟨h0,h1⟩
 ·rcases h2 with ⟨_,rfl⟩ | ⟨h9,_⟩
  ·exact zoW (zhP w) (zhP w)
  ·exact absurd h9 h0
 ·rcases h2 with ⟨h9,_⟩ | ⟨_,h2⟩
  ·exact absurd h0 h9
  ·exact zcG h1 h2 hK hK'
end Go.Proofs.YtdbbncamlaiajaaGreat
