/-
 The walk of package dual's Bound, whatever it is handed (written by makers/du5.py). The walks of the reference's Same of numbers, bounds and lists of terms, whatever they are (written by makers/f29.py). The walks of package dual's sameRat, rests, and of slices.EqualFunc of numbers (written by makers/du6.py out of F11, F13). The walk of package dual's allRest (written by makers/du7.py). The walk of law07's awake (written by makers/f23.py). Ray's calls on values; the walks of law13's one, first, light, of the reference's Twin of a ray, of awake (written by makers/ra4.py). The reference's Same and Sames of lists with the same values. The walk of law13's awake (written by makers/ra5.py). The reference's models by their values; the walk of the reference's From of a model (written by makers/f32.py).
-/
import Derived.Test.YtankbgpcnljjdaaGreatZ13
import Derived.Test.YtankbgpcnljjdaaGreatZ0
import Derived.Test.YtankbgpcnljjdaaGreatZ9
import Derived.Deep.RegionHeld3
import Derived.Test.YtankbgpcnljjdaaGreatZ12
import Derived.Test.YtankbgpcnljjdaaGreatZ11
import Derived.Test.YtankbgpcnljjdaaGreatZ8
import Derived.Test.YtankbgpcnljjdaaGreatZ7
import Derived.Test.YtankbgpcnljjdaaGreatZ6
import Derived.BigQuiet
import Derived.BigRegion
import Derived.Test.YtankbgpcnljjdaaGreatZ10
namespace Go.Proofs.YtankbgpcnljjdaaGreat
open Go.RowKit
theorem Tryz.infoExt:(Tryz.prog.info? 41).map (fun i=>(i.zero,i.size,i.bytes))=some (some (.agg #[.int .i64 0,.bool false,.slice none 0 0,.slice none 0 0]),4,64):=by kernel_rfl
def Ge (K base:Nat) (w:World) (v:Value) (p:List (Int × Rat)):Prop:=∃(col:Nat→Int) (T:Nat→Nm),RowG 41 4 base w v p.length (tcells (tls p.length col T))∧∀(j:Nat) (i:Int) (q:Rat),p[j]?=some (i,q)→col j=i∧Rn K w (T j).s (T j).x (T j).n (T j).c (T j).f (T j).y (T j).m (T j).d (T j).g q
theorem Ge.below {K base w w' v p} (h:Ge K base w v p) (hb:Below w.heap.size w w'):Ge K base w' v p:=by
 obtain ⟨col,T,h1,h2⟩:=h;exact ⟨col,T,h1.below hb,fun j i q e=>⟨(h2 j i q e).1,(h2 j i q e).2.below hb⟩⟩
theorem ge_one {K base:Nat} {w:World} {i:Int} {s:Bool} {x:Option Addr} {n c:Nat} {f:Nat→Int} {y:Option Addr} {m d:Nat} {g:Nat→Int} {q:Rat} (h:Rn K w s x n c f y m d g q) (hb:base≤w.heap.size):Ge K base (w.alloc (.cells #[.int .i64 i,.bool s,.slice x n c,.slice y m d] 41)) (.slice (some ⟨w.heap.size,0,none⟩) 1 1) [(i,q)]:=by
 refine ⟨fun _=>i,fun _=>⟨s,x,n,c,f,y,m,d,g⟩,⟨rfl,.inr ⟨w.heap.size,1,#[.int .i64 i,.bool s,.slice x n c,.slice y m d],rfl,hb,heap_alloc_new w _,Nat.le_refl _,by decide,rfl,rfl,nou_list (not4 _ _ _ _ _ _ _ _)⟩⟩,fun j i' q' e=>?_⟩;cases j with
 | zero=>cases e;exact ⟨rfl,h.alloc _⟩
 | succ j=>simp at e
theorem ge_push {K base:Nat} {w0 w':World} {p:List (Int × Rat)} {col:Nat→Int} {T:Nat→Nm} {g cap:Nat} {i:Int} {s:Bool} {x:Option Addr} {n c:Nat} {f:Nat→Int} {y:Option Addr} {m d:Nat} {gg:Nat→Int} {q:Rat} (hT:∀(j:Nat) (i:Int) (q:Rat),p[j]?=some (i,q)→col j=i∧Rn K w0 (T j).s (T j).x (T j).n (T j).c (T j).f (T j).y (T j).m (T j).d (T j).g q) (hr:RowG 41 4 base w' (.slice (some ⟨g,0,none⟩) (p.length+1) cap) (p.length+1) (tcells (tls p.length col T)++#[Value.int .i64 i,.bool s,.slice x n c,.slice y m d].toList)) (hk:Kp w0 w') (hq:Rn K w0 s x n c f y m d gg q):Ge K base w' (.slice (some ⟨g,0,none⟩) (p.length+1) cap) (p++[(i,q)]):=by
 refine ⟨fun j=>if j=p.length then i else col j,putN T p.length ⟨s,x,n,c,f,y,m,d,gg⟩,?_,fun j i' q' e=>?_⟩
 ·rw [List.length_append,List.length_singleton,tls_put];simp only [if_true];rw [show tls p.length (fun j=>if j=p.length then i else col j) T=tls p.length col T from List.map_congr_left (fun j hj=>by dsimp only;rw [if_neg (by have:=List.mem_range.1 hj;omega)])];exact hr
 ·by_cases hj:j<p.length
  ·rw [List.getElem?_append_left hj] at e;rw [putN_ne (by omega)];dsimp only;rw [if_neg (by omega)];exact ⟨(hT j i' q' e).1,Rn.kp (hT j i' q' e).2 hk⟩
  ·rw [List.getElem?_append_right (by omega)] at e;have h0:j-p.length=0:=by
    rcases Nat.eq_zero_or_pos (j-p.length) with h | h
    ·exact h
    ·rw [List.getElem?_eq_none (by simp;omega)] at e;cases e
   have hjj:j=p.length:=by omega
   subst hjj;rw [h0] at e;cases e
   rw [putN_at];dsimp only;rw [if_pos rfl];exact ⟨rfl,Rn.kp hq hk⟩
theorem Ge.slice {K base w v p} (h:Ge K base w v p):∃ao cap,v=.slice ao p.length cap:=by
 obtain ⟨col,T,h1,h2⟩:=h;exact h1.slice
theorem Ge.tf {K base w ao n cap p} (h:Ge K base w (.slice ao n cap) p):Tf K w ao p:=fun j i q hj=>by
 obtain ⟨col,T,h1,h2⟩:=h;have hl:j<p.length:=by
  rcases Nat.lt_or_ge j p.length with h | h
  ·exact h
  ·rw [List.getElem?_eq_none h] at hj;cases hj
 have hn:n=p.length:=by
  obtain ⟨ao',cap',e⟩:=h1.slice;cases e;rfl
 subst hn;obtain ⟨b,e,hc⟩:=rowg_c4 h1 hl;obtain ⟨e1,e2⟩:=h2 j i q hj;exact ⟨b,0,T j,e,by rw [←e1];exact hc,e2⟩
def shR (rs:List RV) (ys:List Rat):List (Int × Rat):=List.zipWith (fun v y=>(shI y v.li v.hi,shQ y v.lq v.hq)) rs ys
def shC (cs:List CV) (zs:List Rat):List (Int × Rat):=List.zipWith (fun v y=>(shI y v.li v.hi,shQ y v.lq v.hq)) cs zs
theorem shR_take {rs:List RV} {ys:List Rat} {i:Nat} {v:RV} {y:Rat} (hv:rs[i]?=some v) (hy:ys[i]?=some y):(shR rs ys).take (i+1)=(shR rs ys).take i++[(shI y v.li v.hi,shQ y v.lq v.hq)]:=by
 rw [List.take_add_one]
 congr 1
 unfold shR;rw [List.getElem?_zipWith,hv,hy];rfl
theorem shC_take {cs:List CV} {ys:List Rat} {i:Nat} {v:CV} {y:Rat} (hv:cs[i]?=some v) (hy:ys[i]?=some y):(shC cs ys).take (i+1)=(shC cs ys).take i++[(shI y v.li v.hi,shQ y v.lq v.hq)]:=by
 rw [List.take_add_one]
 congr 1
 unfold shC;rw [List.getElem?_zipWith,hv,hy];rfl
def bnP (off:Rat) (cs:List CV) (rs:List RV) (ys:List Rat):List (Int × Rat):=(0,off) :: (shR rs ys++shC cs (redC rs ys 0 cs))
def KS (L:Nat):Nat:=KV L+L+1
def KBo (L:Nat):Nat:=4+129*(KS L+1)
theorem lo_nought {L:Nat} (hL:1≤L):Lo L 0:=by
 have h:=pw_mono hL;have h1:pw 1=18446744073709551616:=by decide
 constructor
 ·show ((0:Nat):Int)<_;omega
 ·show ((1:Nat):Int)<_;omega
theorem sh_lo {L:Nat} {y q1 q2:Rat} (hy:Lo (KV L) y) (h1:Lo L q1) (h2:Lo L q2) (hL:1≤L):Lo (KS L) (shQ y q1 q2):=by
 unfold shQ KS;by_cases h0:y=0
 ·rw [if_pos h0];exact lo_nought (by omega)
 ·rw [if_neg h0];by_cases h3:y<0
  ·rw [if_pos h3];exact (lo_mul h2 hy).mono (by omega)
  ·rw [if_neg h3];exact (lo_mul h1 hy).mono (by omega)
def BoAns (L:Nat) (w w':World) (e:Ending) (er:Int) (p:List (Int × Rat)):Prop:=Below w.heap.size w w' ∧
 ((er≠0∧e=.returned (.tuple #[.agg #[.int .i64 0,.bool false,.slice none 0 0,.slice none 0 0],.int .i64 er]))∨(er=0∧∃s x n c f y m d g,e=.returned (.tuple #[.agg #[.int .i64 (smI p),.bool s,.slice x n c,.slice y m d],.int .i64 0])∧En (KBo L) w' (smI p) s x n c f y m d g (smQ p)))
set_option maxRecDepth 100000 in
set_option maxHeartbeats 8000000 in
theorem dBound_v {w:World} {L:Nat} {M:Mo} {off:Rat} {cs:List CV} {rs:List RV} {ao:Option Addr} {k cap:Nat} {X:Nat→Nm} {ys:List Rat} {er:Int} (hW:MoW w M) (hx:Rl w ao k X) (hk:k≤1048576) (he:dckE M k X=er) (hv:er=0→MoV L w M off cs rs∧mvOk cs rs=true∧Rf L w ao ys∧ys.length=k∧k=rs.length) (hL4:4≤L) (hL:L≤8) :
  Calls Tryz.prog 10 #[M.val,.slice ao k cap] w fun e w'=>BoAns L w w' e er (bnP off cs rs ys):=by
 have CR:Hid (∀W,Below w.heap.size w W→Calls Tryz.prog 14 #[M.val,.slice ao k cap] W fun e w'=>RdAns L W w' e er cs rs ys):=fun W hW2=>dReduced_v (hW.below hW2) (hx.below hW2) hk he (fun h0=>⟨(hv h0).1.below hW2,(hv h0).2.1,(hv h0).2.2.1.below hW2,(hv h0).2.2.2⟩) (by omega)
 have HV:=hid hv;clear hW hx hv he;obtain ⟨⟨s,x,n,c,f,y,m,d,g⟩,ca,ck,cc,C,ra,rk,rc,R⟩:=M;replace CR:Hid (∀W,Below w.heap.size w W→Calls Tryz.prog 14 #[.agg #[.bool s,.slice x n c,.slice y m d,.slice ca ck cc,.slice ra rk rc],.slice ao k cap] W fun e w'=>RdAns L W w' e er cs rs ys):=CR;show Calls Tryz.prog 10 #[.agg #[.bool s,.slice x n c,.slice y m d,.slice ca ck cc,.slice ra rk rc],.slice ao k cap] w _;have hb:=below_alloc (below_alloc (Below.refl w.heap.size w) (.cells #[.bool s,.slice x n c,.slice y m d,.slice ca ck cc,.slice ra rk rc] 28)) (.cells #[.int .i64 0,.bool false,.slice none 0 0,.slice none 0 0] 41);have BM:Hid (Bk ((w.alloc (.cells #[.bool s,.slice x n c,.slice y m d,.slice ca ck cc,.slice ra rk rc] 28)).alloc (.cells #[.int .i64 0,.bool false,.slice none 0 0,.slice none 0 0] 41)) w.heap.size [.bool s,.slice x n c,.slice y m d,.slice ca ck cc,.slice ra rk rc] 28):=(bk_new w [.bool s,.slice x n c,.slice y m d,.slice ca ck cc,.slice ra rk rc] 28).below (below_alloc (Below.refl _ _) _);have OB:=ob4_new (w.alloc (.cells #[.bool s,.slice x n c,.slice y m d,.slice ca ck cc,.slice ra rk rc] 28)) 41;rw [size_alloc1] at OB;have HB:=hid hb;replace OB:=hid OB
 clear hb;go_enter Tryz.func10,Tryz.ntmps10;go_upto_region 1 with fail
 generalize ((w.alloc (.cells #[.bool s,.slice x n c,.slice y m d,.slice ca ck cc,.slice ra rk rc] 28)).alloc (.cells #[.int .i64 0,.bool false,.slice none 0 0,.slice none 0 0] 41))=w1 at *;have r0:=BM.out.cell (j:=0) rfl;have r1:=BM.out.cell (j:=1) rfl;have r2:=BM.out.cell (j:=2) rfl;have r3:=BM.out.cell (j:=3) rfl;have r4:=BM.out.cell (j:=4) rfl;go_wp2_with fail
 clear r0 r1 r2 r3 r4;refine (CR.out _ HB.out).mono ?_;rintro e w2 ⟨hb2,⟨h0,rfl⟩ | ⟨h0,za,zc,rfl,_,hz⟩⟩
 ·have h1:(er != 0)=true:=by simpa using h0
  have H0:=hid h0;replace OB:=hid (OB.out.below hb2);replace HB:=hid (HB.out.trans (hb2.mono HB.out.size))
  obtain ⟨hz,z0,z1,z2,z3,zf⟩:=OB.out;clear hb2 h0 CR;go_wp2;exact bodyPost_ret (v:=.tuple #[.agg #[.int .i64 0,.bool false,.slice none 0 0,.slice none 0 0],.int .i64 er]) (by simp [results,Tryz.results10,go_sem,z0,z1,z2,z3]) rfl ⟨below_st4 HB.out (by omega),.inl ⟨H0.out,rfl⟩⟩
 ·obtain ⟨v1,v2,v3,v4,v5⟩:=HV.out h0;have mp:=mvOk_p v2;subst h0;have l64:=mp.cl;have r64:=mp.rl
  have HO:Hid (Rn L w s x n c f y m d g off):=v1.off;have HC:Hid (∀j v,cs[j]?=some v→(∃b o,ca=some ⟨b,o,none⟩∧Cs w b (o+j*12) (C j).vs)∧ColV L w (C j) v):=v1.cls;have HR:Hid (∀j v,rs[j]?=some v→(∃b o,ra=some ⟨b,o,none⟩∧Cs w b (o+j*10) (R j).vs)∧RowV L w (R j) v):=v1.rls;have hck:ck=cs.length:=v1.ck;have hrk:rk=rs.length:=v1.rk;subst hck;subst hrk
  subst v5;have HY:=hid v3;have HYL:=hid v4;have HRB:=hid mp.rb;have HCB:=hid mp.cb
  clear v1 v2 v3 v4 mp HV CR hk;obtain ⟨zs,hzs⟩:∃t,redC rs ys 0 cs=t:=⟨_,rfl⟩;have HZL:Hid (zs.length=cs.length):=by rw [←hzs];exact redC_len _ _ _ _
  have HP:Hid (bnP off cs rs ys=(0,off) :: (shR rs ys++shC cs zs)):=by rw [←hzs];exact rfl
  rw [hzs] at hz;have HZ:=hid hz;replace HB:=hid (HB.out.trans (hb2.mono HB.out.size));replace BM:=hid (BM.out.below hb2);replace OB:=hid (OB.out.below hb2)
  have hsr:(shR rs ys).length=rs.length:=by unfold shR;rw [List.length_zipWith,HYL.out,Nat.min_self]
  have hsc:(shC cs zs).length=cs.length:=by unfold shC;rw [List.length_zipWith,HZL.out,Nat.min_self]
  have hKV:KS L=4+65*(2*L+1+1)+L+1:=rfl;clear hb2 hz hzs;have r0:=BM.out.cell (j:=0) rfl;have r1:=BM.out.cell (j:=1) rfl;have r2:=BM.out.cell (j:=2) rfl;have r3:=BM.out.cell (j:=3) rfl;have r4:=BM.out.cell (j:=4) rfl;have hal:=below_alloc (Below.refl w2.heap.size w2) (.cells #[.int .i64 0,.bool s,.slice x n c,.slice y m d] 41);have r4':=kCb hal r4;have HG0:=hid (ge_one (i:=0) (K:=KS L) (base:=w2.heap.size) ((HO.out.below HB.out).mono (by omega)) (Nat.le_refl _));go_wp2_with fail
  clear r0 r1 r2 r3 r4 r4' HO;go_loopw [8,30] (fun pv t wr=>∃(i:Nat),i≤rs.length∧t=.int .i64 i∧Hid (Below w2.heap.size w2 wr)∧Hid (Ge (KS L) w2.heap.size wr pv ((0,off) :: (shR rs ys).take i))) (fun _ t _=>rs.length-(intOf t).toNat)
  case atStart=>exact ⟨0,by omega,rfl,hal,HG0.out⟩
  case round =>
   clear HG0 hal;obtain ⟨i,hi,rfl,HB2,HG⟩:=hrel;by_cases hlt:i<rs.length
   ·obtain ⟨v,hv⟩:∃t,rs[i]?=some t:=⟨_,List.getElem?_eq_getElem (by omega)⟩;obtain ⟨yq,hyq⟩:∃t,ys[i]?=some t:=⟨_,List.getElem?_eq_getElem (by have:=HYL.out;omega)⟩;have hbw:=HB.out.trans (HB2.out.mono HB.out.size);obtain ⟨⟨b,o,hra,hc⟩,hRV⟩:=HR.out i v hv;have hbd:=HRB.out v (List.mem_of_getElem? hv);subst hra;obtain ⟨⟨z,⟨i1,⟨s1,x1,n1,c1,f1,y1,m1,d1,g1⟩⟩,⟨i2,⟨s2,x2,n2,c2,f2,y2,m2,d2,g2⟩⟩,ta,tk,tc,tcol,tt⟩,hCi⟩:∃t,R i=t:=⟨_,rfl⟩;rw [hCi] at hc hRV;have e1:i1=v.li:=hRV.li;have e2:i2=v.hi:=hRV.hi
    have E1:En L w i1 s1 x1 n1 c1 f1 y1 m1 d1 g1 v.lq:=⟨hRV.lq,by rw [e1];exact hbd.1⟩;have E2:En L w i2 s2 x2 n2 c2 f2 y2 m2 d2 g2 v.hq:=⟨hRV.hq,by rw [e2];exact hbd.2⟩
    replace hc:=Cs.below hc hbw;have q0:wr.cell? ⟨b,o+i*10,none⟩=some (.string z):=hc 0 _ rfl;have q1:wr.cell? ⟨b,o+i*10+1,none⟩=some (.int .i64 i1):=hc 1 _ rfl;have q2:wr.cell? ⟨b,o+i*10+2,none⟩=some (.bool s1):=hc 2 _ rfl;have q3:wr.cell? ⟨b,o+i*10+3,none⟩=some (.slice x1 n1 c1):=hc 3 _ rfl;have q4:wr.cell? ⟨b,o+i*10+4,none⟩=some (.slice y1 m1 d1):=hc 4 _ rfl;have q5:wr.cell? ⟨b,o+i*10+5,none⟩=some (.int .i64 i2):=hc 5 _ rfl;have q6:wr.cell? ⟨b,o+i*10+6,none⟩=some (.bool s2):=hc 6 _ rfl;have q7:wr.cell? ⟨b,o+i*10+7,none⟩=some (.slice x2 n2 c2):=hc 7 _ rfl;have q8:wr.cell? ⟨b,o+i*10+8,none⟩=some (.slice y2 m2 d2):=hc 8 _ rfl;have q9:wr.cell? ⟨b,o+i*10+9,none⟩=some (.slice ta tk tc):=hc 9 _ rfl;obtain ⟨b',o',⟨ss,sx,sn,sc,sf,sy,sm,sd,sg⟩,hax,⟨p0,p1,p2⟩,hr'⟩:=(HY.out.below hbw) i yq hyq;subst hax;replace p0:wr.cell? ⟨b',o'+i*3,none⟩=some (.bool ss):=p0;replace p1:wr.cell? ⟨b',o'+i*3+1,none⟩=some (.slice sx sn sc):=p1;replace p2:wr.cell? ⟨b',o'+i*3+2,none⟩=some (.slice sy sm sd):=p2;replace hr':Rn L wr ss sx sn sc sf sy sm sd sg yq:=hr';have hbt:=below_alloc (Below.refl wr.heap.size wr) (.cells #[.string z,.int .i64 i1,.bool s1,.slice x1 n1 c1,.slice y1 m1 d1,.int .i64 i2,.bool s2,.slice x2 n2 c2,.slice y2 m2 d2,.slice ta tk tc] 61);have a1:(wr.alloc (.cells #[.string z,.int .i64 i1,.bool s1,.slice x1 n1 c1,.slice y1 m1 d1,.int .i64 i2,.bool s2,.slice x2 n2 c2,.slice y2 m2 d2,.slice ta tk tc] 61)).cell? ⟨wr.heap.size,1,none⟩=some (.int .i64 i1):=by simp [go_sem]
    have a2:(wr.alloc (.cells #[.string z,.int .i64 i1,.bool s1,.slice x1 n1 c1,.slice y1 m1 d1,.int .i64 i2,.bool s2,.slice x2 n2 c2,.slice y2 m2 d2,.slice ta tk tc] 61)).cell? ⟨wr.heap.size,2,none⟩=some (.bool s1):=by simp [go_sem]
    have a3:(wr.alloc (.cells #[.string z,.int .i64 i1,.bool s1,.slice x1 n1 c1,.slice y1 m1 d1,.int .i64 i2,.bool s2,.slice x2 n2 c2,.slice y2 m2 d2,.slice ta tk tc] 61)).cell? ⟨wr.heap.size,3,none⟩=some (.slice x1 n1 c1):=by simp [go_sem]
    have a4:(wr.alloc (.cells #[.string z,.int .i64 i1,.bool s1,.slice x1 n1 c1,.slice y1 m1 d1,.int .i64 i2,.bool s2,.slice x2 n2 c2,.slice y2 m2 d2,.slice ta tk tc] 61)).cell? ⟨wr.heap.size,4,none⟩=some (.slice y1 m1 d1):=by simp [go_sem]
    have a5:(wr.alloc (.cells #[.string z,.int .i64 i1,.bool s1,.slice x1 n1 c1,.slice y1 m1 d1,.int .i64 i2,.bool s2,.slice x2 n2 c2,.slice y2 m2 d2,.slice ta tk tc] 61)).cell? ⟨wr.heap.size,5,none⟩=some (.int .i64 i2):=by simp [go_sem]
    have a6:(wr.alloc (.cells #[.string z,.int .i64 i1,.bool s1,.slice x1 n1 c1,.slice y1 m1 d1,.int .i64 i2,.bool s2,.slice x2 n2 c2,.slice y2 m2 d2,.slice ta tk tc] 61)).cell? ⟨wr.heap.size,6,none⟩=some (.bool s2):=by simp [go_sem]
    have a7:(wr.alloc (.cells #[.string z,.int .i64 i1,.bool s1,.slice x1 n1 c1,.slice y1 m1 d1,.int .i64 i2,.bool s2,.slice x2 n2 c2,.slice y2 m2 d2,.slice ta tk tc] 61)).cell? ⟨wr.heap.size,7,none⟩=some (.slice x2 n2 c2):=by simp [go_sem]
    have a8:(wr.alloc (.cells #[.string z,.int .i64 i1,.bool s1,.slice x1 n1 c1,.slice y1 m1 d1,.int .i64 i2,.bool s2,.slice x2 n2 c2,.slice y2 m2 d2,.slice ta tk tc] 61)).cell? ⟨wr.heap.size,8,none⟩=some (.slice y2 m2 d2):=by simp [go_sem]
    have i1':((i:Nat):Int)<((rs.length:Nat):Int):=by omega
    replace p0:=kCb hbt p0;replace p1:=kCb hbt p1;replace p2:=kCb hbt p2
    have RY:=hid ((hr'.below hbt).mono (show _≤KV L by unfold KV;omega));have RE1:=hid (((E1.below hbw).below hbt).mono (show L≤KV L by unfold KV;omega));have RE2:=hid (((E2.below hbw).below hbt).mono (show L≤KV L by unfold KV;omega))
    have HLO:=hid (sh_lo (RY.out.lo RY.out.ln RY.out.ld) (E1.rn.lo E1.rn.ln E1.rn.ld) (E2.rn.lo E2.rn.ln E2.rn.ld) (by omega));have HTK:=hid (shR_take hv hyq);rw [←e1,←e2] at HTK;clear hr' E1 E2 hCi hc hRV hbd e1 e2 hbw hv hyq;go_upto_region 8 with fail
    clear q0 q1 q2 q3 q4 q5 q6 q7 q8 q9;replace HB2:=hid (HB2.out.trans (hbt.mono HB2.out.size));replace HG:=hid (HG.out.below hbt)
    clear hbt;generalize wr.heap.size=bx at *;generalize (wr.alloc (.cells #[.string z,.int .i64 i1,.bool s1,.slice x1 n1 c1,.slice y1 m1 d1,.int .i64 i2,.bool s2,.slice x2 n2 c2,.slice y2 m2 d2,.slice ta tk tc] 61))=w5 at *;refine wp_region_phase (S:=(fun w'=>w'.cell? ⟨bx,1,none⟩=some (.int .i64 i1)∧w'.cell? ⟨bx,2,none⟩=some (.bool s1)∧w'.cell? ⟨bx,3,none⟩=some (.slice x1 n1 c1)∧w'.cell? ⟨bx,4,none⟩=some (.slice y1 m1 d1)∧w'.cell? ⟨bx,5,none⟩=some (.int .i64 i2)∧w'.cell? ⟨bx,6,none⟩=some (.bool s2)∧w'.cell? ⟨bx,7,none⟩=some (.slice x2 n2 c2)∧w'.cell? ⟨bx,8,none⟩=some (.slice y2 m2 d2)∧w'.cell? ⟨b',o'+i*3,none⟩=some (.bool ss)∧w'.cell? ⟨b',o'+i*3+1,none⟩=some (.slice sx sn sc)∧w'.cell? ⟨b',o'+i*3+2,none⟩=some (.slice sy sm sd))) 9 (by kernel_rfl) ⟨kCd a1,kCd a2,kCd a3,kCd a4,kCd a5,kCd a6,kCd a7,kCd a8,kCd p0,kCd p1,kCd p2⟩ (fun hHeld=>?_);have hbd:=Below.drew (Below.refl w5.heap.size w5);replace HB2:=hid (HB2.out.trans (hbd.mono HB2.out.size));replace HG:=hid (HG.out.below hbd);replace RY:=hid (RY.out.below hbd);replace RE1:=hid (RE1.out.below hbd);replace RE2:=hid (RE2.out.below hbd)
    clear hbd a1 a2 a3 a4 a5 a6 a7 a8 p0 p1 p2;generalize w5.drew=wd at *;refine wpAnyP_skim (i:=0) (v:=?_) rfl (by kernel_rfl) (by kernel_rfl) (by kernel_rfl) (by kernel_rfl) (fun _ _ _ h=>h) (Or.inl ⟨by rfl,?_⟩) (fun _=>by assumption) ?_;rotate_left
    (focus (intro w0 hSw;go_simp <;> with_reducible rfl))
    simp only [List.getElem_toArray,List.getElem_cons_zero,Act.put,List.setIfInBounds_toArray,List.set_cons_zero,List.set_cons_succ];refine wpAnyP_skim (i:=1) (v:=?_) rfl (by kernel_rfl) (by kernel_rfl) (by kernel_rfl) (by kernel_rfl) (fun _ _ _ h=>h) (Or.inl ⟨by rfl,?_⟩) (fun _=>by assumption) ?_;rotate_left
    (focus (intro w0 hSw;go_simp <;> with_reducible rfl))
    simp only [List.getElem_toArray,List.getElem_cons_succ,List.getElem_cons_zero,Act.put,List.setIfInBounds_toArray,List.set_cons_zero,List.set_cons_succ];refine wpAnyP_skim (i:=2) (v:=?_) rfl (by kernel_rfl) (by kernel_rfl) (by kernel_rfl) (by kernel_rfl) (fun _ _ _ h=>h) (Or.inl ⟨by rfl,?_⟩) (fun _=>by assumption) ?_;rotate_left
    (focus (intro w0 hSw;go_simp <;> with_reducible rfl))
    simp only [List.getElem_toArray,List.getElem_cons_succ,List.getElem_cons_zero,Act.put,List.setIfInBounds_toArray,List.set_cons_zero,List.set_cons_succ];refine wpAnyP_skim (i:=3) (v:=?_) rfl (by kernel_rfl) (by kernel_rfl) (by kernel_rfl) (by kernel_rfl) (fun _ _ _ h=>h) (Or.inl ⟨by rfl,?_⟩) (fun _=>by assumption) ?_;rotate_left
    (focus (intro w0 hSw;go_simp <;> with_reducible rfl))
    simp only [List.getElem_toArray,List.getElem_cons_succ,List.getElem_cons_zero,Act.put,List.setIfInBounds_toArray,List.set_cons_zero,List.set_cons_succ];refine wpAnyP_takeA (i:=4) (v:=?_) rfl (by kernel_rfl) (by kernel_rfl) (by kernel_rfl) (by kernel_rfl) (by kernel_rfl) (by kernel_rfl) (fun _ _ _ h=>h) (Or.inl ⟨by rfl,?_⟩) (by assumption) ?_;rotate_left
    (focus (intro w0 hSw;(try dsimp only at hSw);go_simp <;> with_reducible rfl))
    simp only [List.getElem_toArray,List.getElem_cons_succ,List.getElem_cons_zero,Act.put,List.setIfInBounds_toArray,List.set_cons_zero,List.set_cons_succ];refine wpAnyP_skim (i:=5) (v:=?_) rfl (by kernel_rfl) (by kernel_rfl) (by kernel_rfl) (by kernel_rfl) (fun _ _ _ h=>h) (Or.inl ⟨by rfl,?_⟩) (fun _=>by assumption) ?_;rotate_left
    (focus (intro w0 hSw;go_simp <;> with_reducible rfl))
    simp only [List.getElem_toArray,List.getElem_cons_succ,List.getElem_cons_zero,Act.put,List.setIfInBounds_toArray,List.set_cons_zero,List.set_cons_succ];refine wpAnyP_takeA (i:=6) (v:=?_) rfl (by kernel_rfl) (by kernel_rfl) (by kernel_rfl) (by kernel_rfl) (by kernel_rfl) (by kernel_rfl) (fun _ _ _ h=>h) (Or.inl ⟨by rfl,?_⟩) (by assumption) ?_;rotate_left
    (focus (intro w0 hSw;(try dsimp only at hSw);go_simp <;> with_reducible rfl))
    simp only [List.getElem_toArray,List.getElem_cons_succ,List.getElem_cons_zero,Act.put,List.setIfInBounds_toArray,List.set_cons_zero,List.set_cons_succ];refine wpAnyP_skim (i:=7) (v:=?_) rfl (by kernel_rfl) (by kernel_rfl) (by kernel_rfl) (by kernel_rfl) (fun _ _ _ h=>h) (Or.inl ⟨by rfl,?_⟩) (fun _=>by assumption) ?_;rotate_left
    (focus (intro w0 hSw;go_simp <;> with_reducible rfl))
    simp only [List.getElem_toArray,List.getElem_cons_succ,List.getElem_cons_zero,Act.put,List.setIfInBounds_toArray,List.set_cons_zero,List.set_cons_succ];refine wpAnyP_takeA (i:=8) (v:=?_) rfl (by kernel_rfl) (by kernel_rfl) (by kernel_rfl) (by kernel_rfl) (by kernel_rfl) (by kernel_rfl) (fun _ _ _ h=>h) (Or.inl ⟨by rfl,?_⟩) (by assumption) ?_;rotate_left
    (focus (intro w0 hSw;(try dsimp only at hSw);go_simp <;> with_reducible rfl))
    simp only [List.getElem_toArray,List.getElem_cons_succ,List.getElem_cons_zero,Act.put,List.setIfInBounds_toArray,List.set_cons_zero,List.set_cons_succ];refine wpAnyP_ready (rs:=[9]) (by kernel_rfl) (by simp) ?_;refine AllReadyP.cons (o:=_) rfl (fun K hK=>?_) ?_;rotate_left;exact AllReadyP.nil;go_simp
    go_at_call 31
    refine (dShare_v (L:=KV L) RY.out RE1.out RE2.out (by unfold KV;omega) (by unfold KV;omega)).mono ?_;rintro e w6 ⟨s7,x7,n7,c7,f7,y7,m7,d7,g7,rfl,hb6,hq6⟩
    (try go_wp2_with fail)
    have HQ6:=hid (hq6.rn.cut HLO.out);replace HB2:=hid (HB2.out.trans (hb6.mono HB2.out.size));replace HG:=hid (HG.out.below hb6)
    clear hb6 hq6 RY RE1 RE2 HLO hHeld;refine hK.out _ _ (fun h=>by cases h) (fun _=>?_);clear hK K;try simp only [Act.put,List.setIfInBounds_toArray,List.set_cons_zero,List.set_cons_succ]
    refine wpAnyP_ready (rs:=[10]) (by kernel_rfl) (by simp) ?_;refine AllReadyP.cons (o:=_) rfl (fun K hK=>?_) ?_;rotate_left;exact AllReadyP.nil;go_simp;refine hK.out _ _ (fun h=>by cases h) (fun _=>?_);clear hK K;try simp only [Act.put,List.setIfInBounds_toArray,List.set_cons_zero,List.set_cons_succ]
    refine wpAnyP_ready (rs:=[11]) (by kernel_rfl) (by simp) ?_;refine AllReadyP.cons (o:=_) rfl (fun K hK=>?_) ?_;rotate_left;exact AllReadyP.nil;have hln:((0,off) :: (shR rs ys).take i).length=i+1:=by rw [List.length_cons,List.length_take];omega
    obtain ⟨col,T,hrow,hT⟩:=HG.out;rw [hln] at hrow;have hsz:=HB2.out.size;refine step_append_one w6 rfl (.tmp 35) (.tmp 45) 72 rfl w2.heap.size 41 64 4 (.agg #[.int .i64 0,.bool false,.slice none 0 0,.slice none 0 0]) Tryz.underlying72 Tryz.infoExt rfl (by decide) nz4 u8 (i+1) _ rfl hrow #[.int .i64 (shI yq i1 i2),.bool s7,.slice x7 n7 c7,.slice y7 m7 d7] rfl rfl (one4 _ _ _ _ _ _ _ _) (not4 _ _ _ _ _ _ _ _) ?p1 (by decide) hsz ?_
    case p1=>omega
    intro g8 cap8 w8 hr8 hk8 hb8 hg8;have HB8:=hid (hb8 w2 HB2.out (Nat.le_refl _));have HG8:Hid (Ge (KS L) w2.heap.size w8 (.slice (some ⟨g8,0,none⟩) (i+1+1) cap8) ((0,off) :: (shR rs ys).take (i+1))):=by
     have hp8:=ge_push hT (by rw [hln];exact hr8) hk8 HQ6.out;rw [hln] at hp8;rw [HTK.out];exact hp8
    clear hr8 hk8 hb8 hg8 hrow hT HG HB2 HQ6 HTK hsz hln;refine hK.out _ _ (fun h=>by cases h) (fun _=>?_);clear hK K;try simp only [Act.put,List.setIfInBounds_toArray]
    refine wpAnyP_skim (i:=12) (v:=?_) rfl (by kernel_rfl) (by kernel_rfl) (by kernel_rfl) (by kernel_rfl) (fun _ _ _ h=>h) (Or.inl ⟨by rfl,?_⟩) (fun h=>by cases h) ?_;rotate_left
    (focus (intro w0 hSw;go_simp <;> with_reducible rfl))
    simp only [List.getElem_toArray,List.getElem_cons_succ,List.getElem_cons_zero,Act.put,List.setIfInBounds_toArray,List.set_cons_zero,List.set_cons_succ];refine wpAnyP_done (by kernel_rfl) ?_ _;go_wp2;go_roundw
    case rel=>exact ⟨i+1,by omega,by go_num,HB8.out,HG8.out⟩
    case measure=>simp [intOf];omega
   ·have e1:i=rs.length:=by omega
    have i4':¬(((i:Nat):Int)<((rs.length:Nat):Int)):=by omega
    have HG9:Hid (Ge (KS L) w2.heap.size wr u8 ((0,off) :: (shR rs ys++(shC cs zs).take 0))):=by
     have h:=HG.out;rw [List.take_of_length_le (by omega)] at h;rw [List.take_zero,List.append_nil];exact h
    have r3:=(BM.out.below HB2.out).cell (j:=3) rfl;clear HG e1;go_wp2_with fail
    clear r3;go_loopw [8,51] (fun pv t wr=>∃(i:Nat),i≤cs.length∧t=.int .i64 i∧Hid (Below w2.heap.size w2 wr)∧Hid (Ge (KS L) w2.heap.size wr pv ((0,off) :: (shR rs ys++(shC cs zs).take i)))) (fun _ t _=>cs.length-(intOf t).toNat)
    case atStart=>exact ⟨0,by omega,rfl,HB2.out,HG9.out⟩
    case round =>
     clear HG9 HB2;obtain ⟨i,hi,rfl,HB2,HG⟩:=hrel;by_cases hlt:i<cs.length
     ·obtain ⟨v,hv⟩:∃t,cs[i]?=some t:=⟨_,List.getElem?_eq_getElem (by omega)⟩;obtain ⟨yq,hyq⟩:∃t,zs[i]?=some t:=⟨_,List.getElem?_eq_getElem (by have:=HZL.out;omega)⟩;have hbw:=HB.out.trans (HB2.out.mono HB.out.size);obtain ⟨⟨b,o,hra,hc⟩,hRV⟩:=HC.out i v hv;have hbd:=HCB.out v (List.mem_of_getElem? hv);subst hra;obtain ⟨⟨z,⟨s0,x0,n0,c0,f0,y0,m0,d0,g0⟩,⟨i1,⟨s1,x1,n1,c1,f1,y1,m1,d1,g1⟩⟩,⟨i2,⟨s2,x2,n2,c2,f2,y2,m2,d2,g2⟩⟩⟩,hCi⟩:∃t,C i=t:=⟨_,rfl⟩;rw [hCi] at hc hRV;have e1:i1=v.li:=hRV.li;have e2:i2=v.hi:=hRV.hi
      have E1:En L w i1 s1 x1 n1 c1 f1 y1 m1 d1 g1 v.lq:=⟨hRV.lq,by rw [e1];exact hbd.1⟩;have E2:En L w i2 s2 x2 n2 c2 f2 y2 m2 d2 g2 v.hq:=⟨hRV.hq,by rw [e2];exact hbd.2⟩
      replace hc:=Cs.below hc hbw;have q0:wr.cell? ⟨b,o+i*12,none⟩=some (.string z):=hc 0 _ rfl;have q1:wr.cell? ⟨b,o+i*12+1,none⟩=some (.bool s0):=hc 1 _ rfl;have q2:wr.cell? ⟨b,o+i*12+2,none⟩=some (.slice x0 n0 c0):=hc 2 _ rfl;have q3:wr.cell? ⟨b,o+i*12+3,none⟩=some (.slice y0 m0 d0):=hc 3 _ rfl;have q4:wr.cell? ⟨b,o+i*12+4,none⟩=some (.int .i64 i1):=hc 4 _ rfl;have q5:wr.cell? ⟨b,o+i*12+5,none⟩=some (.bool s1):=hc 5 _ rfl;have q6:wr.cell? ⟨b,o+i*12+6,none⟩=some (.slice x1 n1 c1):=hc 6 _ rfl;have q7:wr.cell? ⟨b,o+i*12+7,none⟩=some (.slice y1 m1 d1):=hc 7 _ rfl;have q8:wr.cell? ⟨b,o+i*12+8,none⟩=some (.int .i64 i2):=hc 8 _ rfl;have q9:wr.cell? ⟨b,o+i*12+9,none⟩=some (.bool s2):=hc 9 _ rfl;have q10:wr.cell? ⟨b,o+i*12+10,none⟩=some (.slice x2 n2 c2):=hc 10 _ rfl;have q11:wr.cell? ⟨b,o+i*12+11,none⟩=some (.slice y2 m2 d2):=hc 11 _ rfl;obtain ⟨b',o',⟨ss,sx,sn,sc,sf,sy,sm,sd,sg⟩,hax,⟨p0,p1,p2⟩,hr'⟩:=(HZ.out.below HB2.out) i yq hyq;subst hax;replace p0:wr.cell? ⟨b',o'+i*3,none⟩=some (.bool ss):=p0;replace p1:wr.cell? ⟨b',o'+i*3+1,none⟩=some (.slice sx sn sc):=p1;replace p2:wr.cell? ⟨b',o'+i*3+2,none⟩=some (.slice sy sm sd):=p2;replace hr':Rn (KV L) wr ss sx sn sc sf sy sm sd sg yq:=hr';have hbt:=below_alloc (Below.refl wr.heap.size wr) (.cells #[.string z,.bool s0,.slice x0 n0 c0,.slice y0 m0 d0,.int .i64 i1,.bool s1,.slice x1 n1 c1,.slice y1 m1 d1,.int .i64 i2,.bool s2,.slice x2 n2 c2,.slice y2 m2 d2] 58);have a4:(wr.alloc (.cells #[.string z,.bool s0,.slice x0 n0 c0,.slice y0 m0 d0,.int .i64 i1,.bool s1,.slice x1 n1 c1,.slice y1 m1 d1,.int .i64 i2,.bool s2,.slice x2 n2 c2,.slice y2 m2 d2] 58)).cell? ⟨wr.heap.size,4,none⟩=some (.int .i64 i1):=by simp [go_sem]
      have a5:(wr.alloc (.cells #[.string z,.bool s0,.slice x0 n0 c0,.slice y0 m0 d0,.int .i64 i1,.bool s1,.slice x1 n1 c1,.slice y1 m1 d1,.int .i64 i2,.bool s2,.slice x2 n2 c2,.slice y2 m2 d2] 58)).cell? ⟨wr.heap.size,5,none⟩=some (.bool s1):=by simp [go_sem]
      have a6:(wr.alloc (.cells #[.string z,.bool s0,.slice x0 n0 c0,.slice y0 m0 d0,.int .i64 i1,.bool s1,.slice x1 n1 c1,.slice y1 m1 d1,.int .i64 i2,.bool s2,.slice x2 n2 c2,.slice y2 m2 d2] 58)).cell? ⟨wr.heap.size,6,none⟩=some (.slice x1 n1 c1):=by simp [go_sem]
      have a7:(wr.alloc (.cells #[.string z,.bool s0,.slice x0 n0 c0,.slice y0 m0 d0,.int .i64 i1,.bool s1,.slice x1 n1 c1,.slice y1 m1 d1,.int .i64 i2,.bool s2,.slice x2 n2 c2,.slice y2 m2 d2] 58)).cell? ⟨wr.heap.size,7,none⟩=some (.slice y1 m1 d1):=by simp [go_sem]
      have a8:(wr.alloc (.cells #[.string z,.bool s0,.slice x0 n0 c0,.slice y0 m0 d0,.int .i64 i1,.bool s1,.slice x1 n1 c1,.slice y1 m1 d1,.int .i64 i2,.bool s2,.slice x2 n2 c2,.slice y2 m2 d2] 58)).cell? ⟨wr.heap.size,8,none⟩=some (.int .i64 i2):=by simp [go_sem]
      have a9:(wr.alloc (.cells #[.string z,.bool s0,.slice x0 n0 c0,.slice y0 m0 d0,.int .i64 i1,.bool s1,.slice x1 n1 c1,.slice y1 m1 d1,.int .i64 i2,.bool s2,.slice x2 n2 c2,.slice y2 m2 d2] 58)).cell? ⟨wr.heap.size,9,none⟩=some (.bool s2):=by simp [go_sem]
      have a10:(wr.alloc (.cells #[.string z,.bool s0,.slice x0 n0 c0,.slice y0 m0 d0,.int .i64 i1,.bool s1,.slice x1 n1 c1,.slice y1 m1 d1,.int .i64 i2,.bool s2,.slice x2 n2 c2,.slice y2 m2 d2] 58)).cell? ⟨wr.heap.size,10,none⟩=some (.slice x2 n2 c2):=by simp [go_sem]
      have a11:(wr.alloc (.cells #[.string z,.bool s0,.slice x0 n0 c0,.slice y0 m0 d0,.int .i64 i1,.bool s1,.slice x1 n1 c1,.slice y1 m1 d1,.int .i64 i2,.bool s2,.slice x2 n2 c2,.slice y2 m2 d2] 58)).cell? ⟨wr.heap.size,11,none⟩=some (.slice y2 m2 d2):=by simp [go_sem]
      have i1':((i:Nat):Int)<((cs.length:Nat):Int):=by omega
      replace p0:=kCb hbt p0;replace p1:=kCb hbt p1;replace p2:=kCb hbt p2
      have RY:=hid ((hr'.below hbt).mono (show _≤KV L by unfold KV;omega));have RE1:=hid (((E1.below hbw).below hbt).mono (show L≤KV L by unfold KV;omega));have RE2:=hid (((E2.below hbw).below hbt).mono (show L≤KV L by unfold KV;omega))
      have HLO:=hid (sh_lo (RY.out.lo RY.out.ln RY.out.ld) (E1.rn.lo E1.rn.ln E1.rn.ld) (E2.rn.lo E2.rn.ln E2.rn.ld) (by omega));have HTK:=hid (shC_take hv hyq);rw [←e1,←e2] at HTK;clear hr' E1 E2 hCi hc hRV hbd e1 e2 hbw hv hyq;go_upto_region 13 with fail
      clear q0 q1 q2 q3 q4 q5 q6 q7 q8 q9 q10 q11;replace HB2:=hid (HB2.out.trans (hbt.mono HB2.out.size));replace HG:=hid (HG.out.below hbt)
      clear hbt;generalize wr.heap.size=bx at *;generalize (wr.alloc (.cells #[.string z,.bool s0,.slice x0 n0 c0,.slice y0 m0 d0,.int .i64 i1,.bool s1,.slice x1 n1 c1,.slice y1 m1 d1,.int .i64 i2,.bool s2,.slice x2 n2 c2,.slice y2 m2 d2] 58))=w5 at *;refine wp_region_phase (S:=(fun w'=>w'.cell? ⟨bx,4,none⟩=some (.int .i64 i1)∧w'.cell? ⟨bx,5,none⟩=some (.bool s1)∧w'.cell? ⟨bx,6,none⟩=some (.slice x1 n1 c1)∧w'.cell? ⟨bx,7,none⟩=some (.slice y1 m1 d1)∧w'.cell? ⟨bx,8,none⟩=some (.int .i64 i2)∧w'.cell? ⟨bx,9,none⟩=some (.bool s2)∧w'.cell? ⟨bx,10,none⟩=some (.slice x2 n2 c2)∧w'.cell? ⟨bx,11,none⟩=some (.slice y2 m2 d2)∧w'.cell? ⟨b',o'+i*3,none⟩=some (.bool ss)∧w'.cell? ⟨b',o'+i*3+1,none⟩=some (.slice sx sn sc)∧w'.cell? ⟨b',o'+i*3+2,none⟩=some (.slice sy sm sd))) 9 (by kernel_rfl) ⟨kCd a4,kCd a5,kCd a6,kCd a7,kCd a8,kCd a9,kCd a10,kCd a11,kCd p0,kCd p1,kCd p2⟩ (fun hHeld=>?_);have hbd:=Below.drew (Below.refl w5.heap.size w5);replace HB2:=hid (HB2.out.trans (hbd.mono HB2.out.size));replace HG:=hid (HG.out.below hbd);replace RY:=hid (RY.out.below hbd);replace RE1:=hid (RE1.out.below hbd);replace RE2:=hid (RE2.out.below hbd)
      clear hbd a4 a5 a6 a7 a8 a9 a10 a11 p0 p1 p2;generalize w5.drew=wd at *;refine wpAnyP_skim (i:=0) (v:=?_) rfl (by kernel_rfl) (by kernel_rfl) (by kernel_rfl) (by kernel_rfl) (fun _ _ _ h=>h) (Or.inl ⟨by rfl,?_⟩) (fun _=>by assumption) ?_;rotate_left
      (focus (intro w0 hSw;go_simp <;> with_reducible rfl))
      simp only [List.getElem_toArray,List.getElem_cons_zero,Act.put,List.setIfInBounds_toArray,List.set_cons_zero,List.set_cons_succ];refine wpAnyP_skim (i:=1) (v:=?_) rfl (by kernel_rfl) (by kernel_rfl) (by kernel_rfl) (by kernel_rfl) (fun _ _ _ h=>h) (Or.inl ⟨by rfl,?_⟩) (fun _=>by assumption) ?_;rotate_left
      (focus (intro w0 hSw;go_simp <;> with_reducible rfl))
      simp only [List.getElem_toArray,List.getElem_cons_succ,List.getElem_cons_zero,Act.put,List.setIfInBounds_toArray,List.set_cons_zero,List.set_cons_succ];refine wpAnyP_skim (i:=2) (v:=?_) rfl (by kernel_rfl) (by kernel_rfl) (by kernel_rfl) (by kernel_rfl) (fun _ _ _ h=>h) (Or.inl ⟨by rfl,?_⟩) (fun _=>by assumption) ?_;rotate_left
      (focus (intro w0 hSw;go_simp <;> with_reducible rfl))
      simp only [List.getElem_toArray,List.getElem_cons_succ,List.getElem_cons_zero,Act.put,List.setIfInBounds_toArray,List.set_cons_zero,List.set_cons_succ];refine wpAnyP_skim (i:=3) (v:=?_) rfl (by kernel_rfl) (by kernel_rfl) (by kernel_rfl) (by kernel_rfl) (fun _ _ _ h=>h) (Or.inl ⟨by rfl,?_⟩) (fun _=>by assumption) ?_;rotate_left
      (focus (intro w0 hSw;go_simp <;> with_reducible rfl))
      simp only [List.getElem_toArray,List.getElem_cons_succ,List.getElem_cons_zero,Act.put,List.setIfInBounds_toArray,List.set_cons_zero,List.set_cons_succ];refine wpAnyP_takeA (i:=4) (v:=?_) rfl (by kernel_rfl) (by kernel_rfl) (by kernel_rfl) (by kernel_rfl) (by kernel_rfl) (by kernel_rfl) (fun _ _ _ h=>h) (Or.inl ⟨by rfl,?_⟩) (by assumption) ?_;rotate_left
      (focus (intro w0 hSw;(try dsimp only at hSw);go_simp <;> with_reducible rfl))
      simp only [List.getElem_toArray,List.getElem_cons_succ,List.getElem_cons_zero,Act.put,List.setIfInBounds_toArray,List.set_cons_zero,List.set_cons_succ];refine wpAnyP_skim (i:=5) (v:=?_) rfl (by kernel_rfl) (by kernel_rfl) (by kernel_rfl) (by kernel_rfl) (fun _ _ _ h=>h) (Or.inl ⟨by rfl,?_⟩) (fun _=>by assumption) ?_;rotate_left
      (focus (intro w0 hSw;go_simp <;> with_reducible rfl))
      simp only [List.getElem_toArray,List.getElem_cons_succ,List.getElem_cons_zero,Act.put,List.setIfInBounds_toArray,List.set_cons_zero,List.set_cons_succ];refine wpAnyP_takeA (i:=6) (v:=?_) rfl (by kernel_rfl) (by kernel_rfl) (by kernel_rfl) (by kernel_rfl) (by kernel_rfl) (by kernel_rfl) (fun _ _ _ h=>h) (Or.inl ⟨by rfl,?_⟩) (by assumption) ?_;rotate_left
      (focus (intro w0 hSw;(try dsimp only at hSw);go_simp <;> with_reducible rfl))
      simp only [List.getElem_toArray,List.getElem_cons_succ,List.getElem_cons_zero,Act.put,List.setIfInBounds_toArray,List.set_cons_zero,List.set_cons_succ];refine wpAnyP_skim (i:=7) (v:=?_) rfl (by kernel_rfl) (by kernel_rfl) (by kernel_rfl) (by kernel_rfl) (fun _ _ _ h=>h) (Or.inl ⟨by rfl,?_⟩) (fun _=>by assumption) ?_;rotate_left
      (focus (intro w0 hSw;go_simp <;> with_reducible rfl))
      simp only [List.getElem_toArray,List.getElem_cons_succ,List.getElem_cons_zero,Act.put,List.setIfInBounds_toArray,List.set_cons_zero,List.set_cons_succ];refine wpAnyP_takeA (i:=8) (v:=?_) rfl (by kernel_rfl) (by kernel_rfl) (by kernel_rfl) (by kernel_rfl) (by kernel_rfl) (by kernel_rfl) (fun _ _ _ h=>h) (Or.inl ⟨by rfl,?_⟩) (by assumption) ?_;rotate_left
      (focus (intro w0 hSw;(try dsimp only at hSw);go_simp <;> with_reducible rfl))
      simp only [List.getElem_toArray,List.getElem_cons_succ,List.getElem_cons_zero,Act.put,List.setIfInBounds_toArray,List.set_cons_zero,List.set_cons_succ];refine wpAnyP_ready (rs:=[9]) (by kernel_rfl) (by simp) ?_;refine AllReadyP.cons (o:=_) rfl (fun K hK=>?_) ?_;rotate_left;exact AllReadyP.nil;go_simp
      go_at_call 31
      refine (dShare_v (L:=KV L) RY.out RE1.out RE2.out (by unfold KV;omega) (by unfold KV;omega)).mono ?_;rintro e w6 ⟨s7,x7,n7,c7,f7,y7,m7,d7,g7,rfl,hb6,hq6⟩
      (try go_wp2_with fail)
      have HQ6:=hid (hq6.rn.cut HLO.out);replace HB2:=hid (HB2.out.trans (hb6.mono HB2.out.size));replace HG:=hid (HG.out.below hb6)
      clear hb6 hq6 RY RE1 RE2 HLO hHeld;refine hK.out _ _ (fun h=>by cases h) (fun _=>?_);clear hK K;try simp only [Act.put,List.setIfInBounds_toArray,List.set_cons_zero,List.set_cons_succ]
      refine wpAnyP_ready (rs:=[10]) (by kernel_rfl) (by simp) ?_;refine AllReadyP.cons (o:=_) rfl (fun K hK=>?_) ?_;rotate_left;exact AllReadyP.nil;go_simp;refine hK.out _ _ (fun h=>by cases h) (fun _=>?_);clear hK K;try simp only [Act.put,List.setIfInBounds_toArray,List.set_cons_zero,List.set_cons_succ]
      refine wpAnyP_ready (rs:=[11]) (by kernel_rfl) (by simp) ?_;refine AllReadyP.cons (o:=_) rfl (fun K hK=>?_) ?_;rotate_left;exact AllReadyP.nil;have hln:((0,off) :: (shR rs ys++(shC cs zs).take i)).length=rs.length+i+1:=by rw [List.length_cons,List.length_append,List.length_take];omega
      obtain ⟨col,T,hrow,hT⟩:=HG.out;rw [hln] at hrow;have hsz:=HB2.out.size;refine step_append_one w6 rfl (.tmp 56) (.tmp 66) 72 rfl w2.heap.size 41 64 4 (.agg #[.int .i64 0,.bool false,.slice none 0 0,.slice none 0 0]) Tryz.underlying72 Tryz.infoExt rfl (by decide) nz4 u8 (rs.length+i+1) _ rfl hrow #[.int .i64 (shI yq i1 i2),.bool s7,.slice x7 n7 c7,.slice y7 m7 d7] rfl rfl (one4 _ _ _ _ _ _ _ _) (not4 _ _ _ _ _ _ _ _) ?p1 (by decide) hsz ?_
      case p1=>omega
      intro g8 cap8 w8 hr8 hk8 hb8 hg8;have HB8:=hid (hb8 w2 HB2.out (Nat.le_refl _));have HG8:Hid (Ge (KS L) w2.heap.size w8 (.slice (some ⟨g8,0,none⟩) (rs.length+i+1+1) cap8) ((0,off) :: (shR rs ys++(shC cs zs).take (i+1)))):=by
       have hp8:=ge_push hT (by rw [hln];exact hr8) hk8 HQ6.out;rw [hln] at hp8;rw [HTK.out];rw [←List.append_assoc];exact hp8
      clear hr8 hk8 hb8 hg8 hrow hT HG HB2 HQ6 HTK hsz hln;refine hK.out _ _ (fun h=>by cases h) (fun _=>?_);clear hK K;try simp only [Act.put,List.setIfInBounds_toArray]
      refine wpAnyP_skim (i:=12) (v:=?_) rfl (by kernel_rfl) (by kernel_rfl) (by kernel_rfl) (by kernel_rfl) (fun _ _ _ h=>h) (Or.inl ⟨by rfl,?_⟩) (fun h=>by cases h) ?_;rotate_left
      (focus (intro w0 hSw;go_simp <;> with_reducible rfl))
      simp only [List.getElem_toArray,List.getElem_cons_succ,List.getElem_cons_zero,Act.put,List.setIfInBounds_toArray,List.set_cons_zero,List.set_cons_succ];refine wpAnyP_done (by kernel_rfl) ?_ _;go_wp2;go_roundw
      case rel=>exact ⟨i+1,by omega,by go_num,HB8.out,HG8.out⟩
      case measure=>simp [intOf];omega
     ·have e1:i=cs.length:=by omega
      have i4':¬(((i:Nat):Int)<((cs.length:Nat):Int)):=by omega
      have HG9:=HG.out;rw [List.take_of_length_le (by omega),←HP.out] at HG9;have hln:(bnP off cs rs ys).length=1+rs.length+cs.length:=by rw [HP.out,List.length_cons,List.length_append];omega
      obtain ⟨va,vc,hvs⟩:=HG9.slice;rw [hvs] at HG9;have HT:=hid HG9.tf;rw [hln] at hvs;subst hvs;have HLN:=hid hln;clear HG HG9 e1 hln;go_wp2_with fail
      have hkl:4+(1+rs.length+cs.length)*(KS L+1)≤KBo L:=by unfold KBo;have h9:(1+rs.length+cs.length)*(KS L+1)≤129*(KS L+1):=Nat.mul_le_mul_right _ (by omega);omega
      refine (dSum_v HT.out HLN.out (Nat.le_trans hkl (by unfold KBo;omega)) (by omega) (by omega)).mono ?_;rintro e w6 ⟨s4,x4,n4,c4,f4,y4,m4,d4,g4,rfl,hb6,hq6⟩;have HQ6:=hid (hq6.mono hkl);replace HB2:=hid (HB2.out.trans (hb6.mono HB2.out.size));replace OB:=hid (OB.out.below HB2.out);obtain ⟨hz,z0,z1,z2,z3,zf⟩:=OB.out;clear hb6 hq6 HT;go_wp2;exact bodyPost_ret (v:=.tuple #[.agg #[.int .i64 (smI (bnP off cs rs ys)),.bool s4,.slice x4 n4 c4,.slice y4 m4 d4],.int .i64 0]) (by simp [results,Tryz.results10,go_sem,z0,z1,z2,z3]) rfl ⟨below_st4 (HB.out.trans (HB2.out.mono HB.out.size)) (by omega),.inr ⟨rfl,s4,x4,n4,c4,f4,y4,m4,d4,g4,rfl,OB.out.rn HQ6.out.rn,HQ6.out.inf⟩⟩
theorem eqs_iff {f g:Nat→Int}:∀{r i:Nat},eqs f g r i=true ↔ ∀j,i≤j→j<i+r→f j=g j
 | 0,i=>⟨fun _ j a b=>by omega,fun _=>rfl⟩
 | r+1,i=>by
  simp only [eqs,Bool.and_eq_true,decide_eq_true_eq,eqs_iff (r:=r)];constructor
  ·rintro ⟨h1,h2⟩ j a b;by_cases e:j=i
   ·subst e;exact h1
   ·exact h2 j (by omega) (by omega)
  ·intro h;exact ⟨h i (by omega) (by omega),fun j a b=>h j (by omega) (by omega)⟩
theorem eql_iff {n m:Nat} {f g:Nat→Int}:eqlB n m f g=true ↔ Alk n m f g:=by
 unfold eqlB Alk;simp only [Bool.and_eq_true,decide_eq_true_eq,eqs_iff];exact ⟨fun ⟨a,b⟩=>⟨a,fun j hj=>b j (by omega) (by omega)⟩,fun ⟨a,b⟩=>⟨a,fun j _ hj=>b j (by omega)⟩⟩
theorem sq_iff {a b:Nm}:sqB a b=true ↔ a.s=b.s∧Alk a.n b.n a.f b.f∧Alk a.m b.m a.g b.g:=by
 unfold sqB;simp only [Bool.and_eq_true,decide_eq_true_eq,eql_iff]
set_option maxRecDepth 100000 in
set_option maxHeartbeats 2000000 in
theorem dsameRat_c {w:World} {a b:Nm} (ha:NmS w a) (hb:NmS w b):Calls Tryz.prog 26 #[a.val,b.val] w fun r w'=>r=.returned (.bool (sqB a b))∧Below w.heap.size w w':=by
 have C1:=hid (fun w' (hw:Below w.heap.size w w')=>equalU_c (w:=w') (c:=a.c) (d:=b.c) (ha.1.rx.below hw (Nat.le_refl _)) (hb.1.rx.below hw (Nat.le_refl _)) (by have:=ha.2.1;omega) (by have:=hb.2.1;omega));have C2:=hid (fun w' (hw:Below w.heap.size w w')=>equalU_c (w:=w') (c:=a.d) (d:=b.d) (ha.1.ry.below hw (Nat.le_refl _)) (hb.1.ry.below hw (Nat.le_refl _)) (by have:=ha.2.2;omega) (by have:=hb.2.2;omega));obtain ⟨t1,ht1⟩:∃t,eqlB a.n b.n a.f b.f=t:=⟨_,rfl⟩;obtain ⟨t2,ht2⟩:∃t,eqlB a.m b.m a.g b.g=t:=⟨_,rfl⟩;obtain ⟨ans,hans⟩:∃t,sqB a b=t:=⟨_,rfl⟩;have hA:ans=(decide (a.s=b.s) && (t1 && t2)):=by rw [←hans,←ht1,←ht2];rfl
 rw [ht1] at C1;rw [ht2] at C2;rw [hans];clear hans ht1 ht2 ha hb;obtain ⟨s,x,n,c,f,y,m,d,g⟩:=a;obtain ⟨s2,x2,n2,c2,f2,y2,m2,d2,g2⟩:=b;have HA:Hid (ans=(decide (s=s2) && (t1 && t2))):=hA;replace C1:Hid (∀w' (hw:Below w.heap.size w w'),Calls Tryz.prog 53 #[.slice x n c,.slice x2 n2 c2] w' fun e w2=>e=.returned (.bool t1)∧Below w'.heap.size w' w2):=C1;replace C2:Hid (∀w' (hw:Below w.heap.size w w'),Calls Tryz.prog 53 #[.slice y m d,.slice y2 m2 d2] w' fun e w2=>e=.returned (.bool t2)∧Below w'.heap.size w' w2):=C2;clear hA;show Calls Tryz.prog 26 #[.agg #[.bool s,.slice x n c,.slice y m d],.agg #[.bool s2,.slice x2 n2 c2,.slice y2 m2 d2]] w _;have HB0:=hid (below_alloc (below_alloc (Below.refl w.heap.size w) (.cells #[.bool s,.slice x n c,.slice y m d] 24)) (.cells #[.bool s2,.slice x2 n2 c2,.slice y2 m2 d2] 24));by_cases hs:s=s2
 case neg =>
  have HS:=hid (show decide (s=s2)=false from by simp [hs]);have e1:(s==s2)=false:=by simpa using hs
  go_enter Tryz.func26,Tryz.ntmps26;go_wp2;go_ret;refine ⟨?_,HB0.out⟩;rw [HA.out,HS.out];rfl
 subst hs;have HS:=hid (show decide (s=s)=true from by simp);have e1:(s==s)=true:=by simp
 go_enter Tryz.func26,Tryz.ntmps26;go_wp2_with fail
 refine (C1.out _ HB0.out).mono ?_;rintro r w1 ⟨rfl,hb1⟩;have k1:=kCb hb1 (a:=⟨w.heap.size,2,none⟩) (v:=.slice y m d) (by simp [go_sem]);have k2:=kCb hb1 (a:=⟨w.heap.size+1,2,none⟩) (v:=.slice y2 m2 d2) (by simp [go_sem]);have HB1:=hid (HB0.out.trans (hb1.mono HB0.out.size));clear hb1 HB0 C1;cases t1
 ·go_wp2;go_ret;refine ⟨?_,HB1.out⟩;rw [HA.out,HS.out];rfl
 ·go_wp2_with fail
  refine (C2.out _ HB1.out).mono ?_;rintro r w2 ⟨rfl,hb2⟩;have HB2:=hid (HB1.out.trans (hb2.mono HB1.out.size));clear hb2 HB1 C2;go_wp2;go_ret;refine ⟨?_,HB2.out⟩;rw [HA.out,HS.out];cases t2 <;> rfl
set_option maxRecDepth 100000 in
set_option maxHeartbeats 4000000 in
theorem dequalQs_c {w:World} {ao bo:Option Addr} {k l cap cap':Nat} {X Y:Nat→Nm} (hx:∀j,j<k→∃b o,ao=some ⟨b,o,none⟩∧Cs w b (o+j*3) (rcell (X j))∧NmS w (X j)) (hy:∀j,j<l→∃b o,bo=some ⟨b,o,none⟩∧Cs w b (o+j*3) (rcell (Y j))∧NmS w (Y j)) (hk:k≤1048576) (hl:l≤1048576) :
  Calls Tryz.prog 25 #[.slice ao k cap,.slice bo l cap',.func (.func 26) #[] #[]] w fun e w'=>e=.returned (.bool (eqfB sqB k l X Y))∧Below w.heap.size w w':=by
 have HX:=hid hx;have HY:=hid hy
 clear hx hy;by_cases hkl:k=l
 case neg =>
  have HE:=hid (show eqfB sqB k l X Y=false from by simp [eqfB,hkl]);have e1:((k:Int) != (l:Int))=true:=by simp;omega
  clear hkl;go_enter Tryz.func25,Tryz.ntmps25;go_wp2;go_ret;refine ⟨?_,Below.refl _ _⟩;rw [HE.out];rfl
 subst hkl;have HE:=hid (show eqfB sqB k k X Y=eqf sqB X Y k 0 from by simp [eqfB]);have e1:((k:Int) != (k:Int))=false:=by simp
 go_enter Tryz.func25,Tryz.ntmps25;go_wp2_with fail
 go_loopw [17] (fun t wr=>∃(i:Nat),i≤k∧t=.int .i64 i∧Hid (Below w.heap.size w wr)∧Hid (eqfB sqB k k X Y=eqf sqB X Y (k-i) i)) (fun t _=>k-(intOf t).toNat)
 case atStart=>exact ⟨0,by omega,rfl,Below.refl _ _,HE.out⟩
 case round =>
  obtain ⟨i,hi,rfl,HB,HI⟩:=hrel;by_cases hlt:i<k
  ·obtain ⟨b,o,rfl,hc,hn⟩:=HX.out i hlt;obtain ⟨b2,o2,rfl,hc2,hn2⟩:=HY.out i hlt;replace hc:=hc.below HB.out;replace hc2:=hc2.below HB.out;replace hn:=hn.below HB.out;replace hn2:=hn2.below HB.out
   obtain ⟨r,hr⟩:∃r,k-i=r+1:=⟨k-i-1,by omega⟩;obtain ⟨t1,ht1⟩:∃t,sqB (X i) (Y i)=t:=⟨_,rfl⟩;have hT:eqfB sqB k k X Y=(t1 && eqf sqB X Y r (i+1)):=by rw [HI.out,hr,←ht1];rfl
   have hr2:k-(i+1)=r:=by omega
   have CE:=hid (fun w' (hw:Below wr.heap.size wr w')=>dsameRat_c (w:=w') (hn.below hw) (hn2.below hw));rw [ht1] at CE;obtain ⟨⟨s0,x0,n0,c0,f0,y0,m0,d0,g0⟩,hCi⟩:∃t,X i=t:=⟨_,rfl⟩;obtain ⟨⟨vs0,vx0,vn0,vc0,vf0,vy0,vm0,vd0,vg0⟩,hCi2⟩:∃t,Y i=t:=⟨_,rfl⟩;rw [hCi] at hc CE;rw [hCi2] at hc2 CE;replace CE:Hid (∀w' (hw:Below wr.heap.size wr w'),Calls Tryz.prog 26 #[.agg #[.bool s0,.slice x0 n0 c0,.slice y0 m0 d0],.agg #[.bool vs0,.slice vx0 vn0 vc0,.slice vy0 vm0 vd0]] w' fun e w2=>e=.returned (.bool t1)∧Below w'.heap.size w' w2):=CE;have hb1:=below_alloc (Below.refl wr.heap.size wr) (.cells #[.bool s0,.slice x0 n0 c0,.slice y0 m0 d0] 24);have q1:wr.cell? ⟨b,o+i*3,none⟩=some (.bool s0):=hc 0 _ rfl;have q2:wr.cell? ⟨b,o+i*3+1,none⟩=some (.slice x0 n0 c0):=hc 1 _ rfl;have q3:wr.cell? ⟨b,o+i*3+2,none⟩=some (.slice y0 m0 d0):=hc 2 _ rfl;have g1':(wr.alloc (.cells #[.bool s0,.slice x0 n0 c0,.slice y0 m0 d0] 24)).cell? ⟨b2,o2+i*3,none⟩=some (.bool vs0):=kCb hb1 (hc2 0 _ rfl);have g2':(wr.alloc (.cells #[.bool s0,.slice x0 n0 c0,.slice y0 m0 d0] 24)).cell? ⟨b2,o2+i*3+1,none⟩=some (.slice vx0 vn0 vc0):=kCb hb1 (hc2 1 _ rfl);have g3':(wr.alloc (.cells #[.bool s0,.slice x0 n0 c0,.slice y0 m0 d0] 24)).cell? ⟨b2,o2+i*3+2,none⟩=some (.slice vy0 vm0 vd0):=kCb hb1 (hc2 2 _ rfl);have p1:((wr.alloc (.cells #[.bool s0,.slice x0 n0 c0,.slice y0 m0 d0] 24)).alloc (.cells #[.bool vs0,.slice vx0 vn0 vc0,.slice vy0 vm0 vd0] 24)).cell? ⟨wr.heap.size,0,none⟩=some (.bool s0):=by simp [go_sem]
   have p2:((wr.alloc (.cells #[.bool s0,.slice x0 n0 c0,.slice y0 m0 d0] 24)).alloc (.cells #[.bool vs0,.slice vx0 vn0 vc0,.slice vy0 vm0 vd0] 24)).cell? ⟨wr.heap.size,1,none⟩=some (.slice x0 n0 c0):=by simp [go_sem]
   have p3:((wr.alloc (.cells #[.bool s0,.slice x0 n0 c0,.slice y0 m0 d0] 24)).alloc (.cells #[.bool vs0,.slice vx0 vn0 vc0,.slice vy0 vm0 vd0] 24)).cell? ⟨wr.heap.size,2,none⟩=some (.slice y0 m0 d0):=by simp [go_sem]
   have r1:((wr.alloc (.cells #[.bool s0,.slice x0 n0 c0,.slice y0 m0 d0] 24)).alloc (.cells #[.bool vs0,.slice vx0 vn0 vc0,.slice vy0 vm0 vd0] 24)).cell? ⟨wr.heap.size+1,0,none⟩=some (.bool vs0):=by simp [go_sem]
   have r2:((wr.alloc (.cells #[.bool s0,.slice x0 n0 c0,.slice y0 m0 d0] 24)).alloc (.cells #[.bool vs0,.slice vx0 vn0 vc0,.slice vy0 vm0 vd0] 24)).cell? ⟨wr.heap.size+1,1,none⟩=some (.slice vx0 vn0 vc0):=by simp [go_sem]
   have r3:((wr.alloc (.cells #[.bool s0,.slice x0 n0 c0,.slice y0 m0 d0] 24)).alloc (.cells #[.bool vs0,.slice vx0 vn0 vc0,.slice vy0 vm0 vd0] 24)).cell? ⟨wr.heap.size+1,2,none⟩=some (.slice vy0 vm0 vd0):=by simp [go_sem]
   have HB6:=hid (below_alloc hb1 (.cells #[.bool vs0,.slice vx0 vn0 vc0,.slice vy0 vm0 vd0] 24));have HT:=hid hT;have HR:=hid hr2
   have i1':((i:Nat):Int)<((k:Nat):Int):=by omega
   clear hT hr2 hr hCi hCi2 ht1 hc hc2 hn hn2 hb1;go_upto_region 7 with fail
   clear q1 g1' q2 g2' q3 g3';generalize ((wr.alloc (.cells #[.bool s0,.slice x0 n0 c0,.slice y0 m0 d0] 24)).alloc (.cells #[.bool vs0,.slice vx0 vn0 vc0,.slice vy0 vm0 vd0] 24))=w6 at *;go_wp2_with fail
   refine (CE.out _ HB6.out).mono ?_;rintro e w7 ⟨rfl,hb7⟩;have HB7:=hid (HB.out.trans ((HB6.out.trans (hb7.mono HB6.out.size)).mono HB.out.size));clear hb7 HB6 CE p1 r1 p2 r2 p3 r3;cases t1
   ·go_wp2;go_ret;refine ⟨?_,HB7.out⟩;rw [HT.out];rfl
   ·go_wp2;go_roundw
    case rel =>
     refine ⟨i+1,by omega,by go_num,HB7.out,?_⟩;show _=_;rw [HT.out,HR.out];rfl
    case measure=>simp [intOf];omega
  ·have e1:i=k:=by omega
   have HE:Hid (eqfB sqB k k X Y=true):=by show _=_;rw [HI.out,e1,Nat.sub_self];rfl
   have i2:¬(((i:Nat):Int)<((k:Nat):Int)):=by omega
   clear e1 HI;go_wp2;go_ret;refine ⟨?_,HB.out⟩;rw [HE.out];rfl
def rsB (y:Rat) (i1:Int) (q1:Rat) (i2:Int) (q2 at_:Rat):Bool:=if y=0 then true else if y<0 then decide (i2=0) && decide (q2=at_) else decide (i1=0) && decide (q1=at_)
theorem sqB_val {L:Nat} {w w':World} {s:Bool} {x:Option Addr} {n c:Nat} {f:Nat→Int} {y:Option Addr} {m d:Nat} {g:Nat→Int} {s1:Bool} {x1:Option Addr} {n1 c1:Nat} {f1:Nat→Int} {y1:Option Addr} {m1 d1:Nat} {g1:Nat→Int} {q q1:Rat} (h:Rn L w s x n c f y m d g q) (h1:Rn L w' s1 x1 n1 c1 f1 y1 m1 d1 g1 q1):sqB ⟨s,x,n,c,f,y,m,d,g⟩ ⟨s1,x1,n1,c1,f1,y1,m1,d1,g1⟩=decide (q=q1):=by
 have h2:=Rn.inj h h1;rw [Bool.eq_iff_iff,sq_iff,decide_eq_true_eq];exact h2
set_option maxRecDepth 100000 in
set_option maxHeartbeats 4000000 in
theorem dRests_v {w:World} {L:Nat} {s:Bool} {x:Option Addr} {n c:Nat} {f:Nat→Int} {y:Option Addr} {m d:Nat} {g:Nat→Int} {i1:Int} {s1:Bool} {x1:Option Addr} {n1 c1:Nat} {f1:Nat→Int} {y1:Option Addr} {m1 d1:Nat} {g1:Nat→Int} {i2:Int} {s2:Bool} {x2:Option Addr} {n2 c2:Nat} {f2:Nat→Int} {y2:Option Addr} {m2 d2:Nat} {g2:Nat→Int} {s3:Bool} {x3:Option Addr} {n3 c3:Nat} {f3:Nat→Int} {y3:Option Addr} {m3 d3:Nat} {g3:Nat→Int} {q q1 q2 q3:Rat} (h:Rn L w s x n c f y m d g q) (h1:Rn L w s1 x1 n1 c1 f1 y1 m1 d1 g1 q1) (h2:Rn L w s2 x2 n2 c2 f2 y2 m2 d2 g2 q2) (h3:Rn L w s3 x3 n3 c3 f3 y3 m3 d3 g3 q3) (hL:L≤65536) :
  Calls Tryz.prog 55 #[.agg #[.bool s,.slice x n c,.slice y m d],.agg #[.int .i64 i1,.bool s1,.slice x1 n1 c1,.slice y1 m1 d1],.agg #[.int .i64 i2,.bool s2,.slice x2 n2 c2,.slice y2 m2 d2],.agg #[.bool s3,.slice x3 n3 c3,.slice y3 m3 d3]] w fun e w'=>e=.returned (.bool (rsB q i1 q1 i2 q2 q3))∧Below w.heap.size w w':=by
 have hb:=below_alloc (below_alloc (below_alloc (below_alloc (Below.refl w.heap.size w) (.cells #[.bool s,.slice x n c,.slice y m d] 24)) (.cells #[.int .i64 i1,.bool s1,.slice x1 n1 c1,.slice y1 m1 d1] 41)) (.cells #[.int .i64 i2,.bool s2,.slice x2 n2 c2,.slice y2 m2 d2] 41)) (.cells #[.bool s3,.slice x3 n3 c3,.slice y3 m3 d3] 24);have BY:Bk ((((w.alloc (.cells #[.bool s,.slice x n c,.slice y m d] 24)).alloc (.cells #[.int .i64 i1,.bool s1,.slice x1 n1 c1,.slice y1 m1 d1] 41)).alloc (.cells #[.int .i64 i2,.bool s2,.slice x2 n2 c2,.slice y2 m2 d2] 41)).alloc (.cells #[.bool s3,.slice x3 n3 c3,.slice y3 m3 d3] 24)) w.heap.size [.bool s,.slice x n c,.slice y m d] 24:=(((bk_new w [.bool s,.slice x n c,.slice y m d] 24).below (below_alloc (Below.refl _ _) _)).below (below_alloc (Below.refl _ _) _)).below (below_alloc (Below.refl _ _) _);have BL:Bk ((((w.alloc (.cells #[.bool s,.slice x n c,.slice y m d] 24)).alloc (.cells #[.int .i64 i1,.bool s1,.slice x1 n1 c1,.slice y1 m1 d1] 41)).alloc (.cells #[.int .i64 i2,.bool s2,.slice x2 n2 c2,.slice y2 m2 d2] 41)).alloc (.cells #[.bool s3,.slice x3 n3 c3,.slice y3 m3 d3] 24)) (w.heap.size+1) [.int .i64 i1,.bool s1,.slice x1 n1 c1,.slice y1 m1 d1] 41:=by
  have:=((bk_new (w.alloc (.cells #[.bool s,.slice x n c,.slice y m d] 24)) [.int .i64 i1,.bool s1,.slice x1 n1 c1,.slice y1 m1 d1] 41).below (below_alloc (Below.refl _ _) (.cells #[.int .i64 i2,.bool s2,.slice x2 n2 c2,.slice y2 m2 d2] 41))).below (below_alloc (Below.refl _ _) (.cells #[.bool s3,.slice x3 n3 c3,.slice y3 m3 d3] 24));rw [size_alloc1] at this;exact this
 have BH:Bk ((((w.alloc (.cells #[.bool s,.slice x n c,.slice y m d] 24)).alloc (.cells #[.int .i64 i1,.bool s1,.slice x1 n1 c1,.slice y1 m1 d1] 41)).alloc (.cells #[.int .i64 i2,.bool s2,.slice x2 n2 c2,.slice y2 m2 d2] 41)).alloc (.cells #[.bool s3,.slice x3 n3 c3,.slice y3 m3 d3] 24)) (w.heap.size+2) [.int .i64 i2,.bool s2,.slice x2 n2 c2,.slice y2 m2 d2] 41:=by
  have:=(bk_new ((w.alloc (.cells #[.bool s,.slice x n c,.slice y m d] 24)).alloc (.cells #[.int .i64 i1,.bool s1,.slice x1 n1 c1,.slice y1 m1 d1] 41)) [.int .i64 i2,.bool s2,.slice x2 n2 c2,.slice y2 m2 d2] 41).below (below_alloc (Below.refl _ _) (.cells #[.bool s3,.slice x3 n3 c3,.slice y3 m3 d3] 24));rw [size_alloc1,size_alloc1] at this;exact this
 have BA:Bk ((((w.alloc (.cells #[.bool s,.slice x n c,.slice y m d] 24)).alloc (.cells #[.int .i64 i1,.bool s1,.slice x1 n1 c1,.slice y1 m1 d1] 41)).alloc (.cells #[.int .i64 i2,.bool s2,.slice x2 n2 c2,.slice y2 m2 d2] 41)).alloc (.cells #[.bool s3,.slice x3 n3 c3,.slice y3 m3 d3] 24)) (w.heap.size+1+1+1) [.bool s3,.slice x3 n3 c3,.slice y3 m3 d3] 24:=by
  have:=bk_new (((w.alloc (.cells #[.bool s,.slice x n c,.slice y m d] 24)).alloc (.cells #[.int .i64 i1,.bool s1,.slice x1 n1 c1,.slice y1 m1 d1] 41)).alloc (.cells #[.int .i64 i2,.bool s2,.slice x2 n2 c2,.slice y2 m2 d2] 41)) [.bool s3,.slice x3 n3 c3,.slice y3 m3 d3] 24;rw [size_alloc1,size_alloc1,size_alloc1] at this;exact this
 have HY:=hid (h.below hb);have H1:=hid (h1.below hb);have H2:=hid (h2.below hb);have H3:=hid (h3.below hb)
 have HQ0:=hid h.q_zero;have HSN:=hid h.sg
 clear h h1 h2 h3;go_enter Tryz.func55,Tryz.ntmps55;go_upto_region 1 with fail
 generalize ((((w.alloc (.cells #[.bool s,.slice x n c,.slice y m d] 24)).alloc (.cells #[.int .i64 i1,.bool s1,.slice x1 n1 c1,.slice y1 m1 d1] 41)).alloc (.cells #[.int .i64 i2,.bool s2,.slice x2 n2 c2,.slice y2 m2 d2] 41)).alloc (.cells #[.bool s3,.slice x3 n3 c3,.slice y3 m3 d3] 24))=w1 at *;have r0:=BY.cell (j:=0) rfl;have r1:=BY.cell (j:=1) rfl;have r2:=BY.cell (j:=2) rfl;have l0:=BL.cell (j:=0) rfl;have l1:=BL.cell (j:=1) rfl;have l2:=BL.cell (j:=2) rfl;have l3:=BL.cell (j:=3) rfl;have k0:=BH.cell (j:=0) rfl;have k1:=BH.cell (j:=1) rfl;have k2:=BH.cell (j:=2) rfl;have k3:=BH.cell (j:=3) rfl;have HB:=hid hb;clear hb;go_wp2_with fail
 clear r0 r1 r2 l0 l1 l2 l3 k0 k1 k2 k3;refine dSide_c.mono ?_;rintro e w2 ⟨hb2,⟨hn,rfl⟩ | ⟨hn,hs,rfl⟩ | ⟨hn,hs,rfl⟩⟩
 ·have HSG:Hid (rsB q i1 q1 i2 q2 q3=true):=by show _=_;rw [rsB,if_pos (HQ0.out.2 hn)]
  clear hn;have hal:=below_alloc (Below.refl w2.heap.size w2) (.cells #[.int .i64 0,.bool false,.slice none 0 0,.slice none 0 0] 41);have hb3:=hb2.trans (hal.mono hb2.size);replace HB:=hid (HB.out.trans (hb3.mono HB.out.size));clear hb2 hal hb3;go_wp2;go_ret;exact ⟨by rw [HSG.out];rfl,HB.out⟩
 ·have HSG:Hid (rsB q i1 q1 i2 q2 q3=(decide (i2=0) && decide (q2=q3))):=by
   have h0:q≠0:=fun e=>hn (HQ0.out.1 e)
   have h1:q<0:=by have h9:=HSN.out;rw [hs] at h9;exact of_decide_eq_true h9.symm
   show _=_;rw [rsB,if_neg h0,if_pos h1]
  clear hn hs;have hal:=below_alloc (Below.refl w2.heap.size w2) (.cells #[.int .i64 i2,.bool s2,.slice x2 n2 c2,.slice y2 m2 d2] 41);have hb3:=hb2.trans (hal.mono hb2.size);have BA3:=BA.below hb3;have t0:=BA3.cell (j:=0) rfl;have t1:=BA3.cell (j:=1) rfl;have t2:=BA3.cell (j:=2) rfl;replace HB:=hid (HB.out.trans (hb3.mono HB.out.size));have R:=hid (H3.out.below hb3);have E:=hid (H2.out.below hb3)
  clear hb2 hal hb3 BA3;by_cases hi:i2=0
  ·have HD:Hid (decide (i2=0)=true):=decide_eq_true hi;subst hi;have CS:=hid (sqB_val E.out R.out);go_wp2_with fail
   refine (dsameRat_c (a:=⟨s2,x2,n2,c2,f2,y2,m2,d2,g2⟩) (b:=⟨s3,x3,n3,c3,f3,y3,m3,d3,g3⟩) (NmV.nms (t:=⟨s2,x2,n2,c2,f2,y2,m2,d2,g2⟩) (q:=q2) E.out hL).1 (NmV.nms (t:=⟨s3,x3,n3,c3,f3,y3,m3,d3,g3⟩) (q:=q3) R.out hL).1).mono ?_;rintro e w4 ⟨rfl,hb4⟩;rw [CS.out];have HB4:=hid (HB.out.trans (hb4.mono HB.out.size));clear hb4 t0 t1 t2;go_wp2;go_ret;exact ⟨by rw [HSG.out,HD.out];rfl,HB4.out⟩
  ·have HD:Hid (decide (i2=0)=false):=decide_eq_false hi;have hi2:((i2:Int)==0)=false:=by simp [hi]
   go_wp2;go_ret;exact ⟨by rw [HSG.out,HD.out];rfl,HB.out⟩
 ·have HSG:Hid (rsB q i1 q1 i2 q2 q3=(decide (i1=0) && decide (q1=q3))):=by
   have h0:q≠0:=fun e=>hn (HQ0.out.1 e)
   have h1:¬q<0:=by have h9:=HSN.out;rw [hs] at h9;exact of_decide_eq_false h9.symm
   show _=_;rw [rsB,if_neg h0,if_neg h1]
  clear hn hs;have hal:=below_alloc (Below.refl w2.heap.size w2) (.cells #[.int .i64 i1,.bool s1,.slice x1 n1 c1,.slice y1 m1 d1] 41);have hb3:=hb2.trans (hal.mono hb2.size);have BA3:=BA.below hb3;have t0:=BA3.cell (j:=0) rfl;have t1:=BA3.cell (j:=1) rfl;have t2:=BA3.cell (j:=2) rfl;replace HB:=hid (HB.out.trans (hb3.mono HB.out.size));have R:=hid (H3.out.below hb3);have E:=hid (H1.out.below hb3)
  clear hb2 hal hb3 BA3;by_cases hi:i1=0
  ·have HD:Hid (decide (i1=0)=true):=decide_eq_true hi;subst hi;have CS:=hid (sqB_val E.out R.out);go_wp2_with fail
   refine (dsameRat_c (a:=⟨s1,x1,n1,c1,f1,y1,m1,d1,g1⟩) (b:=⟨s3,x3,n3,c3,f3,y3,m3,d3,g3⟩) (NmV.nms (t:=⟨s1,x1,n1,c1,f1,y1,m1,d1,g1⟩) (q:=q1) E.out hL).1 (NmV.nms (t:=⟨s3,x3,n3,c3,f3,y3,m3,d3,g3⟩) (q:=q3) R.out hL).1).mono ?_;rintro e w4 ⟨rfl,hb4⟩;rw [CS.out];have HB4:=hid (HB.out.trans (hb4.mono HB.out.size));clear hb4 t0 t1 t2;go_wp2;go_ret;exact ⟨by rw [HSG.out,HD.out];rfl,HB4.out⟩
  ·have HD:Hid (decide (i1=0)=false):=decide_eq_false hi;have hi2:((i1:Int)==0)=false:=by simp [hi]
   go_wp2;go_ret;exact ⟨by rw [HSG.out,HD.out];rfl,HB.out⟩
def rsR (rs:List RV) (ys xs:List Rat):List Bool:=List.zipWith (fun v y=>rsB y v.li v.lq v.hi v.hq (actQ xs v)) rs ys
def rsC (cs:List CV) (zs xs:List Rat):List Bool:=List.zipWith (fun v (t:Rat × Rat)=>rsB t.1 v.li v.lq v.hi v.hq t.2) cs (zs.zip xs)
def arB (cs:List CV) (rs:List RV) (xs ys zs:List Rat):Bool:=(rsR rs ys xs).all id && (rsC cs zs xs).all id
theorem rsR_at {rs:List RV} {ys xs:List Rat} {i:Nat} {v:RV} {y:Rat} (hv:rs[i]?=some v) (hy:ys[i]?=some y):(rsR rs ys xs)[i]?=some (rsB y v.li v.lq v.hi v.hq (actQ xs v)):=by
 unfold rsR;rw [List.getElem?_zipWith,hv,hy]
theorem rsC_at {cs:List CV} {zs xs:List Rat} {i:Nat} {v:CV} {z x:Rat} (hv:cs[i]?=some v) (hz:zs[i]?=some z) (hx:xs[i]?=some x):(rsC cs zs xs)[i]?=some (rsB z v.li v.lq v.hi v.hq x):=by
 unfold rsC;rw [List.getElem?_zipWith,hv,(List.getElem?_zip_eq_some (z:=(z,x))).2 ⟨hz,hx⟩]
theorem all_on {l:List Bool} {i:Nat} (h:l[i]?=some true) (ha:(l.take i).all id=true):(l.take (i+1)).all id=true:=by
 rw [List.take_add_one,h,List.all_append,ha];rfl
theorem all_no {l:List Bool} {i:Nat} (h:l[i]?=some false):l.all id=false:=List.all_eq_false.2 ⟨false,List.mem_of_getElem? h,by simp⟩
set_option maxRecDepth 100000 in
set_option maxHeartbeats 8000000 in
theorem dAllRest_v {w:World} {L:Nat} {M:Mo} {off:Rat} {cs:List CV} {rs:List RV} {a0 a1 a2:Option Addr} {k0 c0 k1 c1 k2 c2:Nat} {X:Nat→Nm} {xs ys zs:List Rat} (hW:MoW w M) (hx:Rl w a0 k0 X) (hk:k0≤1048576) (he:pckE M k0 X=0) (hv:MoV L w M off cs rs) (hm:mvOk cs rs=true) (h0:Rf L w a0 xs) (l0:xs.length=k0) (e0:k0=cs.length) (h1:Rf L w a1 ys) (l1:ys.length=k1) (e1:k1=rs.length) (h2:Rf (KV L) w a2 zs) (l2:zs.length=k2) (e2:k2=cs.length) (hL:L≤30) :
  Calls Tryz.prog 27 #[M.val,.agg #[.slice a0 k0 c0,.slice a1 k1 c1,.slice a2 k2 c2]] w fun e w'=>e=.returned (.bool (arB cs rs xs ys zs))∧Below w.heap.size w w':=by
 have CA:Hid (∀W,Below w.heap.size w W→Calls Tryz.prog 54 #[M.val,.slice a0 k0 c0] W fun e w'=>AcAns L W w' e 0 rs xs):=fun W hW2=>pActs_v (hW.below hW2) (hx.below hW2) hk he (fun _=>⟨hv.below hW2,hm,h0.below hW2,l0,e0⟩) hL
 have mp:=mvOk_p hm;have l64:=mp.cl;have r64:=mp.rl
 have HRB:=hid mp.rb;have HCB:=hid mp.cb
 obtain ⟨⟨s,x,n,c,f,y,m,d,g⟩,ca,ck,cc,C,ra,rk,rc,R⟩:=M;have HC:Hid (∀j v,cs[j]?=some v→(∃b o,ca=some ⟨b,o,none⟩∧Cs w b (o+j*12) (C j).vs)∧ColV L w (C j) v):=hv.cls;have HR:Hid (∀j v,rs[j]?=some v→(∃b o,ra=some ⟨b,o,none⟩∧Cs w b (o+j*10) (R j).vs)∧RowV L w (R j) v):=hv.rls;have hck:ck=cs.length:=hv.ck;have hrk:rk=rs.length:=hv.rk;subst hck;subst hrk
 subst e0;subst e1;subst e2
 have HX:=hid h0;have HY:=hid h1;have HZ:=hid h2;have HXL:=hid l0;have HYL:=hid l1;have HZL:=hid l2
 clear hW hx hk he hv hm h0 l0 h1 l1 h2 l2 mp;replace CA:Hid (∀W,Below w.heap.size w W→Calls Tryz.prog 54 #[.agg #[.bool s,.slice x n c,.slice y m d,.slice ca cs.length cc,.slice ra rs.length rc],.slice a0 cs.length c0] W fun e w'=>AcAns L W w' e 0 rs xs):=CA;show Calls Tryz.prog 27 #[.agg #[.bool s,.slice x n c,.slice y m d,.slice ca cs.length cc,.slice ra rs.length rc],.agg #[.slice a0 cs.length c0,.slice a1 rs.length c1,.slice a2 cs.length c2]] w _;have hb:=below_alloc (below_alloc (Below.refl w.heap.size w) (.cells #[.bool s,.slice x n c,.slice y m d,.slice ca cs.length cc,.slice ra rs.length rc] 28)) (.cells #[.slice a0 cs.length c0,.slice a1 rs.length c1,.slice a2 cs.length c2] 31);have BM:Hid (Bk ((w.alloc (.cells #[.bool s,.slice x n c,.slice y m d,.slice ca cs.length cc,.slice ra rs.length rc] 28)).alloc (.cells #[.slice a0 cs.length c0,.slice a1 rs.length c1,.slice a2 cs.length c2] 31)) w.heap.size [.bool s,.slice x n c,.slice y m d,.slice ca cs.length cc,.slice ra rs.length rc] 28):=(bk_new w [.bool s,.slice x n c,.slice y m d,.slice ca cs.length cc,.slice ra rs.length rc] 28).below (below_alloc (Below.refl _ _) _);have BP:Bk ((w.alloc (.cells #[.bool s,.slice x n c,.slice y m d,.slice ca cs.length cc,.slice ra rs.length rc] 28)).alloc (.cells #[.slice a0 cs.length c0,.slice a1 rs.length c1,.slice a2 cs.length c2] 31)) (w.heap.size+1) [.slice a0 cs.length c0,.slice a1 rs.length c1,.slice a2 cs.length c2] 31:=by
  have:=bk_new (w.alloc (.cells #[.bool s,.slice x n c,.slice y m d,.slice ca cs.length cc,.slice ra rs.length rc] 28)) [.slice a0 cs.length c0,.slice a1 rs.length c1,.slice a2 cs.length c2] 31;rw [size_alloc1] at this;exact this
 have HB:=hid hb;replace BP:=hid BP
 clear hb;go_enter Tryz.func27,Tryz.ntmps27;go_upto_region 1 with fail
 generalize ((w.alloc (.cells #[.bool s,.slice x n c,.slice y m d,.slice ca cs.length cc,.slice ra rs.length rc] 28)).alloc (.cells #[.slice a0 cs.length c0,.slice a1 rs.length c1,.slice a2 cs.length c2] 31))=w1 at *;have r0:=BM.out.cell (j:=0) rfl;have r1:=BM.out.cell (j:=1) rfl;have r2:=BM.out.cell (j:=2) rfl;have r3:=BM.out.cell (j:=3) rfl;have r4:=BM.out.cell (j:=4) rfl;have t0:=BP.out.cell (j:=0) rfl;have t1:=BP.out.cell (j:=1) rfl;have t2:=BP.out.cell (j:=2) rfl;go_wp2_with fail
 clear r0 r1 r2 r3 r4 t0 t1 t2;refine (CA.out _ HB.out).mono ?_;rintro e w2 ⟨hb2,⟨h9,_⟩ | ⟨_,aa,ac,rfl,_,hq⟩⟩
 ·exact absurd rfl h9
 ·have HA:=hid hq;replace HB:=hid (HB.out.trans (hb2.mono HB.out.size));replace BM:=hid (BM.out.below hb2);replace BP:=hid (BP.out.below hb2)
  clear hb2 hq CA;have r4:=BM.out.cell (j:=4) rfl;go_wp2_with fail
  clear r4;go_loopw [21] (fun t wr=>∃(i:Nat),i≤rs.length∧t=.int .i64 i∧Hid (Below w2.heap.size w2 wr)∧Hid (((rsR rs ys xs).take i).all id=true)) (fun t _=>rs.length-(intOf t).toNat)
  case atStart=>exact ⟨0,by omega,rfl,Below.refl _ _,rfl⟩
  case round =>
   obtain ⟨i,hi,rfl,HB2,HO⟩:=hrel;by_cases hlt:i<rs.length
   ·obtain ⟨v,hv⟩:∃t,rs[i]?=some t:=⟨_,List.getElem?_eq_getElem (by omega)⟩;obtain ⟨yq,hyq⟩:∃t,ys[i]?=some t:=⟨_,List.getElem?_eq_getElem (by have:=HYL.out;omega)⟩;have hbw:=HB.out.trans (HB2.out.mono HB.out.size);obtain ⟨⟨b,o,hra,hc⟩,hRV⟩:=HR.out i v hv;subst hra;obtain ⟨⟨z,⟨i1,⟨s1,x1,n1,e1,f1,y1,m1,d1,g1⟩⟩,⟨i2,⟨s2,x2,n2,e2,f2,y2,m2,d2,g2⟩⟩,ta,tk,tc,tcol,tt⟩,hCi⟩:∃t,R i=t:=⟨_,rfl⟩;rw [hCi] at hc hRV;have q1e:i1=v.li:=hRV.li;have q2e:i2=v.hi:=hRV.hi
    have E1:Rn L w s1 x1 n1 e1 f1 y1 m1 d1 g1 v.lq:=hRV.lq;have E2:Rn L w s2 x2 n2 e2 f2 y2 m2 d2 g2 v.hq:=hRV.hq
    replace hc:=Cs.below hc hbw;have q0:wr.cell? ⟨b,o+i*10,none⟩=some (.string z):=hc 0 _ rfl;have q1:wr.cell? ⟨b,o+i*10+1,none⟩=some (.int .i64 i1):=hc 1 _ rfl;have q2:wr.cell? ⟨b,o+i*10+2,none⟩=some (.bool s1):=hc 2 _ rfl;have q3:wr.cell? ⟨b,o+i*10+3,none⟩=some (.slice x1 n1 e1):=hc 3 _ rfl;have q4:wr.cell? ⟨b,o+i*10+4,none⟩=some (.slice y1 m1 d1):=hc 4 _ rfl;have q5:wr.cell? ⟨b,o+i*10+5,none⟩=some (.int .i64 i2):=hc 5 _ rfl;have q6:wr.cell? ⟨b,o+i*10+6,none⟩=some (.bool s2):=hc 6 _ rfl;have q7:wr.cell? ⟨b,o+i*10+7,none⟩=some (.slice x2 n2 e2):=hc 7 _ rfl;have q8:wr.cell? ⟨b,o+i*10+8,none⟩=some (.slice y2 m2 d2):=hc 8 _ rfl;have q9:wr.cell? ⟨b,o+i*10+9,none⟩=some (.slice ta tk tc):=hc 9 _ rfl;obtain ⟨b',o',⟨ss,sx,sn,sc,sf,sy,sm,sd,sg⟩,hax,⟨p0,p1,p2⟩,hr'⟩:=(HY.out.below hbw) i yq hyq;subst hax;replace p0:wr.cell? ⟨b',o'+i*3,none⟩=some (.bool ss):=p0;replace p1:wr.cell? ⟨b',o'+i*3+1,none⟩=some (.slice sx sn sc):=p1;replace p2:wr.cell? ⟨b',o'+i*3+2,none⟩=some (.slice sy sm sd):=p2;replace hr':Rn L wr ss sx sn sc sf sy sm sd sg yq:=hr';obtain ⟨b3,o3,⟨us,ux,un,uc,uf,uy,um,ud,ug⟩,hax,⟨w0,w1',w2'⟩,hr3⟩:=(HA.out.below HB2.out) i (actQ xs v) (by rw [List.getElem?_map,hv];rfl);subst hax;have j0:wr.cell? ⟨b3,o3+i*3,none⟩=some (.bool us):=w0;have j1:wr.cell? ⟨b3,o3+i*3+1,none⟩=some (.slice ux un uc):=w1';have j2:wr.cell? ⟨b3,o3+i*3+2,none⟩=some (.slice uy um ud):=w2';replace hr3:Rn (KA L) wr us ux un uc uf uy um ud ug (actQ xs v):=hr3;clear w0 w1' w2';have hbt:=below_alloc (Below.refl wr.heap.size wr) (.cells #[.string z,.int .i64 i1,.bool s1,.slice x1 n1 e1,.slice y1 m1 d1,.int .i64 i2,.bool s2,.slice x2 n2 e2,.slice y2 m2 d2,.slice ta tk tc] 61);have ce1:(wr.alloc (.cells #[.string z,.int .i64 i1,.bool s1,.slice x1 n1 e1,.slice y1 m1 d1,.int .i64 i2,.bool s2,.slice x2 n2 e2,.slice y2 m2 d2,.slice ta tk tc] 61)).cell? ⟨wr.heap.size,1,none⟩=some (.int .i64 i1):=by simp [go_sem]
    have ce2:(wr.alloc (.cells #[.string z,.int .i64 i1,.bool s1,.slice x1 n1 e1,.slice y1 m1 d1,.int .i64 i2,.bool s2,.slice x2 n2 e2,.slice y2 m2 d2,.slice ta tk tc] 61)).cell? ⟨wr.heap.size,2,none⟩=some (.bool s1):=by simp [go_sem]
    have ce3:(wr.alloc (.cells #[.string z,.int .i64 i1,.bool s1,.slice x1 n1 e1,.slice y1 m1 d1,.int .i64 i2,.bool s2,.slice x2 n2 e2,.slice y2 m2 d2,.slice ta tk tc] 61)).cell? ⟨wr.heap.size,3,none⟩=some (.slice x1 n1 e1):=by simp [go_sem]
    have ce4:(wr.alloc (.cells #[.string z,.int .i64 i1,.bool s1,.slice x1 n1 e1,.slice y1 m1 d1,.int .i64 i2,.bool s2,.slice x2 n2 e2,.slice y2 m2 d2,.slice ta tk tc] 61)).cell? ⟨wr.heap.size,4,none⟩=some (.slice y1 m1 d1):=by simp [go_sem]
    have ce5:(wr.alloc (.cells #[.string z,.int .i64 i1,.bool s1,.slice x1 n1 e1,.slice y1 m1 d1,.int .i64 i2,.bool s2,.slice x2 n2 e2,.slice y2 m2 d2,.slice ta tk tc] 61)).cell? ⟨wr.heap.size,5,none⟩=some (.int .i64 i2):=by simp [go_sem]
    have ce6:(wr.alloc (.cells #[.string z,.int .i64 i1,.bool s1,.slice x1 n1 e1,.slice y1 m1 d1,.int .i64 i2,.bool s2,.slice x2 n2 e2,.slice y2 m2 d2,.slice ta tk tc] 61)).cell? ⟨wr.heap.size,6,none⟩=some (.bool s2):=by simp [go_sem]
    have ce7:(wr.alloc (.cells #[.string z,.int .i64 i1,.bool s1,.slice x1 n1 e1,.slice y1 m1 d1,.int .i64 i2,.bool s2,.slice x2 n2 e2,.slice y2 m2 d2,.slice ta tk tc] 61)).cell? ⟨wr.heap.size,7,none⟩=some (.slice x2 n2 e2):=by simp [go_sem]
    have ce8:(wr.alloc (.cells #[.string z,.int .i64 i1,.bool s1,.slice x1 n1 e1,.slice y1 m1 d1,.int .i64 i2,.bool s2,.slice x2 n2 e2,.slice y2 m2 d2,.slice ta tk tc] 61)).cell? ⟨wr.heap.size,8,none⟩=some (.slice y2 m2 d2):=by simp [go_sem]
    have i1':((i:Nat):Int)<((rs.length:Nat):Int):=by omega
    replace p0:=kCb hbt p0;replace j0:=kCb hbt j0
    replace p1:=kCb hbt p1;replace j1:=kCb hbt j1
    replace p2:=kCb hbt p2;replace j2:=kCb hbt j2
    have v1:=kCb hbt ((BP.out.below HB2.out).cell (j:=1) rfl);have RY:=hid ((hr'.below hbt).mono (show _≤KV L by unfold KV;omega));have RA:=hid ((hr3.below hbt).mono (show _≤KV L by unfold KV;(try unfold KA);omega));have RE1:=hid (((E1.below hbw).below hbt).mono (show L≤KV L by unfold KV;omega));have RE2:=hid (((E2.below hbw).below hbt).mono (show L≤KV L by unfold KV;omega))
    have HAT:=hid (rsR_at (xs:=xs) hv hyq);rw [←q1e,←q2e] at HAT;have HB3:=hid (HB2.out.trans (hbt.mono HB2.out.size));clear hr' hr3 E1 E2 hCi hc hRV q1e q2e hbw hv hyq;obtain ⟨rb,hrb⟩:∃t,rsB yq i1 v.lq i2 v.hq (actQ xs v)=t:=⟨_,rfl⟩;rw [hrb] at HAT;have HRBB:=hid hrb;clear hrb;go_upto_region 5 with fail
    clear q0 q1 q2 q3 q4 q5 q6 q7 q8 q9 hbt;generalize wr.heap.size=bx at *;generalize (wr.alloc (.cells #[.string z,.int .i64 i1,.bool s1,.slice x1 n1 e1,.slice y1 m1 d1,.int .i64 i2,.bool s2,.slice x2 n2 e2,.slice y2 m2 d2,.slice ta tk tc] 61))=w5 at *;refine wp_region_phase (S:=(fun w'=>w'.cell? ⟨bx,1,none⟩=some (.int .i64 i1)∧w'.cell? ⟨bx,2,none⟩=some (.bool s1)∧w'.cell? ⟨bx,3,none⟩=some (.slice x1 n1 e1)∧w'.cell? ⟨bx,4,none⟩=some (.slice y1 m1 d1)∧w'.cell? ⟨bx,5,none⟩=some (.int .i64 i2)∧w'.cell? ⟨bx,6,none⟩=some (.bool s2)∧w'.cell? ⟨bx,7,none⟩=some (.slice x2 n2 e2)∧w'.cell? ⟨bx,8,none⟩=some (.slice y2 m2 d2)∧w'.cell? ⟨b',o'+i*3,none⟩=some (.bool ss)∧w'.cell? ⟨b',o'+i*3+1,none⟩=some (.slice sx sn sc)∧w'.cell? ⟨b',o'+i*3+2,none⟩=some (.slice sy sm sd)∧w'.cell? ⟨b3,o3+i*3,none⟩=some (.bool us)∧w'.cell? ⟨b3,o3+i*3+1,none⟩=some (.slice ux un uc)∧w'.cell? ⟨b3,o3+i*3+2,none⟩=some (.slice uy um ud)∧w'.cell? ⟨w.heap.size+1,1,none⟩=some (.slice (some ⟨b',o',none⟩) rs.length c1))) 13 (by kernel_rfl) ⟨kCd ce1,kCd ce2,kCd ce3,kCd ce4,kCd ce5,kCd ce6,kCd ce7,kCd ce8,kCd p0,kCd p1,kCd p2,kCd j0,kCd j1,kCd j2,kCd v1⟩ (fun hHeld=>?_);have hbd:=Below.drew (Below.refl w5.heap.size w5);replace HB3:=hid (HB3.out.trans (hbd.mono HB3.out.size));replace RY:=hid (RY.out.below hbd);replace RA:=hid (RA.out.below hbd);replace RE1:=hid (RE1.out.below hbd);replace RE2:=hid (RE2.out.below hbd)
    clear hbd ce1 ce2 ce3 ce4 ce5 ce6 ce7 ce8 p0 p1 p2 j0 j1 j2 v1;generalize w5.drew=wd at *;refine wpAnyP_skim (i:=0) (v:=?_) rfl (by kernel_rfl) (by kernel_rfl) (by kernel_rfl) (by kernel_rfl) (fun _ _ _ h=>h) (Or.inl ⟨by rfl,?_⟩) (fun _=>by assumption) ?_;rotate_left
    (focus (intro w0 hSw;go_simp <;> with_reducible rfl))
    simp only [List.getElem_toArray,List.getElem_cons_zero,Act.put,List.setIfInBounds_toArray,List.set_cons_zero,List.set_cons_succ];refine wpAnyP_takeA (i:=1) (v:=?_) rfl (by kernel_rfl) (by kernel_rfl) (by kernel_rfl) (by kernel_rfl) (by kernel_rfl) (by kernel_rfl) (fun _ _ _ h=>h) (Or.inl ⟨by rfl,?_⟩) (by assumption) ?_;rotate_left
    (focus (intro w0 hSw;(try dsimp only at hSw);go_simp <;> with_reducible rfl))
    simp only [List.getElem_toArray,List.getElem_cons_succ,List.getElem_cons_zero,Act.put,List.setIfInBounds_toArray,List.set_cons_zero,List.set_cons_succ];refine wpAnyP_skim (i:=2) (v:=?_) rfl (by kernel_rfl) (by kernel_rfl) (by kernel_rfl) (by kernel_rfl) (fun _ _ _ h=>h) (Or.inl ⟨by rfl,?_⟩) (fun _=>by assumption) ?_;rotate_left
    (focus (intro w0 hSw;go_simp <;> with_reducible rfl))
    simp only [List.getElem_toArray,List.getElem_cons_succ,List.getElem_cons_zero,Act.put,List.setIfInBounds_toArray,List.set_cons_zero,List.set_cons_succ];refine wpAnyP_skim (i:=3) (v:=?_) rfl (by kernel_rfl) (by kernel_rfl) (by kernel_rfl) (by kernel_rfl) (fun _ _ _ h=>h) (Or.inl ⟨by rfl,?_⟩) (fun _=>by assumption) ?_;rotate_left
    (focus (intro w0 hSw;go_simp <;> with_reducible rfl))
    simp only [List.getElem_toArray,List.getElem_cons_succ,List.getElem_cons_zero,Act.put,List.setIfInBounds_toArray,List.set_cons_zero,List.set_cons_succ];refine wpAnyP_takeA (i:=4) (v:=?_) rfl (by kernel_rfl) (by kernel_rfl) (by kernel_rfl) (by kernel_rfl) (by kernel_rfl) (by kernel_rfl) (fun _ _ _ h=>h) (Or.inl ⟨by rfl,?_⟩) (by assumption) ?_;rotate_left
    (focus (intro w0 hSw;(try dsimp only at hSw);go_simp <;> with_reducible rfl))
    simp only [List.getElem_toArray,List.getElem_cons_succ,List.getElem_cons_zero,Act.put,List.setIfInBounds_toArray,List.set_cons_zero,List.set_cons_succ];refine wpAnyP_skim (i:=5) (v:=?_) rfl (by kernel_rfl) (by kernel_rfl) (by kernel_rfl) (by kernel_rfl) (fun _ _ _ h=>h) (Or.inl ⟨by rfl,?_⟩) (fun _=>by assumption) ?_;rotate_left
    (focus (intro w0 hSw;go_simp <;> with_reducible rfl))
    simp only [List.getElem_toArray,List.getElem_cons_succ,List.getElem_cons_zero,Act.put,List.setIfInBounds_toArray,List.set_cons_zero,List.set_cons_succ];refine wpAnyP_takeA (i:=6) (v:=?_) rfl (by kernel_rfl) (by kernel_rfl) (by kernel_rfl) (by kernel_rfl) (by kernel_rfl) (by kernel_rfl) (fun _ _ _ h=>h) (Or.inl ⟨by rfl,?_⟩) (by assumption) ?_;rotate_left
    (focus (intro w0 hSw;(try dsimp only at hSw);go_simp <;> with_reducible rfl))
    simp only [List.getElem_toArray,List.getElem_cons_succ,List.getElem_cons_zero,Act.put,List.setIfInBounds_toArray,List.set_cons_zero,List.set_cons_succ];refine wpAnyP_skim (i:=7) (v:=?_) rfl (by kernel_rfl) (by kernel_rfl) (by kernel_rfl) (by kernel_rfl) (fun _ _ _ h=>h) (Or.inl ⟨by rfl,?_⟩) (fun _=>by assumption) ?_;rotate_left
    (focus (intro w0 hSw;go_simp <;> with_reducible rfl))
    simp only [List.getElem_toArray,List.getElem_cons_succ,List.getElem_cons_zero,Act.put,List.setIfInBounds_toArray,List.set_cons_zero,List.set_cons_succ];refine wpAnyP_takeA (i:=8) (v:=?_) rfl (by kernel_rfl) (by kernel_rfl) (by kernel_rfl) (by kernel_rfl) (by kernel_rfl) (by kernel_rfl) (fun _ _ _ h=>h) (Or.inl ⟨by rfl,?_⟩) (by assumption) ?_;rotate_left
    (focus (intro w0 hSw;(try dsimp only at hSw);go_simp <;> with_reducible rfl))
    simp only [List.getElem_toArray,List.getElem_cons_succ,List.getElem_cons_zero,Act.put,List.setIfInBounds_toArray,List.set_cons_zero,List.set_cons_succ];refine wpAnyP_skim (i:=9) (v:=?_) rfl (by kernel_rfl) (by kernel_rfl) (by kernel_rfl) (by kernel_rfl) (fun _ _ _ h=>h) (Or.inl ⟨by rfl,?_⟩) (fun _=>by assumption) ?_;rotate_left
    (focus (intro w0 hSw;go_simp <;> with_reducible rfl))
    simp only [List.getElem_toArray,List.getElem_cons_succ,List.getElem_cons_zero,Act.put,List.setIfInBounds_toArray,List.set_cons_zero,List.set_cons_succ];refine wpAnyP_skim (i:=10) (v:=?_) rfl (by kernel_rfl) (by kernel_rfl) (by kernel_rfl) (by kernel_rfl) (fun _ _ _ h=>h) (Or.inl ⟨by rfl,?_⟩) (fun _=>by assumption) ?_;rotate_left
    (focus (intro w0 hSw;go_simp <;> with_reducible rfl))
    simp only [List.getElem_toArray,List.getElem_cons_succ,List.getElem_cons_zero,Act.put,List.setIfInBounds_toArray,List.set_cons_zero,List.set_cons_succ];refine wpAnyP_skim (i:=11) (v:=?_) rfl (by kernel_rfl) (by kernel_rfl) (by kernel_rfl) (by kernel_rfl) (fun _ _ _ h=>h) (Or.inl ⟨by rfl,?_⟩) (fun _=>by assumption) ?_;rotate_left
    (focus (intro w0 hSw;go_simp <;> with_reducible rfl))
    simp only [List.getElem_toArray,List.getElem_cons_succ,List.getElem_cons_zero,Act.put,List.setIfInBounds_toArray,List.set_cons_zero,List.set_cons_succ];refine wpAnyP_takeA (i:=12) (v:=?_) rfl (by kernel_rfl) (by kernel_rfl) (by kernel_rfl) (by kernel_rfl) (by kernel_rfl) (by kernel_rfl) (fun _ _ _ h=>h) (Or.inl ⟨by rfl,?_⟩) (by assumption) ?_;rotate_left
    (focus (intro w0 hSw;(try dsimp only at hSw);go_simp <;> with_reducible rfl))
    simp only [List.getElem_toArray,List.getElem_cons_succ,List.getElem_cons_zero,Act.put,List.setIfInBounds_toArray,List.set_cons_zero,List.set_cons_succ];refine wpAnyP_ready (rs:=[13]) (by kernel_rfl) (by simp) ?_;refine AllReadyP.cons (o:=_) rfl (fun K hK=>?_) ?_;rotate_left;exact AllReadyP.nil;go_simp
    go_at_call 55
    refine (dRests_v (L:=KV L) RY.out RE1.out RE2.out RA.out (by unfold KV;omega)).mono ?_;rintro e w6 ⟨rfl,hb6⟩;rw [HRBB.out]
    (try go_wp2_with fail)
    have HB6:=hid (HB3.out.trans (hb6.mono HB3.out.size));clear hb6 RY RA RE1 RE2 HRBB hHeld HB3;refine hK.out _ _ (fun h=>by cases h) (fun _=>?_);clear hK K;try simp only [Act.put,List.setIfInBounds_toArray,List.set_cons_zero,List.set_cons_succ]
    refine wpAnyP_skim (i:=14) (v:=?_) rfl (by kernel_rfl) (by kernel_rfl) (by kernel_rfl) (by kernel_rfl) (fun _ _ _ h=>h) (Or.inl ⟨by rfl,?_⟩) (fun h=>by cases h) ?_;rotate_left
    (focus (intro w0 hSw;go_simp <;> with_reducible rfl))
    simp only [List.getElem_toArray,List.getElem_cons_succ,List.getElem_cons_zero,Act.put,List.setIfInBounds_toArray,List.set_cons_zero,List.set_cons_succ];refine wpAnyP_done (by kernel_rfl) ?_ _;cases rb
    ·go_wp2;go_ret;exact ⟨by rw [show arB cs rs xs ys zs=false by unfold arB;rw [all_no HAT.out];rfl];rfl,HB.out.trans (HB6.out.mono HB.out.size)⟩
    ·have HN:=hid (all_on HAT.out HO.out);go_wp2;go_roundw
     case rel=>exact ⟨i+1,by omega,by go_num,HB6.out,HN.out⟩
     case measure=>simp [intOf];omega
   ·have e1:i=rs.length:=by omega
    have i4':¬(((i:Nat):Int)<((rs.length:Nat):Int)):=by omega
    have HO1:=HO.out;rw [List.take_of_length_le (by unfold rsR;rw [List.length_zipWith];omega)] at HO1;replace HO1:=hid HO1;replace HB:=hid (HB.out.trans (HB2.out.mono HB.out.size));replace BM:=hid (BM.out.below HB2.out);replace BP:=hid (BP.out.below HB2.out);replace HA:=hid (HA.out.below HB2.out)
    have r3:=BM.out.cell (j:=3) rfl;clear HO HB2 e1;go_wp2_with fail
    clear r3;generalize wr=w3 at *;go_loopw [45] (fun t wz=>∃(i:Nat),i≤cs.length∧t=.int .i64 i∧Hid (Below w3.heap.size w3 wz)∧Hid (((rsC cs zs xs).take i).all id=true)) (fun t _=>cs.length-(intOf t).toNat)
    case atStart=>exact ⟨0,by omega,rfl,Below.refl _ _,rfl⟩
    case round =>
     obtain ⟨i,hi,rfl,HB2,HO⟩:=hrel;by_cases hlt:i<cs.length
     ·obtain ⟨v,hv⟩:∃t,cs[i]?=some t:=⟨_,List.getElem?_eq_getElem (by omega)⟩;obtain ⟨yq,hyq⟩:∃t,zs[i]?=some t:=⟨_,List.getElem?_eq_getElem (by have:=HZL.out;omega)⟩;obtain ⟨aq,haq⟩:∃t,xs[i]?=some t:=⟨_,List.getElem?_eq_getElem (by have:=HXL.out;omega)⟩;have hbw:=HB.out.trans (HB2.out.mono HB.out.size);obtain ⟨⟨b,o,hra,hc⟩,hRV⟩:=HC.out i v hv;subst hra;obtain ⟨⟨z,⟨s0,x0,n0,e0,f0,y0,m0,d0,g0⟩,⟨i1,⟨s1,x1,n1,e1,f1,y1,m1,d1,g1⟩⟩,⟨i2,⟨s2,x2,n2,e2,f2,y2,m2,d2,g2⟩⟩⟩,hCi⟩:∃t,C i=t:=⟨_,rfl⟩;rw [hCi] at hc hRV;have q1e:i1=v.li:=hRV.li;have q2e:i2=v.hi:=hRV.hi
      have E1:Rn L w s1 x1 n1 e1 f1 y1 m1 d1 g1 v.lq:=hRV.lq;have E2:Rn L w s2 x2 n2 e2 f2 y2 m2 d2 g2 v.hq:=hRV.hq
      replace hc:=Cs.below hc hbw;have q0:wr.cell? ⟨b,o+i*12,none⟩=some (.string z):=hc 0 _ rfl;have q1:wr.cell? ⟨b,o+i*12+1,none⟩=some (.bool s0):=hc 1 _ rfl;have q2:wr.cell? ⟨b,o+i*12+2,none⟩=some (.slice x0 n0 e0):=hc 2 _ rfl;have q3:wr.cell? ⟨b,o+i*12+3,none⟩=some (.slice y0 m0 d0):=hc 3 _ rfl;have q4:wr.cell? ⟨b,o+i*12+4,none⟩=some (.int .i64 i1):=hc 4 _ rfl;have q5:wr.cell? ⟨b,o+i*12+5,none⟩=some (.bool s1):=hc 5 _ rfl;have q6:wr.cell? ⟨b,o+i*12+6,none⟩=some (.slice x1 n1 e1):=hc 6 _ rfl;have q7:wr.cell? ⟨b,o+i*12+7,none⟩=some (.slice y1 m1 d1):=hc 7 _ rfl;have q8:wr.cell? ⟨b,o+i*12+8,none⟩=some (.int .i64 i2):=hc 8 _ rfl;have q9:wr.cell? ⟨b,o+i*12+9,none⟩=some (.bool s2):=hc 9 _ rfl;have q10:wr.cell? ⟨b,o+i*12+10,none⟩=some (.slice x2 n2 e2):=hc 10 _ rfl;have q11:wr.cell? ⟨b,o+i*12+11,none⟩=some (.slice y2 m2 d2):=hc 11 _ rfl;obtain ⟨b',o',⟨ss,sx,sn,sc,sf,sy,sm,sd,sg⟩,hax,⟨p0,p1,p2⟩,hr'⟩:=(HZ.out.below hbw) i yq hyq;subst hax;replace p0:wr.cell? ⟨b',o'+i*3,none⟩=some (.bool ss):=p0;replace p1:wr.cell? ⟨b',o'+i*3+1,none⟩=some (.slice sx sn sc):=p1;replace p2:wr.cell? ⟨b',o'+i*3+2,none⟩=some (.slice sy sm sd):=p2;replace hr':Rn (KV L) wr ss sx sn sc sf sy sm sd sg yq:=hr';obtain ⟨b3,o3,⟨us,ux,un,uc,uf,uy,um,ud,ug⟩,hax,⟨w0,w1',w2'⟩,hr3⟩:=(HX.out.below hbw) i aq haq;subst hax;have j0:wr.cell? ⟨b3,o3+i*3,none⟩=some (.bool us):=w0;have j1:wr.cell? ⟨b3,o3+i*3+1,none⟩=some (.slice ux un uc):=w1';have j2:wr.cell? ⟨b3,o3+i*3+2,none⟩=some (.slice uy um ud):=w2';replace hr3:Rn L wr us ux un uc uf uy um ud ug aq:=hr3;clear w0 w1' w2';have hbt:=below_alloc (Below.refl wr.heap.size wr) (.cells #[.string z,.bool s0,.slice x0 n0 e0,.slice y0 m0 d0,.int .i64 i1,.bool s1,.slice x1 n1 e1,.slice y1 m1 d1,.int .i64 i2,.bool s2,.slice x2 n2 e2,.slice y2 m2 d2] 58);have ce4:(wr.alloc (.cells #[.string z,.bool s0,.slice x0 n0 e0,.slice y0 m0 d0,.int .i64 i1,.bool s1,.slice x1 n1 e1,.slice y1 m1 d1,.int .i64 i2,.bool s2,.slice x2 n2 e2,.slice y2 m2 d2] 58)).cell? ⟨wr.heap.size,4,none⟩=some (.int .i64 i1):=by simp [go_sem]
      have ce5:(wr.alloc (.cells #[.string z,.bool s0,.slice x0 n0 e0,.slice y0 m0 d0,.int .i64 i1,.bool s1,.slice x1 n1 e1,.slice y1 m1 d1,.int .i64 i2,.bool s2,.slice x2 n2 e2,.slice y2 m2 d2] 58)).cell? ⟨wr.heap.size,5,none⟩=some (.bool s1):=by simp [go_sem]
      have ce6:(wr.alloc (.cells #[.string z,.bool s0,.slice x0 n0 e0,.slice y0 m0 d0,.int .i64 i1,.bool s1,.slice x1 n1 e1,.slice y1 m1 d1,.int .i64 i2,.bool s2,.slice x2 n2 e2,.slice y2 m2 d2] 58)).cell? ⟨wr.heap.size,6,none⟩=some (.slice x1 n1 e1):=by simp [go_sem]
      have ce7:(wr.alloc (.cells #[.string z,.bool s0,.slice x0 n0 e0,.slice y0 m0 d0,.int .i64 i1,.bool s1,.slice x1 n1 e1,.slice y1 m1 d1,.int .i64 i2,.bool s2,.slice x2 n2 e2,.slice y2 m2 d2] 58)).cell? ⟨wr.heap.size,7,none⟩=some (.slice y1 m1 d1):=by simp [go_sem]
      have ce8:(wr.alloc (.cells #[.string z,.bool s0,.slice x0 n0 e0,.slice y0 m0 d0,.int .i64 i1,.bool s1,.slice x1 n1 e1,.slice y1 m1 d1,.int .i64 i2,.bool s2,.slice x2 n2 e2,.slice y2 m2 d2] 58)).cell? ⟨wr.heap.size,8,none⟩=some (.int .i64 i2):=by simp [go_sem]
      have ce9:(wr.alloc (.cells #[.string z,.bool s0,.slice x0 n0 e0,.slice y0 m0 d0,.int .i64 i1,.bool s1,.slice x1 n1 e1,.slice y1 m1 d1,.int .i64 i2,.bool s2,.slice x2 n2 e2,.slice y2 m2 d2] 58)).cell? ⟨wr.heap.size,9,none⟩=some (.bool s2):=by simp [go_sem]
      have ce10:(wr.alloc (.cells #[.string z,.bool s0,.slice x0 n0 e0,.slice y0 m0 d0,.int .i64 i1,.bool s1,.slice x1 n1 e1,.slice y1 m1 d1,.int .i64 i2,.bool s2,.slice x2 n2 e2,.slice y2 m2 d2] 58)).cell? ⟨wr.heap.size,10,none⟩=some (.slice x2 n2 e2):=by simp [go_sem]
      have ce11:(wr.alloc (.cells #[.string z,.bool s0,.slice x0 n0 e0,.slice y0 m0 d0,.int .i64 i1,.bool s1,.slice x1 n1 e1,.slice y1 m1 d1,.int .i64 i2,.bool s2,.slice x2 n2 e2,.slice y2 m2 d2] 58)).cell? ⟨wr.heap.size,11,none⟩=some (.slice y2 m2 d2):=by simp [go_sem]
      have i1':((i:Nat):Int)<((cs.length:Nat):Int):=by omega
      replace p0:=kCb hbt p0;replace j0:=kCb hbt j0
      replace p1:=kCb hbt p1;replace j1:=kCb hbt j1
      replace p2:=kCb hbt p2;replace j2:=kCb hbt j2
      have v2:=kCb hbt ((BP.out.below HB2.out).cell (j:=2) rfl);have v0:=kCb hbt ((BP.out.below HB2.out).cell (j:=0) rfl);have RY:=hid ((hr'.below hbt).mono (show _≤KV L by unfold KV;omega));have RA:=hid ((hr3.below hbt).mono (show _≤KV L by unfold KV;(try unfold KA);omega));have RE1:=hid (((E1.below hbw).below hbt).mono (show L≤KV L by unfold KV;omega));have RE2:=hid (((E2.below hbw).below hbt).mono (show L≤KV L by unfold KV;omega))
      have HAT:=hid (rsC_at hv hyq haq);rw [←q1e,←q2e] at HAT;have HB3:=hid (HB2.out.trans (hbt.mono HB2.out.size));clear hr' hr3 E1 E2 hCi hc hRV q1e q2e hbw hv hyq haq;obtain ⟨rb,hrb⟩:∃t,rsB yq i1 v.lq i2 v.hq aq=t:=⟨_,rfl⟩;rw [hrb] at HAT;have HRBB:=hid hrb;clear hrb;go_upto_region 11 with fail
      clear q0 q1 q2 q3 q4 q5 q6 q7 q8 q9 q10 q11 hbt;generalize wr.heap.size=bx at *;generalize (wr.alloc (.cells #[.string z,.bool s0,.slice x0 n0 e0,.slice y0 m0 d0,.int .i64 i1,.bool s1,.slice x1 n1 e1,.slice y1 m1 d1,.int .i64 i2,.bool s2,.slice x2 n2 e2,.slice y2 m2 d2] 58))=w5 at *;refine wp_region_phase (S:=(fun w'=>w'.cell? ⟨bx,4,none⟩=some (.int .i64 i1)∧w'.cell? ⟨bx,5,none⟩=some (.bool s1)∧w'.cell? ⟨bx,6,none⟩=some (.slice x1 n1 e1)∧w'.cell? ⟨bx,7,none⟩=some (.slice y1 m1 d1)∧w'.cell? ⟨bx,8,none⟩=some (.int .i64 i2)∧w'.cell? ⟨bx,9,none⟩=some (.bool s2)∧w'.cell? ⟨bx,10,none⟩=some (.slice x2 n2 e2)∧w'.cell? ⟨bx,11,none⟩=some (.slice y2 m2 d2)∧w'.cell? ⟨b',o'+i*3,none⟩=some (.bool ss)∧w'.cell? ⟨b',o'+i*3+1,none⟩=some (.slice sx sn sc)∧w'.cell? ⟨b',o'+i*3+2,none⟩=some (.slice sy sm sd)∧w'.cell? ⟨b3,o3+i*3,none⟩=some (.bool us)∧w'.cell? ⟨b3,o3+i*3+1,none⟩=some (.slice ux un uc)∧w'.cell? ⟨b3,o3+i*3+2,none⟩=some (.slice uy um ud)∧w'.cell? ⟨w.heap.size+1,2,none⟩=some (.slice (some ⟨b',o',none⟩) cs.length c2)∧w'.cell? ⟨w.heap.size+1,0,none⟩=some (.slice (some ⟨b3,o3,none⟩) cs.length c0))) 14 (by kernel_rfl) ⟨kCd ce4,kCd ce5,kCd ce6,kCd ce7,kCd ce8,kCd ce9,kCd ce10,kCd ce11,kCd p0,kCd p1,kCd p2,kCd j0,kCd j1,kCd j2,kCd v2,kCd v0⟩ (fun hHeld=>?_);have hbd:=Below.drew (Below.refl w5.heap.size w5);replace HB3:=hid (HB3.out.trans (hbd.mono HB3.out.size));replace RY:=hid (RY.out.below hbd);replace RA:=hid (RA.out.below hbd);replace RE1:=hid (RE1.out.below hbd);replace RE2:=hid (RE2.out.below hbd)
      clear hbd ce4 ce5 ce6 ce7 ce8 ce9 ce10 ce11 p0 p1 p2 j0 j1 j2 v2 v0;generalize w5.drew=wd at *;refine wpAnyP_skim (i:=0) (v:=?_) rfl (by kernel_rfl) (by kernel_rfl) (by kernel_rfl) (by kernel_rfl) (fun _ _ _ h=>h) (Or.inl ⟨by rfl,?_⟩) (fun _=>by assumption) ?_;rotate_left
      (focus (intro w0 hSw;go_simp <;> with_reducible rfl))
      simp only [List.getElem_toArray,List.getElem_cons_zero,Act.put,List.setIfInBounds_toArray,List.set_cons_zero,List.set_cons_succ];refine wpAnyP_takeA (i:=1) (v:=?_) rfl (by kernel_rfl) (by kernel_rfl) (by kernel_rfl) (by kernel_rfl) (by kernel_rfl) (by kernel_rfl) (fun _ _ _ h=>h) (Or.inl ⟨by rfl,?_⟩) (by assumption) ?_;rotate_left
      (focus (intro w0 hSw;(try dsimp only at hSw);go_simp <;> with_reducible rfl))
      simp only [List.getElem_toArray,List.getElem_cons_succ,List.getElem_cons_zero,Act.put,List.setIfInBounds_toArray,List.set_cons_zero,List.set_cons_succ];refine wpAnyP_skim (i:=2) (v:=?_) rfl (by kernel_rfl) (by kernel_rfl) (by kernel_rfl) (by kernel_rfl) (fun _ _ _ h=>h) (Or.inl ⟨by rfl,?_⟩) (fun _=>by assumption) ?_;rotate_left
      (focus (intro w0 hSw;go_simp <;> with_reducible rfl))
      simp only [List.getElem_toArray,List.getElem_cons_succ,List.getElem_cons_zero,Act.put,List.setIfInBounds_toArray,List.set_cons_zero,List.set_cons_succ];refine wpAnyP_skim (i:=3) (v:=?_) rfl (by kernel_rfl) (by kernel_rfl) (by kernel_rfl) (by kernel_rfl) (fun _ _ _ h=>h) (Or.inl ⟨by rfl,?_⟩) (fun _=>by assumption) ?_;rotate_left
      (focus (intro w0 hSw;go_simp <;> with_reducible rfl))
      simp only [List.getElem_toArray,List.getElem_cons_succ,List.getElem_cons_zero,Act.put,List.setIfInBounds_toArray,List.set_cons_zero,List.set_cons_succ];refine wpAnyP_takeA (i:=4) (v:=?_) rfl (by kernel_rfl) (by kernel_rfl) (by kernel_rfl) (by kernel_rfl) (by kernel_rfl) (by kernel_rfl) (fun _ _ _ h=>h) (Or.inl ⟨by rfl,?_⟩) (by assumption) ?_;rotate_left
      (focus (intro w0 hSw;(try dsimp only at hSw);go_simp <;> with_reducible rfl))
      simp only [List.getElem_toArray,List.getElem_cons_succ,List.getElem_cons_zero,Act.put,List.setIfInBounds_toArray,List.set_cons_zero,List.set_cons_succ];refine wpAnyP_skim (i:=5) (v:=?_) rfl (by kernel_rfl) (by kernel_rfl) (by kernel_rfl) (by kernel_rfl) (fun _ _ _ h=>h) (Or.inl ⟨by rfl,?_⟩) (fun _=>by assumption) ?_;rotate_left
      (focus (intro w0 hSw;go_simp <;> with_reducible rfl))
      simp only [List.getElem_toArray,List.getElem_cons_succ,List.getElem_cons_zero,Act.put,List.setIfInBounds_toArray,List.set_cons_zero,List.set_cons_succ];refine wpAnyP_takeA (i:=6) (v:=?_) rfl (by kernel_rfl) (by kernel_rfl) (by kernel_rfl) (by kernel_rfl) (by kernel_rfl) (by kernel_rfl) (fun _ _ _ h=>h) (Or.inl ⟨by rfl,?_⟩) (by assumption) ?_;rotate_left
      (focus (intro w0 hSw;(try dsimp only at hSw);go_simp <;> with_reducible rfl))
      simp only [List.getElem_toArray,List.getElem_cons_succ,List.getElem_cons_zero,Act.put,List.setIfInBounds_toArray,List.set_cons_zero,List.set_cons_succ];refine wpAnyP_skim (i:=7) (v:=?_) rfl (by kernel_rfl) (by kernel_rfl) (by kernel_rfl) (by kernel_rfl) (fun _ _ _ h=>h) (Or.inl ⟨by rfl,?_⟩) (fun _=>by assumption) ?_;rotate_left
      (focus (intro w0 hSw;go_simp <;> with_reducible rfl))
      simp only [List.getElem_toArray,List.getElem_cons_succ,List.getElem_cons_zero,Act.put,List.setIfInBounds_toArray,List.set_cons_zero,List.set_cons_succ];refine wpAnyP_takeA (i:=8) (v:=?_) rfl (by kernel_rfl) (by kernel_rfl) (by kernel_rfl) (by kernel_rfl) (by kernel_rfl) (by kernel_rfl) (fun _ _ _ h=>h) (Or.inl ⟨by rfl,?_⟩) (by assumption) ?_;rotate_left
      (focus (intro w0 hSw;(try dsimp only at hSw);go_simp <;> with_reducible rfl))
      simp only [List.getElem_toArray,List.getElem_cons_succ,List.getElem_cons_zero,Act.put,List.setIfInBounds_toArray,List.set_cons_zero,List.set_cons_succ];refine wpAnyP_skim (i:=9) (v:=?_) rfl (by kernel_rfl) (by kernel_rfl) (by kernel_rfl) (by kernel_rfl) (fun _ _ _ h=>h) (Or.inl ⟨by rfl,?_⟩) (fun _=>by assumption) ?_;rotate_left
      (focus (intro w0 hSw;go_simp <;> with_reducible rfl))
      simp only [List.getElem_toArray,List.getElem_cons_succ,List.getElem_cons_zero,Act.put,List.setIfInBounds_toArray,List.set_cons_zero,List.set_cons_succ];refine wpAnyP_takeA (i:=10) (v:=?_) rfl (by kernel_rfl) (by kernel_rfl) (by kernel_rfl) (by kernel_rfl) (by kernel_rfl) (by kernel_rfl) (fun _ _ _ h=>h) (Or.inl ⟨by rfl,?_⟩) (by assumption) ?_;rotate_left
      (focus (intro w0 hSw;(try dsimp only at hSw);go_simp <;> with_reducible rfl))
      simp only [List.getElem_toArray,List.getElem_cons_succ,List.getElem_cons_zero,Act.put,List.setIfInBounds_toArray,List.set_cons_zero,List.set_cons_succ];refine wpAnyP_skim (i:=11) (v:=?_) rfl (by kernel_rfl) (by kernel_rfl) (by kernel_rfl) (by kernel_rfl) (fun _ _ _ h=>h) (Or.inl ⟨by rfl,?_⟩) (fun _=>by assumption) ?_;rotate_left
      (focus (intro w0 hSw;go_simp <;> with_reducible rfl))
      simp only [List.getElem_toArray,List.getElem_cons_succ,List.getElem_cons_zero,Act.put,List.setIfInBounds_toArray,List.set_cons_zero,List.set_cons_succ];refine wpAnyP_skim (i:=12) (v:=?_) rfl (by kernel_rfl) (by kernel_rfl) (by kernel_rfl) (by kernel_rfl) (fun _ _ _ h=>h) (Or.inl ⟨by rfl,?_⟩) (fun _=>by assumption) ?_;rotate_left
      (focus (intro w0 hSw;go_simp <;> with_reducible rfl))
      simp only [List.getElem_toArray,List.getElem_cons_succ,List.getElem_cons_zero,Act.put,List.setIfInBounds_toArray,List.set_cons_zero,List.set_cons_succ];refine wpAnyP_takeA (i:=13) (v:=?_) rfl (by kernel_rfl) (by kernel_rfl) (by kernel_rfl) (by kernel_rfl) (by kernel_rfl) (by kernel_rfl) (fun _ _ _ h=>h) (Or.inl ⟨by rfl,?_⟩) (by assumption) ?_;rotate_left
      (focus (intro w0 hSw;(try dsimp only at hSw);go_simp <;> with_reducible rfl))
      simp only [List.getElem_toArray,List.getElem_cons_succ,List.getElem_cons_zero,Act.put,List.setIfInBounds_toArray,List.set_cons_zero,List.set_cons_succ];refine wpAnyP_ready (rs:=[14]) (by kernel_rfl) (by simp) ?_;refine AllReadyP.cons (o:=_) rfl (fun K hK=>?_) ?_;rotate_left;exact AllReadyP.nil;go_simp
      go_at_call 55
      refine (dRests_v (L:=KV L) RY.out RE1.out RE2.out RA.out (by unfold KV;omega)).mono ?_;rintro e w6 ⟨rfl,hb6⟩;rw [HRBB.out]
      (try go_wp2_with fail)
      have HB6:=hid (HB3.out.trans (hb6.mono HB3.out.size));clear hb6 RY RA RE1 RE2 HRBB hHeld HB3;refine hK.out _ _ (fun h=>by cases h) (fun _=>?_);clear hK K;try simp only [Act.put,List.setIfInBounds_toArray,List.set_cons_zero,List.set_cons_succ]
      refine wpAnyP_skim (i:=15) (v:=?_) rfl (by kernel_rfl) (by kernel_rfl) (by kernel_rfl) (by kernel_rfl) (fun _ _ _ h=>h) (Or.inl ⟨by rfl,?_⟩) (fun h=>by cases h) ?_;rotate_left
      (focus (intro w0 hSw;go_simp <;> with_reducible rfl))
      simp only [List.getElem_toArray,List.getElem_cons_succ,List.getElem_cons_zero,Act.put,List.setIfInBounds_toArray,List.set_cons_zero,List.set_cons_succ];refine wpAnyP_done (by kernel_rfl) ?_ _;cases rb
      ·go_wp2;go_ret;exact ⟨by rw [show arB cs rs xs ys zs=false by unfold arB;rw [all_no HAT.out];exact Bool.and_false _];rfl,HB.out.trans (HB6.out.mono HB.out.size)⟩
      ·have HN:=hid (all_on HAT.out HO.out);go_wp2;go_roundw
       case rel=>exact ⟨i+1,by omega,by go_num,HB6.out,HN.out⟩
       case measure=>simp [intOf];omega
     ·have e1:i=cs.length:=by omega
      have i4':¬(((i:Nat):Int)<((cs.length:Nat):Int)):=by omega
      have HO2:=HO.out;rw [List.take_of_length_le (by unfold rsC;rw [List.length_zipWith];omega)] at HO2;have HF:Hid (arB cs rs xs ys zs=true):=by show _=_;unfold arB;rw [HO1.out,HO2];rfl
      clear HO HO2 e1;go_wp2;go_ret;exact ⟨by rw [HF.out];rfl,HB.out.trans (HB2.out.mono HB.out.size)⟩
theorem pckE_ok {M:Mo} {k:Nat} {X:Nat→Nm} (h1:chkE M=0) (h2:afB k X=true) (h3:k=M.ck):pckE M k X=0:=by
 unfold pckE;rw [h1,show pnE k X M.ck=0 by unfold pnE;rw [if_pos h2,if_pos (by rw [h3])]];rfl
theorem rSameEq_c {L L' w sa xa na ca fa ya ma da ga sb xb nb cb fb yb mb db gb q} (ha:Rn L w sa xa na ca fa ya ma da ga q) (hb:Rn L' w sb xb nb cb fb yb mb db gb q) (h1:L≤1048576) (h2:L'≤1048576) :
  Calls Tryz.prog 19 #[.agg #[.bool sa,.slice xa na ca,.slice ya ma da],.agg #[.bool sb,.slice xb nb cb,.slice yb mb db]] w fun e w'=>e=.returned (.bool true)∧Below w.heap.size w w':=by
 have l1:=ha.ln;have l2:=ha.ld;have l3:=hb.ln;have l4:=hb.ld
 refine (rSame_c sa xa ya na ca ma da fa ga sb xb yb nb cb mb db fb gb w ha.num.rd ha.den.rd hb.num.rd hb.den.rd (by omega) (by omega) (by omega) (by omega)).mono ?_;rintro e w' ⟨c,rfl,h3,h4⟩;refine ⟨?_,h3⟩;rw [h4.2 ((ha.inj hb).2 rfl)]
end Go.Proofs.YtankbgpcnljjdaaGreat
