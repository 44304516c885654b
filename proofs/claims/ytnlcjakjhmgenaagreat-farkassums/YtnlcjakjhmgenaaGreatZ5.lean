/-
 Walks.
-/
import Derived.Test.YtnlcjakjhmgenaaGreatZ4
import Derived.Deep.CutRange
import Derived.ProofKit
import Derived.OpenShut
import Derived.ChangeSame
import Derived.Deep.Slices
import Derived.SizedLaws
import Derived.Test.YtnlcjakjhmgenaaGreatRows
import Derived.Test.YtnlcjakjhmgenaaGreatChecked
import Derived.Deep.DeepHandedRow
import Derived.Test.YtnlcjakjhmgenaaGreatZ3
import Derived.Test.YtnlcjakjhmgenaaGreatZ2
import Derived.BigQuiet
import Derived.Deep.RegionHeld3
import Derived.BigRegion
set_option maxRecDepth 100000
set_option maxHeartbeats 16000000
namespace Go.Proofs.YtnlcjakjhmgenaaGreat
open Value (slice agg)
open Obj (cells)
open Nat (le_refl le_trans zero_add)
open World (cell?_of_block)
open List (getElem?_eq_getElem)
open Go.Proofs.Tryz
open Go.RowKit
def zat (B:Nat->Bool):Nat->Bool
 | 0=>false
 | i+1=>zat B i || B i
def ev (b3 b5 b6 b7:Bool):Int:=if b3 then 3 else if b5 then 5 else if b6 then 6 else if b7 then 7 else 0
def lsl (L:List Int):Int:=L.foldl lstep 0
theorem zkj (L:List Int) (x:Int):lsl (L++[x])=lstep (lsl L) x:=by simp[lsl]
theorem ev3 (a b c d:Bool):lstep (ev a b c d) 3=ev true b c d:=by cases a <;> cases b <;> cases c <;> cases d <;> rfl
theorem ev5 (a b c d:Bool):lstep (ev a b c d) 5=ev a true c d:=by cases a <;> cases b <;> cases c <;> cases d <;> rfl
theorem ev6 (a b c d:Bool):lstep (ev a b c d) 6=ev a b true d:=by cases a <;> cases b <;> cases c <;> cases d <;> rfl
theorem ev7 (a b c d:Bool):lstep (ev a b c d) 7=ev a b c true:=by cases a <;> cases b <;> cases c <;> cases d <;> rfl
theorem zij (L:List Int):∀n,n<=L.length->lsf (λj=>L.getD j 0) n=lsl (L.take n)
 | 0,_=>rfl
 | n+1,h=>by
  have e:L[n]?=some L[n]:=getElem?_eq_getElem (by omega);rw[List.take_add_one,e,Option.toList_some,zkj,<-zij L n (by omega)];show lstep _ (L.getD n 0)=_;rw[List.getD_eq_getElem?_getD,e];rfl
theorem zpn (L:List Int):lsf (λj=>L.getD j 0) L.length=lsl L:=by
 rw[zij L _ (le_refl _),List.take_length]
theorem zsc {w ao L} (h:Il w ao L):El w ao L.length (λj=>L.getD j 0):=λj hj=>by
 obtain⟨b,o,e,h1⟩:=h j L[j] (getElem?_eq_getElem hj);refine⟨b,o,e,?_⟩;rw[h1];show _=some (Value.int .i64 (L.getD j 0));rw[List.getD_eq_getElem?_getD,getElem?_eq_getElem hj];rfl
def DL (w0 wr:World) (v:Value) (L:List Int) (k:Nat) (e:Int):Prop:=Bl w0 wr/\RowG 3 1 w0.heap.size wr v L.length (ils L)/\L.length<=k/\lsl L=e
theorem DL.q_ {w0 wr v L k e w'} (h:DL w0 wr v L k e) (hb:Bl wr w'):DL w0 w' v L k e:=⟨h.1.trans (hb.mono h.1.size),h.2.1.q_ hb,h.2.2⟩
theorem DL.mono {w0 wr v L k k' e e'} (h:DL w0 wr v L k e) (hk:k<=k') (he:e=e'):DL w0 wr v L k' e':=⟨h.1,h.2.1,le_trans h.2.2.1 hk,h.2.2.2.trans he⟩
theorem DL.app {w0 wr v L k e w8 g8 cap8 x} (h:DL w0 wr v L k e) (hr:RowG 3 1 w0.heap.size w8 (slice (some ⟨g8,0,none⟩) (L.length+1) cap8) (L.length+1) (ils L++#[Value.int .i64 x].toList)) (hb:∀b0:World,Bl b0 wr->b0.heap.size<=w0.heap.size->Bl b0 w8):DL w0 w8 (slice (some ⟨g8,0,none⟩) (L.length+1) cap8) (L++[x]) (k+1) (lstep e x) :=
 ⟨hb w0 h.1 (le_refl _),by rw[List.length_append,List.length_singleton];simpa[ils]using hr,by rw[List.length_append,List.length_singleton];have:=h.2.2.1;omega,by rw[zkj,h.2.2.2]⟩
def DX (w0 wr:World) (v:Value) (L:List Int) (k:Nat) (e:Int) (bx:Nat) (vs:List Value) (t:TypeId):Prop:=DL w0 wr v L k e/\Bk wr bx vs t/\v.ownBlock≠some bx
theorem DX.q_ {w0 wr v L k e bx vs t w'} (h:DX w0 wr v L k e bx vs t) (hb:Bl wr w'):DX w0 w' v L k e bx vs t:=⟨h.1.q_ hb,h.2.1.q_ hb,h.2.2⟩
theorem DX.mono {w0 wr v L k k' e e' bx vs t} (h:DX w0 wr v L k e bx vs t) (hk:k<=k') (he:e=e'):DX w0 wr v L k' e' bx vs t:=⟨h.1.mono hk he,h.2⟩
theorem DX.app {w0 wr v L k e bx vs t w8 g8 cap8 x} (h:DX w0 wr v L k e bx vs t) (hr:RowG 3 1 w0.heap.size w8 (slice (some ⟨g8,0,none⟩) (L.length+1) cap8) (L.length+1) (ils L++#[Value.int .i64 x].toList)) (hb:∀b0:World,Bl b0 wr->b0.heap.size<=w0.heap.size->Bl b0 w8) (hg:∀k,k<wr.heap.size->v.ownBlock≠some k->w8.heap[k]?=wr.heap[k]?) (hl:v.ownBlock=some g8∨wr.heap.size<=g8):DX w0 w8 (slice (some ⟨g8,0,none⟩) (L.length+1) cap8) (L++[x]) (k+1) (lstep e x) bx vs t :=
 ⟨h.1.app hr hb,(hg bx h.2.1.lt h.2.2).trans h.2.1,λe=>by
  have e2:g8=bx:=by simpa[Value.ownBlock]using e
  rcases hl with h1|h1
  ·exact h.2.2 (e2 ▸ h1)
  ·have:=h.2.1.lt;omega⟩
theorem DL.dx {w0 wr v L k e} (h:DL w0 wr v L k e) (vs:List Value) (t:TypeId):DX w0 (wr.alloc (cells vs.toArray t)) v L k e wr.heap.size vs t :=
 ⟨h.q_ (zu (Below.refl _ _) _),zH wr vs t,λe=>by have:=(h.2.1.lt _ e).2;omega⟩
structure MoS (M:Mo):Prop where
 off:M.off.n<=1000/\M.off.m<=1000
 c:∀j,j<M.ck->((M.C j).cost.n<=1000/\(M.C j).cost.m<=1000)/\((M.C j).lo.v.n<=1000/\(M.C j).lo.v.m<=1000)/\(M.C j).hi.v.n<=1000/\(M.C j).hi.v.m<=1000
 r:∀j,j<M.rk->((M.R j).lo.v.n<=1000/\(M.R j).lo.v.m<=1000)/\((M.R j).hi.v.n<=1000/\(M.R j).hi.v.m<=1000)/\(M.R j).tk<=10000/\∀p,p<(M.R j).tk->((M.R j).T p).n<=1000/\((M.R j).T p).m<=1000
def b3c (M:Mo) (i:Nat):Bool:=!(nfB M.off) || zat (λj=>!(nfB (M.C j).cost && abB (M.C j).lo (M.C j).hi)) i
def b5c (M:Mo) (i:Nat):Bool:=zat (λj=>!(zaD (M.C j).nm)) i
def b6c (M:Mo) (i:Nat):Bool:=zat (λj=>zat (λp=>decide ((M.C p).nm=(M.C j).nm)) j) i
def b3r (M:Mo) (i:Nat):Bool:=b3c M M.ck || zat (λj=>!(tfB (M.R j).tk (M.R j).col (M.R j).T && abB (M.R j).lo (M.R j).hi)) i
def b5r (M:Mo) (i:Nat):Bool:=b5c M M.ck || zat (λj=>!(zaD (M.R j).nm)) i
def b6r (M:Mo) (i:Nat):Bool:=b6c M M.ck || zat (λj=>zat (λp=>decide ((M.R p).nm=(M.R j).nm)) j) i
def b7r (M:Mo) (i:Nat):Bool:=zat (λj=>zat (λp=>decide ((M.ck:Int)<=(M.R j).col p)) (M.R j).tk) i
theorem ziv {w M} (h:MoR w M) (hs:MoS M) (hck:M.ck<=64) (hrk:M.rk<=64) (hcap:(M.ck<=M.cc/\M.cc<=9223372036854775807)/\M.rk<=M.rc/\M.rc<=9223372036854775807):Calls prog 32 #[M.val] w λe w'=>e=.returned (.int .i64 (ev (b3r M M.rk) (b5r M M.rk) (b6r M M.rk) (b7r M M.rk)))/\Bl w w':=by
 obtain⟨ans,hans⟩:∃a,ev (b3r M M.rk) (b5r M M.rk) (b6r M M.rk) (b7r M M.rk)=a:=⟨_,rfl⟩;rw[hans];obtain⟨N,hN⟩:∃N,N=M:=⟨_,rfl⟩;have H3:=zk (show b3c N 0=!(nfB M.off)from by rw[hN];simp[b3c,zat]);obtain⟨fo,hfo⟩:∃t,nfB M.off=t:=⟨_,rfl⟩;have CO:=zk (λw' (hw:Bl w w')=>zdC (w:=w') (s:=M.off.s) (h.off.q_ hw).1 hs.off.1 hs.off.2);rw[show rfB M.off.s M.off.f M.off.n M.off.g M.off.m=fo from hfo]at CO
 rw[hfo]at H3
 have HSC:=zk hs.c;have HSR:=zk hs.r
 obtain⟨_,hC,hR,_,_⟩:=h;obtain⟨⟨s,x,n,c,f,y,m,d,g⟩,ca,ck,cc,C,ra,rk,rc,R⟩:=M;replace hck:ck<=64:=hck;replace hrk:rk<=64:=hrk;obtain⟨⟨hc1,hc2⟩,hc3,hc4⟩:=hcap;replace hc1:ck<=cc:=hc1;replace hc2:cc<=9223372036854775807:=hc2;replace hc3:rk<=rc:=hc3;replace hc4:rc<=9223372036854775807:=hc4;have HC:Hid (Cls w ca ck C):=hC;have HRL:Hid (Rls w ra rk R):=hR;replace HSC:Hid (∀j,j<ck->((C j).cost.n<=1000/\(C j).cost.m<=1000)/\((C j).lo.v.n<=1000/\(C j).lo.v.m<=1000)/\(C j).hi.v.n<=1000/\(C j).hi.v.m<=1000):=HSC;replace HSR:Hid (∀j,j<rk->((R j).lo.v.n<=1000/\(R j).lo.v.m<=1000)/\((R j).hi.v.n<=1000/\(R j).hi.v.m<=1000)/\(R j).tk<=10000/\∀p,p<(R j).tk->((R j).T p).n<=1000/\((R j).T p).m<=1000):=HSR;replace CO:Hid (∀w' (hw:Bl w w'),Calls prog 67 #[agg #[.bool s,slice x n c,slice y m d]] w' λe w2=>e=.returned (.bool fo)/\Bl w' w2):=CO;have H3C:=zk (show ∀i,b3c N (i+1)=(b3c N i || !(nfB (C i).cost && abB (C i).lo (C i).hi))from λi=>by rw[hN];simp only[b3c,zat,Bool.or_assoc]);have H5C:=zk (show b5c N 0=false/\∀i,b5c N (i+1)=(b5c N i || !(zaD (C i).nm))from by rw[hN];exact⟨rfl,λi=>rfl⟩);have H6C:=zk (show b6c N 0=false/\∀i,b6c N (i+1)=(b6c N i || zat (λp=>decide ((C p).nm=(C i).nm)) i)from by rw[hN];exact⟨rfl,λi=>rfl⟩);have H3R:=zk (show b3r N 0=b3c N ck/\∀i,b3r N (i+1)=(b3r N i || !(tfB (R i).tk (R i).col (R i).T && abB (R i).lo (R i).hi))from by rw[hN];exact⟨by simp[b3r,zat],λi=>by simp only[b3r,zat,Bool.or_assoc]⟩);have H5R:=zk (show b5r N 0=b5c N ck/\∀i,b5r N (i+1)=(b5r N i || !(zaD (R i).nm))from by rw[hN];exact⟨by simp[b5r,zat],λi=>by simp only[b5r,zat,Bool.or_assoc]⟩);have H6R:=zk (show b6r N 0=b6c N ck/\∀i,b6r N (i+1)=(b6r N i || zat (λp=>decide ((R p).nm=(R i).nm)) i)from by rw[hN];exact⟨by simp[b6r,zat],λi=>by simp only[b6r,zat,Bool.or_assoc]⟩);have H7R:=zk (show b7r N 0=false/\∀i,b7r N (i+1)=(b7r N i || zat (λp=>decide ((ck:Int)<=(R i).col p)) (R i).tk)from by rw[hN];exact⟨rfl,λi=>rfl⟩);have HANS:=zk (show ev (b3r N rk) (b5r N rk) (b6r N rk) (b7r N rk)=ans from by rw[hN];exact hans);show Calls prog 32 #[agg #[.bool s,slice x n c,slice y m d,slice ca ck cc,slice ra rk rc]] w λe w'=>e=.returned (.int .i64 ans)/\Bl w w'
 clear hC hR hN hfo hs hans;have e1:¬(ck:Int) > 64:=by omega
 have e2:¬(rk:Int) > 64:=by omega
 go_enter func32,ntmps32;go_wp2_with fail
 have HB:=zk (zA w (cells #[.bool s,slice x n c,slice y m d,slice ca ck cc,slice ra rk rc] 28));obtain⟨-,-,-,k3,k4⟩:=bk5 (zH w [.bool s,slice x n c,slice y m d,slice ca ck cc,slice ra rk rc] 28);refine(CO.out _ HB.out).mono ?_;rintro r w1 ⟨rfl,hb1⟩;have HK3:=zk (kCb hb1 k3);have HK4:=zk (kCb hb1 k4)
 have HB1:=zI HB hb1;generalize w1=w0 at *;clear hb1 HB CO k3 k4;have HD0:Hid (DL w0 w0 (slice none 0 0) [] 0 (ev false false false false)):=⟨Below.refl _ _,zai _ _ _ _,le_refl _,rfl⟩
 go_upto_if 27 with fail
 go_cut [3]from 24 to 30 (λv wx=>∃(wz:World) (L:List Int),wz=wx/\Hid (DL w0 wz v L (0+1) (ev (!fo) false false false)))
 case first =>
  cases fo
  ·have hs0:=trivial;have hsz:=HD0.out.1.size;have hln:=HD0.out.2.2.1;go_wp2_with(at_builtin;go_must (refine zad w0 rfl (.tmp 28) (.tmp 29) 86 rfl w0.heap.size 3 8 1 (.int .i64 0) underlying86 zaZ rfl (by decide) nzi (slice none 0 0) 0 (ils []) rfl HD0.out.2.1 #[.int .i64 3] rfl rfl (zeD _) (zec _) ?p1 ?p2 hsz ?_))
   case p1=>omega
   case p2=>omega
   intro g8 cap8 w8 hr8 hk8 hb8 hg8 hl8;have HD8:=zk (HD0.out.app hr8 hb8);clear hr8 hk8 hb8 hg8 hl8 hsz hln;go_wp2_with fail
   go_meet
   exact⟨_,_,rfl,HD8.out.mono (by omega) (by rw[ev3];simp)⟩
  ·go_wp2_with fail
   go_meet
   exact⟨_,_,rfl,HD0.out.mono (by omega) (by simp)⟩
 case rest =>
  obtain⟨w2,L,rfl,HD⟩:=hcut;replace HD:=zk (HD.out.mono (e':=ev (b3c N 0) (b5c N 0) (b6c N 0) false) (le_refl _) (by rw[H3.out,H5C.out.1,H6C.out.1]));clear HD0;have k3:=kCb HD.out.1 HK3.out;go_wp2_with fail
  go_loopw[3,34] (λov t wr=>∃(i:Nat) (L:List Int),i<=ck/\t=.int .i64 i/\Hid (DL w0 wr ov L (1+i*70) (ev (b3c N i) (b5c N i) (b6c N i) false))) (λ_ t _=>ck-(intOf t).toNat)
  case atStart=>exact⟨0,L,by omega,rfl,HD.out.mono (by omega) rfl⟩
  case round =>
   clear HD k3;obtain⟨i,L,hi,rfl,HD⟩:=hrel;by_cases hlt:i<ck
   ·skip
    obtain⟨b,o,rfl,hc,hn⟩:=(HC.out.q_ (HB1.out.trans (HD.out.1.mono HB1.out.size))) i hlt;obtain⟨t1,ht1⟩:∃t,nfB (C i).cost=t:=⟨_,rfl⟩;obtain⟨t2,ht2⟩:∃t,abB (C i).lo (C i).hi=t:=⟨_,rfl⟩;obtain⟨t3,ht3⟩:∃t,zaD (C i).nm=t:=⟨_,rfl⟩;have C1:=zk (λw' (hw:Bl wr w')=>zdC (w:=w') (s:=(C i).cost.s) (c:=(C i).cost.c) (d:=(C i).cost.d) (hn.cost.q_ hw).1 (HSC.out i hlt).1.1 (HSC.out i hlt).1.2);have C2:=zk (λw' (hw:Bl wr w')=>zgB (w:=w') (hn.lo.q_ hw) (hn.hi.q_ hw) (HSC.out i hlt).2.1 (HSC.out i hlt).2.2);have C3:=zk (λw'=>zku (w:=w') (s:=(C i).nm) hn.nm);rw[show rfB (C i).cost.s (C i).cost.f (C i).cost.n (C i).cost.g (C i).cost.m=t1 from ht1]at C1
    rw[ht2]at C2
    rw[ht3]at C3
    have E3:=zk (H3C.out i);have E5:=zk (H5C.out.2 i);have E6:=zk (H6C.out.2 i);rw[ht1,ht2]at E3
    rw[ht3]at E5
    obtain⟨zi,hzi⟩:∃z,(C i).nm=z:=⟨_,rfl⟩;rw[hzi]at E6
    obtain⟨⟨z,⟨s0,x0,n0,c0,f0,y0,m0,d0,g0⟩,⟨i1,⟨s1,x1,n1,c1,f1,y1,m1,d1,g1⟩⟩,⟨i2,⟨s2,x2,n2,c2,f2,y2,m2,d2,g2⟩⟩⟩,hCi⟩:∃t,C i=t:=⟨_,rfl⟩;rw[hCi]at hc C1 C2 C3 hzi
    replace hzi:z=zi:=hzi;subst hzi;replace C1:Hid (∀w' (hw:Bl wr w'),Calls prog 67 #[agg #[.bool s0,slice x0 n0 c0,slice y0 m0 d0]] w' λr w2=>r=.returned (.bool t1)/\Bl w' w2):=C1;replace C2:Hid (∀w' (hw:Bl wr w'),Calls prog 68 #[agg #[.int .i64 i1,.bool s1,slice x1 n1 c1,slice y1 m1 d1],agg #[.int .i64 i2,.bool s2,slice x2 n2 c2,slice y2 m2 d2]] w' λr w2=>r=.returned (.bool t2)/\Bl w' w2):=C2;replace C3:Hid (∀w',Calls prog 69 #[.string z] w' λr w2=>r=.returned (.bool t3)/\w2=w'):=C3;obtain⟨q0,q1,q2,q3,q4,q5,q6,q7,q8,q9,q10,q11⟩:=hc.lc;have i1':((i:Nat):Int)<((ck:Nat):Int):=by omega
    clear hCi hc hn ht1 ht2 ht3;go_upto_region 9 with fail
    have hb5:=zA wr (cells #[.string z,.bool s0,slice x0 n0 c0,slice y0 m0 d0,.int .i64 i1,.bool s1,slice x1 n1 c1,slice y1 m1 d1,.int .i64 i2,.bool s2,slice x2 n2 c2,slice y2 m2 d2] 61);have HD5:Hid (DX w0 (wr.alloc (cells #[.string z,.bool s0,slice x0 n0 c0,slice y0 m0 d0,.int .i64 i1,.bool s1,slice x1 n1 c1,slice y1 m1 d1,.int .i64 i2,.bool s2,slice x2 n2 c2,slice y2 m2 d2] 61)) u3 L (1+i*70) (ev (b3c N i) (b5c N i) (b6c N i) false) wr.heap.size [.string z,.bool s0,slice x0 n0 c0,slice y0 m0 d0,.int .i64 i1,.bool s1,slice x1 n1 c1,slice y1 m1 d1,.int .i64 i2,.bool s2,slice x2 n2 c2,slice y2 m2 d2] 61):=HD.out.dx [.string z,.bool s0,slice x0 n0 c0,slice y0 m0 d0,.int .i64 i1,.bool s1,slice x1 n1 c1,slice y1 m1 d1,.int .i64 i2,.bool s2,slice x2 n2 c2,slice y2 m2 d2] 61;have a0:=HD5.out.2.1.cell (j:=0) rfl;have a1:=HD5.out.2.1.cell (j:=1) rfl;have a2:=HD5.out.2.1.cell (j:=2) rfl;have a3:=HD5.out.2.1.cell (j:=3) rfl;have a4:=HD5.out.2.1.cell (j:=4) rfl;have a5:=HD5.out.2.1.cell (j:=5) rfl;have a6:=HD5.out.2.1.cell (j:=6) rfl;have a7:=HD5.out.2.1.cell (j:=7) rfl;have a8:=HD5.out.2.1.cell (j:=8) rfl;have a9:=HD5.out.2.1.cell (j:=9) rfl;have a10:=HD5.out.2.1.cell (j:=10) rfl;have a11:=HD5.out.2.1.cell (j:=11) rfl;clear HD q0 q1 q2 q3 q4 q5 q6 q7 q8 q9 q10 q11;generalize hw5:wr.alloc (cells #[.string z,.bool s0,slice x0 n0 c0,slice y0 m0 d0,.int .i64 i1,.bool s1,slice x1 n1 c1,slice y1 m1 d1,.int .i64 i2,.bool s2,slice x2 n2 c2,slice y2 m2 d2] 61)=w5 at *;go_cut [50,34]from 34 to 79 (λu t wx=>∃(wz:World),wz=wx/\u=.bool (!(t1 && t2))/\t=.int .i64 i/\Hid (Bl w5 wz))
    case first =>
     go_wp2_with fail
     refine(C1.out _ hb5).mono ?_;rintro r w6 ⟨rfl,hb6⟩;replace a4:=kCb hb6 a4;replace a5:=kCb hb6 a5;replace a6:=kCb hb6 a6;replace a7:=kCb hb6 a7;replace a8:=kCb hb6 a8;replace a9:=kCb hb6 a9;replace a10:=kCb hb6 a10;replace a11:=kCb hb6 a11;cases t1
     ·go_wp2_with fail
      go_meet
      exact⟨_,rfl,rfl,rfl,hb6⟩
     ·go_wp2_with fail
      refine(C2.out _ (bUp hb5 hb6)).mono ?_;rintro r w7 ⟨rfl,hb7⟩;go_wp2_with fail
      go_meet
      exact⟨_,rfl,by simp,rfl,bUp hb6 hb7⟩
    case rest =>
     obtain⟨w6,rfl,rfl,rfl,HB6⟩:=hcut;replace HD5:=zk (HD5.out.q_ HB6.out);obtain⟨tb,htb⟩:∃t,(t1 && t2)=t:=⟨_,rfl⟩;rw[htb]at E3
     simp only[htb];generalize wr.heap.size=bx at *;clear C1 C2 htb HB6 hb5 hw5 a0 a1 a2 a3 a4 a5 a6 a7 a8 a9 a10 a11
     go_upto_if 50 with fail
     go_cut [3,34]from 34 to 79 (λv t34 wx=>∃(wz:World) (L:List Int),wz=wx/\t34=.int .i64 i/\Hid (DX w0 wz v L ((1+i*70)+1) (ev (b3c N i || !tb) (b5c N i) (b6c N i) false) bx [.string z,.bool s0,slice x0 n0 c0,slice y0 m0 d0,.int .i64 i1,.bool s1,slice x1 n1 c1,slice y1 m1 d1,.int .i64 i2,.bool s2,slice x2 n2 c2,slice y2 m2 d2] 61))
     case first =>
      cases tb
      ·have hs0:=trivial;have hsz:=HD5.out.1.1.size;have hln:=HD5.out.1.2.2.1;go_wp2_with(at_builtin;go_must (refine zad w6 rfl (.tmp 51) (.tmp 52) 86 rfl w0.heap.size 3 8 1 (.int .i64 0) underlying86 zaZ rfl (by decide) nzi u3 L.length (ils L) rfl HD5.out.1.2.1 #[.int .i64 3] rfl rfl (zeD _) (zec _) ?p1 ?p2 hsz ?_))
       case p1=>omega
       case p2=>omega
       intro g8 cap8 w8 hr8 hk8 hb8 hg8 hl8;have HD8:=zk (HD5.out.app hr8 hb8 hg8 hl8);clear hr8 hk8 hb8 hg8 hl8 hsz hln;go_wp2_with fail
       go_meet
       exact⟨_,_,rfl,rfl,HD8.out.mono (by omega) (by rw[ev3];simp)⟩
      ·go_wp2_with fail
       go_meet
       exact⟨_,_,rfl,rfl,HD5.out.mono (by omega) (by simp)⟩
     case rest =>
      obtain⟨w7,L,rfl,rfl,HD7⟩:=hcut;clear HD5;have a0:=HD7.out.2.1.cell (j:=0) rfl;go_wp2_with fail
      refine(C3.out _).mono ?_;rintro r w7b ⟨rfl,rfl⟩;rw[<-E3.out]at HD7
      go_upto_if 57 with fail
      go_cut [3,34]from 34 to 79 (λv t34 wx=>∃(wz:World) (L:List Int),wz=wx/\t34=.int .i64 i/\Hid (DX w0 wz v L ((1+i*70)+1+1) (ev (b3c N (i+1)) (b5c N i || !t3) (b6c N i) false) bx [.string z,.bool s0,slice x0 n0 c0,slice y0 m0 d0,.int .i64 i1,.bool s1,slice x1 n1 c1,slice y1 m1 d1,.int .i64 i2,.bool s2,slice x2 n2 c2,slice y2 m2 d2] 61))
      case first =>
       cases t3
       ·have hs0:=trivial;have hsz:=HD7.out.1.1.size;have hln:=HD7.out.1.2.2.1;go_wp2_with(at_builtin;go_must (refine zad w7b rfl (.tmp 58) (.tmp 59) 86 rfl w0.heap.size 3 8 1 (.int .i64 0) underlying86 zaZ rfl (by decide) nzi u3 L.length (ils L) rfl HD7.out.1.2.1 #[.int .i64 5] rfl rfl (zeD _) (zec _) ?p1 ?p2 hsz ?_))
        case p1=>omega
        case p2=>omega
        intro g8 cap8 w8 hr8 hk8 hb8 hg8 hl8;have HD8:=zk (HD7.out.app hr8 hb8 hg8 hl8);clear hr8 hk8 hb8 hg8 hl8 hsz hln;go_wp2_with fail
        go_meet
        exact⟨_,_,rfl,rfl,HD8.out.mono (by omega) (by rw[ev5];simp)⟩
       ·go_wp2_with fail
        go_meet
        exact⟨_,_,rfl,rfl,HD7.out.mono (by omega) (by simp)⟩
      case rest =>
       obtain⟨w8,L,rfl,rfl,HD⟩:=hcut;clear HD7 a0 C3;rw[<-E5.out]at HD
       have k3:=kCb HD.out.1.1 HK3.out;have j1:((i:Nat):Int)<=((cc:Nat):Int):=by omega
       go_wp2_with fail
       go_loopw[3,66] (λov t wr=>∃(p:Nat) (L:List Int),p<=i/\t=.int .i64 p/\Hid (DX w0 wr ov L ((1+i*70)+2+p) (ev (b3c N (i+1)) (b5c N (i+1)) (b6c N i || zat (λq=>decide ((C q).nm=z)) p) false) bx [.string z,.bool s0,slice x0 n0 c0,slice y0 m0 d0,.int .i64 i1,.bool s1,slice x1 n1 c1,slice y1 m1 d1,.int .i64 i2,.bool s2,slice x2 n2 c2,slice y2 m2 d2] 61)) (λ_ t _=>i-(intOf t).toNat)
       case atStart=>exact⟨0,L,by omega,rfl,HD.out.mono (by omega) (by simp[zat])⟩
       case round =>
        clear HD k3;obtain⟨p,L,hp,rfl,HD⟩:=hrel;by_cases hlp:p<i
        ·obtain⟨b',o',e',hc,hn⟩:=(HC.out.q_ (HB1.out.trans (HD.out.1.1.mono HB1.out.size))) p (by omega);cases e'
         obtain⟨⟨vz,⟨vs0,vx0,vn0,vc0,vf0,vy0,vm0,vd0,vg0⟩,⟨vi1,⟨vs1,vx1,vn1,vc1,vf1,vy1,vm1,vd1,vg1⟩⟩,⟨vi2,⟨vs2,vx2,vn2,vc2,vf2,vy2,vm2,vd2,vg2⟩⟩⟩,hCp⟩:∃t,C p=t:=⟨_,rfl⟩;rw[hCp]at hc
         have HNP:=zk (show(C p).nm=vz from by rw[hCp]);obtain⟨q0,q1,q2,q3,q4,q5,q6,q7,q8,q9,q10,q11⟩:=hc.lc;have a0:=HD.out.2.1.cell (j:=0) rfl;have hblt:=HD.out.2.1.lt;have i2':((p:Nat):Int)<((i:Nat):Int):=by omega
         have HD5:=zk (HD.out.q_ (zA wr (cells #[.string vz,.bool vs0,slice vx0 vn0 vc0,slice vy0 vm0 vd0,.int .i64 vi1,.bool vs1,slice vx1 vn1 vc1,slice vy1 vm1 vd1,.int .i64 vi2,.bool vs2,slice vx2 vn2 vc2,slice vy2 vm2 vd2] 61)));have hbne:¬(bx=wr.heap.size):=by omega
         have a05:=HD5.out.2.1.cell (j:=0) rfl;clear hCp hc hn;by_cases hzq:vz=z
         ·subst hzq
          go_upto_if 74 with fail
          generalize wr.alloc (cells #[.string vz,.bool vs0,slice vx0 vn0 vc0,slice vy0 vm0 vd0,.int .i64 vi1,.bool vs1,slice vx1 vn1 vc1,slice vy1 vm1 vd1,.int .i64 vi2,.bool vs2,slice vx2 vn2 vc2,slice vy2 vm2 vd2] 61)=w5 at *;have hsz:=HD5.out.1.1.size;have hln:=HD5.out.1.2.2.1;go_wp2_with(at_builtin;go_must (refine zad w5 rfl (.tmp 75) (.tmp 76) 86 rfl w0.heap.size 3 8 1 (.int .i64 0) underlying86 zaZ rfl (by decide) nzi u3 L.length (ils L) rfl HD5.out.1.2.1 #[.int .i64 6] rfl rfl (zeD _) (zec _) ?p1 ?p2 hsz ?_))
          case p1=>omega
          case p2=>omega
          intro g8 cap8 w8 hr8 hk8 hb8 hg8 hl8;have HD8:=zk (HD5.out.app hr8 hb8 hg8 hl8);clear hr8 hk8 hb8 hg8 hl8 hsz hln;go_wp2;go_roundw
          case rel=>exact⟨p+1,_,by omega,by go_num,HD8.out.mono (by omega) (by rw[ev6];simp[zat,HNP.out])⟩
          case measure=>simp[intOf];omega
         ·have hne:=zmq hzq;go_wp2;go_roundw
          case rel=>exact⟨p+1,_,by omega,by go_num,HD5.out.mono (by omega) (by simp[zat,HNP.out,hzq])⟩
          case measure=>simp[intOf];omega
        ·have e1:p=i:=by omega
         have i2':¬(((p:Nat):Int)<((i:Nat):Int)):=by omega
         rw[e1]at HD
         have HD9:=zk (HD.out.1.mono (k':=1+(i+1)*70) (e':=ev (b3c N (i+1)) (b5c N (i+1)) (b6c N (i+1)) false) (by omega) (by rw[E6.out]));clear HD e1;go_wp2;go_roundw
         case rel=>exact⟨i+1,L,by omega,by go_num,HD9.out⟩
         case measure=>simp[intOf];omega
   ·have e1:i=ck:=by omega
    have i2':¬(((i:Nat):Int)<((ck:Nat):Int)):=by omega
    rw[e1]at HD
    have HD2:=zk (HD.out.mono (k':=5000) (e':=ev (b3r N 0) (b5r N 0) (b6r N 0) (b7r N 0)) (by omega) (by rw[H3R.out.1,H5R.out.1,H6R.out.1,H7R.out.1]));have k4:=kCb HD2.out.1 HK4.out;clear HD e1;go_wp2_with fail
    go_loopw[3,83] (λov t wr=>∃(i:Nat) (L:List Int),i<=rk/\t=.int .i64 i/\Hid (DL w0 wr ov L (5000+i*10100) (ev (b3r N i) (b5r N i) (b6r N i) (b7r N i)))) (λ_ t _=>rk-(intOf t).toNat)
    case atStart=>exact⟨0,L,by omega,rfl,HD2.out.mono (by omega) rfl⟩
    case round =>
     clear HD2 k4;obtain⟨i,L,hi,rfl,HD⟩:=hrel;by_cases hlt:i<rk
     ·skip
      obtain⟨b,o,rfl,hc,hn⟩:=(HRL.out.q_ (HB1.out.trans (HD.out.1.mono HB1.out.size))) i hlt;obtain⟨t1,ht1⟩:∃t,tfB (R i).tk (R i).col (R i).T=t:=⟨_,rfl⟩;obtain⟨t2,ht2⟩:∃t,abB (R i).lo (R i).hi=t:=⟨_,rfl⟩;obtain⟨t3,ht3⟩:∃t,zaD (R i).nm=t:=⟨_,rfl⟩;have C1:=zk (λw' (hw:Bl wr w')=>zpA (w:=w') (cap:=(R i).tc) (hn.tl.q_ hw) (HSR.out i hlt).2.2.1 (HSR.out i hlt).2.2.2);have C2:=zk (λw' (hw:Bl wr w')=>zgB (w:=w') (hn.lo.q_ hw) (hn.hi.q_ hw) (HSR.out i hlt).1 (HSR.out i hlt).2.1);have C3:=zk (λw'=>zku (w:=w') (s:=(R i).nm) hn.nm);rw[ht1]at C1
      rw[ht2]at C2
      rw[ht3]at C3
      have E3:=zk (H3R.out.2 i);have E5:=zk (H5R.out.2 i);have E6:=zk (H6R.out.2 i);rw[ht1,ht2]at E3
      rw[ht3]at E5
      have E7:=zk (H7R.out.2 i);have HTL:=zk (show Tl w (R i).ta (R i).tk (R i).col (R i).T from by obtain⟨_,_,_,_,h⟩:=HRL.out i hlt;exact h.tl);have hltk:=(HSR.out i hlt).2.2.1;obtain⟨zi,hzi⟩:∃z,(R i).nm=z:=⟨_,rfl⟩;rw[hzi]at E6
      obtain⟨⟨z,⟨i1,⟨s1,x1,n1,c1,f1,y1,m1,d1,g1⟩⟩,⟨i2,⟨s2,x2,n2,c2,f2,y2,m2,d2,g2⟩⟩,ta,tk,tc,tcol,tt⟩,hCi⟩:∃t,R i=t:=⟨_,rfl⟩;rw[hCi]at hc C1 C2 C3 hzi E7 HTL hltk
      replace hzi:z=zi:=hzi;subst hzi;replace E7:Hid (b7r N (i+1)=(b7r N i || zat (λp=>decide ((ck:Int)<=tcol p)) tk)):=E7;replace HTL:Hid (Tl w ta tk tcol tt):=HTL;replace hltk:tk<=10000:=hltk;replace C1:Hid (∀w' (hw:Bl wr w'),Calls prog 70 #[slice ta tk tc] w' λr w2=>r=.returned (.bool t1)/\Bl w' w2):=C1;replace C2:Hid (∀w' (hw:Bl wr w'),Calls prog 68 #[agg #[.int .i64 i1,.bool s1,slice x1 n1 c1,slice y1 m1 d1],agg #[.int .i64 i2,.bool s2,slice x2 n2 c2,slice y2 m2 d2]] w' λr w2=>r=.returned (.bool t2)/\Bl w' w2):=C2;replace C3:Hid (∀w',Calls prog 69 #[.string z] w' λr w2=>r=.returned (.bool t3)/\w2=w'):=C3;obtain⟨q0,q1,q2,q3,q4,q5,q6,q7,q8,q9⟩:=hc.lr;have i1':((i:Nat):Int)<((rk:Nat):Int):=by omega
      clear hCi hc hn ht1 ht2 ht3;go_upto_region 23 with fail
      have hb5:=zA wr (cells #[.string z,.int .i64 i1,.bool s1,slice x1 n1 c1,slice y1 m1 d1,.int .i64 i2,.bool s2,slice x2 n2 c2,slice y2 m2 d2,slice ta tk tc] 64);have HD5:Hid (DX w0 (wr.alloc (cells #[.string z,.int .i64 i1,.bool s1,slice x1 n1 c1,slice y1 m1 d1,.int .i64 i2,.bool s2,slice x2 n2 c2,slice y2 m2 d2,slice ta tk tc] 64)) u3 L (5000+i*10100) (ev (b3r N i) (b5r N i) (b6r N i) (b7r N i)) wr.heap.size [.string z,.int .i64 i1,.bool s1,slice x1 n1 c1,slice y1 m1 d1,.int .i64 i2,.bool s2,slice x2 n2 c2,slice y2 m2 d2,slice ta tk tc] 64):=HD.out.dx [.string z,.int .i64 i1,.bool s1,slice x1 n1 c1,slice y1 m1 d1,.int .i64 i2,.bool s2,slice x2 n2 c2,slice y2 m2 d2,slice ta tk tc] 64;have a0:=HD5.out.2.1.cell (j:=0) rfl;have a1:=HD5.out.2.1.cell (j:=1) rfl;have a2:=HD5.out.2.1.cell (j:=2) rfl;have a3:=HD5.out.2.1.cell (j:=3) rfl;have a4:=HD5.out.2.1.cell (j:=4) rfl;have a5:=HD5.out.2.1.cell (j:=5) rfl;have a6:=HD5.out.2.1.cell (j:=6) rfl;have a7:=HD5.out.2.1.cell (j:=7) rfl;have a8:=HD5.out.2.1.cell (j:=8) rfl;have a9:=HD5.out.2.1.cell (j:=9) rfl;clear HD q0 q1 q2 q3 q4 q5 q6 q7 q8 q9;generalize hw5:wr.alloc (cells #[.string z,.int .i64 i1,.bool s1,slice x1 n1 c1,slice y1 m1 d1,.int .i64 i2,.bool s2,slice x2 n2 c2,slice y2 m2 d2,slice ta tk tc] 64)=w5 at *;go_cut [99,83]from 83 to 145 (λu t wx=>∃(wz:World),wz=wx/\u=.bool (!(t1 && t2))/\t=.int .i64 i/\Hid (Bl w5 wz))
      case first =>
       go_wp2_with fail
       refine(C1.out _ hb5).mono ?_;rintro r w6 ⟨rfl,hb6⟩;replace a1:=kCb hb6 a1;replace a2:=kCb hb6 a2;replace a3:=kCb hb6 a3;replace a4:=kCb hb6 a4;replace a5:=kCb hb6 a5;replace a6:=kCb hb6 a6;replace a7:=kCb hb6 a7;replace a8:=kCb hb6 a8;replace a9:=kCb hb6 a9;cases t1
       ·go_wp2_with fail
        go_meet
        exact⟨_,rfl,rfl,rfl,hb6⟩
       ·go_wp2_with fail
        refine(C2.out _ (bUp hb5 hb6)).mono ?_;rintro r w7 ⟨rfl,hb7⟩;go_wp2_with fail
        go_meet
        exact⟨_,rfl,by simp,rfl,bUp hb6 hb7⟩
      case rest =>
       obtain⟨w6,rfl,rfl,rfl,HB6⟩:=hcut;replace HD5:=zk (HD5.out.q_ HB6.out);obtain⟨tb,htb⟩:∃t,(t1 && t2)=t:=⟨_,rfl⟩;rw[htb]at E3
       simp only[htb];generalize wr.heap.size=bx at *;clear C1 C2 htb HB6 hb5 hw5 a0 a1 a2 a3 a4 a5 a6 a7 a8 a9
       go_upto_if 99 with fail
       go_cut [3,83]from 83 to 145 (λv t83 wx=>∃(wz:World) (L:List Int),wz=wx/\t83=.int .i64 i/\Hid (DX w0 wz v L ((5000+i*10100)+1) (ev (b3r N i || !tb) (b5r N i) (b6r N i) (b7r N i)) bx [.string z,.int .i64 i1,.bool s1,slice x1 n1 c1,slice y1 m1 d1,.int .i64 i2,.bool s2,slice x2 n2 c2,slice y2 m2 d2,slice ta tk tc] 64))
       case first =>
        cases tb
        ·have hs0:=trivial;have hsz:=HD5.out.1.1.size;have hln:=HD5.out.1.2.2.1;go_wp2_with(at_builtin;go_must (refine zad w6 rfl (.tmp 100) (.tmp 101) 86 rfl w0.heap.size 3 8 1 (.int .i64 0) underlying86 zaZ rfl (by decide) nzi u3 L.length (ils L) rfl HD5.out.1.2.1 #[.int .i64 3] rfl rfl (zeD _) (zec _) ?p1 ?p2 hsz ?_))
         case p1=>omega
         case p2=>omega
         intro g8 cap8 w8 hr8 hk8 hb8 hg8 hl8;have HD8:=zk (HD5.out.app hr8 hb8 hg8 hl8);clear hr8 hk8 hb8 hg8 hl8 hsz hln;go_wp2_with fail
         go_meet
         exact⟨_,_,rfl,rfl,HD8.out.mono (by omega) (by rw[ev3];simp)⟩
        ·go_wp2_with fail
         go_meet
         exact⟨_,_,rfl,rfl,HD5.out.mono (by omega) (by simp)⟩
       case rest =>
        obtain⟨w7,L,rfl,rfl,HD7⟩:=hcut;clear HD5;have a0:=HD7.out.2.1.cell (j:=0) rfl;go_wp2_with fail
        refine(C3.out _).mono ?_;rintro r w7b ⟨rfl,rfl⟩;rw[<-E3.out]at HD7
        go_upto_if 106 with fail
        go_cut [3,83]from 83 to 145 (λv t83 wx=>∃(wz:World) (L:List Int),wz=wx/\t83=.int .i64 i/\Hid (DX w0 wz v L ((5000+i*10100)+1+1) (ev (b3r N (i+1)) (b5r N i || !t3) (b6r N i) (b7r N i)) bx [.string z,.int .i64 i1,.bool s1,slice x1 n1 c1,slice y1 m1 d1,.int .i64 i2,.bool s2,slice x2 n2 c2,slice y2 m2 d2,slice ta tk tc] 64))
        case first =>
         cases t3
         ·have hs0:=trivial;have hsz:=HD7.out.1.1.size;have hln:=HD7.out.1.2.2.1;go_wp2_with(at_builtin;go_must (refine zad w7b rfl (.tmp 107) (.tmp 108) 86 rfl w0.heap.size 3 8 1 (.int .i64 0) underlying86 zaZ rfl (by decide) nzi u3 L.length (ils L) rfl HD7.out.1.2.1 #[.int .i64 5] rfl rfl (zeD _) (zec _) ?p1 ?p2 hsz ?_))
          case p1=>omega
          case p2=>omega
          intro g8 cap8 w8 hr8 hk8 hb8 hg8 hl8;have HD8:=zk (HD7.out.app hr8 hb8 hg8 hl8);clear hr8 hk8 hb8 hg8 hl8 hsz hln;go_wp2_with fail
          go_meet
          exact⟨_,_,rfl,rfl,HD8.out.mono (by omega) (by rw[ev5];simp)⟩
         ·go_wp2_with fail
          go_meet
          exact⟨_,_,rfl,rfl,HD7.out.mono (by omega) (by simp)⟩
        case rest =>
         obtain⟨w8,L,rfl,rfl,HD⟩:=hcut;clear HD7 a0 C3;rw[<-E5.out]at HD
         have k3:=kCb HD.out.1.1 HK4.out;have j1:((i:Nat):Int)<=((rc:Nat):Int):=by omega
         go_wp2_with fail
         go_loopw[3,115] (λov t wr=>∃(p:Nat) (L:List Int),p<=i/\t=.int .i64 p/\Hid (DX w0 wr ov L ((5000+i*10100)+2+p) (ev (b3r N (i+1)) (b5r N (i+1)) (b6r N i || zat (λq=>decide ((R q).nm=z)) p) (b7r N i)) bx [.string z,.int .i64 i1,.bool s1,slice x1 n1 c1,slice y1 m1 d1,.int .i64 i2,.bool s2,slice x2 n2 c2,slice y2 m2 d2,slice ta tk tc] 64)) (λ_ t _=>i-(intOf t).toNat)
         case atStart=>exact⟨0,L,by omega,rfl,HD.out.mono (by omega) (by simp[zat])⟩
         case round =>
          clear HD k3;obtain⟨p,L,hp,rfl,HD⟩:=hrel;by_cases hlp:p<i
          ·obtain⟨b',o',e',hc,hn⟩:=(HRL.out.q_ (HB1.out.trans (HD.out.1.1.mono HB1.out.size))) p (by omega);cases e'
           obtain⟨⟨vz,⟨vi1,⟨vs1,vx1,vn1,vc1,vf1,vy1,vm1,vd1,vg1⟩⟩,⟨vi2,⟨vs2,vx2,vn2,vc2,vf2,vy2,vm2,vd2,vg2⟩⟩,vta,vtk,vtc,vtcol,vtt⟩,hCp⟩:∃t,R p=t:=⟨_,rfl⟩;rw[hCp]at hc
           have HNP:=zk (show(R p).nm=vz from by rw[hCp]);obtain⟨q0,q1,q2,q3,q4,q5,q6,q7,q8,q9⟩:=hc.lr;have a0:=HD.out.2.1.cell (j:=0) rfl;have hblt:=HD.out.2.1.lt;have i2':((p:Nat):Int)<((i:Nat):Int):=by omega
           have HD5:=zk (HD.out.q_ (zA wr (cells #[.string vz,.int .i64 vi1,.bool vs1,slice vx1 vn1 vc1,slice vy1 vm1 vd1,.int .i64 vi2,.bool vs2,slice vx2 vn2 vc2,slice vy2 vm2 vd2,slice vta vtk vtc] 64)));have hbne:¬(bx=wr.heap.size):=by omega
           have a05:=HD5.out.2.1.cell (j:=0) rfl;clear hCp hc hn;by_cases hzq:vz=z
           ·subst hzq
            go_upto_if 123 with fail
            generalize wr.alloc (cells #[.string vz,.int .i64 vi1,.bool vs1,slice vx1 vn1 vc1,slice vy1 vm1 vd1,.int .i64 vi2,.bool vs2,slice vx2 vn2 vc2,slice vy2 vm2 vd2,slice vta vtk vtc] 64)=w5 at *;have hsz:=HD5.out.1.1.size;have hln:=HD5.out.1.2.2.1;go_wp2_with(at_builtin;go_must (refine zad w5 rfl (.tmp 124) (.tmp 125) 86 rfl w0.heap.size 3 8 1 (.int .i64 0) underlying86 zaZ rfl (by decide) nzi u3 L.length (ils L) rfl HD5.out.1.2.1 #[.int .i64 6] rfl rfl (zeD _) (zec _) ?p1 ?p2 hsz ?_))
            case p1=>omega
            case p2=>omega
            intro g8 cap8 w8 hr8 hk8 hb8 hg8 hl8;have HD8:=zk (HD5.out.app hr8 hb8 hg8 hl8);clear hr8 hk8 hb8 hg8 hl8 hsz hln;go_wp2;go_roundw
            case rel=>exact⟨p+1,_,by omega,by go_num,HD8.out.mono (by omega) (by rw[ev6];simp[zat,HNP.out])⟩
            case measure=>simp[intOf];omega
           ·have hne:=zmq hzq;go_wp2;go_roundw
            case rel=>exact⟨p+1,_,by omega,by go_num,HD5.out.mono (by omega) (by simp[zat,HNP.out,hzq])⟩
            case measure=>simp[intOf];omega
          ·have e1:p=i:=by omega
           have i2':¬(((p:Nat):Int)<((i:Nat):Int)):=by omega
           rw[e1]at HD
           have HD9:=zk (HD.out.mono (k':=(5000+i*10100)+66) (e':=ev (b3r N (i+1)) (b5r N (i+1)) (b6r N (i+1)) (b7r N i || zat (λq=>decide ((ck:Int)<=tcol q)) 0)) (by omega) (by rw[E6.out];simp[zat]));clear HD e1;have a9:=HD9.out.2.1.cell (j:=9) rfl;go_wp2_with fail
           go_loopw[3,131] (λov t wr=>∃(p:Nat) (L:List Int),p<=tk/\t=.int .i64 p/\Hid (DX w0 wr ov L ((5000+i*10100)+66+p) (ev (b3r N (i+1)) (b5r N (i+1)) (b6r N (i+1)) (b7r N i || zat (λq=>decide ((ck:Int)<=tcol q)) p)) bx [.string z,.int .i64 i1,.bool s1,slice x1 n1 c1,slice y1 m1 d1,.int .i64 i2,.bool s2,slice x2 n2 c2,slice y2 m2 d2,slice ta tk tc] 64)) (λ_ t _=>tk-(intOf t).toNat)
           case atStart=>exact⟨0,L,by omega,rfl,HD9.out.mono (by omega) rfl⟩
           case round =>
            clear HD9 a9;obtain⟨p,L,hp,rfl,HD⟩:=hrel;by_cases hlp:p<tk
            ·obtain⟨b2,o2,rfl,⟨x0,x1,x2,x3⟩,_⟩:=(HTL.out.q_ (HB1.out.trans (HD.out.1.1.mono HB1.out.size))) p hlp;obtain⟨⟨js,jx,jn,jc,jf,jy,jm,jd,jg⟩,hTp⟩:∃t,tt p=t:=⟨_,rfl⟩;obtain⟨jz,hjz⟩:∃t,tcol p=t:=⟨_,rfl⟩;rw[hTp]at x1 x2 x3
             rw[hjz]at x0
             replace x0:wr.cell? ⟨b2,o2+p*4,none⟩=some (.int .i64 jz):=x0;replace x1:wr.cell? ⟨b2,o2+p*4+1,none⟩=some (.bool js):=x1;replace x2:wr.cell? ⟨b2,o2+p*4+2,none⟩=some (slice jx jn jc):=x2;replace x3:wr.cell? ⟨b2,o2+p*4+3,none⟩=some (slice jy jm jd):=x3;have k3:=kCb HD.out.1.1 HK3.out;have hkl:=World.block_lt_of_cell? wr _ k3;replace hkl:w.heap.size<wr.heap.size:=hkl;have k35:(wr.alloc (cells #[.int .i64 jz,.bool js,slice jx jn jc,slice jy jm jd] 66)).cell? ⟨w.heap.size,3,none⟩=some (slice ca ck cc):=kCa k3;have i2':((p:Nat):Int)<((tk:Nat):Int):=by omega
             have HJZ:=zk hjz;have HD5:=zk (HD.out.q_ (zA wr (cells #[.int .i64 jz,.bool js,slice jx jn jc,slice jy jm jd] 66)));clear hTp hjz;by_cases hge:(ck:Int)<=jz
             ·go_upto_if 140 with fail
              generalize wr.alloc (cells #[.int .i64 jz,.bool js,slice jx jn jc,slice jy jm jd] 66)=w5 at *;have hsz:=HD5.out.1.1.size;have hln:=HD5.out.1.2.2.1;go_wp2_with(at_builtin;go_must (refine zad w5 rfl (.tmp 141) (.tmp 142) 86 rfl w0.heap.size 3 8 1 (.int .i64 0) underlying86 zaZ rfl (by decide) nzi u3 L.length (ils L) rfl HD5.out.1.2.1 #[.int .i64 7] rfl rfl (zeD _) (zec _) ?p1 ?p2 hsz ?_))
              case p1=>omega
              case p2=>omega
              intro g8 cap8 w8 hr8 hk8 hb8 hg8 hl8;have HD8:=zk (HD5.out.app hr8 hb8 hg8 hl8);clear hr8 hk8 hb8 hg8 hl8 hsz hln;go_wp2;go_roundw
              case rel=>exact⟨p+1,_,by omega,by go_num,HD8.out.mono (by omega) (by rw[ev7];simp[zat,HJZ.out,hge])⟩
              case measure=>simp[intOf];omega
             ·go_wp2;go_roundw
              case rel=>exact⟨p+1,_,by omega,by go_num,HD5.out.mono (by omega) (by simp[zat,HJZ.out,hge])⟩
              case measure=>simp[intOf];omega
            ·have e1:p=tk:=by omega
             have i2':¬(((p:Nat):Int)<((tk:Nat):Int)):=by omega
             rw[e1]at HD
             have HD9:=zk (HD.out.1.mono (k':=5000+(i+1)*10100) (e':=ev (b3r N (i+1)) (b5r N (i+1)) (b6r N (i+1)) (b7r N (i+1))) (by omega) (by rw[E7.out]));clear HD e1;go_wp2;go_roundw
             case rel=>exact⟨i+1,L,by omega,by go_num,HD9.out⟩
             case measure=>simp[intOf];omega
     ·have e1:i=rk:=by omega
      have i2':¬(((i:Nat):Int)<((rk:Nat):Int)):=by omega
      rw[e1]at HD
      obtain⟨aw,cw,rfl⟩:=HD.out.2.1.slice;have hln:=HD.out.2.2.1;have CL:=zk (zfU (cap:=cw) (zsc (zdu HD.out.2.1)) (by omega));rw[zpn,HD.out.2.2.2,HANS.out]at CL
      have HB9:=zk (HB1.out.trans (HD.out.1.mono HB1.out.size));clear HD e1;go_wp2_with fail
      refine CL.out.mono ?_;rintro r w9 ⟨rfl,rfl⟩;go_wp2;go_ret;exact⟨rfl,HB9.out⟩
theorem anyB_iff {B}:∀{i:Nat},zat B i=true ↔ ∃j,j<i/\B j=true
 | 0=>⟨λh=>by simp[zat]at h,λ⟨j,hj,_⟩=>by omega⟩
 | i+1=>by
  simp only[zat,Bool.or_eq_true,anyB_iff (i:=i)];constructor
  ·rintro(⟨j,h1,h2⟩|h)
   ·exact⟨j,by omega,h2⟩
   ·exact⟨i,by omega,h⟩
  ·rintro⟨j,h1,h2⟩;by_cases e:j=i
   ·subst e;exact .inr h2
   ·exact .inl ⟨j,by omega,h2⟩
theorem anyB_no {B i}:zat B i=false ↔ ∀j,j<i->B j=false:=by
 rw[<-Bool.not_eq_true,anyB_iff];constructor
 ·intro h j hj;cases hb:B j
  ·rfl
  ·exact absurd ⟨j,hj,hb⟩ h
 ·rintro h ⟨j,hj,hb⟩;rw[h j hj]at hb;cases hb
theorem zmW {S}:∀{r i:Nat},nms S r i=true->∀j,i<=j->j<i+r->zaD (S j)=true
 | 0,_,_,j,h1,h2=>by omega
 | r+1,i,h,j,h1,h2=>by
  simp only[nms,Bool.and_eq_true]at h;by_cases e:j=i
  ·subst e;exact h.1
  ·exact zmW h.2 j (by omega) (by omega)
theorem zmV {S}:∀{r i:Nat},(∀j,i<=j->j<i+r->zaD (S j)=true)->nms S r i=true
 | 0,_,_=>rfl
 | r+1,i,h=>by simp only[nms];rw[h i (by omega) (by omega),zmV (λj a b=>h j (by omega) (by omega))];rfl
theorem zjF {S}:∀{r i:Nat},twr S r i=true ↔ ∃j,i<=j/\j<i+r/\zia S j=true
 | 0,i=>⟨λh=>by simp[twr]at h,λ⟨j,h1,h2,_⟩=>by omega⟩
 | r+1,i=>by
  simp only[twr,Bool.or_eq_true,zjF (r:=r)];constructor
  ·rintro(h|⟨j,h1,h2,h3⟩)
   ·exact⟨i,by omega,by omega,h⟩
   ·exact⟨j,by omega,by omega,h3⟩
  ·rintro⟨j,h1,h2,h3⟩;by_cases e:j=i
   ·subst e;exact .inl h3
   ·exact .inr ⟨j,by omega,by omega,h3⟩
theorem zkh (S:Nat->ByteArray) (k:Nat):nms S k 0=!(zat (λj=>!(zaD (S j))) k):=by
 rw[Bool.eq_iff_iff,Bool.not_eq_true',anyB_no];exact⟨λh j hj=>by rw[zmW h j (by omega) (by omega)];rfl,λh=>zmV (λj _ hj=>by simpa using h j (by omega))⟩
theorem zjG (S:Nat->ByteArray) (k:Nat):twr S k 0=zat (λj=>zat (λp=>decide (S p=S j)) j) k:=by
 rw[Bool.eq_iff_iff,zjF,anyB_iff];constructor
 ·rintro⟨j,_,h2,h3⟩;obtain⟨p,hp,e⟩:=(zcw S j).1 h3;exact⟨j,by omega,anyB_iff.2 ⟨p,hp,by simpa using e⟩⟩
 ·rintro⟨j,h1,h2⟩;obtain⟨p,hp,e⟩:=anyB_iff.1 h2;exact⟨j,by omega,by omega,(zcw S j).2 ⟨p,hp,by simpa using e⟩⟩
theorem zpK (C:Nat->Lc) (k:Nat):zem C k 0=!(zat (λj=>!(nfB (C j).cost && abB (C j).lo (C j).hi)) k):=by
 rw[Bool.eq_iff_iff,Bool.not_eq_true',anyB_no];exact⟨λh j hj=>by obtain⟨a,b⟩:=zfn h j (by omega) (by omega);rw[a,b];rfl,λh=>zhG (λj _ hj=>by simpa using h j (by omega))⟩
theorem zoV (R:Nat->Lr) (k:Nat):zcT R k 0=!(zat (λj=>!(tfB (R j).tk (R j).col (R j).T && abB (R j).lo (R j).hi)) k):=by
 rw[Bool.eq_iff_iff,Bool.not_eq_true',anyB_no];exact⟨λh j hj=>by obtain⟨a,b⟩:=zdw h j (by omega) (by omega);rw[a,b];rfl,λh=>zgZ (λj _ hj=>by have:=h j (by omega);simp at this;exact⟨this.2,this.1⟩)⟩
theorem zrp {k R n} (h:∀j,j<n->tfB (R j).tk (R j).col (R j).T=true):alB k R n 0=!(zat (λj=>zat (λp=>decide ((k:Int)<=(R j).col p)) (R j).tk) n):=by
 rw[Bool.eq_iff_iff,Bool.not_eq_true',anyB_no];constructor
 ·intro ha j hj;refine anyB_no.2 (λp hp=>?_);have:=(zkF (h j hj) (zjx ha j (by omega) (by omega)) p hp).2;simp;omega
 ·intro ha;refine alB_of (λj _ hj=>?_);have:=anyB_no.1 (ha j (by omega));simp only[lastB,Bool.or_eq_true,decide_eq_true_eq];by_cases h0:(R j).tk=0
  ·exact .inl h0
  ·have:=this ((R j).tk-1) (by omega);simp at this;exact .inr (by omega)
theorem zrn {M} (h1:M.ck<=64) (h2:M.rk<=64):zar M=ev (b3r M M.rk) (b5r M M.rk) (b6r M M.rk) (b7r M M.rk):=by
 have e0:(decide (64<M.ck) || decide (64<M.rk))=false:=by simp;omega
 have e1:moF M=!(b3r M M.rk):=by
  unfold moF b3r b3c;rw[zpK,zoV];simp only[Bool.not_or,Bool.not_not,Bool.and_assoc]
 have e2:(nms (λj=>(M.C j).nm) M.ck 0 && nms (λj=>(M.R j).nm) M.rk 0)=!(b5r M M.rk):=by
  unfold b5r b5c;rw[zkh,zkh,Bool.not_or]
 have e3:(twr (λj=>(M.C j).nm) M.ck 0 || twr (λj=>(M.R j).nm) M.rk 0)=b6r M M.rk:=by
  unfold b6r b6c;rw[zjG,zjG]
 unfold zar ziA ev;rw[e0,e1,e2,e3];cases hb:b3r M M.rk
 ·have e4:alB M.ck M.R M.rk 0=!(b7r M M.rk):=zrp (λj hj=>by
   rw[hb]at e1
   simp only[moF,Bool.and_eq_true,Bool.not_false]at e1;exact(zdw e1.2.2 j (by omega) (by omega)).2)
  rw[e4];cases b5r M M.rk <;> cases b6r M M.rk <;> cases b7r M M.rk <;> rfl
 ·rfl
theorem ziw {w} {M:Mo} (h:64<M.ck∨64<M.rk):Calls prog 32 #[M.val] w λr w'=>r=.returned (.int .i64 2)/\Bl w w':=by
 obtain⟨⟨s,x,n,c,f,y,m,d,g⟩,ca,ck,cc,C,ra,rk,rc,R⟩:=M;replace h:64<ck∨64<rk:=h;show Calls prog 32 #[agg #[.bool s,slice x n c,slice y m d,slice ca ck cc,slice ra rk rc]] w _;by_cases h1:64<ck
 ·have e1:(ck:Int) > 64:=by omega
  clear h1 h;go_enter func32,ntmps32;go_wp2;go_ret;exact⟨rfl,zu (Below.refl _ _) _⟩
 ·have e1:¬(ck:Int) > 64:=by omega
  have e2:(rk:Int) > 64:=by omega
  clear h1 h;go_enter func32,ntmps32;go_wp2;go_ret;exact⟨rfl,zu (Below.refl _ _) _⟩
def MoC (M:Mo):Prop:=(M.ck<=M.cc/\M.cc<=9223372036854775807)/\M.rk<=M.rc/\M.rc<=9223372036854775807
theorem zdk {w M} (h:M.ck<=64->M.rk<=64->MoR w M/\MoS M) (hc:MoC M):Calls prog 32 #[M.val] w λr w'=>r=.returned (.int .i64 (zar M))/\Bl w w':=by
 by_cases h1:64<M.ck∨64<M.rk
 ·have e:zar M=2:=by
   have:(decide (64<M.ck) || decide (64<M.rk))=true:=by simpa using h1
   rw[zar,this];rfl
  rw[e];exact ziw h1
 ·obtain⟨k1,k2⟩:=h (by omega) (by omega);rw[zrn (by omega) (by omega)];exact ziv k1 k2 (by omega) (by omega) hc
theorem Sn.exF {a b:Ex} (hi:b.i=a.i) (h:Sn a.v b.v):exF b=exF a:=by
 obtain⟨h1,h2,h3,h4,h5⟩:=h;unfold Go.Proofs.YtnlcjakjhmgenaaGreat.exF;rw[hi,h1,h2,h3,h4,h5]
theorem ziH {a b a' b'} (h1:a'.i=a.i) (h2:Sn a.v a'.v) (h3:b'.i=b.i) (h4:Sn b.v b'.v):abB a' b'=abB a b:=by
 unfold abB;rw[Sn.exF h1 h2,Sn.exF h3 h4,h1,h3]
theorem zfW {C C'}:∀{r i:Nat},(∀j,i<=j->j<i+r->Sc (C j) (C' j))->zem C' r i=zem C r i
 | 0,_,_=>rfl
 | r+1,i,h=>by
  have k:=h i (by omega) (by omega);simp only[zem];rw[k.cost.nfB,ziH k.li k.lo k.hi k.hv,zfW (λj a b=>h j (by omega) (by omega))]
theorem zlc {r r'} (k:Sr r r'):tfB r'.tk r'.col r'.T=tfB r.tk r.col r.T:=by
 unfold tfB;rw[k.tk,k.col]
 exact zqE (λj _ hj=>k.T j (by omega))
theorem zfE {R R'}:∀{r i:Nat},(∀j,i<=j->j<i+r->Sr (R j) (R' j))->zcT R' r i=zcT R r i
 | 0,_,_=>rfl
 | r+1,i,h=>by
  have k:=h i (by omega) (by omega);simp only[zcT];rw[zlc k,ziH k.li k.lo k.hi k.hv,zfE (λj a b=>h j (by omega) (by omega))]
theorem zgJ {k R R'}:∀{r i:Nat},(∀j,i<=j->j<i+r->Sr (R j) (R' j))->alB k R' r i=alB k R r i
 | 0,_,_=>rfl
 | r+1,i,h=>by
  have q:=h i (by omega) (by omega);simp only[alB,lastB];rw[q.tk,q.col,zgJ (λj a b=>h j (by omega) (by omega))]
theorem Sm.chk {M M'} (h:Sm M M'):zar M'=zar M:=by
 have e1:moF M'=moF M:=by
  unfold moF;rw[h.off.nfB,h.ck,h.rk,zfW (λj _ hj=>h.C j (by omega)),zfE (λj _ hj=>h.R j (by omega))]
 unfold zar;rw[e1,h.ck,h.rk,zbl (S':=λj=>(M.C j).nm) (λj _ hj=>(h.C j (by omega)).nm),zbl (S':=λj=>(M.R j).nm) (λj _ hj=>(h.R j (by omega)).nm),
  zbj (S':=λj=>(M.C j).nm) (λj hj=>(h.C j (by omega)).nm),zbj (S':=λj=>(M.R j).nm) (λj hj=>(h.R j (by omega)).nm),zgJ (λj _ hj=>h.R j (by omega))]
structure MoN (M:Mo):Prop where
 c:∀j,j<M.ck->(M.C j).nm.size<=9223372036854775807
 r:∀j,j<M.rk->(M.R j).nm.size<=9223372036854775807
theorem Sm.mon {M M'} (h:Sm M M') (k:MoN M):MoN M':=⟨λj hj=>by rw[h.ck]at hj;rw[(h.C j hj).nm];exact k.c j hj,λj hj=>by rw[h.rk]at hj;rw[(h.R j hj).nm];exact k.r j hj⟩
theorem zkG {K C}:∀{i:Nat},clgs K C i=true->∀j,j<i->cl3 K (C j)=true
 | 0,_,j,hj=>by omega
 | i+1,h,j,hj=>by
  simp only[clgs,Bool.and_eq_true]at h;by_cases e:j=i
  ·subst e;exact h.2
  ·exact zkG h.1 j (by omega)
theorem zjU {K R}:∀{i:Nat},rlgs K R i=true->∀j,j<i->rl3 K (R j)=true
 | 0,_,j,hj=>by omega
 | i+1,h,j,hj=>by
  simp only[rlgs,Bool.and_eq_true]at h;by_cases e:j=i
  ·subst e;exact h.2
  ·exact zjU h.1 j (by omega)
theorem zmX {K X}:∀{r i:Nat},nlg K X r i=true->∀j,i<=j->j<i+r->(X j).n<=K/\(X j).m<=K
 | 0,_,_,j,h1,h2=>by omega
 | r+1,i,h,j,h1,h2=>by
  simp only[nlg,lg,Bool.and_eq_true,decide_eq_true_eq]at h;by_cases e:j=i
  ·subst e;exact h.1
  ·exact zmX h.2 j (by omega) (by omega)
theorem zee {K t} (h:lgN K t=true):t.n<=K/\t.m<=K:=by
 simpa only[lgN,lg,Bool.and_eq_true,decide_eq_true_eq]using h
structure MoK (K:Nat) (M:Mo):Prop where
 off:M.off.n<=K/\M.off.m<=K
 c:∀j,j<M.ck->((M.C j).cost.n<=K/\(M.C j).cost.m<=K)/\((M.C j).lo.v.n<=K/\(M.C j).lo.v.m<=K)/\(M.C j).hi.v.n<=K/\(M.C j).hi.v.m<=K
 r:∀j,j<M.rk->((M.R j).lo.v.n<=K/\(M.R j).lo.v.m<=K)/\((M.R j).hi.v.n<=K/\(M.R j).hi.v.m<=K)/\(M.R j).tk<=300/\∀p,p<(M.R j).tk->((M.R j).T p).n<=K/\((M.R j).T p).m<=K
theorem zra {K M} (h:lgM K M=true) (h1:M.ck<=64) (h2:M.rk<=64):MoK K M:=by
 have e0:(decide (64<M.ck) || decide (64<M.rk))=false:=by simp;omega
 unfold lgM at h;rw[e0,Bool.false_or]at h
 simp only[Bool.and_eq_true]at h;refine⟨zee h.1,λj hj=>?_,λj hj=>?_⟩
 ·have:=zkG h.2.1 j hj;simp only[cl3,Bool.and_eq_true]at this;exact⟨zee this.1,zee this.2.1,zee this.2.2⟩
 ·have:=zjU h.2.2 j hj;simp only[rl3,Bool.and_eq_true,decide_eq_true_eq]at this;exact⟨zee this.2.1,zee this.2.2.1,this.1,λp hp=>zmX this.2.2.2 p (by omega) (by omega)⟩
theorem Sm.mok {K M M'} (h:Sm M M') (k:MoK K M):MoK K M':=by
 have hn:∀{t t':Nm},Sn t t'->t.n<=K/\t.m<=K->t'.n<=K/\t'.m<=K:=λe l=>by rw[e.2.1,e.2.2.2.1];exact l
 refine⟨hn h.off k.off,λj hj=>?_,λj hj=>?_⟩
 ·rw[h.ck]at hj
  have a:=h.C j hj;have b:=k.c j hj
  exact⟨hn a.cost b.1,hn a.lo b.2.1,hn a.hv b.2.2⟩
 ·rw[h.rk]at hj
  have a:=h.R j hj;have b:=k.r j hj
  exact⟨hn a.lo b.1,hn a.hv b.2.1,by rw[a.tk];exact b.2.2.1,λp hp=>by rw[a.tk]at hp;exact hn (a.T p hp) (b.2.2.2 p hp)⟩
theorem MoX.mor {w M K} (h:MoX w M) (hn:MoN M) (hk:MoK K M) (hK:K<=65536) (h1:M.ck<=64) (h2:M.rk<=64):MoR w M:=by
 have hs:∀{t:Nm},NmB w t->t.n<=K/\t.m<=K->NmS w t:=λa b=>⟨a.1,le_trans b.1 hK,le_trans b.2 hK⟩
 refine⟨hs h.off hk.off,λj hj=>?_,λj hj=>?_,by omega,by omega⟩
 ·obtain⟨b,o,e,a1,a2⟩:=h.cls j hj;have q:=hk.c j hj;exact⟨b,o,e,a1,hs a2.cost q.1,hs a2.lo q.2.1,hs a2.hi q.2.2,hn.c j hj⟩
 ·obtain⟨b,o,e,a1,a2⟩:=h.rls j hj;have q:=hk.r j hj;refine⟨b,o,e,a1,hs a2.lo q.1,hs a2.hi q.2.1,λp hp=>?_,by omega,hn.r j hj⟩;obtain⟨b',o',e',c4,rw'⟩:=a2.tr p hp;exact⟨b',o',e',c4,rw',le_trans (q.2.2.2 p hp).1 hK,le_trans (q.2.2.2 p hp).2 hK⟩
theorem MoK.mos {K M} (h:MoK K M) (hK:K<=1000):MoS M:=by
 have hs:∀{a b:Nat},a<=K/\b<=K->a<=1000/\b<=1000:=λl=>⟨le_trans l.1 hK,le_trans l.2 hK⟩
 exact⟨hs h.off,λj hj=>⟨hs (h.c j hj).1,hs (h.c j hj).2.1,hs (h.c j hj).2.2⟩,λj hj=>⟨hs (h.r j hj).1,hs (h.r j hj).2.1,by have:=(h.r j hj).2.2.1;omega,λp hp=>hs ((h.r j hj).2.2.2 p hp)⟩⟩
theorem MoK.mob {K M} (h:MoK K M) (hK:K<=100):MoB M:=by
 have hs:∀{a b:Nat},a<=K/\b<=K->a<=100/\b<=100:=λl=>⟨le_trans l.1 hK,le_trans l.2 hK⟩
 exact⟨λj hj=>⟨hs (h.c j hj).2.1,hs (h.c j hj).2.2⟩,λj hj=>⟨hs (h.r j hj).1,hs (h.r j hj).2.1⟩⟩
theorem MoX.light {w M} (h:MoX w M):Cl0 w M.ca M.ck M.C/\Rl0 w M.ra M.rk M.R :=
 ⟨λj hj=>by obtain⟨b,o,e,a1,_⟩:=h.cls j hj;exact⟨b,o,e,a1⟩,λj hj=>by obtain⟨b,o,e,a1,a2⟩:=h.rls j hj;exact⟨b,o,e,a1,a2.tr,le_trans a2.tk (by decide)⟩⟩
end Go.Proofs.YtnlcjakjhmgenaaGreat
namespace Go.Proofs.YtnlcjakjhmgenaaGreat
open Value (slice agg)
open Obj (cells)
open Nat (le_refl le_trans zero_add)
open World (cell?_of_block)
open List (getElem?_eq_getElem)
open Go.Proofs.Tryz
open Go.ChangeShapes Go.WideShapes Go.ChangeAt Go.RowKit
theorem zkR {H:Type} {P:Program} {e:TypeId}:∀{l:List (DataW H)} {d:DataW H},d ∈ l->∀n ∈ d.weights P e,n ∈ DataW.weightsAll P e l
 | x :: l,d,h,n,hn=>by
  simp only[DataW.weightsAll,List.mem_append];rcases List.mem_cons.1 h with rfl|h
  ·exact .inl hn
  ·exact .inr (zkR h n hn)
def Wt {H:Type} (P:Program) (t:TypeId) (x:DataW H × List MemPlace):Prop:=∀n ∈ x.1.weights P t,n<=reachBytes
theorem zck {H:Type} {enc:TypeId × Value->H} {P:Program} {w:World} {t:TypeId} {fs:Array Field} {fuel:Nat} {cs:List Value} {x:DataW H × List MemPlace} (ht:P.underlying t=some (.struct fs)) (h:DataW.trod enc P w 0 (λ_=>true) true fuel t cs=some x) (hw:Wt P t x) :
  ∃k,∀(i:Nat) (f:Field),fs[i]?=some f->∃y,DataW.trod enc P w 0 (λ_=>true) true k f.type ((cs.drop f.offset).take (P.cellsOf f.type))=some y/\Wt P f.type y:=by
 obtain⟨xs,k,_,rfl,_,hlen,hf⟩:=DataW.trod_struct ht h;refine⟨k,λi f hi=>?_⟩;have hlt:i<xs.length:=by rw[hlen];exact(Array.getElem?_eq_some_iff.1 hi).1
 refine⟨xs[i],by rw[hf i f hi,getElem?_eq_getElem hlt],λn hn=>hw n ?_⟩;show n ∈ (DataW.agg (xs.map (·.1))).weights P t;simp only[DataW.weights,ht];refine DataW.weights_mem_each (j:=i) (t:=f.type) (d:=(xs[i]).1) ?_ ?_ n hn
 ·simp[hi]
 ·simp[hlt]
theorem sliceW {H:Type} {enc:TypeId × Value->H} {P:Program} {w:World} {t e:TypeId} {fuel:Nat} {cs:List Value} {x:DataW H × List MemPlace} (ht:P.underlying t=some (.slice e)) (h:DataW.trod enc P w 0 (λ_=>true) true fuel t cs=some x) (hw:Wt P t x) :
  cs=[slice none 0 0]∨∃(a:Addr) (len cap k:Nat),cs=[slice (some a) len cap]/\len<=cap/\cap<=maxLen/\cap*P.bytesOf e<=reachBytes /\
   ∀i,i<len->∃cs' y,w.cells? 0 (a.add (i*P.cellsOf e)) (P.cellsOf e)=some cs'/\DataW.trod enc P w 0 (λ_=>true) true k e cs'=some y/\Wt P e y:=by
 rcases Go.Deep.open_slice ht h with⟨hcs,_⟩|⟨a,len,cap,m,n,D,Pl,hcs,_,hl,hm,hmm,rfl,hel⟩
 ·exact .inl hcs
 ·simp only[if_true]at hmm;subst hmm;refine .inr ⟨a,len,m,n,hcs,hl,hm,?_,λi hi=>?_⟩
  ·refine hw _ ?_;simp only[DataW.weights,ht,List.length_map,List.length_range];rw[show len+(m-len)=m by omega];exact List.mem_cons_self
  ·obtain⟨cs',h1,h2⟩:=hel i (by omega);refine⟨cs',_,h1,h2,λk hk=>hw k ?_⟩;simp only[DataW.weights,ht];exact List.mem_cons_of_mem _ (List.mem_append_left _ (zkR (d:=D i) (List.mem_map.2 ⟨i,List.mem_range.2 hi,rfl⟩) k hk))
theorem Tryz.bytesU64:prog.bytesOf 150=8:=by kernel_rfl
theorem Tryz.bytesTerm:prog.bytesOf 66=64:=by kernel_rfl
theorem Tryz.bytesCol:prog.bytesOf 61=200:=by kernel_rfl
theorem Tryz.bytesRow:prog.bytesOf 64=168:=by kernel_rfl
theorem Tryz.cellsU:prog.cellsOf 150=1:=by kernel_rfl
theorem Tryz.cellsTerm:prog.cellsOf 66=4:=by kernel_rfl
theorem Tryz.cellsCol:prog.cellsOf 61=12:=by kernel_rfl
theorem Tryz.cellsRow:prog.cellsOf 64=10:=by kernel_rfl
theorem zlZ {H:Type} {enc:TypeId × Value->H} {W:World} {fuel:Nat} {v:Value} {x:DataW H × List MemPlace} (h:DataW.trod enc prog W 0 (λ_=>true) true fuel 22 [v]=some x) (hw:Wt prog 22 x) :
  ∃ao n cap f,v=slice ao n cap/\Rd .u64 W ao n f/\Lm f n/\(ao=none->n=0/\cap=0)/\(n<=cap/\cap<=9223372036854775807)/\n<=17592186044416:=by
 rcases open_ints underlying22 underlying150 Tryz.cellsU h with⟨hcs,hx⟩|⟨a,len',cap',zs,hcs,_,hl,hm,hz,hx,hcell,hwz⟩
 ·simp at hcs;subst hcs;exact⟨none,0,0,λ_=>0,rfl,Rd.zero,λj hj=>by omega,λ_=>⟨rfl,rfl⟩,⟨by omega,by omega⟩,by omega⟩
 ·simp at hcs;subst hcs;simp only[if_true]at hz;have hb:cap'*8<=reachBytes:=by
   have:cap'*prog.bytesOf 150<=reachBytes:=by
    refine hw _ ?_;rw[hx];simp only[DataW.weights,underlying22];have e:(lits .u64 (zs.take len'):List (DataW H)).length+(lits .u64 (zs.drop len'):List (DataW H)).length=cap':=by simp[lits];omega
    rw[e];exact List.mem_cons_self
   rw[Tryz.bytesU64]at this
   exact this
  refine⟨some a,len',cap',λj=>zs.getD j 0,rfl,λj hj=>?_,λj hj=>?_,(λh=>by cases h),⟨hl,by unfold maxLen at hm;omega⟩,by unfold reachBytes at hb;omega⟩
  ·obtain⟨b,off,spot⟩:=a;have hspot:spot=none:=by simpa[Addr.add]using World.cell?_spot (hcell 0 (by omega))
   subst hspot;exact⟨b,off,rfl,by have:=hcell j (by omega);rwa[addr_add]at this⟩
  ·have hmem:zs.getD j 0 ∈ zs:=by
    rw[List.getD_eq_getElem?_getD,getElem?_eq_getElem (by omega)];exact List.getElem_mem _
   have:=bounds_u64 (hwz _ hmem);show 0<=zs.getD j 0/\zs.getD j 0<18446744073709551616;omega
theorem zft {H:Type} {enc:TypeId × Value->H} {W:World} {k:Nat} {c0 c1 c2:Value} {z:DataW H × List MemPlace} (hf:DataW.trod enc prog W 0 (λ_=>true) true k 24 [c0,c1,c2]=some z) (hw:Wt prog 24 z) :
  ∃t:Nm,c0=.bool t.s/\c1=slice t.x t.n t.c/\c2=slice t.y t.m t.d/\NmB W t:=by
 obtain⟨k,hk⟩:=zck underlying24 hf hw;obtain⟨y0,h0,_⟩:=hk 0 _ rfl;obtain⟨y1,h1,w1⟩:=hk 1 _ rfl;obtain⟨y2,h2,w2⟩:=hk 2 _ rfl;have h0':DataW.trod enc prog W 0 (λ_=>true) true k 4 [c0]=some y0:=h0;have h1':DataW.trod enc prog W 0 (λ_=>true) true k 22 [c1]=some y1:=h1;have h2':DataW.trod enc prog W 0 (λ_=>true) true k 22 [c2]=some y2:=h2;obtain⟨s,hs,_⟩:=DataW.trod_bool underlying4 h0';obtain⟨ao,n,cap,f,rfl,hr,hlm,hnil,hc,hl⟩:=zlZ h1' w1;obtain⟨bo,m,cap',g,rfl,hr',hlm',hnil',hc',hl'⟩:=zlZ h2' w2;simp at hs;exact⟨⟨s,ao,n,cap,f,bo,m,cap',g⟩,hs,rfl,rfl,⟨hr,hlm,hc,hnil,hr',hlm',hc',hnil'⟩,hl,hl'⟩
theorem zgS {H:Type} {enc:TypeId × Value->H} {W:World} {k:Nat} {c0 c1 c2 c3:Value} {z:DataW H × List MemPlace} (hf:DataW.trod enc prog W 0 (λ_=>true) true k 59 [c0,c1,c2,c3]=some z) (hw:Wt prog 59 z) :
  ∃e:Ex,c0=.int .i64 e.i/\c1=.bool e.v.s/\c2=slice e.v.x e.v.n e.v.c/\c3=slice e.v.y e.v.m e.v.d/\NmB W e.v:=by
 obtain⟨k,hk⟩:=zck underlying59 hf hw;obtain⟨y0,h0,_⟩:=hk 0 _ rfl;obtain⟨y1,h1,w1⟩:=hk 1 _ rfl;have h0':DataW.trod enc prog W 0 (λ_=>true) true k 3 [c0]=some y0:=h0;have h1':DataW.trod enc prog W 0 (λ_=>true) true k 24 [c1,c2,c3]=some y1:=h1;obtain⟨i,hi,_⟩:=DataW.trod_int underlying3 h0';obtain⟨t,e1,e2,e3,ht⟩:=zft h1' w1;simp at hi;exact⟨⟨i,t⟩,hi,e1,e2,e3,ht⟩
theorem zbz {w:World} {base n:Nat} {a:Addr} {cs:List Value} (h:w.cells? base a n=some cs):cs.length=n/\∀(i:Nat) u,cs[i]?=some u->w.cell? (a.add i)=some u:=by
 obtain⟨_,h1,h2⟩:=World.cells?_some h;refine⟨h1,λi u hi=>?_⟩;have hlt:i<n:=by rw[<-h1];exact(List.getElem?_eq_some_iff.1 hi).1
 rw[<-hi];exact h2 i hlt
theorem ziE (a:Addr) (j i:Nat):(a.add j).add i=a.add (j+i):=by
 obtain⟨b,o,s⟩:=a;by_cases hj:j=0
 ·subst hj;by_cases hi:i=0
  ·subst hi;simp[Addr.add]
  ·simp[Addr.add,hi]
 ·by_cases hi:i=0
  ·subst hi;simp[Addr.add,hj]
  ·simp[Addr.add,hi,hj,Nat.add_assoc]
theorem zkD {w:World} {base n:Nat} {b o j:Nat} {cs:List Value} (h:w.cells? base (Addr.add ⟨b,o,none⟩ (j*n)) n=some cs):Cs w b (o+j*n) cs:=λi v e=>by
 have:=(zbz h).2 i v e;rw[ziE,addr_add]at this
 rw[Nat.add_assoc];exact this
theorem zeQ {w:World} {base n:Nat} {a:Addr} {cs:List Value} (h:w.cells? base (a.add (0*n)) n=some cs) (hn:0<n):a.spot=none:=by
 obtain⟨h1,h2⟩:=zbz h;have:=h2 0 cs[0] (getElem?_eq_getElem (by omega));rw[ziE,Nat.zero_mul]at this
 simpa[Addr.add]using World.cell?_spot this
theorem zqt {H:Type} {enc:TypeId × Value->H} {W:World} {fuel:Nat} {v:Value} {x:DataW H × List MemPlace} (h:DataW.trod enc prog W 0 (λ_=>true) true fuel 62 [v]=some x) (hw:Wt prog 62 x) :
  ∃ta tk tc col T,v=slice ta tk tc/\Tr W ta tk col T/\tk<=2199023255552/\∀p,p<tk->(T p).n<=17592186044416/\(T p).m<=17592186044416:=by
 rcases sliceW underlying62 h hw with hcs|⟨a,len,cap,k,hcs,hl,hm,hb,hel⟩
 ·simp at hcs;exact⟨none,0,0,λ_=>0,λ_=>nz9,hcs,λj hj=>by omega,by omega,λj hj=>by omega⟩
 ·simp at hcs;rw[Tryz.cellsTerm]at hel
  rw[Tryz.bytesTerm]at hb
  have hX:∀j,∃zt:Int × Nm,j<len->W.cells? 0 (a.add (j*4)) 4=some [.int .i64 zt.1,.bool zt.2.s,slice zt.2.x zt.2.n zt.2.c,slice zt.2.y zt.2.m zt.2.d]/\NmB W zt.2:=λj=>by
   by_cases hj:j<len
   ·obtain⟨cs',y,h1,h2,w2⟩:=hel j hj
    match cs',(zbz h1).1 with
    | [c0,c1,c2,c3],_ =>
     obtain⟨k',hk⟩:=zck underlying66 h2 w2;obtain⟨y0,g0,_⟩:=hk 0 _ rfl;obtain⟨y1,g1,w1⟩:=hk 1 _ rfl;have g0':DataW.trod enc prog W 0 (λ_=>true) true k' 3 [c0]=some y0:=g0;have g1':DataW.trod enc prog W 0 (λ_=>true) true k' 24 [c1,c2,c3]=some y1:=g1;obtain⟨i,hi,_⟩:=DataW.trod_int underlying3 g0';obtain⟨t,e1,e2,e3,ht⟩:=zft g1' w1;simp at hi;subst hi;subst e1;subst e2;subst e3
     exact⟨(i,t),λ_=>⟨h1,ht⟩⟩
   ·exact⟨(0,nz9),λh=>absurd h hj⟩
  have hX':∃Z:Nat->Int × Nm,∀j,j<len->W.cells? 0 (a.add (j*4)) 4=some [.int .i64 (Z j).1,.bool (Z j).2.s,.slice (Z j).2.x (Z j).2.n (Z j).2.c,.slice (Z j).2.y (Z j).2.m (Z j).2.d]/\NmB W (Z j).2:=⟨λj=>Classical.choose (hX j),λj=>Classical.choose_spec (hX j)⟩;obtain⟨Z,hZ⟩:=hX';refine⟨some a,len,cap,λj=>(Z j).1,λj=>(Z j).2,hcs,λj hj=>?_,by unfold reachBytes at hb;omega,λp hp=>(hZ p hp).2.2⟩;have hs:=zeQ (n:=4) (hZ 0 (by omega)).1 (by decide);obtain⟨b,o,sp⟩:=a;simp only at hs;subst hs;exact⟨b,o,rfl,cs4 (zkD (hZ j hj).1),(hZ j hj).2.1⟩
theorem zqv {H:Type} {enc:TypeId × Value->H} {W:World} {k:Nat} {c0 c1 c2 c3 c4 c5 c6 c7 c8 c9 c10 c11:Value} {z:DataW H × List MemPlace} (hf:DataW.trod enc prog W 0 (λ_=>true) true k 61 [c0,c1,c2,c3,c4,c5,c6,c7,c8,c9,c10,c11]=some z) (hw:Wt prog 61 z) :
  ∃c:Lc,[c0,c1,c2,c3,c4,c5,c6,c7,c8,c9,c10,c11]=c.vs/\LcB W c/\c.nm.size<=9223372036854775807:=by
 obtain⟨k,hk⟩:=zck underlying61 hf hw;obtain⟨y0,h0,_⟩:=hk 0 _ rfl;obtain⟨y1,h1,w1⟩:=hk 1 _ rfl;obtain⟨y2,h2,w2⟩:=hk 2 _ rfl;obtain⟨y3,h3,w3⟩:=hk 3 _ rfl;have h0':DataW.trod enc prog W 0 (λ_=>true) true k 9 [c0]=some y0:=h0;have h1':DataW.trod enc prog W 0 (λ_=>true) true k 24 [c1,c2,c3]=some y1:=h1;have h2':DataW.trod enc prog W 0 (λ_=>true) true k 59 [c4,c5,c6,c7]=some y2:=h2;have h3':DataW.trod enc prog W 0 (λ_=>true) true k 59 [c8,c9,c10,c11]=some y3:=h3;obtain⟨s,hs,_,hz⟩:=DataW.trod_string underlying9 h0';obtain⟨t,rfl,rfl,rfl,ht⟩:=zft h1' w1;obtain⟨e1,rfl,rfl,rfl,rfl,he1⟩:=zgS h2' w2;obtain⟨e2,rfl,rfl,rfl,rfl,he2⟩:=zgS h3' w3;simp at hs;subst hs;exact⟨⟨s,t,e1,e2⟩,rfl,⟨ht,he1,he2⟩,by unfold maxLen at hz;exact le_trans hz (by decide)⟩
theorem zqu {H:Type} {enc:TypeId × Value->H} {W:World} {k:Nat} {c0 c1 c2 c3 c4 c5 c6 c7 c8 c9:Value} {z:DataW H × List MemPlace} (hf:DataW.trod enc prog W 0 (λ_=>true) true k 64 [c0,c1,c2,c3,c4,c5,c6,c7,c8,c9]=some z) (hw:Wt prog 64 z) :
  ∃r:Lr,[c0,c1,c2,c3,c4,c5,c6,c7,c8,c9]=r.vs/\LrB W r/\r.nm.size<=9223372036854775807:=by
 obtain⟨k,hk⟩:=zck underlying64 hf hw;obtain⟨y0,h0,_⟩:=hk 0 _ rfl;obtain⟨y1,h1,w1⟩:=hk 1 _ rfl;obtain⟨y2,h2,w2⟩:=hk 2 _ rfl;obtain⟨y3,h3,w3⟩:=hk 3 _ rfl;have h0':DataW.trod enc prog W 0 (λ_=>true) true k 9 [c0]=some y0:=h0;have h1':DataW.trod enc prog W 0 (λ_=>true) true k 59 [c1,c2,c3,c4]=some y1:=h1;have h2':DataW.trod enc prog W 0 (λ_=>true) true k 59 [c5,c6,c7,c8]=some y2:=h2;have h3':DataW.trod enc prog W 0 (λ_=>true) true k 62 [c9]=some y3:=h3;obtain⟨s,hs,_,hz⟩:=DataW.trod_string underlying9 h0';obtain⟨e1,rfl,rfl,rfl,rfl,he1⟩:=zgS h1' w1;obtain⟨e2,rfl,rfl,rfl,rfl,he2⟩:=zgS h2' w2;obtain⟨ta,tk,tc,col,T,rfl,ht,hk',hn⟩:=zqt h3' w3;simp at hs;subst hs;exact⟨⟨s,e1,e2,ta,tk,tc,col,T⟩,rfl,⟨he1,he2,ht,hk',hn⟩,by unfold maxLen at hz;exact le_trans hz (by decide)⟩
theorem zoE {H:Type} {enc:TypeId × Value->H} {W:World} {fuel:Nat} {v:Value} {x:DataW H × List MemPlace} (h:DataW.trod enc prog W 0 (λ_=>true) true fuel 25 [v]=some x) (hw:Wt prog 25 x) :
  ∃ca ck cc C,v=slice ca ck cc/\Cl9 W ca ck C/\ck<=703687441776/\(ck<=cc/\cc<=9223372036854775807)/\∀j,j<ck->(C j).nm.size<=9223372036854775807:=by
 have z9:Lc:=⟨ByteArray.empty,nz9,⟨0,nz9⟩,⟨0,nz9⟩⟩;rcases sliceW underlying25 h hw with hcs|⟨a,len,cap,k,hcs,hl,hm,hb,hel⟩
 ·simp at hcs;exact⟨none,0,0,λ_=>z9,hcs,λj hj=>by omega,by omega,⟨by omega,by omega⟩,λj hj=>by omega⟩
 ·simp at hcs;rw[Tryz.cellsCol]at hel
  rw[Tryz.bytesCol]at hb
  have hX:∀j,∃c:Lc,j<len->W.cells? 0 (a.add (j*12)) 12=some c.vs/\LcB W c/\c.nm.size<=9223372036854775807:=λj=>by
   by_cases hj:j<len
   ·obtain⟨cs',y,h1,h2,w2⟩:=hel j hj
    match cs',(zbz h1).1 with
    | [c0,c1,c2,c3,c4,c5,c6,c7,c8,c9,c10,c11],_ =>
     obtain⟨c,e,hc,hn⟩:=zqv h2 w2;rw[e]at h1
     exact⟨c,λ_=>⟨h1,hc,hn⟩⟩
   ·exact⟨z9,λh=>absurd h hj⟩
  have hX':∃Z:Nat->Lc,∀j,j<len->W.cells? 0 (a.add (j*12)) 12=some (Z j).vs/\LcB W (Z j)/\(Z j).nm.size<=9223372036854775807:=⟨λj=>Classical.choose (hX j),λj=>Classical.choose_spec (hX j)⟩;obtain⟨Z,hZ⟩:=hX';refine⟨some a,len,cap,Z,hcs,λj hj=>?_,by unfold reachBytes at hb;omega,⟨hl,by unfold maxLen at hm;omega⟩,λj hj=>(hZ j hj).2.2⟩;have hs:=zeQ (n:=12) (hZ 0 (by omega)).1 (by decide);obtain⟨b,o,sp⟩:=a;simp only at hs;subst hs;exact⟨b,o,rfl,zkD (hZ j hj).1,(hZ j hj).2.1⟩
theorem zoD {H:Type} {enc:TypeId × Value->H} {W:World} {fuel:Nat} {v:Value} {x:DataW H × List MemPlace} (h:DataW.trod enc prog W 0 (λ_=>true) true fuel 26 [v]=some x) (hw:Wt prog 26 x) :
  ∃ra rk rc R,v=slice ra rk rc/\Rl9 W ra rk R/\rk<=837723144971/\(rk<=rc/\rc<=9223372036854775807)/\∀j,j<rk->(R j).nm.size<=9223372036854775807:=by
 have z9:Lr:=⟨ByteArray.empty,⟨0,nz9⟩,⟨0,nz9⟩,none,0,0,λ_=>0,λ_=>nz9⟩;rcases sliceW underlying26 h hw with hcs|⟨a,len,cap,k,hcs,hl,hm,hb,hel⟩
 ·simp at hcs;exact⟨none,0,0,λ_=>z9,hcs,λj hj=>by omega,by omega,⟨by omega,by omega⟩,λj hj=>by omega⟩
 ·simp at hcs;rw[Tryz.cellsRow]at hel
  rw[Tryz.bytesRow]at hb
  have hX:∀j,∃c:Lr,j<len->W.cells? 0 (a.add (j*10)) 10=some c.vs/\LrB W c/\c.nm.size<=9223372036854775807:=λj=>by
   by_cases hj:j<len
   ·obtain⟨cs',y,h1,h2,w2⟩:=hel j hj
    match cs',(zbz h1).1 with
    | [c0,c1,c2,c3,c4,c5,c6,c7,c8,c9],_ =>
     obtain⟨c,e,hc,hn⟩:=zqu h2 w2;rw[e]at h1
     exact⟨c,λ_=>⟨h1,hc,hn⟩⟩
   ·exact⟨z9,λh=>absurd h hj⟩
  have hX':∃Z:Nat->Lr,∀j,j<len->W.cells? 0 (a.add (j*10)) 10=some (Z j).vs/\LrB W (Z j)/\(Z j).nm.size<=9223372036854775807:=⟨λj=>Classical.choose (hX j),λj=>Classical.choose_spec (hX j)⟩;obtain⟨Z,hZ⟩:=hX';refine⟨some a,len,cap,Z,hcs,λj hj=>?_,by unfold reachBytes at hb;omega,⟨hl,by unfold maxLen at hm;omega⟩,λj hj=>(hZ j hj).2.2⟩;have hs:=zeQ (n:=10) (hZ 0 (by omega)).1 (by decide);obtain⟨b,o,sp⟩:=a;simp only at hs;subst hs;exact⟨b,o,rfl,zkD (hZ j hj).1,(hZ j hj).2.1⟩
theorem Tryz.cellsM:prog.cellsOf 28=5:=by kernel_rfl
theorem Tryz.readM:prog.readableRec 28=true:=by kernel_rfl
theorem Tryz.sizeM:28<prog.types.size:=of_decide_eq_true (by kernel_rfl)
theorem zrI {H:Type} {enc:TypeId × Value->H} {W:World} {base:Nat} {v:Value} {d:DataW H} {p:List MemPlace} (hok:Value.okWide prog W .any base 28 v) (h:DataW.Trod enc prog W 0 (λ_=>true) true 28 v d p) (hw:∀n ∈ d.weights prog 28,n<=reachBytes) :
  ∃M:Mo,v=M.val/\MoX W M/\MoN M/\MoC M:=by
 obtain⟨cs,rfl,hsz⟩:=okWide_struct underlying28 hok;rw[Tryz.cellsM]at hsz
 obtain⟨fuel,hf⟩:=h;obtain⟨l⟩:=cs
 match l,hsz with
 | [c0,c1,c2,c3,c4],_ =>
  obtain⟨k,hk⟩:=zck (x:=(d,p)) underlying28 hf hw;obtain⟨y0,h0,w0⟩:=hk 0 _ rfl;obtain⟨y1,h1,w1⟩:=hk 1 _ rfl;obtain⟨y2,h2,w2⟩:=hk 2 _ rfl;have h0':DataW.trod enc prog W 0 (λ_=>true) true k 24 [c0,c1,c2]=some y0:=h0;have h1':DataW.trod enc prog W 0 (λ_=>true) true k 25 [c3]=some y1:=h1;have h2':DataW.trod enc prog W 0 (λ_=>true) true k 26 [c4]=some y2:=h2;obtain⟨t,rfl,rfl,rfl,ht⟩:=zft h0' w0;obtain⟨ca,ck,cc,C,rfl,hC,hck,hcc,hcn⟩:=zoE h1' w1;obtain⟨ra,rk,rc,R,rfl,hR,hrk,hrc,hrn⟩:=zoD h2' w2;exact⟨⟨t,ca,ck,cc,C,ra,rk,rc,R⟩,rfl,⟨ht,hC,hR,hck,hrk⟩,⟨hcn,hrn⟩,hcc,hrc⟩
end Go.Proofs.YtnlcjakjhmgenaaGreat
namespace Go.Proofs.YtnlcjakjhmgenaaGreat
open Value (slice agg)
open Obj (cells)
open Nat (le_refl le_trans zero_add)
open World (cell?_of_block)
open List (getElem?_eq_getElem)
open Go.Proofs.Tryz
open Go.ChangeShapes Go.WideShapes Go.ChangeAt Go.RowKit
theorem Tryz.own:ownKnob prog.godebug=none:=by kernel_rfl
theorem Tryz.laidOut:laidOutB prog=true:=by kernel_rfl
end Go.Proofs.YtnlcjakjhmgenaaGreat
namespace Go.Proofs.YtnlcjakjhmgenaaGreat
open Value (slice agg)
open Obj (cells)
open Nat (le_refl le_trans zero_add)
open World (cell?_of_block)
open List (getElem?_eq_getElem)
open Go.Proofs.Tryz
open Go.ChangeShapes Go.WideShapes Go.ChangeAt Go.RowKit
theorem Tryz.bytesRat:prog.bytesOf 24=56:=by kernel_rfl
theorem Tryz.cellsRat:prog.cellsOf 24=3:=by kernel_rfl
theorem zgT {H:Type} {enc:TypeId × Value->H} {W:World} {fuel:Nat} {v:Value} {x:DataW H × List MemPlace} (h:DataW.trod enc prog W 0 (λ_=>true) true fuel 29 [v]=some x) (hw:Wt prog 29 x) :
  ∃ao k c X,v=slice ao k c/\Rr W ao k X/\k<=9223372036854775807:=by
 rcases sliceW underlying29 h hw with hcs|⟨a,len,cap,k,hcs,hl,hm,hb,hel⟩
 ·simp at hcs;exact⟨none,0,0,λ_=>nz9,hcs,λj hj=>by omega,by omega⟩
 ·simp at hcs;rw[Tryz.cellsRat]at hel
  rw[Tryz.bytesRat]at hb
  have hX:∀j,∃t:Nm,j<len->W.cells? 0 (a.add (j*3)) 3=some [.bool t.s,slice t.x t.n t.c,slice t.y t.m t.d]/\NmB W t:=λj=>by
   by_cases hj:j<len
   ·obtain⟨cs',y,h1,h2,w2⟩:=hel j hj
    match cs',(zbz h1).1 with
    | [c0,c1,c2],_ =>
     obtain⟨t,e1,e2,e3,ht⟩:=zft h2 w2;subst e1;subst e2;subst e3
     exact⟨t,λ_=>⟨h1,ht⟩⟩
   ·exact⟨nz9,λh=>absurd h hj⟩
  have hX':∃Z:Nat->Nm,∀j,j<len->W.cells? 0 (a.add (j*3)) 3=some [.bool (Z j).s,.slice (Z j).x (Z j).n (Z j).c,.slice (Z j).y (Z j).m (Z j).d]/\NmB W (Z j):=⟨λj=>Classical.choose (hX j),λj=>Classical.choose_spec (hX j)⟩;obtain⟨Z,hZ⟩:=hX';refine⟨some a,len,cap,Z,hcs,λj hj=>?_,by unfold reachBytes at hb;omega⟩;have hs:=zeQ (n:=3) (hZ 0 (by omega)).1 (by decide);obtain⟨b,o,sp⟩:=a;simp only at hs;subst hs;have hc:=zkD (hZ j hj).1;exact⟨b,o,rfl,⟨hc 0 _ rfl,hc 1 _ rfl,hc 2 _ rfl⟩,(hZ j hj).2.1⟩
end Go.Proofs.YtnlcjakjhmgenaaGreat
namespace Go.Proofs.YtnlcjakjhmgenaaGreat
open Value (slice agg)
open Obj (cells)
open Nat (le_refl le_trans zero_add)
open World (cell?_of_block)
open List (getElem?_eq_getElem)
open Go.Proofs.Tryz
open Go.ChangeShapes Go.WideShapes Go.ChangeAt Go.RowKit
theorem Tryz.cellsK:prog.cellsOf 31=4:=by kernel_rfl
theorem Tryz.readK:prog.readableRec 31=true:=by kernel_rfl
theorem Tryz.sizeK:31<prog.types.size:=of_decide_eq_true (by kernel_rfl)
theorem zrJ {H:Type} {enc:TypeId × Value->H} {W:World} {base:Nat} {v:Value} {d:DataW H} {p:List MemPlace} (hok:Value.okWide prog W .any base 31 v) (h:DataW.Trod enc prog W 0 (λ_=>true) true 31 v d p) (hw:∀n ∈ d.weights prog 31,n<=reachBytes) :
  ∃a0 k0 c0 X0 a1 k1 c1 X1 a2 k2 c2 X2 a3 k3 c3 X3,v=agg #[slice a0 k0 c0,slice a1 k1 c1,slice a2 k2 c2,slice a3 k3 c3]/\Rr W a0 k0 X0/\Rr W a1 k1 X1/\Rr W a2 k2 X2/\Rr W a3 k3 X3/\k0<=9223372036854775807/\k1<=9223372036854775807/\k2<=9223372036854775807/\k3<=9223372036854775807:=by
 obtain⟨cs,rfl,hsz⟩:=okWide_struct underlying31 hok;rw[Tryz.cellsK]at hsz
 obtain⟨fuel,hf⟩:=h;obtain⟨l⟩:=cs
 match l,hsz with
 | [v0,v1,v2,v3],_ =>
  obtain⟨k,hk⟩:=zck (x:=(d,p)) underlying31 hf hw;obtain⟨y0,g0,w0⟩:=hk 0 _ rfl;obtain⟨y1,g1,w1⟩:=hk 1 _ rfl;obtain⟨y2,g2,w2⟩:=hk 2 _ rfl;obtain⟨y3,g3,w3⟩:=hk 3 _ rfl;have g0':DataW.trod enc prog W 0 (λ_=>true) true k 29 [v0]=some y0:=g0;have g1':DataW.trod enc prog W 0 (λ_=>true) true k 29 [v1]=some y1:=g1;have g2':DataW.trod enc prog W 0 (λ_=>true) true k 29 [v2]=some y2:=g2;have g3':DataW.trod enc prog W 0 (λ_=>true) true k 29 [v3]=some y3:=g3;obtain⟨a0,k0,c0,X0,rfl,h0,l0⟩:=zgT g0' w0;obtain⟨a1,k1,c1,X1,rfl,h1,l1⟩:=zgT g1' w1;obtain⟨a2,k2,c2,X2,rfl,h2,l2⟩:=zgT g2' w2;obtain⟨a3,k3,c3,X3,rfl,h3,l3⟩:=zgT g3' w3;exact⟨a0,k0,c0,X0,a1,k1,c1,X1,a2,k2,c2,X2,a3,k3,c3,X3,rfl,h0,h1,h2,h3,l0,l1,l2,l3⟩
end Go.Proofs.YtnlcjakjhmgenaaGreat
namespace Go.Proofs.YtnlcjakjhmgenaaGreat
open Value (slice agg)
open Obj (cells)
open Nat (le_refl le_trans zero_add)
open World (cell?_of_block)
open List (getElem?_eq_getElem)
open Go.Proofs.Tryz
open Go.RowKit
def zau (P:Program) (md:Region.Mode) (ops:Array Oper) (Q:Exit->Act->World->Prop) (S:World->Prop) (k:Nat):Nat->Array Bool->Act->World->Prop
 | 0,listed,a,w=>Region.ready md ops listed=[]/\Q .normal a w
 | fuel+1,listed,a,w =>
  (Region.ready md ops listed=[]->Q .normal a w) /\
  ∀i ∈ Region.ready md ops listed,wpOp P ops Q i (λa' w'=>((listed.setIfInBounds i true).getD k true=false->S w')/\zau P md ops Q S k fuel (listed.setIfInBounds i true) a' w') a w
theorem zct {P ops Q md S k}:∀(fuel:Nat) (listed:Array Bool) (a:Act) (w:World),zau P md ops Q S k fuel listed a w->wpAny P md ops Q fuel listed a w
 | 0,_,_,_,h=>h
 | fuel+1,_,_,_,h=>⟨h.1,λi hi=>wpOp_mono (λa' w' h'=>zct fuel _ a' w' h'.2) (h.2 i hi)⟩
theorem zeu {ops md listed i j} (hi:i ∈ Region.ready md ops listed) (hj:j ∈ Region.ready md ops listed) (hd:i ∈ depsOf md ops j):False:=by
 obtain⟨oj,hoj,e,he,hb,rfl⟩:=mem_deps.1 hd;obtain⟨_,oj',hoj',hall⟩:=mem_ready.1 hj;rw[hoj]at hoj'
 cases hoj'
 have h1:=hall e he hb;have h0:=(mem_ready.1 hi).1;rcases Nat.lt_or_ge e.on listed.size with h'|h'
 ·simp[h']at h0 h1;rw[h0]at h1;cases h1
 ·simp[Array.getElem?_eq_none h']at h1
theorem zhP {P ops Q md S k i oi v} (hi:ops[i]?=some oi) (hsel:∀(j:Nat) (o:Oper) cs b,ops[j]?=some o->o.op≠.select cs b) (hQ:∀c a w,Q (.panic c) (a.put oi.dst v) w->Q (.panic c) a w) (hik:i≠k) :
  ∀(fuel:Nat) (listed:Array Bool) (a:Act) (w:World),
   (∀j oj,ops[j]?=some oj->j≠i->listed.getD j true=false->(∀e ∈ oj.after,Region.binds md e=true->e.on≠i)->oi.apart ops oj=true) ->
   i ∈ Region.ready md ops listed->YieldsIf P ops (λ_=>True) oi v a->(listed.getD k true=false->S w) ->
   zau P md ops Q S k fuel (listed.setIfInBounds i true) (a.put oi.dst v) w->zau P md ops Q S k (fuel+1) listed a w:=by
 intro fuel
 induction fuel with
 | zero =>
  intro listed a w _ hr hy hS H;refine⟨λh=>(by rw[h]at hr;cases hr),λj hj=>?_⟩;by_cases hji:j=i
  ·subst hji;exact hy.wpOp hi trivial ⟨λh=>hS (by rw[getD_set_ne true hik]at h;exact h),H⟩
  ·have:=ready_mono hj hji;rw[H.1]at this
   cases this
 | succ fuel ih =>
  intro listed a w hfree hr hy hS H;refine⟨λh=>(by rw[h]at hr;cases hr),λj hj=>?_⟩;by_cases hji:j=i
  ·subst hji;exact hy.wpOp hi trivial ⟨λh=>hS (by rw[getD_set_ne true hik]at h;exact h),H⟩
  ·have h1:=H.2 j (ready_mono hj hji);obtain⟨hjun,oj,hoj,hall⟩:=mem_ready.1 hj;have hnot:∀e ∈ oj.after,Region.binds md e=true->e.on≠i:=λe he hb heq=>zeu hr hj (mem_deps.2 ⟨oj,hoj,e,he,hb,heq⟩)
   have h2:=wpOp_putIf hoj (hfree j oj hoj hji hjun hnot) (λcs b=>hsel i oi cs b hi) (λcs b=>hsel j oj cs b hoj) hQ hy h1;have hfree':∀k ok,ops[k]?=some ok->k≠i->(listed.setIfInBounds j true).getD k true=false ->
     (∀e ∈ ok.after,Region.binds md e=true->e.on≠i)->oi.apart ops ok=true:=λk ok hk hki hun hno=>by
    refine hfree k ok hk hki ?_ hno;by_cases hjk:j=k
    ·subst hjk;exact hjun
    ·rw[getD_set_ne true hjk]at hun;exact hun
   have hS':∀w',(((listed.setIfInBounds i true).setIfInBounds j true).getD k true=false->S w')->(listed.setIfInBounds j true).getD k true=false->S w':=λw' h hk=>h (by
    by_cases hjk:j=k
    ·subst hjk;rcases Nat.lt_or_ge j listed.size with h'|h'
     ·simp[h']at hk
     ·simp[Array.getElem?_eq_none h']at hjun
    ·rw[getD_set_ne true hjk]at hk ⊢;rw[getD_set_ne true hik];exact hk)
   refine wpOp_mono (λa' w' h3=>⟨hS' _ h3.2.1,ih (listed.setIfInBounds j true) a' w' hfree' (ready_mono hr (Ne.symm hji)) h3.1 (hS' _ h3.2.1) ?_⟩) h2;rw[Array.setIfInBounds_comm _ _ hji];exact h3.2.2
theorem zes {P ops Q md S k i oi v fuel listed a w} (hi:ops[i]?=some oi) (hs:Region.noSelect ops=true) (hf:Region.free md ops listed i=true) (hr:(Region.ready md ops listed).contains i=true) (hik:(i==k)=false) (hQ:∀c a w,Q (.panic c) (a.put oi.dst v) w->Q (.panic c) a w) (hy:YieldsIf P ops (λ_=>True) oi v a) (hS:listed.getD k true=false->S w) (h:zau P md ops Q S k fuel (listed.setIfInBounds i true) (a.put oi.dst v) w):zau P md ops Q S k (fuel+1) listed a w :=
 zhP hi (Region.noSelect_spec hs) hQ (by simpa using hik) fuel listed a w (Region.free_spec hi hf) (by simpa using hr) hy hS h
theorem skP {P:Program} {ops:Array Oper} {Q:Exit->Act->World->Prop} {md:Region.Mode} {S:World->Prop} {k:Nat} {oi:Oper} {v:Value} {fuel:Nat} {listed:Array Bool} {a:Act} {w:World} (i:Nat) (h:zau P md ops Q S k fuel (listed.setIfInBounds i true) (a.put oi.dst v) w)
  (hi:ops[i]?=some oi:=by exact rfl) (hy:YieldsIf P ops (λ_=>True) oi v a:=by (refine Or.inl ⟨by rfl,?_⟩;intro w0 hSw;go_simp <;> with_reducible rfl))
  (hs:Region.noSelect ops=true:=by kernel_rfl) (hf:Region.free md ops listed i=true:=by kernel_rfl) (hr:(Region.ready md ops listed).contains i=true:=by kernel_rfl) (hik:(i==k)=false:=by kernel_rfl)
  (hQ:∀c a w,Q (.panic c) (a.put oi.dst v) w->Q (.panic c) a w:=by exact(λ_ _ _ h=>h)) (hS:listed.getD k true=false->S w:=by exact(λ_=>by assumption)):zau P md ops Q S k (fuel+1) listed a w :=
 zes hi hs hf hr hik hQ hy hS h
def AllReadyP (P:Program) (md:Region.Mode) (ops:Array Oper) (Q:Exit->Act->World->Prop) (S:World->Prop) (k:Nat) (fuel:Nat) (listed:Array Bool) (a:Act) (w:World) (rs:List Nat):Prop :=
 ∀i ∈ rs,wpOp P ops Q i (λa' w'=>((listed.setIfInBounds i true).getD k true=false->S w')/\zau P md ops Q S k fuel (listed.setIfInBounds i true) a' w') a w
theorem AllReadyP.nil {P ops Q md S k fuel listed a w}:AllReadyP P md ops Q S k fuel listed a w []:=λ_ h=>by cases h
theorem AllReadyP.cons {P ops Q md S k fuel listed a w i o rs} (ho:ops[i]?=some o) (h:∀K':Act->World->Prop,Shut (∀a w,((listed.setIfInBounds i true).getD k true=false->S w)->(((listed.setIfInBounds i true).getD k true=false->S w)->zau P md ops Q S k fuel (listed.setIfInBounds i true) a w)->K' a w)->if Region.wanted o (yielded ops a.tmps)=true then Oper.wp P o a w K' Q else K' (a.put o.dst undef) w) (hs:AllReadyP P md ops Q S k fuel listed a w rs):AllReadyP P md ops Q S k fuel listed a w (i :: rs):=λj hj=>by
 rcases List.mem_cons.1 hj with rfl|hj
 ·exact wpOp_step ho (λK' hK=>h K' (λa w hS hW=>hK a w ⟨hS,hW hS⟩))
 ·exact hs j hj
theorem zgP {P ops Q md S k rs fuel listed a w} (hr:Region.ready md ops listed=rs) (hne:rs≠[]) (h:AllReadyP P md ops Q S k fuel listed a w rs):zau P md ops Q S k (fuel+1) listed a w:=⟨λh0=>absurd (hr ▸ h0) hne,hr ▸ h⟩
theorem zhQ {P ops Q md S k listed a w} (hr:Region.ready md ops listed=[]) (h:Q .normal a w) :
  ∀fuel,zau P md ops Q S k fuel listed a w
 | 0=>⟨hr,h⟩
 | _+1=>⟨λ_=>h,by rw[hr];simp⟩
theorem rdP {P ops Q md} {S:World->Prop} {k fuel listed a w o} (i:Nat) (h:∀K':Act->World->Prop,Shut (∀a w,((listed.setIfInBounds i true).getD k true=false->S w)->(((listed.setIfInBounds i true).getD k true=false->S w)->zau P md ops Q S k fuel (listed.setIfInBounds i true) a w)->K' a w)->if Region.wanted o (yielded ops a.tmps)=true then Oper.wp P o a w K' Q else K' (a.put o.dst undef) w)
  (ho:ops[i]?=some o:=by exact rfl) (hr:Region.ready md ops listed=[i]:=by kernel_rfl):zau P md ops Q S k (fuel+1) listed a w:=zgP hr (by simp) (AllReadyP.cons ho h AllReadyP.nil)
theorem dnP {P ops Q md} {S:World->Prop} {k fuel listed a w} (h:Q .normal a w) (hr:Region.ready md ops listed=[]:=by kernel_rfl):zau P md ops Q S k fuel listed a w:=zhQ hr h fuel
theorem zaa {P ops Q S id a w} (k:Nat) (hm:P.follows .mixedOrders=true) (hS:S w.drew) (h:S w.drew->zau P .any ops Q S k ops.size (Array.replicate ops.size false) a w.drew):(Code.region id ops true).wp P Q a w :=
 wp_region_any hm (zct _ _ _ _ (h hS))
theorem ziL {P ops Q md S k i oi v} (hi:ops[i]?=some oi) (hsel:∀(j:Nat) (o:Oper) cs b,ops[j]?=some o->o.op≠.select cs b) (hQ:∀c a w,Q (.panic c) (a.put oi.dst v) w->Q (.panic c) a w) (hd:i ∈ zeq md ops ops.size [k]) :
  ∀(fuel:Nat) (listed:Array Bool) (a:Act) (w:World),
   (∀j oj,ops[j]?=some oj->j≠i->listed.getD j true=false->(∀e ∈ oj.after,Region.binds md e=true->e.on≠i)->oi.apart ops oj=true) ->
   i ∈ Region.ready md ops listed->listed.getD k true=false->(∀a b,listed.getD a false=true->b ∈ depsOf md ops a->listed.getD b false=true)->YieldsIf P ops S oi v a->S w ->
   zau P md ops Q S k fuel (listed.setIfInBounds i true) (a.put oi.dst v) w->zau P md ops Q S k (fuel+1) listed a w:=by
 intro fuel
 induction fuel with
 | zero =>
  intro listed a w _ hr _ _ hy hS H;refine⟨λh=>(by rw[h]at hr;cases hr),λj hj=>?_⟩;by_cases hji:j=i
  ·subst hji;exact hy.wpOp hi hS ⟨λ_=>hS,H⟩
  ·have:=ready_mono hj hji;rw[H.1]at this
   cases this
 | succ fuel ih =>
  intro listed a w hfree hr hk hcl hy hS H;refine⟨λh=>(by rw[h]at hr;cases hr),λj hj=>?_⟩;by_cases hji:j=i
  ·subst hji;exact hy.wpOp hi hS ⟨λ_=>hS,H⟩
  ·have h1:=H.2 j (ready_mono hj hji);obtain⟨hjun,oj,hoj,hall⟩:=mem_ready.1 hj;have hil:listed.getD i false=true->False:=λh=>by
    have h0:=(mem_ready.1 hr).1;rcases Nat.lt_or_ge i listed.size with h'|h'
    ·simp[h']at h0 h;rw[h0]at h;cases h
    ·simp[Array.getElem?_eq_none h']at h
   have hjd:∀b,b ∈ depsOf md ops j->listed.getD b false=true:=λb hb=>by
    obtain⟨o',ho',e,he,hb',rfl⟩:=mem_deps.1 hb;obtain⟨_,oj',hoj',hall'⟩:=mem_ready.1 hj;obtain rfl:o'=oj':=Option.some.inj (ho'.symm.trans hoj');exact hall' e he hb'
   have hjk:j≠k:=λe=>by
    subst e;exact hil (zbn hcl ops.size [j] (λa ha b hb=>by simp at ha;subst ha;exact hjd b hb) i hd)
   have hik:i≠k:=λe=>by
    subst e;refine hil (zbn hcl ops.size [i] (λa ha b hb=>?_) i hd);simp at ha;subst ha
    obtain⟨o',ho',e,he,hb',rfl⟩:=mem_deps.1 hb;obtain⟨_,oi',hoi',hall'⟩:=mem_ready.1 hr;obtain rfl:o'=oi':=Option.some.inj (ho'.symm.trans hoi');exact hall' e he hb'
   have hnot:∀e ∈ oj.after,Region.binds md e=true->e.on≠i:=λe he hb heq=>zeu hr hj (mem_deps.2 ⟨oj,hoj,e,he,hb,heq⟩)
   have h2:=wpOp_putIf hoj (hfree j oj hoj hji hjun hnot) (λcs b=>hsel i oi cs b hi) (λcs b=>hsel j oj cs b hoj) hQ hy h1;have hfree':∀k ok,ops[k]?=some ok->k≠i->(listed.setIfInBounds j true).getD k true=false ->
     (∀e ∈ ok.after,Region.binds md e=true->e.on≠i)->oi.apart ops ok=true:=λk ok hk hki hun hno=>by
    refine hfree k ok hk hki ?_ hno;by_cases hjk:j=k
    ·subst hjk;exact hjun
    ·rw[getD_set_ne true hjk]at hun;exact hun
   have hk':(listed.setIfInBounds j true).getD k true=false:=by rw[getD_set_ne true hjk];exact hk
   have hk2:((listed.setIfInBounds i true).setIfInBounds j true).getD k true=false:=by rw[getD_set_ne true hjk,getD_set_ne true hik];exact hk
   have hcl':∀a b,(listed.setIfInBounds j true).getD a false=true->b ∈ depsOf md ops a->(listed.setIfInBounds j true).getD b false=true:=λa b ha hb=>by
    by_cases e:a=j
    ·subst e;exact getD_set_true (hjd b hb)
    ·rw[getD_set_ne false (Ne.symm e)]at ha;exact getD_set_true (hcl a b ha hb)
   refine wpOp_mono (λa' w' h3=>⟨λ_=>h3.2.1 hk2,ih (listed.setIfInBounds j true) a' w' hfree' (ready_mono hr (Ne.symm hji)) hk' hcl' h3.1 (h3.2.1 hk2) ?_⟩) h2;rw[Array.setIfInBounds_comm _ _ hji];exact h3.2.2
def zmv (md:Region.Mode) (ops:Array Oper) (listed:Array Bool):Bool:=(List.range listed.size).all (λa=>!(listed.getD a false) || (depsOf md ops a).all (λb=>listed.getD b false))
theorem zmu {md ops listed} (h:zmv md ops listed=true):∀a b,listed.getD a false=true->b ∈ depsOf md ops a->listed.getD b false=true:=λa b ha hb=>by
 rcases Nat.lt_or_ge a listed.size with hl|hl
 ·have:=List.all_eq_true.1 h a (List.mem_range.2 hl);rw[ha]at this
  have h2:=List.all_eq_true.1 (show(depsOf md ops a).all (λb=>listed.getD b false)=true from(by simpa only[Bool.not_true,Bool.false_or]using this)) b hb;exact h2
 ·simp[Array.getElem?_eq_none hl]at ha
theorem zgO {P ops Q md S k i oi v fuel listed a w} (hi:ops[i]?=some oi) (hs:Region.noSelect ops=true) (hf:Region.free md ops listed i=true) (hr:(Region.ready md ops listed).contains i=true) (hd:(zeq md ops ops.size [k]).contains i=true) (hk:listed.getD k true=false) (hc:zmv md ops listed=true) (hQ:∀c a w,Q (.panic c) (a.put oi.dst v) w->Q (.panic c) a w) (hy:YieldsIf P ops S oi v a) (hS:S w) (h:zau P md ops Q S k fuel (listed.setIfInBounds i true) (a.put oi.dst v) w):zau P md ops Q S k (fuel+1) listed a w :=
 ziL hi (Region.noSelect_spec hs) hQ (by simpa using hd) fuel listed a w (Region.free_spec hi hf) (by simpa using hr) hk (zmu hc) hy hS h
theorem tkP {P:Program} {ops:Array Oper} {Q:Exit->Act->World->Prop} {md:Region.Mode} {S:World->Prop} {k:Nat} {oi:Oper} {v:Value} {fuel:Nat} {listed:Array Bool} {a:Act} {w:World} (i:Nat) (h:zau P md ops Q S k fuel (listed.setIfInBounds i true) (a.put oi.dst v) w)
  (hi:ops[i]?=some oi:=by exact rfl) (hy:YieldsIf P ops S oi v a:=by (refine Or.inl ⟨by rfl,?_⟩;intro w0 hSw;(try dsimp only at hSw);go_simp <;> with_reducible rfl))
  (hs:Region.noSelect ops=true:=by kernel_rfl) (hf:Region.free md ops listed i=true:=by kernel_rfl) (hr:(Region.ready md ops listed).contains i=true:=by kernel_rfl) (hd:(zeq md ops ops.size [k]).contains i=true:=by kernel_rfl) (hk:listed.getD k true=false:=by kernel_rfl) (hc:zmv md ops listed=true:=by kernel_rfl)
  (hQ:∀c a w,Q (.panic c) (a.put oi.dst v) w->Q (.panic c) a w:=by exact(λ_ _ _ h=>h)) (hS:S w:=by assumption):zau P md ops Q S k (fuel+1) listed a w :=
 zgO hi hs hf hr hd hk hc hQ hy hS h
def Gr (K base:Nat) (w:World) (v:Value) (p:List Rat):Prop:=∃T:Nat->Nm,RowG 24 3 base w v p.length (zaw (rls p.length T))/\∀(j:Nat) (q:Rat),p[j]?=some q->Rn K w (T j).s (T j).x (T j).n (T j).c (T j).f (T j).y (T j).m (T j).d (T j).g q
theorem zno (K base:Nat) (w:World):Gr K base w (slice none 0 0) []:=⟨λ_=>⟨false,none,0,0,λ_=>0,none,0,0,λ_=>0⟩,zai _ _ _ _,λj q h=>by simp at h⟩
theorem Gr.q_ {K base w w' v p} (h:Gr K base w v p) (hb:Bl w w'):Gr K base w' v p:=by
 obtain⟨T,h1,h2⟩:=h;exact⟨T,h1.q_ hb,λj q e=>(h2 j q e).q_ hb⟩
theorem zko {K base w0 w' p T g cap s x n c f y m d gg q} (hT:∀(j:Nat) (q:Rat),p[j]?=some q->Rn K w0 (T j).s (T j).x (T j).n (T j).c (T j).f (T j).y (T j).m (T j).d (T j).g q) (hr:RowG 24 3 base w' (slice (some ⟨g,0,none⟩) (p.length+1) cap) (p.length+1) (zaw (rls p.length T)++#[Value.bool s,slice x n c,slice y m d].toList)) (hk:Kp w0 w') (hq:Rn K w0 s x n c f y m d gg q):Gr K base w' (slice (some ⟨g,0,none⟩) (p.length+1) cap) (p++[q]):=by
 refine⟨zaN T p.length ⟨s,x,n,c,f,y,m,d,gg⟩,?_,λj q' e=>?_⟩
 ·rw[List.length_append,List.length_singleton,zeS];exact hr
 ·by_cases hj:j<p.length
  ·rw[List.getElem?_append_left hj]at e
   rw[putN_ne (by omega)];exact Rn.kp (hT j q' e) hk
  ·rw[List.getElem?_append_right (by omega)]at e
   have h0:j-p.length=0:=by
    rcases Nat.eq_zero_or_pos (j-p.length)with h|h
    ·exact h
    ·rw[List.getElem?_eq_none (by simp;omega)]at e;cases e
   have hjj:j=p.length:=by omega
   subst hjj;rw[h0]at e
   cases e
   rw[zbJ];exact Rn.kp hq hk
theorem Gr.rf {K base w ao n cap p} (h:Gr K base w (.slice ao n cap) p):Rf K w ao p:=λj q hj=>by
 obtain⟨T,h1,h2⟩:=h;have hl:j<p.length:=by
  rcases Nat.lt_or_ge j p.length with h|h
  ·exact h
  ·rw[List.getElem?_eq_none h]at hj;cases hj
 have hn:n=p.length:=by
  obtain⟨ao',cap',e⟩:=h1.slice;cases e;rfl
 subst hn;obtain⟨b,e,hc⟩:=zdv h1 hl;exact⟨b,0,T j,e,hc,h2 j q hj⟩
theorem Gr.slice {K base w v p} (h:Gr K base w v p):∃ao cap,v=.slice ao p.length cap/\p.length<=cap/\cap<=9223372036854775807:=by
 obtain⟨T,h1,h2⟩:=h;obtain⟨ao,cap,rfl⟩:=h1.slice;refine⟨ao,cap,rfl,?_⟩;rcases h1.2 with⟨hv,h0⟩|⟨_,_,_,hv,_,_,h5,h6,_⟩
 ·injection hv with _ e2 e3;omega
 ·injection hv with _ _ e3;subst e3;unfold maxLen at h6;omega
def ks (p:Bool) (n2:Nat):Int:=if p then (if n2=0 then 4 else 0) else 3
theorem zre:(prog.info? 149).map (λi=>(i.zero,i.size,i.bytes))=some (some (agg #[.int .i64 0,.bool false,slice none 0 0,slice none 0 0]),4,64):=by kernel_rfl
theorem Dn.kp {w w' x n d V} (h:Dn w x n d V) (hk:Kp w w'):Dn w' x n d V:=⟨h.rd.kp hk,h.dg,h.fm,h.val⟩
theorem Qn.kp {w w' s x n d y m g q} (h:Qn w s x n d y m g q) (hk:Kp w w'):Qn w' s x n d y m g q:=⟨⟨h.num.dn.kp hk,h.num.sgn,h.num.pos⟩,h.den.kp hk⟩
def QnT (K:Nat) (w:World) (t:Nm) (q:Rat):Prop:=t.n<=K/\t.m<=K/\Qn w t.s t.x t.n t.f t.y t.m t.g q
theorem QnT.q_ {K w w' t q} (h:QnT K w t q) (hb:Bl w w'):QnT K w' t q:=⟨h.1,h.2.1,h.2.2.q_ hb⟩
theorem QnT.kp {K w w' t q} (h:QnT K w t q) (hk:Kp w w'):QnT K w' t q:=⟨h.1,h.2.1,h.2.2.kp hk⟩
def Tq (K:Nat) (w:World) (ao:Option Addr) (v:List (Int × Rat)):Prop :=
 ∀(j:Nat) (a:Int) (q:Rat),v[j]?=some (a,q)->∃b o,∃t:Nm,ao=some ⟨b,o,none⟩/\C4 w b (o+j*4) (.int .i64 a) (.bool t.s) (slice t.x t.n t.c) (slice t.y t.m t.d)/\QnT K w t q
theorem Tq.q_ {K w w' ao v} (h:Tq K w ao v) (hb:Bl w w'):Tq K w' ao v:=λj a q hj=>by
 obtain⟨b,o,t,e,h1,h2⟩:=h j a q hj;exact⟨b,o,t,e,h1.q_ hb,h2.q_ hb⟩
theorem zqb:(prog.info? 91).map (λi=>(i.zero,i.size,i.bytes))=some (some (agg #[.bool false,slice none 0 0,slice none 0 0]),3,56):=by kernel_rfl
theorem zod {X X'}:∀{r i:Nat},(∀j,i<=j->j<i+r->Sn (X j) (X' j))->afr X' r i=afr X r i:=by
 intro r
 induction r with
 | zero=>intro i _;rfl
 | succ r ih =>
  intro i h;simp only[afr];rw[ih (λj a b=>h j (by omega) (by omega)),(h i (by omega) (by omega)).nfB]
def zrr (w w':World) (e:Ending) (k:Nat) (X:Nat->Nm):Prop:=∃aw cw X',e=.returned (slice aw k cw)/\Bl w w'/\(k<=cw/\cw<=9223372036854775807)/\Hid (Rl w' aw k X'/\∀j,j<k->Sn (X j) (X' j))
def Rqs (K:Nat) (w:World) (ao:Option Addr) (p:List Rat):Prop :=
 ∀(j:Nat) (q:Rat),p[j]?=some q->∃b o,∃t:Nm,ao=some ⟨b,o,none⟩/\C3 w b (o+j*3) (.bool t.s) (slice t.x t.n t.c) (slice t.y t.m t.d)/\QnT K w t q
theorem Rqs.q_ {K w w' ao p} (h:Rqs K w ao p) (hb:Bl w w'):Rqs K w' ao p:=λj q hj=>by
 obtain⟨b,o,t,e,h1,h2⟩:=h j q hj;exact⟨b,o,t,e,h1.q_ hb,h2.q_ hb⟩
def zru (K:Nat) (w w':World) (e:Ending) (k:Nat) (p:List Rat):Prop:=∃aw cw,e=.returned (slice aw k cw)/\Bl w w'/\(k<=cw/\cw<=9223372036854775807)/\Hid (Rqs K w' aw p)
theorem zfk {w ao k cap X} (h:Rl w ao k X) (hk:k<=10000) (hl:∀j,j<k->(X j).n<=1000/\(X j).m<=1000) :
  Calls prog 81 #[slice ao k cap] w λe w'=>e=.returned (.bool (afB k X))/\Bl w w':=by
 have H:=zk h;clear h;go_enter func81,ntmps81;go_wp2_with fail
 go_loopw[7] (λt wr=>∃(i:Nat),i<=k/\t=.int .i64 i/\Hid (Bl w wr)/\Hid (afB k X=afr X (k-i) i)) (λt _=>k-(intOf t).toNat)
 case atStart=>exact⟨0,by omega,rfl,Below.refl _ _,rfl⟩
 case round =>
  obtain⟨i,hi,rfl,HB,HT⟩:=hrel;by_cases hlt:i<k
  ·obtain⟨b,o,rfl,hc,hn,hn1,hn2⟩:=(H.out.q_ HB.out) i hlt;obtain⟨r,hr⟩:∃r,k-i=r+1:=⟨k-i-1,by omega⟩;have hT:afB k X=(nfB (X i) && afr X r (i+1)):=by rw[HT.out,hr];rfl
   have hr2:k-(i+1)=r:=by omega
   obtain⟨⟨s,x,n,c,f,y,m,d,g⟩,hTi⟩:∃t,X i=t:=⟨_,rfl⟩;rw[hTi]at hc hn hn1 hn2 hT
   obtain⟨x0,x1,x2⟩:=hc;replace x0:wr.cell? ⟨b,o+i*3,none⟩=some (.bool s):=x0;replace x1:wr.cell? ⟨b,o+i*3+1,none⟩=some (slice x n c):=x1;replace x2:wr.cell? ⟨b,o+i*3+2,none⟩=some (slice y m d):=x2;replace hn:Rw wr x n c f y m d g:=hn;replace hn1:n<=65536:=hn1;replace hn2:m<=65536:=hn2;have hblk:Bl wr (wr.alloc (cells #[.bool s,slice x n c,slice y m d] 24)):=zu (Below.refl _ _) _;obtain⟨hl1,hl2⟩:=hl i hlt;rw[hTi]at hl1 hl2
   have CF:=zk (zdC (s:=s) (hn.q_ hblk) hl1 hl2);have HTi:=zk hT;have HR2:=zk hr2
   have i1:((i:Nat):Int)<((k:Nat):Int):=by omega
   clear hT hr2 hTi hr hn hblk hl1 hl2;cases hf:rfB s f n g m
   ·have CF2:=CF;rw[hf]at CF2
    have HNF:Hid (nfB ⟨s,x,n,c,f,y,m,d,g⟩=false):=hf;clear CF hf;go_wp2_with fail
    refine CF2.out.mono ?_;rintro e w1 ⟨rfl,hb1⟩;obtain⟨_,_,_,_,hb2⟩:=znS hb1;go_wp2;go_ret;refine⟨?_,bUp HB.out hb2⟩;rw[HTi.out,HNF.out];rfl
   ·have CF2:=CF;rw[hf]at CF2
    have HNF:Hid (nfB ⟨s,x,n,c,f,y,m,d,g⟩=true):=hf;clear CF hf;go_wp2_with fail
    refine CF2.out.mono ?_;rintro e w1 ⟨rfl,hb1⟩;obtain⟨_,_,_,_,hb2⟩:=znS hb1;have HB2:=zI HB hb2;clear hb1 hb2;go_wp2;go_roundw
    case rel =>
     refine⟨i+1,by omega,by go_num,HB2.out,?_⟩;show _=_;rw[HTi.out,HNF.out,HR2.out];rfl
    case measure=>simp[intOf];omega
  ·have e1:i=k:=by omega
   have HTe:Hid (afB k X=true):=by
    show _=_;rw[HT.out,e1,Nat.sub_self];rfl
   have i2:¬(((i:Nat):Int)<((k:Nat):Int)):=by omega
   clear e1 HT;go_wp2;go_ret;refine⟨?_,HB.out⟩;rw[HTe.out];rfl
def zpT (base:Nat) (w w':World) (e:Ending) (k:Nat) (X:Nat->Nm):Prop:=∃a c X',e=.returned (slice a k c)/\Bl w w'/\(k<=c/\c<=9223372036854775807)/\Hid ((Rl w' a k X'/\∀j,j<k->Sn (X j) (X' j))/\∀b o s,a=some ⟨b,o,s⟩->base<=b)
theorem zoI {w ao k cap X} (h:Rl w ao k X) (hk:k<=10000) (hl:∀j,j<k->(X j).n<=1000/\(X j).m<=1000) :
  Calls prog 31 #[slice ao k cap] w λe w'=>zpT w.heap.size w w' e k X:=by
 have H:=zk h;clear h;go_enter func31,ntmps31;go_wp2_with fail
 go_loopw[3,8] (λov t wr=>∃(i:Nat) (T':Nat->Nm),i<=k/\t=.int .i64 i/\Hid (Bl w wr)/\Hid (RowG 24 3 w.heap.size wr ov i (zaw (rls i T')))/\Hid (∀j,j<i->Sn (X j) (T' j)/\Rw wr (T' j).x (T' j).n (T' j).c (T' j).f (T' j).y (T' j).m (T' j).d (T' j).g)) (λ_ t _=>k-(intOf t).toNat)
 case atStart=>exact⟨0,X,by omega,rfl,Below.refl _ _,zai _ _ _ _,λj hj=>by omega⟩
 case round =>
  obtain⟨i,T',hi,rfl,HB,HRow,HT⟩:=hrel;by_cases hlt:i<k
  ·obtain⟨b,o,hao,hc,hn,hn1,hn2⟩:=(H.out.q_ HB.out) i hlt;subst hao;obtain⟨⟨s,x,n,c,f,y,m,d,g⟩,hTi⟩:∃t,X i=t:=⟨_,rfl⟩;rw[hTi]at hc hn
   obtain⟨x0,x1,x2⟩:=hc;replace x0:wr.cell? ⟨b,o+i*3,none⟩=some (.bool s):=x0;replace x1:wr.cell? ⟨b,o+i*3+1,none⟩=some (slice x n c):=x1;replace x2:wr.cell? ⟨b,o+i*3+2,none⟩=some (slice y m d):=x2;have i1:((i:Nat):Int)<((k:Nat):Int):=by omega
   obtain⟨hn10,hm10⟩:=hl i hlt;rw[hTi]at hn10 hm10
   replace hn:Rw wr x n c f y m d g:=hn;have hb5:=zA wr (cells #[.bool s,slice x n c,slice y m d] 24);have HN:=zk (hn.q_ hb5);have HTi:=zk hTi;have HRow5:=zk (HRow.out.q_ hb5);have HB5:=zI HB hb5
   have HT5:Hid (∀j,j<i->Sn (X j) (T' j)/\Rw (wr.alloc (cells #[.bool s,slice x n c,slice y m d] 24)) (T' j).x (T' j).n (T' j).c (T' j).f (T' j).y (T' j).m (T' j).d (T' j).g):=λj hj=>⟨(HT.out j hj).1,(HT.out j hj).2.q_ hb5⟩
   clear hn hTi hb5 hn1 hn2;go_wp2_with fail
   clear x0 x1 x2 HB HRow HT;generalize wr.alloc (cells #[.bool s,slice x n c,slice y m d] 24)=w5 at *;refine(zdA (s:=s) HN.out (le_trans hn10 (by decide)) (le_trans hm10 (by decide))).mono ?_;rintro e w6 ⟨z6,c6,z7,c7,rfl,hb6,HQ⟩;have HB6:=zI HB5 hb6;have HRow6:=zk (HRow5.out.q_ hb6)
   have HT6:Hid (∀j,j<i->Sn (X j) (T' j)/\Rw w6 (T' j).x (T' j).n (T' j).c (T' j).f (T' j).y (T' j).m (T' j).d (T' j).g):=λj hj=>⟨(HT5.out j hj).1,(HT5.out j hj).2.q_ hb6⟩
   have hsz:=HB6.out.size;clear hb6 HB5 HRow5 HT5 HN;go_wp2_with(at_builtin;go_must (refine zW w6 rfl (.tmp 12) (.tmp 15) 29 rfl w.heap.size 24 56 3 (agg #[.bool false,slice none 0 0,slice none 0 0]) underlying29 zfi rfl (by decide) nz3 u3 i (zaw (rls i T')) rfl HRow6.out #[.bool s,slice z6 n c6,slice z7 m c7] rfl rfl (zmS _ _ _ _ _ _ _) (ziZ _ _ _ _ _ _ _) ?p1 (by decide) hsz ?_))
   case p1=>omega
   intro g8 cap8 w8 hr8 hk8 hb8 hg8;have HB8:=zk (hb8 w HB6.out (le_refl _));have HR8:Hid (RowG 24 3 w.heap.size w8 (slice (some ⟨g8,0,none⟩) (i+1) cap8) (i+1) (zaw (rls (i+1) (zaN T' i ⟨s,z6,n,c6,f,z7,m,c7,g⟩)))):=by
    show RowG _ _ _ _ _ _ _;rw[zeS];exact hr8
   have HT8:Hid (∀j,j<i+1->Sn (X j) (zaN T' i ⟨s,z6,n,c6,f,z7,m,c7,g⟩ j)/\Rw w8 (zaN T' i ⟨s,z6,n,c6,f,z7,m,c7,g⟩ j).x (zaN T' i ⟨s,z6,n,c6,f,z7,m,c7,g⟩ j).n (zaN T' i ⟨s,z6,n,c6,f,z7,m,c7,g⟩ j).c (zaN T' i ⟨s,z6,n,c6,f,z7,m,c7,g⟩ j).f (zaN T' i ⟨s,z6,n,c6,f,z7,m,c7,g⟩ j).y (zaN T' i ⟨s,z6,n,c6,f,z7,m,c7,g⟩ j).m (zaN T' i ⟨s,z6,n,c6,f,z7,m,c7,g⟩ j).d (zaN T' i ⟨s,z6,n,c6,f,z7,m,c7,g⟩ j).g):=λj hj=>by
    by_cases e:j=i
    ·subst e;rw[zbJ];rw[HTi.out];exact⟨⟨rfl,rfl,rfl,rfl,rfl⟩,Rw.kp HQ.out hk8⟩
    ·rw[putN_ne e];exact⟨(HT6.out j (by omega)).1,Rw.kp (HT6.out j (by omega)).2 hk8⟩
   clear hr8 hk8 hb8 hg8 HRow6 HT6 HB6 HQ hsz;go_wp2;go_roundw
   case rel=>exact⟨i+1,_,by omega,by go_num,HB8.out,HR8.out,HT8.out⟩
   case measure=>simp[intOf];omega
  ·have e1:i=k:=by omega
   have i1:¬(((i:Nat):Int)<((k:Nat):Int)):=by omega
   rw[e1]at HRow HT
   obtain⟨aw,cw,rfl⟩:=HRow.out.slice;have hcw:k<=cw/\cw<=9223372036854775807:=by
    rcases HRow.out.2 with⟨hv,h0⟩|⟨_,_,_,hv,_,_,h5,h6,_⟩
    ·cases hv;omega
    ·cases hv;unfold maxLen at h6;omega
   clear e1;go_wp2;go_ret;exact⟨aw,cw,T',rfl,HB.out,hcw,⟨(λj hj=>by obtain⟨b,hb,h4⟩:=zdv HRow.out hj;obtain⟨⟨_,e2,_,e4,_⟩,h6⟩:=HT.out j hj;exact⟨b,0,hb,h4,h6,by rw[e2];exact le_trans (hl j hj).1 (by decide),by rw[e4];exact le_trans (hl j hj).2 (by decide)⟩),λj hj=>(HT.out j hj).1⟩,λb o s e=>(HRow.out.lt b (by rw[e];rfl)).1⟩
theorem zoJ {w ao k cap X} (h:Rl w ao k X) (hk:k<=10000) (hl:∀j,j<k->(X j).n<=1000/\(X j).m<=1000) :
  Calls prog 31 #[slice ao k cap] w λe w'=>zrr w w' e k X :=
 (zoI h hk hl).mono λ_ _ ⟨a,c,X',h1,h2,h3,h4⟩=>⟨a,c,X',h1,h2,h3,h4.out.1⟩
theorem zpy {w L ao k cap X p} (h:Rl w ao k X) (hk:k<=10000) (hL:L<=16000) (hlp:p.length=k) (hq:∀j,j<k->∃q,p[j]?=some q/\Rn L w (X j).s (X j).x (X j).n (X j).c (X j).f (X j).y (X j).m (X j).d (X j).g q) :
  Calls prog 85 #[slice ao k cap] w λe w'=>zru (2*L) w w' e k p:=by
 have H:=zk h;clear h;go_enter func85,ntmps85;go_wp2_with fail
 go_loopw[3,8] (λov t wr=>∃(i:Nat) (T':Nat->Nm),i<=k/\t=.int .i64 i/\Hid (Bl w wr)/\Hid (RowG 91 3 w.heap.size wr ov i (zaw (rls i T')))/\Hid (∀j,j<i->∃q,p[j]?=some q/\QnT (2*L) wr (T' j) q)) (λ_ t _=>k-(intOf t).toNat)
 case atStart=>exact⟨0,X,by omega,rfl,Below.refl _ _,zai _ _ _ _,λj hj=>by omega⟩
 case round =>
  obtain⟨i,T',hi,rfl,HB,HRow,HT⟩:=hrel;by_cases hlt:i<k
  ·obtain⟨b,o,hao,hc,hn,hn1,hn2⟩:=(H.out.q_ HB.out) i hlt;subst hao;obtain⟨⟨s,x,n,c,f,y,m,d,g⟩,hTi⟩:∃t,X i=t:=⟨_,rfl⟩;rw[hTi]at hc hn
   obtain⟨x0,x1,x2⟩:=hc;replace x0:wr.cell? ⟨b,o+i*3,none⟩=some (.bool s):=x0;replace x1:wr.cell? ⟨b,o+i*3+1,none⟩=some (slice x n c):=x1;replace x2:wr.cell? ⟨b,o+i*3+2,none⟩=some (slice y m d):=x2;have i1:((i:Nat):Int)<((k:Nat):Int):=by omega
   obtain⟨q,hvq,hrn⟩:=hq i hlt;rw[hTi]at hrn
   replace hn:Rn L wr s x n c f y m d g q:=hrn.q_ HB.out;have HVq:=zk hvq;have hb5:=zA wr (cells #[.bool s,slice x n c,slice y m d] 24);have HN:=zk (hn.q_ hb5);have HTi:=zk hTi;have HRow5:=zk (HRow.out.q_ hb5);have HB5:=zI HB hb5
   have HT5:Hid (∀j,j<i->∃q,p[j]?=some q/\QnT (2*L) (wr.alloc (cells #[.bool s,slice x n c,slice y m d] 24)) (T' j) q):=λj hj=>by obtain⟨q,h1,h2⟩:=HT.out j hj;exact⟨q,h1,h2.q_ hb5⟩
   clear hn hTi hb5 hn1 hn2;go_wp2_with fail
   clear x0 x1 x2 HB HRow HT;generalize wr.alloc (cells #[.bool s,slice x n c,slice y m d] 24)=w5 at *;refine((zdB HN.out (by omega)).mono (R':=λe w'=>∃s6 x6 n6 c6 d6 y6 m6 e6 g6,e=.returned (agg #[.bool s6,slice x6 n6 c6,slice y6 m6 e6])/\Bl w5 w'/\Hid (n6<=2*L/\m6<=2*L/\Qn w' s6 x6 n6 d6 y6 m6 g6 q)) (λ_ _ ⟨s,x,n,c,d,y,m,c',g,h1,h2,h3,h4,h5⟩=>⟨s,x,n,c,d,y,m,c',g,h1,h2,h3,h4,h5⟩)).mono ?_;rintro e w6 ⟨s6,x6,n6,c6,d6,y6,m6,e6,g6,rfl,hb6,HQ⟩;have HB6:=zI HB5 hb6;have HRow6:=zk (HRow5.out.q_ hb6)
   have HT6:Hid (∀j,j<i->∃q,p[j]?=some q/\QnT (2*L) w6 (T' j) q):=λj hj=>by obtain⟨q,h1,h2⟩:=HT5.out j hj;exact⟨q,h1,h2.q_ hb6⟩
   have hsz:=HB6.out.size;clear hb6 HB5 HRow5 HT5 HN;go_wp2_with(at_builtin;go_must (refine zW w6 rfl (.tmp 12) (.tmp 15) 97 rfl w.heap.size 91 56 3 (agg #[.bool false,slice none 0 0,slice none 0 0]) underlying97 zqb rfl (by decide) nz3 u3 i (zaw (rls i T')) rfl HRow6.out #[.bool s6,slice x6 n6 c6,slice y6 m6 e6] rfl rfl (zmS _ _ _ _ _ _ _) (ziZ _ _ _ _ _ _ _) ?p1 (by decide) hsz ?_))
   case p1=>omega
   intro g8 cap8 w8 hr8 hk8 hb8 hg8;have HB8:=zk (hb8 w HB6.out (le_refl _));have HR8:Hid (RowG 91 3 w.heap.size w8 (slice (some ⟨g8,0,none⟩) (i+1) cap8) (i+1) (zaw (rls (i+1) (zaN T' i ⟨s6,x6,n6,c6,d6,y6,m6,e6,g6⟩)))):=by
    show RowG _ _ _ _ _ _ _;rw[zeS];exact hr8
   have HT8:Hid (∀j,j<i+1->∃q,p[j]?=some q/\QnT (2*L) w8 (zaN T' i ⟨s6,x6,n6,c6,d6,y6,m6,e6,g6⟩ j) q):=λj hj=>by
    by_cases e:j=i
    ·subst e;rw[zbJ];exact⟨q,HVq.out,QnT.kp (t:=⟨s6,x6,n6,c6,d6,y6,m6,e6,g6⟩) HQ.out hk8⟩
    ·rw[putN_ne e];obtain⟨q,h1,h2⟩:=HT6.out j (by omega);exact⟨q,h1,h2.kp hk8⟩
   clear hr8 hk8 hb8 hg8 HRow6 HT6 HB6 HQ hsz;go_wp2;go_roundw
   case rel=>exact⟨i+1,_,by omega,by go_num,HB8.out,HR8.out,HT8.out⟩
   case measure=>simp[intOf];omega
  ·have e1:i=k:=by omega
   have i1:¬(((i:Nat):Int)<((k:Nat):Int)):=by omega
   rw[e1]at HRow HT
   obtain⟨aw,cw,rfl⟩:=HRow.out.slice;have hcw:k<=cw/\cw<=9223372036854775807:=by
    rcases HRow.out.2 with⟨hv,h0⟩|⟨_,_,_,hv,_,_,h5,h6,_⟩
    ·cases hv;omega
    ·cases hv;unfold maxLen at h6;omega
   clear e1;go_wp2;go_ret;exact⟨aw,cw,rfl,HB.out,hcw,(λj q hj=>by have hlt2:j<k:=by { have:=(List.getElem?_eq_some_iff.1 hj).1;omega };obtain⟨b,hb,h4⟩:=zdv HRow.out hlt2;obtain⟨q',h5,h6⟩:=HT.out j hlt2;rw[hj]at h5;obtain rfl:=Option.some.inj h5;exact⟨b,0,T' j,hb,h4,h6⟩)⟩
def pnE (k:Nat) (X:Nat->Nm) (z:Int):Int:=if afB k X=true then (if (k:Int)=z then 0 else 7) else 3
theorem zcg {w ao k cap X z} (h:Rl w ao k X) (hk:k<=1048576) :
  Calls prog 73 #[slice ao k cap,.int .i64 z] w λe w'=>e=.returned (.int .i64 (pnE k X z))/\Bl w w':=by
 have H:=zk h;clear h;go_enter func73,ntmps73;go_wp2_with fail
 go_loopw[9] (λt wr=>∃(i:Nat),i<=k/\t=.int .i64 i/\Hid (Bl w wr)/\Hid (afB k X=afr X (k-i) i)) (λt _=>k-(intOf t).toNat)
 case atStart=>exact⟨0,by omega,rfl,Below.refl _ _,rfl⟩
 case round =>
  obtain⟨i,hi,rfl,HB,HT⟩:=hrel;by_cases hlt:i<k
  ·obtain⟨b,o,rfl,hc,hn,hn1,hn2⟩:=(H.out.q_ HB.out) i hlt;obtain⟨r,hr⟩:∃r,k-i=r+1:=⟨k-i-1,by omega⟩;have hT:afB k X=(nfB (X i) && afr X r (i+1)):=by rw[HT.out,hr];rfl
   have hr2:k-(i+1)=r:=by omega
   obtain⟨⟨s,x,n,c,f,y,m,d,g⟩,hTi⟩:∃t,X i=t:=⟨_,rfl⟩;rw[hTi]at hc hn hn1 hn2 hT
   obtain⟨x0,x1,x2⟩:=hc;replace x0:wr.cell? ⟨b,o+i*3,none⟩=some (.bool s):=x0;replace x1:wr.cell? ⟨b,o+i*3+1,none⟩=some (slice x n c):=x1;replace x2:wr.cell? ⟨b,o+i*3+2,none⟩=some (slice y m d):=x2;replace hn:Rw wr x n c f y m d g:=hn;replace hn1:n<=65536:=hn1;replace hn2:m<=65536:=hn2;have hblk:Bl wr (wr.alloc (cells #[.bool s,slice x n c,slice y m d] 24)):=zu (Below.refl _ _) _;have CF:=zk (zdz (s:=s) (hn.q_ hblk) (by omega) (by omega));have HTi:=zk hT;have HR2:=zk hr2
   have i1:((i:Nat):Int)<((k:Nat):Int):=by omega
   clear hT hr2 hTi hr hn hblk;cases hf:rfB s f n g m
   ·have CF2:=CF;rw[hf]at CF2
    have HNF:Hid (nfB ⟨s,x,n,c,f,y,m,d,g⟩=false):=hf;clear CF hf;go_wp2_with fail
    refine CF2.out.mono ?_;rintro e w1 ⟨rfl,hb1⟩;obtain⟨_,_,_,_,hb2⟩:=znS hb1;go_wp2;go_ret;refine⟨?_,bUp HB.out hb2⟩;rw[pnE,HTi.out,HNF.out];rfl
   ·have CF2:=CF;rw[hf]at CF2
    have HNF:Hid (nfB ⟨s,x,n,c,f,y,m,d,g⟩=true):=hf;clear CF hf;go_wp2_with fail
    refine CF2.out.mono ?_;rintro e w1 ⟨rfl,hb1⟩;obtain⟨_,_,_,_,hb2⟩:=znS hb1;have HB2:=zI HB hb2;clear hb1 hb2;go_wp2;go_roundw
    case rel =>
     refine⟨i+1,by omega,by go_num,HB2.out,?_⟩;show _=_;rw[HTi.out,HNF.out,HR2.out];rfl
    case measure=>simp[intOf];omega
  ·have e1:i=k:=by omega
   have HTe:Hid (afB k X=true):=by
    show _=_;rw[HT.out,e1,Nat.sub_self];rfl
   have i2:¬(((i:Nat):Int)<((k:Nat):Int)):=by omega
   clear e1 HT;by_cases hz:((k:Nat):Int)=z
   ·have hz1:(((k:Nat):Int) != z)=false:=by simpa using hz
    have HZ:=zk (show pnE k X z=0 by rw[pnE,HTe.out];simp[hz]);clear hz;go_wp2;go_ret;refine⟨?_,HB.out⟩;rw[HZ.out];rfl
   ·have hz1:(((k:Nat):Int) != z)=true:=by simpa using hz
    have HZ:=zk (show pnE k X z=7 by rw[pnE,HTe.out];simp[hz]);clear hz;go_wp2;go_ret;refine⟨?_,HB.out⟩;rw[HZ.out];rfl
theorem Rk.of {w w' B k} (h:Rk w B k) (hB:w'.heap[B]?=w.heap[B]?):Rk w' B k :=
 ⟨(by
  have h1:=h.z;rcases Nat.lt_or_ge B w'.heap.size with h2|h2
  ·exact h2
  ·rw[Array.getElem?_eq_none h2,Array.getElem?_eq_getElem h1]at hB;cases hB),λo ho=>by obtain⟨u,h1,h2⟩:=h.has o ho;exact⟨u,(cell?_of_block (a:=⟨B,o,none⟩) hB).trans h1,h2⟩,λo=>by have:=h.fz o;simp only[World.frozen?,hB]at this ⊢;exact this⟩
theorem Rl.st {w w' ao k B X} (h:Rl w ao k X) (hk:Kp w w') (hne:∀b,b≠B->w'.heap[b]?=w.heap[b]?) (hnb:∀o s,w.cell? ⟨B,o,none⟩≠some (.bool s)):Rl w' ao k X:=λj hj=>by
 obtain⟨b,o,e,⟨c0,c1,c2⟩,h1,h2⟩:=h j hj;have hB:b≠B:=λe=>hnb _ _ (e ▸ c0)
 have hs:=hne b hB;exact⟨b,o,e,⟨(cell?_of_block (a:=⟨b,o+j*3,none⟩) hs).trans c0,(cell?_of_block (a:=⟨b,o+j*3+1,none⟩) hs).trans c1,(cell?_of_block (a:=⟨b,o+j*3+2,none⟩) hs).trans c2⟩,h1.kp hk,h2⟩
theorem zro {w B vs t} (h:Bk w B vs t) (hv:∀v ∈ vs,∃a n c,v=Value.slice a n c):∀o s,w.cell? ⟨B,o,none⟩≠some (.bool s):=λo s e=>by
 unfold Bk at h;simp only[World.cell?,h]at e;have e':vs[o]?=some (.bool s):=by simpa using e
 obtain⟨a,n,c,h1⟩:=hv _ (List.mem_of_getElem? e');cases h1
theorem zeN {n}:∀{ts:List (Int × Rat)} {l:Int},tsB n l ts=true->∀t ∈ ts,l<t.1/\t.1<(n:Int)/\t.2≠0
 | [],_,_,t,ht=>by cases ht
 | (z,q) :: r,l,h,t,ht=>by
  simp only[tsB,Bool.and_eq_true,decide_eq_true_eq]at h;obtain⟨h1,h2,h3,h4⟩:=h;rcases List.mem_cons.1 ht with rfl|ht
  ·exact⟨h1,h2,h3⟩
  ·have:=zeN h4 t ht;exact⟨by omega,this.2⟩
theorem zeO {n}:∀{ts:List (Int × Rat)} {l:Int},tsB n l ts=true->l<(n:Int)->(ts.length:Int)<=n-1-l
 | [],l,_,hl=>by simp;omega
 | (z,q) :: r,l,h,hl=>by
  simp only[tsB,Bool.and_eq_true,decide_eq_true_eq]at h;obtain⟨h1,h2,h3,h4⟩:=h;have:=zeO h4 h2;simp only[List.length_cons];omega
def zrw (li:Int) (lq:Rat) (hi:Int) (hq:Rat):Prop:=(li=0∨(li=-1∨li=1)/\lq=0)/\(hi=0∨(hi=-1∨hi=1)/\hq=0)
theorem zob {li lq hi hq} (h:bdB li lq hi hq=true):zrw li lq hi hq:=by
 simp only[bdB,Bool.and_eq_true,Bool.or_eq_true,decide_eq_true_eq]at h;exact⟨h.1.imp id (λh=>⟨.inl h.1,h.2⟩),h.2.imp id (λh=>⟨.inr h.1,h.2⟩)⟩
structure MvP (cs:List CV) (rs:List RV):Prop where
 cl:cs.length<=64
 rl:rs.length<=64
 cb:∀v ∈ cs,zrw v.li v.lq v.hi v.hq
 rb:∀v ∈ rs,zrw v.li v.lq v.hi v.hq
 tc:∀v ∈ rs,∀t ∈ v.ts,0<=t.1/\t.1<(cs.length:Int)
 tl:∀v ∈ rs,v.ts.length<=64
theorem zbB {cs rs} (h:zbC cs rs=true):MvP cs rs:=by
 simp only[zbC,Bool.and_eq_true,decide_eq_true_eq,List.all_eq_true]at h;obtain⟨h1,h2,h3,h4,_⟩:=h;refine⟨h1,h2,λv hv=>zob (h3 v hv),λv hv=>zob (h4 v hv).1,λv hv t ht=>?_,λv hv=>?_⟩
 ·have:=zeN (h4 v hv).2.1 t ht;exact⟨by omega,this.2.1⟩
 ·have:=zeO (h4 v hv).2.1 (by omega);omega
theorem zrh {K base w s x n c f y m d g q} (h:Rn K w s x n c f y m d g q) (hb:base<=w.heap.size):Gr K base (w.alloc (cells #[.bool s,slice x n c,slice y m d] 24)) (slice (some ⟨w.heap.size,0,none⟩) 1 1) [q]:=by
 refine⟨λ_=>⟨s,x,n,c,f,y,m,d,g⟩,⟨rfl,.inr ⟨w.heap.size,1,#[.bool s,slice x n c,slice y m d],rfl,hb,heap_alloc_new w _,le_refl _,by decide,rfl,rfl,zM (ziZ _ _ _ _ _ _ _)⟩⟩,λj q' e=>?_⟩;cases j with
 | zero=>cases e;exact h.alloc _
 | succ j=>simp at e
theorem Rn.sg {L w s x n c f y m d g q} (h:Rn L w s x n c f y m d g q):s=decide (q<0):=by
 have h1:=h.num.val;have h2:=h.num.wf;have h5:=zz h.num.lm;have hz:=h.q_zero
 cases s
 ·have h3:q.num=vf f n:=by rw[<-h1];rfl
  have h4:0<=q:=Rat.num_nonneg.1 (by omega);rw[decide_eq_false (Rat.not_lt.2 h4)]
 ·have hn:n≠0:=λe=>by subst e;simp[wfB]at h2
  have h3:q.num=- vf f n:=by rw[<-h1];rfl
  have h4:q<0:=Rat.not_le.1 (λe=>by
   have h6:=Rat.num_nonneg.2 e;exact hn (hz.1 (Rat.num_eq_zero.1 (by omega))))
  rw[decide_eq_true h4]
theorem zgs {L} (hL:1<=L):Lo L 0:=by
 have h:=zaH hL;have h1:pw 1=18446744073709551616:=by decide
 constructor
 ·show((0:Nat):Int)<_;omega
 ·show((1:Nat):Int)<_;omega
theorem zkw {f g}:∀{r i:Nat},eqs f g r i=true ↔ ∀j,i<=j->j<i+r->f j=g j
 | 0,i=>⟨λ_ j a b=>by omega,λ_=>rfl⟩
 | r+1,i=>by
  simp only[eqs,Bool.and_eq_true,decide_eq_true_eq,zkw (r:=r)];constructor
  ·rintro⟨h1,h2⟩ j a b;by_cases e:j=i
   ·subst e;exact h1
   ·exact h2 j (by omega) (by omega)
  ·intro h;exact⟨h i (by omega) (by omega),λj a b=>h j (by omega) (by omega)⟩
theorem zpB {n m f g}:zpC n m f g=true ↔ Alk n m f g:=by
 unfold zpC Alk;simp only[Bool.and_eq_true,decide_eq_true_eq,zkw];exact⟨λ⟨a,b⟩=>⟨a,λj hj=>b j (by omega) (by omega)⟩,λ⟨a,b⟩=>⟨a,λj _ hj=>b j (by omega)⟩⟩
theorem sq_iff {a b}:sqB a b=true ↔ a.s=b.s/\Alk a.n b.n a.f b.f/\Alk a.m b.m a.g b.g:=by
 unfold sqB;simp only[Bool.and_eq_true,decide_eq_true_eq,zpB]
theorem zpc {w a b} (ha:NmS w a) (hb:NmS w b):Calls prog 15 #[a.val,b.val] w λr w'=>r=.returned (.bool (sqB a b))/\Bl w w' :=
 (zhd a.s a.x a.y a.n a.c a.m a.d a.f a.g b.s b.x b.y b.n b.c b.m b.d b.f b.g w ha.1.rx ha.1.ry hb.1.rx hb.1.ry (le_trans ha.2.1 (by decide)) (le_trans ha.2.2 (by decide)) (le_trans hb.2.1 (by decide)) (le_trans hb.2.2 (by decide))).mono
  λe w' ⟨q,h1,h2,h3⟩=>⟨by rw[h1,Bool.eq_iff_iff.2 (h3.trans sq_iff.symm)],h2⟩
theorem qnum_ord {c} {q:Rat} (h:Ord c q.num 0):(c=-1/\q<0)∨(c=0/\q=0)∨(c=1/\0<q):=by
 rcases h with⟨h,h1⟩|⟨h,h1⟩|⟨h,h1⟩
 ·refine .inl ⟨h,?_⟩;exact Rat.not_le.1 (λe=>by have:=Rat.num_nonneg.2 e;omega)
 ·exact .inr (.inl ⟨h,Rat.num_eq_zero.1 h1⟩)
 ·refine .inr (.inr ⟨h,?_⟩);have h2:=Rat.num_nonneg.1 (show 0<=q.num by omega);have h3:q≠0:=λe=>by rw[e]at h1;simp at h1
  exact Rat.not_le.1 (λe=>h3 (Rat.le_antisymm e h2))
structure QcV (K:Nat) (w:World) (c:Lc) (v:CV):Prop where
 nm:c.nm=v.nm
 cost:QnT K w c.cost v.cost
 li:c.lo.i=v.li
 lq:QnT K w c.lo.v v.lq
 hi:c.hi.i=v.hi
 hq:QnT K w c.hi.v v.hq
structure QrV (K:Nat) (w:World) (r:Lr) (v:RV):Prop where
 nm:r.nm=v.nm
 li:r.lo.i=v.li
 lq:QnT K w r.lo.v v.lq
 hi:r.hi.i=v.hi
 hq:QnT K w r.hi.v v.hq
 tk:r.tk=v.ts.length
 tl:Tq K w r.ta v.ts
theorem QcV.q_ {K w w' c v} (h:QcV K w c v) (hb:Bl w w'):QcV K w' c v:=⟨h.nm,h.cost.q_ hb,h.li,h.lq.q_ hb,h.hi,h.hq.q_ hb⟩
theorem QcV.kp {K w w' c v} (h:QcV K w c v) (hb:Kp w w'):QcV K w' c v:=⟨h.nm,h.cost.kp hb,h.li,h.lq.kp hb,h.hi,h.hq.kp hb⟩
theorem QrV.q_ {K w w' c v} (h:QrV K w c v) (hb:Bl w w'):QrV K w' c v:=⟨h.nm,h.li,h.lq.q_ hb,h.hi,h.hq.q_ hb,h.tk,h.tl.q_ hb⟩
theorem Tq.of {K w w' ao l} (h:Tq K w ao l) (hb:l≠[]->∀b o s,ao=some ⟨b,o,s⟩->b<w.heap.size->w'.heap[b]?=w.heap[b]?) (hk:Kp w w'):Tq K w' ao l:=λj a q hj=>by
 obtain⟨b,o,t,e,⟨c0,c1,c2,c3⟩,h2⟩:=h j a q hj;have:=hb (λe=>by rw[e]at hj;simp at hj) b o none e (World.block_lt_of_cell? w _ c0);exact⟨b,o,t,e,⟨(cell?_of_block (a:=⟨b,o+j*4,none⟩) this).trans c0,(cell?_of_block (a:=⟨b,o+j*4+1,none⟩) this).trans c1,(cell?_of_block (a:=⟨b,o+j*4+2,none⟩) this).trans c2,(cell?_of_block (a:=⟨b,o+j*4+3,none⟩) this).trans c3⟩,h2.kp hk⟩
theorem Tq.lt {K w ao l} (h:Tq K w ao l) (hl:l≠[]):∀b o s,ao=some ⟨b,o,s⟩->b<w.heap.size:=λb o s e=>by
 match l,hl with
 | (a,q) :: r,_ =>
  obtain⟨b',o',t,e',h4,_⟩:=h 0 a q rfl;rw[e]at e';cases e'
  exact World.block_lt_of_cell? w _ h4.x0
theorem QrV.of {K w w' r v} (h:QrV K w r v) (hb:v.ts≠[]->∀b o s,r.ta=some ⟨b,o,s⟩->b<w.heap.size->w'.heap[b]?=w.heap[b]?) (hk:Kp w w'):QrV K w' r v:=⟨h.nm,h.li,h.lq.kp hk,h.hi,h.hq.kp hk,h.tk,h.tl.of hb hk⟩
structure MqV (K:Nat) (w:World) (M:Mo) (q:Rat) (cs:List CV) (rs:List RV):Prop where
 off:QnT K w M.off q
 ck:M.ck=cs.length
 rk:M.rk=rs.length
 cls:∀j v,cs[j]?=some v->(∃b o,M.ca=some ⟨b,o,none⟩/\Cs w b (o+j*12) (M.C j).vs)/\QcV K w (M.C j) v
 rls:∀j v,rs[j]?=some v->(∃b o,M.ra=some ⟨b,o,none⟩/\Cs w b (o+j*10) (M.R j).vs)/\QrV K w (M.R j) v
theorem MqV.q_ {K w w' M q cs rs} (h:MqV K w M q cs rs) (hb:Bl w w'):MqV K w' M q cs rs :=
 ⟨h.off.q_ hb,h.ck,h.rk,λj v e=>by obtain⟨⟨b,o,h1,h2⟩,h3⟩:=h.cls j v e;exact⟨⟨b,o,h1,h2.q_ hb⟩,h3.q_ hb⟩,λj v e=>by obtain⟨⟨b,o,h1,h2⟩,h3⟩:=h.rls j v e;exact⟨⟨b,o,h1,h2.q_ hb⟩,h3.q_ hb⟩⟩
theorem zrg:(prog.info? 138).map (λi=>(i.zero,i.size,i.bytes))=some (some zC,12,200):=by kernel_rfl
theorem zrf:(prog.info? 141).map (λi=>(i.zero,i.size,i.bytes))=some (some zR,10,168):=by kernel_rfl
theorem znZ {li lq hi hq} (h:bdB li lq hi hq=true):(li=0∨(li=-1∨li=1)/\lq=0)/\(hi=0∨(hi=-1∨hi=1)/\hq=0):=by
 simp only[bdB,Bool.and_eq_true,Bool.or_eq_true,decide_eq_true_eq]at h;exact⟨by rcases h.1 with h|h;exact .inl h;exact .inr ⟨.inl h.1,h.2⟩,by rcases h.2 with h|h;exact .inl h;exact .inr ⟨.inr h.1,h.2⟩⟩
def zor (K:Nat) (w w':World) (e:Ending) (k:Nat) (v:List (Int × Rat)):Prop:=∃aw cw,e=.returned (slice aw k cw)/\Bl w w'/\(k<=cw/\cw<=9223372036854775807)/\(∀b o s,aw=some ⟨b,o,s⟩->w.heap.size<=b)/\Hid (Tq K w' aw v)
theorem znt {w L ao k cap col T v} (h:Tl w ao k col T) (hk:k<=10000) (hL:L<=16000) (hlv:v.length=k) (hq:∀j,j<k->∃q,v[j]?=some (col j,q)/\Rn L w (T j).s (T j).x (T j).n (T j).c (T j).f (T j).y (T j).m (T j).d (T j).g q) :
  Calls prog 84 #[slice ao k cap] w λe w'=>zor (2*L) w w' e k v:=by
 have H:=zk h;clear h;go_enter func84,ntmps84;go_wp2_with fail
 go_loopw[3,8] (λov t wr=>∃(i:Nat) (T':Nat->Nm),i<=k/\t=.int .i64 i/\Hid (Bl w wr)/\Hid (RowG 149 4 w.heap.size wr ov i (zaM (tls i col T')))/\Hid (∀j,j<i->∃q,v[j]?=some (col j,q)/\QnT (2*L) wr (T' j) q)) (λ_ t _=>k-(intOf t).toNat)
 case atStart=>exact⟨0,T,by omega,rfl,Below.refl _ _,zai _ _ _ _,λj hj=>by omega⟩
 case round =>
  obtain⟨i,T',hi,rfl,HB,HRow,HT⟩:=hrel;by_cases hlt:i<k
  ·obtain⟨b,o,hao,hc,hn,hn1,hn2⟩:=(H.out.q_ HB.out) i hlt;obtain⟨⟨s,x,n,c,f,y,m,d,g⟩,hTi⟩:∃t,T i=t:=⟨_,rfl⟩;subst hao;rw[hTi]at hc hn hn1 hn2
   obtain⟨z,hz⟩:∃z,col i=z:=⟨_,rfl⟩;rw[hz]at hc
   obtain⟨x0,x1,x2,x3⟩:=hc;replace x0:wr.cell? ⟨b,o+i*4,none⟩=some (.int .i64 z):=x0;replace x1:wr.cell? ⟨b,o+i*4+1,none⟩=some (.bool s):=x1;replace x2:wr.cell? ⟨b,o+i*4+2,none⟩=some (slice x n c):=x2;replace x3:wr.cell? ⟨b,o+i*4+3,none⟩=some (slice y m d):=x3;have i1:((i:Nat):Int)<((k:Nat):Int):=by omega
   obtain⟨q,hvq,hrn⟩:=hq i hlt;rw[hTi]at hrn
   replace hn:Rn L wr s x n c f y m d g q:=hrn.q_ HB.out;clear hn1 hn2;have HVq:=zk hvq;have HN:=zk hn;have HZ:=zk hz;have HTi:=zk hTi
   clear hn hz hTi;go_upto_region 5 with fail
   have hb5:=zA wr (cells #[.int .i64 z,.bool s,slice x n c,slice y m d] 66);obtain⟨a0,a1,a2,a3⟩:=bk4 (zH wr [.int .i64 z,.bool s,slice x n c,slice y m d] 66);have hne:u3.ownBlock≠some wr.heap.size:=λe=>by have:=(HRow.out.lt _ e).2;omega
   replace HN:=zk (HN.out.q_ hb5);replace HRow:=zk (HRow.out.q_ hb5)
   replace HT:Hid (∀j,j<i->∃q,v[j]?=some (col j,q)/\QnT (2*L) (wr.alloc (cells #[.int .i64 z,.bool s,slice x n c,slice y m d] 66)) (T' j) q):=λj hj=>by obtain⟨q,h1,h2⟩:=HT.out j hj;exact⟨q,h1,h2.q_ hb5⟩
   replace HB:=zI HB hb5;clear x0 x1 x2 x3 hb5;have hsz:w.heap.size<=(wr.alloc (cells #[.int .i64 z,.bool s,slice x n c,slice y m d] 66)).heap.size:=HB.out.size;generalize wr.alloc (cells #[.int .i64 z,.bool s,slice x n c,slice y m d] 66)=w5 at *;have CT:Hid (∀W,Bl w5 W->Calls prog 82 #[agg #[.bool s,slice x n c,slice y m d]] W λe w'=>∃s6 x6 n6 c6 d6 y6 m6 e6 g6,e=.returned (agg #[.bool s6,slice x6 n6 c6,slice y6 m6 e6])/\Bl W w'/\Hid (n6<=2*L/\m6<=2*L/\Qn w' s6 x6 n6 d6 y6 m6 g6 q)):=λW hW=>(zdB (HN.out.q_ hW) (by omega)).mono (λ_ _ ⟨s,x,n,c,d,y,m,c',g,h1,h2,h3,h4,h5⟩=>⟨s,x,n,c,d,y,m,c',g,h1,h2,h3,h4,h5⟩)
   go_region_held3 (λw'=>w'.cell? ⟨wr.heap.size,0,none⟩=some (.int .i64 z)/\w'.cell? ⟨wr.heap.size,1,none⟩=some (.bool s)/\w'.cell? ⟨wr.heap.size,2,none⟩=some (slice x n c)/\w'.cell? ⟨wr.heap.size,3,none⟩=some (slice y m d))
    (refine⟨?_,?_,?_,?_⟩ <;> repeat(with_reducible first|assumption|refine kCd ?_|refine kCa ?_|refine kCb (by assumption) ?_))
    (first
     | (go_at_call 82;with_reducible refine(CT.out _ zay).mono ?_;rintro e w6 ⟨s6,x6,n6,c6,d6,y6,m6,e6,g6,rfl,hb6,HQ⟩;have B6:Bl w5 w6:=zay;have HRow6:=HRow.out.q_ B6;have hz6:w.heap.size<=w6.heap.size:=le_trans hsz B6.size;have a06:=kCb B6 a0;have a16:=kCb B6 a1;have a26:=kCb B6 a2;have a36:=kCb B6 a3;have hlt6:=World.block_lt_of_cell? w6 _ a06)
     | (refine zcr w6 rfl (.tmp 12) (.tmp 19) 139 rfl w.heap.size 149 64 4 (agg #[.int .i64 0,.bool false,slice none 0 0,slice none 0 0]) underlying139 zre rfl (by decide) nz4 u3 i (zaM (tls i col T')) rfl HRow6 #[.int .i64 z,.bool s6,slice x6 n6 c6,slice y6 m6 e6] rfl rfl (zrU _ _ _ _ _ _ _ _) (zqT _ _ _ _ _ _ _ _) ?p1 (by decide) hz6 ?_;(case p1=>omega);intro g8 cap8 w8 hr8 hk8 hb8 hg8;have h88:=hg8 wr.heap.size hlt6 hne;have a08:=(cell?_of_block (a:=⟨wr.heap.size,0,none⟩) h88).trans a06;have a18:=(cell?_of_block (a:=⟨wr.heap.size,1,none⟩) h88).trans a16;have a28:=(cell?_of_block (a:=⟨wr.heap.size,2,none⟩) h88).trans a26;have a38:=(cell?_of_block (a:=⟨wr.heap.size,3,none⟩) h88).trans a36))
   all_goals
    (have HB8:=zk (hb8 w (bUp HB.out B6) (le_refl _))
     have HR8:Hid (RowG 149 4 w.heap.size w8 (slice (some ⟨g8,0,none⟩) (i+1) cap8) (i+1) (zaM (tls (i+1) col (zaN T' i ⟨s6,x6,n6,c6,d6,y6,m6,e6,g6⟩)))):=by
      show RowG _ _ _ _ _ _ _;rw[zjJ,HZ.out];exact hr8
     have HT8:Hid (∀j,j<i+1->∃q,v[j]?=some (col j,q)/\QnT (2*L) w8 (zaN T' i ⟨s6,x6,n6,c6,d6,y6,m6,e6,g6⟩ j) q):=λj hj=>by
      by_cases e:j=i
      ·subst e;rw[zbJ];exact⟨q,HVq.out,QnT.kp (t:=⟨s6,x6,n6,c6,d6,y6,m6,e6,g6⟩) HQ.out hk8⟩
      ·rw[putN_ne e];obtain⟨q,h1,h2⟩:=HT.out j (by omega);exact⟨q,h1,(h2.q_ B6).kp hk8⟩
     clear hr8 hk8 hb8 hg8 h88 a08 a18 a28 a38 a06 a16 a26 a36 hlt6 hne HRow6 B6 hb6 HQ HRow HT HB CT a0 a1 a2 a3 HN hz6;go_wp2;go_roundw
     case rel=>exact⟨i+1,_,by omega,by go_num,HB8.out,HR8.out,HT8.out⟩
     case measure=>simp[intOf];omega)
  ·have e1:i=k:=by omega
   have i1:¬(((i:Nat):Int)<((k:Nat):Int)):=by omega
   rw[e1]at HRow HT
   obtain⟨aw,cw,rfl⟩:=HRow.out.slice;have hcw:k<=cw/\cw<=9223372036854775807:=by
    rcases HRow.out.2 with⟨hv,h0⟩|⟨_,_,_,hv,_,_,h5,h6,_⟩
    ·cases hv;omega
    ·cases hv;unfold maxLen at h6;omega
   clear e1;go_wp2;go_ret;exact⟨aw,cw,rfl,HB.out,hcw,(λb o s e=>(HRow.out.lt b (by rw[e];rfl)).1),(λj a q hj=>by have hlt2:j<k:=by { have:=(List.getElem?_eq_some_iff.1 hj).1;omega };obtain⟨b,hb,h4⟩:=zjT HRow.out hlt2;obtain⟨q',h5,h6⟩:=HT.out j hlt2;rw[hj]at h5;obtain⟨rfl,rfl⟩:a=col j/\q=q':=by { simpa using h5 };exact⟨b,0,T' j,hb,h4,h6⟩)⟩
def FN (K:Nat) (q:Rat) (v:Value) (w:World):Prop:=∃t':Nm,v=t'.val/\QnT K w t' q
def FE (K:Nat) (i:Int) (q:Rat) (v:Value) (w:World):Prop:=∃e':Ex,v=e'.val/\e'.i=i/\QnT K w e'.v q
def FC (K:Nat) (cv:CV) (v:Value) (w:World):Prop:=∃c':Lc,v=agg c'.vs.toArray/\QcV K w c' cv
def FCs (K:Nat) (cv:CV) (v:Value) (w:World):Prop:=∃b,∃c':Lc,v=slice (some ⟨b,0,none⟩) 1 1/\Cs w b 0 c'.vs/\QcV K w c' cv
def FT (K base tk:Nat) (ts:List (Int × Rat)) (v:Value) (w:World):Prop:=∃aw cw,v=slice aw tk cw/\(∀b o s,aw=some ⟨b,o,s⟩->base<=b)/\Tq K w aw ts
def FR (K base:Nat) (rv:RV) (v:Value) (w:World):Prop:=∃r':Lr,v=agg r'.vs.toArray/\QrV K w r' rv/\∀b o s,r'.ta=some ⟨b,o,s⟩->base<=b
def FRs (K base:Nat) (rv:RV) (v:Value) (w:World):Prop:=∃b,∃r':Lr,v=slice (some ⟨b,0,none⟩) 1 1/\Cs w b 0 r'.vs/\QrV K w r' rv/\∀b o s,r'.ta=some ⟨b,o,s⟩->base<=b
theorem FN.q_ {K t v w w'} (h:FN K t v w) (hb:Bl w w'):FN K t v w':=by obtain⟨t',h1,h2⟩:=h;exact⟨t',h1,h2.q_ hb⟩
theorem FE.q_ {K i t v w w'} (h:FE K i t v w) (hb:Bl w w'):FE K i t v w':=by obtain⟨t',h1,h2,h3⟩:=h;exact⟨t',h1,h2,h3.q_ hb⟩
theorem FC.q_ {K t v w w'} (h:FC K t v w) (hb:Bl w w'):FC K t v w':=by obtain⟨t',h1,h2⟩:=h;exact⟨t',h1,h2.q_ hb⟩
theorem FCs.q_ {K t v w w'} (h:FCs K t v w) (hb:Bl w w'):FCs K t v w':=by obtain⟨b,t',h1,h2,h3⟩:=h;exact⟨b,t',h1,h2.q_ hb,h3.q_ hb⟩
theorem FT.q_ {K base tk ts v w w'} (h:FT K base tk ts v w) (hb:Bl w w'):FT K base tk ts v w':=by obtain⟨aw,cw,h1,h2,h3⟩:=h;exact⟨aw,cw,h1,h2,h3.q_ hb⟩
theorem FR.q_ {K base t v w w'} (h:FR K base t v w) (hb:Bl w w'):FR K base t v w':=by obtain⟨t',h1,h2,h3⟩:=h;exact⟨t',h1,h2.q_ hb,h3⟩
theorem FRs.q_ {K base t v w w'} (h:FRs K base t v w) (hb:Bl w w'):FRs K base t v w':=by obtain⟨b,t',h1,h2,h3,h4⟩:=h;exact⟨b,t',h1,h2.q_ hb,h3.q_ hb,h4⟩
structure FrC (w:World) (base b1 b2 b3:Nat) (P Z:List Value) (so:Bool) (zx:Option Addr) (zn zc:Nat) (zy:Option Addr) (zm zd:Nat) (oN:Nm) (K:Nat) (q:Rat) (cs:List CV) (wr:World) (i:Nat) (C':Nat->Lc) (vC:Value):Prop where
 bel:Bl w wr
 p1:Bk wr b1 P 28
 p2:Bk wr b2 Z 95
 p3:Bk wr b3 [.bool so,slice zx zn zc,slice zy zm zd,vC,slice none 0 0] 95
 bs:base<=wr.heap.size
 off:QnT K wr oN q
 row:RowG 138 12 base wr vC i (ccs C' i)
 el:∀j v,j<i->cs[j]?=some v->QcV K wr (C' j) v
theorem FrC.q_ {w base b1 b2 b3 P Z so zx zn zc zy zm zd oN K q cs wr i C' vC w'} (h:FrC w base b1 b2 b3 P Z so zx zn zc zy zm zd oN K q cs wr i C' vC) (hb:Bl wr w'):FrC w base b1 b2 b3 P Z so zx zn zc zy zm zd oN K q cs w' i C' vC :=
 ⟨h.bel.trans (hb.mono h.bel.size),h.p1.q_ hb,h.p2.q_ hb,h.p3.q_ hb,le_trans h.bs hb.size,h.off.q_ hb,h.row.q_ hb,λj v hj e=>(h.el j v hj e).q_ hb⟩
theorem FrC.next {w base b1 b2 b3 P Z so zx zn zc zy zm zd oN K q cs wr i C' vC w8 g8 cap8 c'} (h:FrC w base b1 b2 b3 P Z so zx zn zc zy zm zd oN K q cs wr i C' vC) (h12:b1<b2) (h23:b2<b3) (h3b:b3<base) (hwb:w.heap.size<=b1) (hc:∀v,cs[i]?=some v->QcV K wr c' v) (hr:RowG 138 12 base w8 (slice (some ⟨g8,0,none⟩) (i+1) cap8) (i+1) (ccs C' i++c'.vs)) (hk:Kp wr w8) (hg:wr.grownBy w8 vC.ownBlock) :
  FrC w base b1 b2 b3 P Z so zx zn zc zy zm zd oN K q cs (w8.setCell ⟨b3,3,none⟩ (slice (some ⟨g8,0,none⟩) (i+1) cap8)) (i+1) (putC C' i c') (slice (some ⟨g8,0,none⟩) (i+1) cap8):=by
 have hbs:=h.bs;have hlt:∀k,k<base->w8.heap[k]?=wr.heap[k]?:=λk hk=>hg.block k (by omega) (λe=>by have:=(h.row.lt k e.symm).1;omega)
 have hset:∀k,k≠b3->(w8.setCell ⟨b3,3,none⟩ (slice (some ⟨g8,0,none⟩) (i+1) cap8)).heap[k]?=w8.heap[k]?:=λk hk=>Below.heap_setCell _ _ _ _ hk
 have hp3:Bk w8 b3 [.bool so,slice zx zn zc,slice zy zm zd,vC,slice none 0 0] 95:=h.p3.of (hlt b3 h3b);have hg8:=(hr.lt g8 rfl).1;have hk9:Kp wr (w8.setCell ⟨b3,3,none⟩ (slice (some ⟨g8,0,none⟩) (i+1) cap8)):=hk.set (x:=⟨b3,3,none⟩) hp3 (by obtain⟨aw,cw,e⟩:=h.row.slice;rw[e];exact ziY _ _ _ _ _ _ _ _ _ _ _ _ _) _;refine⟨?_,h.p1.of ((hset b1 (by omega)).trans (hlt b1 (by omega))),h.p2.of ((hset b2 (by omega)).trans (hlt b2 (by omega))),hp3.set 3 _,le_trans hbs hk9.size,h.off.kp hk9,?_,λj v hj ev=>?_⟩
 ·have h8:Bl w w8:=h.bel.grown hg (by have:=h.bel.size;omega) (λk e=>by have:=(h.row.lt k e).1;omega);exact zO h8 h8.size ((Turned.refl w.heap.size (b3+1) w8).set (x:=⟨b3,3,none⟩) (by show w.heap.size<=b3;omega) (by simp) _) (le_refl _)
 ·rw[zkH];exact hr.of (λk hk=>hset k (λe=>by have:g8=k:=(by simpa[Value.ownBlock]using hk);omega))
 ·by_cases e:j=i
  ·subst e;rw[zhh];exact(hc v ev).kp hk9
  ·rw[zhg e];exact(h.el j v (by omega) ev).kp hk9
structure FrR (w:World) (base base2 b2 b3:Nat) (Z:List Value) (so:Bool) (zx:Option Addr) (zn zc:Nat) (zy:Option Addr) (zm zd:Nat) (oN:Nm) (K:Nat) (q:Rat) (cs:List CV) (ck:Nat) (C':Nat->Lc) (vC:Value) (rs:List RV) (wr:World) (i:Nat) (R':Nat->Lr) (vR:Value):Prop where
 bel:Bl w wr
 p2:Bk wr b2 Z 95
 p3:Bk wr b3 [.bool so,slice zx zn zc,slice zy zm zd,vC,vR] 95
 bs:base2<=wr.heap.size
 off:QnT K wr oN q
 rowC:RowG 138 12 base wr vC ck (ccs C' ck)
 elC:∀j v,j<ck->cs[j]?=some v->QcV K wr (C' j) v
 nv:∀k,vC.ownBlock=some k->k<base2
 row:RowG 141 10 base2 wr vR i (rcs R' i)
 el:∀j v,j<i->rs[j]?=some v->QrV K wr (R' j) v/\(v.ts≠[]->∀b o s,(R' j).ta=some ⟨b,o,s⟩->base2<=b/\vR.ownBlock≠some b)
theorem FrR.q_ {w base base2 b2 b3 Z so zx zn zc zy zm zd oN K q cs ck C' vC rs wr i R' vR w'} (h:FrR w base base2 b2 b3 Z so zx zn zc zy zm zd oN K q cs ck C' vC rs wr i R' vR) (hb:Bl wr w'):FrR w base base2 b2 b3 Z so zx zn zc zy zm zd oN K q cs ck C' vC rs w' i R' vR :=
 ⟨h.bel.trans (hb.mono h.bel.size),h.p2.q_ hb,h.p3.q_ hb,le_trans h.bs hb.size,h.off.q_ hb,h.rowC.q_ hb,λj v hj e=>(h.elC j v hj e).q_ hb,h.nv,h.row.q_ hb,λj v hj e=>⟨(h.el j v hj e).1.q_ hb,(h.el j v hj e).2⟩⟩
theorem FrR.next {w base base2 b2 b3 Z so zx zn zc zy zm zd oN K q cs ck C' vC rs wr i R' vR w8 g8 cap8 r'} (h:FrR w base base2 b2 b3 Z so zx zn zc zy zm zd oN K q cs ck C' vC rs wr i R' vR) (h23:b2<b3) (h3b:b3<base2) (hbb:b3<base) (hwb:w.heap.size<=b2) (hc:∀v,rs[i]?=some v->QrV K wr r' v) (hta:∀b o s,r'.ta=some ⟨b,o,s⟩->base2<=b/\vR.ownBlock≠some b) (hr:RowG 141 10 base2 w8 (slice (some ⟨g8,0,none⟩) (i+1) cap8) (i+1) (rcs R' i++r'.vs)) (hk:Kp wr w8) (hg:wr.grownBy w8 vR.ownBlock) (hl:vR.ownBlock=some g8∨wr.heap.size<=g8) :
  FrR w base base2 b2 b3 Z so zx zn zc zy zm zd oN K q cs ck C' vC rs (w8.setCell ⟨b3,4,none⟩ (slice (some ⟨g8,0,none⟩) (i+1) cap8)) (i+1) (zdD R' i r') (slice (some ⟨g8,0,none⟩) (i+1) cap8):=by
 have hbs:=h.bs;have hlt:∀k,k<base2->w8.heap[k]?=wr.heap[k]?:=λk hk=>hg.block k (by omega) (λe=>by have:=(h.row.lt k e.symm).1;omega)
 have hset:∀k,k≠b3->(w8.setCell ⟨b3,4,none⟩ (slice (some ⟨g8,0,none⟩) (i+1) cap8)).heap[k]?=w8.heap[k]?:=λk hk=>Below.heap_setCell _ _ _ _ hk
 have hp3:Bk w8 b3 [.bool so,slice zx zn zc,slice zy zm zd,vC,vR] 95:=h.p3.of (hlt b3 h3b);have hg8:=(hr.lt g8 rfl).1;have hk9:Kp wr (w8.setCell ⟨b3,4,none⟩ (slice (some ⟨g8,0,none⟩) (i+1) cap8)):=hk.set (x:=⟨b3,4,none⟩) hp3 (by obtain⟨aw,cw,e⟩:=h.row.slice;obtain⟨aw2,cw2,e2⟩:=h.rowC.slice;rw[e,e2];exact ziY _ _ _ _ _ _ _ _ _ _ _ _ _) _;have hta8:∀(r:Lr) (v:RV),QrV K wr r v->(v.ts≠[]->∀b o s,r.ta=some ⟨b,o,s⟩->base2<=b/\vR.ownBlock≠some b)->QrV K (w8.setCell ⟨b3,4,none⟩ (slice (some ⟨g8,0,none⟩) (i+1) cap8)) r v/\(v.ts≠[]->∀b o s,r.ta=some ⟨b,o,s⟩->base2<=b/\(Value.slice (some ⟨g8,0,none⟩) (i+1) cap8).ownBlock≠some b):=λr v h1 h2=>by
  refine⟨h1.of (λh3 b o s e hb=>?_) hk9,λh3 b o s e=>?_⟩
  ·obtain⟨k1,k2⟩:=h2 h3 b o s e;rw[hset b (by omega)];exact hg.block b hb (λe=>k2 e.symm)
  ·obtain⟨k1,k2⟩:=h2 h3 b o s e;refine⟨k1,λe2=>?_⟩;have e3:g8=b:=by simpa[Value.ownBlock]using e2
   rcases hl with h4|h4
   ·exact k2 (e3 ▸ h4)
   ·have:=h1.tl.lt h3 b o s e;omega
 refine⟨?_,h.p2.of ((hset b2 (by omega)).trans (hlt b2 (by omega))),hp3.set 4 _,le_trans hbs hk9.size,h.off.kp hk9,h.rowC.of (λk hk=>?_),λj v hj e=>(h.elC j v hj e).kp hk9,h.nv,?_,λj v hj ev=>?_⟩
 ·have h8:Bl w w8:=h.bel.grown hg (by have:=h.bel.size;omega) (λk e=>by have:=(h.row.lt k e).1;omega);exact zO h8 h8.size ((Turned.refl w.heap.size (b3+1) w8).set (x:=⟨b3,4,none⟩) (by show w.heap.size<=b3;omega) (by simp) _) (le_refl _)
 ·have:=(h.rowC.lt k hk).1;rw[hset k (by omega)];exact hlt k (h.nv k hk)
 ·rw[zjW];exact hr.of (λk hk=>hset k (λe=>by have:g8=k:=(by simpa[Value.ownBlock]using hk);omega))
 ·by_cases e:j=i
  ·subst e;rw[zfK];exact hta8 r' v (hc v ev) (λ_=>hta)
  ·rw[zfJ e];exact hta8 _ v (h.el j v (by omega) ev).1 (h.el j v (by omega) ev).2
theorem FrR.done {w base base2 b2 b3 so zx zn zc zy zm zd oN K q cs ck C' rs rk R' wr aC cC aR cR w9 v0 v1 v2 v3 v4} (h:FrR w base base2 b2 b3 [.bool false,slice none 0 0,slice none 0 0,slice none 0 0,slice none 0 0] so zx zn zc zy zm zd oN K q cs ck C' (slice aC ck cC) rs wr rk R' (slice aR rk cR)) (h2:b2<base) (h22:b2<base2) (hwb:w.heap.size<=b2)
  (e:w9=((((wr.setCell ⟨b2,0,none⟩ v0).setCell ⟨b2,1,none⟩ v1).setCell ⟨b2,2,none⟩ v2).setCell ⟨b2,3,none⟩ v3).setCell ⟨b2,4,none⟩ v4) (hck:ck=cs.length) (hrk:rk=rs.length) :
  Bl w w9/\MqV K w9 ⟨oN,aC,ck,cC,C',aR,rk,cR,R'⟩ q cs rs:=by
 obtain⟨hk,hne⟩:=zje h.p2 (ziY _ _ _ _ _ _ _ _ _ _ _ _ _) e;refine⟨by rw[e];exact zep h.bel hwb,h.off.kp hk,hck,hrk,λj v hv=>?_,λj v hv=>?_⟩
 ·have hj:j<ck:=by rw[hck];exact(List.getElem?_eq_some_iff.1 hv).1
  rcases h.rowC.2 with⟨_,h0⟩|⟨gb,cap,cur,hv',hb,_⟩
  ·exact absurd hj (by rw[h0];exact Nat.not_lt_zero _)
  ·have hr:=h.rowC.of (w':=w9) (λk hk=>hne k (by have:=(h.rowC.lt k hk).1;omega));cases hv'
   refine⟨⟨gb,0,rfl,λp u hp=>?_⟩,(h.elC j v hj hv).kp hk⟩;rw[zero_add];exact hr.cells (zhI hp hj)
 ·have hj:j<rk:=by rw[hrk];exact(List.getElem?_eq_some_iff.1 hv).1
  rcases h.row.2 with⟨_,h0⟩|⟨gb,cap,cur,hv',hb,_⟩
  ·exact absurd hj (by rw[h0];exact Nat.not_lt_zero _)
  ·have hr:=h.row.of (w':=w9) (λk hk=>hne k (by have:=(h.row.lt k hk).1;omega));cases hv'
   refine⟨⟨gb,0,rfl,λp u hp=>?_⟩,(h.el j v hj hv).1.of (λh3 b o s e _=>hne b (by have:=((h.el j v hj hv).2 h3 b o s e).1;omega)) hk⟩;rw[zero_add];exact hr.cells (zhb hp hj)
theorem zki {w M L q cs rs} (h:MoV L w M q cs rs) (hL:L<=1000) (hok:zbC cs rs=true):Calls prog 48 #[M.val] w λe w'=>∃M':Mo,e=.returned M'.val/\Bl w w'/\MqV (2*L) w' M' q cs rs:=by
 generalize hP:(λ(e:Ending) (w':World)=>∃M':Mo,e=.returned M'.val/\Bl w w'/\MqV (2*L) w' M' q cs rs)=P;have HA:Hid (∀w' (M':Mo),Bl w w'->MqV (2*L) w' M' q cs rs->P (.returned M'.val) w'):=by subst hP;exact λw' M' h1 h2=>⟨M',rfl,h1,h2⟩
 clear hP;simp only[zbC,Bool.and_eq_true,decide_eq_true_eq,List.all_eq_true]at hok;obtain⟨hck,hrk,hbc,hbr,_⟩:=hok;have HBC:=zk hbc;have HBR:=zk hbr
 have hlc:=h.ck;have hlr:=h.rk
 obtain⟨ho,hx1,hx2,hC,hR⟩:=h;clear hx1 hx2;obtain⟨⟨s,x,n,c,f,y,m,d,g⟩,ca,ck,cc,C,ra,rk,rc,R⟩:=M;replace hlc:ck=cs.length:=hlc;replace hlr:rk=rs.length:=hlr;rw[<-hlc]at hck
 rw[<-hlr]at hrk
 have HC:Hid (∀j v,cs[j]?=some v->(∃b o,ca=some ⟨b,o,none⟩/\Cs w b (o+j*12) (C j).vs)/\ColV L w (C j) v):=hC;have HRL:Hid (∀j v,rs[j]?=some v->(∃b o,ra=some ⟨b,o,none⟩/\Cs w b (o+j*10) (R j).vs)/\RowV L w (R j) v):=hR;have CO:=zk (λw' (hw:Bl w w')=>zdB (w:=w') (ho.q_ hw) (le_trans hL (by decide)));replace CO:Hid (∀w' (hw:Bl w w'),Calls prog 82 #[agg #[.bool s,slice x n c,slice y m d]] w' λe w2=>∃s x n c d y m c' g,e=.returned (agg #[.bool s,slice x n c,slice y m c'])/\Bl w' w2/\n<=2*L/\m<=2*L/\Qn w2 s x n d y m g q):=CO;have HLC:=zk hlc;have HLR:=zk hlr
 clear ho hC hR hbc hbr hlc hlr;show Calls prog 48 #[agg #[.bool s,slice x n c,slice y m d,slice ca ck cc,slice ra rk rc]] w _;go_enter func48,ntmps48;go_wp2_with fail
 have hb1:=zu (zA w (cells #[.bool s,slice x n c,slice y m d,slice ca ck cc,slice ra rk rc] 28)) (cells #[.bool false,slice none 0 0,slice none 0 0,slice none 0 0,slice none 0 0] 95);have B1:=(zH w [.bool s,slice x n c,slice y m d,slice ca ck cc,slice ra rk rc] 28).q_ (zu (Below.refl _ _) (cells #[.bool false,slice none 0 0,slice none 0 0,slice none 0 0,slice none 0 0] 95));have B2:=zH (w.alloc (cells #[.bool s,slice x n c,slice y m d,slice ca ck cc,slice ra rk rc] 28)) [.bool false,slice none 0 0,slice none 0 0,slice none 0 0,slice none 0 0] 95;rw[zw]at B2
 replace B1:Bk ((w.alloc (cells #[.bool s,slice x n c,slice y m d,slice ca ck cc,slice ra rk rc] 28)).alloc (cells #[.bool false,slice none 0 0,slice none 0 0,slice none 0 0,slice none 0 0] 95)) w.heap.size [.bool s,slice x n c,slice y m d,slice ca ck cc,slice ra rk rc] 28:=B1;replace B2:Bk ((w.alloc (cells #[.bool s,slice x n c,slice y m d,slice ca ck cc,slice ra rk rc] 28)).alloc (cells #[.bool false,slice none 0 0,slice none 0 0,slice none 0 0,slice none 0 0] 95)) (w.heap.size+1) [.bool false,slice none 0 0,slice none 0 0,slice none 0 0,slice none 0 0] 95:=B2;generalize(w.alloc (cells #[.bool s,slice x n c,slice y m d,slice ca ck cc,slice ra rk rc] 28)).alloc (cells #[.bool false,slice none 0 0,slice none 0 0,slice none 0 0,slice none 0 0] 95)=w1 at *;refine(CO.out _ hb1).mono ?_;rintro e w2 ⟨sz,z2,nz,c2,fz,y2,mz,d2,gz,rfl,hb2,hq1,hq2,hq⟩;have B3:=zH w2 [.bool sz,slice z2 nz c2,slice y2 mz d2,slice none 0 0,slice none 0 0] 95;have hb3:=zA w2 (cells #[.bool sz,slice z2 nz c2,slice y2 mz d2,slice none 0 0,slice none 0 0] 95);have l1:=B1.lt;have l2:=B2.lt;have l3:=hb2.size
 replace B1:=(B1.q_ hb2).q_ hb3;replace B2:=(B2.q_ hb2).q_ hb3
 have HB3:=zk ((bUp hb1 hb2).trans (hb3.mono (le_trans hb1.size hb2.size)));have HQ:Hid (QnT (2*L) (w2.alloc (cells #[.bool sz,slice z2 nz c2,slice y2 mz d2,slice none 0 0,slice none 0 0] 95)) ⟨sz,z2,nz,c2,fz,y2,mz,d2,gz⟩ q):=⟨hq1,hq2,hq.q_ hb3⟩;have k3:=B1.cell (j:=3) rfl;have HB1:=zk B1;have HB2:=zk B2
 obtain⟨b3,hb3e⟩:∃z,w2.heap.size=z:=⟨_,rfl⟩;have hl3:w.heap.size+1<b3:=by omega
 have hbs:b3<(w2.alloc (cells #[.bool sz,slice z2 nz c2,slice y2 mz d2,slice none 0 0,slice none 0 0] 95)).heap.size:=by simp;omega
 clear hb1 hb2 hb3 B1 B2 CO hq hq1 hq2 l1 l2 l3;go_wp2_with fail
 generalize w2.alloc (cells #[.bool sz,slice z2 nz c2,slice y2 mz d2,slice none 0 0,slice none 0 0] 95)=w3 at *;rw[hb3e]at B3
 obtain⟨base,hbase⟩:∃z,w3.heap.size=z:=⟨_,rfl⟩;have hbb:b3<base:=by omega
 have HI0:Hid (FrC w base w.heap.size (w.heap.size+1) b3 [.bool s,slice x n c,slice y m d,slice ca ck cc,slice ra rk rc] [.bool false,slice none 0 0,slice none 0 0,slice none 0 0,slice none 0 0] sz z2 nz c2 y2 mz d2 ⟨sz,z2,nz,c2,fz,y2,mz,d2,gz⟩ (2*L) q cs w3 0 C (slice none 0 0)):=⟨HB3.out,HB1.out,HB2.out,B3,by omega,HQ.out,zai _ _ _ _,λj v hj=>by omega⟩;clear HB3 HB1 HB2 B3 HQ k3 hb3e hbs hbase;go_loopw[15] (λt wr=>∃(i:Nat) (C':Nat->Lc) (vC:Value),i<=ck/\t=.int .i64 i/\Hid (FrC w base w.heap.size (w.heap.size+1) b3 [.bool s,slice x n c,slice y m d,slice ca ck cc,slice ra rk rc] [.bool false,slice none 0 0,slice none 0 0,slice none 0 0,slice none 0 0] sz z2 nz c2 y2 mz d2 ⟨sz,z2,nz,c2,fz,y2,mz,d2,gz⟩ (2*L) q cs wr i C' vC)) (λt _=>ck-(intOf t).toNat)
 case atStart=>exact⟨0,C,_,by omega,rfl,HI0.out⟩
 case round =>
  obtain⟨i,C',vC,hi,rfl,HI⟩:=hrel;clear HI0;by_cases hlt:i<ck
  ·obtain⟨cv,hcv⟩:∃v,cs[i]?=some v:=⟨_,getElem?_eq_getElem (by rw[<-HLC.out];exact hlt)⟩;obtain⟨⟨b,o,rfl,hc0⟩,hn0'⟩:=HC.out i cv hcv;have hc:=hc0.q_ HI.out.bel;have hn:=hn0'.q_ HI.out.bel;have hbd:=znZ (HBC.out cv (List.mem_of_getElem? hcv));have HCV:=zk hcv;clear hc0 hn0' hcv;obtain⟨cN,hcN⟩:∃t,C i=t:=⟨_,rfl⟩;rw[hcN]at hc hn
   have HCN:=zk hcN;obtain⟨z,⟨s0,x0,n0,c0,f0,y0,m0,d0,g0⟩,⟨i1,⟨s1,x1,n1,c1,f1,y1,m1,d1,g1⟩⟩,⟨i2,⟨s2,x2,n2,c2',f2,y2',m2,d2',g2⟩⟩⟩:=cN;obtain⟨vnm,vcost,vli,vlq,vhi,vhq⟩:=cv;obtain⟨hnm,hn0,hli,hn1,hhi,hn2⟩:=hn;replace hnm:z=vnm:=hnm;replace hli:i1=vli:=hli;replace hhi:i2=vhi:=hhi;subst hnm;subst hli;subst hhi
   obtain⟨q0,q1,q2,q3,q4,q5,q6,q7,q8,q9,q10,q11⟩:=hc.lc;have HN0:Hid (Rn L wr s0 x0 n0 c0 f0 y0 m0 d0 g0 vcost):=hn0;have HN1:Hid (En L wr i1 s1 x1 n1 c1 f1 y1 m1 d1 g1 vlq):=⟨hn1,hbd.1⟩;have HN2:Hid (En L wr i2 s2 x2 n2 c2' f2 y2' m2 d2' g2 vhq):=⟨hn2,hbd.2⟩;have i1':((i:Nat):Int)<((ck:Nat):Int):=by omega
   clear hcN hc hn0 hn1 hn2 hbd;go_upto_region 5 with fail
   have hb5:=Below.drew (zA wr (cells #[.string z,.bool s0,slice x0 n0 c0,slice y0 m0 d0,.int .i64 i1,.bool s1,slice x1 n1 c1,slice y1 m1 d1,.int .i64 i2,.bool s2,slice x2 n2 c2',slice y2' m2 d2'] 61));have B5:Bk (wr.alloc (cells #[.string z,.bool s0,slice x0 n0 c0,slice y0 m0 d0,.int .i64 i1,.bool s1,slice x1 n1 c1,slice y1 m1 d1,.int .i64 i2,.bool s2,slice x2 n2 c2',slice y2' m2 d2'] 61)).drew wr.heap.size [.string z,.bool s0,slice x0 n0 c0,slice y0 m0 d0,.int .i64 i1,.bool s1,slice x1 n1 c1,slice y1 m1 d1,.int .i64 i2,.bool s2,slice x2 n2 c2',slice y2' m2 d2'] 61:=zH wr [.string z,.bool s0,slice x0 n0 c0,slice y0 m0 d0,.int .i64 i1,.bool s1,slice x1 n1 c1,slice y1 m1 d1,.int .i64 i2,.bool s2,slice x2 n2 c2',slice y2' m2 d2'] 61;have hne:vC.ownBlock≠some wr.heap.size:=λe=>by have:=(HI.out.row.lt _ e).2;omega
   have hbz:=HI.out.bs;replace HI:=zk (HI.out.q_ hb5);replace HN0:=zk (HN0.out.q_ hb5);replace HN1:=zk (HN1.out.q_ hb5);replace HN2:=zk (HN2.out.q_ hb5)
   obtain⟨a0,a1,a2,a3,a4,a5,a6,a7,a8,a9,a10,a11⟩:=znT B5;have HB5:=zk B5;obtain⟨bk,hbk⟩:∃z,wr.heap.size=z:=⟨_,rfl⟩;simp only[hbk]at *;clear hb5 hbk q0 q1 q2 q3 q4 q5 q6 q7 q8 q9 q10 q11 B5;refine wp_region_held_drew (S:=(λw'=>w'.cell? ⟨bk,0,none⟩=some (.string z)/\w'.cell? ⟨bk,1,none⟩=some (.bool s0)/\w'.cell? ⟨bk,2,none⟩=some (slice x0 n0 c0)/\w'.cell? ⟨bk,3,none⟩=some (slice y0 m0 d0)/\w'.cell? ⟨bk,4,none⟩=some (.int .i64 i1)/\w'.cell? ⟨bk,5,none⟩=some (.bool s1)/\w'.cell? ⟨bk,6,none⟩=some (slice x1 n1 c1)/\w'.cell? ⟨bk,7,none⟩=some (slice y1 m1 d1)/\w'.cell? ⟨bk,8,none⟩=some (.int .i64 i2)/\w'.cell? ⟨bk,9,none⟩=some (.bool s2)/\w'.cell? ⟨bk,10,none⟩=some (slice x2 n2 c2')/\w'.cell? ⟨bk,11,none⟩=some (slice y2' m2 d2'))) (by kernel_rfl) ?_ (λhHeld=>?_)
   ·exact⟨a0,a1,a2,a3,a4,a5,a6,a7,a8,a9,a10,a11⟩
   generalize hwd:(wr.alloc (cells #[.string z,.bool s0,slice x0 n0 c0,slice y0 m0 d0,.int .i64 i1,.bool s1,slice x1 n1 c1,slice y1 m1 d1,.int .i64 i2,.bool s2,slice x2 n2 c2',slice y2' m2 d2'] 61)).drew=wd at *;clear hwd;refine zB 0 ?_;refine zB 2 ?_;refine zB 3 ?_;simp only[zv,Act.put];refine zB 4 ?_;refine zB 5 ?_;refine zB 7 ?_;simp only[zv,Act.put];refine zB 8 ?_;refine zB 10 ?_;refine zB 11 ?_;simp only[zv,Act.put];refine(show wpAnyH _ _ _ _ _ (6+3) _ _ _ from zbH (λj v w=>match j with|1=>vC=v|6=>FN (2*L) vcost v w|9=>FE (2*L) i1 vlq v w|12=>FE (2*L) i2 vhq v w|13=>FC (2*L) ⟨z,vcost,i1,vlq,i2,vhq⟩ v w|14=>FCs (2*L) ⟨z,vcost,i1,vlq,i2,vhq⟩ v w|_=>True) [(1,20),(6,25),(9,28),(12,31),(13,32),(14,33)] [1,6,9,12,13,14] [15,16,17] _ _ _ 3 ?k1 ?k4 ?k2 ?k3 ?k5 ?k6 ?k8)
   case k1=>kernel_rfl
   case k4=>kernel_rfl
   case k2=>exact λw w' h hb=>⟨kCb hb h.1,kCb hb h.2.1,kCb hb h.2.2.1,kCb hb h.2.2.2.1,kCb hb h.2.2.2.2.1,kCb hb h.2.2.2.2.2.1,kCb hb h.2.2.2.2.2.2.1,kCb hb h.2.2.2.2.2.2.2.1,kCb hb h.2.2.2.2.2.2.2.2.1,kCb hb h.2.2.2.2.2.2.2.2.2.1,kCb hb h.2.2.2.2.2.2.2.2.2.2.1,kCb hb h.2.2.2.2.2.2.2.2.2.2.2⟩
   case k3 =>
    intro j v w w' h hb
    split at h <;> first|exact FN.q_ h hb|exact FE.q_ h hb|exact FC.q_ h hb|exact FCs.q_ h hb|exact h|trivial
   case k8=>exact hHeld
   case k5 =>
    intro i hi;simp only[List.mem_cons,List.not_mem_nil,or_false]at hi;rcases hi with rfl|rfl|rfl|rfl|rfl|rfl
    ·refine⟨_,rfl,λu w5 hS hb5 hd K hK=>?_⟩;have k5:=(HI.out.p3.q_ hb5).cell (j:=3) rfl;simp only[zal,zv,Act.put]at hK ⊢;go_simp;exact hK.out _ _ (Below.refl _ _) rfl
    ·refine⟨_,rfl,λu w5 hS hb5 hd K hK=>?_⟩;simp only[zal,zv,Act.put]at hK ⊢;go_simp
     go_at_call 82
     refine(zdB (HN0.out.q_ hb5) (le_trans hL (by decide))).mono ?_;rintro e w6 ⟨sq,zp,nq9,cp,dp,zq,mq9,cq,gq,rfl,hb6,hq1,hq2,hq⟩
     (try go_wp2_with fail)
     exact hK.out _ _ hb6 ⟨⟨sq,zp,nq9,cp,dp,zq,mq9,cq,gq⟩,rfl,hq1,hq2,hq⟩
    ·refine⟨_,rfl,λu w5 hS hb5 hd K hK=>?_⟩;simp only[zal,zv,Act.put]at hK ⊢;go_simp
     go_at_call 83
     refine(zeG (HN1.out.q_ hb5) (le_trans hL (by decide))).mono ?_;rintro e w6 ⟨sq,zp,nq9,cp,dp,zq,mq9,cq,gq,rfl,hb6,hq⟩
     (try go_wp2_with fail)
     exact hK.out _ _ hb6 ⟨⟨i1,⟨sq,zp,nq9,cp,dp,zq,mq9,cq,gq⟩⟩,rfl,rfl,hq.out.1,hq.out.2.1,hq.out.2.2.qn⟩
    ·refine⟨_,rfl,λu w5 hS hb5 hd K hK=>?_⟩;simp only[zal,zv,Act.put]at hK ⊢;go_simp
     go_at_call 83
     refine(zeG (HN2.out.q_ hb5) (le_trans hL (by decide))).mono ?_;rintro e w6 ⟨sq,zp,nq9,cp,dp,zq,mq9,cq,gq,rfl,hb6,hq⟩
     (try go_wp2_with fail)
     exact hK.out _ _ hb6 ⟨⟨i2,⟨sq,zp,nq9,cp,dp,zq,mq9,cq,gq⟩⟩,rfl,rfl,hq.out.1,hq.out.2.1,hq.out.2.2.qn⟩
    ·refine⟨_,rfl,λu w5 hS hb5 hd K hK=>?_⟩;have h6:FN (2*L) vcost (u 6) w5:=hd 6 (by kernel_rfl) (by kernel_rfl);obtain⟨⟨sa6,xa6,na6,ca6,fa6,ya6,ma6,da6,ga6⟩,e6,hv6⟩:=h6;replace e6:u 6=agg #[.bool sa6,slice xa6 na6 ca6,slice ya6 ma6 da6]:=e6;have h9:FE (2*L) i1 vlq (u 9) w5:=hd 9 (by kernel_rfl) (by kernel_rfl);obtain⟨⟨ia9,⟨sa9,xa9,na9,ca9,fa9,ya9,ma9,da9,ga9⟩⟩,e9,hi9,hv9⟩:=h9;replace e9:u 9=agg #[.int .i64 ia9,.bool sa9,slice xa9 na9 ca9,slice ya9 ma9 da9]:=e9;have h12:FE (2*L) i2 vhq (u 12) w5:=hd 12 (by kernel_rfl) (by kernel_rfl);obtain⟨⟨ia12,⟨sa12,xa12,na12,ca12,fa12,ya12,ma12,da12,ga12⟩⟩,e12,hi12,hv12⟩:=h12;replace e12:u 12=agg #[.int .i64 ia12,.bool sa12,slice xa12 na12 ca12,slice ya12 ma12 da12]:=e12;simp only[zal,zv,Act.put]at hK ⊢;simp only[e6,e9,e12]at hK ⊢;go_simp;exact hK.out _ _ (Below.refl _ _) ⟨⟨z,⟨sa6,xa6,na6,ca6,fa6,ya6,ma6,da6,ga6⟩,⟨ia9,⟨sa9,xa9,na9,ca9,fa9,ya9,ma9,da9,ga9⟩⟩,⟨ia12,⟨sa12,xa12,na12,ca12,fa12,ya12,ma12,da12,ga12⟩⟩⟩,rfl,rfl,hv6,hi9,hv9,hi12,hv12⟩
    ·refine⟨_,rfl,λu w5 hS hb5 hd K hK=>?_⟩;have h13:FC (2*L) ⟨z,vcost,i1,vlq,i2,vhq⟩ (u 13) w5:=hd 13 (by kernel_rfl) (by kernel_rfl);obtain⟨⟨zj,⟨sb,xb,nb,cb,fb,yb,mb,db,gb⟩,⟨ic,⟨sc,xc,nc,cc9,fc,yc,mc,dc,gc⟩⟩,⟨ie,⟨sd,xd,nd,cd,fd,yd,md,dd,gd⟩⟩⟩,e13,hv⟩:=h13;replace e13:u 13=agg #[.string zj,.bool sb,slice xb nb cb,slice yb mb db,.int .i64 ic,.bool sc,slice xc nc cc9,slice yc mc dc,.int .i64 ie,.bool sd,slice xd nd cd,slice yd md dd]:=e13;simp only[zal,zv,Act.put]at hK ⊢;simp only[e13]at hK ⊢;go_simp;have hn:=zA w5 (cells #[.string zj,.bool sb,slice xb nb cb,slice yb mb db,.int .i64 ic,.bool sc,slice xc nc cc9,slice yc mc dc,.int .i64 ie,.bool sd,slice xd nd cd,slice yd md dd] 138);have hx:=zdm w5 138 [.string zj,.bool sb,slice xb nb cb,slice yb mb db,.int .i64 ic,.bool sc,slice xc nc cc9,slice yc mc dc,.int .i64 ie,.bool sd,slice xd nd cd,slice yd md dd] [.string zj,.bool sb,slice xb nb cb,slice yb mb db,.int .i64 ic,.bool sc,slice xc nc cc9,slice yc mc dc,.int .i64 ie,.bool sd,slice xd nd cd,slice yd md dd] 0 (λj v e=>by rw[zero_add];exact e);exact hK.out _ _ hn ⟨w5.heap.size,⟨zj,⟨sb,xb,nb,cb,fb,yb,mb,db,gb⟩,⟨ic,⟨sc,xc,nc,cc9,fc,yc,mc,dc,gc⟩⟩,⟨ie,⟨sd,xd,nd,cd,fd,yd,md,dd,gd⟩⟩⟩,rfl,hx,hv.q_ hn⟩
   case k6 =>
    intro u w5 hS5 hb5 hg;have h1:vC=u 1:=hg 1 (by simp);have h14:FCs (2*L) ⟨z,vcost,i1,vlq,i2,vhq⟩ (u 14) w5:=hg 14 (by simp);obtain⟨b14,⟨zj,⟨sb,xb,nb,cb,fb,yb,mb,db,gb⟩,⟨ic,⟨sc,xc,nc,cc9,fc,yc,mc,dc,gc⟩⟩,⟨ie,⟨sd,xd,nd,cd,fd,yd,md,dd,gd⟩⟩⟩,e14,hcs,hqc⟩:=h14;replace HI:=zk (HI.out.q_ hb5);obtain⟨i0,hi0,hz0,hz1,hz2⟩:=info_parts zrg;obtain⟨t0,t1,t2,t3,t4,t5,t6,t7,t8,t9,t10,t11⟩:=id hS5;have hbl:=World.block_lt_of_cell? w5 _ t0;replace hbl:bk<w5.heap.size:=hbl;clear hg;simp only[zal,zv,Act.put];simp only[<-h1,e14];clear h1 e14;refine rdO 15 (λK hK=>?_);refine zaU w5 rfl (.tmp 20) (.tmp 33) 92 rfl base 138 i0 zC 12 200 underlying92 hi0 hz0 hz1 hz2 rfl (by decide) nzC vC i (ccs C' i) rfl HI.out.row ⟨b14,0,none⟩ 1 1 (Lc.vs ⟨zj,⟨sb,xb,nb,cb,fb,yb,mb,db,gb⟩,⟨ic,⟨sc,xc,nc,cc9,fc,yc,mc,dc,gc⟩⟩,⟨ie,⟨sd,xd,nd,cd,fd,yd,md,dd,gd⟩⟩⟩) rfl rfl ?n1 (zjE _) (zgR _) (by decide) ?p1 ?p2 HI.out.bs ?_
    case n1=>intro j u hu;rw[addr_add];exact hcs j u hu
    case p1=>unfold maxLen;omega
    case p2=>omega
    intro g8 cap8 w8 hr8 hgr8 hk8 hl8;have hB8:=hgr8.block bk hbl (λe=>hne e.symm);have e0:=(cell?_of_block (a:=⟨bk,0,none⟩) hB8).trans t0;have e1:=(cell?_of_block (a:=⟨bk,1,none⟩) hB8).trans t1;have e2:=(cell?_of_block (a:=⟨bk,2,none⟩) hB8).trans t2;have e3:=(cell?_of_block (a:=⟨bk,3,none⟩) hB8).trans t3;have e4:=(cell?_of_block (a:=⟨bk,4,none⟩) hB8).trans t4;have e5:=(cell?_of_block (a:=⟨bk,5,none⟩) hB8).trans t5;have e6:=(cell?_of_block (a:=⟨bk,6,none⟩) hB8).trans t6;have e7:=(cell?_of_block (a:=⟨bk,7,none⟩) hB8).trans t7;have e8:=(cell?_of_block (a:=⟨bk,8,none⟩) hB8).trans t8;have e9:=(cell?_of_block (a:=⟨bk,9,none⟩) hB8).trans t9;have e10:=(cell?_of_block (a:=⟨bk,10,none⟩) hB8).trans t10;have e11:=(cell?_of_block (a:=⟨bk,11,none⟩) hB8).trans t11;have hp8:=HI.out.p3.of (hgr8.block b3 HI.out.p3.lt (λe=>by have:=(HI.out.row.lt b3 e.symm).1;omega));have f0:=hp8.cell (j:=3) rfl;have ff:=hp8.frozen 3;refine hK.out _ _ ?_ (λhH8=>?_)
    ·exact⟨e0,e1,e2,e3,e4,e5,e6,e7,e8,e9,e10,e11⟩
    clear hK K;try simp only[Act.put,List.setIfInBounds_toArray]
    refine zB 16 ?_;simp only[zv,Act.put];refine rdO 17 (λK hK=>?_);go_simp;refine hK.out _ _ ?_ (λhH9=>?_)
    ·((try dsimp only);(refine⟨?_,?_,?_,?_,?_,?_,?_,?_,?_,?_,?_,?_⟩ <;> repeat(with_reducible first|assumption|refine kCs (by simp only[ne_eq];omega) ?_)))
    clear hK K;try simp only[Act.put]
    refine dnO ?_;have HI9:=zk (HI.out.next (by omega) (by omega) hbb (le_refl _) (λv hv=>by rw[HCV.out]at hv;cases hv;exact hqc) hr8 hk8 hgr8);clear hr8 hgr8 hk8 hl8 hB8 hp8 f0 ff hH8 hH9 HI hqc hcs hHeld HB5 e0 e1 e2 e3 e4 e5 e6 e7 e8 e9 e10 e11;go_wp2;go_roundw
    case rel=>exact⟨i+1,_,_,by omega,by go_num,HI9.out⟩
    case measure=>simp[intOf];omega
  ·have e1:i=ck:=by omega
   have i2':¬(((i:Nat):Int)<((ck:Nat):Int)):=by omega
   rw[e1]at HI
   have k4:=HI.out.p1.cell (j:=4) rfl;obtain⟨base2,hbase2⟩:∃z,wr.heap.size=z:=⟨_,rfl⟩;have hb2:base<=base2:=by have:=HI.out.bs;omega
   have HI2:Hid (FrR w base base2 (w.heap.size+1) b3 [.bool false,slice none 0 0,slice none 0 0,slice none 0 0,slice none 0 0] sz z2 nz c2 y2 mz d2 ⟨sz,z2,nz,c2,fz,y2,mz,d2,gz⟩ (2*L) q cs ck C' vC rs wr 0 R (slice none 0 0)):=⟨HI.out.bel,HI.out.p2,HI.out.p3,by omega,HI.out.off,HI.out.row,HI.out.el,λk hk=>by have:=(HI.out.row.lt k hk).2;omega,zai _ _ _ _,λj v hj=>by omega⟩;clear HI e1 HC hbase2;go_wp2_with fail
   go_loopw[40] (λt wr=>∃(i:Nat) (R':Nat->Lr) (vR:Value),i<=rk/\t=.int .i64 i/\Hid (FrR w base base2 (w.heap.size+1) b3 [.bool false,slice none 0 0,slice none 0 0,slice none 0 0,slice none 0 0] sz z2 nz c2 y2 mz d2 ⟨sz,z2,nz,c2,fz,y2,mz,d2,gz⟩ (2*L) q cs ck C' vC rs wr i R' vR)) (λt _=>rk-(intOf t).toNat)
   case atStart=>exact⟨0,R,_,by omega,rfl,HI2.out⟩
   case round =>
    obtain⟨i,R',vR,hi,rfl,HI⟩:=hrel;clear HI2 k4;by_cases hlt:i<rk
    ·obtain⟨rv,hrv⟩:∃v,rs[i]?=some v:=⟨_,getElem?_eq_getElem (by rw[<-HLR.out];exact hlt)⟩;obtain⟨⟨b,o,rfl,hc0⟩,hn0'⟩:=HRL.out i rv hrv;have hc:=hc0.q_ HI.out.bel;have hn:=hn0'.q_ HI.out.bel;obtain⟨hbd0,hts1,hts2⟩:=HBR.out rv (List.mem_of_getElem? hrv);have hbd:=znZ hbd0;have HRV:=zk hrv;clear hc0 hn0' hrv hbd0 hts1;obtain⟨rN,hrN⟩:∃t,R i=t:=⟨_,rfl⟩;rw[hrN]at hc hn
     have HRN:=zk hrN;obtain⟨z,⟨i1,⟨s1,x1,n1,c1,f1,y1,m1,d1,g1⟩⟩,⟨i2,⟨s2,x2,n2,c2',f2,y2',m2,d2',g2⟩⟩,ta,tk,tc,tcol,tt⟩:=rN;have hT:=hn.tls (le_trans hL (by decide));have hQ:∀j,j<(Lr.mk z ⟨i1,⟨s1,x1,n1,c1,f1,y1,m1,d1,g1⟩⟩ ⟨i2,⟨s2,x2,n2,c2',f2,y2',m2,d2',g2⟩⟩ ta tk tc tcol tt).tk->∃q',rv.ts[j]?=some (tcol j,q')/\Rn L wr (tt j).s (tt j).x (tt j).n (tt j).c (tt j).f (tt j).y (tt j).m (tt j).d (tt j).g q':=λj hj=>by
      rw[hn.tk]at hj
      obtain⟨⟨a,q'⟩,e⟩:∃v,rv.ts[j]?=some v:=⟨_,getElem?_eq_getElem hj⟩;obtain⟨e1,e2,_⟩:=hn.tl j a q' e;exact⟨q',by rw[e,<-e1],e2⟩
     obtain⟨vnm,vli,vlq,vhi,vhq,vts⟩:=rv;obtain⟨hnm,hli,hn1,hhi,hn2,htk,_⟩:=hn;replace hnm:z=vnm:=hnm;replace hli:i1=vli:=hli;replace hhi:i2=vhi:=hhi;replace htk:tk=vts.length:=htk;subst hnm;subst hli;subst hhi
     obtain⟨q0,q1,q2,q3,q4,q5,q6,q7,q8,q9⟩:=hc.lr;have HN1:Hid (En L wr i1 s1 x1 n1 c1 f1 y1 m1 d1 g1 vlq):=⟨hn1,hbd.1⟩;have HN2:Hid (En L wr i2 s2 x2 n2 c2' f2 y2' m2 d2' g2 vhq):=⟨hn2,hbd.2⟩;have HN3:Hid (∀W,Bl wr W->Calls prog 84 #[slice ta tk tc] W λe w'=>zor (2*L) W w' e tk vts):=λW hW=>znt (hT.q_ hW) (le_trans (Nat.le_of_eq htk) (le_trans hts2 (by decide))) (le_trans hL (by decide)) htk.symm (λj hj=>by obtain⟨q',e1,e2⟩:=hQ j hj;exact⟨q',e1,e2.q_ hW⟩)
     have HTK:=zk htk;have i1':((i:Nat):Int)<((rk:Nat):Int):=by omega
     clear hrN hc hn1 hn2 hT hQ hbd htk;go_upto_region 10 with fail
     have hb5:=Below.drew (zA wr (cells #[.string z,.int .i64 i1,.bool s1,slice x1 n1 c1,slice y1 m1 d1,.int .i64 i2,.bool s2,slice x2 n2 c2',slice y2' m2 d2',slice ta tk tc] 64));have B5:Bk (wr.alloc (cells #[.string z,.int .i64 i1,.bool s1,slice x1 n1 c1,slice y1 m1 d1,.int .i64 i2,.bool s2,slice x2 n2 c2',slice y2' m2 d2',slice ta tk tc] 64)).drew wr.heap.size [.string z,.int .i64 i1,.bool s1,slice x1 n1 c1,slice y1 m1 d1,.int .i64 i2,.bool s2,slice x2 n2 c2',slice y2' m2 d2',slice ta tk tc] 64:=zH wr [.string z,.int .i64 i1,.bool s1,slice x1 n1 c1,slice y1 m1 d1,.int .i64 i2,.bool s2,slice x2 n2 c2',slice y2' m2 d2',slice ta tk tc] 64;have hne:vR.ownBlock≠some wr.heap.size:=λe=>by have:=(HI.out.row.lt _ e).2;omega
     have hbz:=HI.out.bs;replace HI:=zk (HI.out.q_ hb5);replace HN1:=zk (HN1.out.q_ hb5);replace HN2:=zk (HN2.out.q_ hb5)
     replace HN3:Hid (∀W,Below (wr.alloc (cells #[.string z,.int .i64 i1,.bool s1,slice x1 n1 c1,slice y1 m1 d1,.int .i64 i2,.bool s2,slice x2 n2 c2',slice y2' m2 d2',slice ta tk tc] 64)).drew.heap.size (wr.alloc (cells #[.string z,.int .i64 i1,.bool s1,slice x1 n1 c1,slice y1 m1 d1,.int .i64 i2,.bool s2,slice x2 n2 c2',slice y2' m2 d2',slice ta tk tc] 64)).drew W->Calls prog 84 #[slice ta tk tc] W λe w'=>zor (2*L) W w' e tk vts):=λW hW=>HN3.out W (bUp hb5 hW)
     obtain⟨a0,a1,a2,a3,a4,a5,a6,a7,a8,a9⟩:=zlI B5;have HB5:=zk B5;obtain⟨bk,hbk⟩:∃z,wr.heap.size=z:=⟨_,rfl⟩;simp only[hbk]at *;clear hb5 hbk q0 q1 q2 q3 q4 q5 q6 q7 q8 q9 B5;refine wp_region_held_drew (S:=(λw'=>w'.cell? ⟨bk,0,none⟩=some (.string z)/\w'.cell? ⟨bk,1,none⟩=some (.int .i64 i1)/\w'.cell? ⟨bk,2,none⟩=some (.bool s1)/\w'.cell? ⟨bk,3,none⟩=some (slice x1 n1 c1)/\w'.cell? ⟨bk,4,none⟩=some (slice y1 m1 d1)/\w'.cell? ⟨bk,5,none⟩=some (.int .i64 i2)/\w'.cell? ⟨bk,6,none⟩=some (.bool s2)/\w'.cell? ⟨bk,7,none⟩=some (slice x2 n2 c2')/\w'.cell? ⟨bk,8,none⟩=some (slice y2' m2 d2')/\w'.cell? ⟨bk,9,none⟩=some (slice ta tk tc))) (by kernel_rfl) ?_ (λhHeld=>?_)
     ·exact⟨a0,a1,a2,a3,a4,a5,a6,a7,a8,a9⟩
     generalize hwd:(wr.alloc (cells #[.string z,.int .i64 i1,.bool s1,slice x1 n1 c1,slice y1 m1 d1,.int .i64 i2,.bool s2,slice x2 n2 c2',slice y2' m2 d2',slice ta tk tc] 64)).drew=wd at *;clear hwd;obtain⟨bse,hbse⟩:∃z,wd.heap.size=z:=⟨_,rfl⟩;have hb2s:base2<=bse:=by have:=HI.out.bs;omega
     have hown:∀b,bse<=b->vR.ownBlock≠some b:=λb hb e=>by have:=(HI.out.row.lt b e).2;omega
     have HW:=zk hown;clear hown;refine zB 0 ?_;refine zB 2 ?_;refine zB 3 ?_;simp only[zv,Act.put];refine zB 4 ?_;refine zB 5 ?_;refine zB 7 ?_;simp only[zv,Act.put];refine zB 8 ?_;refine zB 10 ?_;refine zB 11 ?_;simp only[zv,Act.put];refine(show wpAnyH _ _ _ _ _ (6+3) _ _ _ from zbH (λj v w=>match j with|1=>vR=v|6=>FE (2*L) i1 vlq v w|9=>FE (2*L) i2 vhq v w|12=>FT (2*L) bse tk vts v w|13=>FR (2*L) bse ⟨z,i1,vlq,i2,vhq,vts⟩ v w|14=>FRs (2*L) bse ⟨z,i1,vlq,i2,vhq,vts⟩ v w|_=>True) [(1,45),(6,50),(9,53),(12,56),(13,57),(14,58)] [1,6,9,12,13,14] [15,16,17] _ _ _ 3 ?k1 ?k4 ?k2 ?k3 ?k5 ?k6 ?k8)
     case k1=>kernel_rfl
     case k4=>kernel_rfl
     case k2=>exact λw w' h hb=>⟨kCb hb h.1,kCb hb h.2.1,kCb hb h.2.2.1,kCb hb h.2.2.2.1,kCb hb h.2.2.2.2.1,kCb hb h.2.2.2.2.2.1,kCb hb h.2.2.2.2.2.2.1,kCb hb h.2.2.2.2.2.2.2.1,kCb hb h.2.2.2.2.2.2.2.2.1,kCb hb h.2.2.2.2.2.2.2.2.2⟩
     case k3 =>
      intro j v w w' h hb
      split at h <;> first|exact FE.q_ h hb|exact FT.q_ h hb|exact FR.q_ h hb|exact FRs.q_ h hb|exact h|trivial
     case k8=>exact hHeld
     case k5 =>
      intro i hi;simp only[List.mem_cons,List.not_mem_nil,or_false]at hi;rcases hi with rfl|rfl|rfl|rfl|rfl|rfl
      ·refine⟨_,rfl,λu w5 hS hb5 hd K hK=>?_⟩;have k5:=(HI.out.p3.q_ hb5).cell (j:=4) rfl;simp only[zal,zv,Act.put]at hK ⊢;go_simp;exact hK.out _ _ (Below.refl _ _) rfl
      ·refine⟨_,rfl,λu w5 hS hb5 hd K hK=>?_⟩;simp only[zal,zv,Act.put]at hK ⊢;go_simp
       go_at_call 83
       refine(zeG (HN1.out.q_ hb5) (le_trans hL (by decide))).mono ?_;rintro e w6 ⟨sq,zp,nq9,cp,dp,zq,mq9,cq,gq,rfl,hb6,hq⟩
       (try go_wp2_with fail)
       exact hK.out _ _ hb6 ⟨⟨i1,⟨sq,zp,nq9,cp,dp,zq,mq9,cq,gq⟩⟩,rfl,rfl,hq.out.1,hq.out.2.1,hq.out.2.2.qn⟩
      ·refine⟨_,rfl,λu w5 hS hb5 hd K hK=>?_⟩;simp only[zal,zv,Act.put]at hK ⊢;go_simp
       go_at_call 83
       refine(zeG (HN2.out.q_ hb5) (le_trans hL (by decide))).mono ?_;rintro e w6 ⟨sq,zp,nq9,cp,dp,zq,mq9,cq,gq,rfl,hb6,hq⟩
       (try go_wp2_with fail)
       exact hK.out _ _ hb6 ⟨⟨i2,⟨sq,zp,nq9,cp,dp,zq,mq9,cq,gq⟩⟩,rfl,rfl,hq.out.1,hq.out.2.1,hq.out.2.2.qn⟩
      ·refine⟨_,rfl,λu w5 hS hb5 hd K hK=>?_⟩;simp only[zal,zv,Act.put]at hK ⊢;go_simp
       go_at_call 84
       refine(HN3.out _ hb5).mono ?_;rintro e w6 ⟨aw,cw,rfl,hb6,_,hfr,hq⟩
       (try go_wp2_with fail)
       exact hK.out _ _ hb6 ⟨aw,cw,rfl,λb o s e=>by have h1:=hfr b o s e;have h2:=hb5.size;omega,hq.out⟩
      ·refine⟨_,rfl,λu w5 hS hb5 hd K hK=>?_⟩;have h6:FE (2*L) i1 vlq (u 6) w5:=hd 6 (by kernel_rfl) (by kernel_rfl);obtain⟨⟨ia6,⟨sa6,xa6,na6,ca6,fa6,ya6,ma6,da6,ga6⟩⟩,e6,hi6,hv6⟩:=h6;replace e6:u 6=agg #[.int .i64 ia6,.bool sa6,slice xa6 na6 ca6,slice ya6 ma6 da6]:=e6;have h9:FE (2*L) i2 vhq (u 9) w5:=hd 9 (by kernel_rfl) (by kernel_rfl);obtain⟨⟨ia9,⟨sa9,xa9,na9,ca9,fa9,ya9,ma9,da9,ga9⟩⟩,e9,hi9,hv9⟩:=h9;replace e9:u 9=agg #[.int .i64 ia9,.bool sa9,slice xa9 na9 ca9,slice ya9 ma9 da9]:=e9;have h12:FT (2*L) bse tk vts (u 12) w5:=hd 12 (by kernel_rfl) (by kernel_rfl);obtain⟨aw,cw,e12,hfr,htq⟩:=h12;simp only[zal,zv,Act.put]at hK ⊢;simp only[e6,e9,e12]at hK ⊢;go_simp;exact hK.out _ _ (Below.refl _ _) ⟨⟨z,⟨ia6,⟨sa6,xa6,na6,ca6,fa6,ya6,ma6,da6,ga6⟩⟩,⟨ia9,⟨sa9,xa9,na9,ca9,fa9,ya9,ma9,da9,ga9⟩⟩,aw,tk,cw,λ_=>0,λ_=>nz9⟩,rfl,⟨rfl,hi6,hv6,hi9,hv9,HTK.out,htq⟩,hfr⟩
      ·refine⟨_,rfl,λu w5 hS hb5 hd K hK=>?_⟩;have h13:FR (2*L) bse ⟨z,i1,vlq,i2,vhq,vts⟩ (u 13) w5:=hd 13 (by kernel_rfl) (by kernel_rfl);obtain⟨⟨zj,⟨ic,⟨sc,xc,nc,cc9,fc,yc,mc,dc,gc⟩⟩,⟨ie,⟨sd,xd,nd,cd,fd,yd,md,dd,gd⟩⟩,ta9,tk9,tc9,tcol9,tt9⟩,e13,hv,hfr⟩:=h13;replace e13:u 13=agg #[.string zj,.int .i64 ic,.bool sc,slice xc nc cc9,slice yc mc dc,.int .i64 ie,.bool sd,slice xd nd cd,slice yd md dd,slice ta9 tk9 tc9]:=e13;simp only[zal,zv,Act.put]at hK ⊢;simp only[e13]at hK ⊢;go_simp;have hn:=zA w5 (cells #[.string zj,.int .i64 ic,.bool sc,slice xc nc cc9,slice yc mc dc,.int .i64 ie,.bool sd,slice xd nd cd,slice yd md dd,slice ta9 tk9 tc9] 141);have hx:=zdm w5 141 [.string zj,.int .i64 ic,.bool sc,slice xc nc cc9,slice yc mc dc,.int .i64 ie,.bool sd,slice xd nd cd,slice yd md dd,slice ta9 tk9 tc9] [.string zj,.int .i64 ic,.bool sc,slice xc nc cc9,slice yc mc dc,.int .i64 ie,.bool sd,slice xd nd cd,slice yd md dd,slice ta9 tk9 tc9] 0 (λj v e=>by rw[zero_add];exact e);exact hK.out _ _ hn ⟨w5.heap.size,⟨zj,⟨ic,⟨sc,xc,nc,cc9,fc,yc,mc,dc,gc⟩⟩,⟨ie,⟨sd,xd,nd,cd,fd,yd,md,dd,gd⟩⟩,ta9,tk9,tc9,tcol9,tt9⟩,rfl,hx,hv.q_ hn,hfr⟩
     case k6 =>
      intro u w5 hS5 hb5 hg;have h1:vR=u 1:=hg 1 (by simp);have h14:FRs (2*L) bse ⟨z,i1,vlq,i2,vhq,vts⟩ (u 14) w5:=hg 14 (by simp);obtain⟨b14,⟨zj,⟨ic,⟨sc,xc,nc,cc9,fc,yc,mc,dc,gc⟩⟩,⟨ie,⟨sd,xd,nd,cd,fd,yd,md,dd,gd⟩⟩,ta9,tk9,tc9,tcol9,tt9⟩,e14,hcs,hqc,hfr⟩:=h14;replace HI:=zk (HI.out.q_ hb5);obtain⟨i0,hi0,hz0,hz1,hz2⟩:=info_parts zrf;obtain⟨t0,t1,t2,t3,t4,t5,t6,t7,t8,t9⟩:=id hS5;have hbl:=World.block_lt_of_cell? w5 _ t0;replace hbl:bk<w5.heap.size:=hbl;clear hg;simp only[zal,zv,Act.put];simp only[<-h1,e14];clear h1 e14;refine rdO 15 (λK hK=>?_);refine zaU w5 rfl (.tmp 45) (.tmp 58) 93 rfl base2 141 i0 zR 10 168 underlying93 hi0 hz0 hz1 hz2 rfl (by decide) nzR vR i (rcs R' i) rfl HI.out.row ⟨b14,0,none⟩ 1 1 (Lr.vs ⟨zj,⟨ic,⟨sc,xc,nc,cc9,fc,yc,mc,dc,gc⟩⟩,⟨ie,⟨sd,xd,nd,cd,fd,yd,md,dd,gd⟩⟩,ta9,tk9,tc9,tcol9,tt9⟩) rfl rfl ?n1 (zjD _) (zgQ _) (by decide) ?p1 ?p2 HI.out.bs ?_
      case n1=>intro j u hu;rw[addr_add];exact hcs j u hu
      case p1=>unfold maxLen;omega
      case p2=>omega
      intro g8 cap8 w8 hr8 hgr8 hk8 hl8;have hB8:=hgr8.block bk hbl (λe=>hne e.symm);have e0:=(cell?_of_block (a:=⟨bk,0,none⟩) hB8).trans t0;have e1:=(cell?_of_block (a:=⟨bk,1,none⟩) hB8).trans t1;have e2:=(cell?_of_block (a:=⟨bk,2,none⟩) hB8).trans t2;have e3:=(cell?_of_block (a:=⟨bk,3,none⟩) hB8).trans t3;have e4:=(cell?_of_block (a:=⟨bk,4,none⟩) hB8).trans t4;have e5:=(cell?_of_block (a:=⟨bk,5,none⟩) hB8).trans t5;have e6:=(cell?_of_block (a:=⟨bk,6,none⟩) hB8).trans t6;have e7:=(cell?_of_block (a:=⟨bk,7,none⟩) hB8).trans t7;have e8:=(cell?_of_block (a:=⟨bk,8,none⟩) hB8).trans t8;have e9:=(cell?_of_block (a:=⟨bk,9,none⟩) hB8).trans t9;have hp8:=HI.out.p3.of (hgr8.block b3 HI.out.p3.lt (λe=>by have:=(HI.out.row.lt b3 e.symm).1;omega));have f0:=hp8.cell (j:=4) rfl;have ff:=hp8.frozen 4;refine hK.out _ _ ?_ (λhH8=>?_)
      ·exact⟨e0,e1,e2,e3,e4,e5,e6,e7,e8,e9⟩
      clear hK K;try simp only[Act.put,List.setIfInBounds_toArray]
      refine zB 16 ?_;simp only[zv,Act.put];refine rdO 17 (λK hK=>?_);go_simp;refine hK.out _ _ ?_ (λhH9=>?_)
      ·((try dsimp only);(refine⟨?_,?_,?_,?_,?_,?_,?_,?_,?_,?_⟩ <;> repeat(with_reducible first|assumption|refine kCs (by simp only[ne_eq];omega) ?_)))
      clear hK K;try simp only[Act.put]
      refine dnO ?_;have HI9:=zk (HI.out.next (by omega) (by omega) hbb (by omega) (λv hv=>by rw[HRV.out]at hv;cases hv;exact hqc) (λb o s e=>⟨by have:=hfr b o s e;omega,HW.out b (hfr b o s e)⟩) hr8 hk8 hgr8 hl8);clear hr8 hgr8 hk8 hl8 hB8 hp8 f0 ff hH8 hH9 HI hqc hcs hHeld HB5 e0 e1 e2 e3 e4 e5 e6 e7 e8 e9;go_wp2;go_roundw
      case rel=>exact⟨i+1,_,_,by omega,by go_num,HI9.out⟩
      case measure=>simp[intOf];omega
    ·have e1:i=rk:=by omega
     have i2':¬(((i:Nat):Int)<((rk:Nat):Int)):=by omega
     rw[e1]at HI
     obtain⟨aC,cC,rfl⟩:=HI.out.rowC.slice;obtain⟨aR,cR,rfl⟩:=HI.out.row.slice;have o0:=HI.out.p3.cell (j:=0) rfl;have o1:=HI.out.p3.cell (j:=1) rfl;have o2:=HI.out.p3.cell (j:=2) rfl;have o3:=HI.out.p3.cell (j:=3) rfl;have o4:=HI.out.p3.cell (j:=4) rfl;have r0:=HI.out.p2.cell (j:=0) rfl;have r1:=HI.out.p2.cell (j:=1) rfl;have r2:=HI.out.p2.cell (j:=2) rfl;have r3:=HI.out.p2.cell (j:=3) rfl;have r4:=HI.out.p2.cell (j:=4) rfl;have rf:=HI.out.p2.frozen;obtain⟨hx1,hx2⟩:=HI.out.done (v0:=.bool sz) (v1:=slice z2 nz c2) (v2:=slice y2 mz d2) (v3:=slice aC ck cC) (v4:=slice aR rk cR) (by omega) (by omega) (by omega) rfl HLC.out HLR.out;have HX:=zk (HA.out _ _ hx1 hx2);clear hx1 hx2 HI e1;go_wp2;exact bodyPost_ret (v:=agg #[.bool sz,slice z2 nz c2,slice y2 mz d2,slice aC ck cC,slice aR rk cR]) (by simp[results,results48,go_sem,r0,r1,r2,r3,r4]) rfl HX.out
theorem NmS.val {w t K} (h:NmS w t) (hf:nfB t=true) (hk:t.n<=K/\t.m<=K):NmV K w t (nq t):=by
 obtain⟨q,hq⟩:=Nm.rn h hf hk.1 hk.2;rw[hq.nq];exact hq
def zix (c:Lc):CV:=⟨c.nm,nq c.cost,c.lo.i,nq c.lo.v,c.hi.i,nq c.hi.v⟩
def zfC (r:Lr):RV:=⟨r.nm,r.lo.i,nq r.lo.v,r.hi.i,nq r.hi.v,(List.range r.tk).map (λp=>(r.col p,nq (r.T p)))⟩
theorem zdy {α:Type} {f n j} {v:α} (h:((List.range n).map f)[j]?=some v):j<n/\v=f j:=by
 have hlt:j<n:=by have:=(List.getElem?_eq_some_iff.1 h).1;simpa using this
 simp[hlt]at h
 exact⟨hlt,h.symm⟩
theorem zcJ {α:Type} {f:Nat->α} {n j} (h:j<n):((List.range n).map f)[j]?=some (f j):=by simp[h]
theorem zqd {w a b K} (ha:NmS w a.v) (hb:NmS w b.v) (ka:a.v.n<=K/\a.v.m<=K) (kb:b.v.n<=K/\b.v.m<=K) (h:abB a b=true):NmV K w a.v (nq a.v)/\NmV K w b.v (nq b.v)/\bdB a.i (nq a.v) b.i (nq b.v)=true:=by
 obtain⟨f1,f2,h1,h2⟩:=zjy h;simp only[exF,efB,Bool.and_eq_true,Bool.or_eq_true,decide_eq_true_eq]at f1 f2;have v1:NmV K w a.v (nq a.v):=ha.val f1.1 ka;have v2:NmV K w b.v (nq b.v):=hb.val f2.1 kb;refine⟨v1,v2,?_⟩;simp only[bdB,Bool.and_eq_true,Bool.or_eq_true,decide_eq_true_eq];constructor
 ·rcases f1.2 with h|⟨h|h,h3⟩
  ·exact .inl h
  ·exact .inr ⟨h,(Rn.q_zero v1).2 h3⟩
  ·exact absurd h h1
 ·rcases f2.2 with h|⟨h|h,h3⟩
  ·exact .inl h
  ·exact absurd h h2
  ·exact .inr ⟨h,(Rn.q_zero v2).2 h3⟩
theorem zpU {w col T} {n K:Nat}:∀{r i:Nat} {last:Int},tfr col T r i last=true->(∀p,i<=p->p<i+r->col p<(n:Int))->(∀p,i<=p->p<i+r->NmV K w (T p) (nq (T p)))->tsB n last ((List.range' i r).map (λp=>(col p,nq (T p))))=true
 | 0,i,last,_,_,_=>rfl
 | r+1,i,last,h,hc,hv=>by
  simp only[tfr,Bool.and_eq_true,decide_eq_true_eq]at h;rw[List.range'_succ,List.map_cons];simp only[tsB,Bool.and_eq_true,decide_eq_true_eq];refine⟨h.1,hc i (by omega) (by omega),λe=>?_,zpU h.2.2.2 (λp a b=>hc p (by omega) (by omega)) (λp a b=>hv p (by omega) (by omega))⟩;have:=(Rn.q_zero (hv i (by omega) (by omega))).1 e;omega
def zag (M:Mo):List CV:=(List.range M.ck).map (λj=>zix (M.C j))
def zam (M:Mo):List RV:=(List.range M.rk).map (λj=>zfC (M.R j))
theorem MoR.movC {w M K} (h:MoR w M) (hk:MoK K M) (he:zar M=0):MoV K w M (nq M.off) (zag M) (zam M)/\zbC (zag M) (zam M)=true:=by
 obtain⟨l1,l2,hF,n1,n2,t1,t2,hAl⟩:=zdQ he;simp only[moF,Bool.and_eq_true]at hF;obtain⟨hF0,hFC,hFR⟩:=hF;have hcol:∀j,j<M.ck->ColV K w (M.C j) (zix (M.C j))/\bdB (zix (M.C j)).li (zix (M.C j)).lq (zix (M.C j)).hi (zix (M.C j)).hq=true:=λj hj=>by
  obtain⟨_,_,_,_,hn⟩:=h.cls j hj;obtain⟨f1,f2⟩:=zfn hFC j (by omega) (by omega);have k:=hk.c j hj;obtain⟨v1,v2,hb⟩:=zqd hn.lo hn.hi k.2.1 k.2.2 f2;exact⟨⟨rfl,hn.cost.val f1 k.1,rfl,v1,rfl,v2⟩,hb⟩
 have hrow:∀j,j<M.rk->RowV K w (M.R j) (zfC (M.R j))/\bdB (zfC (M.R j)).li (zfC (M.R j)).lq (zfC (M.R j)).hi (zfC (M.R j)).hq=true/\tsB M.ck (-1) (zfC (M.R j)).ts=true:=λj hj=>by
  obtain⟨_,_,_,_,hn⟩:=h.rls j hj;obtain⟨f1,f2⟩:=zdw hFR j (by omega) (by omega);have k:=hk.r j hj;obtain⟨v1,v2,hb⟩:=zqd hn.lo hn.hi k.1 k.2.1 f1;have hall:=(zoM f2).1;have hv:∀p,p<(M.R j).tk->NmV K w ((M.R j).T p) (nq ((M.R j).T p)):=λp hp=>by
   obtain⟨_,_,_,_,hr⟩:=hn.tl p hp;exact NmS.val hr (hall p (by omega) (by omega)).2.1 (k.2.2.2 p hp)
  refine⟨⟨rfl,rfl,v1,rfl,v2,by simp[zfC],λp z q e=>?_⟩,hb,?_⟩
  ·obtain⟨hp,e'⟩:=zdy e;obtain⟨b,o,ea,c4,_⟩:=hn.tl p hp;cases e'
   exact⟨rfl,hv p hp,b,o,ea,c4⟩
  ·show tsB M.ck (-1) ((List.range (M.R j).tk).map _)=true;rw[List.range_eq_range'];exact zpU f2 (λp _ hp=>(zkF f2 (zjx hAl j (by omega) (by omega)) p (by omega)).2) (λp _ hp=>hv p (by omega))
 unfold zag zam;refine⟨⟨h.off.val hF0 hk.off,by simp,by simp,λj v e=>?_,λj v e=>?_⟩,?_⟩
 ·obtain⟨hj,rfl⟩:=zdy e;obtain⟨b,o,ea,hc,_⟩:=h.cls j hj;exact⟨⟨b,o,ea,hc⟩,(hcol j hj).1⟩
 ·obtain⟨hj,rfl⟩:=zdy e;obtain⟨b,o,ea,hc,_⟩:=h.rls j hj;exact⟨⟨b,o,ea,hc⟩,(hrow j hj).1⟩
 ·have ec:∀j,j<M.ck->nmC ((List.range M.ck).map (λj=>zix (M.C j))) j=(M.C j).nm:=λj hj=>by unfold nmC;rw[zcJ hj];rfl
  have er:∀j,j<M.rk->nmR ((List.range M.rk).map (λj=>zfC (M.R j))) j=(M.R j).nm:=λj hj=>by unfold nmR;rw[zcJ hj];rfl
  simp only[zbC,Bool.and_eq_true,decide_eq_true_eq,List.all_eq_true,List.length_map,List.length_range,Bool.not_eq_true'];refine⟨l1,l2,λv hv=>?_,λv hv=>?_,?_,?_,?_,?_⟩
  ·obtain⟨j,hj,rfl⟩:=List.mem_map.1 hv;exact(hcol j (List.mem_range.1 hj)).2
  ·obtain⟨j,hj,rfl⟩:=List.mem_map.1 hv;have:=hrow j (List.mem_range.1 hj);refine⟨this.2.1,this.2.2,?_⟩;have h3:=(hk.r j (List.mem_range.1 hj)).2.2.1;simp[zfC];omega
  ·rw[zbl (S':=λj=>(M.C j).nm) (λj _ hj=>ec j (by omega))];exact n1
  ·rw[zbl (S':=λj=>(M.R j).nm) (λj _ hj=>er j (by omega))];exact n2
  ·rw[zbj (S':=λj=>(M.C j).nm) (λj hj=>ec j (by omega))];exact t1
  ·rw[zbj (S':=λj=>(M.R j).nm) (λj hj=>er j (by omega))];exact t2
theorem MoR.mov {w M K} (h:MoR w M) (hk:MoK K M) (he:zar M=0):∃q cs rs,MoV K w M q cs rs/\zbC cs rs=true:=⟨_,_,_,h.movC hk he⟩
theorem zpD {r i j a b} (h:zhN r i a j b):decide (r > 0)=cvB i a j b:=by
 unfold cvB;rcases h with⟨rfl,h⟩|⟨rfl,h1,h2⟩|⟨rfl,h⟩
 ·rcases h with h|⟨h1,h2⟩
  ·have e1:¬j<i:=by omega
   have e2:¬i=j:=by omega
   simp[e1,e2]
  ·have e1:¬j<i:=by omega
   have e2:¬b<a:=Rat.not_lt.2 (Rat.le_of_lt h2);simp[e1,e2]
 ·have e1:¬j<i:=by omega
  have e2:¬b<a:=by rw[h2];exact Rat.lt_irrefl
  simp[e1,e2]
 ·rcases h with h|⟨h1,h2⟩
  ·simp[h]
  ·simp[h1,h2]
theorem FnT.of {K w} {e:Ex} {i q} (h:QnT K w e.v q) (hi:e.i=i) (hb:i=0∨(i=-1∨i=1)/\q=0):Fn w e.i e.v.s e.v.x e.v.n e.v.f e.v.y e.v.m e.v.g q:=⟨h.2.2,by rw[hi];exact hb⟩
theorem zfI {w K} {a b:Ex} {li lq hi hq} (ha:QnT K w a.v lq) (ea:a.i=li) (hb:QnT K w b.v hq) (eb:b.i=hi) (hK:K<=1000) (hbd:bdB li lq hi hq=true) :
  Calls prog 94 #[a.val,b.val] w λe w'=>e=.returned (.bool (cvB li lq hi hq))/\Bl w w':=by
 have hd:=znZ hbd;have CC:=zk (λw' (hw:Bl w w')=>zqn (w:=w') (c1:=a.v.c) (d1:=a.v.d) (c2:=b.v.c) (d2:=b.v.d) (FnT.of (ha.q_ hw) ea hd.1) (FnT.of (hb.q_ hw) eb hd.2) (le_trans ha.1 hK) (le_trans ha.2.1 hK) (le_trans hb.1 hK) (le_trans hb.2.1 hK));obtain⟨an,han⟩:∃t,cvB li lq hi hq=t:=⟨_,rfl⟩;rw[han];have HO:=zk (λr (h:zhN r a.i lq b.i hq)=>(show decide (r > 0)=an from by rw[zpD h,ea,eb,han]));clear ha hb ea eb hd hbd han;obtain⟨i1,⟨s1,x1,n1,c1,f1,y1,m1,d1,g1⟩⟩:=a;obtain⟨i2,⟨s2,x2,n2,c2,f2,y2,m2,d2,g2⟩⟩:=b;replace CC:Hid (∀w' (hw:Bl w w'),Calls prog 116 #[agg #[.int .i64 i1,.bool s1,slice x1 n1 c1,slice y1 m1 d1],agg #[.int .i64 i2,.bool s2,slice x2 n2 c2,slice y2 m2 d2]] w' λe w2=>∃r,e=.returned (.int .i64 r)/\Bl w' w2/\Hid (zhN r i1 lq i2 hq)):=CC;replace HO:Hid (∀r,zhN r i1 lq i2 hq->decide (r > 0)=an):=HO;show Calls prog 94 #[agg #[.int .i64 i1,.bool s1,slice x1 n1 c1,slice y1 m1 d1],agg #[.int .i64 i2,.bool s2,slice x2 n2 c2,slice y2 m2 d2]] w _;go_enter func94,ntmps94;go_wp2_with fail
 have h3:=zu (zA w (cells #[.int .i64 i1,.bool s1,slice x1 n1 c1,slice y1 m1 d1] 136)) (cells #[.int .i64 i2,.bool s2,slice x2 n2 c2,slice y2 m2 d2] 136);refine(CC.out _ h3).mono ?_;rintro e w2 ⟨r,rfl,hb,hE⟩;have HR:=zk (HO.out r hE.out);have HB:=zk (bUp h3 hb);clear hb h3 hE HO CC;go_wp2;go_ret;exact⟨by rw[<-HR.out];rfl,HB.out⟩
theorem zhz {w M K} (h:M.ck<=64->M.rk<=64->MoR w M/\MoS M) (hc:MoC M) (hk:M.ck<=64->M.rk<=64->MoK K M) (hK:K<=500):Calls prog 56 #[M.val] w λr w'=>zdT w w' r M:=by
 have CC:=zk (λw' (hw:Bl w w')=>zdk (w:=w') (λa b=>⟨(h a b).1.q_ hw,(h a b).2⟩) hc);obtain⟨e,he⟩:∃e,zar M=e:=⟨_,rfl⟩;rw[he]at CC
 by_cases h0:e=0
 case neg =>
  have HA:Hid (∀w',Bl w w'->zdT w w' (.returned (.tuple #[slice none 0 0,slice none 0 0,.int .i64 e])) M):=λw' hw=>.inl ⟨by rw[he];exact h0,by rw[he],hw⟩
  have hne:(e != 0)=true:=by simpa using h0
  clear he h hk;obtain⟨⟨s,x,n,c,f,y,m,d,g⟩,ca,ck,cc,C,ra,rk,rc,R⟩:=M;replace CC:Hid (∀w',Bl w w'->Calls prog 32 #[agg #[.bool s,slice x n c,slice y m d,slice ca ck cc,slice ra rk rc]] w' λe' w2=>e'=.returned (.int .i64 e)/\Bl w' w2):=CC;show Calls prog 56 #[agg #[.bool s,slice x n c,slice y m d,slice ca ck cc,slice ra rk rc]] w _;go_enter func56,ntmps56;go_wp2_with fail
  have HB:=zk (zA w (cells #[.bool s,slice x n c,slice y m d,slice ca ck cc,slice ra rk rc] 28));refine(CC.out _ HB.out).mono ?_;rintro r w1 ⟨rfl,hb1⟩;have HB1:=zI HB hb1;clear hb1 HB CC;go_wp2
  go_ret3
  exact HA.out _ HB1.out
 subst h0;obtain⟨l1,l2,_⟩:=zdQ he;obtain⟨q,cs,rs,hV,hok⟩:=(h l1 l2).1.mov (hk l1 l2) he;have hck:M.ck=cs.length:=hV.ck;have hrk:M.rk=rs.length:=hV.rk;have CF:=zk (λw' (hw:Bl w w')=>zki (w:=w') (hV.q_ hw) (le_trans hK (by decide)) hok);simp only[zbC,Bool.and_eq_true,decide_eq_true_eq,List.all_eq_true]at hok;have HBC:=zk hok.2.2.1;have HBR:=zk (λv hv=>(hok.2.2.2.1 v hv).1);generalize hP:(λe w'=>zdT w w' e M)=P;have HA2:Hid (∀w' xa xc ya yc,Bl w w'->Il w' xa (crl (cvC cs) M.ck)->Il w' ya (crl (cvR rs) M.rk)->P (.returned (.tuple #[.slice xa (crl (cvC cs) M.ck).length xc,.slice ya (crl (cvR rs) M.rk).length yc,.int .i64 0])) w'):=by
  subst hP;have e1:crl (ccB M.C) M.ck=crl (cvC cs) M.ck:=by rw[hV.crl.1,hck]
  have e2:crl (rcB M.R) M.rk=crl (cvR rs) M.rk:=by rw[hV.crl.2,hrk]
  intro w' xa xc ya yc hw h1 h2;exact .inr ⟨he,xa,xc,ya,yc,by rw[e1,e2],hw,by rw[e1];exact h1,by rw[e2];exact h2⟩
 have HLC:=zk hck;have HLR:=zk hrk
 clear he h hk hV hP hck hrk hok hc;obtain⟨⟨s,x,n,c,f,y,m,d,g⟩,ca,ck,cc,C,ra,rk,rc,R⟩:=M;replace l1:ck<=64:=l1;replace l2:rk<=64:=l2;replace HLC:Hid (ck=cs.length):=HLC;replace HLR:Hid (rk=rs.length):=HLR;replace HA2:Hid (∀w' xa xc ya yc,Bl w w'->Il w' xa (crl (cvC cs) ck)->Il w' ya (crl (cvR rs) rk)->P (.returned (.tuple #[.slice xa (crl (cvC cs) ck).length xc,.slice ya (crl (cvR rs) rk).length yc,.int .i64 0])) w'):=HA2;replace CC:Hid (∀w',Bl w w'->Calls prog 32 #[agg #[.bool s,slice x n c,slice y m d,slice ca ck cc,slice ra rk rc]] w' λe w2=>e=.returned (.int .i64 0)/\Bl w' w2):=CC;replace CF:Hid (∀w',Bl w w'->Calls prog 48 #[agg #[.bool s,slice x n c,slice y m d,slice ca ck cc,slice ra rk rc]] w' λe w2=>∃M':Mo,e=.returned M'.val/\Bl w' w2/\MqV (2*K) w2 M' q cs rs):=CF;have hfd1:∀(b:Bool) (x:Option Addr) (n c:Nat) (y:Option Addr) (m e:Nat) (a1:Option Addr) (k1 e1:Nat) (a2:Option Addr) (k2 e2:Nat) (w:World),(Instr.field 95 (agg #[.bool b,slice x n c,slice y m e,slice a1 k1 e1,slice a2 k2 e2]) 1).run prog w=.ok (slice a1 k1 e1) w:=λ_ _ _ _ _ _ _ _ _ _ _ _ _ _=>by kernel_rfl
 have hfd2:∀(b:Bool) (x:Option Addr) (n c:Nat) (y:Option Addr) (m e:Nat) (a1:Option Addr) (k1 e1:Nat) (a2:Option Addr) (k2 e2:Nat) (w:World),(Instr.field 95 (agg #[.bool b,slice x n c,slice y m e,slice a1 k1 e1,slice a2 k2 e2]) 2).run prog w=.ok (slice a2 k2 e2) w:=λ_ _ _ _ _ _ _ _ _ _ _ _ _ _=>by kernel_rfl
 show Calls prog 56 #[agg #[.bool s,slice x n c,slice y m d,slice ca ck cc,slice ra rk rc]] w _;have B0:=zH w [.bool s,slice x n c,slice y m d,slice ca ck cc,slice ra rk rc] 28;replace B0:Bk (w.alloc (cells #[.bool s,slice x n c,slice y m d,slice ca ck cc,slice ra rk rc] 28)) w.heap.size [.bool s,slice x n c,slice y m d,slice ca ck cc,slice ra rk rc] 28:=B0;go_enter func56,ntmps56;go_wp2_with fail
 have HB:=zk (zA w (cells #[.bool s,slice x n c,slice y m d,slice ca ck cc,slice ra rk rc] 28));generalize w.alloc (cells #[.bool s,slice x n c,slice y m d,slice ca ck cc,slice ra rk rc] 28)=w0 at *;refine(CC.out _ HB.out).mono ?_;rintro r w1 ⟨rfl,hb1⟩;have B1:=B0.q_ hb1;have HB1:=zI HB hb1;clear hb1 HB CC B0;obtain⟨r0,r1,r2,r3,r4⟩:=bk5 B1;go_wp2_with fail
 refine(CF.out _ HB1.out).mono ?_;rintro r w2 ⟨M1,hr,hb2,hQ⟩;obtain⟨⟨s',x',n',c',f',y',m',d',g'⟩,ca',ck',cc',C',ra',rk',rc',R'⟩:=M1;replace hr:r=.returned (agg #[.bool s',slice x' n' c',slice y' m' d',slice ca' ck' cc',slice ra' rk' rc']):=hr;subst hr;have hq1:ck'=cs.length:=hQ.ck;have HQC:Hid (∀j v,cs[j]?=some v->(∃b o,ca'=some ⟨b,o,none⟩/\Cs w2 b (o+j*12) (C' j).vs)/\QcV (2*K) w2 (C' j) v):=hQ.cls;have hq2:ck'=ck:=by rw[hq1,HLC.out]
 have HB2:=zI HB1 hb2;have B2:=zk (B1.q_ hb2);clear hq1 hQ hb2 HB1 B1 r0 r1 r2 r3 r4;subst hq2;go_wp2_with fail
 go_loopw[6,21] (λov t wr=>∃(i:Nat),i<=ck'/\t=.int .i64 i/\Hid (Bl w2 wr)/\Hid (RowG 3 1 w2.heap.size wr ov (crl (cvC cs) i).length (ils (crl (cvC cs) i)))) (λ_ t _=>ck'-(intOf t).toNat)
 case atStart=>exact⟨0,by omega,rfl,Below.refl _ _,zai _ _ _ _⟩
 case round =>
  obtain⟨i,hi,rfl,HB,HRow⟩:=hrel;by_cases hlt:i<ck'
  ·obtain⟨v,hv⟩:∃v,cs[i]?=some v:=⟨_,getElem?_eq_getElem (by rw[<-HLC.out];exact hlt)⟩;obtain⟨⟨b,o,rfl,hc0⟩,hn⟩:=HQC.out i v hv;have hc:=hc0.q_ HB.out;obtain⟨t1,ht1⟩:∃t,cvC cs i=t:=⟨_,rfl⟩;have CA:=zk (λw' (hw:Bl wr w')=>zfI (w:=w') ((hn.lq.q_ HB.out).q_ hw) hn.li ((hn.hq.q_ HB.out).q_ hw) hn.hi (by omega) (HBC.out v (List.mem_of_getElem? hv)));rw[show cvB v.li v.lq v.hi v.hq=t1 from by rw[<-ht1,cvC,hv];rfl]at CA
   have hln:=zby (cvC cs) i;obtain⟨⟨z,⟨s0,x0,n0,c0,f0,y0,m0,d0,g0⟩,⟨i1,⟨s1,x1,n1,c1,f1,y1,m1,d1,g1⟩⟩,⟨i2,⟨s2,x2,n2,c2,f2,y2,m2,d2,g2⟩⟩⟩,hCi⟩:∃t,C' i=t:=⟨_,rfl⟩;rw[hCi]at hc CA
   replace CA:Hid (∀w' (hw:Bl wr w'),Calls prog 94 #[agg #[.int .i64 i1,.bool s1,slice x1 n1 c1,slice y1 m1 d1],agg #[.int .i64 i2,.bool s2,slice x2 n2 c2,slice y2 m2 d2]] w' λr w2=>r=.returned (.bool t1)/\Bl w' w2):=CA;obtain⟨q0,q1,q2,q3,q4,q5,q6,q7,q8,q9,q10,q11⟩:=hc.lc;have HT1:=zk ht1;have i1':((i:Nat):Int)<((ck':Nat):Int):=by omega
   clear hCi hc hc0 hn ht1 hv;go_wp2_with fail
   have HB2':=zk (zA wr (cells #[.string z,.bool s0,slice x0 n0 c0,slice y0 m0 d0,.int .i64 i1,.bool s1,slice x1 n1 c1,slice y1 m1 d1,.int .i64 i2,.bool s2,slice x2 n2 c2,slice y2 m2 d2] 138));refine(CA.out _ HB2'.out).mono ?_;rintro r w6 ⟨rfl,hb2⟩;have HB3:=HB2'.out.trans (hb2.mono HB2'.out.size);have HRow5:=zk (HRow.out.q_ HB3);have HB5':=zI HB HB3
   clear hb2 HB2' HB3 CA HB HRow q0 q1 q2 q3 q4 q5 q6 q7 q8 q9 q10 q11;cases t1
   ·go_wp2;go_roundw
    case rel=>exact⟨i+1,by omega,by go_num,HB5'.out,by show RowG _ _ _ _ _ _ _;rw[zhF HT1.out];exact HRow5.out⟩
    case measure=>simp[intOf];omega
   ·have hsz:=HB5'.out.size;go_wp2_with(at_builtin;go_must (refine zW w6 rfl (.tmp 31) (.tmp 33) 86 rfl w2.heap.size 3 8 1 (.int .i64 0) underlying86 zaZ rfl (by decide) nzi u6 (crl (cvC cs) i).length (ils (crl (cvC cs) i)) rfl HRow5.out #[.int .i64 (i:Int)] rfl rfl (zeD _) (zec _) ?p1 (by decide) hsz ?_))
    case p1=>omega
    intro g8 cap8 w8 hr8 hk8 hb8 hg8;have HB8:=zk (hb8 w2 HB5'.out (le_refl _));have HR8:Hid (RowG 3 1 w2.heap.size w8 (slice (some ⟨g8,0,none⟩) ((crl (cvC cs) i).length+1) cap8) (crl (cvC cs) (i+1)).length (ils (crl (cvC cs) (i+1)))):=by
     show RowG _ _ _ _ _ _ _;rw[zfm HT1.out];simpa[ils]using hr8
    clear hr8 hk8 hb8 hg8 HRow5 HB5' hsz;go_wp2;go_roundw
    case rel=>exact⟨i+1,by omega,by go_num,HB8.out,HR8.out⟩
    case measure=>simp[intOf];omega
  ·have e1:i=ck':=by omega
   have i2:¬(((i:Nat):Int)<((ck':Nat):Int)):=by omega
   rw[e1]at HRow
   obtain⟨xa,xc,rfl⟩:=HRow.out.slice;have HB5:=zI HB2 HB.out;have HSX:=zk (zdu HRow.out);have B5:=B2.out.q_ HB.out;clear e1 HB HB2 HRow HQC B2;generalize wr=wa at *;obtain⟨r0,r1,r2,r3,r4⟩:=bk5 B5;go_wp2_with fail
   refine(CF.out _ HB5.out).mono ?_;rintro r w3 ⟨M1,hr,hb3,hQ⟩;obtain⟨⟨s'',x'',n'',c'',f'',y'',m'',d'',g''⟩,ca'',ck'',cc'',C'',ra'',rk'',rc'',R''⟩:=M1;replace hr:r=.returned (agg #[.bool s'',slice x'' n'' c'',slice y'' m'' d'',slice ca'' ck'' cc'',slice ra'' rk'' rc'']):=hr;subst hr;have hq1:rk''=rs.length:=hQ.rk;have HQR:Hid (∀j v,rs[j]?=some v->(∃b o,ra''=some ⟨b,o,none⟩/\Cs w3 b (o+j*10) (R'' j).vs)/\QrV (2*K) w3 (R'' j) v):=hQ.rls;have hq2:rk''=rk:=by rw[hq1,HLR.out]
   have HB6:=zI HB5 hb3;have HSX2:=zk (HSX.out.q_ hb3);clear hq1 hQ hb3 HB5 B5 HSX r0 r1 r2 r3 r4 CF;subst hq2;go_wp2_with fail
   go_loopw[7,40] (λov t wr=>∃(i:Nat),i<=rk''/\t=.int .i64 i/\Hid (Bl w3 wr)/\Hid (RowG 3 1 w3.heap.size wr ov (crl (cvR rs) i).length (ils (crl (cvR rs) i)))) (λ_ t _=>rk''-(intOf t).toNat)
   case atStart=>exact⟨0,by omega,rfl,Below.refl _ _,zai _ _ _ _⟩
   case round =>
    obtain⟨i,hi,rfl,HB,HRow⟩:=hrel;by_cases hlt:i<rk''
    ·obtain⟨v,hv⟩:∃v,rs[i]?=some v:=⟨_,getElem?_eq_getElem (by rw[<-HLR.out];exact hlt)⟩;obtain⟨⟨b,o,rfl,hc0⟩,hn⟩:=HQR.out i v hv;have hc:=hc0.q_ HB.out;obtain⟨t1,ht1⟩:∃t,cvR rs i=t:=⟨_,rfl⟩;have CA:=zk (λw' (hw:Bl wr w')=>zfI (w:=w') ((hn.lq.q_ HB.out).q_ hw) hn.li ((hn.hq.q_ HB.out).q_ hw) hn.hi (by omega) (HBR.out v (List.mem_of_getElem? hv)));rw[show cvB v.li v.lq v.hi v.hq=t1 from by rw[<-ht1,cvR,hv];rfl]at CA
     have hln:=zby (cvR rs) i;obtain⟨⟨z,⟨i1,⟨s1,x1,n1,c1,f1,y1,m1,d1,g1⟩⟩,⟨i2,⟨s2,x2,n2,c2,f2,y2,m2,d2,g2⟩⟩,ta,tk,tc,tcol,tt⟩,hCi⟩:∃t,R'' i=t:=⟨_,rfl⟩;rw[hCi]at hc CA
     replace CA:Hid (∀w' (hw:Bl wr w'),Calls prog 94 #[agg #[.int .i64 i1,.bool s1,slice x1 n1 c1,slice y1 m1 d1],agg #[.int .i64 i2,.bool s2,slice x2 n2 c2,slice y2 m2 d2]] w' λr w2=>r=.returned (.bool t1)/\Bl w' w2):=CA;obtain⟨q0,q1,q2,q3,q4,q5,q6,q7,q8,q9⟩:=hc.lr;have HT1:=zk ht1;have i1':((i:Nat):Int)<((rk'':Nat):Int):=by omega
     clear hCi hc hc0 hn ht1 hv;go_wp2_with fail
     have HB2':=zk (zA wr (cells #[.string z,.int .i64 i1,.bool s1,slice x1 n1 c1,slice y1 m1 d1,.int .i64 i2,.bool s2,slice x2 n2 c2,slice y2 m2 d2,slice ta tk tc] 141));refine(CA.out _ HB2'.out).mono ?_;rintro r w6 ⟨rfl,hb2⟩;have HB3:=HB2'.out.trans (hb2.mono HB2'.out.size);have HRow5:=zk (HRow.out.q_ HB3);have HB5':=zI HB HB3
     clear hb2 HB2' HB3 CA HB HRow q0 q1 q2 q3 q4 q5 q6 q7 q8 q9;cases t1
     ·go_wp2;go_roundw
      case rel=>exact⟨i+1,by omega,by go_num,HB5'.out,by show RowG _ _ _ _ _ _ _;rw[zhF HT1.out];exact HRow5.out⟩
      case measure=>simp[intOf];omega
     ·have hsz:=HB5'.out.size;go_wp2_with(at_builtin;go_must (refine zW w6 rfl (.tmp 50) (.tmp 52) 86 rfl w3.heap.size 3 8 1 (.int .i64 0) underlying86 zaZ rfl (by decide) nzi u7 (crl (cvR rs) i).length (ils (crl (cvR rs) i)) rfl HRow5.out #[.int .i64 (i:Int)] rfl rfl (zeD _) (zec _) ?p1 (by decide) hsz ?_))
      case p1=>omega
      intro g8 cap8 w8 hr8 hk8 hb8 hg8;have HB8:=zk (hb8 w3 HB5'.out (le_refl _));have HR8:Hid (RowG 3 1 w3.heap.size w8 (slice (some ⟨g8,0,none⟩) ((crl (cvR rs) i).length+1) cap8) (crl (cvR rs) (i+1)).length (ils (crl (cvR rs) (i+1)))):=by
       show RowG _ _ _ _ _ _ _;rw[zfm HT1.out];simpa[ils]using hr8
      clear hr8 hk8 hb8 hg8 HRow5 HB5' hsz;go_wp2;go_roundw
      case rel=>exact⟨i+1,by omega,by go_num,HB8.out,HR8.out⟩
      case measure=>simp[intOf];omega
    ·have e1:i=rk'':=by omega
     have i2:¬(((i:Nat):Int)<((rk'':Nat):Int)):=by omega
     rw[e1]at HRow
     obtain⟨ya,yc,rfl⟩:=HRow.out.slice;have HB7:=zI HB6 HB.out;have HSY:=zk (zdu HRow.out);have HSX3:=zk (HSX2.out.q_ HB.out);clear e1 HB HRow HSX2;go_wp2
     go_ret3
     exact HA2.out _ _ _ _ _ HB7.out HSX3.out HSY.out
theorem zcK {L L' w sa xa na ca fa ya ma da ga sb xb nb cb fb yb mb db gb q} (ha:Rn L w sa xa na ca fa ya ma da ga q) (hb:Rn L' w sb xb nb cb fb yb mb db gb q) (h1:L<=1048576) (h2:L'<=1048576) :
  Calls prog 15 #[agg #[.bool sa,slice xa na ca,slice ya ma da],agg #[.bool sb,slice xb nb cb,slice yb mb db]] w λe w'=>e=.returned (.bool true)/\Bl w w':=by
 have l1:=ha.ln;have l2:=ha.ld;have l3:=hb.ln;have l4:=hb.ld
 refine(zhd sa xa ya na ca ma da fa ga sb xb yb nb cb mb db fb gb w ha.num.rd ha.den.rd hb.num.rd hb.den.rd (by omega) (by omega) (by omega) (by omega)).mono ?_;rintro e w' ⟨c,rfl,h3,h4⟩;refine⟨?_,h3⟩;rw[h4.2 ((ha.inj hb).2 rfl)]
theorem zgn {w L L' ao bo k ca cb p} (ha:Rf L w ao p) (hb:Rf L' w bo p) (hk:p.length=k) (hk2:k<=1048576) (h1:L<=1048576) (h2:L'<=1048576) :
  Calls prog 14 #[slice ao k ca,slice bo k cb] w λe w'=>e=.returned (.bool true)/\Bl w w':=by
 have HA:=zk ha;have HB:=zk hb
 have hkk:(((k:Nat):Int) != ((k:Nat):Int))=false:=by simp
 clear ha hb;go_enter func14,ntmps14;go_wp2_with fail
 go_loopw[13] (λt wr=>∃(i:Nat),i<=k/\t=.int .i64 i/\Hid (Bl w wr)) (λt _=>k-(intOf t).toNat)
 case atStart=>exact⟨0,by omega,rfl,Below.refl _ _⟩
 case round =>
  obtain⟨i,hi,rfl,HW⟩:=hrel;by_cases hlt:i<k
  ·obtain⟨q,hq⟩:∃q,p[i]?=some q:=⟨_,getElem?_eq_getElem (by omega)⟩;obtain⟨b,o,⟨ts,tx,tn,tc,tf,ty,tm,td,tg⟩,rfl,hc,hr⟩:=(HA.out.q_ HW.out) i q hq;obtain⟨b',o',⟨ss,sx,sn,sc,sf,sy,sm,sd,sg⟩,rfl,hc',hr'⟩:=(HB.out.q_ HW.out) i q hq;obtain⟨x0,x1,x2⟩:=hc;obtain⟨p0,p1,p2⟩:=hc';replace x0:wr.cell? ⟨b,o+i*3,none⟩=some (.bool ts):=x0;replace x1:wr.cell? ⟨b,o+i*3+1,none⟩=some (slice tx tn tc):=x1;replace x2:wr.cell? ⟨b,o+i*3+2,none⟩=some (slice ty tm td):=x2;replace p0:wr.cell? ⟨b',o'+i*3,none⟩=some (.bool ss):=p0;replace p1:wr.cell? ⟨b',o'+i*3+1,none⟩=some (slice sx sn sc):=p1;replace p2:wr.cell? ⟨b',o'+i*3+2,none⟩=some (slice sy sm sd):=p2;have CS:Hid (∀W,Bl wr W->Calls prog 15 #[agg #[.bool ts,slice tx tn tc,slice ty tm td],agg #[.bool ss,slice sx sn sc,slice sy sm sd]] W λe w'=>e=.returned (.bool true)/\Bl W w'):=λW hW =>
    zcK (Rn.q_ hr hW) (Rn.q_ hr' hW) h1 h2
   have i2:((i:Nat):Int)<((k:Nat):Int):=by omega
   clear hr hr' hq;go_upto_region 6 with fail
   go_region_held3 (λw'=>w'.cell? ⟨b,o+i*3,none⟩=some (.bool ts)/\w'.cell? ⟨b,o+i*3+1,none⟩=some (slice tx tn tc)/\w'.cell? ⟨b,o+i*3+2,none⟩=some (slice ty tm td)/\w'.cell? ⟨b',o'+i*3,none⟩=some (.bool ss)/\w'.cell? ⟨b',o'+i*3+1,none⟩=some (slice sx sn sc)/\w'.cell? ⟨b',o'+i*3+2,none⟩=some (slice sy sm sd))
    (refine⟨?_,?_,?_,?_,?_,?_⟩ <;> repeat(with_reducible first|assumption|refine kCd ?_|refine kCb (by assumption) ?_))
    ((go_at_call 15;with_reducible refine(CS.out _ (by repeat(with_reducible first|assumption|exact Below.refl _ _|refine zsb ?_|refine Below.drew ?_))).mono ?_;rintro e w5 ⟨rfl,hb5⟩))
   all_goals
    (have HW5:Hid (Bl w w5):=zk (HW.out.trans (Below.mono (show Bl wr w5 by repeat(with_reducible first|assumption|exact Below.refl _ _|refine zsb ?_|refine Below.drew ?_|refine kBb (by assumption) ?_)) HW.out.size))
     clear x0 x1 x2 p0 p1 p2 CS hb5;go_wp2;go_roundw
     case rel=>exact⟨i+1,by omega,by go_num,(by first|exact HW5.out|exact HW5.out.drew|exact zK HW5.out _)⟩
     case measure=>simp[intOf];omega)
  ·have i2:¬(((i:Nat):Int)<((k:Nat):Int)):=by omega
   go_wp2;go_ret;exact⟨rfl,HW.out⟩
theorem zqA {w M K} (hX:MoX w M) (hN:MoN M) (hk:M.ck<=64->M.rk<=64->MoK K M) (hK:K<=65536):Calls prog 9 #[M.val] w λe w'=>∃M':Mo,e=.returned M'.val/\Bl w w'/\Sm M M'/\MoW w' M'/\MoX w' M'/\(M'.ck<=64->M'.rk<=64->MoK K M') :=
 (zpm hX).mono λe w' ⟨M',h1,h2,h3,h4⟩=>⟨M',h1,h2,h3,λa b=>h4.mor (h3.mon hN) (h3.mok (hk (by rw[<-h3.ck];exact a) (by rw[<-h3.rk];exact b))) hK a b,h4,λa b=>h3.mok (hk (by rw[<-h3.ck];exact a) (by rw[<-h3.rk];exact b))⟩
theorem zrZ {K M} (h:lgM K M=true):M.ck<=64->M.rk<=64->MoK K M:=λa b=>zra h a b
theorem MoX.both {w M K} (h:MoX w M) (hn:MoN M) (hk:M.ck<=64->M.rk<=64->MoK K M) (hK:K<=1000):M.ck<=64->M.rk<=64->MoR w M/\MoS M:=λa b=>⟨h.mor hn (hk a b) (le_trans hK (by decide)) a b,(hk a b).mos hK⟩
def RS (k:Nat) (X:Nat->Nm) (v:Value) (w:World):Prop:=∃ao c Y,v=slice ao k c/\Rl w ao k Y/\∀j,j<k->Sn (X j) (Y j)
theorem Sn.nq {t t':Nm} (h:Sn t t'):nq t'=nq t:=by
 obtain⟨h1,h2,h3,h4,h5⟩:=h;unfold Go.Proofs.YtnlcjakjhmgenaaGreat.nq;rw[h1,h2,h3,h4,h5]
theorem Sm.csOf {M M':Mo} (h:Sm M M'):zag M'=zag M:=by
 unfold Go.Proofs.YtnlcjakjhmgenaaGreat.zag;rw[h.ck];refine List.map_congr_left (λj hj=>?_);have p:=h.C j (List.mem_range.1 hj);unfold zix;rw[p.nm,p.cost.nq,p.li,p.lo.nq,p.hi,p.hv.nq]
theorem Sm.rsOf {M M':Mo} (h:Sm M M'):zam M'=zam M:=by
 unfold Go.Proofs.YtnlcjakjhmgenaaGreat.zam;rw[h.rk];refine List.map_congr_left (λj hj=>?_);have p:=h.R j (List.mem_range.1 hj);unfold zfC;rw[p.nm,p.li,p.lo.nq,p.hi,p.hv.nq,p.tk,p.col]
 congr 1
 exact List.map_congr_left (λq hq=>by rw[(p.T q (List.mem_range.1 hq)).nq])
def zN (k:Nat) (X:Nat->Nm):List Rat:=(List.range k).map (λj=>nq (X j))
theorem zbg (k:Nat) (X:Nat->Nm):(zN k X).length=k:=by simp[zN]
theorem zpe {k X X'} (h:∀j,j<k->Sn (X j) (X' j)):zN k X'=zN k X:=List.map_congr_left (λj hj=>(h j (List.mem_range.1 hj)).nq)
theorem Rl.rfC {w ao k K X} (h:Rl w ao k X) (hf:afB k X=true) (hk:∀j,j<k->(X j).n<=K/\(X j).m<=K):Rf K w ao (zN k X):=λj q e=>by
 obtain⟨hj,rfl⟩:=zdy e;obtain⟨b,o,h1,h2,h3⟩:=h j hj;exact⟨b,o,X j,h1,h2,NmS.val h3 (zkS hf j (by omega) (by omega)) (hk j hj)⟩
def lgL (K k:Nat) (X:Nat->Nm):Bool:=decide (k<=300) && nlg K X k 0
theorem MoK.up {K L M} (h:MoK K M) (hL:K<=L):MoK L M:=by
 have e:∀{a b:Nat},a<=K/\b<=K->a<=L/\b<=L:=λp=>⟨le_trans p.1 hL,le_trans p.2 hL⟩
 exact⟨e h.off,λj hj=>⟨e (h.c j hj).1,e (h.c j hj).2.1,e (h.c j hj).2.2⟩,λj hj=>⟨e (h.r j hj).1,e (h.r j hj).2.1,(h.r j hj).2.2.1,λp hp=>e ((h.r j hj).2.2.2 p hp)⟩⟩
theorem zfV (M:Mo):(zag M).length=M.ck:=by simp[zag]
def Tx (w:World) (ao:Option Addr) (k:Nat) (X X':Nat->Nm):Prop:=Rl w ao k X'/\∀j,j<k->Sn (X j) (X' j)
theorem Tx.q_ {w w' ao k X X'} (h:Tx w ao k X X') (hb:Bl w w'):Tx w' ao k X X':=⟨h.1.q_ hb,h.2⟩
theorem zjZ (w:World):Calls prog 86 #[] w λe w'=>zgb 2 w w' e 0:=by
 have h2:=zaF w 91;have h3:=zA w (cells #[.bool false,slice none 0 0,slice none 0 0] 91);go_enter func86,ntmps86;go_wp2_with fail
 generalize w.alloc (cells #[.bool false,slice none 0 0,slice none 0 0] 91)=w1 at *;have OB:=zk h2;have HW:=zk h3
 clear h2 h3;refine(zhf (z:=0) (by decide) (by decide)).mono ?_;rintro e w2 ⟨s2,x2,n2,c2,d2,y2,m2,e2,g2,rfl,hb,hl1,hl2,hq⟩;have HB2:=zk hb;have HQ:=zk hq;have L1:=zk hl1;have L2:=zk hl2
 clear hb hq hl1 hl2;obtain⟨hz,z0,z1,z2,zf⟩:=OB.out.q_ HB2.out;go_wp2;exact bodyPost_ret (v:=agg #[.bool s2,slice x2 n2 c2,slice y2 m2 e2]) (by simp[results,results86,go_sem,z0,z1,z2]) rfl ⟨s2,x2,n2,c2,d2,y2,m2,e2,g2,rfl,zZ (bUp HW.out HB2.out) (by omega),L1.out,L2.out,(OB.out.q_ HB2.out).qn HQ.out⟩
theorem zhq {L} (hL:1<=L):Lo L 0:=by
 have h:=zaH hL;have h1:pw 1=18446744073709551616:=by decide
 constructor
 ·show((0:Nat):Int)<_;omega
 ·show((1:Nat):Int)<_;omega
theorem Dn.len_pd {w x n d V K} (h:Dn w x n d V) (hv:(V:Int)<pd K):n<=K:=by
 by_cases hn:n<=K
 ·exact hn
 ·have h1:=zca h.dg h.fm (by omega);have h2:=zdF (show K<=n-1 by omega);have h3:=h.val;omega
theorem Dn.lt_pd {w x n d V K} (h:Dn w x n d V) (hn:n<=K):(V:Int)<pd K:=by
 have h1:=zcq h.dg;have h2:=zdF hn;have h3:=h.val;omega
theorem Qn.len {w s x n d y m g q K} (h:Qn w s x n d y m g q) (hq:Lo K q):n<=2*K/\m<=2*K :=
 ⟨h.num.dn.len_pd (by rw[zea];exact hq.1),h.den.len_pd (by rw[zea];exact hq.2)⟩
theorem Qn.lo {w s x n d y m g q K} (h:Qn w s x n d y m g q) (hn:n<=2*K) (hm:m<=2*K):Lo K q :=
 ⟨by rw[<-zea];exact h.num.dn.lt_pd hn,by rw[<-zea];exact h.den.lt_pd hm⟩
theorem Rk.qn {w B n o u s x k f y m g q} (h:Rk w B n) (ho:o<n*3) (hx:Qn w s x k f y m g q):Qn (w.setCell ⟨B,o,none⟩ u) s x k f y m g q :=
 ⟨⟨⟨h.rd ho hx.num.dn.rd,hx.num.dn.dg,hx.num.dn.fm,hx.num.dn.val⟩,hx.num.sgn,hx.num.pos⟩,⟨h.rd ho hx.den.rd,hx.den.dg,hx.den.fm,hx.den.val⟩⟩
def Qr (K:Nat) (w:World) (B n:Nat) (Q:Nat->Rat):Prop:=∀j,j<n->∃t:Nm,C3 w B (j*3) (.bool t.s) (slice t.x t.n t.c) (slice t.y t.m t.d)/\QnT K w t (Q j)
theorem Qr.q_ {K w w' B n Q} (h:Qr K w B n Q) (hb:Bl w w'):Qr K w' B n Q:=λj hj=>by
 obtain⟨t,h1,h2⟩:=h j hj;exact⟨t,h1.q_ hb,h2.q_ hb⟩
theorem zrQ {K w B n j Q Q' s x k c f y m d g} (h:Rk w B n) (hq:Qr K w B n Q) (hj:j<n) (hr:QnT K w ⟨s,x,k,c,f,y,m,d,g⟩ (Q' j)) (hs:∀j',j'≠j->Q' j'=Q j') :
  Rk (((w.setCell ⟨B,j*3,none⟩ (.bool s)).setCell ⟨B,j*3+1,none⟩ (slice x k c)).setCell ⟨B,j*3+2,none⟩ (slice y m d)) B n/\Qr K (((w.setCell ⟨B,j*3,none⟩ (.bool s)).setCell ⟨B,j*3+1,none⟩ (slice x k c)).setCell ⟨B,j*3+2,none⟩ (slice y m d)) B n Q':=by
 have k1:=h.set (o:=j*3) (u:=.bool s) (λi h=>by cases h);have k2:=k1.set (o:=j*3+1) (u:=slice x k c) (λi h=>by cases h);have k3:=k2.set (o:=j*3+2) (u:=slice y m d) (λi h=>by cases h);refine⟨k3,λj' hj'=>?_⟩;obtain⟨_,a0,_⟩:=h.has (j*3) (by omega);obtain⟨_,a1,_⟩:=k1.has (j*3+1) (by omega);obtain⟨_,a2,_⟩:=k2.has (j*3+2) (by omega);by_cases e:j'=j
 ·subst e;exact⟨⟨s,x,k,c,f,y,m,d,g⟩,⟨kCo (by omega) (kCo (by omega) (kCe (kI0 a0))),kCo (by omega) (kCe (kI0 a1)),kCe (kI0 a2)⟩,hr.1,hr.2.1,k2.qn (by omega) (k1.qn (by omega) (h.qn (by omega) hr.2.2))⟩
 ·obtain⟨t,⟨c0,c1,c2⟩,ht⟩:=hq j' hj';rw[hs j' e];exact⟨t,⟨kCo (by omega) (kCo (by omega) (kCo (by omega) c0)),kCo (by omega) (kCo (by omega) (kCo (by omega) c1)),kCo (by omega) (kCo (by omega) (kCo (by omega) c2))⟩,ht.1,ht.2.1,k2.qn (by omega) (k1.qn (by omega) (h.qn (by omega) ht.2.2))⟩
def Zl (w:World) (base K:Nat) (ao:Option Addr) (n:Nat) (Q:Nat->Rat):Prop:=0<n->∃B,ao=some ⟨B,0,none⟩/\base<=B/\Rk w B n/\Qr K w B n Q
theorem Zl.q_ {w w' base K ao n Q} (h:Zl w base K ao n Q) (hb:Bl w w'):Zl w' base K ao n Q:=λhn=>by
 obtain⟨B,h1,h2,h3,h4⟩:=h hn;exact⟨B,h1,h2,h3.q_ hb,h4.q_ hb⟩
theorem zrF {e base K n cap w ao T Q} (h:RowG e 3 base w (slice ao n cap) n (zaw (rls n T))) (hq:∀j,j<n->QnT K w (T j) (Q j)):Zl w base K ao n Q:=λhn=>by
 have hc:=λj (hj:j<n)=>zdv h hj
 obtain⟨h1,h2⟩:=h;rcases h2 with⟨_,h0⟩|⟨g,cap',cur,hv,hb,hg,hle,hm,hs,ht,hnu⟩
 ·omega
 ·cases hv
  refine⟨g,rfl,hb,⟨(Array.getElem?_eq_some_iff.1 hg).1,λo ho=>?_,λo=>by simp[World.frozen?,hg]⟩,λj hj=>?_⟩
  ·have hlt:o<cur.size:=by omega
   exact⟨cur[o],by simp[World.cell?,hg,hlt],λi hi=>hnu o i (by rw[Array.getElem?_eq_getElem hlt,hi])⟩
  ·obtain⟨b,hb2,hc3⟩:=hc j hj;cases hb2
   rw[zero_add]at hc3
   exact⟨T j,hc3,hq j hj⟩
theorem Zl.rqs {w base K ao n Q p} (h:Zl w base K ao n Q) (hl:p.length=n) (hp:∀j q,p[j]?=some q->Q j=q):Rqs K w ao p:=λj q hj=>by
 have hlt:j<n:=by rw[<-hl];exact(List.getElem?_eq_some_iff.1 hj).1
 obtain⟨B,h1,_,_,h4⟩:=h (by omega);obtain⟨t,h5,h6⟩:=h4 j hlt;rw[hp j q hj]at h6
 exact⟨B,0,t,h1,by rw[zero_add];exact h5,h6⟩
end Go.Proofs.YtnlcjakjhmgenaaGreat
