/-
 Walks.
-/
import Derived.Test.YtlbgphjdibbkjaaGreatZ4
import Derived.Deep.CutRange
import Derived.ProofKit
import Derived.OpenShut
import Derived.ChangeSame
import Derived.Deep.Slices
import Derived.SizedLaws
import Derived.Test.YtlbgphjdibbkjaaGreatRows
import Derived.Test.YtlbgphjdibbkjaaGreatChecked
import Derived.Deep.DeepHandedRow
import Derived.Test.YtlbgphjdibbkjaaGreatZ3
import Derived.Test.YtlbgphjdibbkjaaGreatZ2
import Derived.BigQuiet
import Derived.Deep.RegionHeld3
set_option maxRecDepth 100000
set_option maxHeartbeats 16000000
namespace Go.Proofs.YtlbgphjdibbkjaaGreat
open Value (slice agg)
open Obj (cells)
open Nat (le_refl le_trans)
open World (cell?_of_block)
open List (getElem?_eq_getElem)
open Go.Proofs.Tryz
open Go.RowKit
def zat (B:Nat->Bool):Nat->Bool
 | 0=>false
 | i+1=>zat B i || B i
def ev (b3 b5 b6 b7:Bool):Int:=if b3 then 3 else if b5 then 5 else if b6 then 6 else if b7 then 7 else 0
def lsl (L:List Int):Int:=L.foldl lstep 0
theorem zkw (L:List Int) (x:Int):lsl (L++[x])=lstep (lsl L) x:=by simp[lsl]
theorem ev3 (a b c d:Bool):lstep (ev a b c d) 3=ev true b c d:=by cases a <;> cases b <;> cases c <;> cases d <;> rfl
theorem ev5 (a b c d:Bool):lstep (ev a b c d) 5=ev a true c d:=by cases a <;> cases b <;> cases c <;> cases d <;> rfl
theorem ev6 (a b c d:Bool):lstep (ev a b c d) 6=ev a b true d:=by cases a <;> cases b <;> cases c <;> cases d <;> rfl
theorem ev7 (a b c d:Bool):lstep (ev a b c d) 7=ev a b c true:=by cases a <;> cases b <;> cases c <;> cases d <;> rfl
theorem zhY (L:List Int):∀n,n<=L.length->lsf (λj=>L.getD j 0) n=lsl (L.take n)
 | 0,_=>rfl
 | n+1,h=>by
  have e:L[n]?=some L[n]:=getElem?_eq_getElem (by omega);rw[List.take_add_one,e,Option.toList_some,zkw,<-zhY L n (by omega)];show lstep _ (L.getD n 0)=_;rw[List.getD_eq_getElem?_getD,e];rfl
theorem zpz (L:List Int):lsf (λj=>L.getD j 0) L.length=lsl L:=by
 rw[zhY L _ (le_refl _),List.take_length]
theorem zsD {w ao L} (h:Il w ao L):El w ao L.length (λj=>L.getD j 0):=λj hj=>by
 obtain⟨b,o,e,h1⟩:=h j L[j] (getElem?_eq_getElem hj);refine⟨b,o,e,?_⟩;rw[h1];show _=some (Value.int .i64 (L.getD j 0));rw[List.getD_eq_getElem?_getD,getElem?_eq_getElem hj];rfl
def DL (w0 wr:World) (v:Value) (L:List Int) (k:Nat) (e:Int):Prop:=Bl w0 wr/\RowG 3 1 w0.heap.size wr v L.length (ils L)/\L.length<=k/\lsl L=e
theorem DL.q_ {w0 wr v L k e w'} (h:DL w0 wr v L k e) (hb:Bl wr w'):DL w0 w' v L k e:=⟨h.1.trans (hb.mono h.1.size),h.2.1.q_ hb,h.2.2⟩
theorem DL.mono {w0 wr v L k k' e e'} (h:DL w0 wr v L k e) (hk:k<=k') (he:e=e'):DL w0 wr v L k' e':=⟨h.1,h.2.1,le_trans h.2.2.1 hk,h.2.2.2.trans he⟩
theorem DL.app {w0 wr v L k e w8 g8 cap8 x} (h:DL w0 wr v L k e) (hr:RowG 3 1 w0.heap.size w8 (slice (some ⟨g8,0,none⟩) (L.length+1) cap8) (L.length+1) (ils L++#[Value.int .i64 x].toList)) (hb:∀b0:World,Bl b0 wr->b0.heap.size<=w0.heap.size->Bl b0 w8):DL w0 w8 (slice (some ⟨g8,0,none⟩) (L.length+1) cap8) (L++[x]) (k+1) (lstep e x) :=
 ⟨hb w0 h.1 (le_refl _),by rw[List.length_append,List.length_singleton];simpa[ils]using hr,by rw[List.length_append,List.length_singleton];have:=h.2.2.1;omega,by rw[zkw,h.2.2.2]⟩
def DX (w0 wr:World) (v:Value) (L:List Int) (k:Nat) (e:Int) (bx:Nat) (vs:List Value) (t:TypeId):Prop:=DL w0 wr v L k e/\Bk wr bx vs t/\v.ownBlock≠some bx
theorem DX.q_ {w0 wr v L k e bx vs t w'} (h:DX w0 wr v L k e bx vs t) (hb:Bl wr w'):DX w0 w' v L k e bx vs t:=⟨h.1.q_ hb,h.2.1.q_ hb,h.2.2⟩
theorem DX.mono {w0 wr v L k k' e e' bx vs t} (h:DX w0 wr v L k e bx vs t) (hk:k<=k') (he:e=e'):DX w0 wr v L k' e' bx vs t:=⟨h.1.mono hk he,h.2⟩
theorem DX.app {w0 wr v L k e bx vs t w8 g8 cap8 x} (h:DX w0 wr v L k e bx vs t) (hr:RowG 3 1 w0.heap.size w8 (slice (some ⟨g8,0,none⟩) (L.length+1) cap8) (L.length+1) (ils L++#[Value.int .i64 x].toList)) (hb:∀b0:World,Bl b0 wr->b0.heap.size<=w0.heap.size->Bl b0 w8) (hg:∀k,k<wr.heap.size->v.ownBlock≠some k->w8.heap[k]?=wr.heap[k]?) (hl:v.ownBlock=some g8∨wr.heap.size<=g8):DX w0 w8 (slice (some ⟨g8,0,none⟩) (L.length+1) cap8) (L++[x]) (k+1) (lstep e x) bx vs t :=
 ⟨h.1.app hr hb,(hg bx h.2.1.lt h.2.2).trans h.2.1,λe=>by
  have e2:g8=bx:=by simpa[Value.ownBlock]using e
  rcases hl with h1|h1
  ·exact h.2.2 (e2 ▸ h1)
  ·have:=h.2.1.lt;omega⟩
theorem DL.dx {w0 wr v L k e} (h:DL w0 wr v L k e) (vs:List Value) (t:TypeId):DX w0 (wr.alloc (cells vs.toArray t)) v L k e wr.heap.size vs t :=
 ⟨h.q_ (zu (Below.refl _ _) _),zF wr vs t,λe=>by have:=(h.2.1.lt _ e).2;omega⟩
structure MoS (M:Mo):Prop where
 off:M.off.n<=1000/\M.off.m<=1000
 c:∀j,j<M.ck->((M.C j).cost.n<=1000/\(M.C j).cost.m<=1000)/\((M.C j).lo.v.n<=1000/\(M.C j).lo.v.m<=1000)/\(M.C j).hi.v.n<=1000/\(M.C j).hi.v.m<=1000
 r:∀j,j<M.rk->((M.R j).lo.v.n<=1000/\(M.R j).lo.v.m<=1000)/\((M.R j).hi.v.n<=1000/\(M.R j).hi.v.m<=1000)/\(M.R j).tk<=10000/\∀p,p<(M.R j).tk->((M.R j).T p).n<=1000/\((M.R j).T p).m<=1000
def b3c (M:Mo) (i:Nat):Bool:=!(nfB M.off) || zat (λj=>!(nfB (M.C j).cost && abB (M.C j).lo (M.C j).hi)) i
def b5c (M:Mo) (i:Nat):Bool:=zat (λj=>!(zaD (M.C j).nm)) i
def b6c (M:Mo) (i:Nat):Bool:=zat (λj=>zat (λp=>decide ((M.C p).nm=(M.C j).nm)) j) i
def b3r (M:Mo) (i:Nat):Bool:=b3c M M.ck || zat (λj=>!(tfB (M.R j).tk (M.R j).col (M.R j).T && abB (M.R j).lo (M.R j).hi)) i
def b5r (M:Mo) (i:Nat):Bool:=b5c M M.ck || zat (λj=>!(zaD (M.R j).nm)) i
def b6r (M:Mo) (i:Nat):Bool:=b6c M M.ck || zat (λj=>zat (λp=>decide ((M.R p).nm=(M.R j).nm)) j) i
def b7r (M:Mo) (i:Nat):Bool:=zat (λj=>zat (λp=>decide ((M.ck:Int)<=(M.R j).col p)) (M.R j).tk) i
theorem zis {w M} (h:MoR w M) (hs:MoS M) (hck:M.ck<=64) (hrk:M.rk<=64) (hcap:(M.ck<=M.cc/\M.cc<=9223372036854775807)/\M.rk<=M.rc/\M.rc<=9223372036854775807):Calls prog 73 #[M.val] w λe w'=>e=.returned (.int .i64 (ev (b3r M M.rk) (b5r M M.rk) (b6r M M.rk) (b7r M M.rk)))/\Bl w w':=by
 obtain⟨ans,hans⟩:∃a,ev (b3r M M.rk) (b5r M M.rk) (b6r M M.rk) (b7r M M.rk)=a:=⟨_,rfl⟩;rw[hans];obtain⟨N,hN⟩:∃N,N=M:=⟨_,rfl⟩;have H3:=zk (show b3c N 0=!(nfB M.off)from by rw[hN];simp[b3c,zat]);obtain⟨fo,hfo⟩:∃t,nfB M.off=t:=⟨_,rfl⟩;have CO:=zk (λw' (hw:Bl w w')=>zdE (w:=w') (s:=M.off.s) (h.off.q_ hw).1 hs.off.1 hs.off.2);rw[show rfB M.off.s M.off.f M.off.n M.off.g M.off.m=fo from hfo]at CO
 rw[hfo]at H3
 have HSC:=zk hs.c;have HSR:=zk hs.r
 obtain⟨_,hC,hR,_,_⟩:=h;obtain⟨⟨s,x,n,c,f,y,m,d,g⟩,ca,ck,cc,C,ra,rk,rc,R⟩:=M;replace hck:ck<=64:=hck;replace hrk:rk<=64:=hrk;obtain⟨⟨hc1,hc2⟩,hc3,hc4⟩:=hcap;replace hc1:ck<=cc:=hc1;replace hc2:cc<=9223372036854775807:=hc2;replace hc3:rk<=rc:=hc3;replace hc4:rc<=9223372036854775807:=hc4;have HC:Hid (Cls w ca ck C):=hC;have HRL:Hid (Rls w ra rk R):=hR;replace HSC:Hid (∀j,j<ck->((C j).cost.n<=1000/\(C j).cost.m<=1000)/\((C j).lo.v.n<=1000/\(C j).lo.v.m<=1000)/\(C j).hi.v.n<=1000/\(C j).hi.v.m<=1000):=HSC;replace HSR:Hid (∀j,j<rk->((R j).lo.v.n<=1000/\(R j).lo.v.m<=1000)/\((R j).hi.v.n<=1000/\(R j).hi.v.m<=1000)/\(R j).tk<=10000/\∀p,p<(R j).tk->((R j).T p).n<=1000/\((R j).T p).m<=1000):=HSR;replace CO:Hid (∀w' (hw:Bl w w'),Calls prog 106 #[agg #[.bool s,slice x n c,slice y m d]] w' λe w2=>e=.returned (.bool fo)/\Bl w' w2):=CO;have H3C:=zk (show ∀i,b3c N (i+1)=(b3c N i || !(nfB (C i).cost && abB (C i).lo (C i).hi))from λi=>by rw[hN];simp only[b3c,zat,Bool.or_assoc]);have H5C:=zk (show b5c N 0=false/\∀i,b5c N (i+1)=(b5c N i || !(zaD (C i).nm))from by rw[hN];exact⟨rfl,λi=>rfl⟩);have H6C:=zk (show b6c N 0=false/\∀i,b6c N (i+1)=(b6c N i || zat (λp=>decide ((C p).nm=(C i).nm)) i)from by rw[hN];exact⟨rfl,λi=>rfl⟩);have H3R:=zk (show b3r N 0=b3c N ck/\∀i,b3r N (i+1)=(b3r N i || !(tfB (R i).tk (R i).col (R i).T && abB (R i).lo (R i).hi))from by rw[hN];exact⟨by simp[b3r,zat],λi=>by simp only[b3r,zat,Bool.or_assoc]⟩);have H5R:=zk (show b5r N 0=b5c N ck/\∀i,b5r N (i+1)=(b5r N i || !(zaD (R i).nm))from by rw[hN];exact⟨by simp[b5r,zat],λi=>by simp only[b5r,zat,Bool.or_assoc]⟩);have H6R:=zk (show b6r N 0=b6c N ck/\∀i,b6r N (i+1)=(b6r N i || zat (λp=>decide ((R p).nm=(R i).nm)) i)from by rw[hN];exact⟨by simp[b6r,zat],λi=>by simp only[b6r,zat,Bool.or_assoc]⟩);have H7R:=zk (show b7r N 0=false/\∀i,b7r N (i+1)=(b7r N i || zat (λp=>decide ((ck:Int)<=(R i).col p)) (R i).tk)from by rw[hN];exact⟨rfl,λi=>rfl⟩);have HANS:=zk (show ev (b3r N rk) (b5r N rk) (b6r N rk) (b7r N rk)=ans from by rw[hN];exact hans);show Calls prog 73 #[agg #[.bool s,slice x n c,slice y m d,slice ca ck cc,slice ra rk rc]] w λe w'=>e=.returned (.int .i64 ans)/\Bl w w'
 clear hC hR hN hfo hs hans;have e1:¬(ck:Int) > 64:=by omega
 have e2:¬(rk:Int) > 64:=by omega
 go_enter func73,ntmps73;go_wp2_with fail
 have HB:=zk (zB w (cells #[.bool s,slice x n c,slice y m d,slice ca ck cc,slice ra rk rc] 28));obtain⟨-,-,-,k3,k4⟩:=bk5 (zF w [.bool s,slice x n c,slice y m d,slice ca ck cc,slice ra rk rc] 28);refine(CO.out _ HB.out).mono ?_;rintro r w1 ⟨rfl,hb1⟩;have HK3:=zk (kCb hb1 k3);have HK4:=zk (kCb hb1 k4)
 have HB1:=zJ HB hb1;generalize w1=w0 at *;clear hb1 HB CO k3 k4;have HD0:Hid (DL w0 w0 (slice none 0 0) [] 0 (ev false false false false)):=⟨Below.refl _ _,zak _ _ _ _,le_refl _,rfl⟩
 go_upto_if 27 with fail
 go_cut [3]from 24 to 30 (λv wx=>∃(wz:World) (L:List Int),wz=wx/\Hid (DL w0 wz v L (0+1) (ev (!fo) false false false)))
 case first =>
  cases fo
  ·have hs0:=trivial;have hsz:=HD0.out.1.size;have hln:=HD0.out.2.2.1;go_wp2_with(at_builtin;go_must (refine zaf w0 rfl (.tmp 28) (.tmp 29) 123 rfl w0.heap.size 3 8 1 (.int .i64 0) underlying123 zbu rfl (by decide) nzi (slice none 0 0) 0 (ils []) rfl HD0.out.2.1 #[.int .i64 3] rfl rfl (zfP _) (zfo _) ?p1 ?p2 hsz ?_))
   case p1=>omega
   case p2=>omega
   intro g8 cap8 w8 hr8 hk8 hb8 hg8 hl8;have HD8:=zk (HD0.out.app hr8 hb8);clear hr8 hk8 hb8 hg8 hl8 hsz hln;go_wp2_with fail
   go_meet
   exact⟨_,_,rfl,HD8.out.mono (by omega) (by rw[ev3];simp)⟩
  ·go_wp2_with fail
   go_meet
   exact⟨_,_,rfl,HD0.out.mono (by omega) (by simp)⟩
 case rest =>
  obtain⟨w2,L,rfl,HD⟩:=hcut;replace HD:=zk (HD.out.mono (e':=ev (b3c N 0) (b5c N 0) (b6c N 0) false) (le_refl _) (by rw[H3.out,H5C.out.1,H6C.out.1]));clear HD0;have k3:=kCb HD.out.1 HK3.out;go_wp2_with fail
  go_loopw[3,34] (λov t wr=>∃(i:Nat) (L:List Int),i<=ck/\t=.int .i64 i/\Hid (DL w0 wr ov L (1+i*70) (ev (b3c N i) (b5c N i) (b6c N i) false))) (λ_ t _=>ck-(intOf t).toNat)
  case atStart=>exact⟨0,L,by omega,rfl,HD.out.mono (by omega) rfl⟩
  case round =>
   clear HD k3;obtain⟨i,L,hi,rfl,HD⟩:=hrel;by_cases hlt:i<ck
   ·skip
    obtain⟨b,o,rfl,hc,hn⟩:=(HC.out.q_ (HB1.out.trans (HD.out.1.mono HB1.out.size))) i hlt;obtain⟨t1,ht1⟩:∃t,nfB (C i).cost=t:=⟨_,rfl⟩;obtain⟨t2,ht2⟩:∃t,abB (C i).lo (C i).hi=t:=⟨_,rfl⟩;obtain⟨t3,ht3⟩:∃t,zaD (C i).nm=t:=⟨_,rfl⟩;have C1:=zk (λw' (hw:Bl wr w')=>zdE (w:=w') (s:=(C i).cost.s) (c:=(C i).cost.c) (d:=(C i).cost.d) (hn.cost.q_ hw).1 (HSC.out i hlt).1.1 (HSC.out i hlt).1.2);have C2:=zk (λw' (hw:Bl wr w')=>zgf (w:=w') (hn.lo.q_ hw) (hn.hi.q_ hw) (HSC.out i hlt).2.1 (HSC.out i hlt).2.2);have C3:=zk (λw'=>zkE (w:=w') (s:=(C i).nm) hn.nm);rw[show rfB (C i).cost.s (C i).cost.f (C i).cost.n (C i).cost.g (C i).cost.m=t1 from ht1]at C1
    rw[ht2]at C2
    rw[ht3]at C3
    have E3:=zk (H3C.out i);have E5:=zk (H5C.out.2 i);have E6:=zk (H6C.out.2 i);rw[ht1,ht2]at E3
    rw[ht3]at E5
    obtain⟨zi,hzi⟩:∃z,(C i).nm=z:=⟨_,rfl⟩;rw[hzi]at E6
    obtain⟨⟨z,⟨s0,x0,n0,c0,f0,y0,m0,d0,g0⟩,⟨i1,⟨s1,x1,n1,c1,f1,y1,m1,d1,g1⟩⟩,⟨i2,⟨s2,x2,n2,c2,f2,y2,m2,d2,g2⟩⟩⟩,hCi⟩:∃t,C i=t:=⟨_,rfl⟩;rw[hCi]at hc C1 C2 C3 hzi
    replace hzi:z=zi:=hzi;subst hzi;replace C1:Hid (∀w' (hw:Bl wr w'),Calls prog 106 #[agg #[.bool s0,slice x0 n0 c0,slice y0 m0 d0]] w' λr w2=>r=.returned (.bool t1)/\Bl w' w2):=C1;replace C2:Hid (∀w' (hw:Bl wr w'),Calls prog 107 #[agg #[.int .i64 i1,.bool s1,slice x1 n1 c1,slice y1 m1 d1],agg #[.int .i64 i2,.bool s2,slice x2 n2 c2,slice y2 m2 d2]] w' λr w2=>r=.returned (.bool t2)/\Bl w' w2):=C2;replace C3:Hid (∀w',Calls prog 108 #[.string z] w' λr w2=>r=.returned (.bool t3)/\w2=w'):=C3;obtain⟨q0,q1,q2,q3,q4,q5,q6,q7,q8,q9,q10,q11⟩:=hc.lc;have i1':((i:Nat):Int)<((ck:Nat):Int):=by omega
    clear hCi hc hn ht1 ht2 ht3;go_upto_region 9 with fail
    have hb5:=zB wr (cells #[.string z,.bool s0,slice x0 n0 c0,slice y0 m0 d0,.int .i64 i1,.bool s1,slice x1 n1 c1,slice y1 m1 d1,.int .i64 i2,.bool s2,slice x2 n2 c2,slice y2 m2 d2] 60);have HD5:Hid (DX w0 (wr.alloc (cells #[.string z,.bool s0,slice x0 n0 c0,slice y0 m0 d0,.int .i64 i1,.bool s1,slice x1 n1 c1,slice y1 m1 d1,.int .i64 i2,.bool s2,slice x2 n2 c2,slice y2 m2 d2] 60)) u3 L (1+i*70) (ev (b3c N i) (b5c N i) (b6c N i) false) wr.heap.size [.string z,.bool s0,slice x0 n0 c0,slice y0 m0 d0,.int .i64 i1,.bool s1,slice x1 n1 c1,slice y1 m1 d1,.int .i64 i2,.bool s2,slice x2 n2 c2,slice y2 m2 d2] 60):=HD.out.dx [.string z,.bool s0,slice x0 n0 c0,slice y0 m0 d0,.int .i64 i1,.bool s1,slice x1 n1 c1,slice y1 m1 d1,.int .i64 i2,.bool s2,slice x2 n2 c2,slice y2 m2 d2] 60;have a0:=HD5.out.2.1.cell (j:=0) rfl;have a1:=HD5.out.2.1.cell (j:=1) rfl;have a2:=HD5.out.2.1.cell (j:=2) rfl;have a3:=HD5.out.2.1.cell (j:=3) rfl;have a4:=HD5.out.2.1.cell (j:=4) rfl;have a5:=HD5.out.2.1.cell (j:=5) rfl;have a6:=HD5.out.2.1.cell (j:=6) rfl;have a7:=HD5.out.2.1.cell (j:=7) rfl;have a8:=HD5.out.2.1.cell (j:=8) rfl;have a9:=HD5.out.2.1.cell (j:=9) rfl;have a10:=HD5.out.2.1.cell (j:=10) rfl;have a11:=HD5.out.2.1.cell (j:=11) rfl;clear HD q0 q1 q2 q3 q4 q5 q6 q7 q8 q9 q10 q11;generalize hw5:wr.alloc (cells #[.string z,.bool s0,slice x0 n0 c0,slice y0 m0 d0,.int .i64 i1,.bool s1,slice x1 n1 c1,slice y1 m1 d1,.int .i64 i2,.bool s2,slice x2 n2 c2,slice y2 m2 d2] 60)=w5 at *;go_cut [50,34]from 34 to 79 (λu t wx=>∃(wz:World),wz=wx/\u=.bool (!(t1 && t2))/\t=.int .i64 i/\Hid (Bl w5 wz))
    case first =>
     go_wp2_with fail
     refine(C1.out _ hb5).mono ?_;rintro r w6 ⟨rfl,hb6⟩;replace a4:=kCb hb6 a4;replace a5:=kCb hb6 a5;replace a6:=kCb hb6 a6;replace a7:=kCb hb6 a7;replace a8:=kCb hb6 a8;replace a9:=kCb hb6 a9;replace a10:=kCb hb6 a10;replace a11:=kCb hb6 a11;cases t1
     ·go_wp2_with fail
      go_meet
      exact⟨_,rfl,rfl,rfl,hb6⟩
     ·go_wp2_with fail
      refine(C2.out _ (bUp hb5 hb6)).mono ?_;rintro r w7 ⟨rfl,hb7⟩;go_wp2_with fail
      go_meet
      exact⟨_,rfl,by simp,rfl,bUp hb6 hb7⟩
    case rest =>
     obtain⟨w6,rfl,rfl,rfl,HB6⟩:=hcut;replace HD5:=zk (HD5.out.q_ HB6.out);obtain⟨tb,htb⟩:∃t,(t1 && t2)=t:=⟨_,rfl⟩;rw[htb]at E3
     simp only[htb];generalize wr.heap.size=bx at *;clear C1 C2 htb HB6 hb5 hw5 a0 a1 a2 a3 a4 a5 a6 a7 a8 a9 a10 a11
     go_upto_if 50 with fail
     go_cut [3,34]from 34 to 79 (λv t34 wx=>∃(wz:World) (L:List Int),wz=wx/\t34=.int .i64 i/\Hid (DX w0 wz v L ((1+i*70)+1) (ev (b3c N i || !tb) (b5c N i) (b6c N i) false) bx [.string z,.bool s0,slice x0 n0 c0,slice y0 m0 d0,.int .i64 i1,.bool s1,slice x1 n1 c1,slice y1 m1 d1,.int .i64 i2,.bool s2,slice x2 n2 c2,slice y2 m2 d2] 60))
     case first =>
      cases tb
      ·have hs0:=trivial;have hsz:=HD5.out.1.1.size;have hln:=HD5.out.1.2.2.1;go_wp2_with(at_builtin;go_must (refine zaf w6 rfl (.tmp 51) (.tmp 52) 123 rfl w0.heap.size 3 8 1 (.int .i64 0) underlying123 zbu rfl (by decide) nzi u3 L.length (ils L) rfl HD5.out.1.2.1 #[.int .i64 3] rfl rfl (zfP _) (zfo _) ?p1 ?p2 hsz ?_))
       case p1=>omega
       case p2=>omega
       intro g8 cap8 w8 hr8 hk8 hb8 hg8 hl8;have HD8:=zk (HD5.out.app hr8 hb8 hg8 hl8);clear hr8 hk8 hb8 hg8 hl8 hsz hln;go_wp2_with fail
       go_meet
       exact⟨_,_,rfl,rfl,HD8.out.mono (by omega) (by rw[ev3];simp)⟩
      ·go_wp2_with fail
       go_meet
       exact⟨_,_,rfl,rfl,HD5.out.mono (by omega) (by simp)⟩
     case rest =>
      obtain⟨w7,L,rfl,rfl,HD7⟩:=hcut;clear HD5;have a0:=HD7.out.2.1.cell (j:=0) rfl;go_wp2_with fail
      refine(C3.out _).mono ?_;rintro r w7b ⟨rfl,rfl⟩;rw[<-E3.out]at HD7
      go_upto_if 57 with fail
      go_cut [3,34]from 34 to 79 (λv t34 wx=>∃(wz:World) (L:List Int),wz=wx/\t34=.int .i64 i/\Hid (DX w0 wz v L ((1+i*70)+1+1) (ev (b3c N (i+1)) (b5c N i || !t3) (b6c N i) false) bx [.string z,.bool s0,slice x0 n0 c0,slice y0 m0 d0,.int .i64 i1,.bool s1,slice x1 n1 c1,slice y1 m1 d1,.int .i64 i2,.bool s2,slice x2 n2 c2,slice y2 m2 d2] 60))
      case first =>
       cases t3
       ·have hs0:=trivial;have hsz:=HD7.out.1.1.size;have hln:=HD7.out.1.2.2.1;go_wp2_with(at_builtin;go_must (refine zaf w7b rfl (.tmp 58) (.tmp 59) 123 rfl w0.heap.size 3 8 1 (.int .i64 0) underlying123 zbu rfl (by decide) nzi u3 L.length (ils L) rfl HD7.out.1.2.1 #[.int .i64 5] rfl rfl (zfP _) (zfo _) ?p1 ?p2 hsz ?_))
        case p1=>omega
        case p2=>omega
        intro g8 cap8 w8 hr8 hk8 hb8 hg8 hl8;have HD8:=zk (HD7.out.app hr8 hb8 hg8 hl8);clear hr8 hk8 hb8 hg8 hl8 hsz hln;go_wp2_with fail
        go_meet
        exact⟨_,_,rfl,rfl,HD8.out.mono (by omega) (by rw[ev5];simp)⟩
       ·go_wp2_with fail
        go_meet
        exact⟨_,_,rfl,rfl,HD7.out.mono (by omega) (by simp)⟩
      case rest =>
       obtain⟨w8,L,rfl,rfl,HD⟩:=hcut;clear HD7 a0 C3;rw[<-E5.out]at HD
       have k3:=kCb HD.out.1.1 HK3.out;have j1:((i:Nat):Int)<=((cc:Nat):Int):=by omega
       go_wp2_with fail
       go_loopw[3,66] (λov t wr=>∃(p:Nat) (L:List Int),p<=i/\t=.int .i64 p/\Hid (DX w0 wr ov L ((1+i*70)+2+p) (ev (b3c N (i+1)) (b5c N (i+1)) (b6c N i || zat (λq=>decide ((C q).nm=z)) p) false) bx [.string z,.bool s0,slice x0 n0 c0,slice y0 m0 d0,.int .i64 i1,.bool s1,slice x1 n1 c1,slice y1 m1 d1,.int .i64 i2,.bool s2,slice x2 n2 c2,slice y2 m2 d2] 60)) (λ_ t _=>i-(intOf t).toNat)
       case atStart=>exact⟨0,L,by omega,rfl,HD.out.mono (by omega) (by simp[zat])⟩
       case round =>
        clear HD k3;obtain⟨p,L,hp,rfl,HD⟩:=hrel;by_cases hlp:p<i
        ·obtain⟨b',o',e',hc,hn⟩:=(HC.out.q_ (HB1.out.trans (HD.out.1.1.mono HB1.out.size))) p (by omega);cases e'
         obtain⟨⟨vz,⟨vs0,vx0,vn0,vc0,vf0,vy0,vm0,vd0,vg0⟩,⟨vi1,⟨vs1,vx1,vn1,vc1,vf1,vy1,vm1,vd1,vg1⟩⟩,⟨vi2,⟨vs2,vx2,vn2,vc2,vf2,vy2,vm2,vd2,vg2⟩⟩⟩,hCp⟩:∃t,C p=t:=⟨_,rfl⟩;rw[hCp]at hc
         have HNP:=zk (show(C p).nm=vz from by rw[hCp]);obtain⟨q0,q1,q2,q3,q4,q5,q6,q7,q8,q9,q10,q11⟩:=hc.lc;have a0:=HD.out.2.1.cell (j:=0) rfl;have hblt:=HD.out.2.1.lt;have i2':((p:Nat):Int)<((i:Nat):Int):=by omega
         have HD5:=zk (HD.out.q_ (zB wr (cells #[.string vz,.bool vs0,slice vx0 vn0 vc0,slice vy0 vm0 vd0,.int .i64 vi1,.bool vs1,slice vx1 vn1 vc1,slice vy1 vm1 vd1,.int .i64 vi2,.bool vs2,slice vx2 vn2 vc2,slice vy2 vm2 vd2] 60)));have hbne:¬(bx=wr.heap.size):=by omega
         have a05:=HD5.out.2.1.cell (j:=0) rfl;clear hCp hc hn;by_cases hzq:vz=z
         ·subst hzq
          go_upto_if 74 with fail
          generalize wr.alloc (cells #[.string vz,.bool vs0,slice vx0 vn0 vc0,slice vy0 vm0 vd0,.int .i64 vi1,.bool vs1,slice vx1 vn1 vc1,slice vy1 vm1 vd1,.int .i64 vi2,.bool vs2,slice vx2 vn2 vc2,slice vy2 vm2 vd2] 60)=w5 at *;have hsz:=HD5.out.1.1.size;have hln:=HD5.out.1.2.2.1;go_wp2_with(at_builtin;go_must (refine zaf w5 rfl (.tmp 75) (.tmp 76) 123 rfl w0.heap.size 3 8 1 (.int .i64 0) underlying123 zbu rfl (by decide) nzi u3 L.length (ils L) rfl HD5.out.1.2.1 #[.int .i64 6] rfl rfl (zfP _) (zfo _) ?p1 ?p2 hsz ?_))
          case p1=>omega
          case p2=>omega
          intro g8 cap8 w8 hr8 hk8 hb8 hg8 hl8;have HD8:=zk (HD5.out.app hr8 hb8 hg8 hl8);clear hr8 hk8 hb8 hg8 hl8 hsz hln;go_wp2;go_roundw
          case rel=>exact⟨p+1,_,by omega,by go_num,HD8.out.mono (by omega) (by rw[ev6];simp[zat,HNP.out])⟩
          case measure=>simp[intOf];omega
         ·have hne:=zgE hzq;go_wp2;go_roundw
          case rel=>exact⟨p+1,_,by omega,by go_num,HD5.out.mono (by omega) (by simp[zat,HNP.out,hzq])⟩
          case measure=>simp[intOf];omega
        ·have e1:p=i:=by omega
         have i2':¬(((p:Nat):Int)<((i:Nat):Int)):=by omega
         rw[e1]at HD
         have HD9:=zk (HD.out.1.mono (k':=1+(i+1)*70) (e':=ev (b3c N (i+1)) (b5c N (i+1)) (b6c N (i+1)) false) (by omega) (by rw[E6.out]));clear HD e1;go_wp2;go_roundw
         case rel=>exact⟨i+1,L,by omega,by go_num,HD9.out⟩
         case measure=>simp[intOf];omega
   ·have e1:i=ck:=by omega
    have i2':¬(((i:Nat):Int)<((ck:Nat):Int)):=by omega
    rw[e1]at HD
    have HD2:=zk (HD.out.mono (k':=5000) (e':=ev (b3r N 0) (b5r N 0) (b6r N 0) (b7r N 0)) (by omega) (by rw[H3R.out.1,H5R.out.1,H6R.out.1,H7R.out.1]));have k4:=kCb HD2.out.1 HK4.out;clear HD e1;go_wp2_with fail
    go_loopw[3,83] (λov t wr=>∃(i:Nat) (L:List Int),i<=rk/\t=.int .i64 i/\Hid (DL w0 wr ov L (5000+i*10100) (ev (b3r N i) (b5r N i) (b6r N i) (b7r N i)))) (λ_ t _=>rk-(intOf t).toNat)
    case atStart=>exact⟨0,L,by omega,rfl,HD2.out.mono (by omega) rfl⟩
    case round =>
     clear HD2 k4;obtain⟨i,L,hi,rfl,HD⟩:=hrel;by_cases hlt:i<rk
     ·skip
      obtain⟨b,o,rfl,hc,hn⟩:=(HRL.out.q_ (HB1.out.trans (HD.out.1.mono HB1.out.size))) i hlt;obtain⟨t1,ht1⟩:∃t,tfB (R i).tk (R i).col (R i).T=t:=⟨_,rfl⟩;obtain⟨t2,ht2⟩:∃t,abB (R i).lo (R i).hi=t:=⟨_,rfl⟩;obtain⟨t3,ht3⟩:∃t,zaD (R i).nm=t:=⟨_,rfl⟩;have C1:=zk (λw' (hw:Bl wr w')=>zpR (w:=w') (cap:=(R i).tc) (hn.tl.q_ hw) (HSR.out i hlt).2.2.1 (HSR.out i hlt).2.2.2);have C2:=zk (λw' (hw:Bl wr w')=>zgf (w:=w') (hn.lo.q_ hw) (hn.hi.q_ hw) (HSR.out i hlt).1 (HSR.out i hlt).2.1);have C3:=zk (λw'=>zkE (w:=w') (s:=(R i).nm) hn.nm);rw[ht1]at C1
      rw[ht2]at C2
      rw[ht3]at C3
      have E3:=zk (H3R.out.2 i);have E5:=zk (H5R.out.2 i);have E6:=zk (H6R.out.2 i);rw[ht1,ht2]at E3
      rw[ht3]at E5
      have E7:=zk (H7R.out.2 i);have HTL:=zk (show Tl w (R i).ta (R i).tk (R i).col (R i).T from by obtain⟨_,_,_,_,h⟩:=HRL.out i hlt;exact h.tl);have hltk:=(HSR.out i hlt).2.2.1;obtain⟨zi,hzi⟩:∃z,(R i).nm=z:=⟨_,rfl⟩;rw[hzi]at E6
      obtain⟨⟨z,⟨i1,⟨s1,x1,n1,c1,f1,y1,m1,d1,g1⟩⟩,⟨i2,⟨s2,x2,n2,c2,f2,y2,m2,d2,g2⟩⟩,ta,tk,tc,tcol,tt⟩,hCi⟩:∃t,R i=t:=⟨_,rfl⟩;rw[hCi]at hc C1 C2 C3 hzi E7 HTL hltk
      replace hzi:z=zi:=hzi;subst hzi;replace E7:Hid (b7r N (i+1)=(b7r N i || zat (λp=>decide ((ck:Int)<=tcol p)) tk)):=E7;replace HTL:Hid (Tl w ta tk tcol tt):=HTL;replace hltk:tk<=10000:=hltk;replace C1:Hid (∀w' (hw:Bl wr w'),Calls prog 109 #[slice ta tk tc] w' λr w2=>r=.returned (.bool t1)/\Bl w' w2):=C1;replace C2:Hid (∀w' (hw:Bl wr w'),Calls prog 107 #[agg #[.int .i64 i1,.bool s1,slice x1 n1 c1,slice y1 m1 d1],agg #[.int .i64 i2,.bool s2,slice x2 n2 c2,slice y2 m2 d2]] w' λr w2=>r=.returned (.bool t2)/\Bl w' w2):=C2;replace C3:Hid (∀w',Calls prog 108 #[.string z] w' λr w2=>r=.returned (.bool t3)/\w2=w'):=C3;obtain⟨q0,q1,q2,q3,q4,q5,q6,q7,q8,q9⟩:=hc.lr;have i1':((i:Nat):Int)<((rk:Nat):Int):=by omega
      clear hCi hc hn ht1 ht2 ht3;go_upto_region 23 with fail
      have hb5:=zB wr (cells #[.string z,.int .i64 i1,.bool s1,slice x1 n1 c1,slice y1 m1 d1,.int .i64 i2,.bool s2,slice x2 n2 c2,slice y2 m2 d2,slice ta tk tc] 63);have HD5:Hid (DX w0 (wr.alloc (cells #[.string z,.int .i64 i1,.bool s1,slice x1 n1 c1,slice y1 m1 d1,.int .i64 i2,.bool s2,slice x2 n2 c2,slice y2 m2 d2,slice ta tk tc] 63)) u3 L (5000+i*10100) (ev (b3r N i) (b5r N i) (b6r N i) (b7r N i)) wr.heap.size [.string z,.int .i64 i1,.bool s1,slice x1 n1 c1,slice y1 m1 d1,.int .i64 i2,.bool s2,slice x2 n2 c2,slice y2 m2 d2,slice ta tk tc] 63):=HD.out.dx [.string z,.int .i64 i1,.bool s1,slice x1 n1 c1,slice y1 m1 d1,.int .i64 i2,.bool s2,slice x2 n2 c2,slice y2 m2 d2,slice ta tk tc] 63;have a0:=HD5.out.2.1.cell (j:=0) rfl;have a1:=HD5.out.2.1.cell (j:=1) rfl;have a2:=HD5.out.2.1.cell (j:=2) rfl;have a3:=HD5.out.2.1.cell (j:=3) rfl;have a4:=HD5.out.2.1.cell (j:=4) rfl;have a5:=HD5.out.2.1.cell (j:=5) rfl;have a6:=HD5.out.2.1.cell (j:=6) rfl;have a7:=HD5.out.2.1.cell (j:=7) rfl;have a8:=HD5.out.2.1.cell (j:=8) rfl;have a9:=HD5.out.2.1.cell (j:=9) rfl;clear HD q0 q1 q2 q3 q4 q5 q6 q7 q8 q9;generalize hw5:wr.alloc (cells #[.string z,.int .i64 i1,.bool s1,slice x1 n1 c1,slice y1 m1 d1,.int .i64 i2,.bool s2,slice x2 n2 c2,slice y2 m2 d2,slice ta tk tc] 63)=w5 at *;go_cut [99,83]from 83 to 145 (λu t wx=>∃(wz:World),wz=wx/\u=.bool (!(t1 && t2))/\t=.int .i64 i/\Hid (Bl w5 wz))
      case first =>
       go_wp2_with fail
       refine(C1.out _ hb5).mono ?_;rintro r w6 ⟨rfl,hb6⟩;replace a1:=kCb hb6 a1;replace a2:=kCb hb6 a2;replace a3:=kCb hb6 a3;replace a4:=kCb hb6 a4;replace a5:=kCb hb6 a5;replace a6:=kCb hb6 a6;replace a7:=kCb hb6 a7;replace a8:=kCb hb6 a8;replace a9:=kCb hb6 a9;cases t1
       ·go_wp2_with fail
        go_meet
        exact⟨_,rfl,rfl,rfl,hb6⟩
       ·go_wp2_with fail
        refine(C2.out _ (bUp hb5 hb6)).mono ?_;rintro r w7 ⟨rfl,hb7⟩;go_wp2_with fail
        go_meet
        exact⟨_,rfl,by simp,rfl,bUp hb6 hb7⟩
      case rest =>
       obtain⟨w6,rfl,rfl,rfl,HB6⟩:=hcut;replace HD5:=zk (HD5.out.q_ HB6.out);obtain⟨tb,htb⟩:∃t,(t1 && t2)=t:=⟨_,rfl⟩;rw[htb]at E3
       simp only[htb];generalize wr.heap.size=bx at *;clear C1 C2 htb HB6 hb5 hw5 a0 a1 a2 a3 a4 a5 a6 a7 a8 a9
       go_upto_if 99 with fail
       go_cut [3,83]from 83 to 145 (λv t83 wx=>∃(wz:World) (L:List Int),wz=wx/\t83=.int .i64 i/\Hid (DX w0 wz v L ((5000+i*10100)+1) (ev (b3r N i || !tb) (b5r N i) (b6r N i) (b7r N i)) bx [.string z,.int .i64 i1,.bool s1,slice x1 n1 c1,slice y1 m1 d1,.int .i64 i2,.bool s2,slice x2 n2 c2,slice y2 m2 d2,slice ta tk tc] 63))
       case first =>
        cases tb
        ·have hs0:=trivial;have hsz:=HD5.out.1.1.size;have hln:=HD5.out.1.2.2.1;go_wp2_with(at_builtin;go_must (refine zaf w6 rfl (.tmp 100) (.tmp 101) 123 rfl w0.heap.size 3 8 1 (.int .i64 0) underlying123 zbu rfl (by decide) nzi u3 L.length (ils L) rfl HD5.out.1.2.1 #[.int .i64 3] rfl rfl (zfP _) (zfo _) ?p1 ?p2 hsz ?_))
         case p1=>omega
         case p2=>omega
         intro g8 cap8 w8 hr8 hk8 hb8 hg8 hl8;have HD8:=zk (HD5.out.app hr8 hb8 hg8 hl8);clear hr8 hk8 hb8 hg8 hl8 hsz hln;go_wp2_with fail
         go_meet
         exact⟨_,_,rfl,rfl,HD8.out.mono (by omega) (by rw[ev3];simp)⟩
        ·go_wp2_with fail
         go_meet
         exact⟨_,_,rfl,rfl,HD5.out.mono (by omega) (by simp)⟩
       case rest =>
        obtain⟨w7,L,rfl,rfl,HD7⟩:=hcut;clear HD5;have a0:=HD7.out.2.1.cell (j:=0) rfl;go_wp2_with fail
        refine(C3.out _).mono ?_;rintro r w7b ⟨rfl,rfl⟩;rw[<-E3.out]at HD7
        go_upto_if 106 with fail
        go_cut [3,83]from 83 to 145 (λv t83 wx=>∃(wz:World) (L:List Int),wz=wx/\t83=.int .i64 i/\Hid (DX w0 wz v L ((5000+i*10100)+1+1) (ev (b3r N (i+1)) (b5r N i || !t3) (b6r N i) (b7r N i)) bx [.string z,.int .i64 i1,.bool s1,slice x1 n1 c1,slice y1 m1 d1,.int .i64 i2,.bool s2,slice x2 n2 c2,slice y2 m2 d2,slice ta tk tc] 63))
        case first =>
         cases t3
         ·have hs0:=trivial;have hsz:=HD7.out.1.1.size;have hln:=HD7.out.1.2.2.1;go_wp2_with(at_builtin;go_must (refine zaf w7b rfl (.tmp 107) (.tmp 108) 123 rfl w0.heap.size 3 8 1 (.int .i64 0) underlying123 zbu rfl (by decide) nzi u3 L.length (ils L) rfl HD7.out.1.2.1 #[.int .i64 5] rfl rfl (zfP _) (zfo _) ?p1 ?p2 hsz ?_))
          case p1=>omega
          case p2=>omega
          intro g8 cap8 w8 hr8 hk8 hb8 hg8 hl8;have HD8:=zk (HD7.out.app hr8 hb8 hg8 hl8);clear hr8 hk8 hb8 hg8 hl8 hsz hln;go_wp2_with fail
          go_meet
          exact⟨_,_,rfl,rfl,HD8.out.mono (by omega) (by rw[ev5];simp)⟩
         ·go_wp2_with fail
          go_meet
          exact⟨_,_,rfl,rfl,HD7.out.mono (by omega) (by simp)⟩
        case rest =>
         obtain⟨w8,L,rfl,rfl,HD⟩:=hcut;clear HD7 a0 C3;rw[<-E5.out]at HD
         have k3:=kCb HD.out.1.1 HK4.out;have j1:((i:Nat):Int)<=((rc:Nat):Int):=by omega
         go_wp2_with fail
         go_loopw[3,115] (λov t wr=>∃(p:Nat) (L:List Int),p<=i/\t=.int .i64 p/\Hid (DX w0 wr ov L ((5000+i*10100)+2+p) (ev (b3r N (i+1)) (b5r N (i+1)) (b6r N i || zat (λq=>decide ((R q).nm=z)) p) (b7r N i)) bx [.string z,.int .i64 i1,.bool s1,slice x1 n1 c1,slice y1 m1 d1,.int .i64 i2,.bool s2,slice x2 n2 c2,slice y2 m2 d2,slice ta tk tc] 63)) (λ_ t _=>i-(intOf t).toNat)
         case atStart=>exact⟨0,L,by omega,rfl,HD.out.mono (by omega) (by simp[zat])⟩
         case round =>
          clear HD k3;obtain⟨p,L,hp,rfl,HD⟩:=hrel;by_cases hlp:p<i
          ·obtain⟨b',o',e',hc,hn⟩:=(HRL.out.q_ (HB1.out.trans (HD.out.1.1.mono HB1.out.size))) p (by omega);cases e'
           obtain⟨⟨vz,⟨vi1,⟨vs1,vx1,vn1,vc1,vf1,vy1,vm1,vd1,vg1⟩⟩,⟨vi2,⟨vs2,vx2,vn2,vc2,vf2,vy2,vm2,vd2,vg2⟩⟩,vta,vtk,vtc,vtcol,vtt⟩,hCp⟩:∃t,R p=t:=⟨_,rfl⟩;rw[hCp]at hc
           have HNP:=zk (show(R p).nm=vz from by rw[hCp]);obtain⟨q0,q1,q2,q3,q4,q5,q6,q7,q8,q9⟩:=hc.lr;have a0:=HD.out.2.1.cell (j:=0) rfl;have hblt:=HD.out.2.1.lt;have i2':((p:Nat):Int)<((i:Nat):Int):=by omega
           have HD5:=zk (HD.out.q_ (zB wr (cells #[.string vz,.int .i64 vi1,.bool vs1,slice vx1 vn1 vc1,slice vy1 vm1 vd1,.int .i64 vi2,.bool vs2,slice vx2 vn2 vc2,slice vy2 vm2 vd2,slice vta vtk vtc] 63)));have hbne:¬(bx=wr.heap.size):=by omega
           have a05:=HD5.out.2.1.cell (j:=0) rfl;clear hCp hc hn;by_cases hzq:vz=z
           ·subst hzq
            go_upto_if 123 with fail
            generalize wr.alloc (cells #[.string vz,.int .i64 vi1,.bool vs1,slice vx1 vn1 vc1,slice vy1 vm1 vd1,.int .i64 vi2,.bool vs2,slice vx2 vn2 vc2,slice vy2 vm2 vd2,slice vta vtk vtc] 63)=w5 at *;have hsz:=HD5.out.1.1.size;have hln:=HD5.out.1.2.2.1;go_wp2_with(at_builtin;go_must (refine zaf w5 rfl (.tmp 124) (.tmp 125) 123 rfl w0.heap.size 3 8 1 (.int .i64 0) underlying123 zbu rfl (by decide) nzi u3 L.length (ils L) rfl HD5.out.1.2.1 #[.int .i64 6] rfl rfl (zfP _) (zfo _) ?p1 ?p2 hsz ?_))
            case p1=>omega
            case p2=>omega
            intro g8 cap8 w8 hr8 hk8 hb8 hg8 hl8;have HD8:=zk (HD5.out.app hr8 hb8 hg8 hl8);clear hr8 hk8 hb8 hg8 hl8 hsz hln;go_wp2;go_roundw
            case rel=>exact⟨p+1,_,by omega,by go_num,HD8.out.mono (by omega) (by rw[ev6];simp[zat,HNP.out])⟩
            case measure=>simp[intOf];omega
           ·have hne:=zgE hzq;go_wp2;go_roundw
            case rel=>exact⟨p+1,_,by omega,by go_num,HD5.out.mono (by omega) (by simp[zat,HNP.out,hzq])⟩
            case measure=>simp[intOf];omega
          ·have e1:p=i:=by omega
           have i2':¬(((p:Nat):Int)<((i:Nat):Int)):=by omega
           rw[e1]at HD
           have HD9:=zk (HD.out.mono (k':=(5000+i*10100)+66) (e':=ev (b3r N (i+1)) (b5r N (i+1)) (b6r N (i+1)) (b7r N i || zat (λq=>decide ((ck:Int)<=tcol q)) 0)) (by omega) (by rw[E6.out];simp[zat]));clear HD e1;have a9:=HD9.out.2.1.cell (j:=9) rfl;go_wp2_with fail
           go_loopw[3,131] (λov t wr=>∃(p:Nat) (L:List Int),p<=tk/\t=.int .i64 p/\Hid (DX w0 wr ov L ((5000+i*10100)+66+p) (ev (b3r N (i+1)) (b5r N (i+1)) (b6r N (i+1)) (b7r N i || zat (λq=>decide ((ck:Int)<=tcol q)) p)) bx [.string z,.int .i64 i1,.bool s1,slice x1 n1 c1,slice y1 m1 d1,.int .i64 i2,.bool s2,slice x2 n2 c2,slice y2 m2 d2,slice ta tk tc] 63)) (λ_ t _=>tk-(intOf t).toNat)
           case atStart=>exact⟨0,L,by omega,rfl,HD9.out.mono (by omega) rfl⟩
           case round =>
            clear HD9 a9;obtain⟨p,L,hp,rfl,HD⟩:=hrel;by_cases hlp:p<tk
            ·obtain⟨b2,o2,rfl,⟨x0,x1,x2,x3⟩,_⟩:=(HTL.out.q_ (HB1.out.trans (HD.out.1.1.mono HB1.out.size))) p hlp;obtain⟨⟨js,jx,jn,jc,jf,jy,jm,jd,jg⟩,hTp⟩:∃t,tt p=t:=⟨_,rfl⟩;obtain⟨jz,hjz⟩:∃t,tcol p=t:=⟨_,rfl⟩;rw[hTp]at x1 x2 x3
             rw[hjz]at x0
             replace x0:wr.cell? ⟨b2,o2+p*4,none⟩=some (.int .i64 jz):=x0;replace x1:wr.cell? ⟨b2,o2+p*4+1,none⟩=some (.bool js):=x1;replace x2:wr.cell? ⟨b2,o2+p*4+2,none⟩=some (slice jx jn jc):=x2;replace x3:wr.cell? ⟨b2,o2+p*4+3,none⟩=some (slice jy jm jd):=x3;have k3:=kCb HD.out.1.1 HK3.out;have hkl:=World.block_lt_of_cell? wr _ k3;replace hkl:w.heap.size<wr.heap.size:=hkl;have k35:(wr.alloc (cells #[.int .i64 jz,.bool js,slice jx jn jc,slice jy jm jd] 65)).cell? ⟨w.heap.size,3,none⟩=some (slice ca ck cc):=kCa k3;have i2':((p:Nat):Int)<((tk:Nat):Int):=by omega
             have HJZ:=zk hjz;have HD5:=zk (HD.out.q_ (zB wr (cells #[.int .i64 jz,.bool js,slice jx jn jc,slice jy jm jd] 65)));clear hTp hjz;by_cases hge:(ck:Int)<=jz
             ·go_upto_if 140 with fail
              generalize wr.alloc (cells #[.int .i64 jz,.bool js,slice jx jn jc,slice jy jm jd] 65)=w5 at *;have hsz:=HD5.out.1.1.size;have hln:=HD5.out.1.2.2.1;go_wp2_with(at_builtin;go_must (refine zaf w5 rfl (.tmp 141) (.tmp 142) 123 rfl w0.heap.size 3 8 1 (.int .i64 0) underlying123 zbu rfl (by decide) nzi u3 L.length (ils L) rfl HD5.out.1.2.1 #[.int .i64 7] rfl rfl (zfP _) (zfo _) ?p1 ?p2 hsz ?_))
              case p1=>omega
              case p2=>omega
              intro g8 cap8 w8 hr8 hk8 hb8 hg8 hl8;have HD8:=zk (HD5.out.app hr8 hb8 hg8 hl8);clear hr8 hk8 hb8 hg8 hl8 hsz hln;go_wp2;go_roundw
              case rel=>exact⟨p+1,_,by omega,by go_num,HD8.out.mono (by omega) (by rw[ev7];simp[zat,HJZ.out,hge])⟩
              case measure=>simp[intOf];omega
             ·go_wp2;go_roundw
              case rel=>exact⟨p+1,_,by omega,by go_num,HD5.out.mono (by omega) (by simp[zat,HJZ.out,hge])⟩
              case measure=>simp[intOf];omega
            ·have e1:p=tk:=by omega
             have i2':¬(((p:Nat):Int)<((tk:Nat):Int)):=by omega
             rw[e1]at HD
             have HD9:=zk (HD.out.1.mono (k':=5000+(i+1)*10100) (e':=ev (b3r N (i+1)) (b5r N (i+1)) (b6r N (i+1)) (b7r N (i+1))) (by omega) (by rw[E7.out]));clear HD e1;go_wp2;go_roundw
             case rel=>exact⟨i+1,L,by omega,by go_num,HD9.out⟩
             case measure=>simp[intOf];omega
     ·have e1:i=rk:=by omega
      have i2':¬(((i:Nat):Int)<((rk:Nat):Int)):=by omega
      rw[e1]at HD
      obtain⟨aw,cw,rfl⟩:=HD.out.2.1.slice;have hln:=HD.out.2.2.1;have CL:=zk (zdN (cap:=cw) (zsD (zgG HD.out.2.1)) (by omega));rw[zpz,HD.out.2.2.2,HANS.out]at CL
      have HB9:=zk (HB1.out.trans (HD.out.1.mono HB1.out.size));clear HD e1;go_wp2_with fail
      refine CL.out.mono ?_;rintro r w9 ⟨rfl,rfl⟩;go_wp2;go_ret;exact⟨rfl,HB9.out⟩
theorem anyB_iff {B}:∀{i:Nat},zat B i=true ↔ ∃j,j<i/\B j=true
 | 0=>⟨λh=>by simp[zat]at h,λ⟨j,hj,_⟩=>by omega⟩
 | i+1=>by
  simp only[zat,Bool.or_eq_true,anyB_iff (i:=i)];constructor
  ·rintro(⟨j,h1,h2⟩|h)
   ·exact⟨j,by omega,h2⟩
   ·exact⟨i,by omega,h⟩
  ·rintro⟨j,h1,h2⟩;by_cases e:j=i
   ·subst e;exact .inr h2
   ·exact .inl ⟨j,by omega,h2⟩
theorem anyB_no {B i}:zat B i=false ↔ ∀j,j<i->B j=false:=by
 rw[<-Bool.not_eq_true,anyB_iff];constructor
 ·intro h j hj;cases hb:B j
  ·rfl
  ·exact absurd ⟨j,hj,hb⟩ h
 ·rintro h ⟨j,hj,hb⟩;rw[h j hj]at hb;cases hb
theorem znj {S}:∀{r i:Nat},nms S r i=true->∀j,i<=j->j<i+r->zaD (S j)=true
 | 0,_,_,j,h1,h2=>by omega
 | r+1,i,h,j,h1,h2=>by
  simp only[nms,Bool.and_eq_true]at h;by_cases e:j=i
  ·subst e;exact h.1
  ·exact znj h.2 j (by omega) (by omega)
theorem zni {S}:∀{r i:Nat},(∀j,i<=j->j<i+r->zaD (S j)=true)->nms S r i=true
 | 0,_,_=>rfl
 | r+1,i,h=>by simp only[nms];rw[h i (by omega) (by omega),zni (λj a b=>h j (by omega) (by omega))];rfl
theorem zjR {S}:∀{r i:Nat},twr S r i=true ↔ ∃j,i<=j/\j<i+r/\zhK S j=true
 | 0,i=>⟨λh=>by simp[twr]at h,λ⟨j,h1,h2,_⟩=>by omega⟩
 | r+1,i=>by
  simp only[twr,Bool.or_eq_true,zjR (r:=r)];constructor
  ·rintro(h|⟨j,h1,h2,h3⟩)
   ·exact⟨i,by omega,by omega,h⟩
   ·exact⟨j,by omega,by omega,h3⟩
  ·rintro⟨j,h1,h2,h3⟩;by_cases e:j=i
   ·subst e;exact .inl h3
   ·exact .inr ⟨j,by omega,by omega,h3⟩
theorem zkt (S:Nat->ByteArray) (k:Nat):nms S k 0=!(zat (λj=>!(zaD (S j))) k):=by
 rw[Bool.eq_iff_iff,Bool.not_eq_true',anyB_no];exact⟨λh j hj=>by rw[znj h j (by omega) (by omega)];rfl,λh=>zni (λj _ hj=>by simpa using h j (by omega))⟩
theorem zjS (S:Nat->ByteArray) (k:Nat):twr S k 0=zat (λj=>zat (λp=>decide (S p=S j)) j) k:=by
 rw[Bool.eq_iff_iff,zjR,anyB_iff];constructor
 ·rintro⟨j,_,h2,h3⟩;obtain⟨p,hp,e⟩:=(zcy S j).1 h3;exact⟨j,by omega,anyB_iff.2 ⟨p,hp,by simpa using e⟩⟩
 ·rintro⟨j,h1,h2⟩;obtain⟨p,hp,e⟩:=anyB_iff.1 h2;exact⟨j,by omega,by omega,(zcy S j).2 ⟨p,hp,by simpa using e⟩⟩
theorem zpW (C:Nat->Lc) (k:Nat):zed C k 0=!(zat (λj=>!(nfB (C j).cost && abB (C j).lo (C j).hi)) k):=by
 rw[Bool.eq_iff_iff,Bool.not_eq_true',anyB_no];exact⟨λh j hj=>by obtain⟨a,b⟩:=zhp h j (by omega) (by omega);rw[a,b];rfl,λh=>zho (λj _ hj=>by simpa using h j (by omega))⟩
theorem zpa (R:Nat->Lr) (k:Nat):zdd R k 0=!(zat (λj=>!(tfB (R j).tk (R j).col (R j).T && abB (R j).lo (R j).hi)) k):=by
 rw[Bool.eq_iff_iff,Bool.not_eq_true',anyB_no];exact⟨λh j hj=>by obtain⟨a,b⟩:=zeF h j (by omega) (by omega);rw[a,b];rfl,λh=>zgI (λj _ hj=>by have:=h j (by omega);simp at this;exact⟨this.2,this.1⟩)⟩
theorem zrP {k R n} (h:∀j,j<n->tfB (R j).tk (R j).col (R j).T=true):alB k R n 0=!(zat (λj=>zat (λp=>decide ((k:Int)<=(R j).col p)) (R j).tk) n):=by
 rw[Bool.eq_iff_iff,Bool.not_eq_true',anyB_no];constructor
 ·intro ha j hj;refine anyB_no.2 (λp hp=>?_);have:=(zkS (h j hj) (zjH ha j (by omega) (by omega)) p hp).2;simp;omega
 ·intro ha;refine alB_of (λj _ hj=>?_);have:=anyB_no.1 (ha j (by omega));simp only[lastB,Bool.or_eq_true,decide_eq_true_eq];by_cases h0:(R j).tk=0
  ·exact .inl h0
  ·have:=this ((R j).tk-1) (by omega);simp at this;exact .inr (by omega)
theorem zrO {M} (h1:M.ck<=64) (h2:M.rk<=64):zaw M=ev (b3r M M.rk) (b5r M M.rk) (b6r M M.rk) (b7r M M.rk):=by
 have e0:(decide (64<M.ck) || decide (64<M.rk))=false:=by simp;omega
 have e1:moF M=!(b3r M M.rk):=by
  unfold moF b3r b3c;rw[zpW,zpa];simp only[Bool.not_or,Bool.not_not,Bool.and_assoc]
 have e2:(nms (λj=>(M.C j).nm) M.ck 0 && nms (λj=>(M.R j).nm) M.rk 0)=!(b5r M M.rk):=by
  unfold b5r b5c;rw[zkt,zkt,Bool.not_or]
 have e3:(twr (λj=>(M.C j).nm) M.ck 0 || twr (λj=>(M.R j).nm) M.rk 0)=b6r M M.rk:=by
  unfold b6r b6c;rw[zjS,zjS]
 unfold zaw ziC ev;rw[e0,e1,e2,e3];cases hb:b3r M M.rk
 ·have e4:alB M.ck M.R M.rk 0=!(b7r M M.rk):=zrP (λj hj=>by
   rw[hb]at e1
   simp only[moF,Bool.and_eq_true,Bool.not_false]at e1;exact(zeF e1.2.2 j (by omega) (by omega)).2)
  rw[e4];cases b5r M M.rk <;> cases b6r M M.rk <;> cases b7r M M.rk <;> rfl
 ·rfl
theorem zit {w} {M:Mo} (h:64<M.ck∨64<M.rk):Calls prog 73 #[M.val] w λr w'=>r=.returned (.int .i64 2)/\Bl w w':=by
 obtain⟨⟨s,x,n,c,f,y,m,d,g⟩,ca,ck,cc,C,ra,rk,rc,R⟩:=M;replace h:64<ck∨64<rk:=h;show Calls prog 73 #[agg #[.bool s,slice x n c,slice y m d,slice ca ck cc,slice ra rk rc]] w _;by_cases h1:64<ck
 ·have e1:(ck:Int) > 64:=by omega
  clear h1 h;go_enter func73,ntmps73;go_wp2;go_ret;exact⟨rfl,zu (Below.refl _ _) _⟩
 ·have e1:¬(ck:Int) > 64:=by omega
  have e2:(rk:Int) > 64:=by omega
  clear h1 h;go_enter func73,ntmps73;go_wp2;go_ret;exact⟨rfl,zu (Below.refl _ _) _⟩
def MoC (M:Mo):Prop:=(M.ck<=M.cc/\M.cc<=9223372036854775807)/\M.rk<=M.rc/\M.rc<=9223372036854775807
theorem zjw {w M} (h:M.ck<=64->M.rk<=64->MoR w M/\MoS M) (hc:MoC M):Calls prog 73 #[M.val] w λr w'=>r=.returned (.int .i64 (zaw M))/\Bl w w':=by
 by_cases h1:64<M.ck∨64<M.rk
 ·have e:zaw M=2:=by
   have:(decide (64<M.ck) || decide (64<M.rk))=true:=by simpa using h1
   rw[zaw,this];rfl
  rw[e];exact zit h1
 ·obtain⟨k1,k2⟩:=h (by omega) (by omega);rw[zrO (by omega) (by omega)];exact zis k1 k2 (by omega) (by omega) hc
theorem Sn.exF {a b:Ex} (hi:b.i=a.i) (h:Sn a.v b.v):exF b=exF a:=by
 obtain⟨h1,h2,h3,h4,h5⟩:=h;unfold Go.Proofs.YtlbgphjdibbkjaaGreat.exF;rw[hi,h1,h2,h3,h4,h5]
theorem ziK {a b a' b'} (h1:a'.i=a.i) (h2:Sn a.v a'.v) (h3:b'.i=b.i) (h4:Sn b.v b'.v):abB a' b'=abB a b:=by
 unfold abB;rw[Sn.exF h1 h2,Sn.exF h3 h4,h1,h3]
theorem zfE {C C'}:∀{r i:Nat},(∀j,i<=j->j<i+r->Sc (C j) (C' j))->zed C' r i=zed C r i
 | 0,_,_=>rfl
 | r+1,i,h=>by
  have k:=h i (by omega) (by omega);simp only[zed];rw[k.cost.nfB,ziK k.li k.lo k.hi k.hv,zfE (λj a b=>h j (by omega) (by omega))]
theorem zll {r r'} (k:Sr r r'):tfB r'.tk r'.col r'.T=tfB r.tk r.col r.T:=by
 unfold tfB;rw[k.tk,k.col]
 exact zqV (λj _ hj=>k.T j (by omega))
theorem zfg {R R'}:∀{r i:Nat},(∀j,i<=j->j<i+r->Sr (R j) (R' j))->zdd R' r i=zdd R r i
 | 0,_,_=>rfl
 | r+1,i,h=>by
  have k:=h i (by omega) (by omega);simp only[zdd];rw[zll k,ziK k.li k.lo k.hi k.hv,zfg (λj a b=>h j (by omega) (by omega))]
theorem zgm {k R R'}:∀{r i:Nat},(∀j,i<=j->j<i+r->Sr (R j) (R' j))->alB k R' r i=alB k R r i
 | 0,_,_=>rfl
 | r+1,i,h=>by
  have q:=h i (by omega) (by omega);simp only[alB,lastB];rw[q.tk,q.col,zgm (λj a b=>h j (by omega) (by omega))]
theorem Sm.chk {M M'} (h:Sm M M'):zaw M'=zaw M:=by
 have e1:moF M'=moF M:=by
  unfold moF;rw[h.off.nfB,h.ck,h.rk,zfE (λj _ hj=>h.C j (by omega)),zfg (λj _ hj=>h.R j (by omega))]
 unfold zaw;rw[e1,h.ck,h.rk,zbr (S':=λj=>(M.C j).nm) (λj _ hj=>(h.C j (by omega)).nm),zbr (S':=λj=>(M.R j).nm) (λj _ hj=>(h.R j (by omega)).nm),
  zbo (S':=λj=>(M.C j).nm) (λj hj=>(h.C j (by omega)).nm),zbo (S':=λj=>(M.R j).nm) (λj hj=>(h.R j (by omega)).nm),zgm (λj _ hj=>h.R j (by omega))]
theorem Sm.col {M M'} (h:Sm M M') (z:ByteArray):ziF M' z=ziF M z:=by
 unfold ziF;rw[h.chk,h.ck,zcb (S':=λj=>(M.C j).nm) (λj _ hj=>(h.C j (by omega)).nm)]
theorem Sm.row {M M'} (h:Sm M M') (z:ByteArray):ziE M' z=ziE M z:=by
 unfold ziE;rw[h.chk,h.rk,zcb (S':=λj=>(M.R j).nm) (λj _ hj=>(h.R j (by omega)).nm)]
structure MoN (M:Mo):Prop where
 c:∀j,j<M.ck->(M.C j).nm.size<=9223372036854775807
 r:∀j,j<M.rk->(M.R j).nm.size<=9223372036854775807
theorem Sm.mon {M M'} (h:Sm M M') (k:MoN M):MoN M':=⟨λj hj=>by rw[h.ck]at hj;rw[(h.C j hj).nm];exact k.c j hj,λj hj=>by rw[h.rk]at hj;rw[(h.R j hj).nm];exact k.r j hj⟩
theorem zkU {K C}:∀{i:Nat},clgs K C i=true->∀j,j<i->cl3 K (C j)=true
 | 0,_,j,hj=>by omega
 | i+1,h,j,hj=>by
  simp only[clgs,Bool.and_eq_true]at h;by_cases e:j=i
  ·subst e;exact h.2
  ·exact zkU h.1 j (by omega)
theorem zkg {K R}:∀{i:Nat},rlgs K R i=true->∀j,j<i->rl3 K (R j)=true
 | 0,_,j,hj=>by omega
 | i+1,h,j,hj=>by
  simp only[rlgs,Bool.and_eq_true]at h;by_cases e:j=i
  ·subst e;exact h.2
  ·exact zkg h.1 j (by omega)
theorem znm {K X}:∀{r i:Nat},nlg K X r i=true->∀j,i<=j->j<i+r->(X j).n<=K/\(X j).m<=K
 | 0,_,_,j,h1,h2=>by omega
 | r+1,i,h,j,h1,h2=>by
  simp only[nlg,lg,Bool.and_eq_true,decide_eq_true_eq]at h;by_cases e:j=i
  ·subst e;exact h.1
  ·exact znm h.2 j (by omega) (by omega)
theorem zdZ {K t} (h:lgN K t=true):t.n<=K/\t.m<=K:=by
 simpa only[lgN,lg,Bool.and_eq_true,decide_eq_true_eq]using h
structure MoK (K:Nat) (M:Mo):Prop where
 off:M.off.n<=K/\M.off.m<=K
 c:∀j,j<M.ck->((M.C j).cost.n<=K/\(M.C j).cost.m<=K)/\((M.C j).lo.v.n<=K/\(M.C j).lo.v.m<=K)/\(M.C j).hi.v.n<=K/\(M.C j).hi.v.m<=K
 r:∀j,j<M.rk->((M.R j).lo.v.n<=K/\(M.R j).lo.v.m<=K)/\((M.R j).hi.v.n<=K/\(M.R j).hi.v.m<=K)/\(M.R j).tk<=300/\∀p,p<(M.R j).tk->((M.R j).T p).n<=K/\((M.R j).T p).m<=K
theorem zrA {K M} (h:lgM K M=true) (h1:M.ck<=64) (h2:M.rk<=64):MoK K M:=by
 have e0:(decide (64<M.ck) || decide (64<M.rk))=false:=by simp;omega
 unfold lgM at h;rw[e0,Bool.false_or]at h
 simp only[Bool.and_eq_true]at h;refine⟨zdZ h.1,λj hj=>?_,λj hj=>?_⟩
 ·have:=zkU h.2.1 j hj;simp only[cl3,Bool.and_eq_true]at this;exact⟨zdZ this.1,zdZ this.2.1,zdZ this.2.2⟩
 ·have:=zkg h.2.2 j hj;simp only[rl3,Bool.and_eq_true,decide_eq_true_eq]at this;exact⟨zdZ this.2.1,zdZ this.2.2.1,this.1,λp hp=>znm this.2.2.2 p (by omega) (by omega)⟩
theorem Sm.mok {K M M'} (h:Sm M M') (k:MoK K M):MoK K M':=by
 have hn:∀{t t':Nm},Sn t t'->t.n<=K/\t.m<=K->t'.n<=K/\t'.m<=K:=λe l=>by rw[e.2.1,e.2.2.2.1];exact l
 refine⟨hn h.off k.off,λj hj=>?_,λj hj=>?_⟩
 ·rw[h.ck]at hj
  have a:=h.C j hj;have b:=k.c j hj
  exact⟨hn a.cost b.1,hn a.lo b.2.1,hn a.hv b.2.2⟩
 ·rw[h.rk]at hj
  have a:=h.R j hj;have b:=k.r j hj
  exact⟨hn a.lo b.1,hn a.hv b.2.1,by rw[a.tk];exact b.2.2.1,λp hp=>by rw[a.tk]at hp;exact hn (a.T p hp) (b.2.2.2 p hp)⟩
theorem MoX.mor {w M K} (h:MoX w M) (hn:MoN M) (hk:MoK K M) (hK:K<=65536) (h1:M.ck<=64) (h2:M.rk<=64):MoR w M:=by
 have hs:∀{t:Nm},NmB w t->t.n<=K/\t.m<=K->NmS w t:=λa b=>⟨a.1,le_trans b.1 hK,le_trans b.2 hK⟩
 refine⟨hs h.off hk.off,λj hj=>?_,λj hj=>?_,by omega,by omega⟩
 ·obtain⟨b,o,e,a1,a2⟩:=h.cls j hj;have q:=hk.c j hj;exact⟨b,o,e,a1,hs a2.cost q.1,hs a2.lo q.2.1,hs a2.hi q.2.2,hn.c j hj⟩
 ·obtain⟨b,o,e,a1,a2⟩:=h.rls j hj;have q:=hk.r j hj;refine⟨b,o,e,a1,hs a2.lo q.1,hs a2.hi q.2.1,λp hp=>?_,by omega,hn.r j hj⟩;obtain⟨b',o',e',c4,rw'⟩:=a2.tr p hp;exact⟨b',o',e',c4,rw',le_trans (q.2.2.2 p hp).1 hK,le_trans (q.2.2.2 p hp).2 hK⟩
theorem MoK.mos {K M} (h:MoK K M) (hK:K<=1000):MoS M:=by
 have hs:∀{a b:Nat},a<=K/\b<=K->a<=1000/\b<=1000:=λl=>⟨le_trans l.1 hK,le_trans l.2 hK⟩
 exact⟨hs h.off,λj hj=>⟨hs (h.c j hj).1,hs (h.c j hj).2.1,hs (h.c j hj).2.2⟩,λj hj=>⟨hs (h.r j hj).1,hs (h.r j hj).2.1,by have:=(h.r j hj).2.2.1;omega,λp hp=>hs ((h.r j hj).2.2.2 p hp)⟩⟩
theorem MoX.light {w M} (h:MoX w M):Cl0 w M.ca M.ck M.C/\Rl0 w M.ra M.rk M.R :=
 ⟨λj hj=>by obtain⟨b,o,e,a1,_⟩:=h.cls j hj;exact⟨b,o,e,a1⟩,λj hj=>by obtain⟨b,o,e,a1,a2⟩:=h.rls j hj;exact⟨b,o,e,a1,a2.tr,le_trans a2.tk (by decide)⟩⟩
end Go.Proofs.YtlbgphjdibbkjaaGreat
namespace Go.Proofs.YtlbgphjdibbkjaaGreat
open Value (slice agg)
open Obj (cells)
open Nat (le_refl le_trans)
open World (cell?_of_block)
open List (getElem?_eq_getElem)
open Go.Proofs.Tryz
open Go.ChangeShapes Go.WideShapes Go.ChangeAt Go.RowKit
theorem zla {H:Type} {P:Program} {e:TypeId}:∀{l:List (DataW H)} {d:DataW H},d ∈ l->∀n ∈ d.weights P e,n ∈ DataW.weightsAll P e l
 | x :: l,d,h,n,hn=>by
  simp only[DataW.weightsAll,List.mem_append];rcases List.mem_cons.1 h with rfl|h
  ·exact .inl hn
  ·exact .inr (zla h n hn)
def Wt {H:Type} (P:Program) (t:TypeId) (x:DataW H × List MemPlace):Prop:=∀n ∈ x.1.weights P t,n<=reachBytes
theorem zcZ {H:Type} {enc:TypeId × Value->H} {P:Program} {w:World} {t:TypeId} {fs:Array Field} {fuel:Nat} {cs:List Value} {x:DataW H × List MemPlace} (ht:P.underlying t=some (.struct fs)) (h:DataW.trod enc P w 0 (λ_=>true) true fuel t cs=some x) (hw:Wt P t x) :
  ∃k,∀(i:Nat) (f:Field),fs[i]?=some f->∃y,DataW.trod enc P w 0 (λ_=>true) true k f.type ((cs.drop f.offset).take (P.cellsOf f.type))=some y/\Wt P f.type y:=by
 obtain⟨xs,k,_,rfl,_,hlen,hf⟩:=DataW.trod_struct ht h;refine⟨k,λi f hi=>?_⟩;have hlt:i<xs.length:=by rw[hlen];exact(Array.getElem?_eq_some_iff.1 hi).1
 refine⟨xs[i],by rw[hf i f hi,getElem?_eq_getElem hlt],λn hn=>hw n ?_⟩;show n ∈ (DataW.agg (xs.map (·.1))).weights P t;simp only[DataW.weights,ht];refine DataW.weights_mem_each (j:=i) (t:=f.type) (d:=(xs[i]).1) ?_ ?_ n hn
 ·simp[hi]
 ·simp[hlt]
theorem sliceW {H:Type} {enc:TypeId × Value->H} {P:Program} {w:World} {t e:TypeId} {fuel:Nat} {cs:List Value} {x:DataW H × List MemPlace} (ht:P.underlying t=some (.slice e)) (h:DataW.trod enc P w 0 (λ_=>true) true fuel t cs=some x) (hw:Wt P t x) :
  cs=[slice none 0 0]∨∃(a:Addr) (len cap k:Nat),cs=[slice (some a) len cap]/\len<=cap/\cap<=maxLen/\cap*P.bytesOf e<=reachBytes /\
   ∀i,i<len->∃cs' y,w.cells? 0 (a.add (i*P.cellsOf e)) (P.cellsOf e)=some cs'/\DataW.trod enc P w 0 (λ_=>true) true k e cs'=some y/\Wt P e y:=by
 rcases Go.Deep.open_slice ht h with⟨hcs,_⟩|⟨a,len,cap,m,n,D,Pl,hcs,_,hl,hm,hmm,rfl,hel⟩
 ·exact .inl hcs
 ·simp only[if_true]at hmm;subst hmm;refine .inr ⟨a,len,m,n,hcs,hl,hm,?_,λi hi=>?_⟩
  ·refine hw _ ?_;simp only[DataW.weights,ht,List.length_map,List.length_range];rw[show len+(m-len)=m by omega];exact List.mem_cons_self
  ·obtain⟨cs',h1,h2⟩:=hel i (by omega);refine⟨cs',_,h1,h2,λk hk=>hw k ?_⟩;simp only[DataW.weights,ht];exact List.mem_cons_of_mem _ (List.mem_append_left _ (zla (d:=D i) (List.mem_map.2 ⟨i,List.mem_range.2 hi,rfl⟩) k hk))
theorem Tryz.bytesU64:prog.bytesOf 49=8:=by kernel_rfl
theorem Tryz.bytesTerm:prog.bytesOf 65=64:=by kernel_rfl
theorem Tryz.bytesCol:prog.bytesOf 60=200:=by kernel_rfl
theorem Tryz.bytesRow:prog.bytesOf 63=168:=by kernel_rfl
theorem Tryz.cellsU:prog.cellsOf 49=1:=by kernel_rfl
theorem Tryz.cellsTerm:prog.cellsOf 65=4:=by kernel_rfl
theorem Tryz.cellsCol:prog.cellsOf 60=12:=by kernel_rfl
theorem Tryz.cellsRow:prog.cellsOf 63=10:=by kernel_rfl
theorem zmi {H:Type} {enc:TypeId × Value->H} {W:World} {fuel:Nat} {v:Value} {x:DataW H × List MemPlace} (h:DataW.trod enc prog W 0 (λ_=>true) true fuel 22 [v]=some x) (hw:Wt prog 22 x) :
  ∃ao n cap f,v=slice ao n cap/\Rd .u64 W ao n f/\Lm f n/\(ao=none->n=0/\cap=0)/\(n<=cap/\cap<=9223372036854775807)/\n<=17592186044416:=by
 rcases open_ints underlying22 underlying49 Tryz.cellsU h with⟨hcs,hx⟩|⟨a,len',cap',zs,hcs,_,hl,hm,hz,hx,hcell,hwz⟩
 ·simp at hcs;subst hcs;exact⟨none,0,0,λ_=>0,rfl,Rd.zero,λj hj=>by omega,λ_=>⟨rfl,rfl⟩,⟨by omega,by omega⟩,by omega⟩
 ·simp at hcs;subst hcs;simp only[if_true]at hz;have hb:cap'*8<=reachBytes:=by
   have:cap'*prog.bytesOf 49<=reachBytes:=by
    refine hw _ ?_;rw[hx];simp only[DataW.weights,underlying22];have e:(lits .u64 (zs.take len'):List (DataW H)).length+(lits .u64 (zs.drop len'):List (DataW H)).length=cap':=by simp[lits];omega
    rw[e];exact List.mem_cons_self
   rw[Tryz.bytesU64]at this
   exact this
  refine⟨some a,len',cap',λj=>zs.getD j 0,rfl,λj hj=>?_,λj hj=>?_,(λh=>by cases h),⟨hl,by unfold maxLen at hm;omega⟩,by unfold reachBytes at hb;omega⟩
  ·obtain⟨b,off,spot⟩:=a;have hspot:spot=none:=by simpa[Addr.add]using World.cell?_spot (hcell 0 (by omega))
   subst hspot;exact⟨b,off,rfl,by have:=hcell j (by omega);rwa[addr_add]at this⟩
  ·have hmem:zs.getD j 0 ∈ zs:=by
    rw[List.getD_eq_getElem?_getD,getElem?_eq_getElem (by omega)];exact List.getElem_mem _
   have:=bounds_u64 (hwz _ hmem);show 0<=zs.getD j 0/\zs.getD j 0<18446744073709551616;omega
theorem zeZ {H:Type} {enc:TypeId × Value->H} {W:World} {k:Nat} {c0 c1 c2:Value} {z:DataW H × List MemPlace} (hf:DataW.trod enc prog W 0 (λ_=>true) true k 24 [c0,c1,c2]=some z) (hw:Wt prog 24 z) :
  ∃t:Nm,c0=.bool t.s/\c1=slice t.x t.n t.c/\c2=slice t.y t.m t.d/\NmB W t:=by
 obtain⟨k,hk⟩:=zcZ underlying24 hf hw;obtain⟨y0,h0,_⟩:=hk 0 _ rfl;obtain⟨y1,h1,w1⟩:=hk 1 _ rfl;obtain⟨y2,h2,w2⟩:=hk 2 _ rfl;have h0':DataW.trod enc prog W 0 (λ_=>true) true k 4 [c0]=some y0:=h0;have h1':DataW.trod enc prog W 0 (λ_=>true) true k 22 [c1]=some y1:=h1;have h2':DataW.trod enc prog W 0 (λ_=>true) true k 22 [c2]=some y2:=h2;obtain⟨s,hs,_⟩:=DataW.trod_bool underlying4 h0';obtain⟨ao,n,cap,f,rfl,hr,hlm,hnil,hc,hl⟩:=zmi h1' w1;obtain⟨bo,m,cap',g,rfl,hr',hlm',hnil',hc',hl'⟩:=zmi h2' w2;simp at hs;exact⟨⟨s,ao,n,cap,f,bo,m,cap',g⟩,hs,rfl,rfl,⟨hr,hlm,hc,hnil,hr',hlm',hc',hnil'⟩,hl,hl'⟩
theorem zgv {H:Type} {enc:TypeId × Value->H} {W:World} {k:Nat} {c0 c1 c2 c3:Value} {z:DataW H × List MemPlace} (hf:DataW.trod enc prog W 0 (λ_=>true) true k 40 [c0,c1,c2,c3]=some z) (hw:Wt prog 40 z) :
  ∃e:Ex,c0=.int .i64 e.i/\c1=.bool e.v.s/\c2=slice e.v.x e.v.n e.v.c/\c3=slice e.v.y e.v.m e.v.d/\NmB W e.v:=by
 obtain⟨k,hk⟩:=zcZ underlying40 hf hw;obtain⟨y0,h0,_⟩:=hk 0 _ rfl;obtain⟨y1,h1,w1⟩:=hk 1 _ rfl;have h0':DataW.trod enc prog W 0 (λ_=>true) true k 3 [c0]=some y0:=h0;have h1':DataW.trod enc prog W 0 (λ_=>true) true k 24 [c1,c2,c3]=some y1:=h1;obtain⟨i,hi,_⟩:=DataW.trod_int underlying3 h0';obtain⟨t,e1,e2,e3,ht⟩:=zeZ h1' w1;simp at hi;exact⟨⟨i,t⟩,hi,e1,e2,e3,ht⟩
theorem zbF {w:World} {base n:Nat} {a:Addr} {cs:List Value} (h:w.cells? base a n=some cs):cs.length=n/\∀(i:Nat) u,cs[i]?=some u->w.cell? (a.add i)=some u:=by
 obtain⟨_,h1,h2⟩:=World.cells?_some h;refine⟨h1,λi u hi=>?_⟩;have hlt:i<n:=by rw[<-h1];exact(List.getElem?_eq_some_iff.1 hi).1
 rw[<-hi];exact h2 i hlt
theorem ziH (a:Addr) (j i:Nat):(a.add j).add i=a.add (j+i):=by
 obtain⟨b,o,s⟩:=a;by_cases hj:j=0
 ·subst hj;by_cases hi:i=0
  ·subst hi;simp[Addr.add]
  ·simp[Addr.add,hi]
 ·by_cases hi:i=0
  ·subst hi;simp[Addr.add,hj]
  ·simp[Addr.add,hi,hj,Nat.add_assoc]
theorem zkQ {w:World} {base n:Nat} {b o j:Nat} {cs:List Value} (h:w.cells? base (Addr.add ⟨b,o,none⟩ (j*n)) n=some cs):Cs w b (o+j*n) cs:=λi v e=>by
 have:=(zbF h).2 i v e;rw[ziH,addr_add]at this
 rw[Nat.add_assoc];exact this
theorem zeE {w:World} {base n:Nat} {a:Addr} {cs:List Value} (h:w.cells? base (a.add (0*n)) n=some cs) (hn:0<n):a.spot=none:=by
 obtain⟨h1,h2⟩:=zbF h;have:=h2 0 cs[0] (getElem?_eq_getElem (by omega));rw[ziH,Nat.zero_mul]at this
 simpa[Addr.add]using World.cell?_spot this
theorem zqI {H:Type} {enc:TypeId × Value->H} {W:World} {fuel:Nat} {v:Value} {x:DataW H × List MemPlace} (h:DataW.trod enc prog W 0 (λ_=>true) true fuel 61 [v]=some x) (hw:Wt prog 61 x) :
  ∃ta tk tc col T,v=slice ta tk tc/\Tr W ta tk col T/\tk<=2199023255552/\∀p,p<tk->(T p).n<=17592186044416/\(T p).m<=17592186044416:=by
 rcases sliceW underlying61 h hw with hcs|⟨a,len,cap,k,hcs,hl,hm,hb,hel⟩
 ·simp at hcs;exact⟨none,0,0,λ_=>0,λ_=>nz9,hcs,λj hj=>by omega,by omega,λj hj=>by omega⟩
 ·simp at hcs;rw[Tryz.cellsTerm]at hel
  rw[Tryz.bytesTerm]at hb
  have hX:∀j,∃zt:Int × Nm,j<len->W.cells? 0 (a.add (j*4)) 4=some [.int .i64 zt.1,.bool zt.2.s,slice zt.2.x zt.2.n zt.2.c,slice zt.2.y zt.2.m zt.2.d]/\NmB W zt.2:=λj=>by
   by_cases hj:j<len
   ·obtain⟨cs',y,h1,h2,w2⟩:=hel j hj
    match cs',(zbF h1).1 with
    | [c0,c1,c2,c3],_ =>
     obtain⟨k',hk⟩:=zcZ underlying65 h2 w2;obtain⟨y0,g0,_⟩:=hk 0 _ rfl;obtain⟨y1,g1,w1⟩:=hk 1 _ rfl;have g0':DataW.trod enc prog W 0 (λ_=>true) true k' 3 [c0]=some y0:=g0;have g1':DataW.trod enc prog W 0 (λ_=>true) true k' 24 [c1,c2,c3]=some y1:=g1;obtain⟨i,hi,_⟩:=DataW.trod_int underlying3 g0';obtain⟨t,e1,e2,e3,ht⟩:=zeZ g1' w1;simp at hi;subst hi;subst e1;subst e2;subst e3
     exact⟨(i,t),λ_=>⟨h1,ht⟩⟩
   ·exact⟨(0,nz9),λh=>absurd h hj⟩
  have hX':∃Z:Nat->Int × Nm,∀j,j<len->W.cells? 0 (a.add (j*4)) 4=some [.int .i64 (Z j).1,.bool (Z j).2.s,.slice (Z j).2.x (Z j).2.n (Z j).2.c,.slice (Z j).2.y (Z j).2.m (Z j).2.d]/\NmB W (Z j).2:=⟨λj=>Classical.choose (hX j),λj=>Classical.choose_spec (hX j)⟩;obtain⟨Z,hZ⟩:=hX';refine⟨some a,len,cap,λj=>(Z j).1,λj=>(Z j).2,hcs,λj hj=>?_,by unfold reachBytes at hb;omega,λp hp=>(hZ p hp).2.2⟩;have hs:=zeE (n:=4) (hZ 0 (by omega)).1 (by decide);obtain⟨b,o,sp⟩:=a;simp only at hs;subst hs;exact⟨b,o,rfl,cs4 (zkQ (hZ j hj).1),(hZ j hj).2.1⟩
theorem zqM {H:Type} {enc:TypeId × Value->H} {W:World} {k:Nat} {c0 c1 c2 c3 c4 c5 c6 c7 c8 c9 c10 c11:Value} {z:DataW H × List MemPlace} (hf:DataW.trod enc prog W 0 (λ_=>true) true k 60 [c0,c1,c2,c3,c4,c5,c6,c7,c8,c9,c10,c11]=some z) (hw:Wt prog 60 z) :
  ∃c:Lc,[c0,c1,c2,c3,c4,c5,c6,c7,c8,c9,c10,c11]=c.vs/\LcB W c/\c.nm.size<=9223372036854775807:=by
 obtain⟨k,hk⟩:=zcZ underlying60 hf hw;obtain⟨y0,h0,_⟩:=hk 0 _ rfl;obtain⟨y1,h1,w1⟩:=hk 1 _ rfl;obtain⟨y2,h2,w2⟩:=hk 2 _ rfl;obtain⟨y3,h3,w3⟩:=hk 3 _ rfl;have h0':DataW.trod enc prog W 0 (λ_=>true) true k 9 [c0]=some y0:=h0;have h1':DataW.trod enc prog W 0 (λ_=>true) true k 24 [c1,c2,c3]=some y1:=h1;have h2':DataW.trod enc prog W 0 (λ_=>true) true k 40 [c4,c5,c6,c7]=some y2:=h2;have h3':DataW.trod enc prog W 0 (λ_=>true) true k 40 [c8,c9,c10,c11]=some y3:=h3;obtain⟨s,hs,_,hz⟩:=DataW.trod_string underlying9 h0';obtain⟨t,rfl,rfl,rfl,ht⟩:=zeZ h1' w1;obtain⟨e1,rfl,rfl,rfl,rfl,he1⟩:=zgv h2' w2;obtain⟨e2,rfl,rfl,rfl,rfl,he2⟩:=zgv h3' w3;simp at hs;subst hs;exact⟨⟨s,t,e1,e2⟩,rfl,⟨ht,he1,he2⟩,by unfold maxLen at hz;exact le_trans hz (by decide)⟩
theorem zqJ {H:Type} {enc:TypeId × Value->H} {W:World} {k:Nat} {c0 c1 c2 c3 c4 c5 c6 c7 c8 c9:Value} {z:DataW H × List MemPlace} (hf:DataW.trod enc prog W 0 (λ_=>true) true k 63 [c0,c1,c2,c3,c4,c5,c6,c7,c8,c9]=some z) (hw:Wt prog 63 z) :
  ∃r:Lr,[c0,c1,c2,c3,c4,c5,c6,c7,c8,c9]=r.vs/\LrB W r/\r.nm.size<=9223372036854775807:=by
 obtain⟨k,hk⟩:=zcZ underlying63 hf hw;obtain⟨y0,h0,_⟩:=hk 0 _ rfl;obtain⟨y1,h1,w1⟩:=hk 1 _ rfl;obtain⟨y2,h2,w2⟩:=hk 2 _ rfl;obtain⟨y3,h3,w3⟩:=hk 3 _ rfl;have h0':DataW.trod enc prog W 0 (λ_=>true) true k 9 [c0]=some y0:=h0;have h1':DataW.trod enc prog W 0 (λ_=>true) true k 40 [c1,c2,c3,c4]=some y1:=h1;have h2':DataW.trod enc prog W 0 (λ_=>true) true k 40 [c5,c6,c7,c8]=some y2:=h2;have h3':DataW.trod enc prog W 0 (λ_=>true) true k 61 [c9]=some y3:=h3;obtain⟨s,hs,_,hz⟩:=DataW.trod_string underlying9 h0';obtain⟨e1,rfl,rfl,rfl,rfl,he1⟩:=zgv h1' w1;obtain⟨e2,rfl,rfl,rfl,rfl,he2⟩:=zgv h2' w2;obtain⟨ta,tk,tc,col,T,rfl,ht,hk',hn⟩:=zqI h3' w3;simp at hs;subst hs;exact⟨⟨s,e1,e2,ta,tk,tc,col,T⟩,rfl,⟨he1,he2,ht,hk',hn⟩,by unfold maxLen at hz;exact le_trans hz (by decide)⟩
theorem zoN {H:Type} {enc:TypeId × Value->H} {W:World} {fuel:Nat} {v:Value} {x:DataW H × List MemPlace} (h:DataW.trod enc prog W 0 (λ_=>true) true fuel 25 [v]=some x) (hw:Wt prog 25 x) :
  ∃ca ck cc C,v=slice ca ck cc/\Cl9 W ca ck C/\ck<=703687441776/\(ck<=cc/\cc<=9223372036854775807)/\∀j,j<ck->(C j).nm.size<=9223372036854775807:=by
 have z9:Lc:=⟨ByteArray.empty,nz9,⟨0,nz9⟩,⟨0,nz9⟩⟩;rcases sliceW underlying25 h hw with hcs|⟨a,len,cap,k,hcs,hl,hm,hb,hel⟩
 ·simp at hcs;exact⟨none,0,0,λ_=>z9,hcs,λj hj=>by omega,by omega,⟨by omega,by omega⟩,λj hj=>by omega⟩
 ·simp at hcs;rw[Tryz.cellsCol]at hel
  rw[Tryz.bytesCol]at hb
  have hX:∀j,∃c:Lc,j<len->W.cells? 0 (a.add (j*12)) 12=some c.vs/\LcB W c/\c.nm.size<=9223372036854775807:=λj=>by
   by_cases hj:j<len
   ·obtain⟨cs',y,h1,h2,w2⟩:=hel j hj
    match cs',(zbF h1).1 with
    | [c0,c1,c2,c3,c4,c5,c6,c7,c8,c9,c10,c11],_ =>
     obtain⟨c,e,hc,hn⟩:=zqM h2 w2;rw[e]at h1
     exact⟨c,λ_=>⟨h1,hc,hn⟩⟩
   ·exact⟨z9,λh=>absurd h hj⟩
  have hX':∃Z:Nat->Lc,∀j,j<len->W.cells? 0 (a.add (j*12)) 12=some (Z j).vs/\LcB W (Z j)/\(Z j).nm.size<=9223372036854775807:=⟨λj=>Classical.choose (hX j),λj=>Classical.choose_spec (hX j)⟩;obtain⟨Z,hZ⟩:=hX';refine⟨some a,len,cap,Z,hcs,λj hj=>?_,by unfold reachBytes at hb;omega,⟨hl,by unfold maxLen at hm;omega⟩,λj hj=>(hZ j hj).2.2⟩;have hs:=zeE (n:=12) (hZ 0 (by omega)).1 (by decide);obtain⟨b,o,sp⟩:=a;simp only at hs;subst hs;exact⟨b,o,rfl,zkQ (hZ j hj).1,(hZ j hj).2.1⟩
theorem zoM {H:Type} {enc:TypeId × Value->H} {W:World} {fuel:Nat} {v:Value} {x:DataW H × List MemPlace} (h:DataW.trod enc prog W 0 (λ_=>true) true fuel 26 [v]=some x) (hw:Wt prog 26 x) :
  ∃ra rk rc R,v=slice ra rk rc/\Rl9 W ra rk R/\rk<=837723144971/\(rk<=rc/\rc<=9223372036854775807)/\∀j,j<rk->(R j).nm.size<=9223372036854775807:=by
 have z9:Lr:=⟨ByteArray.empty,⟨0,nz9⟩,⟨0,nz9⟩,none,0,0,λ_=>0,λ_=>nz9⟩;rcases sliceW underlying26 h hw with hcs|⟨a,len,cap,k,hcs,hl,hm,hb,hel⟩
 ·simp at hcs;exact⟨none,0,0,λ_=>z9,hcs,λj hj=>by omega,by omega,⟨by omega,by omega⟩,λj hj=>by omega⟩
 ·simp at hcs;rw[Tryz.cellsRow]at hel
  rw[Tryz.bytesRow]at hb
  have hX:∀j,∃c:Lr,j<len->W.cells? 0 (a.add (j*10)) 10=some c.vs/\LrB W c/\c.nm.size<=9223372036854775807:=λj=>by
   by_cases hj:j<len
   ·obtain⟨cs',y,h1,h2,w2⟩:=hel j hj
    match cs',(zbF h1).1 with
    | [c0,c1,c2,c3,c4,c5,c6,c7,c8,c9],_ =>
     obtain⟨c,e,hc,hn⟩:=zqJ h2 w2;rw[e]at h1
     exact⟨c,λ_=>⟨h1,hc,hn⟩⟩
   ·exact⟨z9,λh=>absurd h hj⟩
  have hX':∃Z:Nat->Lr,∀j,j<len->W.cells? 0 (a.add (j*10)) 10=some (Z j).vs/\LrB W (Z j)/\(Z j).nm.size<=9223372036854775807:=⟨λj=>Classical.choose (hX j),λj=>Classical.choose_spec (hX j)⟩;obtain⟨Z,hZ⟩:=hX';refine⟨some a,len,cap,Z,hcs,λj hj=>?_,by unfold reachBytes at hb;omega,⟨hl,by unfold maxLen at hm;omega⟩,λj hj=>(hZ j hj).2.2⟩;have hs:=zeE (n:=10) (hZ 0 (by omega)).1 (by decide);obtain⟨b,o,sp⟩:=a;simp only at hs;subst hs;exact⟨b,o,rfl,zkQ (hZ j hj).1,(hZ j hj).2.1⟩
theorem Tryz.cellsM:prog.cellsOf 28=5:=by kernel_rfl
theorem Tryz.readM:prog.readableRec 28=true:=by kernel_rfl
theorem Tryz.sizeM:28<prog.types.size:=of_decide_eq_true (by kernel_rfl)
theorem zsd {H:Type} {enc:TypeId × Value->H} {W:World} {base:Nat} {v:Value} {d:DataW H} {p:List MemPlace} (hok:Value.okWide prog W .any base 28 v) (h:DataW.Trod enc prog W 0 (λ_=>true) true 28 v d p) (hw:∀n ∈ d.weights prog 28,n<=reachBytes) :
  ∃M:Mo,v=M.val/\MoX W M/\MoN M/\MoC M:=by
 obtain⟨cs,rfl,hsz⟩:=okWide_struct underlying28 hok;rw[Tryz.cellsM]at hsz
 obtain⟨fuel,hf⟩:=h;obtain⟨l⟩:=cs
 match l,hsz with
 | [c0,c1,c2,c3,c4],_ =>
  obtain⟨k,hk⟩:=zcZ (x:=(d,p)) underlying28 hf hw;obtain⟨y0,h0,w0⟩:=hk 0 _ rfl;obtain⟨y1,h1,w1⟩:=hk 1 _ rfl;obtain⟨y2,h2,w2⟩:=hk 2 _ rfl;have h0':DataW.trod enc prog W 0 (λ_=>true) true k 24 [c0,c1,c2]=some y0:=h0;have h1':DataW.trod enc prog W 0 (λ_=>true) true k 25 [c3]=some y1:=h1;have h2':DataW.trod enc prog W 0 (λ_=>true) true k 26 [c4]=some y2:=h2;obtain⟨t,rfl,rfl,rfl,ht⟩:=zeZ h0' w0;obtain⟨ca,ck,cc,C,rfl,hC,hck,hcc,hcn⟩:=zoN h1' w1;obtain⟨ra,rk,rc,R,rfl,hR,hrk,hrc,hrn⟩:=zoM h2' w2;exact⟨⟨t,ca,ck,cc,C,ra,rk,rc,R⟩,rfl,⟨ht,hC,hR,hck,hrk⟩,⟨hcn,hrn⟩,hcc,hrc⟩
end Go.Proofs.YtlbgphjdibbkjaaGreat
namespace Go.Proofs.YtlbgphjdibbkjaaGreat
open Value (slice agg)
open Obj (cells)
open Nat (le_refl le_trans)
open World (cell?_of_block)
open List (getElem?_eq_getElem)
open Go.Proofs.Tryz
open Go.ChangeShapes Go.WideShapes Go.ChangeAt Go.RowKit
theorem Tryz.own:ownKnob prog.godebug=none:=by kernel_rfl
theorem Tryz.laidOut:laidOutB prog=true:=by kernel_rfl
end Go.Proofs.YtlbgphjdibbkjaaGreat
namespace Go.Proofs.YtlbgphjdibbkjaaGreat
open Value (slice agg)
open Obj (cells)
open Nat (le_refl le_trans)
open World (cell?_of_block)
open List (getElem?_eq_getElem)
open Go.Proofs.Tryz
open Go.ChangeShapes Go.WideShapes Go.ChangeAt Go.RowKit
theorem Tryz.bytesRat:prog.bytesOf 24=56:=by kernel_rfl
theorem Tryz.cellsRat:prog.cellsOf 24=3:=by kernel_rfl
theorem zqL {H:Type} {enc:TypeId × Value->H} {W:World} {fuel:Nat} {v:Value} {x:DataW H × List MemPlace} (h:DataW.trod enc prog W 0 (λ_=>true) true fuel 29 [v]=some x) (hw:Wt prog 29 x) :
  ∃ao k c X,v=slice ao k c/\Rr W ao k X/\k<=9223372036854775807:=by
 rcases sliceW underlying29 h hw with hcs|⟨a,len,cap,k,hcs,hl,hm,hb,hel⟩
 ·simp at hcs;exact⟨none,0,0,λ_=>nz9,hcs,λj hj=>by omega,by omega⟩
 ·simp at hcs;rw[Tryz.cellsRat]at hel
  rw[Tryz.bytesRat]at hb
  have hX:∀j,∃t:Nm,j<len->W.cells? 0 (a.add (j*3)) 3=some [.bool t.s,slice t.x t.n t.c,slice t.y t.m t.d]/\NmB W t:=λj=>by
   by_cases hj:j<len
   ·obtain⟨cs',y,h1,h2,w2⟩:=hel j hj
    match cs',(zbF h1).1 with
    | [c0,c1,c2],_ =>
     obtain⟨t,e1,e2,e3,ht⟩:=zeZ h2 w2;subst e1;subst e2;subst e3
     exact⟨t,λ_=>⟨h1,ht⟩⟩
   ·exact⟨nz9,λh=>absurd h hj⟩
  have hX':∃Z:Nat->Nm,∀j,j<len->W.cells? 0 (a.add (j*3)) 3=some [.bool (Z j).s,.slice (Z j).x (Z j).n (Z j).c,.slice (Z j).y (Z j).m (Z j).d]/\NmB W (Z j):=⟨λj=>Classical.choose (hX j),λj=>Classical.choose_spec (hX j)⟩;obtain⟨Z,hZ⟩:=hX';refine⟨some a,len,cap,Z,hcs,λj hj=>?_,by unfold reachBytes at hb;omega⟩;have hs:=zeE (n:=3) (hZ 0 (by omega)).1 (by decide);obtain⟨b,o,sp⟩:=a;simp only at hs;subst hs;have hc:=zkQ (hZ j hj).1;exact⟨b,o,rfl,⟨hc 0 _ rfl,hc 1 _ rfl,hc 2 _ rfl⟩,(hZ j hj).2.1⟩
theorem Tryz.readQq:prog.readableRec 29=true:=by kernel_rfl
theorem Tryz.sizeQq:29<prog.types.size:=of_decide_eq_true (by kernel_rfl)
theorem zqK {H:Type} {enc:TypeId × Value->H} {W:World} {base:Nat} {v:Value} {d:DataW H} {p:List MemPlace} (hok:Value.okWide prog W .any base 29 v) (h:DataW.Trod enc prog W 0 (λ_=>true) true 29 v d p) (hw:∀n ∈ d.weights prog 29,n<=reachBytes) :
  ∃ao k c X,v=slice ao k c/\Rr W ao k X/\k<=9223372036854775807:=by
 obtain⟨a0,len,cap,hv⟩:=okWide_slice underlying29 hok;subst hv;obtain⟨fuel,hf⟩:=h;exact zqL (x:=(d,p)) hf hw
end Go.Proofs.YtlbgphjdibbkjaaGreat
namespace Go.Proofs.YtlbgphjdibbkjaaGreat
open Value (slice agg)
open Obj (cells)
open Nat (le_refl le_trans)
open World (cell?_of_block)
open List (getElem?_eq_getElem)
open Go.Proofs.Tryz
open Go.RowKit
theorem znb {L w sa xa na ca fa ya ma da ga a sb xb nb cb fb yb mb db gb b} (ha:Rn L w sa xa na ca fa ya ma da ga a) (hb:Rn L w sb xb nb cb fb yb mb db gb b) (hL:L<=200000) :
  Calls prog 127 #[agg #[.bool sa,slice xa na ca,slice ya ma da],agg #[.bool sb,slice xb nb cb,slice yb mb db]] w λe w'=>zct (2*L+1) w w' e (a*b):=by
 have h1:=((ha.alloc (cells #[.bool sa,slice xa na ca,slice ya ma da] 24)).alloc (cells #[.bool sb,slice xb nb cb,slice yb mb db] 24)).alloc (cells #[.bool false,slice none 0 0,slice none 0 0] 24);have h2:=((hb.alloc (cells #[.bool sa,slice xa na ca,slice ya ma da] 24)).alloc (cells #[.bool sb,slice xb nb cb,slice yb mb db] 24)).alloc (cells #[.bool false,slice none 0 0,slice none 0 0] 24);have h3:=zaA ((w.alloc (cells #[.bool sa,slice xa na ca,slice ya ma da] 24)).alloc (cells #[.bool sb,slice xb nb cb,slice yb mb db] 24)) 24;rw[zw,zw]at h3
 have h4:=zu (zu (zB w (cells #[.bool sa,slice xa na ca,slice ya ma da] 24)) (cells #[.bool sb,slice xb nb cb,slice yb mb db] 24)) (cells #[.bool false,slice none 0 0,slice none 0 0] 24);clear ha hb;go_enter func127,ntmps127;go_wp2_with fail
 generalize((w.alloc (cells #[.bool sa,slice xa na ca,slice ya ma da] 24)).alloc (cells #[.bool sb,slice xb nb cb,slice yb mb db] 24)).alloc (cells #[.bool false,slice none 0 0,slice none 0 0] 24)=w1 at *;have OB1:=zk h3;have HW1:=zk h4
 refine(zjd h1 h2 hL).mono ?_;clear h1 h2 h3 h4;rintro e w2 ⟨s,x,n,c,f,y,m,d,g,rfl,hb2,hq⟩;have hob:=OB1.out.q_ hb2;have hbw:=bUp HW1.out hb2;obtain⟨hz,z0,z1,z2,zf⟩:=OB1.out.q_ hb2;have HQ:=zk hq;have HOB:=zk hob;have HBW:=zk hbw
 clear hq hob hbw hb2 OB1 HW1;go_wp2;exact bodyPost_ret (v:=agg #[.bool s,slice x n c,slice y m d]) (by simp[results,results127,go_sem,z0,z1,z2,hz]) rfl ⟨s,x,n,c,f,y,m,d,g,rfl,zu (zU HBW.out (by omega)) _,(HOB.out.rn HQ.out).alloc _⟩
def psum:List Rat->Rat->Rat
 | [],acc=>acc
 | q :: p,acc=>psum p (acc+q)
theorem zfW {i L} (hi:i<=400) (hL:L<=400):4+i*(L+1)<=164000:=by
 have h1:i*(L+1)<=400*(L+1):=Nat.mul_le_mul_right _ hi;omega
theorem zne {w L ao k cap p} (h:Rf L w ao p) (hk:p.length=k) (hk2:k<=400) (hL:L<=400) :
  Calls prog 33 #[slice ao k cap] w λe w'=>zct (4+k*(L+1)) w w' e (psum p 0):=by
 have H:=zk h;have h2:=zaA w 24;have h3:=zB w (cells #[.bool false,slice none 0 0,slice none 0 0] 24);clear h;go_enter func33,ntmps33;go_wp2_with fail
 generalize w.alloc (cells #[.bool false,slice none 0 0,slice none 0 0] 24)=w0 at *;refine(zkl (z:=0) (by omega) (by omega)).mono ?_;rintro e w4 ⟨s0,x0,n0,c0,f0,y0,m0,d0,g0,rfl,hb4,hq4⟩;have OB4:=zk (h2.q_ hb4);have HB4:=zk (bUp h3 hb4);have HQ4:=zk hq4
 clear h2 h3 hb4 hq4;go_wp2_with fail
 have hSx:Sx (w4.alloc (cells #[.bool s0,slice x0 n0 c0,slice y0 m0 d0] 24)) w4.heap.size s0 x0 n0 c0 y0 m0 d0:=⟨by simp,by simp[go_sem],by simp[go_sem],by simp[go_sem],λo=>by simp only[World.frozen?,heap_alloc_new w4 (cells #[.bool s0,slice x0 n0 c0,slice y0 m0 d0] 24)];simp⟩;have hal:=zB w4 (cells #[.bool s0,slice x0 n0 c0,slice y0 m0 d0] 24);have hne:w.heap.size<w4.heap.size:=OB4.out.z;have ST:=zk hSx;have HB5:=zJ HB4 hal;have HQ5:=zk (HQ4.out.q_ hal);have OB5:=zk (OB4.out.q_ hal)
 clear hSx hal HB4 HQ4 OB4;go_loopw[9] (λt wr=>∃(i:Nat) (acc:Rat) (s:Bool) (x:Option Addr) (n c:Nat) (f:Nat->Int) (y:Option Addr) (m d:Nat) (g:Nat->Int),i<=k/\t=.int .i64 i/\Hid (Bl w wr)/\Hid (Sx wr w4.heap.size s x n c y m d)/\Hid (Ob wr w.heap.size)/\Hid (Rn (4+i*(L+1)) wr s x n c f y m d g acc)/\Hid (psum (p.drop i) acc=psum p 0)) (λt _=>k-(intOf t).toNat)
 case atStart=>exact⟨0,0,s0,x0,n0,c0,f0,y0,m0,d0,g0,by omega,rfl,HB5,ST,OB5,(by show Rn _ _ _ _ _ _ _ _ _ _ _ _;exact HQ5.out.mono (by omega)),rfl⟩
 case round =>
  clear HB5 HQ5 OB5 ST;obtain⟨i,acc,s,x,n,c,f,y,m,d,g,hi,rfl,HB,HS,HO,HQ,HE⟩:=hrel;by_cases hlt:i<k
  ·obtain⟨q,haq⟩:∃t,p[i]?=some t:=⟨_,getElem?_eq_getElem (by omega)⟩;obtain⟨b,o,⟨ts,tx,tn,tc,tf,ty,tm,td,tg⟩,hav,hc,hr⟩:=(H.out.q_ HB.out) i q haq;have hav2:=hav;subst hav2;obtain⟨x0,x1,x2⟩:=hc;replace x0:wr.cell? ⟨b,o+i*3,none⟩=some (.bool ts):=x0;replace x1:wr.cell? ⟨b,o+i*3+1,none⟩=some (slice tx tn tc):=x1;replace x2:wr.cell? ⟨b,o+i*3+2,none⟩=some (slice ty tm td):=x2;have HD:Hid (psum (p.drop (i+1)) (acc+q)=psum p 0):=by
    show _=_;have e1:p.drop i=q :: p.drop (i+1):=by
     have hl:i<p.length:=by omega
     have:p[i]=q:=by rw[getElem?_eq_getElem hl]at haq;exact Option.some.inj haq
     rw[<-this];exact List.drop_eq_getElem_cons hl
    rw[<-HE.out,e1];rfl
   have hb5:=zB wr (cells #[.bool ts,slice tx tn tc,slice ty tm td] 24);have HR1:Hid (Rn L (wr.alloc (cells #[.bool ts,slice tx tn tc,slice ty tm td] 24)) ts tx tn tc tf ty tm td tg q):=Rn.q_ hr hb5;replace HS:=zk (HS.out.q_ hb5);replace HO:=zk (HO.out.q_ hb5);replace HQ:=zk (HQ.out.q_ hb5);replace HB:=zJ HB hb5
   have i2:((i:Nat):Int)<((k:Nat):Int):=by omega
   obtain⟨sz,u0,u1,u2,uf⟩:=HS.out;clear hr haq hav HE hb5;go_wp2_with fail
   clear sz u0 u1 u2 uf x0 x1 x2;generalize wr.alloc (cells #[.bool ts,slice tx tn tc,slice ty tm td] 24)=w5 at *;have hKi:=zfW (i:=i) (L:=L) (by omega) hL;refine(zmU (L:=164000) (HQ.out.mono hKi) (HR1.out.mono (by omega)) (by omega)).mono ?_;rintro e w6 ⟨s6,x6,n6,c6,f6,y6,m6,d6,g6,rfl,hb6,hq6⟩;have S6:=HS.out.q_ hb6;have R1:=zk (zjb (bUp HB.out hb6) S6 (HO.out.q_ hb6) (hq6.cut (K:=4+(i+1)*(L+1)) ((zfu (HQ.out.lo HQ.out.ln HQ.out.ld) (HR1.out.lo HR1.out.ln HR1.out.ld)).mono (by rw[Nat.add_mul];omega))) hne);obtain⟨sz,u0,u1,u2,uf⟩:=S6;clear HS HO HQ HR1 HB hb6 hq6 hKi;go_wp2;go_roundw
   case rel=>exact⟨i+1,acc+q,s6,x6,n6,c6,f6,y6,m6,d6,g6,by omega,by go_num,R1.out.bel,R1.out.sx,R1.out.ob,R1.out.rn,HD.out⟩
   case measure=>simp[intOf];omega
  ·have e1:i=k:=by omega
   have HF:Hid (acc=psum p 0):=by
    show _=_;rw[<-HE.out,e1,<-hk,List.drop_length];rfl
   have i2:¬(((i:Nat):Int)<((k:Nat):Int)):=by omega
   obtain⟨sz,u0,u1,u2,uf⟩:=HS.out;obtain⟨hz,z0,z1,z2,zf⟩:=HO.out;have HKK:Hid (i=k):=e1;clear e1 HE;go_wp2;exact bodyPost_ret (v:=agg #[.bool s,slice x n c,slice y m d]) (by simp[results,results33,go_sem,z0,z1,z2]) rfl ⟨s,x,n,c,f,y,m,d,g,rfl,zU HB.out (by omega),by rw[<-HF.out,<-HKK.out];exact HO.out.rn HQ.out⟩
def zau (P:Program) (md:Region.Mode) (ops:Array Oper) (Q:Exit->Act->World->Prop) (S:World->Prop) (k:Nat):Nat->Array Bool->Act->World->Prop
 | 0,listed,a,w=>Region.ready md ops listed=[]/\Q .normal a w
 | fuel+1,listed,a,w =>
  (Region.ready md ops listed=[]->Q .normal a w) /\
  ∀i ∈ Region.ready md ops listed,wpOp P ops Q i (λa' w'=>((listed.setIfInBounds i true).getD k true=false->S w')/\zau P md ops Q S k fuel (listed.setIfInBounds i true) a' w') a w
theorem zcx {P ops Q md S k}:∀(fuel:Nat) (listed:Array Bool) (a:Act) (w:World),zau P md ops Q S k fuel listed a w->wpAny P md ops Q fuel listed a w
 | 0,_,_,_,h=>h
 | fuel+1,_,_,_,h=>⟨h.1,λi hi=>wpOp_mono (λa' w' h'=>zcx fuel _ a' w' h'.2) (h.2 i hi)⟩
theorem zel {ops md listed i j} (hi:i ∈ Region.ready md ops listed) (hj:j ∈ Region.ready md ops listed) (hd:i ∈ depsOf md ops j):False:=by
 obtain⟨oj,hoj,e,he,hb,rfl⟩:=mem_deps.1 hd;obtain⟨_,oj',hoj',hall⟩:=mem_ready.1 hj;rw[hoj]at hoj'
 cases hoj'
 have h1:=hall e he hb;have h0:=(mem_ready.1 hi).1;rcases Nat.lt_or_ge e.on listed.size with h'|h'
 ·simp[h']at h0 h1;rw[h0]at h1;cases h1
 ·simp[Array.getElem?_eq_none h']at h1
theorem zhz {P ops Q md S k i oi v} (hi:ops[i]?=some oi) (hsel:∀(j:Nat) (o:Oper) cs b,ops[j]?=some o->o.op≠.select cs b) (hQ:∀c a w,Q (.panic c) (a.put oi.dst v) w->Q (.panic c) a w) (hik:i≠k) :
  ∀(fuel:Nat) (listed:Array Bool) (a:Act) (w:World),
   (∀j oj,ops[j]?=some oj->j≠i->listed.getD j true=false->(∀e ∈ oj.after,Region.binds md e=true->e.on≠i)->oi.apart ops oj=true) ->
   i ∈ Region.ready md ops listed->YieldsIf P ops (λ_=>True) oi v a->(listed.getD k true=false->S w) ->
   zau P md ops Q S k fuel (listed.setIfInBounds i true) (a.put oi.dst v) w->zau P md ops Q S k (fuel+1) listed a w:=by
 intro fuel
 induction fuel with
 | zero =>
  intro listed a w _ hr hy hS H;refine⟨λh=>(by rw[h]at hr;cases hr),λj hj=>?_⟩;by_cases hji:j=i
  ·subst hji;exact hy.wpOp hi trivial ⟨λh=>hS (by rw[getD_set_ne true hik]at h;exact h),H⟩
  ·have:=ready_mono hj hji;rw[H.1]at this
   cases this
 | succ fuel ih =>
  intro listed a w hfree hr hy hS H;refine⟨λh=>(by rw[h]at hr;cases hr),λj hj=>?_⟩;by_cases hji:j=i
  ·subst hji;exact hy.wpOp hi trivial ⟨λh=>hS (by rw[getD_set_ne true hik]at h;exact h),H⟩
  ·have h1:=H.2 j (ready_mono hj hji);obtain⟨hjun,oj,hoj,hall⟩:=mem_ready.1 hj;have hnot:∀e ∈ oj.after,Region.binds md e=true->e.on≠i:=λe he hb heq=>zel hr hj (mem_deps.2 ⟨oj,hoj,e,he,hb,heq⟩)
   have h2:=wpOp_putIf hoj (hfree j oj hoj hji hjun hnot) (λcs b=>hsel i oi cs b hi) (λcs b=>hsel j oj cs b hoj) hQ hy h1;have hfree':∀k ok,ops[k]?=some ok->k≠i->(listed.setIfInBounds j true).getD k true=false ->
     (∀e ∈ ok.after,Region.binds md e=true->e.on≠i)->oi.apart ops ok=true:=λk ok hk hki hun hno=>by
    refine hfree k ok hk hki ?_ hno;by_cases hjk:j=k
    ·subst hjk;exact hjun
    ·rw[getD_set_ne true hjk]at hun;exact hun
   have hS':∀w',(((listed.setIfInBounds i true).setIfInBounds j true).getD k true=false->S w')->(listed.setIfInBounds j true).getD k true=false->S w':=λw' h hk=>h (by
    by_cases hjk:j=k
    ·subst hjk;rcases Nat.lt_or_ge j listed.size with h'|h'
     ·simp[h']at hk
     ·simp[Array.getElem?_eq_none h']at hjun
    ·rw[getD_set_ne true hjk]at hk ⊢;rw[getD_set_ne true hik];exact hk)
   refine wpOp_mono (λa' w' h3=>⟨hS' _ h3.2.1,ih (listed.setIfInBounds j true) a' w' hfree' (ready_mono hr (Ne.symm hji)) h3.1 (hS' _ h3.2.1) ?_⟩) h2;rw[Array.setIfInBounds_comm _ _ hji];exact h3.2.2
theorem zaC {P ops Q md S k i oi v fuel listed a w} (hi:ops[i]?=some oi) (hs:Region.noSelect ops=true) (hf:Region.free md ops listed i=true) (hr:(Region.ready md ops listed).contains i=true) (hik:(i==k)=false) (hQ:∀c a w,Q (.panic c) (a.put oi.dst v) w->Q (.panic c) a w) (hy:YieldsIf P ops (λ_=>True) oi v a) (hS:listed.getD k true=false->S w) (h:zau P md ops Q S k fuel (listed.setIfInBounds i true) (a.put oi.dst v) w):zau P md ops Q S k (fuel+1) listed a w :=
 zhz hi (Region.noSelect_spec hs) hQ (by simpa using hik) fuel listed a w (Region.free_spec hi hf) (by simpa using hr) hy hS h
theorem skP {P:Program} {ops:Array Oper} {Q:Exit->Act->World->Prop} {md:Region.Mode} {S:World->Prop} {k:Nat} {oi:Oper} {v:Value} {fuel:Nat} {listed:Array Bool} {a:Act} {w:World} (i:Nat) (h:zau P md ops Q S k fuel (listed.setIfInBounds i true) (a.put oi.dst v) w)
  (hi:ops[i]?=some oi:=by exact rfl) (hy:YieldsIf P ops (λ_=>True) oi v a:=by (refine Or.inl ⟨by rfl,?_⟩;intro w0 hSw;go_simp <;> with_reducible rfl))
  (hs:Region.noSelect ops=true:=by kernel_rfl) (hf:Region.free md ops listed i=true:=by kernel_rfl) (hr:(Region.ready md ops listed).contains i=true:=by kernel_rfl) (hik:(i==k)=false:=by kernel_rfl)
  (hQ:∀c a w,Q (.panic c) (a.put oi.dst v) w->Q (.panic c) a w:=by exact(λ_ _ _ h=>h)) (hS:listed.getD k true=false->S w:=by exact(λ_=>by assumption)):zau P md ops Q S k (fuel+1) listed a w :=
 zaC hi hs hf hr hik hQ hy hS h
def AllReadyP (P:Program) (md:Region.Mode) (ops:Array Oper) (Q:Exit->Act->World->Prop) (S:World->Prop) (k:Nat) (fuel:Nat) (listed:Array Bool) (a:Act) (w:World) (rs:List Nat):Prop :=
 ∀i ∈ rs,wpOp P ops Q i (λa' w'=>((listed.setIfInBounds i true).getD k true=false->S w')/\zau P md ops Q S k fuel (listed.setIfInBounds i true) a' w') a w
theorem AllReadyP.nil {P ops Q md S k fuel listed a w}:AllReadyP P md ops Q S k fuel listed a w []:=λ_ h=>by cases h
theorem AllReadyP.cons {P ops Q md S k fuel listed a w i o rs} (ho:ops[i]?=some o) (h:∀K':Act->World->Prop,Shut (∀a w,((listed.setIfInBounds i true).getD k true=false->S w)->(((listed.setIfInBounds i true).getD k true=false->S w)->zau P md ops Q S k fuel (listed.setIfInBounds i true) a w)->K' a w)->if Region.wanted o (yielded ops a.tmps)=true then Oper.wp P o a w K' Q else K' (a.put o.dst undef) w) (hs:AllReadyP P md ops Q S k fuel listed a w rs):AllReadyP P md ops Q S k fuel listed a w (i :: rs):=λj hj=>by
 rcases List.mem_cons.1 hj with rfl|hj
 ·exact wpOp_step ho (λK' hK=>h K' (λa w hS hW=>hK a w ⟨hS,hW hS⟩))
 ·exact hs j hj
theorem zgs {P ops Q md S k rs fuel listed a w} (hr:Region.ready md ops listed=rs) (hne:rs≠[]) (h:AllReadyP P md ops Q S k fuel listed a w rs):zau P md ops Q S k (fuel+1) listed a w:=⟨λh0=>absurd (hr ▸ h0) hne,hr ▸ h⟩
theorem zhA {P ops Q md S k listed a w} (hr:Region.ready md ops listed=[]) (h:Q .normal a w) :
  ∀fuel,zau P md ops Q S k fuel listed a w
 | 0=>⟨hr,h⟩
 | _+1=>⟨λ_=>h,by rw[hr];simp⟩
theorem rdP {P ops Q md} {S:World->Prop} {k fuel listed a w o} (i:Nat) (h:∀K':Act->World->Prop,Shut (∀a w,((listed.setIfInBounds i true).getD k true=false->S w)->(((listed.setIfInBounds i true).getD k true=false->S w)->zau P md ops Q S k fuel (listed.setIfInBounds i true) a w)->K' a w)->if Region.wanted o (yielded ops a.tmps)=true then Oper.wp P o a w K' Q else K' (a.put o.dst undef) w)
  (ho:ops[i]?=some o:=by exact rfl) (hr:Region.ready md ops listed=[i]:=by kernel_rfl):zau P md ops Q S k (fuel+1) listed a w:=zgs hr (by simp) (AllReadyP.cons ho h AllReadyP.nil)
theorem dnP {P ops Q md} {S:World->Prop} {k fuel listed a w} (h:Q .normal a w) (hr:Region.ready md ops listed=[]:=by kernel_rfl):zau P md ops Q S k fuel listed a w:=zhA hr h fuel
theorem zag {P ops Q S id a w} (k:Nat) (hm:P.follows .mixedOrders=true) (hS:S w.drew) (h:S w.drew->zau P .any ops Q S k ops.size (Array.replicate ops.size false) a w.drew):(Code.region id ops true).wp P Q a w :=
 wp_region_any hm (zcx _ _ _ _ (h hS))
theorem ziQ {P ops Q md S k i oi v} (hi:ops[i]?=some oi) (hsel:∀(j:Nat) (o:Oper) cs b,ops[j]?=some o->o.op≠.select cs b) (hQ:∀c a w,Q (.panic c) (a.put oi.dst v) w->Q (.panic c) a w) (hd:i ∈ zhu md ops ops.size [k]) :
  ∀(fuel:Nat) (listed:Array Bool) (a:Act) (w:World),
   (∀j oj,ops[j]?=some oj->j≠i->listed.getD j true=false->(∀e ∈ oj.after,Region.binds md e=true->e.on≠i)->oi.apart ops oj=true) ->
   i ∈ Region.ready md ops listed->listed.getD k true=false->(∀a b,listed.getD a false=true->b ∈ depsOf md ops a->listed.getD b false=true)->YieldsIf P ops S oi v a->S w ->
   zau P md ops Q S k fuel (listed.setIfInBounds i true) (a.put oi.dst v) w->zau P md ops Q S k (fuel+1) listed a w:=by
 intro fuel
 induction fuel with
 | zero =>
  intro listed a w _ hr _ _ hy hS H;refine⟨λh=>(by rw[h]at hr;cases hr),λj hj=>?_⟩;by_cases hji:j=i
  ·subst hji;exact hy.wpOp hi hS ⟨λ_=>hS,H⟩
  ·have:=ready_mono hj hji;rw[H.1]at this
   cases this
 | succ fuel ih =>
  intro listed a w hfree hr hk hcl hy hS H;refine⟨λh=>(by rw[h]at hr;cases hr),λj hj=>?_⟩;by_cases hji:j=i
  ·subst hji;exact hy.wpOp hi hS ⟨λ_=>hS,H⟩
  ·have h1:=H.2 j (ready_mono hj hji);obtain⟨hjun,oj,hoj,hall⟩:=mem_ready.1 hj;have hil:listed.getD i false=true->False:=λh=>by
    have h0:=(mem_ready.1 hr).1;rcases Nat.lt_or_ge i listed.size with h'|h'
    ·simp[h']at h0 h;rw[h0]at h;cases h
    ·simp[Array.getElem?_eq_none h']at h
   have hjd:∀b,b ∈ depsOf md ops j->listed.getD b false=true:=λb hb=>by
    obtain⟨o',ho',e,he,hb',rfl⟩:=mem_deps.1 hb;obtain⟨_,oj',hoj',hall'⟩:=mem_ready.1 hj;obtain rfl:o'=oj':=Option.some.inj (ho'.symm.trans hoj');exact hall' e he hb'
   have hjk:j≠k:=λe=>by
    subst e;exact hil (zcs hcl ops.size [j] (λa ha b hb=>by simp at ha;subst ha;exact hjd b hb) i hd)
   have hik:i≠k:=λe=>by
    subst e;refine hil (zcs hcl ops.size [i] (λa ha b hb=>?_) i hd);simp at ha;subst ha
    obtain⟨o',ho',e,he,hb',rfl⟩:=mem_deps.1 hb;obtain⟨_,oi',hoi',hall'⟩:=mem_ready.1 hr;obtain rfl:o'=oi':=Option.some.inj (ho'.symm.trans hoi');exact hall' e he hb'
   have hnot:∀e ∈ oj.after,Region.binds md e=true->e.on≠i:=λe he hb heq=>zel hr hj (mem_deps.2 ⟨oj,hoj,e,he,hb,heq⟩)
   have h2:=wpOp_putIf hoj (hfree j oj hoj hji hjun hnot) (λcs b=>hsel i oi cs b hi) (λcs b=>hsel j oj cs b hoj) hQ hy h1;have hfree':∀k ok,ops[k]?=some ok->k≠i->(listed.setIfInBounds j true).getD k true=false ->
     (∀e ∈ ok.after,Region.binds md e=true->e.on≠i)->oi.apart ops ok=true:=λk ok hk hki hun hno=>by
    refine hfree k ok hk hki ?_ hno;by_cases hjk:j=k
    ·subst hjk;exact hjun
    ·rw[getD_set_ne true hjk]at hun;exact hun
   have hk':(listed.setIfInBounds j true).getD k true=false:=by rw[getD_set_ne true hjk];exact hk
   have hk2:((listed.setIfInBounds i true).setIfInBounds j true).getD k true=false:=by rw[getD_set_ne true hjk,getD_set_ne true hik];exact hk
   have hcl':∀a b,(listed.setIfInBounds j true).getD a false=true->b ∈ depsOf md ops a->(listed.setIfInBounds j true).getD b false=true:=λa b ha hb=>by
    by_cases e:a=j
    ·subst e;exact getD_set_true (hjd b hb)
    ·rw[getD_set_ne false (Ne.symm e)]at ha;exact getD_set_true (hcl a b ha hb)
   refine wpOp_mono (λa' w' h3=>⟨λ_=>h3.2.1 hk2,ih (listed.setIfInBounds j true) a' w' hfree' (ready_mono hr (Ne.symm hji)) hk' hcl' h3.1 (h3.2.1 hk2) ?_⟩) h2;rw[Array.setIfInBounds_comm _ _ hji];exact h3.2.2
def zmz (md:Region.Mode) (ops:Array Oper) (listed:Array Bool):Bool:=(List.range listed.size).all (λa=>!(listed.getD a false) || (depsOf md ops a).all (λb=>listed.getD b false))
theorem zmy {md ops listed} (h:zmz md ops listed=true):∀a b,listed.getD a false=true->b ∈ depsOf md ops a->listed.getD b false=true:=λa b ha hb=>by
 rcases Nat.lt_or_ge a listed.size with hl|hl
 ·have:=List.all_eq_true.1 h a (List.mem_range.2 hl);rw[ha]at this
  have h2:=List.all_eq_true.1 (show(depsOf md ops a).all (λb=>listed.getD b false)=true from(by simpa only[Bool.not_true,Bool.false_or]using this)) b hb;exact h2
 ·simp[Array.getElem?_eq_none hl]at ha
theorem zgr {P ops Q md S k i oi v fuel listed a w} (hi:ops[i]?=some oi) (hs:Region.noSelect ops=true) (hf:Region.free md ops listed i=true) (hr:(Region.ready md ops listed).contains i=true) (hd:(zhu md ops ops.size [k]).contains i=true) (hk:listed.getD k true=false) (hc:zmz md ops listed=true) (hQ:∀c a w,Q (.panic c) (a.put oi.dst v) w->Q (.panic c) a w) (hy:YieldsIf P ops S oi v a) (hS:S w) (h:zau P md ops Q S k fuel (listed.setIfInBounds i true) (a.put oi.dst v) w):zau P md ops Q S k (fuel+1) listed a w :=
 ziQ hi (Region.noSelect_spec hs) hQ (by simpa using hd) fuel listed a w (Region.free_spec hi hf) (by simpa using hr) hk (zmy hc) hy hS h
theorem tkP {P:Program} {ops:Array Oper} {Q:Exit->Act->World->Prop} {md:Region.Mode} {S:World->Prop} {k:Nat} {oi:Oper} {v:Value} {fuel:Nat} {listed:Array Bool} {a:Act} {w:World} (i:Nat) (h:zau P md ops Q S k fuel (listed.setIfInBounds i true) (a.put oi.dst v) w)
  (hi:ops[i]?=some oi:=by exact rfl) (hy:YieldsIf P ops S oi v a:=by (refine Or.inl ⟨by rfl,?_⟩;intro w0 hSw;(try dsimp only at hSw);go_simp <;> with_reducible rfl))
  (hs:Region.noSelect ops=true:=by kernel_rfl) (hf:Region.free md ops listed i=true:=by kernel_rfl) (hr:(Region.ready md ops listed).contains i=true:=by kernel_rfl) (hd:(zhu md ops ops.size [k]).contains i=true:=by kernel_rfl) (hk:listed.getD k true=false:=by kernel_rfl) (hc:zmz md ops listed=true:=by kernel_rfl)
  (hQ:∀c a w,Q (.panic c) (a.put oi.dst v) w->Q (.panic c) a w:=by exact(λ_ _ _ h=>h)) (hS:S w:=by assumption):zau P md ops Q S k (fuel+1) listed a w :=
 zgr hi hs hf hr hd hk hc hQ hy hS h
def Gr (K base:Nat) (w:World) (v:Value) (p:List Rat):Prop:=∃T:Nat->Nm,RowG 24 3 base w v p.length (rcells (rls p.length T))/\∀(j:Nat) (q:Rat),p[j]?=some q->Rn K w (T j).s (T j).x (T j).n (T j).c (T j).f (T j).y (T j).m (T j).d (T j).g q
theorem zhe (K base:Nat) (w:World):Gr K base w (slice none 0 0) []:=⟨λ_=>⟨false,none,0,0,λ_=>0,none,0,0,λ_=>0⟩,zak _ _ _ _,λj q h=>by simp at h⟩
theorem Gr.q_ {K base w w' v p} (h:Gr K base w v p) (hb:Bl w w'):Gr K base w' v p:=by
 obtain⟨T,h1,h2⟩:=h;exact⟨T,h1.q_ hb,λj q e=>(h2 j q e).q_ hb⟩
theorem zeS {K base w0 w' p T g cap s x n c f y m d gg q} (hT:∀(j:Nat) (q:Rat),p[j]?=some q->Rn K w0 (T j).s (T j).x (T j).n (T j).c (T j).f (T j).y (T j).m (T j).d (T j).g q) (hr:RowG 24 3 base w' (slice (some ⟨g,0,none⟩) (p.length+1) cap) (p.length+1) (rcells (rls p.length T)++#[Value.bool s,slice x n c,slice y m d].toList)) (hk:Kp w0 w') (hq:Rn K w0 s x n c f y m d gg q):Gr K base w' (slice (some ⟨g,0,none⟩) (p.length+1) cap) (p++[q]):=by
 refine⟨zaE T p.length ⟨s,x,n,c,f,y,m,d,gg⟩,?_,λj q' e=>?_⟩
 ·rw[List.length_append,List.length_singleton,zcO];exact hr
 ·by_cases hj:j<p.length
  ·rw[List.getElem?_append_left hj]at e
   rw[putN_ne (by omega)];exact Rn.kp (hT j q' e) hk
  ·rw[List.getElem?_append_right (by omega)]at e
   have h0:j-p.length=0:=by
    rcases Nat.eq_zero_or_pos (j-p.length)with h|h
    ·exact h
    ·rw[List.getElem?_eq_none (by simp;omega)]at e;cases e
   have hjj:j=p.length:=by omega
   subst hjj;rw[h0]at e
   cases e
   rw[zbt];exact Rn.kp hq hk
theorem Gr.rf {K base w ao n cap p} (h:Gr K base w (.slice ao n cap) p):Rf K w ao p:=λj q hj=>by
 obtain⟨T,h1,h2⟩:=h;have hl:j<p.length:=by
  rcases Nat.lt_or_ge j p.length with h|h
  ·exact h
  ·rw[List.getElem?_eq_none h]at hj;cases hj
 have hn:n=p.length:=by
  obtain⟨ao',cap',e⟩:=h1.slice;cases e;rfl
 subst hn;obtain⟨b,e,hc⟩:=zci h1 hl;exact⟨b,0,T j,e,hc,h2 j q hj⟩
theorem Gr.slice {K base w v p} (h:Gr K base w v p):∃ao cap,v=.slice ao p.length cap/\p.length<=cap/\cap<=9223372036854775807:=by
 obtain⟨T,h1,h2⟩:=h;obtain⟨ao,cap,rfl⟩:=h1.slice;refine⟨ao,cap,rfl,?_⟩;rcases h1.2 with⟨hv,h0⟩|⟨_,_,_,hv,_,_,h5,h6,_⟩
 ·injection hv with _ e2 e3;omega
 ·injection hv with _ _ e3;subst e3;unfold maxLen at h6;omega
def zej (xs:List Rat) (t:Int × Rat):Rat:=t.2*xs.getD t.1.toNat 0
def zbL (xs:List Rat) (r:RV):Rat:=psum (r.ts.map (zej xs)) 0
def KA (L:Nat):Nat:=4+64*(2*L+1+1)
theorem zdf {α β:Type} (f:α->β) (l:List α) (i:Nat) (v:α) (h:l[i]?=some v):(l.take (i+1)).map f=(l.take i).map f++[f v]:=by
 rw[List.take_add_one,h,List.map_append];rfl
theorem zaP {α β:Type} (f:α->β) (l:List α) (i:Nat) (h:i<=l.length):((l.take i).map f).length=i:=by simp;omega
theorem zor {w L M off cs rs ao k cap xs} (h:MoV L w M off cs rs) (hx:Rf L w ao xs) (hk:xs.length=k) (hcol:∀r ∈ rs,∀t ∈ r.ts,0<=t.1/\t.1<(k:Int)) (hrk:rs.length<=64) (htk:∀r ∈ rs,r.ts.length<=64) (hL:L<=100) :
  Calls prog 105 #[M.val,slice ao k cap] w λe w'=>∃a c,e=.returned (slice a rs.length c)/\Bl w w'/\(rs.length<=c/\c<=9223372036854775807)/\Hid (Rf (KA L) w' a (rs.map (zbL xs))):=by
 have hrk2:=h.rk;have hR:=h.rls;clear h;obtain⟨⟨s,x,n,c,f,y,m,d,g⟩,ca,ck,cc,C,ra,rk,rc,R⟩:=M;replace hrk2:rk=rs.length:=hrk2;have HR:Hid (∀j v,rs[j]?=some v->(∃b o,ra=some ⟨b,o,none⟩/\Cs w b (o+j*10) (R j).vs)/\RowV L w (R j) v):=hR;subst hrk2;have HX:=zk hx;have HCol:=zk hcol;have HTk:=zk htk
 clear hR hx hcol htk;have hb0:=zB w (cells #[.bool s,slice x n c,slice y m d,slice ca ck cc,slice ra rs.length rc] 28);have HB0:=zk hb0;obtain⟨-,-,-,-,k4⟩:=bk5 (zF w [.bool s,slice x n c,slice y m d,slice ca ck cc,slice ra rs.length rc] 28);clear hb0;show Calls prog 105 #[agg #[.bool s,slice x n c,slice y m d,slice ca ck cc,slice ra rs.length rc],slice ao k cap] w _;go_enter func105,ntmps105;go_wp2_with fail
 generalize w.alloc (cells #[.bool s,slice x n c,slice y m d,slice ca ck cc,slice ra rs.length rc] 28)=w0 at *;go_loopw[5,14] (λov t wr=>∃(i:Nat),i<=rs.length/\t=.int .i64 i/\Hid (Bl w wr)/\Hid (Gr (KA L) w.heap.size wr ov ((rs.take i).map (zbL xs)))) (λ_ t _=>rs.length-(intOf t).toNat)
 case atStart=>exact⟨0,by omega,rfl,HB0,zhe _ _ _⟩
 case round =>
  clear k4 HB0;obtain⟨i,hi,rfl,HB,HG⟩:=hrel;by_cases hlt:i<rs.length
  ·obtain⟨v,hv⟩:∃t,rs[i]?=some t:=⟨_,getElem?_eq_getElem (by omega)⟩;have hvm:=List.mem_of_getElem? hv;obtain⟨⟨b,o,hra,hc⟩,hRV⟩:=HR.out i v hv;subst hra;obtain⟨⟨z,⟨i1,⟨s1,x1,n1,c1,f1,y1,m1,d1,g1⟩⟩,⟨i2,⟨s2,x2,n2,c2,f2,y2,m2,d2,g2⟩⟩,ta,tk,tc,tcol,tt⟩,hCi⟩:∃t,R i=t:=⟨_,rfl⟩;rw[hCi]at hc hRV
   replace hc:=Cs.q_ hc HB.out;obtain⟨q0,q1,q2,q3,q4,q5,q6,q7,q8,q9⟩:=hc.lr;have hb1:=zB wr (cells #[.string z,.int .i64 i1,.bool s1,slice x1 n1 c1,slice y1 m1 d1,.int .i64 i2,.bool s2,slice x2 n2 c2,slice y2 m2 d2,slice ta tk tc] 63);obtain⟨-,-,-,-,-,-,-,-,-,b9⟩:=zeh (zF wr [.string z,.int .i64 i1,.bool s1,slice x1 n1 c1,slice y1 m1 d1,.int .i64 i2,.bool s2,slice x2 n2 c2,slice y2 m2 d2,slice ta tk tc] 63);have HTS:Hid (∀p z q,v.ts[p]?=some (z,q)->tcol p=z/\NmV L w (tt p) q/\∃b o,ta=some ⟨b,o,none⟩/\C4 w b (o+p*4) (.int .i64 (tcol p)) (.bool (tt p).s) (.slice (tt p).x (tt p).n (tt p).c) (.slice (tt p).y (tt p).m (tt p).d)):=hRV.tl;have htk2:tk=v.ts.length:=hRV.tk;subst htk2;have htk3:=HTk.out v hvm;have HC2:=zk (HCol.out v hvm);have HV:=zk hv;have HB1:=zJ HB hb1;have HG1:=zk (HG.out.q_ hb1)
   have i1':((i:Nat):Int)<((rs.length:Nat):Int):=by omega
   clear hCi hc hRV hb1 hv hvm HB HG;go_wp2_with fail
   clear q0 q1 q2 q3 q4 q5 q6 q7 q8 q9;generalize wr.alloc (cells #[.string z,.int .i64 i1,.bool s1,slice x1 n1 c1,slice y1 m1 d1,.int .i64 i2,.bool s2,slice x2 n2 c2,slice y2 m2 d2,slice ta v.ts.length tc] 63)=wI at *;clear b9;go_loopw[8,21] (λvv t wz=>∃(p:Nat),p<=v.ts.length/\t=.int .i64 p/\Hid (Bl wI wz)/\Hid (Gr (2*L+1) wI.heap.size wz vv ((v.ts.take p).map (zej xs)))) (λ_ t _=>v.ts.length-(intOf t).toNat)
   case atStart=>exact⟨0,by omega,rfl,Below.refl _ _,zhe _ _ _⟩
   case round =>
    obtain⟨p,hp,rfl,HB2,HG2⟩:=hrel;by_cases hlp:p<v.ts.length
    ·obtain⟨⟨tz,tq⟩,htv⟩:∃t,v.ts[p]?=some t:=⟨_,getElem?_eq_getElem (by omega)⟩;obtain⟨h1,h2,b2,o2,hta,h4⟩:=HTS.out p tz tq htv;obtain⟨hz0,hz1⟩:=HC2.out (tz,tq) (List.mem_of_getElem? htv);replace hz0:0<=tz:=hz0;replace hz1:tz<(k:Int):=hz1;obtain⟨zn,rfl⟩:=Int.eq_ofNat_of_zero_le hz0;subst hta;obtain⟨r,hr⟩:∃t,xs[zn]?=some t:=⟨_,getElem?_eq_getElem (by omega)⟩;have hbz:=bUp HB1.out HB2.out;obtain⟨b',o',⟨ss,sx,sn,sc,sf,sy,sm,sd,sg⟩,hax,⟨p0,p1,p2⟩,hr'⟩:=(HX.out.q_ hbz) zn r hr;subst hax;obtain⟨⟨ts,tx,tn,tc2,tf,ty,tm,td,tg⟩,hTp⟩:∃t,tt p=t:=⟨_,rfl⟩;rw[hTp,h1]at h4
     rw[hTp]at h2
     obtain⟨x0,x1,x2,x3⟩:=h4.q_ hbz;replace x0:wr.cell? ⟨b2,o2+p*4,none⟩=some (.int .i64 zn):=x0;replace x1:wr.cell? ⟨b2,o2+p*4+1,none⟩=some (.bool ts):=x1;replace x2:wr.cell? ⟨b2,o2+p*4+2,none⟩=some (slice tx tn tc2):=x2;replace x3:wr.cell? ⟨b2,o2+p*4+3,none⟩=some (slice ty tm td):=x3;replace p0:wr.cell? ⟨b',o'+zn*3,none⟩=some (.bool ss):=p0;replace p1:wr.cell? ⟨b',o'+zn*3+1,none⟩=some (slice sx sn sc):=p1;replace p2:wr.cell? ⟨b',o'+zn*3+2,none⟩=some (slice sy sm sd):=p2;have h2r:Rn L w ts tx tn tc2 tf ty tm td tg tq:=h2;have hr2:Rn L wr ss sx sn sc sf sy sm sd sg r:=hr';have hbt:=zB wr (cells #[.int .i64 zn,.bool ts,slice tx tn tc2,slice ty tm td] 65);obtain⟨a0,a1,a2,a3⟩:=bk4 (zF wr [.int .i64 zn,.bool ts,slice tx tn tc2,slice ty tm td] 65);have i2':((p:Nat):Int)<((v.ts.length:Nat):Int):=by omega
     have i3':((zn:Nat):Int)<((k:Nat):Int):=by omega
     have HTV:=zk htv;have HRR:=zk hr
     clear htv hr hz0 hz1 h1 h2 h4 hTp hr';go_upto_region 9 with fail
     clear x0 x1 x2 x3;replace p0:=kCb hbt p0;replace p1:=kCb hbt p1;replace p2:=kCb hbt p2
     have HB3:=zJ HB2 hbt;have HG3:=zk (HG2.out.q_ hbt);have R1:=zk ((h2r.q_ hbz).q_ hbt);have R2:=zk (hr2.q_ hbt)
     clear hbz hbt h2r hr2 HB2 HG2;generalize hbx:wr.heap.size=bx at *;generalize wr.alloc (cells #[.int .i64 zn,.bool ts,slice tx tn tc2,slice ty tm td] 65)=w5 at *;clear hbx;refine zag (S:=(λw'=>w'.cell? ⟨bx,0,none⟩=some (.int .i64 zn)/\w'.cell? ⟨bx,1,none⟩=some (.bool ts)/\w'.cell? ⟨bx,2,none⟩=some (slice tx tn tc2)/\w'.cell? ⟨bx,3,none⟩=some (slice ty tm td)/\w'.cell? ⟨b',o'+zn*3,none⟩=some (.bool ss)/\w'.cell? ⟨b',o'+zn*3+1,none⟩=some (slice sx sn sc)/\w'.cell? ⟨b',o'+zn*3+2,none⟩=some (slice sy sm sd))) 8 (by kernel_rfl) ⟨kCd a0,kCd a1,kCd a2,kCd a3,kCd p0,kCd p1,kCd p2⟩ (λhHeld=>?_);refine skP 0 ?_;refine skP 1 ?_;refine tkP 2 ?_;simp only[zA,Act.put];refine skP 3 ?_;refine skP 4 ?_;refine tkP 5 ?_;simp only[zA,Act.put];refine skP 6 ?_;refine tkP 7 ?_;simp only[zA,Act.put];refine rdP 8 (λK hK=>?_);go_simp
     go_at_call 127
     refine(znb (L:=L) (zrD R1.out) (zrD R2.out) (by omega)).mono ?_;rintro e w6 ⟨s6,x6,n6,c6,f6,y6,m6,d6,g6,rfl,hb6,hq6⟩
     (try go_wp2_with fail)
     refine hK.out _ _ (λh=>by cases h) (λ_=>?_);clear hK K;try simp only[zA,Act.put]
     refine rdP 9 (λK hK=>?_);go_simp;refine hK.out _ _ (λh=>by cases h) (λ_=>?_);clear hK K;try simp only[zA,Act.put]
     refine rdP 10 (λK hK=>?_);obtain⟨T,hrow,hT⟩:=(Gr.q_ HG3.out (Below.drew (Below.refl w5.heap.size w5))).q_ hb6;rw[zaP _ _ _ (by omega)]at hrow
     refine zaY w6 rfl (.tmp 25) (.tmp 34) 29 rfl wI.heap.size 24 56 3 (agg #[.bool false,slice none 0 0,slice none 0 0]) underlying29 zaR rfl (by decide) nz3 u8 p _ rfl hrow #[.bool s6,slice x6 n6 c6,slice y6 m6 d6] rfl rfl (zdp _ _ _ _ _ _ _) (zcD _ _ _ _ _ _ _) (by omega) (by decide) ?hz ?_
     case hz=>exact(HB3.out.drew.trans (hb6.mono HB3.out.drew.size)).size
     intro g8 cap8 w8 hr8 hk8 hb8 hg8;have HB8:Hid (Bl wI w8):=hb8 wI (HB3.out.drew.trans (hb6.mono HB3.out.drew.size)) (le_refl _);have HG8:Hid (Gr (2*L+1) wI.heap.size w8 (slice (some ⟨g8,0,none⟩) (p+1) cap8) ((v.ts.take (p+1)).map (zej xs))):=by
      have hl:=zaP (zej xs) v.ts p (by omega);have hp8:=zeS (p:=(v.ts.take p).map (zej xs)) hT (by rw[hl];exact hr8) hk8 hq6;rw[hl]at hp8
      rw[zdf (zej xs) v.ts p _ HTV.out];have e9:zej xs ((zn:Int),tq)=tq*r:=by
       show tq*xs.getD (zn:Int).toNat 0=tq*r;rw[Int.toNat_natCast,List.getD_eq_getElem?_getD,HRR.out];rfl
      rw[e9];exact hp8
     clear hr8 hk8 hb8 hg8 hrow hT hb6 hq6 HG3 HB3 R1 R2;refine hK.out _ _ (λh=>by cases h) (λ_=>?_);clear hK K;simp only[List.getElem_toArray,List.getElem_cons_succ,List.getElem_cons_zero,Act.put,List.setIfInBounds_toArray,List.set_cons_zero,List.set_cons_succ];refine zaC (i:=11) (v:=?_) rfl (by kernel_rfl) (by kernel_rfl) (by kernel_rfl) (by kernel_rfl) (λ_ _ _ h=>h) (Or.inl ⟨by rfl,?_⟩) (λh=>by cases h) ?_;rotate_left
     (focus (intro w0 hSw;go_simp <;> with_reducible rfl))
     simp only[List.getElem_toArray,List.getElem_cons_succ,List.getElem_cons_zero,Act.put,List.setIfInBounds_toArray,List.set_cons_zero,List.set_cons_succ];refine dnP ?_;clear hHeld a0 a1 a2 a3 p0 p1 p2;go_wp2;go_roundw
     case rel=>exact⟨p+1,by omega,by go_num,HB8.out,HG8.out⟩
     case measure=>simp[intOf];omega
    ·have e1:p=v.ts.length:=by omega
     have i4':¬(((p:Nat):Int)<((v.ts.length:Nat):Int)):=by omega
     obtain⟨va,vc,hvs,hvc⟩:=HG2.out.slice;rw[zaP _ _ _ (by omega)]at hvs
     have HG4:=HG2.out;rw[hvs]at HG4
     replace HG4:=zk (show Rf (2*L+1) wr va (v.ts.map (zej xs)) by have:=HG4.rf;rw[List.take_of_length_le (by omega)]at this;exact this);subst hvs;have HBq:=zJ HB1 HB2.out;have HGq:=zk (HG1.out.q_ HB2.out)
     clear HG2 HB2 HB1 HG1 HTS HC2;go_wp2_with fail
     refine(zne (L:=2*L+1) HG4.out (by rw[List.length_map]) (by omega) (by omega)).mono ?_;rintro e w6 ⟨s6,x6,n6,c6,f6,y6,m6,d6,g6,rfl,hb6,hq6⟩;obtain⟨T,hrow,hT⟩:=HGq.out.q_ hb6;rw[zaP _ _ _ (by omega)]at hrow
     have hsz:=(bUp HBq.out hb6).size;have HB6:=zJ HBq hb6;have HQ6:=zk (show Rn (KA L) w6 s6 x6 n6 c6 f6 y6 m6 d6 g6 (zbL xs v)from hq6.mono (by unfold KA;have:v.ts.length*(2*L+1+1)<=64*(2*L+1+1):=Nat.mul_le_mul_right _ (by omega);omega));clear hb6 hq6 HGq HG4 HBq;go_wp2_with(at_builtin;go_must (refine zO w6 rfl (.tmp 37) (.tmp 40) 29 rfl w.heap.size 24 56 3 (agg #[.bool false,slice none 0 0,slice none 0 0]) underlying29 zaR rfl (by decide) nz3 u5 i _ rfl hrow #[.bool s6,slice x6 n6 c6,slice y6 m6 d6] rfl rfl (zdp _ _ _ _ _ _ _) (zcD _ _ _ _ _ _ _) ?p1 (by decide) hsz ?_))
     case p1=>omega
     intro g8 cap8 w8 hr8 hk8 hb8 hg8;have HB8:=zk (hb8 w HB6.out (le_refl _));have HG8:Hid (Gr (KA L) w.heap.size w8 (slice (some ⟨g8,0,none⟩) (i+1) cap8) ((rs.take (i+1)).map (zbL xs))):=by
      have hl:=zaP (zbL xs) rs i (by omega);have hp8:=zeS (p:=(rs.take i).map (zbL xs)) hT (by rw[hl];exact hr8) hk8 HQ6.out;rw[hl]at hp8
      rw[zdf (zbL xs) rs i _ HV.out];exact hp8
     clear hr8 hk8 hb8 hg8 hrow hT HQ6 HB6 hsz;go_wp2;go_roundw
     case rel=>exact⟨i+1,by omega,by go_num,HB8.out,HG8.out⟩
     case measure=>simp[intOf];omega
  ·have e1:i=rs.length:=by omega
   have i4':¬(((i:Nat):Int)<((rs.length:Nat):Int)):=by omega
   obtain⟨va,vc,hvs,hvc⟩:=HG.out.slice;rw[zaP _ _ _ (by omega)]at hvs hvc
   have HG4:=HG.out;rw[hvs]at HG4
   replace HG4:=zk (show Rf (KA L) wr va (rs.map (zbL xs)) by have:=HG4.rf;rw[List.take_of_length_le (by omega)]at this;exact this);subst hvs;have HE:=zk (show rs.length=i by omega);have HV4:=zk hvc;clear HG e1 hvc;go_wp2;go_ret;exact⟨va,vc,by rw[HE.out];rfl,HB.out,by rw[HE.out];exact HV4.out,HG4.out⟩
theorem ztp {w B a0 a1 a2 a3 b0 b1 b2 b3} (h:Li2 w B a0 a1 a2 a3 b0 b1 b2 b3):Li2 w.drew B a0 a1 a2 a3 b0 b1 b2 b3:=⟨h.z,h.x0,h.x1,h.x2,h.x3,h.y0,h.y1,h.y2,h.y3⟩
theorem enumber_c {w s x n c y m d}:Calls prog 100 #[agg #[.bool s,slice x n c,slice y m d]] w λe w'=>e=.returned (agg #[.int .i64 0,.bool s,slice x n c,slice y m d])/\Bl w w':=by
 have h1:=(zbs w (.bool s) (slice x n c) (slice y m d) 24).alloc (cells #[.int .i64 0,.bool false,slice none 0 0,slice none 0 0] 40);have h2:=zba (w.alloc (cells #[.bool s,slice x n c,slice y m d] 24)) 40;rw[zw]at h2
 have h3:=zu (zB w (cells #[.bool s,slice x n c,slice y m d] 24)) (cells #[.int .i64 0,.bool false,slice none 0 0,slice none 0 0] 40);go_enter func100,ntmps100;go_upto_region 1 with fail
 generalize(w.alloc (cells #[.bool s,slice x n c,slice y m d] 24)).alloc (cells #[.int .i64 0,.bool false,slice none 0 0,slice none 0 0] 40)=w1 at *;have HW:=zk h3;obtain⟨z,x0,x1,x2⟩:=h1;obtain⟨hz,z0,z1,z2,z3,zf⟩:=h2;clear h3;go_wp2;exact bodyPost_ret (v:=agg #[.int .i64 0,.bool s,slice x n c,slice y m d]) (by simp[results,results100,go_sem,z0,z1,z2,z3]) rfl ⟨rfl,zZ HW.out (by omega)⟩
theorem ef0 (s:Bool) (f:Nat->Int) (n:Nat) (g:Nat->Int) (m:Nat):efB 0 s f n g m=rfB s f n g m:=by simp[efB]
theorem Rn.en0 {L w s x n c f y m d g q} (h:Rn L w s x n c f y m d g q):En L w 0 s x n c f y m d g q:=⟨h,.inl rfl⟩
def zrT (i:Int) (a r:Rat) (neg:Bool) (j:Int) (q:Rat):Prop:=j=(if neg then -i else i)/\q=a*r
def ks (p:Bool) (n2:Nat):Int:=if p then (if n2=0 then 4 else 0) else 3
theorem znR {w i1 s1 x1 n1 c1 f1 y1 m1 d1 g1 i2 s2 x2 n2 c2 f2 y2 m2 d2 g2 qa qb p1 p2} (h1:Rw w x1 n1 c1 f1 y1 m1 d1 g1) (h2:Rw w x2 n2 c2 f2 y2 m2 d2 g2) (hn1:n1<=4096) (hm1:m1<=4096) (hn2:n2<=4096) (hm2:m2<=4096) (hp1:efB i1 s1 f1 n1 g1 m1=p1) (hp2:efB i2 s2 f2 n2 g2 m2=p2) (hq1:p1=true->En 4096 w i1 s1 x1 n1 c1 f1 y1 m1 d1 g1 qa) (hq2:p2=true->En 4096 w i2 s2 x2 n2 c2 f2 y2 m2 d2 g2 qb) :
  Calls prog 126 #[agg #[.int .i64 i1,.bool s1,slice x1 n1 c1,slice y1 m1 d1],agg #[.int .i64 i2,.bool s2,slice x2 n2 c2,slice y2 m2 d2]] w λe w'=>∃r er,e=.returned (.tuple #[.int .i64 r,.int .i64 er])/\Bl w w'/\Hid (OC (p1 && p2) i1 qa i2 qb r er):=by
 have HP1:=zk hp1;have HP2:=zk hp2
 have k1:=(zaT w (.int .i64 i1) (.bool s1) (slice x1 n1 c1) (slice y1 m1 d1) 40).alloc (cells #[.int .i64 i2,.bool s2,slice x2 n2 c2,slice y2 m2 d2] 40);have k2:=zaT (w.alloc (cells #[.int .i64 i1,.bool s1,slice x1 n1 c1,slice y1 m1 d1] 40)) (.int .i64 i2) (.bool s2) (slice x2 n2 c2) (slice y2 m2 d2) 40;rw[zw]at k2
 have k3:=zu (zB w (cells #[.int .i64 i1,.bool s1,slice x1 n1 c1,slice y1 m1 d1] 40)) (cells #[.int .i64 i2,.bool s2,slice x2 n2 c2,slice y2 m2 d2] 40);have HQ1:=zk (λh=>(hq1 h).q_ k3);have HQ2:=zk (λh=>(hq2 h).q_ k3);have HR1:=zk (h1.q_ k3);have HR2:=zk (h2.q_ k3)
 clear hp1 hp2 hq1 hq2 h1 h2;go_enter func126,ntmps126;go_upto_region 1 with fail
 generalize(w.alloc (cells #[.int .i64 i1,.bool s1,slice x1 n1 c1,slice y1 m1 d1] 40)).alloc (cells #[.int .i64 i2,.bool s2,slice x2 n2 c2,slice y2 m2 d2] 40)=w1 at *;have HW:=zk k3;have BA:=zk k1;have BB:=zk k2
 clear k1 k2 k3;obtain⟨za,a0,a1,a2,a3⟩:=BA.out;obtain⟨zb,b0,b1,b2,b3⟩:=BB.out;go_wp2_with fail
 have cf:=λ(t:TypeId)=>zfI (zny w1 (.int .i64 i1) (.bool s1) (slice x1 n1 c1) (slice y1 m1 d1) (.int .i64 i2) (.bool s2) (slice x2 n2 c2) (slice y2 m2 d2) t) (HR1.out.alloc _) (HR2.out.alloc _) (by omega) (by omega) (by omega) (by omega)
 rw[HP1.out,HP2.out]at cf
 refine(cf _).mono ?_;rintro e w2 ⟨rfl,hb⟩;have HB1:Hid (Bl w1 w2):=(zu (Below.refl _ _) _).trans (hb.mono (by simp));have HB:=zJ HW HB1.out;clear hb cf za a0 a1 a2 a3 zb b0 b1 b2 b3;obtain⟨pp,hp⟩:∃pp,(p1 && p2)=pp:=⟨_,rfl⟩;have HPP:=zk hp;rw[hp];cases pp
 ·clear hp;go_wp2
  go_ret2
  exact⟨0,3,rfl,HB.out,.inl ⟨HPP.out,rfl,rfl⟩⟩
 have hpp:p1=true/\p2=true:=by simpa using hp
 have E1:=zk ((HQ1.out hpp.1).q_ HB1.out);have E2:=zk ((HQ2.out hpp.2).q_ HB1.out)
 clear hp hpp;obtain⟨za,a0,a1,a2,a3⟩:=BA.out.q_ HB1.out;obtain⟨zb,b0,b1,b2,b3⟩:=BB.out.q_ HB1.out;by_cases hz:i1=0/\i2=0
 ·obtain⟨rfl,rfl⟩:=hz;go_wp2_with fail
  refine(zrk E1.out.rn E2.out.rn (by omega)).mono ?_;rintro e w3 ⟨r,rfl,hb,hr⟩;have HB3:=zJ HB hb;have HRr:=zk hr
  clear hb hr;go_wp2
  go_ret2
  refine⟨r,0,rfl,HB3.out,.inr ⟨HPP.out,rfl,?_⟩⟩;rcases HRr.out with⟨j1,j2⟩|⟨j1,j2⟩|⟨j1,j2⟩
  ·exact .inl ⟨j1,.inr ⟨rfl,j2⟩⟩
  ·exact .inr (.inl ⟨j1,rfl,j2⟩)
  ·exact .inr (.inr ⟨j1,.inr ⟨rfl,j2⟩⟩)
 ·have hcase:(i1 != 0)=true∨(i1 != 0)=false/\(i2 != 0)=true:=by
   by_cases h:i1=0
   ·right;subst h;exact⟨by simp,by simp;intro h;exact hz ⟨rfl,h⟩⟩
   ·left;simp;exact h
  have HEq:Hid (i1=i2->qa=qb):=by
   intro h;have j1:=E1.out.inf;have j2:=E2.out.inf
   rcases j1 with j1|j1
   ·exact absurd ⟨j1,by omega⟩ hz
   ·rcases j2 with j2|j2
    ·exact absurd ⟨by omega,j2⟩ hz
    ·rw[j1.2,j2.2]
  clear hz;rcases hcase with hc|⟨hc,hc2⟩
  all_goals
   go_wp2_with fail
   refine compare_c.mono ?_;rintro e w3 ⟨r,rfl,rfl,hr⟩;have HRr:=zk hr;clear hr;go_wp2
   go_ret2
   refine⟨r,0,rfl,HB.out,.inr ⟨HPP.out,rfl,?_⟩⟩;rcases HRr.out with⟨j1,j2⟩|⟨j1,j2⟩|⟨j1,j2⟩
   ·exact .inl ⟨j1,.inl j2⟩
   ·exact .inr (.inl ⟨j1,j2,HEq.out j2⟩)
   ·exact .inr (.inr ⟨j1,.inl j2⟩)
def zjn (q:Rat) (li:Int) (lq:Rat) (hi:Int) (hq:Rat):Bool:=decide ((li<0∨li=0/\lq<=q)/\(0<hi∨hi=0/\q<=hq))
theorem EOrd.geq {c q i b} (h:EOrd c 0 q i b):0<=c ↔ (i<0∨i=0/\b<=q):=by
 rcases h with⟨rfl,h⟩|⟨rfl,h,h'⟩|⟨rfl,h⟩
 ·constructor
  ·intro h;omega
  ·rintro(h2|⟨h2,h3⟩)
   ·rcases h with h|⟨h,_⟩ <;> omega
   ·rcases h with h|⟨_,h⟩
    ·omega
    ·exact absurd h (Rat.not_lt.2 h3)
 ·exact⟨λ_=>.inr ⟨h.symm,by rw[h'];exact Rat.le_refl⟩,λ_=>by omega⟩
 ·exact⟨λ_=>by rcases h with h|⟨h,h2⟩;exact .inl h;exact .inr ⟨h.symm,Rat.le_of_lt h2⟩,λ_=>by omega⟩
theorem EOrd.leq {c q i b} (h:EOrd c 0 q i b):c<=0 ↔ (0<i∨i=0/\q<=b):=by
 rcases h with⟨rfl,h⟩|⟨rfl,h,h'⟩|⟨rfl,h⟩
 ·exact⟨λ_=>by rcases h with h|⟨h,h2⟩;exact .inl h;exact .inr ⟨h.symm,Rat.le_of_lt h2⟩,λ_=>by omega⟩
 ·exact⟨λ_=>.inr ⟨h.symm,by rw[h'];exact Rat.le_refl⟩,λ_=>by omega⟩
 ·constructor
  ·intro h;omega
  ·rintro(h2|⟨h2,h3⟩)
   ·rcases h with h|⟨h,_⟩ <;> omega
   ·rcases h with h|⟨_,h⟩
    ·omega
    ·exact absurd h (Rat.not_lt.2 h3)
theorem zky {w s0 x0 n0 c0 f0 y0 m0 d0 g0 q i1 s1 x1 n1 c1 f1 y1 m1 d1 g1 q1 i2 s2 x2 n2 c2 f2 y2 m2 d2 g2 q2} (h0:Rn 4096 w s0 x0 n0 c0 f0 y0 m0 d0 g0 q) (h1:En 4096 w i1 s1 x1 n1 c1 f1 y1 m1 d1 g1 q1) (h2:En 4096 w i2 s2 x2 n2 c2 f2 y2 m2 d2 g2 q2) :
  Calls prog 104 #[agg #[.bool s0,slice x0 n0 c0,slice y0 m0 d0],agg #[.int .i64 i1,.bool s1,slice x1 n1 c1,slice y1 m1 d1],agg #[.int .i64 i2,.bool s2,slice x2 n2 c2,slice y2 m2 d2]] w λe w'=>e=.returned (.bool (zjn q i1 q1 i2 q2))/\Bl w w':=by
 have k3:=zu (zu (zu (zB w (cells #[.bool s0,slice x0 n0 c0,slice y0 m0 d0] 24)) (cells #[.int .i64 i1,.bool s1,slice x1 n1 c1,slice y1 m1 d1] 40)) (cells #[.int .i64 i2,.bool s2,slice x2 n2 c2,slice y2 m2 d2] 40)) (cells #[.int .i64 0,.bool s0,slice x0 n0 c0,slice y0 m0 d0] 40);have b1:Bx4 ((((w.alloc (cells #[.bool s0,slice x0 n0 c0,slice y0 m0 d0] 24)).alloc (cells #[.int .i64 i1,.bool s1,slice x1 n1 c1,slice y1 m1 d1] 40)).alloc (cells #[.int .i64 i2,.bool s2,slice x2 n2 c2,slice y2 m2 d2] 40)).alloc (cells #[.int .i64 0,.bool s0,slice x0 n0 c0,slice y0 m0 d0] 40)) (w.heap.size+1) (.int .i64 i1) (.bool s1) (slice x1 n1 c1) (slice y1 m1 d1):=by
  have:=((zaT (w.alloc (cells #[.bool s0,slice x0 n0 c0,slice y0 m0 d0] 24)) (.int .i64 i1) (.bool s1) (slice x1 n1 c1) (slice y1 m1 d1) 40).alloc (cells #[.int .i64 i2,.bool s2,slice x2 n2 c2,slice y2 m2 d2] 40)).alloc (cells #[.int .i64 0,.bool s0,slice x0 n0 c0,slice y0 m0 d0] 40);rw[zw]at this;exact this
 have b2:Bx4 ((((w.alloc (cells #[.bool s0,slice x0 n0 c0,slice y0 m0 d0] 24)).alloc (cells #[.int .i64 i1,.bool s1,slice x1 n1 c1,slice y1 m1 d1] 40)).alloc (cells #[.int .i64 i2,.bool s2,slice x2 n2 c2,slice y2 m2 d2] 40)).alloc (cells #[.int .i64 0,.bool s0,slice x0 n0 c0,slice y0 m0 d0] 40)) (w.heap.size+1+1) (.int .i64 i2) (.bool s2) (slice x2 n2 c2) (slice y2 m2 d2):=by
  have:=(zaT ((w.alloc (cells #[.bool s0,slice x0 n0 c0,slice y0 m0 d0] 24)).alloc (cells #[.int .i64 i1,.bool s1,slice x1 n1 c1,slice y1 m1 d1] 40)) (.int .i64 i2) (.bool s2) (slice x2 n2 c2) (slice y2 m2 d2) 40).alloc (cells #[.int .i64 0,.bool s0,slice x0 n0 c0,slice y0 m0 d0] 40);rw[zw,zw]at this;exact this
 have b3:Bx4 ((((w.alloc (cells #[.bool s0,slice x0 n0 c0,slice y0 m0 d0] 24)).alloc (cells #[.int .i64 i1,.bool s1,slice x1 n1 c1,slice y1 m1 d1] 40)).alloc (cells #[.int .i64 i2,.bool s2,slice x2 n2 c2,slice y2 m2 d2] 40)).alloc (cells #[.int .i64 0,.bool s0,slice x0 n0 c0,slice y0 m0 d0] 40)) (w.heap.size+1+1+1) (.int .i64 0) (.bool s0) (slice x0 n0 c0) (slice y0 m0 d0):=by
  have:=zaT (((w.alloc (cells #[.bool s0,slice x0 n0 c0,slice y0 m0 d0] 24)).alloc (cells #[.int .i64 i1,.bool s1,slice x1 n1 c1,slice y1 m1 d1] 40)).alloc (cells #[.int .i64 i2,.bool s2,slice x2 n2 c2,slice y2 m2 d2] 40)) (.int .i64 0) (.bool s0) (slice x0 n0 c0) (slice y0 m0 d0) 40;rw[zw,zw,zw]at this;exact this
 have E0:=zk ((Rn.en0 h0).q_ k3);have E1:=zk (h1.q_ k3);have E2:=zk (h2.q_ k3);have HB:=zk k3;have B1:=zk b1;have B2:=zk b2;have B3:=zk b3
 clear h0 h1 h2 k3 b1 b2 b3;go_enter func104,ntmps104;go_upto_region 2 with fail
 generalize((((w.alloc (cells #[.bool s0,slice x0 n0 c0,slice y0 m0 d0] 24)).alloc (cells #[.int .i64 i1,.bool s1,slice x1 n1 c1,slice y1 m1 d1] 40)).alloc (cells #[.int .i64 i2,.bool s2,slice x2 n2 c2,slice y2 m2 d2] 40)).alloc (cells #[.int .i64 0,.bool s0,slice x0 n0 c0,slice y0 m0 d0] 40))=w1 at *;obtain⟨za,a0,a1,a2,a3⟩:=B3.out;obtain⟨zb,l0,l1,l2,l3⟩:=B1.out;go_wp2_with fail
 refine(znR E0.out.rn.rw E1.out.rn.rw E0.out.rn.ln E0.out.rn.ld E1.out.rn.ln E1.out.rn.ld E0.out.ef E1.out.ef (λ_=>E0.out) (λ_=>E1.out)).mono ?_;rintro e w2 ⟨r1,er1,rfl,hb,HO1⟩;replace HB:=zJ HB hb;replace E0:=zk (E0.out.q_ hb);replace E2:=zk (E2.out.q_ hb);replace B2:=zk (B2.out.q_ hb);replace B3:=zk (B3.out.q_ hb)
 clear hb za a0 a1 a2 a3 zb l0 l1 l2 l3 E1 B1;obtain⟨za,a0,a1,a2,a3⟩:=B3.out;obtain⟨zb,l0,l1,l2,l3⟩:=B2.out;go_wp2_with fail
 refine(znR E0.out.rn.rw E2.out.rn.rw E0.out.rn.ln E0.out.rn.ld E2.out.rn.ln E2.out.rn.ld E0.out.ef E2.out.ef (λ_=>E0.out) (λ_=>E2.out)).mono ?_;rintro e w3 ⟨r2,er2,rfl,hb,HO2⟩;replace HB:=zJ HB hb;clear hb za a0 a1 a2 a3 zb l0 l1 l2 l3 E0 E2 B2 B3;have o1:EOrd r1 0 q i1 q1:=by rcases HO1.out with⟨h,_⟩|⟨_,_,h⟩;cases h;exact h
 have o2:EOrd r2 0 q i2 q2:=by rcases HO2.out with⟨h,_⟩|⟨_,_,h⟩;cases h;exact h
 have HK:Hid (zjn q i1 q1 i2 q2=(decide (0<=r1) && decide (r2<=0))):=by
  show _=_;unfold zjn;rw[<-Bool.decide_and];exact decide_eq_decide.2 (and_congr o1.geq.symm o2.leq.symm)
 clear o1 o2 HO1 HO2;by_cases c1:0<=r1
 ·have d1:decide (0<=r1)=true:=decide_eq_true c1;have HD:=zk d1;by_cases c2:r2<=0
  ·have HD2:=zk (decide_eq_true c2);go_wp2;go_ret;exact⟨by rw[HK.out,HD.out,HD2.out];rfl,HB.out⟩
  ·have HD2:=zk (decide_eq_false c2);go_wp2;go_ret;exact⟨by rw[HK.out,HD.out,HD2.out];rfl,HB.out⟩
 ·have d1:decide (0<=r1)=false:=decide_eq_false c1;have HD:=zk d1;go_wp2;go_ret;exact⟨by rw[HK.out,HD.out];rfl,HB.out⟩
theorem zcT {w B base u0 u1 u2 x n c f} (h:Own .u64 49 w base (slice x n c) n f) (hB:B<base):Own .u64 49 (((w.setCell ⟨B,0,none⟩ u0).setCell ⟨B,1,none⟩ u1).setCell ⟨B,2,none⟩ u2) base (slice x n c) n f :=
 h.of (λa ha=>by
  have hne:a.block≠B:=by have:=(h.slice.2.2.2.2 a ha).1;omega
  rw[Below.heap_setCell _ _ _ _ hne,Below.heap_setCell _ _ _ _ hne,Below.heap_setCell _ _ _ _ hne])
theorem zrF:(prog.info? 136).map (λi=>(i.zero,i.size,i.bytes))=some (some (agg #[.int .i64 0,.bool false,slice none 0 0,slice none 0 0]),4,64):=by kernel_rfl
theorem Dn.kp {w w' x n d V} (h:Dn w x n d V) (hk:Kp w w'):Dn w' x n d V:=⟨h.rd.kp hk,h.dg,h.fm,h.val⟩
theorem Qn.kp {w w' s x n d y m g q} (h:Qn w s x n d y m g q) (hk:Kp w w'):Qn w' s x n d y m g q:=⟨⟨h.num.dn.kp hk,h.num.sgn,h.num.pos⟩,h.den.kp hk⟩
def QnT (K:Nat) (w:World) (t:Nm) (q:Rat):Prop:=t.n<=K/\t.m<=K/\Qn w t.s t.x t.n t.f t.y t.m t.g q
theorem QnT.q_ {K w w' t q} (h:QnT K w t q) (hb:Bl w w'):QnT K w' t q:=⟨h.1,h.2.1,h.2.2.q_ hb⟩
theorem QnT.kp {K w w' t q} (h:QnT K w t q) (hk:Kp w w'):QnT K w' t q:=⟨h.1,h.2.1,h.2.2.kp hk⟩
def Tq (K:Nat) (w:World) (ao:Option Addr) (v:List (Int × Rat)):Prop :=
 ∀(j:Nat) (a:Int) (q:Rat),v[j]?=some (a,q)->∃b o,∃t:Nm,ao=some ⟨b,o,none⟩/\C4 w b (o+j*4) (.int .i64 a) (.bool t.s) (slice t.x t.n t.c) (slice t.y t.m t.d)/\QnT K w t q
theorem Tq.q_ {K w w' ao v} (h:Tq K w ao v) (hb:Bl w w'):Tq K w' ao v:=λj a q hj=>by
 obtain⟨b,o,t,e,h1,h2⟩:=h j a q hj;exact⟨b,o,t,e,h1.q_ hb,h2.q_ hb⟩
theorem zqq:(prog.info? 73).map (λi=>(i.zero,i.size,i.bytes))=some (some (agg #[.bool false,slice none 0 0,slice none 0 0]),3,56):=by kernel_rfl
theorem zfJ {X X'}:∀{r i:Nat},(∀j,i<=j->j<i+r->Sn (X j) (X' j))->afr X' r i=afr X r i:=by
 intro r
 induction r with
 | zero=>intro i _;rfl
 | succ r ih =>
  intro i h;simp only[afr];rw[ih (λj a b=>h j (by omega) (by omega)),(h i (by omega) (by omega)).nfB]
def Rqs (K:Nat) (w:World) (ao:Option Addr) (p:List Rat):Prop :=
 ∀(j:Nat) (q:Rat),p[j]?=some q->∃b o,∃t:Nm,ao=some ⟨b,o,none⟩/\C3 w b (o+j*3) (.bool t.s) (slice t.x t.n t.c) (slice t.y t.m t.d)/\QnT K w t q
theorem Rqs.q_ {K w w' ao p} (h:Rqs K w ao p) (hb:Bl w w'):Rqs K w' ao p:=λj q hj=>by
 obtain⟨b,o,t,e,h1,h2⟩:=h j q hj;exact⟨b,o,t,e,h1.q_ hb,h2.q_ hb⟩
def zjL (K:Nat) (w w':World) (e:Ending) (k:Nat) (p:List Rat):Prop:=∃aw cw,e=.returned (slice aw k cw)/\Bl w w'/\(k<=cw/\cw<=9223372036854775807)/\Hid (Rqs K w' aw p)
theorem zpQ {w ao k cap X} (h:Rl w ao k X) (hk:k<=10000) (hl:∀j,j<k->(X j).n<=1000/\(X j).m<=1000) :
  Calls prog 74 #[slice ao k cap] w λe w'=>e=.returned (.bool (afB k X))/\Bl w w':=by
 have H:=zk h;clear h;go_enter func74,ntmps74;go_wp2_with fail
 go_loopw[7] (λt wr=>∃(i:Nat),i<=k/\t=.int .i64 i/\Hid (Bl w wr)/\Hid (afB k X=afr X (k-i) i)) (λt _=>k-(intOf t).toNat)
 case atStart=>exact⟨0,by omega,rfl,Below.refl _ _,rfl⟩
 case round =>
  obtain⟨i,hi,rfl,HB,HT⟩:=hrel;by_cases hlt:i<k
  ·obtain⟨b,o,rfl,hc,hn,hn1,hn2⟩:=(H.out.q_ HB.out) i hlt;obtain⟨r,hr⟩:∃r,k-i=r+1:=⟨k-i-1,by omega⟩;have hT:afB k X=(nfB (X i) && afr X r (i+1)):=by rw[HT.out,hr];rfl
   have hr2:k-(i+1)=r:=by omega
   obtain⟨⟨s,x,n,c,f,y,m,d,g⟩,hTi⟩:∃t,X i=t:=⟨_,rfl⟩;rw[hTi]at hc hn hn1 hn2 hT
   obtain⟨x0,x1,x2⟩:=hc;replace x0:wr.cell? ⟨b,o+i*3,none⟩=some (.bool s):=x0;replace x1:wr.cell? ⟨b,o+i*3+1,none⟩=some (slice x n c):=x1;replace x2:wr.cell? ⟨b,o+i*3+2,none⟩=some (slice y m d):=x2;replace hn:Rw wr x n c f y m d g:=hn;replace hn1:n<=65536:=hn1;replace hn2:m<=65536:=hn2;have hblk:Bl wr (wr.alloc (cells #[.bool s,slice x n c,slice y m d] 24)):=zu (Below.refl _ _) _;obtain⟨hl1,hl2⟩:=hl i hlt;rw[hTi]at hl1 hl2
   have CF:=zk (zdE (s:=s) (hn.q_ hblk) hl1 hl2);have HTi:=zk hT;have HR2:=zk hr2
   have i1:((i:Nat):Int)<((k:Nat):Int):=by omega
   clear hT hr2 hTi hr hn hblk hl1 hl2;cases hf:rfB s f n g m
   ·have CF2:=CF;rw[hf]at CF2
    have HNF:Hid (nfB ⟨s,x,n,c,f,y,m,d,g⟩=false):=hf;clear CF hf;go_wp2_with fail
    refine CF2.out.mono ?_;rintro e w1 ⟨rfl,hb1⟩;obtain⟨_,_,_,_,hb2⟩:=zoc hb1;go_wp2;go_ret;refine⟨?_,bUp HB.out hb2⟩;rw[HTi.out,HNF.out];rfl
   ·have CF2:=CF;rw[hf]at CF2
    have HNF:Hid (nfB ⟨s,x,n,c,f,y,m,d,g⟩=true):=hf;clear CF hf;go_wp2_with fail
    refine CF2.out.mono ?_;rintro e w1 ⟨rfl,hb1⟩;obtain⟨_,_,_,_,hb2⟩:=zoc hb1;have HB2:=zJ HB hb2;clear hb1 hb2;go_wp2;go_roundw
    case rel =>
     refine⟨i+1,by omega,by go_num,HB2.out,?_⟩;show _=_;rw[HTi.out,HNF.out,HR2.out];rfl
    case measure=>simp[intOf];omega
  ·have e1:i=k:=by omega
   have HTe:Hid (afB k X=true):=by
    show _=_;rw[HT.out,e1,Nat.sub_self];rfl
   have i2:¬(((i:Nat):Int)<((k:Nat):Int)):=by omega
   clear e1 HT;go_wp2;go_ret;refine⟨?_,HB.out⟩;rw[HTe.out];rfl
def zqd (w w':World) (e:Ending) (k:Nat) (X:Nat->Nm):Prop:=∃a c X',e=.returned (slice a k c)/\Bl w w'/\(k<=c/\c<=9223372036854775807)/\Hid ((Rl w' a k X'/\∀j,j<k->Sn (X j) (X' j))/\RowG 24 3 w.heap.size w' (slice a k c) k (rcells (rls k X')))
theorem zoR {w ao k cap X} (h:Rl w ao k X) (hk:k<=10000) (hl:∀j,j<k->(X j).n<=1000/\(X j).m<=1000) :
  Calls prog 8 #[slice ao k cap] w λe w'=>zqd w w' e k X:=by
 have H:=zk h;clear h;go_enter func8,ntmps8;go_wp2_with fail
 go_loopw[3,8] (λov t wr=>∃(i:Nat) (T':Nat->Nm),i<=k/\t=.int .i64 i/\Hid (Bl w wr)/\Hid (RowG 24 3 w.heap.size wr ov i (rcells (rls i T')))/\Hid (∀j,j<i->Sn (X j) (T' j)/\Rw wr (T' j).x (T' j).n (T' j).c (T' j).f (T' j).y (T' j).m (T' j).d (T' j).g)) (λ_ t _=>k-(intOf t).toNat)
 case atStart=>exact⟨0,X,by omega,rfl,Below.refl _ _,zak _ _ _ _,λj hj=>by omega⟩
 case round =>
  obtain⟨i,T',hi,rfl,HB,HRow,HT⟩:=hrel;by_cases hlt:i<k
  ·obtain⟨b,o,hao,hc,hn,hn1,hn2⟩:=(H.out.q_ HB.out) i hlt;subst hao;obtain⟨⟨s,x,n,c,f,y,m,d,g⟩,hTi⟩:∃t,X i=t:=⟨_,rfl⟩;rw[hTi]at hc hn
   obtain⟨x0,x1,x2⟩:=hc;replace x0:wr.cell? ⟨b,o+i*3,none⟩=some (.bool s):=x0;replace x1:wr.cell? ⟨b,o+i*3+1,none⟩=some (slice x n c):=x1;replace x2:wr.cell? ⟨b,o+i*3+2,none⟩=some (slice y m d):=x2;have i1:((i:Nat):Int)<((k:Nat):Int):=by omega
   obtain⟨hn10,hm10⟩:=hl i hlt;rw[hTi]at hn10 hm10
   replace hn:Rw wr x n c f y m d g:=hn;have hb5:=zB wr (cells #[.bool s,slice x n c,slice y m d] 24);have HN:=zk (hn.q_ hb5);have HTi:=zk hTi;have HRow5:=zk (HRow.out.q_ hb5);have HB5:=zJ HB hb5
   have HT5:Hid (∀j,j<i->Sn (X j) (T' j)/\Rw (wr.alloc (cells #[.bool s,slice x n c,slice y m d] 24)) (T' j).x (T' j).n (T' j).c (T' j).f (T' j).y (T' j).m (T' j).d (T' j).g):=λj hj=>⟨(HT.out j hj).1,(HT.out j hj).2.q_ hb5⟩
   clear hn hTi hb5 hn1 hn2;go_wp2_with fail
   clear x0 x1 x2 HB HRow HT;generalize wr.alloc (cells #[.bool s,slice x n c,slice y m d] 24)=w5 at *;refine(zdC (s:=s) HN.out (le_trans hn10 (by decide)) (le_trans hm10 (by decide))).mono ?_;rintro e w6 ⟨z6,c6,z7,c7,rfl,hb6,HQ⟩;have HB6:=zJ HB5 hb6;have HRow6:=zk (HRow5.out.q_ hb6)
   have HT6:Hid (∀j,j<i->Sn (X j) (T' j)/\Rw w6 (T' j).x (T' j).n (T' j).c (T' j).f (T' j).y (T' j).m (T' j).d (T' j).g):=λj hj=>⟨(HT5.out j hj).1,(HT5.out j hj).2.q_ hb6⟩
   have hsz:=HB6.out.size;clear hb6 HB5 HRow5 HT5 HN;go_wp2_with(at_builtin;go_must (refine zO w6 rfl (.tmp 12) (.tmp 15) 29 rfl w.heap.size 24 56 3 (agg #[.bool false,slice none 0 0,slice none 0 0]) underlying29 zaR rfl (by decide) nz3 u3 i (rcells (rls i T')) rfl HRow6.out #[.bool s,slice z6 n c6,slice z7 m c7] rfl rfl (zdp _ _ _ _ _ _ _) (zcD _ _ _ _ _ _ _) ?p1 (by decide) hsz ?_))
   case p1=>omega
   intro g8 cap8 w8 hr8 hk8 hb8 hg8;have HB8:=zk (hb8 w HB6.out (le_refl _));have HR8:Hid (RowG 24 3 w.heap.size w8 (slice (some ⟨g8,0,none⟩) (i+1) cap8) (i+1) (rcells (rls (i+1) (zaE T' i ⟨s,z6,n,c6,f,z7,m,c7,g⟩)))):=by
    show RowG _ _ _ _ _ _ _;rw[zcO];exact hr8
   have HT8:Hid (∀j,j<i+1->Sn (X j) (zaE T' i ⟨s,z6,n,c6,f,z7,m,c7,g⟩ j)/\Rw w8 (zaE T' i ⟨s,z6,n,c6,f,z7,m,c7,g⟩ j).x (zaE T' i ⟨s,z6,n,c6,f,z7,m,c7,g⟩ j).n (zaE T' i ⟨s,z6,n,c6,f,z7,m,c7,g⟩ j).c (zaE T' i ⟨s,z6,n,c6,f,z7,m,c7,g⟩ j).f (zaE T' i ⟨s,z6,n,c6,f,z7,m,c7,g⟩ j).y (zaE T' i ⟨s,z6,n,c6,f,z7,m,c7,g⟩ j).m (zaE T' i ⟨s,z6,n,c6,f,z7,m,c7,g⟩ j).d (zaE T' i ⟨s,z6,n,c6,f,z7,m,c7,g⟩ j).g):=λj hj=>by
    by_cases e:j=i
    ·subst e;rw[zbt];rw[HTi.out];exact⟨⟨rfl,rfl,rfl,rfl,rfl⟩,Rw.kp HQ.out hk8⟩
    ·rw[putN_ne e];exact⟨(HT6.out j (by omega)).1,Rw.kp (HT6.out j (by omega)).2 hk8⟩
   clear hr8 hk8 hb8 hg8 HRow6 HT6 HB6 HQ hsz;go_wp2;go_roundw
   case rel=>exact⟨i+1,_,by omega,by go_num,HB8.out,HR8.out,HT8.out⟩
   case measure=>simp[intOf];omega
  ·have e1:i=k:=by omega
   have i1:¬(((i:Nat):Int)<((k:Nat):Int)):=by omega
   rw[e1]at HRow HT
   obtain⟨aw,cw,rfl⟩:=HRow.out.slice;have hcw:k<=cw/\cw<=9223372036854775807:=by
    rcases HRow.out.2 with⟨hv,h0⟩|⟨_,_,_,hv,_,_,h5,h6,_⟩
    ·cases hv;omega
    ·cases hv;unfold maxLen at h6;omega
   clear e1;go_wp2;go_ret;exact⟨aw,cw,T',rfl,HB.out,hcw,⟨(λj hj=>by obtain⟨b,hb,h4⟩:=zci HRow.out hj;obtain⟨⟨_,e2,_,e4,_⟩,h6⟩:=HT.out j hj;exact⟨b,0,hb,h4,h6,by rw[e2];exact le_trans (hl j hj).1 (by decide),by rw[e4];exact le_trans (hl j hj).2 (by decide)⟩),λj hj=>(HT.out j hj).1⟩,HRow.out⟩
theorem zpO {w L ao k cap X p} (h:Rl w ao k X) (hk:k<=10000) (hL:L<=16000) (hlp:p.length=k) (hq:∀j,j<k->∃q,p[j]?=some q/\Rn L w (X j).s (X j).x (X j).n (X j).c (X j).f (X j).y (X j).m (X j).d (X j).g q) :
  Calls prog 44 #[slice ao k cap] w λe w'=>zjL (2*L) w w' e k p:=by
 have H:=zk h;clear h;go_enter func44,ntmps44;go_wp2_with fail
 go_loopw[3,8] (λov t wr=>∃(i:Nat) (T':Nat->Nm),i<=k/\t=.int .i64 i/\Hid (Bl w wr)/\Hid (RowG 73 3 w.heap.size wr ov i (rcells (rls i T')))/\Hid (∀j,j<i->∃q,p[j]?=some q/\QnT (2*L) wr (T' j) q)) (λ_ t _=>k-(intOf t).toNat)
 case atStart=>exact⟨0,X,by omega,rfl,Below.refl _ _,zak _ _ _ _,λj hj=>by omega⟩
 case round =>
  obtain⟨i,T',hi,rfl,HB,HRow,HT⟩:=hrel;by_cases hlt:i<k
  ·obtain⟨b,o,hao,hc,hn,hn1,hn2⟩:=(H.out.q_ HB.out) i hlt;subst hao;obtain⟨⟨s,x,n,c,f,y,m,d,g⟩,hTi⟩:∃t,X i=t:=⟨_,rfl⟩;rw[hTi]at hc hn
   obtain⟨x0,x1,x2⟩:=hc;replace x0:wr.cell? ⟨b,o+i*3,none⟩=some (.bool s):=x0;replace x1:wr.cell? ⟨b,o+i*3+1,none⟩=some (slice x n c):=x1;replace x2:wr.cell? ⟨b,o+i*3+2,none⟩=some (slice y m d):=x2;have i1:((i:Nat):Int)<((k:Nat):Int):=by omega
   obtain⟨q,hvq,hrn⟩:=hq i hlt;rw[hTi]at hrn
   replace hn:Rn L wr s x n c f y m d g q:=hrn.q_ HB.out;have HVq:=zk hvq;have hb5:=zB wr (cells #[.bool s,slice x n c,slice y m d] 24);have HN:=zk (hn.q_ hb5);have HTi:=zk hTi;have HRow5:=zk (HRow.out.q_ hb5);have HB5:=zJ HB hb5
   have HT5:Hid (∀j,j<i->∃q,p[j]?=some q/\QnT (2*L) (wr.alloc (cells #[.bool s,slice x n c,slice y m d] 24)) (T' j) q):=λj hj=>by obtain⟨q,h1,h2⟩:=HT.out j hj;exact⟨q,h1,h2.q_ hb5⟩
   clear hn hTi hb5 hn1 hn2;go_wp2_with fail
   clear x0 x1 x2 HB HRow HT;generalize wr.alloc (cells #[.bool s,slice x n c,slice y m d] 24)=w5 at *;refine((zdD HN.out (by omega)).mono (R':=λe w'=>∃s6 x6 n6 c6 d6 y6 m6 e6 g6,e=.returned (agg #[.bool s6,slice x6 n6 c6,slice y6 m6 e6])/\Bl w5 w'/\Hid (n6<=2*L/\m6<=2*L/\Qn w' s6 x6 n6 d6 y6 m6 g6 q)) (λ_ _ ⟨s,x,n,c,d,y,m,c',g,h1,h2,h3,h4,h5⟩=>⟨s,x,n,c,d,y,m,c',g,h1,h2,h3,h4,h5⟩)).mono ?_;rintro e w6 ⟨s6,x6,n6,c6,d6,y6,m6,e6,g6,rfl,hb6,HQ⟩;have HB6:=zJ HB5 hb6;have HRow6:=zk (HRow5.out.q_ hb6)
   have HT6:Hid (∀j,j<i->∃q,p[j]?=some q/\QnT (2*L) w6 (T' j) q):=λj hj=>by obtain⟨q,h1,h2⟩:=HT5.out j hj;exact⟨q,h1,h2.q_ hb6⟩
   have hsz:=HB6.out.size;clear hb6 HB5 HRow5 HT5 HN;go_wp2_with(at_builtin;go_must (refine zO w6 rfl (.tmp 12) (.tmp 15) 91 rfl w.heap.size 73 56 3 (agg #[.bool false,slice none 0 0,slice none 0 0]) underlying91 zqq rfl (by decide) nz3 u3 i (rcells (rls i T')) rfl HRow6.out #[.bool s6,slice x6 n6 c6,slice y6 m6 e6] rfl rfl (zdp _ _ _ _ _ _ _) (zcD _ _ _ _ _ _ _) ?p1 (by decide) hsz ?_))
   case p1=>omega
   intro g8 cap8 w8 hr8 hk8 hb8 hg8;have HB8:=zk (hb8 w HB6.out (le_refl _));have HR8:Hid (RowG 73 3 w.heap.size w8 (slice (some ⟨g8,0,none⟩) (i+1) cap8) (i+1) (rcells (rls (i+1) (zaE T' i ⟨s6,x6,n6,c6,d6,y6,m6,e6,g6⟩)))):=by
    show RowG _ _ _ _ _ _ _;rw[zcO];exact hr8
   have HT8:Hid (∀j,j<i+1->∃q,p[j]?=some q/\QnT (2*L) w8 (zaE T' i ⟨s6,x6,n6,c6,d6,y6,m6,e6,g6⟩ j) q):=λj hj=>by
    by_cases e:j=i
    ·subst e;rw[zbt];exact⟨q,HVq.out,QnT.kp (t:=⟨s6,x6,n6,c6,d6,y6,m6,e6,g6⟩) HQ.out hk8⟩
    ·rw[putN_ne e];obtain⟨q,h1,h2⟩:=HT6.out j (by omega);exact⟨q,h1,h2.kp hk8⟩
   clear hr8 hk8 hb8 hg8 HRow6 HT6 HB6 HQ hsz;go_wp2;go_roundw
   case rel=>exact⟨i+1,_,by omega,by go_num,HB8.out,HR8.out,HT8.out⟩
   case measure=>simp[intOf];omega
  ·have e1:i=k:=by omega
   have i1:¬(((i:Nat):Int)<((k:Nat):Int)):=by omega
   rw[e1]at HRow HT
   obtain⟨aw,cw,rfl⟩:=HRow.out.slice;have hcw:k<=cw/\cw<=9223372036854775807:=by
    rcases HRow.out.2 with⟨hv,h0⟩|⟨_,_,_,hv,_,_,h5,h6,_⟩
    ·cases hv;omega
    ·cases hv;unfold maxLen at h6;omega
   clear e1;go_wp2;go_ret;exact⟨aw,cw,rfl,HB.out,hcw,(λj q hj=>by have hlt2:j<k:=by { have:=(List.getElem?_eq_some_iff.1 hj).1;omega };obtain⟨b,hb,h4⟩:=zci HRow.out hlt2;obtain⟨q',h5,h6⟩:=HT.out j hlt2;rw[hj]at h5;obtain rfl:=Option.some.inj h5;exact⟨b,0,T' j,hb,h4,h6⟩)⟩
def pnE (k:Nat) (X:Nat->Nm) (z:Int):Int:=if afB k X=true then (if (k:Int)=z then 0 else 7) else 3
theorem zdm {w ao k cap X z} (h:Rl w ao k X) (hk:k<=1048576) :
  Calls prog 30 #[slice ao k cap,.int .i64 z] w λe w'=>e=.returned (.int .i64 (pnE k X z))/\Bl w w':=by
 have H:=zk h;clear h;go_enter func30,ntmps30;go_wp2_with fail
 go_loopw[9] (λt wr=>∃(i:Nat),i<=k/\t=.int .i64 i/\Hid (Bl w wr)/\Hid (afB k X=afr X (k-i) i)) (λt _=>k-(intOf t).toNat)
 case atStart=>exact⟨0,by omega,rfl,Below.refl _ _,rfl⟩
 case round =>
  obtain⟨i,hi,rfl,HB,HT⟩:=hrel;by_cases hlt:i<k
  ·obtain⟨b,o,rfl,hc,hn,hn1,hn2⟩:=(H.out.q_ HB.out) i hlt;obtain⟨r,hr⟩:∃r,k-i=r+1:=⟨k-i-1,by omega⟩;have hT:afB k X=(nfB (X i) && afr X r (i+1)):=by rw[HT.out,hr];rfl
   have hr2:k-(i+1)=r:=by omega
   obtain⟨⟨s,x,n,c,f,y,m,d,g⟩,hTi⟩:∃t,X i=t:=⟨_,rfl⟩;rw[hTi]at hc hn hn1 hn2 hT
   obtain⟨x0,x1,x2⟩:=hc;replace x0:wr.cell? ⟨b,o+i*3,none⟩=some (.bool s):=x0;replace x1:wr.cell? ⟨b,o+i*3+1,none⟩=some (slice x n c):=x1;replace x2:wr.cell? ⟨b,o+i*3+2,none⟩=some (slice y m d):=x2;replace hn:Rw wr x n c f y m d g:=hn;replace hn1:n<=65536:=hn1;replace hn2:m<=65536:=hn2;have hblk:Bl wr (wr.alloc (cells #[.bool s,slice x n c,slice y m d] 24)):=zu (Below.refl _ _) _;have CF:=zk (zdB (s:=s) (hn.q_ hblk) (by omega) (by omega));have HTi:=zk hT;have HR2:=zk hr2
   have i1:((i:Nat):Int)<((k:Nat):Int):=by omega
   clear hT hr2 hTi hr hn hblk;cases hf:rfB s f n g m
   ·have CF2:=CF;rw[hf]at CF2
    have HNF:Hid (nfB ⟨s,x,n,c,f,y,m,d,g⟩=false):=hf;clear CF hf;go_wp2_with fail
    refine CF2.out.mono ?_;rintro e w1 ⟨rfl,hb1⟩;obtain⟨_,_,_,_,hb2⟩:=zoc hb1;go_wp2;go_ret;refine⟨?_,bUp HB.out hb2⟩;rw[pnE,HTi.out,HNF.out];rfl
   ·have CF2:=CF;rw[hf]at CF2
    have HNF:Hid (nfB ⟨s,x,n,c,f,y,m,d,g⟩=true):=hf;clear CF hf;go_wp2_with fail
    refine CF2.out.mono ?_;rintro e w1 ⟨rfl,hb1⟩;obtain⟨_,_,_,_,hb2⟩:=zoc hb1;have HB2:=zJ HB hb2;clear hb1 hb2;go_wp2;go_roundw
    case rel =>
     refine⟨i+1,by omega,by go_num,HB2.out,?_⟩;show _=_;rw[HTi.out,HNF.out,HR2.out];rfl
    case measure=>simp[intOf];omega
  ·have e1:i=k:=by omega
   have HTe:Hid (afB k X=true):=by
    show _=_;rw[HT.out,e1,Nat.sub_self];rfl
   have i2:¬(((i:Nat):Int)<((k:Nat):Int)):=by omega
   clear e1 HT;by_cases hz:((k:Nat):Int)=z
   ·have hz1:(((k:Nat):Int) != z)=false:=by simpa using hz
    have HZ:=zk (show pnE k X z=0 by rw[pnE,HTe.out];simp[hz]);clear hz;go_wp2;go_ret;refine⟨?_,HB.out⟩;rw[HZ.out];rfl
   ·have hz1:(((k:Nat):Int) != z)=true:=by simpa using hz
    have HZ:=zk (show pnE k X z=7 by rw[pnE,HTe.out];simp[hz]);clear hz;go_wp2;go_ret;refine⟨?_,HB.out⟩;rw[HZ.out];rfl
def Dw (w:World) (base:Nat) (y:Option Addr) (m:Nat):Prop:=0<m->∃b,y=some ⟨b,0,none⟩/\base<=b/\(∃q,w.cell? ⟨b,0,none⟩=some (.int .u64 q))/\w.frozen? ⟨b,0,none⟩=false
theorem Dw.q_ {w w' base y m} (h:Dw w base y m) (hb:Bl w w'):Dw w' base y m:=λhm=>by
 obtain⟨b,h1,h2,⟨q,h3⟩,h4⟩:=h hm;obtain⟨_,h5⟩:=zaG hb;exact⟨b,h1,h2,⟨q,kCb hb h3⟩,(h5 _ _ (World.block_lt_of_cell? w _ h3)).trans h4⟩
theorem zjg {w base y m d g} (h:Own .u64 49 w base (slice y m d) m g):Dw w base y m:=λhm=>by
 obtain⟨h1,h2⟩:=h;rcases h2 with⟨h3,h4⟩|⟨B,cap',cur,hv,hb,hg,hn,hmx,hs,ht⟩
 ·cases h3;omega
 ·cases hv
  refine⟨B,rfl,hb,⟨g 0,?_⟩,by simp[World.frozen?,hg]⟩;have h5:cur.toList[0]?=(lst .u64 g m)[0]?:=by rw[<-ht,List.getElem?_take,if_pos (by omega)]
  have h6:(lst .u64 g m)[0]?=some (.int .u64 (g 0)):=by
   obtain⟨m',rfl⟩:∃m',m=m'+1:=⟨m-1,by omega⟩;have hl:0<(lst .u64 g (m'+1)).length:=by rw[zP];omega
   obtain⟨u,hu⟩:∃u,(lst .u64 g (m'+1))[0]?=some u:=⟨_,getElem?_eq_getElem hl⟩;obtain⟨_,rfl⟩:=zcE hu;exact hu
  simp only[World.cell?,hg];simpa using h5.trans h6
theorem Dw.set {w base y m p u v} (h:Dw w base y m) (hp:w.cell? p=some v) (hv:∀i,v≠.int .u64 i):Dw (w.setCell p u) base y m:=λhm=>by
 obtain⟨b,h1,h2,⟨q,h3⟩,h4⟩:=h hm;refine⟨b,h1,h2,⟨q,?_⟩,kFs h4⟩;rw[World.cell?_setCell_other _ _ _ _ (λhe=>hv _ (Option.some.inj (hp.symm.trans (he ▸ h3))))];exact h3
def Dw2 (w:World) (base:Nat) (t:Nm):Prop:=Dw w base t.y t.m/\Dw w base t.x t.n
theorem Dw2.q_ {w w' base t} (h:Dw2 w base t) (hb:Bl w w'):Dw2 w' base t:=⟨h.1.q_ hb,h.2.q_ hb⟩
theorem Dw2.set {w base t p u v} (h:Dw2 w base t) (hp:w.cell? p=some v) (hv:∀i,v≠.int .u64 i):Dw2 (w.setCell p u) base t:=⟨h.1.set hp hv,h.2.set hp hv⟩
theorem Dw.kp {w w' base y m} (h:Dw w base y m) (hk:Kp w w'):Dw w' base y m:=λhm=>by
 obtain⟨b,h1,h2,⟨q,h3⟩,h4⟩:=h hm;have hl:=World.block_lt_of_cell? w _ h3;rcases hk.block b hl with e|⟨cur,t,fr,e,hu⟩
 ·exact⟨b,h1,h2,⟨q,(cell?_of_block (a:=⟨b,0,none⟩) e).trans h3⟩,by simp only[World.frozen?,e]at h4 ⊢;exact h4⟩
 ·exfalso;simp only[World.cell?,e]at h3;exact hu 0 q (by simpa using h3)
theorem Dw2.kp {w w' base t} (h:Dw2 w base t) (hk:Kp w w'):Dw2 w' base t:=⟨h.1.kp hk,h.2.kp hk⟩
theorem Rk.of {w w' B k} (h:Rk w B k) (hB:w'.heap[B]?=w.heap[B]?):Rk w' B k :=
 ⟨(by
  have h1:=h.z;rcases Nat.lt_or_ge B w'.heap.size with h2|h2
  ·exact h2
  ·rw[Array.getElem?_eq_none h2,Array.getElem?_eq_getElem h1]at hB;cases hB),λo ho=>by obtain⟨u,h1,h2⟩:=h.has o ho;exact⟨u,(cell?_of_block (a:=⟨B,o,none⟩) hB).trans h1,h2⟩,λo=>by have:=h.fz o;simp only[World.frozen?,hB]at this ⊢;exact this⟩
theorem Rl.st {w w' ao k B X} (h:Rl w ao k X) (hk:Kp w w') (hne:∀b,b≠B->w'.heap[b]?=w.heap[b]?) (hnb:∀o s,w.cell? ⟨B,o,none⟩≠some (.bool s)):Rl w' ao k X:=λj hj=>by
 obtain⟨b,o,e,⟨c0,c1,c2⟩,h1,h2⟩:=h j hj;have hB:b≠B:=λe=>hnb _ _ (e ▸ c0)
 have hs:=hne b hB;exact⟨b,o,e,⟨(cell?_of_block (a:=⟨b,o+j*3,none⟩) hs).trans c0,(cell?_of_block (a:=⟨b,o+j*3+1,none⟩) hs).trans c1,(cell?_of_block (a:=⟨b,o+j*3+2,none⟩) hs).trans c2⟩,h1.kp hk,h2⟩
def zcB (M:Mo) (k:Nat) (X:Nat->Nm):Int:=lsf (two (zaw M) (pnE k X M.ck)) 2
theorem zhQ {w M ao k cap X} (h:MoW w M) (hx:Rl w ao k X) (hk:k<=1048576) :
  Calls prog 103 #[M.val,slice ao k cap] w λe w'=>e=.returned (.int .i64 (zcB M k X))/\Bl w w':=by
 have CC:=zk (λW (hW:Bl w W)=>zeW (h.q_ hW));have CN:=zk (λW (hW:Bl w W)=>zdm (w:=W) (cap:=cap) (z:=(M.ck:Int)) (hx.q_ hW) hk);obtain⟨er,her⟩:∃e,zcB M k X=e:=⟨_,rfl⟩;have HE:=zk her;unfold zcB at her;obtain⟨e0,he0⟩:∃e,zaw M=e:=⟨_,rfl⟩;rw[he0]at CC her
 obtain⟨e1,he1⟩:∃e,pnE k X M.ck=e:=⟨_,rfl⟩;rw[he1]at CN her
 have HE2:=zk her;clear h hx he0 he1 her;obtain⟨⟨s,x,n,c,f,y,m,d,g⟩,ca,ck,cc,C,ra,rk,rc,R⟩:=M;replace CC:Hid (∀W,Bl w W->Calls prog 29 #[agg #[.bool s,slice x n c,slice y m d,slice ca ck cc,slice ra rk rc]] W λr w'=>r=.returned (.int .i64 e0)/\Bl W w'):=CC;replace CN:Hid (∀W,Bl w W->Calls prog 30 #[slice ao k cap,.int .i64 (ck:Int)] W λe w'=>e=.returned (.int .i64 e1)/\Bl W w'):=CN;show Calls prog 103 #[agg #[.bool s,slice x n c,slice y m d,slice ca ck cc,slice ra rk rc],slice ao k cap] w _;have hb:=zB w (cells #[.bool s,slice x n c,slice y m d,slice ca ck cc,slice ra rk rc] 28);have r0:(w.alloc (cells #[.bool s,slice x n c,slice y m d,slice ca ck cc,slice ra rk rc] 28)).drew.cell? ⟨w.heap.size,0,none⟩=some (.bool s):=kCd (by simp[go_sem]);have r1:(w.alloc (cells #[.bool s,slice x n c,slice y m d,slice ca ck cc,slice ra rk rc] 28)).drew.cell? ⟨w.heap.size,1,none⟩=some (slice x n c):=kCd (by simp[go_sem]);have r2:(w.alloc (cells #[.bool s,slice x n c,slice y m d,slice ca ck cc,slice ra rk rc] 28)).drew.cell? ⟨w.heap.size,2,none⟩=some (slice y m d):=kCd (by simp[go_sem]);have r3:(w.alloc (cells #[.bool s,slice x n c,slice y m d,slice ca ck cc,slice ra rk rc] 28)).drew.cell? ⟨w.heap.size,3,none⟩=some (slice ca ck cc):=kCd (by simp[go_sem]);have r4:(w.alloc (cells #[.bool s,slice x n c,slice y m d,slice ca ck cc,slice ra rk rc] 28)).drew.cell? ⟨w.heap.size,4,none⟩=some (slice ra rk rc):=kCd (by simp[go_sem]);have HB:=zk (Below.drew hb);clear hb;go_enter func103,ntmps103;go_upto_region 1 with fail
 refine wp_region_held_drew (S:=(λw'=>w'.cell? ⟨w.heap.size,0,none⟩=some (.bool s)/\w'.cell? ⟨w.heap.size,1,none⟩=some (slice x n c)/\w'.cell? ⟨w.heap.size,2,none⟩=some (slice y m d)/\w'.cell? ⟨w.heap.size,3,none⟩=some (slice ca ck cc)/\w'.cell? ⟨w.heap.size,4,none⟩=some (slice ra rk rc))) (by kernel_rfl) ?_ (λhHeld=>?_)
 ·exact⟨r0,r1,r2,r3,r4⟩
 generalize(w.alloc (cells #[.bool s,slice x n c,slice y m d,slice ca ck cc,slice ra rk rc] 28)).drew=wd at *;clear r0 r1 r2 r3 r4;refine zK 0 ?_;refine zK 2 ?_;refine zK 3 ?_;simp only[zA,Act.put];refine zK 4 ?_;refine zK 5 ?_;simp only[zA,Act.put];refine rdO 1 (λK hK=>?_);go_simp
 go_at_call 29
 refine(CC.out _ HB.out).mono ?_;rintro e w4 ⟨rfl,hb4⟩
 (try go_wp2_with fail)
 refine hK.out _ _ ?_ (λhH4=>?_)
 ·exact⟨kCb hb4 hHeld.1,kCb hb4 hHeld.2.1,kCb hb4 hHeld.2.2.1,kCb hb4 hHeld.2.2.2.1,kCb hb4 hHeld.2.2.2.2⟩
 clear hK K;have HB4:=zJ HB hb4;try simp only[zA,Act.put]
 refine rdO 6 (λK hK=>?_);go_simp
 go_at_call 30
 refine(CN.out _ HB4.out).mono ?_;rintro e w5 ⟨rfl,hb5⟩
 (try go_wp2_with fail)
 refine hK.out _ _ ?_ (λhH5=>?_)
 ·exact⟨kCb hb5 hH4.1,kCb hb5 hH4.2.1,kCb hb5 hH4.2.2.1,kCb hb5 hH4.2.2.2.1,kCb hb5 hH4.2.2.2.2⟩
 clear hK K;have HB5:=zJ HB4 hb5;obtain⟨r0,r1,r2,r3,r4⟩:=id hH5;try simp only[zA,Act.put]
 refine rdO 7 (λK hK=>?_);go_simp;have hbA:=zB w5 (cells #[.int .i64 e0,.int .i64 e1] 36);have HEl:=zk (zdR (w:=w5) (a:=e0) (b:=e1) (t:=36));have HWA:=zJ HB5 hbA;obtain⟨gA,hgA⟩:∃z,w5.heap.size=z:=⟨_,rfl⟩;rw[hgA]at HEl ⊢
 generalize hwA:w5.alloc (cells #[.int .i64 e0,.int .i64 e1] 36)=wA at *;clear hwA hgA;refine hK.out _ _ ?_ (λhHA=>?_)
 ·((try dsimp only);(refine⟨?_,?_,?_,?_,?_⟩ <;> repeat(with_reducible first|assumption|refine kCb (by assumption) ?_)))
 clear hK K;try simp only[zA,Act.put]
 refine rdO 8 (λK hK=>?_);go_simp
 go_at_call 28
 refine(zha HEl.out (by decide)).mono ?_;rintro e w9 ⟨rfl,rfl⟩
 (try go_wp2_with fail)
 refine hK.out _ _ ?_ (λhHB=>?_)
 ·exact hHA
 clear hK K;try simp only[zA,Act.put]
 refine zK 9 ?_;simp only[zA,Act.put];refine dnO ?_;simp only[show lsf (two e0 e1) 2=er from HE2.out];clear HE2 hHeld hH4 hH5 hHA hHB hb4 hb5 hbA r0 r1 r2 r3 r4 HEl CC CN HB HB4 HB5;go_wp2;go_ret;exact⟨by rw[HE.out];rfl,HWA.out⟩
theorem zdy {n}:∀{ts:List (Int × Rat)} {l:Int},tsB n l ts=true->∀t ∈ ts,l<t.1/\t.1<(n:Int)/\t.2≠0
 | [],_,_,t,ht=>by cases ht
 | (z,q) :: r,l,h,t,ht=>by
  simp only[tsB,Bool.and_eq_true,decide_eq_true_eq]at h;obtain⟨h1,h2,h3,h4⟩:=h;rcases List.mem_cons.1 ht with rfl|ht
  ·exact⟨h1,h2,h3⟩
  ·have:=zdy h4 t ht;exact⟨by omega,this.2⟩
theorem zgz {n}:∀{ts:List (Int × Rat)} {l:Int},tsB n l ts=true->l<(n:Int)->(ts.length:Int)<=n-1-l
 | [],l,_,hl=>by simp;omega
 | (z,q) :: r,l,h,hl=>by
  simp only[tsB,Bool.and_eq_true,decide_eq_true_eq]at h;obtain⟨h1,h2,h3,h4⟩:=h;have:=zgz h4 h2;simp only[List.length_cons];omega
def zrX (li:Int) (lq:Rat) (hi:Int) (hq:Rat):Prop:=(li=0∨(li=-1∨li=1)/\lq=0)/\(hi=0∨(hi=-1∨hi=1)/\hq=0)
theorem zoi {li lq hi hq} (h:bdB li lq hi hq=true):zrX li lq hi hq:=by
 simp only[bdB,Bool.and_eq_true,Bool.or_eq_true,decide_eq_true_eq]at h;exact⟨h.1.imp id (λh=>⟨.inl h.1,h.2⟩),h.2.imp id (λh=>⟨.inr h.1,h.2⟩)⟩
structure MvP (cs:List CV) (rs:List RV):Prop where
 cl:cs.length<=64
 rl:rs.length<=64
 cb:∀v ∈ cs,zrX v.li v.lq v.hi v.hq
 rb:∀v ∈ rs,zrX v.li v.lq v.hi v.hq
 tc:∀v ∈ rs,∀t ∈ v.ts,0<=t.1/\t.1<(cs.length:Int)
 tl:∀v ∈ rs,v.ts.length<=64
theorem zbk {cs rs} (h:zbl cs rs=true):MvP cs rs:=by
 simp only[zbl,Bool.and_eq_true,decide_eq_true_eq,List.all_eq_true]at h;obtain⟨h1,h2,h3,h4,_⟩:=h;refine⟨h1,h2,λv hv=>zoi (h3 v hv),λv hv=>zoi (h4 v hv).1,λv hv t ht=>?_,λv hv=>?_⟩
 ·have:=zdy (h4 v hv).2.1 t ht;exact⟨by omega,this.2.1⟩
 ·have:=zgz (h4 v hv).2.1 (by omega);omega
def bcB (cs:List CV) (xs:List Rat) (j:Nat):Bool:=match cs[j]?,xs[j]? with
 | some v,some q=>!(zjn q v.li v.lq v.hi v.hq)
 | _,_=>false
def brB (rs:List RV) (xs:List Rat) (j:Nat):Bool:=match rs[j]? with
 | some v=>!(zjn (zbL xs v) v.li v.lq v.hi v.hq)
 | none=>false
def zlc (w w':World) (e:Ending) (er:Int) (cs:List CV) (rs:List RV) (xs:List Rat):Prop:=Bl w w' /\
 ((er≠0/\e=.returned (.tuple #[slice none 0 0,slice none 0 0,.int .i64 er]))∨(er=0/\∃xa xc ya yc,e=.returned (.tuple #[.slice xa (crl (bcB cs xs) cs.length).length xc,.slice ya (crl (brB rs xs) rs.length).length yc,.int .i64 0])/\Il w' xa (crl (bcB cs xs) cs.length)/\Il w' ya (crl (brB rs xs) rs.length)))
theorem zkI {L w i i' t q} (h:NmV L w t q) (hL:L<=4096) (hi:i=i') (hb:i'=0∨(i'=-1∨i'=1)/\q=0):En 4096 w i t.s t.x t.n t.c t.f t.y t.m t.d t.g q:=⟨Rn.mono h hL,by rw[hi];exact hb⟩
theorem zly {w L M off cs rs ao k cap X xs er} (hW:MoW w M) (hx:Rl w ao k X) (hk:k<=1048576) (he:zcB M k X=er) (hv:er=0->MoV L w M off cs rs/\zbl cs rs=true/\Rf L w ao xs/\xs.length=k/\k=cs.length) (hL:L<=30) :
  Calls prog 69 #[M.val,slice ao k cap] w λe w'=>zlc w w' e er cs rs xs:=by
 have CC:=zk (λW (hW2:Bl w W)=>zhQ (cap:=cap) (hW.q_ hW2) (hx.q_ hW2) hk);rw[he]at CC
 clear hW hx he;obtain⟨M0,hM0⟩:∃z,M=z:=⟨_,rfl⟩;have HV:=zk hv;clear hv;rw[hM0]at HV CC ⊢
 have CA:Hid (er=0->∀W,Bl w W->Calls prog 105 #[M0.val,slice ao k cap] W λe w'=>∃a c,e=.returned (slice a rs.length c)/\Bl W w'/\(rs.length<=c/\c<=9223372036854775807)/\Hid (Rf (KA L) w' a (rs.map (zbL xs)))):=λh0 W hW2=>by
  obtain⟨v1,v2,v3,v4,v5⟩:=HV.out h0;have mp:=zbk v2;exact zor (v1.q_ hW2) (v3.q_ hW2) v4 (λr hr t ht=>by have:=mp.tc r hr t ht;rw[v5];exact this) mp.rl mp.tl (by omega)
 clear hM0;obtain⟨⟨s,x,n,c,f,y,m,d,g⟩,ca,ck,cc,C,ra,rk,rc,R⟩:=M0;replace CC:Hid (∀W,Bl w W->Calls prog 103 #[agg #[.bool s,slice x n c,slice y m d,slice ca ck cc,slice ra rk rc],slice ao k cap] W λe w'=>e=.returned (.int .i64 er)/\Bl W w'):=CC;replace CA:Hid (er=0->∀W,Bl w W->Calls prog 105 #[agg #[.bool s,slice x n c,slice y m d,slice ca ck cc,slice ra rk rc],slice ao k cap] W λe w'=>∃a c,e=.returned (slice a rs.length c)/\Bl W w'/\(rs.length<=c/\c<=9223372036854775807)/\Hid (Rf (KA L) w' a (rs.map (zbL xs)))):=CA;show Calls prog 69 #[agg #[.bool s,slice x n c,slice y m d,slice ca ck cc,slice ra rk rc],slice ao k cap] w _;have hb:=zB w (cells #[.bool s,slice x n c,slice y m d,slice ca ck cc,slice ra rk rc] 28);have BM:=zk (zF w [.bool s,slice x n c,slice y m d,slice ca ck cc,slice ra rk rc] 28);have HB:=zk hb;clear hb;go_enter func69,ntmps69;go_wp2_with fail
 generalize w.alloc (cells #[.bool s,slice x n c,slice y m d,slice ca ck cc,slice ra rk rc] 28)=w0 at *;refine(CC.out _ HB.out).mono ?_;rintro e w1 ⟨rfl,hb⟩;replace HB:=zJ HB hb;replace BM:=zk (BM.out.q_ hb)
 clear hb CC;by_cases h0:er=0
 case neg =>
  have h1:(er != 0)=true:=by simpa using h0
  have H0:=zk h0;go_wp2
  go_ret3
  exact⟨HB.out,.inl ⟨H0.out,rfl⟩⟩
 have CA2:=zk (CA.out h0);obtain⟨v1,v2,v3,v4,v5⟩:=HV.out h0;have mp:=zbk v2;subst h0;have l64:=mp.cl;have r64:=mp.rl
 have HC:Hid (∀j v,cs[j]?=some v->(∃b o,ca=some ⟨b,o,none⟩/\Cs w b (o+j*12) (C j).vs)/\ColV L w (C j) v):=v1.cls;have HR:Hid (∀j v,rs[j]?=some v->(∃b o,ra=some ⟨b,o,none⟩/\Cs w b (o+j*10) (R j).vs)/\RowV L w (R j) v):=v1.rls;have hck:ck=cs.length:=v1.ck;have hrk:rk=rs.length:=v1.rk;subst hck hrk;subst v5;have HX:=zk v3;have HXL:=zk v4;have MP:=zk mp
 clear v1 v2 v3 v4 mp CA HV;have r3:=BM.out.cell (j:=3) rfl;go_wp2_with fail
 clear r3;go_loopw[8,24] (λov t wr=>∃(i:Nat),i<=cs.length/\t=.int .i64 i/\Hid (Bl w1 wr)/\Hid (RowG 3 1 w1.heap.size wr ov (crl (bcB cs xs) i).length (ils (crl (bcB cs xs) i)))) (λ_ t _=>cs.length-(intOf t).toNat)
 case atStart=>exact⟨0,by omega,rfl,Below.refl _ _,zak _ _ _ _⟩
 case round =>
  obtain⟨i,hi,rfl,HB2,HRow⟩:=hrel;by_cases hlt:i<cs.length
  ·obtain⟨v,hv⟩:∃t,cs[i]?=some t:=⟨_,getElem?_eq_getElem (by omega)⟩;have hvm:=List.mem_of_getElem? hv;obtain⟨⟨b,o,hba,hc⟩,hV⟩:=HC.out i v hv;subst hba;have hbz:=bUp HB.out HB2.out;obtain⟨hblo,hbhi⟩:=MP.out.cb v hvm;have e1:=zkI (hV.lq.q_ hbz) (by omega) hV.li hblo;have e2:=zkI (hV.hq.q_ hbz) (by omega) hV.hi hbhi;obtain⟨⟨z,⟨s0,x0,n0,c0,f0,y0,m0,d0,g0⟩,⟨i1,⟨s1,x1,n1,c1,f1,y1,m1,d1,g1⟩⟩,⟨i2,⟨s2,x2,n2,c2,f2,y2,m2,d2,g2⟩⟩⟩,hCi⟩:∃t,C i=t:=⟨_,rfl⟩;rw[hCi]at hc e1 e2
   replace e1:En 4096 wr i1 s1 x1 n1 c1 f1 y1 m1 d1 g1 v.lq:=e1;replace e2:En 4096 wr i2 s2 x2 n2 c2 f2 y2 m2 d2 g2 v.hq:=e2;have j1:i1=v.li:=by have:=hV.li;rw[hCi]at this;exact this
   have j2:i2=v.hi:=by have:=hV.hi;rw[hCi]at this;exact this
   replace hc:=Cs.q_ hc hbz;obtain⟨q0,q1,q2,q3,q4,q5,q6,q7,q8,q9,q10,q11⟩:=hc.lc;obtain⟨r,hr⟩:∃t,xs[i]?=some t:=⟨_,getElem?_eq_getElem (by have:=HXL.out;omega)⟩;obtain⟨b',o',⟨ss,sx,sn,sc,sf,sy,sm,sd,sg⟩,hax,⟨p0,p1,p2⟩,hr'⟩:=(HX.out.q_ hbz) i r hr;subst hax;replace p0:wr.cell? ⟨b',o'+i*3,none⟩=some (.bool ss):=p0;replace p1:wr.cell? ⟨b',o'+i*3+1,none⟩=some (slice sx sn sc):=p1;replace p2:wr.cell? ⟨b',o'+i*3+2,none⟩=some (slice sy sm sd):=p2;replace hr':Rn 4096 wr ss sx sn sc sf sy sm sd sg r:=Rn.mono hr' (by omega);have HEQ:Hid (∀{t},(bcB cs xs) i=t->(!t)=zjn r v.li v.lq v.hi v.hq):=by
    intro t ht;rw[<-ht,bcB,hv,hr];simp
   clear hr;have hbt:=zB wr (cells #[.string z,.bool s0,slice x0 n0 c0,slice y0 m0 d0,.int .i64 i1,.bool s1,slice x1 n1 c1,slice y1 m1 d1,.int .i64 i2,.bool s2,slice x2 n2 c2,slice y2 m2 d2] 60);obtain⟨-,-,-,-,a4,a5,a6,a7,a8,a9,a10,a11⟩:=zeg (zF wr [.string z,.bool s0,slice x0 n0 c0,slice y0 m0 d0,.int .i64 i1,.bool s1,slice x1 n1 c1,slice y1 m1 d1,.int .i64 i2,.bool s2,slice x2 n2 c2,slice y2 m2 d2] 60);obtain⟨t1,ht1⟩:∃t,(bcB cs xs) i=t:=⟨_,rfl⟩;have HT1:=zk ht1;have CK:Hid (∀W,Bl wr W->Calls prog 104 #[agg #[.bool ss,slice sx sn sc,slice sy sm sd],agg #[.int .i64 i1,.bool s1,slice x1 n1 c1,slice y1 m1 d1],agg #[.int .i64 i2,.bool s2,slice x2 n2 c2,slice y2 m2 d2]] W λe w'=>e=.returned (.bool (!t1))/\Bl W w'):=λW hW2=>by
    have hk9:=zky (hr'.q_ hW2) (e1.q_ hW2) (e2.q_ hW2);rw[j1,j2]at hk9
    rw[j1,j2,HEQ.out ht1];exact hk9
   have hln:=zhn (bcB cs xs) i;have i1':((i:Nat):Int)<((cs.length:Nat):Int):=by omega
   clear hCi hc hV hvm hblo hbhi e1 e2 j1 j2 ht1 hr' HEQ hv;go_upto_region 8 with fail
   clear q0 q1 q2 q3 q4 q5 q6 q7 q8 q9 q10 q11;replace p0:=kCb hbt p0;replace p1:=kCb hbt p1;replace p2:=kCb hbt p2
   have HB3:=zJ HB2 hbt;have HRow3:=zk (HRow.out.q_ hbt)
   replace CK:=zk (λW (hW2:Below (wr.alloc (cells #[.string z,.bool s0,slice x0 n0 c0,slice y0 m0 d0,.int .i64 i1,.bool s1,slice x1 n1 c1,slice y1 m1 d1,.int .i64 i2,.bool s2,slice x2 n2 c2,slice y2 m2 d2] 60)).heap.size (wr.alloc (cells #[.string z,.bool s0,slice x0 n0 c0,slice y0 m0 d0,.int .i64 i1,.bool s1,slice x1 n1 c1,slice y1 m1 d1,.int .i64 i2,.bool s2,slice x2 n2 c2,slice y2 m2 d2] 60)) W)=>CK.out W (bUp hbt hW2));clear hbz hbt HB2 HRow;generalize hbx:wr.heap.size=bx at *;generalize wr.alloc (cells #[.string z,.bool s0,slice x0 n0 c0,slice y0 m0 d0,.int .i64 i1,.bool s1,slice x1 n1 c1,slice y1 m1 d1,.int .i64 i2,.bool s2,slice x2 n2 c2,slice y2 m2 d2] 60)=w5 at *;clear hbx;go_region_held3 (λw'=>w'.cell? ⟨bx,4,none⟩=some (.int .i64 i1)/\w'.cell? ⟨bx,5,none⟩=some (.bool s1)/\w'.cell? ⟨bx,6,none⟩=some (slice x1 n1 c1)/\w'.cell? ⟨bx,7,none⟩=some (slice y1 m1 d1)/\w'.cell? ⟨bx,8,none⟩=some (.int .i64 i2)/\w'.cell? ⟨bx,9,none⟩=some (.bool s2)/\w'.cell? ⟨bx,10,none⟩=some (slice x2 n2 c2)/\w'.cell? ⟨bx,11,none⟩=some (slice y2 m2 d2)/\w'.cell? ⟨b',o'+i*3,none⟩=some (.bool ss)/\w'.cell? ⟨b',o'+i*3+1,none⟩=some (slice sx sn sc)/\w'.cell? ⟨b',o'+i*3+2,none⟩=some (slice sy sm sd))
    (refine⟨?_,?_,?_,?_,?_,?_,?_,?_,?_,?_,?_⟩ <;> repeat(with_reducible first|assumption|refine kCd ?_|refine kCb (by assumption) ?_))
    (first|(go_at_call 104;with_reducible refine(CK.out _ zai).mono ?_;rintro e w6 ⟨rfl,hb6⟩))
   have HB6:=zk (HB3.out.trans ((show Bl w5 w6 from zai).mono HB3.out.size));have HRow6:=zk (HRow3.out.q_ (show Bl w5 w6 from zai))
   clear hb6 HB3 HRow3 CK p0 p1 p2 a4 a5 a6 a7 a8 a9 a10 a11;cases t1
   ·go_wp2;go_roundw
    case rel=>exact⟨i+1,by omega,by go_num,HB6.out,by show RowG _ _ _ _ _ _ _;rw[znX HT1.out];exact HRow6.out⟩
    case measure=>simp[intOf];omega
   ·have hsz:=HB6.out.size;go_wp2_with(at_builtin;go_must (refine zO w6 rfl (.tmp 39) (.tmp 41) 123 rfl w1.heap.size 3 8 1 (.int .i64 0) underlying123 zbu rfl (by decide) nzi u8 (crl (bcB cs xs) i).length (ils (crl (bcB cs xs) i)) rfl HRow6.out #[.int .i64 (i:Int)] rfl rfl (zfP _) (zfo _) ?p1 (by decide) hsz ?_))
    case p1=>omega
    intro g8 cap8 w8 hr8 hk8 hb8 hg8;have HB8:=zk (hb8 w1 HB6.out (le_refl _));have HR8:Hid (RowG 3 1 w1.heap.size w8 (slice (some ⟨g8,0,none⟩) ((crl (bcB cs xs) i).length+1) cap8) (crl (bcB cs xs) (i+1)).length (ils (crl (bcB cs xs) (i+1)))):=by
     show RowG _ _ _ _ _ _ _;rw[zkR HT1.out];simpa[ils]using hr8
    clear hr8 hk8 hb8 hg8 HRow6 HB6 hsz;go_wp2;go_roundw
    case rel=>exact⟨i+1,by omega,by go_num,HB8.out,HR8.out⟩
    case measure=>simp[intOf];omega
  ·have i4:¬(((i:Nat):Int)<((cs.length:Nat):Int)):=by omega
   have e9:i=cs.length:=by omega
   obtain⟨xa,xc,hvs⟩:=HRow.out.slice;have HL2:=HRow.out;rw[hvs]at HL2
   have HIL:=zk (zgG HL2);rw[e9]at HIL hvs
   subst hvs;replace BM:=zk (BM.out.q_ HB2.out);replace HB:=zJ HB HB2.out;clear HL2 HRow HB2 e9 HX HC;obtain⟨r0,r1,r2,r3,r4⟩:=bk5 BM.out;go_wp2_with fail
   refine(CA2.out _ HB.out).mono ?_;rintro e w7 ⟨aa,ac,rfl,hb7,hac,HAct⟩;replace HB:=zJ HB hb7;replace BM:=zk (BM.out.q_ hb7);have HCols:=zk (HIL.out.q_ hb7)
   clear hb7 HIL r0 r1 r2 r3 r4 CA2;have r4:=BM.out.cell (j:=4) rfl;go_wp2_with fail
   clear r4;go_loopw[9,50] (λov t wr=>∃(i:Nat),i<=rs.length/\t=.int .i64 i/\Hid (Bl w7 wr)/\Hid (RowG 3 1 w7.heap.size wr ov (crl (brB rs xs) i).length (ils (crl (brB rs xs) i)))) (λ_ t _=>rs.length-(intOf t).toNat)
   case atStart=>exact⟨0,by omega,rfl,Below.refl _ _,zak _ _ _ _⟩
   case round =>
    obtain⟨i,hi,rfl,HB2,HRow⟩:=hrel;by_cases hlt:i<rs.length
    ·obtain⟨v,hv⟩:∃t,rs[i]?=some t:=⟨_,getElem?_eq_getElem (by omega)⟩;have hvm:=List.mem_of_getElem? hv;obtain⟨⟨b,o,hba,hc⟩,hV⟩:=HR.out i v hv;subst hba;have hbz:=bUp HB.out HB2.out;obtain⟨hblo,hbhi⟩:=MP.out.rb v hvm;have e1:=zkI (hV.lq.q_ hbz) (by omega) hV.li hblo;have e2:=zkI (hV.hq.q_ hbz) (by omega) hV.hi hbhi;obtain⟨⟨z,⟨i1,⟨s1,x1,n1,c1,f1,y1,m1,d1,g1⟩⟩,⟨i2,⟨s2,x2,n2,c2,f2,y2,m2,d2,g2⟩⟩,ta,tk,tc,tcol,tt⟩,hCi⟩:∃t,R i=t:=⟨_,rfl⟩;rw[hCi]at hc e1 e2
     replace e1:En 4096 wr i1 s1 x1 n1 c1 f1 y1 m1 d1 g1 v.lq:=e1;replace e2:En 4096 wr i2 s2 x2 n2 c2 f2 y2 m2 d2 g2 v.hq:=e2;have j1:i1=v.li:=by have:=hV.li;rw[hCi]at this;exact this
     have j2:i2=v.hi:=by have:=hV.hi;rw[hCi]at this;exact this
     replace hc:=Cs.q_ hc hbz;obtain⟨q0,q1,q2,q3,q4,q5,q6,q7,q8,q9⟩:=hc.lr;have hr:(rs.map (zbL xs))[i]?=some (zbL xs v):=by rw[List.getElem?_map,hv];rfl
     obtain⟨b',o',⟨ss,sx,sn,sc,sf,sy,sm,sd,sg⟩,hax,⟨p0,p1,p2⟩,hr'⟩:=(HAct.out.q_ HB2.out) i _ hr;subst hax;replace p0:wr.cell? ⟨b',o'+i*3,none⟩=some (.bool ss):=p0;replace p1:wr.cell? ⟨b',o'+i*3+1,none⟩=some (slice sx sn sc):=p1;replace p2:wr.cell? ⟨b',o'+i*3+2,none⟩=some (slice sy sm sd):=p2;replace hr':Rn 4096 wr ss sx sn sc sf sy sm sd sg (zbL xs v):=Rn.mono hr' (by unfold KA;omega);have HEQ:Hid (∀{t},(brB rs xs) i=t->(!t)=zjn (zbL xs v) v.li v.lq v.hi v.hq):=by
      intro t ht;rw[<-ht,brB,hv];simp
     clear hr;have hbt:=zB wr (cells #[.string z,.int .i64 i1,.bool s1,slice x1 n1 c1,slice y1 m1 d1,.int .i64 i2,.bool s2,slice x2 n2 c2,slice y2 m2 d2,slice ta tk tc] 63);obtain⟨-,a1,a2,a3,a4,a5,a6,a7,a8⟩:=bk9 (zF wr [.string z,.int .i64 i1,.bool s1,slice x1 n1 c1,slice y1 m1 d1,.int .i64 i2,.bool s2,slice x2 n2 c2,slice y2 m2 d2,slice ta tk tc] 63);obtain⟨t1,ht1⟩:∃t,(brB rs xs) i=t:=⟨_,rfl⟩;have HT1:=zk ht1;have CK:Hid (∀W,Bl wr W->Calls prog 104 #[agg #[.bool ss,slice sx sn sc,slice sy sm sd],agg #[.int .i64 i1,.bool s1,slice x1 n1 c1,slice y1 m1 d1],agg #[.int .i64 i2,.bool s2,slice x2 n2 c2,slice y2 m2 d2]] W λe w'=>e=.returned (.bool (!t1))/\Bl W w'):=λW hW2=>by
      have hk9:=zky (hr'.q_ hW2) (e1.q_ hW2) (e2.q_ hW2);rw[j1,j2]at hk9
      rw[j1,j2,HEQ.out ht1];exact hk9
     have hln:=zhn (brB rs xs) i;have i1':((i:Nat):Int)<((rs.length:Nat):Int):=by omega
     clear hCi hc hV hvm hblo hbhi e1 e2 j1 j2 ht1 hr' HEQ hv;go_upto_region 15 with fail
     clear q0 q1 q2 q3 q4 q5 q6 q7 q8 q9;replace p0:=kCb hbt p0;replace p1:=kCb hbt p1;replace p2:=kCb hbt p2
     have HB3:=zJ HB2 hbt;have HRow3:=zk (HRow.out.q_ hbt)
     replace CK:=zk (λW (hW2:Below (wr.alloc (cells #[.string z,.int .i64 i1,.bool s1,slice x1 n1 c1,slice y1 m1 d1,.int .i64 i2,.bool s2,slice x2 n2 c2,slice y2 m2 d2,slice ta tk tc] 63)).heap.size (wr.alloc (cells #[.string z,.int .i64 i1,.bool s1,slice x1 n1 c1,slice y1 m1 d1,.int .i64 i2,.bool s2,slice x2 n2 c2,slice y2 m2 d2,slice ta tk tc] 63)) W)=>CK.out W (bUp hbt hW2));clear hbz hbt HB2 HRow;generalize hbx:wr.heap.size=bx at *;generalize wr.alloc (cells #[.string z,.int .i64 i1,.bool s1,slice x1 n1 c1,slice y1 m1 d1,.int .i64 i2,.bool s2,slice x2 n2 c2,slice y2 m2 d2,slice ta tk tc] 63)=w5 at *;clear hbx;go_region_held3 (λw'=>w'.cell? ⟨bx,1,none⟩=some (.int .i64 i1)/\w'.cell? ⟨bx,2,none⟩=some (.bool s1)/\w'.cell? ⟨bx,3,none⟩=some (slice x1 n1 c1)/\w'.cell? ⟨bx,4,none⟩=some (slice y1 m1 d1)/\w'.cell? ⟨bx,5,none⟩=some (.int .i64 i2)/\w'.cell? ⟨bx,6,none⟩=some (.bool s2)/\w'.cell? ⟨bx,7,none⟩=some (slice x2 n2 c2)/\w'.cell? ⟨bx,8,none⟩=some (slice y2 m2 d2)/\w'.cell? ⟨b',o'+i*3,none⟩=some (.bool ss)/\w'.cell? ⟨b',o'+i*3+1,none⟩=some (slice sx sn sc)/\w'.cell? ⟨b',o'+i*3+2,none⟩=some (slice sy sm sd))
      (refine⟨?_,?_,?_,?_,?_,?_,?_,?_,?_,?_,?_⟩ <;> repeat(with_reducible first|assumption|refine kCd ?_|refine kCb (by assumption) ?_))
      (first|(go_at_call 104;with_reducible refine(CK.out _ zai).mono ?_;rintro e w6 ⟨rfl,hb6⟩))
     have HB6:=zk (HB3.out.trans ((show Bl w5 w6 from zai).mono HB3.out.size));have HRow6:=zk (HRow3.out.q_ (show Bl w5 w6 from zai))
     clear hb6 HB3 HRow3 CK p0 p1 p2 a1 a2 a3 a4 a5 a6 a7 a8;cases t1
     ·go_wp2;go_roundw
      case rel=>exact⟨i+1,by omega,by go_num,HB6.out,by show RowG _ _ _ _ _ _ _;rw[znX HT1.out];exact HRow6.out⟩
      case measure=>simp[intOf];omega
     ·have hsz:=HB6.out.size;go_wp2_with(at_builtin;go_must (refine zO w6 rfl (.tmp 65) (.tmp 67) 123 rfl w7.heap.size 3 8 1 (.int .i64 0) underlying123 zbu rfl (by decide) nzi u9 (crl (brB rs xs) i).length (ils (crl (brB rs xs) i)) rfl HRow6.out #[.int .i64 (i:Int)] rfl rfl (zfP _) (zfo _) ?p1 (by decide) hsz ?_))
      case p1=>omega
      intro g8 cap8 w8 hr8 hk8 hb8 hg8;have HB8:=zk (hb8 w7 HB6.out (le_refl _));have HR8:Hid (RowG 3 1 w7.heap.size w8 (slice (some ⟨g8,0,none⟩) ((crl (brB rs xs) i).length+1) cap8) (crl (brB rs xs) (i+1)).length (ils (crl (brB rs xs) (i+1)))):=by
       show RowG _ _ _ _ _ _ _;rw[zkR HT1.out];simpa[ils]using hr8
      clear hr8 hk8 hb8 hg8 HRow6 HB6 hsz;go_wp2;go_roundw
      case rel=>exact⟨i+1,by omega,by go_num,HB8.out,HR8.out⟩
      case measure=>simp[intOf];omega
    ·have i4:¬(((i:Nat):Int)<((rs.length:Nat):Int)):=by omega
     have e9:i=rs.length:=by omega
     obtain⟨ya,yc,hvs⟩:=HRow.out.slice;have HL2:=HRow.out;rw[hvs]at HL2
     have HIL:=zk (zgG HL2);rw[e9]at HIL
     have HVS:=zk hvs;rw[e9]at HVS
     have HBF:=zJ HB HB2.out;have HCF:=zk (HCols.out.q_ HB2.out)
     clear hvs HL2 HRow HB2 HAct e9;rw[HVS.out];go_wp2
     go_ret3
     exact⟨HBF.out,.inr ⟨rfl,xa,xc,ya,yc,rfl,HCF.out,HIL.out⟩⟩
def zoD (L:Nat) (w w':World) (e:Ending) (er:Int) (rs:List RV) (xs:List Rat):Prop:=Bl w w' /\
 ((er≠0/\e=.returned (.tuple #[slice none 0 0,.int .i64 er]))∨(er=0/\∃a c,e=.returned (.tuple #[slice a rs.length c,.int .i64 0])/\(rs.length<=c/\c<=9223372036854775807)/\Rf (KA L) w' a (rs.map (zbL xs))))
def zfA (cs:List CV) (rs:List RV) (xs:List Rat):Bool:=decide ((crl (bcB cs xs) cs.length).length=0) && decide ((crl (brB rs xs) rs.length).length=0)
def KV (L:Nat):Nat:=4+65*(2*L+1+1)
theorem zhd {K base w s x n c f y m d g q} (h:Rn K w s x n c f y m d g q) (hb:base<=w.heap.size):Gr K base (w.alloc (cells #[.bool s,slice x n c,slice y m d] 24)) (slice (some ⟨w.heap.size,0,none⟩) 1 1) [q]:=by
 refine⟨λ_=>⟨s,x,n,c,f,y,m,d,g⟩,⟨rfl,.inr ⟨w.heap.size,1,#[.bool s,slice x n c,slice y m d],rfl,hb,heap_alloc_new w _,le_refl _,by decide,rfl,rfl,zaa (zcD _ _ _ _ _ _ _)⟩⟩,λj q' e=>?_⟩;cases j with
 | zero=>cases e;exact h.alloc _
 | succ j=>simp at e
theorem zpq {w L M off cs rs ao k cap X xs er} (hW:MoW w M) (hx:Rl w ao k X) (hk:k<=1048576) (he:zcB M k X=er) (hv:er=0->MoV L w M off cs rs/\zbl cs rs=true/\Rf L w ao xs/\xs.length=k/\k=cs.length) (hL:L<=30) :
  Calls prog 71 #[M.val,slice ao k cap] w λe w'=>zoD L w w' e er rs xs:=by
 have CC:=zk (λW (hW2:Bl w W)=>zhQ (cap:=cap) (hW.q_ hW2) (hx.q_ hW2) hk);rw[he]at CC
 clear hW hx he;have HV:=zk hv;clear hv;have CA:Hid (er=0->∀W,Bl w W->Calls prog 105 #[M.val,slice ao k cap] W λe w'=>∃a c,e=.returned (slice a rs.length c)/\Bl W w'/\(rs.length<=c/\c<=9223372036854775807)/\Hid (Rf (KA L) w' a (rs.map (zbL xs)))):=λh0 W hW2=>by
  obtain⟨v1,v2,v3,v4,v5⟩:=HV.out h0;have mp:=zbk v2;exact zor (v1.q_ hW2) (v3.q_ hW2) v4 (λr hr t ht=>by have:=mp.tc r hr t ht;rw[v5];exact this) mp.rl mp.tl (by omega)
 obtain⟨⟨s,x,n,c,f,y,m,d,g⟩,ca,ck,cc,C,ra,rk,rc,R⟩:=M;replace CC:Hid (∀W,Bl w W->Calls prog 103 #[agg #[.bool s,slice x n c,slice y m d,slice ca ck cc,slice ra rk rc],slice ao k cap] W λe w'=>e=.returned (.int .i64 er)/\Bl W w'):=CC;replace CA:Hid (er=0->∀W,Bl w W->Calls prog 105 #[agg #[.bool s,slice x n c,slice y m d,slice ca ck cc,slice ra rk rc],slice ao k cap] W λe w'=>∃a c,e=.returned (slice a rs.length c)/\Bl W w'/\(rs.length<=c/\c<=9223372036854775807)/\Hid (Rf (KA L) w' a (rs.map (zbL xs)))):=CA;clear HV;show Calls prog 71 #[agg #[.bool s,slice x n c,slice y m d,slice ca ck cc,slice ra rk rc],slice ao k cap] w _;have hb:=zB w (cells #[.bool s,slice x n c,slice y m d,slice ca ck cc,slice ra rk rc] 28);have BM:=zk (zF w [.bool s,slice x n c,slice y m d,slice ca ck cc,slice ra rk rc] 28);have HB:=zk hb;clear hb;go_enter func71,ntmps71;go_wp2_with fail
 generalize w.alloc (cells #[.bool s,slice x n c,slice y m d,slice ca ck cc,slice ra rk rc] 28)=w0 at *;refine(CC.out _ HB.out).mono ?_;rintro e w1 ⟨rfl,hb⟩;replace HB:=zJ HB hb;replace BM:=zk (BM.out.q_ hb)
 clear hb CC;by_cases h0:er=0
 case neg =>
  have h1:(er != 0)=true:=by simpa using h0
  have H0:=zk h0;go_wp2
  go_ret2
  exact⟨HB.out,.inl ⟨H0.out,rfl⟩⟩
 have CA2:=zk (CA.out h0);subst h0;clear CA;obtain⟨r0,r1,r2,r3,r4⟩:=bk5 BM.out;go_wp2_with fail
 refine(CA2.out _ HB.out).mono ?_;rintro e w2 ⟨aa,ac,rfl,hb,hac,HR⟩;replace HB:=zJ HB hb;have HAC:=zk hac;clear hb hac r0 r1 r2 r3 r4 BM CA2;go_wp2
 go_ret2
 exact⟨HB.out,.inr ⟨rfl,aa,ac,rfl,HAC.out,HR.out⟩⟩
theorem zpp {w L M off cs rs ao k cap X xs er} (hW:MoW w M) (hx:Rl w ao k X) (hk:k<=1048576) (he:zcB M k X=er) (hv:er=0->MoV L w M off cs rs/\zbl cs rs=true/\Rf L w ao xs/\xs.length=k/\k=cs.length) (hL:L<=30) :
  Calls prog 36 #[M.val,slice ao k cap] w λe w'=>e=.returned (.tuple #[.bool (decide (er=0) && zfA cs rs xs),.int .i64 er])/\Bl w w':=by
 have CB:Hid (∀W,Bl w W->Calls prog 69 #[M.val,slice ao k cap] W λe w'=>zlc W w' e er cs rs xs):=λW hW2=>zly (hW.q_ hW2) (hx.q_ hW2) hk he (λh0=>⟨(hv h0).1.q_ hW2,(hv h0).2.1,(hv h0).2.2.1.q_ hW2,(hv h0).2.2.2⟩) hL
 clear hW hx hv he;obtain⟨⟨s,x,n,c,f,y,m,d,g⟩,ca,ck,cc,C,ra,rk,rc,R⟩:=M;replace CB:Hid (∀W,Bl w W->Calls prog 69 #[agg #[.bool s,slice x n c,slice y m d,slice ca ck cc,slice ra rk rc],slice ao k cap] W λe w'=>zlc W w' e er cs rs xs):=CB;obtain⟨l1,hl1⟩:∃z,(crl (bcB cs xs) cs.length).length=z:=⟨_,rfl⟩;obtain⟨l2,hl2⟩:∃z,(crl (brB rs xs) rs.length).length=z:=⟨_,rfl⟩;have HF:Hid (zfA cs rs xs=(decide (l1=0) && decide (l2=0))):=by show _=_;rw[zfA,hl1,hl2]
 unfold zlc at CB;rw[hl1,hl2]at CB
 clear hl1 hl2;show Calls prog 36 #[agg #[.bool s,slice x n c,slice y m d,slice ca ck cc,slice ra rk rc],slice ao k cap] w _;have HB:=zk (zB w (cells #[.bool s,slice x n c,slice y m d,slice ca ck cc,slice ra rk rc] 28));go_enter func36,ntmps36;go_wp2_with fail
 refine(CB.out _ HB.out).mono ?_;rintro e w1 ⟨hb,hans⟩;replace HB:=zJ HB hb;clear hb CB;rcases hans with⟨h0,rfl⟩|⟨h0,xa,xc,ya,yc,rfl,_,_⟩
 ·have h1:(er==0)=false:=by simpa using h0
  have HE:Hid (decide (er=0)=false):=decide_eq_false h0;clear h0;go_wp2
  go_ret2
  exact⟨by rw[HE.out];rfl,HB.out⟩
 ·subst h0;by_cases c1:l1=0
  ·subst c1;by_cases c2:l2=0
   ·subst c2;go_wp2
    go_ret2
    exact⟨by rw[HF.out];rfl,HB.out⟩
   ·have c3:(((l2:Nat):Int)==0)=false:=by simp;omega
    have HE:Hid (decide (l2=0)=false):=decide_eq_false c2;go_wp2
    go_ret2
    exact⟨by rw[HF.out,HE.out];rfl,HB.out⟩
  ·have c3:(((l1:Nat):Int)==0)=false:=by simp;omega
   have HE:Hid (decide (l1=0)=false):=decide_eq_false c1;go_wp2
   go_ret2
   exact⟨by rw[HF.out,HE.out];rfl,HB.out⟩
structure Cr (base:Nat) (w:World) (g ck:Nat) (V:Nat->Value) (E:Nat->List Nm) (X:Nat->Prop):Prop where
 bl:∃cur,w.heap[g]?=some (cells cur 29 (0,0))/\cur.size=ck/\NoU cur/\∀j,j<ck->cur[j]?=some (V j)
 ge:base<=g
 xg:¬X g
 row:∀j,j<ck->RowG 24 3 base w (V j) (E j).length (rcells (E j))
 ne:∀j,j<ck->(V j).ownBlock≠some g
 nx:∀j,j<ck->∀b,(V j).ownBlock=some b->¬X b
 dj:∀i j,i<ck->j<ck->i≠j->∀b,(V i).ownBlock=some b->(V j).ownBlock≠some b
theorem Cr.lt {base w g ck V E X} (h:Cr base w g ck V E X):g<w.heap.size:=by
 obtain⟨cur,h1,_⟩:=h.bl;exact(Array.getElem?_eq_some_iff.1 h1).1
theorem Cr.q_ {base w w' g ck V E X} (h:Cr base w g ck V E X) (hb:Bl w w'):Cr base w' g ck V E X:=by
 have hlt:=h.lt;obtain⟨cur,h1,h2⟩:=h.bl;exact⟨⟨cur,(hb.block g hlt).trans h1,h2⟩,h.ge,h.xg,λj hj=>(h.row j hj).q_ hb,h.ne,h.nx,h.dj⟩
theorem Cr.cell {base w g ck V E X} (h:Cr base w g ck V E X) {j} (hj:j<ck):w.cell? ⟨g,j,none⟩=some (V j):=by
 obtain⟨cur,h1,_,_,h2⟩:=h.bl;simp only[World.cell?,h1];simpa using h2 j hj
theorem Cr.unx {base w g ck V E X} (h:Cr base w g ck V E X) (Y:Nat->Prop) (hY:∀b,Y b->w.heap.size<=b):Cr base w g ck V E Y :=
 ⟨h.bl,h.ge,λhy=>by have:=hY g hy;have:=h.lt;omega,h.row,h.ne,λj hj b hb hy=>by have:=hY b hy;have:=((h.row j hj).lt b hb).2;omega,h.dj⟩
theorem Cr.congr {base w g ck V E E' X} (h:Cr base w g ck V E X) (he:∀j,j<ck->E j=E' j):Cr base w g ck V E' X :=
 ⟨h.bl,h.ge,h.xg,λj hj=>by rw[<-he j hj];exact h.row j hj,h.ne,h.nx,h.dj⟩
theorem Cr.put {base w w8 g ck V E X} (h:Cr base w g ck V E X) {c} (hc:c<ck) {g8 cap8 en x} (hen:(E c).length=en) (hX:∀b,X b->b<w.heap.size) (hr:RowG 24 3 base w8 (slice (some ⟨g8,0,none⟩) (en+1) cap8) (en+1) (rcells (E c)++rcell x)) (hg:∀k,k<w.heap.size->(V c).ownBlock≠some k->w8.heap[k]?=w.heap[k]?) (hl:(V c).ownBlock=some g8∨w.heap.size<=g8) :
  Cr base (w8.setCell ⟨g,c,none⟩ (slice (some ⟨g8,0,none⟩) (en+1) cap8)) g ck (zna V c (slice (some ⟨g8,0,none⟩) (en+1) cap8)) (λj=>if j=c then E c++[x] else E j) X:=by
 subst hen;have hgl:=h.lt;have hg8:g8≠g:=λe=>by
  rcases hl with h1|h1
  ·exact h.ne c hc (e ▸ h1)
  ·omega
 have hset:∀k,k≠g->(w8.setCell ⟨g,c,none⟩ (slice (some ⟨g8,0,none⟩) ((E c).length+1) cap8)).heap[k]?=w8.heap[k]?:=λk hk=>Below.heap_setCell _ _ _ _ hk
 obtain⟨cur,h1,h2,h3,h4⟩:=h.bl;have h8:w8.heap[g]?=some (cells cur 29 (0,0)):=(hg g hgl (h.ne c hc)).trans h1;refine⟨⟨cur.setIfInBounds c (slice (some ⟨g8,0,none⟩) ((E c).length+1) cap8),?_,by simpa using h2,?_,λj hj=>?_⟩,h.ge,h.xg,λj hj=>?_,λj hj=>?_,λj hj b hb=>?_,λi j hi hj hij b hb=>?_⟩
 ·simp[World.setCell,Array.getElem?_modify,h8]
 ·intro i z;by_cases e:i=c
  ·subst e;rw[Array.getElem?_setIfInBounds_self];split <;> simp
  ·rw[Array.getElem?_setIfInBounds_ne (Ne.symm e)];exact h3 i z
 ·by_cases e:j=c
  ·subst e;rw[zcQ];simp[h2,hj]
  ·rw[zcj e,Array.getElem?_setIfInBounds_ne (Ne.symm e)];exact h4 j hj
 ·by_cases e:j=c
  ·subst e;rw[zcQ];simp only[if_true,List.length_append,List.length_singleton];have:rcells (E j++[x])=rcells (E j)++rcell x:=by simp[rcells]
   rw[this];exact hr.of (λk hk=>hset k (λe=>by have:g8=k:=(by simpa[Value.ownBlock]using hk);omega))
  ·rw[zcj e];simp only[e,if_false];refine(h.row j hj).of (λk hk=>?_);have hk1:=((h.row j hj).lt k hk).2;rw[hset k (λe2=>h.ne j hj (e2 ▸ hk)),hg k hk1 (λe2=>h.dj c j hc hj (Ne.symm e) k e2 hk)]
 ·by_cases e:j=c
  ·subst e;rw[zcQ];intro e2;exact hg8 (by simpa[Value.ownBlock]using e2)
  ·rw[zcj e];exact h.ne j hj
 ·by_cases e:j=c
  ·subst e;rw[zcQ]at hb
   have hb':g8=b:=by simpa[Value.ownBlock]using hb
   intro hx;rcases hl with h5|h5
   ·exact h.nx j hj b (hb' ▸ h5) hx
   ·have:=hX b hx;omega
  ·rw[zcj e]at hb;exact h.nx j hj b hb
 ·by_cases e:i=c
  ·subst e;rw[zcQ]at hb
   have hb':g8=b:=by simpa[Value.ownBlock]using hb
   rw[zcj (Ne.symm hij)];intro h5;rcases hl with h6|h6
   ·exact h.dj i j hi hj hij g8 h6 (hb' ▸ h5)
   ·have:=((h.row j hj).lt b h5).2;omega
  ·rw[zcj e]at hb
   by_cases e2:j=c
   ·subst e2;rw[zcQ];intro h5;have hb':g8=b:=by simpa[Value.ownBlock]using h5
    rcases hl with h6|h6
    ·exact h.dj i j hi hj hij b hb (hb' ▸ h6)
    ·have:=((h.row i hi).lt b hb).2;omega
   ·rw[zcj e2];exact h.dj i j hi hj hij b hb
theorem znY {base w g ck} (hb:base<=g) (h:∃cur,w.heap[g]?=some (cells cur 29 (0,0))/\cur.size=ck/\NoU cur/\∀j,j<ck->cur[j]?=some (slice none 0 0)):Cr base w g ck (λ_=>slice none 0 0) (λ_=>[]) (λ_=>False) :=
 ⟨h,hb,λh=>h,λ_ _=>zak _ _ _ _,(λ_ _ h=>nomatch h),(λ_ _ _ h=>nomatch h),(λ_ _ _ _ _ _ h=>nomatch h)⟩
theorem znE:(prog.info? 29).map (λi=>(i.zero,i.size,i.bytes))=some (some (slice none 0 0),1,24):=by kernel_rfl
def Lv (L:Nat) (w:World) (E:List Nm) (p:List Rat):Prop:=E.length=p.length/\∀(j:Nat) (t:Nm) (q:Rat),E[j]?=some t->p[j]?=some q->NmV L w t q
theorem Lv.nil (L:Nat) (w:World):Lv L w [] []:=⟨rfl,λj t q h=>by simp at h⟩
theorem Lv.q_ {L w w' E p} (h:Lv L w E p) (hb:Bl w w'):Lv L w' E p:=⟨h.1,λj t q a b=>Rn.q_ (h.2 j t q a b) hb⟩
theorem Lv.kp {L w w' E p} (h:Lv L w E p) (hb:Kp w w'):Lv L w' E p:=⟨h.1,λj t q a b=>Rn.kp (h.2 j t q a b) hb⟩
theorem Lv.snoc {L w E p t q} (h:Lv L w E p) (hq:NmV L w t q):Lv L w (E++[t]) (p++[q]):=by
 refine⟨by rw[List.length_append,List.length_append,h.1];rfl,λj t' q' a b=>?_⟩;by_cases hj:j<E.length
 ·rw[List.getElem?_append_left hj]at a
  rw[List.getElem?_append_left (by rw[<-h.1];exact hj)]at b
  exact h.2 j t' q' a b
 ·rw[List.getElem?_append_right (by omega)]at a
  rw[List.getElem?_append_right (by rw[<-h.1];omega),<-h.1]at b
  obtain⟨k,hk⟩:∃k,j-E.length=k:=⟨_,rfl⟩;rw[hk]at a b
  cases k with
  | zero=>cases a;cases b;exact hq
  | succ k=>simp at a
def zbi (y:Rat):List (Int × Rat)->Nat->List Rat
 | [],_=>[]
 | (z,a) :: r,j=>(if z=(j:Int) then [-y*a] else [])++zbi y r j
def zW:List RV->List Rat->Nat->List Rat
 | v :: rs,y :: ys,j=>zbi y v.ts j++zW rs ys j
 | _,_,_=>[]
theorem zda {y}:∀{ts:List (Int × Rat)} {p:Nat} {z:Int} {a:Rat} (j:Nat),ts[p]?=some (z,a)->zbi y (ts.take (p+1)) j=zbi y (ts.take p) j++(if z=(j:Int) then [-y*a] else [])
 | [],p,z,a,j,h=>by simp at h
 | (z',a') :: r,0,z,a,j,h=>by
  have e:z'=z/\a'=a:=by simpa using h
  obtain⟨rfl,rfl⟩:=e;simp[zbi]
 | (z',a') :: r,p+1,z,a,j,h=>by
  simp only[List.take_succ_cons,zbi];rw[zda (ts:=r) (p:=p) j (by simpa using h),List.append_assoc]
theorem zcn:∀{rs:List RV} {ys:List Rat} {i:Nat} {v:RV} {y:Rat} (j:Nat),rs[i]?=some v->ys[i]?=some y->zW (rs.take (i+1)) (ys.take (i+1)) j=zW (rs.take i) (ys.take i) j++zbi y v.ts j
 | [],_,_,_,_,_,h,_=>by simp at h
 | _ :: _,[],_,_,_,_,_,h=>by simp at h
 | v' :: rs,y' :: ys,0,v,y,j,h,h2=>by
  have e1:v'=v:=by simpa using h
  have e2:y'=y:=by simpa using h2
  subst e1;subst e2
  simp[zW]
 | v' :: rs,y' :: ys,i+1,v,y,j,h,h2=>by
  simp only[List.take_succ_cons,zW];rw[zcn (rs:=rs) (ys:=ys) (i:=i) j (by simpa using h) (by simpa using h2),List.append_assoc]
theorem zim {y} {n j:Nat}:∀{ts:List (Int × Rat)} {z:Int},tsB n z ts=true->(j:Int)<=z->zbi y ts j=[]
 | [],_,_,_=>rfl
 | (z',q) :: r,z,h,hj=>by
  simp only[tsB,Bool.and_eq_true,decide_eq_true_eq]at h;simp only[zbi];rw[if_neg (by omega),zim h.2.2.2 (by omega)];rfl
theorem zcJ {y n j}:∀{ts:List (Int × Rat)} {z:Int},tsB n z ts=true->(zbi y ts j).length<=1
 | [],_,_=>by simp[zbi]
 | (z',q) :: r,z,h=>by
  simp only[tsB,Bool.and_eq_true,decide_eq_true_eq]at h;simp only[zbi];by_cases e:z'=(j:Int)
  ·rw[if_pos e,zim h.2.2.2 (by omega)];simp
  ·rw[if_neg e,List.nil_append];exact zcJ h.2.2.2
theorem zbE {n j}:∀{rs:List RV} {ys:List Rat},(∀v ∈ rs,tsB n (-1) v.ts=true)->(zW rs ys j).length<=rs.length
 | [],_,_=>by simp[zW]
 | _ :: _,[],_=>by simp[zW]
 | v :: rs,y :: ys,h=>by
  have h1:=zcJ (y:=y) (j:=j) (h v List.mem_cons_self);have h2:=zbE (rs:=rs) (ys:=ys) (j:=j) (λv' hv=>h v' (List.mem_cons_of_mem _ hv));simp only[zW,List.length_append,List.length_cons];omega
theorem zcN {n}:∀{ts:List (Int × Rat)} {z:Int} (i:Nat),tsB n z ts=true->tsB n z (ts.take i)=true
 | [],_,i,_=>by simp[tsB]
 | (y,q) :: r,z,0,_=>rfl
 | (y,q) :: r,z,i+1,h=>by
  simp only[tsB,Bool.and_eq_true,decide_eq_true_eq]at h;simp only[List.take_succ_cons,tsB,Bool.and_eq_true,decide_eq_true_eq];exact⟨h.1,h.2.1,h.2.2.1,zcN i h.2.2.2⟩
def zaB (rs:List RV) (ys:List Rat):Nat->List CV->List Rat
 | _,[]=>[]
 | j,v :: cs=>psum (zW rs ys j++[v.cost]) 0 :: zaB rs ys (j+1) cs
theorem zaX (rs:List RV) (ys:List Rat):∀(cs:List CV) (j:Nat),(zaB rs ys j cs).length=cs.length
 | [],_=>rfl
 | v :: cs,j=>by simp[zaB,zaX rs ys cs (j+1)]
theorem zdT (rs:List RV) (ys:List Rat):∀{cs:List CV} {i:Nat} {v:CV} (j:Nat),cs[i]?=some v->zaB rs ys j (cs.take (i+1))=zaB rs ys j (cs.take i)++[psum (zW rs ys (j+i)++[v.cost]) 0]
 | [],i,v,j,h=>by simp at h
 | v' :: cs,0,v,j,h=>by
  have e:v'=v:=by simpa using h
  subst e;simp[zaB]
 | v' :: cs,i+1,v,j,h=>by
  simp only[List.take_succ_cons,zaB];rw[zdT rs ys (cs:=cs) (i:=i) (j+1) (by simpa using h),show j+(i+1)=j+1+i by omega];rfl
theorem ziq {L w sa xa na ca fa ya ma da ga a sb xb nb cb fb yb mb db gb b} (ha:Rn L w sa xa na ca fa ya ma da ga a) (hb:Rn L w sb xb nb cb fb yb mb db gb b) (hL:L<=200000) :
  Calls prog 32 #[agg #[.bool sa,slice xa na ca,slice ya ma da],agg #[.bool sb,slice xb nb cb,slice yb mb db]] w λe w'=>zct (2*L+1) w w' e (a*b):=by
 have h1:=((ha.alloc (cells #[.bool sa,slice xa na ca,slice ya ma da] 24)).alloc (cells #[.bool sb,slice xb nb cb,slice yb mb db] 24)).alloc (cells #[.bool false,slice none 0 0,slice none 0 0] 24);have h2:=((hb.alloc (cells #[.bool sa,slice xa na ca,slice ya ma da] 24)).alloc (cells #[.bool sb,slice xb nb cb,slice yb mb db] 24)).alloc (cells #[.bool false,slice none 0 0,slice none 0 0] 24);have h3:=zaA ((w.alloc (cells #[.bool sa,slice xa na ca,slice ya ma da] 24)).alloc (cells #[.bool sb,slice xb nb cb,slice yb mb db] 24)) 24;rw[zw,zw]at h3
 have h4:=zu (zu (zB w (cells #[.bool sa,slice xa na ca,slice ya ma da] 24)) (cells #[.bool sb,slice xb nb cb,slice yb mb db] 24)) (cells #[.bool false,slice none 0 0,slice none 0 0] 24);clear ha hb;go_enter func32,ntmps32;go_wp2_with fail
 generalize((w.alloc (cells #[.bool sa,slice xa na ca,slice ya ma da] 24)).alloc (cells #[.bool sb,slice xb nb cb,slice yb mb db] 24)).alloc (cells #[.bool false,slice none 0 0,slice none 0 0] 24)=w1 at *;have OB1:=zk h3;have HW1:=zk h4
 refine(zjd h1 h2 hL).mono ?_;clear h1 h2 h3 h4;rintro e w2 ⟨s,x,n,c,f,y,m,d,g,rfl,hb2,hq⟩;have hob:=OB1.out.q_ hb2;have hbw:=bUp HW1.out hb2;obtain⟨hz,z0,z1,z2,zf⟩:=OB1.out.q_ hb2;have HQ:=zk hq;have HOB:=zk hob;have HBW:=zk hbw
 clear hq hob hbw hb2 OB1 HW1;go_wp2;exact bodyPost_ret (v:=agg #[.bool s,slice x n c,slice y m d]) (by simp[results,results32,go_sem,z0,z1,z2,hz]) rfl ⟨s,x,n,c,f,y,m,d,g,rfl,zu (zU HBW.out (by omega)) _,(HOB.out.rn HQ.out).alloc _⟩
end Go.Proofs.YtlbgphjdibbkjaaGreat
