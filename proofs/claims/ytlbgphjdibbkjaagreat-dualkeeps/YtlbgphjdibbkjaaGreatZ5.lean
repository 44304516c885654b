/-
 Walks.
-/
import Derived.Test.YtlbgphjdibbkjaaGreatZ4
import Derived.ProofKit
import Derived.OpenShut
import Derived.ChangeSame
import Derived.Deep.Slices
import Derived.SizedLaws
import Derived.Test.YtlbgphjdibbkjaaGreatRows
import Derived.Test.YtlbgphjdibbkjaaGreatChecked
import Derived.Deep.DeepHandedRow
import Derived.Test.YtlbgphjdibbkjaaGreatZ3
import Derived.Test.YtlbgphjdibbkjaaGreatZ2
import Derived.BigQuiet
import Derived.Deep.RegionHeld3
import Derived.Test.YtlbgphjdibbkjaaGreatZ0
set_option maxRecDepth 100000
set_option maxHeartbeats 16000000
namespace Go.Proofs.YtlbgphjdibbkjaaGreat
open Value (slice agg)
open Obj (cells)
open Ending (returned)
open Nat (le_refl le_trans)
open World (cell?_of_block block_lt_of_cell?)
open List (getElem?_eq_getElem)
open Go.Proofs.Tryz
open Go.ChangeShapes Go.WideShapes Go.ChangeAt Go.RowKit
theorem zkU {H:Type} {P:Program} {e:TypeId}:∀{l:List (DataW H)} {d:DataW H},d ∈ l->∀n ∈ d.weights P e,n ∈ DataW.weightsAll P e l
 | x :: l,d,h,n,hn=>by
  simp only[DataW.weightsAll,List.mem_append];rcases List.mem_cons.1 h with rfl|h
  ·exact .inl hn
  ·exact .inr (zkU h n hn)
def Wt {H:Type} (P:Program) (t:TypeId) (x:DataW H × List MemPlace):Prop:=∀n ∈ x.1.weights P t,n<=reachBytes
theorem zcX {H:Type} {enc:TypeId × Value->H} {P:Program} {w:World} {t:TypeId} {fs:Array Field} {fuel:Nat} {cs:List Value} {x:DataW H × List MemPlace} (ht:P.underlying t=some (.struct fs)) (h:DataW.trod enc P w 0 (λ_=>true) true fuel t cs=some x) (hw:Wt P t x) :
  ∃k,∀(i:Nat) (f:Field),fs[i]?=some f->∃y,DataW.trod enc P w 0 (λ_=>true) true k f.type ((cs.drop f.offset).take (P.cellsOf f.type))=some y/\Wt P f.type y:=by
 obtain⟨xs,k,_,rfl,_,hlen,hf⟩:=DataW.trod_struct ht h;refine⟨k,λi f hi=>?_⟩;have hlt:i<xs.length:=by rw[hlen];exact(Array.getElem?_eq_some_iff.1 hi).1
 refine⟨xs[i],by rw[hf i f hi,getElem?_eq_getElem hlt],λn hn=>hw n ?_⟩;show n ∈ (DataW.agg (xs.map (·.1))).weights P t;simp only[DataW.weights,ht];refine DataW.weights_mem_each (j:=i) (t:=f.type) (d:=(xs[i]).1) ?_ ?_ n hn
 ·simp[hi]
 ·simp[hlt]
theorem sliceW {H:Type} {enc:TypeId × Value->H} {P:Program} {w:World} {t e:TypeId} {fuel:Nat} {cs:List Value} {x:DataW H × List MemPlace} (ht:P.underlying t=some (.slice e)) (h:DataW.trod enc P w 0 (λ_=>true) true fuel t cs=some x) (hw:Wt P t x) :
  cs=[slice none 0 0]∨∃(a:Addr) (len cap k:Nat),cs=[slice (some a) len cap]/\len<=cap/\cap<=maxLen/\cap*P.bytesOf e<=reachBytes /\
   ∀i,i<len->∃cs' y,w.cells? 0 (a.add (i*P.cellsOf e)) (P.cellsOf e)=some cs'/\DataW.trod enc P w 0 (λ_=>true) true k e cs'=some y/\Wt P e y:=by
 rcases Go.Deep.open_slice ht h with⟨hcs,_⟩|⟨a,len,cap,m,n,D,Pl,hcs,_,hl,hm,hmm,rfl,hel⟩
 ·exact .inl hcs
 ·simp only[if_true]at hmm;subst hmm;refine .inr ⟨a,len,m,n,hcs,hl,hm,?_,λi hi=>?_⟩
  ·refine hw _ ?_;simp only[DataW.weights,ht,List.length_map,List.length_range];rw[show len+(m-len)=m by omega];exact List.mem_cons_self
  ·obtain⟨cs',h1,h2⟩:=hel i (by omega);refine⟨cs',_,h1,h2,λk hk=>hw k ?_⟩;simp only[DataW.weights,ht];exact List.mem_cons_of_mem _ (List.mem_append_left _ (zkU (d:=D i) (List.mem_map.2 ⟨i,List.mem_range.2 hi,rfl⟩) k hk))
theorem Tryz.bytesU64:prog.bytesOf 49=8:=by kernel_rfl
theorem Tryz.bytesTerm:prog.bytesOf 65=64:=by kernel_rfl
theorem Tryz.bytesCol:prog.bytesOf 60=200:=by kernel_rfl
theorem Tryz.bytesRow:prog.bytesOf 63=168:=by kernel_rfl
theorem Tryz.cellsU:prog.cellsOf 49=1:=by kernel_rfl
theorem Tryz.cellsTerm:prog.cellsOf 65=4:=by kernel_rfl
theorem Tryz.cellsCol:prog.cellsOf 60=12:=by kernel_rfl
theorem Tryz.cellsRow:prog.cellsOf 63=10:=by kernel_rfl
theorem zmc {H:Type} {enc:TypeId × Value->H} {W:World} {fuel:Nat} {v:Value} {x:DataW H × List MemPlace} (h:DataW.trod enc prog W 0 (λ_=>true) true fuel 22 [v]=some x) (hw:Wt prog 22 x) :
  ∃ao n cap f,v=slice ao n cap/\Rd .u64 W ao n f/\Lm f n/\(ao=none->n=0/\cap=0)/\(n<=cap/\cap<=9223372036854775807)/\n<=17592186044416:=by
 rcases open_ints underlying22 underlying49 Tryz.cellsU h with⟨hcs,hx⟩|⟨a,len',cap',zs,hcs,_,hl,hm,hz,hx,hcell,hwz⟩
 ·simp at hcs;subst hcs;exact⟨none,0,0,λ_=>0,rfl,Rd.zero,λj hj=>by omega,λ_=>⟨rfl,rfl⟩,⟨by omega,by omega⟩,by omega⟩
 ·simp at hcs;subst hcs;simp only[if_true]at hz;have hb:cap'*8<=reachBytes:=by
   have:cap'*prog.bytesOf 49<=reachBytes:=by
    refine hw _ ?_;rw[hx];simp only[DataW.weights,underlying22];have e:(lits .u64 (zs.take len'):List (DataW H)).length+(lits .u64 (zs.drop len'):List (DataW H)).length=cap':=by simp[lits];omega
    rw[e];exact List.mem_cons_self
   rw[Tryz.bytesU64]at this
   exact this
  refine⟨some a,len',cap',λj=>zs.getD j 0,rfl,λj hj=>?_,λj hj=>?_,(λh=>by cases h),⟨hl,by unfold maxLen at hm;omega⟩,by unfold reachBytes at hb;omega⟩
  ·obtain⟨b,off,spot⟩:=a;have hspot:spot=none:=by simpa[Addr.add]using World.cell?_spot (hcell 0 (by omega))
   subst hspot;exact⟨b,off,rfl,by have:=hcell j (by omega);rwa[addr_add]at this⟩
  ·have hmem:zs.getD j 0 ∈ zs:=by
    rw[List.getD_eq_getElem?_getD,getElem?_eq_getElem (by omega)];exact List.getElem_mem _
   have:=bounds_u64 (hwz _ hmem);show 0<=zs.getD j 0/\zs.getD j 0<18446744073709551616;omega
theorem zeW {H:Type} {enc:TypeId × Value->H} {W:World} {k:Nat} {c0 c1 c2:Value} {z:DataW H × List MemPlace} (hf:DataW.trod enc prog W 0 (λ_=>true) true k 24 [c0,c1,c2]=some z) (hw:Wt prog 24 z) :
  ∃t:Nm,c0=.bool t.s/\c1=slice t.x t.n t.c/\c2=slice t.y t.m t.d/\NmB W t:=by
 obtain⟨k,hk⟩:=zcX underlying24 hf hw;obtain⟨y0,h0,_⟩:=hk 0 _ rfl;obtain⟨y1,h1,w1⟩:=hk 1 _ rfl;obtain⟨y2,h2,w2⟩:=hk 2 _ rfl;have h0':DataW.trod enc prog W 0 (λ_=>true) true k 4 [c0]=some y0:=h0;have h1':DataW.trod enc prog W 0 (λ_=>true) true k 22 [c1]=some y1:=h1;have h2':DataW.trod enc prog W 0 (λ_=>true) true k 22 [c2]=some y2:=h2;obtain⟨s,hs,_⟩:=DataW.trod_bool underlying4 h0';obtain⟨ao,n,cap,f,rfl,hr,hlm,hnil,hc,hl⟩:=zmc h1' w1;obtain⟨bo,m,cap',g,rfl,hr',hlm',hnil',hc',hl'⟩:=zmc h2' w2;simp at hs;exact⟨⟨s,ao,n,cap,f,bo,m,cap',g⟩,hs,rfl,rfl,⟨hr,hlm,hc,hnil,hr',hlm',hc',hnil'⟩,hl,hl'⟩
theorem zgs {H:Type} {enc:TypeId × Value->H} {W:World} {k:Nat} {c0 c1 c2 c3:Value} {z:DataW H × List MemPlace} (hf:DataW.trod enc prog W 0 (λ_=>true) true k 40 [c0,c1,c2,c3]=some z) (hw:Wt prog 40 z) :
  ∃e:Ex,c0=.int .i64 e.i/\c1=.bool e.v.s/\c2=slice e.v.x e.v.n e.v.c/\c3=slice e.v.y e.v.m e.v.d/\NmB W e.v:=by
 obtain⟨k,hk⟩:=zcX underlying40 hf hw;obtain⟨y0,h0,_⟩:=hk 0 _ rfl;obtain⟨y1,h1,w1⟩:=hk 1 _ rfl;have h0':DataW.trod enc prog W 0 (λ_=>true) true k 3 [c0]=some y0:=h0;have h1':DataW.trod enc prog W 0 (λ_=>true) true k 24 [c1,c2,c3]=some y1:=h1;obtain⟨i,hi,_⟩:=DataW.trod_int underlying3 h0';obtain⟨t,e1,e2,e3,ht⟩:=zeW h1' w1;simp at hi;exact⟨⟨i,t⟩,hi,e1,e2,e3,ht⟩
theorem zbG {w:World} {base n:Nat} {a:Addr} {cs:List Value} (h:w.cells? base a n=some cs):cs.length=n/\∀(i:Nat) u,cs[i]?=some u->w.cell? (a.add i)=some u:=by
 obtain⟨_,h1,h2⟩:=World.cells?_some h;refine⟨h1,λi u hi=>?_⟩;have hlt:i<n:=by rw[<-h1];exact(List.getElem?_eq_some_iff.1 hi).1
 rw[<-hi];exact h2 i hlt
theorem ziz (a:Addr) (j i:Nat):(a.add j).add i=a.add (j+i):=by
 obtain⟨b,o,s⟩:=a;by_cases hj:j=0
 ·subst hj;by_cases hi:i=0
  ·subst hi;simp[Addr.add]
  ·simp[Addr.add,hi]
 ·by_cases hi:i=0
  ·subst hi;simp[Addr.add,hj]
  ·simp[Addr.add,hi,hj,Nat.add_assoc]
theorem zkK {w:World} {base n:Nat} {b o j:Nat} {cs:List Value} (h:w.cells? base (Addr.add ⟨b,o,none⟩ (j*n)) n=some cs):Cs w b (o+j*n) cs:=λi v e=>by
 have:=(zbG h).2 i v e;rw[ziz,addr_add]at this
 rw[Nat.add_assoc];exact this
theorem zeB {w:World} {base n:Nat} {a:Addr} {cs:List Value} (h:w.cells? base (a.add (0*n)) n=some cs) (hn:0<n):a.spot=none:=by
 obtain⟨h1,h2⟩:=zbG h;have:=h2 0 cs[0] (getElem?_eq_getElem (by omega));rw[ziz,Nat.zero_mul]at this
 simpa[Addr.add]using World.cell?_spot this
theorem zqA {H:Type} {enc:TypeId × Value->H} {W:World} {fuel:Nat} {v:Value} {x:DataW H × List MemPlace} (h:DataW.trod enc prog W 0 (λ_=>true) true fuel 61 [v]=some x) (hw:Wt prog 61 x) :
  ∃ta tk tc col T,v=slice ta tk tc/\Tr W ta tk col T/\tk<=2199023255552/\∀p,p<tk->(T p).n<=17592186044416/\(T p).m<=17592186044416:=by
 rcases sliceW underlying61 h hw with hcs|⟨a,len,cap,k,hcs,hl,hm,hb,hel⟩
 ·simp at hcs;exact⟨none,0,0,λ_=>0,λ_=>nz9,hcs,λj hj=>by omega,by omega,λj hj=>by omega⟩
 ·simp at hcs;rw[Tryz.cellsTerm]at hel
  rw[Tryz.bytesTerm]at hb
  have hX:∀j,∃zt:Int × Nm,j<len->W.cells? 0 (a.add (j*4)) 4=some [.int .i64 zt.1,.bool zt.2.s,slice zt.2.x zt.2.n zt.2.c,slice zt.2.y zt.2.m zt.2.d]/\NmB W zt.2:=λj=>by
   by_cases hj:j<len
   ·obtain⟨cs',y,h1,h2,w2⟩:=hel j hj
    match cs',(zbG h1).1 with
    | [c0,c1,c2,c3],_ =>
     obtain⟨k',hk⟩:=zcX underlying65 h2 w2;obtain⟨y0,g0,_⟩:=hk 0 _ rfl;obtain⟨y1,g1,w1⟩:=hk 1 _ rfl;have g0':DataW.trod enc prog W 0 (λ_=>true) true k' 3 [c0]=some y0:=g0;have g1':DataW.trod enc prog W 0 (λ_=>true) true k' 24 [c1,c2,c3]=some y1:=g1;obtain⟨i,hi,_⟩:=DataW.trod_int underlying3 g0';obtain⟨t,e1,e2,e3,ht⟩:=zeW g1' w1;simp at hi;subst hi;subst e1;subst e2;subst e3
     exact⟨(i,t),λ_=>⟨h1,ht⟩⟩
   ·exact⟨(0,nz9),λh=>absurd h hj⟩
  have hX':∃Z:Nat->Int × Nm,∀j,j<len->W.cells? 0 (a.add (j*4)) 4=some [.int .i64 (Z j).1,.bool (Z j).2.s,.slice (Z j).2.x (Z j).2.n (Z j).2.c,.slice (Z j).2.y (Z j).2.m (Z j).2.d]/\NmB W (Z j).2:=⟨λj=>Classical.choose (hX j),λj=>Classical.choose_spec (hX j)⟩;obtain⟨Z,hZ⟩:=hX';refine⟨some a,len,cap,λj=>(Z j).1,λj=>(Z j).2,hcs,λj hj=>?_,by unfold reachBytes at hb;omega,λp hp=>(hZ p hp).2.2⟩;have hs:=zeB (n:=4) (hZ 0 (by omega)).1 (by decide);obtain⟨b,o,sp⟩:=a;simp only at hs;subst hs;exact⟨b,o,rfl,cs4 (zkK (hZ j hj).1),(hZ j hj).2.1⟩
theorem zqE {H:Type} {enc:TypeId × Value->H} {W:World} {k:Nat} {c0 c1 c2 c3 c4 c5 c6 c7 c8 c9 c10 c11:Value} {z:DataW H × List MemPlace} (hf:DataW.trod enc prog W 0 (λ_=>true) true k 60 [c0,c1,c2,c3,c4,c5,c6,c7,c8,c9,c10,c11]=some z) (hw:Wt prog 60 z) :
  ∃c:Lc,[c0,c1,c2,c3,c4,c5,c6,c7,c8,c9,c10,c11]=c.vs/\LcB W c/\c.nm.size<=9223372036854775807:=by
 obtain⟨k,hk⟩:=zcX underlying60 hf hw;obtain⟨y0,h0,_⟩:=hk 0 _ rfl;obtain⟨y1,h1,w1⟩:=hk 1 _ rfl;obtain⟨y2,h2,w2⟩:=hk 2 _ rfl;obtain⟨y3,h3,w3⟩:=hk 3 _ rfl;have h0':DataW.trod enc prog W 0 (λ_=>true) true k 9 [c0]=some y0:=h0;have h1':DataW.trod enc prog W 0 (λ_=>true) true k 24 [c1,c2,c3]=some y1:=h1;have h2':DataW.trod enc prog W 0 (λ_=>true) true k 40 [c4,c5,c6,c7]=some y2:=h2;have h3':DataW.trod enc prog W 0 (λ_=>true) true k 40 [c8,c9,c10,c11]=some y3:=h3;obtain⟨s,hs,_,hz⟩:=DataW.trod_string underlying9 h0';obtain⟨t,rfl,rfl,rfl,ht⟩:=zeW h1' w1;obtain⟨e1,rfl,rfl,rfl,rfl,he1⟩:=zgs h2' w2;obtain⟨e2,rfl,rfl,rfl,rfl,he2⟩:=zgs h3' w3;simp at hs;subst hs;exact⟨⟨s,t,e1,e2⟩,rfl,⟨ht,he1,he2⟩,by unfold maxLen at hz;exact le_trans hz (by decide)⟩
theorem zqB {H:Type} {enc:TypeId × Value->H} {W:World} {k:Nat} {c0 c1 c2 c3 c4 c5 c6 c7 c8 c9:Value} {z:DataW H × List MemPlace} (hf:DataW.trod enc prog W 0 (λ_=>true) true k 63 [c0,c1,c2,c3,c4,c5,c6,c7,c8,c9]=some z) (hw:Wt prog 63 z) :
  ∃r:Lr,[c0,c1,c2,c3,c4,c5,c6,c7,c8,c9]=r.vs/\LrB W r/\r.nm.size<=9223372036854775807:=by
 obtain⟨k,hk⟩:=zcX underlying63 hf hw;obtain⟨y0,h0,_⟩:=hk 0 _ rfl;obtain⟨y1,h1,w1⟩:=hk 1 _ rfl;obtain⟨y2,h2,w2⟩:=hk 2 _ rfl;obtain⟨y3,h3,w3⟩:=hk 3 _ rfl;have h0':DataW.trod enc prog W 0 (λ_=>true) true k 9 [c0]=some y0:=h0;have h1':DataW.trod enc prog W 0 (λ_=>true) true k 40 [c1,c2,c3,c4]=some y1:=h1;have h2':DataW.trod enc prog W 0 (λ_=>true) true k 40 [c5,c6,c7,c8]=some y2:=h2;have h3':DataW.trod enc prog W 0 (λ_=>true) true k 61 [c9]=some y3:=h3;obtain⟨s,hs,_,hz⟩:=DataW.trod_string underlying9 h0';obtain⟨e1,rfl,rfl,rfl,rfl,he1⟩:=zgs h1' w1;obtain⟨e2,rfl,rfl,rfl,rfl,he2⟩:=zgs h2' w2;obtain⟨ta,tk,tc,col,T,rfl,ht,hk',hn⟩:=zqA h3' w3;simp at hs;subst hs;exact⟨⟨s,e1,e2,ta,tk,tc,col,T⟩,rfl,⟨he1,he2,ht,hk',hn⟩,by unfold maxLen at hz;exact le_trans hz (by decide)⟩
theorem zoE {H:Type} {enc:TypeId × Value->H} {W:World} {fuel:Nat} {v:Value} {x:DataW H × List MemPlace} (h:DataW.trod enc prog W 0 (λ_=>true) true fuel 25 [v]=some x) (hw:Wt prog 25 x) :
  ∃ca ck cc C,v=slice ca ck cc/\Cl9 W ca ck C/\ck<=703687441776/\(ck<=cc/\cc<=9223372036854775807)/\∀j,j<ck->(C j).nm.size<=9223372036854775807:=by
 have z9:Lc:=⟨ByteArray.empty,nz9,⟨0,nz9⟩,⟨0,nz9⟩⟩;rcases sliceW underlying25 h hw with hcs|⟨a,len,cap,k,hcs,hl,hm,hb,hel⟩
 ·simp at hcs;exact⟨none,0,0,λ_=>z9,hcs,λj hj=>by omega,by omega,⟨by omega,by omega⟩,λj hj=>by omega⟩
 ·simp at hcs;rw[Tryz.cellsCol]at hel
  rw[Tryz.bytesCol]at hb
  have hX:∀j,∃c:Lc,j<len->W.cells? 0 (a.add (j*12)) 12=some c.vs/\LcB W c/\c.nm.size<=9223372036854775807:=λj=>by
   by_cases hj:j<len
   ·obtain⟨cs',y,h1,h2,w2⟩:=hel j hj
    match cs',(zbG h1).1 with
    | [c0,c1,c2,c3,c4,c5,c6,c7,c8,c9,c10,c11],_ =>
     obtain⟨c,e,hc,hn⟩:=zqE h2 w2;rw[e]at h1
     exact⟨c,λ_=>⟨h1,hc,hn⟩⟩
   ·exact⟨z9,λh=>absurd h hj⟩
  have hX':∃Z:Nat->Lc,∀j,j<len->W.cells? 0 (a.add (j*12)) 12=some (Z j).vs/\LcB W (Z j)/\(Z j).nm.size<=9223372036854775807:=⟨λj=>Classical.choose (hX j),λj=>Classical.choose_spec (hX j)⟩;obtain⟨Z,hZ⟩:=hX';refine⟨some a,len,cap,Z,hcs,λj hj=>?_,by unfold reachBytes at hb;omega,⟨hl,by unfold maxLen at hm;omega⟩,λj hj=>(hZ j hj).2.2⟩;have hs:=zeB (n:=12) (hZ 0 (by omega)).1 (by decide);obtain⟨b,o,sp⟩:=a;simp only at hs;subst hs;exact⟨b,o,rfl,zkK (hZ j hj).1,(hZ j hj).2.1⟩
theorem zoD {H:Type} {enc:TypeId × Value->H} {W:World} {fuel:Nat} {v:Value} {x:DataW H × List MemPlace} (h:DataW.trod enc prog W 0 (λ_=>true) true fuel 26 [v]=some x) (hw:Wt prog 26 x) :
  ∃ra rk rc R,v=slice ra rk rc/\Rl9 W ra rk R/\rk<=837723144971/\(rk<=rc/\rc<=9223372036854775807)/\∀j,j<rk->(R j).nm.size<=9223372036854775807:=by
 have z9:Lr:=⟨ByteArray.empty,⟨0,nz9⟩,⟨0,nz9⟩,none,0,0,λ_=>0,λ_=>nz9⟩;rcases sliceW underlying26 h hw with hcs|⟨a,len,cap,k,hcs,hl,hm,hb,hel⟩
 ·simp at hcs;exact⟨none,0,0,λ_=>z9,hcs,λj hj=>by omega,by omega,⟨by omega,by omega⟩,λj hj=>by omega⟩
 ·simp at hcs;rw[Tryz.cellsRow]at hel
  rw[Tryz.bytesRow]at hb
  have hX:∀j,∃c:Lr,j<len->W.cells? 0 (a.add (j*10)) 10=some c.vs/\LrB W c/\c.nm.size<=9223372036854775807:=λj=>by
   by_cases hj:j<len
   ·obtain⟨cs',y,h1,h2,w2⟩:=hel j hj
    match cs',(zbG h1).1 with
    | [c0,c1,c2,c3,c4,c5,c6,c7,c8,c9],_ =>
     obtain⟨c,e,hc,hn⟩:=zqB h2 w2;rw[e]at h1
     exact⟨c,λ_=>⟨h1,hc,hn⟩⟩
   ·exact⟨z9,λh=>absurd h hj⟩
  have hX':∃Z:Nat->Lr,∀j,j<len->W.cells? 0 (a.add (j*10)) 10=some (Z j).vs/\LrB W (Z j)/\(Z j).nm.size<=9223372036854775807:=⟨λj=>Classical.choose (hX j),λj=>Classical.choose_spec (hX j)⟩;obtain⟨Z,hZ⟩:=hX';refine⟨some a,len,cap,Z,hcs,λj hj=>?_,by unfold reachBytes at hb;omega,⟨hl,by unfold maxLen at hm;omega⟩,λj hj=>(hZ j hj).2.2⟩;have hs:=zeB (n:=10) (hZ 0 (by omega)).1 (by decide);obtain⟨b,o,sp⟩:=a;simp only at hs;subst hs;exact⟨b,o,rfl,zkK (hZ j hj).1,(hZ j hj).2.1⟩
theorem Tryz.cellsM:prog.cellsOf 28=5:=by kernel_rfl
theorem Tryz.readM:prog.readableRec 28=true:=by kernel_rfl
theorem Tryz.sizeM:28<prog.types.size:=of_decide_eq_true (by kernel_rfl)
theorem zrV {H:Type} {enc:TypeId × Value->H} {W:World} {base:Nat} {v:Value} {d:DataW H} {p:List MemPlace} (hok:Value.okWide prog W .any base 28 v) (h:DataW.Trod enc prog W 0 (λ_=>true) true 28 v d p) (hw:∀n ∈ d.weights prog 28,n<=reachBytes) :
  ∃M:Mo,v=M.val/\MoX W M/\MoN M/\MoC M:=by
 obtain⟨cs,rfl,hsz⟩:=okWide_struct underlying28 hok;rw[Tryz.cellsM]at hsz
 obtain⟨fuel,hf⟩:=h;obtain⟨l⟩:=cs
 match l,hsz with
 | [c0,c1,c2,c3,c4],_ =>
  obtain⟨k,hk⟩:=zcX (x:=(d,p)) underlying28 hf hw;obtain⟨y0,h0,w0⟩:=hk 0 _ rfl;obtain⟨y1,h1,w1⟩:=hk 1 _ rfl;obtain⟨y2,h2,w2⟩:=hk 2 _ rfl;have h0':DataW.trod enc prog W 0 (λ_=>true) true k 24 [c0,c1,c2]=some y0:=h0;have h1':DataW.trod enc prog W 0 (λ_=>true) true k 25 [c3]=some y1:=h1;have h2':DataW.trod enc prog W 0 (λ_=>true) true k 26 [c4]=some y2:=h2;obtain⟨t,rfl,rfl,rfl,ht⟩:=zeW h0' w0;obtain⟨ca,ck,cc,C,rfl,hC,hck,hcc,hcn⟩:=zoE h1' w1;obtain⟨ra,rk,rc,R,rfl,hR,hrk,hrc,hrn⟩:=zoD h2' w2;exact⟨⟨t,ca,ck,cc,C,ra,rk,rc,R⟩,rfl,⟨ht,hC,hR,hck,hrk⟩,⟨hcn,hrn⟩,hcc,hrc⟩
end Go.Proofs.YtlbgphjdibbkjaaGreat
namespace Go.Proofs.YtlbgphjdibbkjaaGreat
open Value (slice agg)
open Obj (cells)
open Ending (returned)
open Nat (le_refl le_trans)
open World (cell?_of_block block_lt_of_cell?)
open List (getElem?_eq_getElem)
open Go.Proofs.Tryz
open Go.ChangeShapes Go.WideShapes Go.ChangeAt Go.RowKit
theorem Tryz.own:ownKnob prog.godebug=none:=by kernel_rfl
theorem Tryz.laidOut:laidOutB prog=true:=by kernel_rfl
end Go.Proofs.YtlbgphjdibbkjaaGreat
namespace Go.Proofs.YtlbgphjdibbkjaaGreat
open Value (slice agg)
open Obj (cells)
open Ending (returned)
open Nat (le_refl le_trans)
open World (cell?_of_block block_lt_of_cell?)
open List (getElem?_eq_getElem)
open Go.Proofs.Tryz
open Go.ChangeShapes Go.WideShapes Go.ChangeAt Go.RowKit
theorem Tryz.bytesRat:prog.bytesOf 24=56:=by kernel_rfl
theorem Tryz.cellsRat:prog.cellsOf 24=3:=by kernel_rfl
theorem zqD {H:Type} {enc:TypeId × Value->H} {W:World} {fuel:Nat} {v:Value} {x:DataW H × List MemPlace} (h:DataW.trod enc prog W 0 (λ_=>true) true fuel 29 [v]=some x) (hw:Wt prog 29 x) :
  ∃ao k c X,v=slice ao k c/\Rr W ao k X/\k<=9223372036854775807:=by
 rcases sliceW underlying29 h hw with hcs|⟨a,len,cap,k,hcs,hl,hm,hb,hel⟩
 ·simp at hcs;exact⟨none,0,0,λ_=>nz9,hcs,λj hj=>by omega,by omega⟩
 ·simp at hcs;rw[Tryz.cellsRat]at hel
  rw[Tryz.bytesRat]at hb
  have hX:∀j,∃t:Nm,j<len->W.cells? 0 (a.add (j*3)) 3=some [.bool t.s,slice t.x t.n t.c,slice t.y t.m t.d]/\NmB W t:=λj=>by
   by_cases hj:j<len
   ·obtain⟨cs',y,h1,h2,w2⟩:=hel j hj
    match cs',(zbG h1).1 with
    | [c0,c1,c2],_ =>
     obtain⟨t,e1,e2,e3,ht⟩:=zeW h2 w2;subst e1;subst e2;subst e3
     exact⟨t,λ_=>⟨h1,ht⟩⟩
   ·exact⟨nz9,λh=>absurd h hj⟩
  have hX':∃Z:Nat->Nm,∀j,j<len->W.cells? 0 (a.add (j*3)) 3=some [.bool (Z j).s,.slice (Z j).x (Z j).n (Z j).c,.slice (Z j).y (Z j).m (Z j).d]/\NmB W (Z j):=⟨λj=>Classical.choose (hX j),λj=>Classical.choose_spec (hX j)⟩;obtain⟨Z,hZ⟩:=hX';refine⟨some a,len,cap,Z,hcs,λj hj=>?_,by unfold reachBytes at hb;omega⟩;have hs:=zeB (n:=3) (hZ 0 (by omega)).1 (by decide);obtain⟨b,o,sp⟩:=a;simp only at hs;subst hs;have hc:=zkK (hZ j hj).1;exact⟨b,o,rfl,⟨hc 0 _ rfl,hc 1 _ rfl,hc 2 _ rfl⟩,(hZ j hj).2.1⟩
theorem Tryz.readQq:prog.readableRec 29=true:=by kernel_rfl
theorem Tryz.sizeQq:29<prog.types.size:=of_decide_eq_true (by kernel_rfl)
theorem zqC {H:Type} {enc:TypeId × Value->H} {W:World} {base:Nat} {v:Value} {d:DataW H} {p:List MemPlace} (hok:Value.okWide prog W .any base 29 v) (h:DataW.Trod enc prog W 0 (λ_=>true) true 29 v d p) (hw:∀n ∈ d.weights prog 29,n<=reachBytes) :
  ∃ao k c X,v=slice ao k c/\Rr W ao k X/\k<=9223372036854775807:=by
 obtain⟨a0,len,cap,hv⟩:=okWide_slice underlying29 hok;subst hv;obtain⟨fuel,hf⟩:=h;exact zqD (x:=(d,p)) hf hw
end Go.Proofs.YtlbgphjdibbkjaaGreat
namespace Go.Proofs.YtlbgphjdibbkjaaGreat
open Value (slice agg)
open Obj (cells)
open Ending (returned)
open Nat (le_refl le_trans)
open World (cell?_of_block block_lt_of_cell?)
open List (getElem?_eq_getElem)
open Go.Proofs.Tryz
open Go.RowKit
theorem zmU {L w sa xa na ca fa ya ma da ga a sb xb nb cb fb yb mb db gb b} (ha:Rn L w sa xa na ca fa ya ma da ga a) (hb:Rn L w sb xb nb cb fb yb mb db gb b) (hL:L<=200000) :
  Calls prog 127 #[agg #[.bool sa,slice xa na ca,slice ya ma da],agg #[.bool sb,slice xb nb cb,slice yb mb db]] w λe w'=>zcq (2*L+1) w w' e (a*b):=by
 have h1:=((ha.alloc (cells #[.bool sa,slice xa na ca,slice ya ma da] 24)).alloc (cells #[.bool sb,slice xb nb cb,slice yb mb db] 24)).alloc (cells #[.bool false,slice none 0 0,slice none 0 0] 24);have h2:=((hb.alloc (cells #[.bool sa,slice xa na ca,slice ya ma da] 24)).alloc (cells #[.bool sb,slice xb nb cb,slice yb mb db] 24)).alloc (cells #[.bool false,slice none 0 0,slice none 0 0] 24);have h3:=zaz ((w.alloc (cells #[.bool sa,slice xa na ca,slice ya ma da] 24)).alloc (cells #[.bool sb,slice xb nb cb,slice yb mb db] 24)) 24;rw[zw,zw]at h3
 have h4:=zu (zu (zB w (cells #[.bool sa,slice xa na ca,slice ya ma da] 24)) (cells #[.bool sb,slice xb nb cb,slice yb mb db] 24)) (cells #[.bool false,slice none 0 0,slice none 0 0] 24);clear ha hb;go_enter func127,ntmps127;go_wp2_with fail
 generalize((w.alloc (cells #[.bool sa,slice xa na ca,slice ya ma da] 24)).alloc (cells #[.bool sb,slice xb nb cb,slice yb mb db] 24)).alloc (cells #[.bool false,slice none 0 0,slice none 0 0] 24)=w1 at *;have OB1:=zk h3;have HW1:=zk h4
 refine(ziW h1 h2 hL).mono ?_;clear h1 h2 h3 h4;rintro e w2 ⟨s,x,n,c,f,y,m,d,g,rfl,hb2,hq⟩;have hob:=OB1.out.q_ hb2;have hbw:=bUp HW1.out hb2;obtain⟨hz,z0,z1,z2,zf⟩:=OB1.out.q_ hb2;have HQ:=zk hq;have HOB:=zk hob;have HBW:=zk hbw
 clear hq hob hbw hb2 OB1 HW1;go_wp2;exact bodyPost_ret (v:=agg #[.bool s,slice x n c,slice y m d]) (by simp[results,results127,go_sem,z0,z1,z2,hz]) rfl ⟨s,x,n,c,f,y,m,d,g,rfl,zu (zU HBW.out (by omega)) _,(HOB.out.rn HQ.out).alloc _⟩
def psum:List Rat->Rat->Rat
 | [],acc=>acc
 | q :: p,acc=>psum p (acc+q)
theorem zfU {i L} (hi:i<=400) (hL:L<=400):4+i*(L+1)<=164000:=by
 have h1:i*(L+1)<=400*(L+1):=Nat.mul_le_mul_right _ hi;omega
theorem zmX {w L ao k cap p} (h:Rf L w ao p) (hk:p.length=k) (hk2:k<=400) (hL:L<=400) :
  Calls prog 33 #[slice ao k cap] w λe w'=>zcq (4+k*(L+1)) w w' e (psum p 0):=by
 have H:=zk h;have h2:=zaz w 24;have h3:=zB w (cells #[.bool false,slice none 0 0,slice none 0 0] 24);clear h;go_enter func33,ntmps33;go_wp2_with fail
 generalize w.alloc (cells #[.bool false,slice none 0 0,slice none 0 0] 24)=w0 at *;refine(zkf (z:=0) (by omega) (by omega)).mono ?_;rintro e w4 ⟨s0,x0,n0,c0,f0,y0,m0,d0,g0,rfl,hb4,hq4⟩;have OB4:=zk (h2.q_ hb4);have HB4:=zk (bUp h3 hb4);have HQ4:=zk hq4
 clear h2 h3 hb4 hq4;go_wp2_with fail
 have hSx:Sx (w4.alloc (cells #[.bool s0,slice x0 n0 c0,slice y0 m0 d0] 24)) w4.heap.size s0 x0 n0 c0 y0 m0 d0:=⟨by simp,by simp[go_sem],by simp[go_sem],by simp[go_sem],λo=>by simp only[World.frozen?,heap_alloc_new w4 (cells #[.bool s0,slice x0 n0 c0,slice y0 m0 d0] 24)];simp⟩;have hal:=zB w4 (cells #[.bool s0,slice x0 n0 c0,slice y0 m0 d0] 24);have hne:w.heap.size<w4.heap.size:=OB4.out.z;have ST:=zk hSx;have HB5:=zJ HB4 hal;have HQ5:=zk (HQ4.out.q_ hal);have OB5:=zk (OB4.out.q_ hal)
 clear hSx hal HB4 HQ4 OB4;go_loopw[9] (λt wr=>∃(i:Nat) (acc:Rat) (s:Bool) (x:Option Addr) (n c:Nat) (f:Nat->Int) (y:Option Addr) (m d:Nat) (g:Nat->Int),i<=k/\t=.int .i64 i/\Hid (Bl w wr)/\Hid (Sx wr w4.heap.size s x n c y m d)/\Hid (Ob wr w.heap.size)/\Hid (Rn (4+i*(L+1)) wr s x n c f y m d g acc)/\Hid (psum (p.drop i) acc=psum p 0)) (λt _=>k-(intOf t).toNat)
 case atStart=>exact⟨0,0,s0,x0,n0,c0,f0,y0,m0,d0,g0,by omega,rfl,HB5,ST,OB5,(by show Rn _ _ _ _ _ _ _ _ _ _ _ _;exact HQ5.out.mono (by omega)),rfl⟩
 case round =>
  clear HB5 HQ5 OB5 ST;obtain⟨i,acc,s,x,n,c,f,y,m,d,g,hi,rfl,HB,HS,HO,HQ,HE⟩:=hrel;by_cases hlt:i<k
  ·obtain⟨q,haq⟩:∃t,p[i]?=some t:=⟨_,getElem?_eq_getElem (by omega)⟩;obtain⟨b,o,⟨ts,tx,tn,tc,tf,ty,tm,td,tg⟩,hav,hc,hr⟩:=(H.out.q_ HB.out) i q haq;have hav2:=hav;subst hav2;obtain⟨x0,x1,x2⟩:=hc;replace x0:wr.cell? ⟨b,o+i*3,none⟩=some (.bool ts):=x0;replace x1:wr.cell? ⟨b,o+i*3+1,none⟩=some (slice tx tn tc):=x1;replace x2:wr.cell? ⟨b,o+i*3+2,none⟩=some (slice ty tm td):=x2;have HD:Hid (psum (p.drop (i+1)) (acc+q)=psum p 0):=by
    show _=_;have e1:p.drop i=q :: p.drop (i+1):=by
     have hl:i<p.length:=by omega
     have:p[i]=q:=by rw[getElem?_eq_getElem hl]at haq;exact Option.some.inj haq
     rw[<-this];exact List.drop_eq_getElem_cons hl
    rw[<-HE.out,e1];rfl
   have hb5:=zB wr (cells #[.bool ts,slice tx tn tc,slice ty tm td] 24);have HR1:Hid (Rn L (wr.alloc (cells #[.bool ts,slice tx tn tc,slice ty tm td] 24)) ts tx tn tc tf ty tm td tg q):=Rn.q_ hr hb5;replace HS:=zk (HS.out.q_ hb5);replace HO:=zk (HO.out.q_ hb5);replace HQ:=zk (HQ.out.q_ hb5);replace HB:=zJ HB hb5
   have i2:((i:Nat):Int)<((k:Nat):Int):=by omega
   obtain⟨sz,u0,u1,u2,uf⟩:=HS.out;clear hr haq hav HE hb5;go_wp2_with fail
   clear sz u0 u1 u2 uf x0 x1 x2;generalize wr.alloc (cells #[.bool ts,slice tx tn tc,slice ty tm td] 24)=w5 at *;have hKi:=zfU (i:=i) (L:=L) (by omega) hL;refine(zmN (L:=164000) (HQ.out.mono hKi) (HR1.out.mono (by omega)) (by omega)).mono ?_;rintro e w6 ⟨s6,x6,n6,c6,f6,y6,m6,d6,g6,rfl,hb6,hq6⟩;have S6:=HS.out.q_ hb6;have R1:=zk (ziU (bUp HB.out hb6) S6 (HO.out.q_ hb6) (hq6.cut (K:=4+(i+1)*(L+1)) ((zfr (HQ.out.lo HQ.out.ln HQ.out.ld) (HR1.out.lo HR1.out.ln HR1.out.ld)).mono (by rw[Nat.add_mul];omega))) hne);obtain⟨sz,u0,u1,u2,uf⟩:=S6;clear HS HO HQ HR1 HB hb6 hq6 hKi;go_wp2;go_roundw
   case rel=>exact⟨i+1,acc+q,s6,x6,n6,c6,f6,y6,m6,d6,g6,by omega,by go_num,R1.out.bel,R1.out.sx,R1.out.ob,R1.out.rn,HD.out⟩
   case measure=>simp[intOf];omega
  ·have e1:i=k:=by omega
   have HF:Hid (acc=psum p 0):=by
    show _=_;rw[<-HE.out,e1,<-hk,List.drop_length];rfl
   have i2:¬(((i:Nat):Int)<((k:Nat):Int)):=by omega
   obtain⟨sz,u0,u1,u2,uf⟩:=HS.out;obtain⟨hz,z0,z1,z2,zf⟩:=HO.out;have HKK:Hid (i=k):=e1;clear e1 HE;go_wp2;exact bodyPost_ret (v:=agg #[.bool s,slice x n c,slice y m d]) (by simp[results,results33,go_sem,z0,z1,z2]) rfl ⟨s,x,n,c,f,y,m,d,g,rfl,zU HB.out (by omega),by rw[<-HF.out,<-HKK.out];exact HO.out.rn HQ.out⟩
def zat (P:Program) (md:Region.Mode) (ops:Array Oper) (Q:Exit->Act->World->Prop) (S:World->Prop) (k:Nat):Nat->Array Bool->Act->World->Prop
 | 0,listed,a,w=>Region.ready md ops listed=[]/\Q .normal a w
 | fuel+1,listed,a,w =>
  (Region.ready md ops listed=[]->Q .normal a w) /\
  ∀i ∈ Region.ready md ops listed,wpOp P ops Q i (λa' w'=>((listed.setIfInBounds i true).getD k true=false->S w')/\zat P md ops Q S k fuel (listed.setIfInBounds i true) a' w') a w
theorem zcv {P ops Q md S k}:∀(fuel:Nat) (listed:Array Bool) (a:Act) (w:World),zat P md ops Q S k fuel listed a w->wpAny P md ops Q fuel listed a w
 | 0,_,_,_,h=>h
 | fuel+1,_,_,_,h=>⟨h.1,λi hi=>wpOp_mono (λa' w' h'=>zcv fuel _ a' w' h'.2) (h.2 i hi)⟩
theorem zej {ops md listed i j} (hi:i ∈ Region.ready md ops listed) (hj:j ∈ Region.ready md ops listed) (hd:i ∈ depsOf md ops j):False:=by
 obtain⟨oj,hoj,e,he,hb,rfl⟩:=mem_deps.1 hd;obtain⟨_,oj',hoj',hall⟩:=mem_ready.1 hj;rw[hoj]at hoj'
 cases hoj'
 have h1:=hall e he hb;have h0:=(mem_ready.1 hi).1;rcases Nat.lt_or_ge e.on listed.size with h'|h'
 ·simp[h']at h0 h1;rw[h0]at h1;cases h1
 ·simp[Array.getElem?_eq_none h']at h1
theorem zhv {P ops Q md S k i oi v} (hi:ops[i]?=some oi) (hsel:∀(j:Nat) (o:Oper) cs b,ops[j]?=some o->o.op≠.select cs b) (hQ:∀c a w,Q (.panic c) (a.put oi.dst v) w->Q (.panic c) a w) (hik:i≠k) :
  ∀(fuel:Nat) (listed:Array Bool) (a:Act) (w:World),
   (∀j oj,ops[j]?=some oj->j≠i->listed.getD j true=false->(∀e ∈ oj.after,Region.binds md e=true->e.on≠i)->oi.apart ops oj=true) ->
   i ∈ Region.ready md ops listed->YieldsIf P ops (λ_=>True) oi v a->(listed.getD k true=false->S w) ->
   zat P md ops Q S k fuel (listed.setIfInBounds i true) (a.put oi.dst v) w->zat P md ops Q S k (fuel+1) listed a w:=by
 intro fuel
 induction fuel with
 | zero =>
  intro listed a w _ hr hy hS H;refine⟨λh=>(by rw[h]at hr;cases hr),λj hj=>?_⟩;by_cases hji:j=i
  ·subst hji;exact hy.wpOp hi trivial ⟨λh=>hS (by rw[getD_set_ne true hik]at h;exact h),H⟩
  ·have:=ready_mono hj hji;rw[H.1]at this
   cases this
 | succ fuel ih =>
  intro listed a w hfree hr hy hS H;refine⟨λh=>(by rw[h]at hr;cases hr),λj hj=>?_⟩;by_cases hji:j=i
  ·subst hji;exact hy.wpOp hi trivial ⟨λh=>hS (by rw[getD_set_ne true hik]at h;exact h),H⟩
  ·have h1:=H.2 j (ready_mono hj hji);obtain⟨hjun,oj,hoj,hall⟩:=mem_ready.1 hj;have hnot:∀e ∈ oj.after,Region.binds md e=true->e.on≠i:=λe he hb heq=>zej hr hj (mem_deps.2 ⟨oj,hoj,e,he,hb,heq⟩)
   have h2:=wpOp_putIf hoj (hfree j oj hoj hji hjun hnot) (λcs b=>hsel i oi cs b hi) (λcs b=>hsel j oj cs b hoj) hQ hy h1;have hfree':∀k ok,ops[k]?=some ok->k≠i->(listed.setIfInBounds j true).getD k true=false ->
     (∀e ∈ ok.after,Region.binds md e=true->e.on≠i)->oi.apart ops ok=true:=λk ok hk hki hun hno=>by
    refine hfree k ok hk hki ?_ hno;by_cases hjk:j=k
    ·subst hjk;exact hjun
    ·rw[getD_set_ne true hjk]at hun;exact hun
   have hS':∀w',(((listed.setIfInBounds i true).setIfInBounds j true).getD k true=false->S w')->(listed.setIfInBounds j true).getD k true=false->S w':=λw' h hk=>h (by
    by_cases hjk:j=k
    ·subst hjk;rcases Nat.lt_or_ge j listed.size with h'|h'
     ·simp[h']at hk
     ·simp[Array.getElem?_eq_none h']at hjun
    ·rw[getD_set_ne true hjk]at hk ⊢;rw[getD_set_ne true hik];exact hk)
   refine wpOp_mono (λa' w' h3=>⟨hS' _ h3.2.1,ih (listed.setIfInBounds j true) a' w' hfree' (ready_mono hr (Ne.symm hji)) h3.1 (hS' _ h3.2.1) ?_⟩) h2;rw[Array.setIfInBounds_comm _ _ hji];exact h3.2.2
theorem zaB {P ops Q md S k i oi v fuel listed a w} (hi:ops[i]?=some oi) (hs:Region.noSelect ops=true) (hf:Region.free md ops listed i=true) (hr:(Region.ready md ops listed).contains i=true) (hik:(i==k)=false) (hQ:∀c a w,Q (.panic c) (a.put oi.dst v) w->Q (.panic c) a w) (hy:YieldsIf P ops (λ_=>True) oi v a) (hS:listed.getD k true=false->S w) (h:zat P md ops Q S k fuel (listed.setIfInBounds i true) (a.put oi.dst v) w):zat P md ops Q S k (fuel+1) listed a w :=
 zhv hi (Region.noSelect_spec hs) hQ (by simpa using hik) fuel listed a w (Region.free_spec hi hf) (by simpa using hr) hy hS h
theorem skP {P:Program} {ops:Array Oper} {Q:Exit->Act->World->Prop} {md:Region.Mode} {S:World->Prop} {k:Nat} {oi:Oper} {v:Value} {fuel:Nat} {listed:Array Bool} {a:Act} {w:World} (i:Nat) (h:zat P md ops Q S k fuel (listed.setIfInBounds i true) (a.put oi.dst v) w)
  (hi:ops[i]?=some oi:=by exact rfl) (hy:YieldsIf P ops (λ_=>True) oi v a:=by (refine Or.inl ⟨by rfl,?_⟩;intro w0 hSw;go_simp <;> with_reducible rfl))
  (hs:Region.noSelect ops=true:=by kernel_rfl) (hf:Region.free md ops listed i=true:=by kernel_rfl) (hr:(Region.ready md ops listed).contains i=true:=by kernel_rfl) (hik:(i==k)=false:=by kernel_rfl)
  (hQ:∀c a w,Q (.panic c) (a.put oi.dst v) w->Q (.panic c) a w:=by exact(λ_ _ _ h=>h)) (hS:listed.getD k true=false->S w:=by exact(λ_=>by assumption)):zat P md ops Q S k (fuel+1) listed a w :=
 zaB hi hs hf hr hik hQ hy hS h
def AllReadyP (P:Program) (md:Region.Mode) (ops:Array Oper) (Q:Exit->Act->World->Prop) (S:World->Prop) (k:Nat) (fuel:Nat) (listed:Array Bool) (a:Act) (w:World) (rs:List Nat):Prop :=
 ∀i ∈ rs,wpOp P ops Q i (λa' w'=>((listed.setIfInBounds i true).getD k true=false->S w')/\zat P md ops Q S k fuel (listed.setIfInBounds i true) a' w') a w
theorem AllReadyP.nil {P ops Q md S k fuel listed a w}:AllReadyP P md ops Q S k fuel listed a w []:=λ_ h=>by cases h
theorem AllReadyP.cons {P ops Q md S k fuel listed a w i o rs} (ho:ops[i]?=some o) (h:∀K':Act->World->Prop,Shut (∀a w,((listed.setIfInBounds i true).getD k true=false->S w)->(((listed.setIfInBounds i true).getD k true=false->S w)->zat P md ops Q S k fuel (listed.setIfInBounds i true) a w)->K' a w)->if Region.wanted o (yielded ops a.tmps)=true then Oper.wp P o a w K' Q else K' (a.put o.dst undef) w) (hs:AllReadyP P md ops Q S k fuel listed a w rs):AllReadyP P md ops Q S k fuel listed a w (i :: rs):=λj hj=>by
 rcases List.mem_cons.1 hj with rfl|hj
 ·exact wpOp_step ho (λK' hK=>h K' (λa w hS hW=>hK a w ⟨hS,hW hS⟩))
 ·exact hs j hj
theorem zgp {P ops Q md S k rs fuel listed a w} (hr:Region.ready md ops listed=rs) (hne:rs≠[]) (h:AllReadyP P md ops Q S k fuel listed a w rs):zat P md ops Q S k (fuel+1) listed a w:=⟨λh0=>absurd (hr ▸ h0) hne,hr ▸ h⟩
theorem zhw {P ops Q md S k listed a w} (hr:Region.ready md ops listed=[]) (h:Q .normal a w) :
  ∀fuel,zat P md ops Q S k fuel listed a w
 | 0=>⟨hr,h⟩
 | _+1=>⟨λ_=>h,by rw[hr];simp⟩
theorem rdP {P ops Q md} {S:World->Prop} {k fuel listed a w o} (i:Nat) (h:∀K':Act->World->Prop,Shut (∀a w,((listed.setIfInBounds i true).getD k true=false->S w)->(((listed.setIfInBounds i true).getD k true=false->S w)->zat P md ops Q S k fuel (listed.setIfInBounds i true) a w)->K' a w)->if Region.wanted o (yielded ops a.tmps)=true then Oper.wp P o a w K' Q else K' (a.put o.dst undef) w)
  (ho:ops[i]?=some o:=by exact rfl) (hr:Region.ready md ops listed=[i]:=by kernel_rfl):zat P md ops Q S k (fuel+1) listed a w:=zgp hr (by simp) (AllReadyP.cons ho h AllReadyP.nil)
theorem dnP {P ops Q md} {S:World->Prop} {k fuel listed a w} (h:Q .normal a w) (hr:Region.ready md ops listed=[]:=by kernel_rfl):zat P md ops Q S k fuel listed a w:=zhw hr h fuel
theorem zag {P ops Q S id a w} (k:Nat) (hm:P.follows .mixedOrders=true) (hS:S w.drew) (h:S w.drew->zat P .any ops Q S k ops.size (Array.replicate ops.size false) a w.drew):(Code.region id ops true).wp P Q a w :=
 wp_region_any hm (zcv _ _ _ _ (h hS))
theorem ziJ {P ops Q md S k i oi v} (hi:ops[i]?=some oi) (hsel:∀(j:Nat) (o:Oper) cs b,ops[j]?=some o->o.op≠.select cs b) (hQ:∀c a w,Q (.panic c) (a.put oi.dst v) w->Q (.panic c) a w) (hd:i ∈ zhr md ops ops.size [k]) :
  ∀(fuel:Nat) (listed:Array Bool) (a:Act) (w:World),
   (∀j oj,ops[j]?=some oj->j≠i->listed.getD j true=false->(∀e ∈ oj.after,Region.binds md e=true->e.on≠i)->oi.apart ops oj=true) ->
   i ∈ Region.ready md ops listed->listed.getD k true=false->(∀a b,listed.getD a false=true->b ∈ depsOf md ops a->listed.getD b false=true)->YieldsIf P ops S oi v a->S w ->
   zat P md ops Q S k fuel (listed.setIfInBounds i true) (a.put oi.dst v) w->zat P md ops Q S k (fuel+1) listed a w:=by
 intro fuel
 induction fuel with
 | zero =>
  intro listed a w _ hr _ _ hy hS H;refine⟨λh=>(by rw[h]at hr;cases hr),λj hj=>?_⟩;by_cases hji:j=i
  ·subst hji;exact hy.wpOp hi hS ⟨λ_=>hS,H⟩
  ·have:=ready_mono hj hji;rw[H.1]at this
   cases this
 | succ fuel ih =>
  intro listed a w hfree hr hk hcl hy hS H;refine⟨λh=>(by rw[h]at hr;cases hr),λj hj=>?_⟩;by_cases hji:j=i
  ·subst hji;exact hy.wpOp hi hS ⟨λ_=>hS,H⟩
  ·have h1:=H.2 j (ready_mono hj hji);obtain⟨hjun,oj,hoj,hall⟩:=mem_ready.1 hj;have hil:listed.getD i false=true->False:=λh=>by
    have h0:=(mem_ready.1 hr).1;rcases Nat.lt_or_ge i listed.size with h'|h'
    ·simp[h']at h0 h;rw[h0]at h;cases h
    ·simp[Array.getElem?_eq_none h']at h
   have hjd:∀b,b ∈ depsOf md ops j->listed.getD b false=true:=λb hb=>by
    obtain⟨o',ho',e,he,hb',rfl⟩:=mem_deps.1 hb;obtain⟨_,oj',hoj',hall'⟩:=mem_ready.1 hj;obtain rfl:o'=oj':=Option.some.inj (ho'.symm.trans hoj');exact hall' e he hb'
   have hjk:j≠k:=λe=>by
    subst e;exact hil (zcp hcl ops.size [j] (λa ha b hb=>by simp at ha;subst ha;exact hjd b hb) i hd)
   have hik:i≠k:=λe=>by
    subst e;refine hil (zcp hcl ops.size [i] (λa ha b hb=>?_) i hd);simp at ha;subst ha
    obtain⟨o',ho',e,he,hb',rfl⟩:=mem_deps.1 hb;obtain⟨_,oi',hoi',hall'⟩:=mem_ready.1 hr;obtain rfl:o'=oi':=Option.some.inj (ho'.symm.trans hoi');exact hall' e he hb'
   have hnot:∀e ∈ oj.after,Region.binds md e=true->e.on≠i:=λe he hb heq=>zej hr hj (mem_deps.2 ⟨oj,hoj,e,he,hb,heq⟩)
   have h2:=wpOp_putIf hoj (hfree j oj hoj hji hjun hnot) (λcs b=>hsel i oi cs b hi) (λcs b=>hsel j oj cs b hoj) hQ hy h1;have hfree':∀k ok,ops[k]?=some ok->k≠i->(listed.setIfInBounds j true).getD k true=false ->
     (∀e ∈ ok.after,Region.binds md e=true->e.on≠i)->oi.apart ops ok=true:=λk ok hk hki hun hno=>by
    refine hfree k ok hk hki ?_ hno;by_cases hjk:j=k
    ·subst hjk;exact hjun
    ·rw[getD_set_ne true hjk]at hun;exact hun
   have hk':(listed.setIfInBounds j true).getD k true=false:=by rw[getD_set_ne true hjk];exact hk
   have hk2:((listed.setIfInBounds i true).setIfInBounds j true).getD k true=false:=by rw[getD_set_ne true hjk,getD_set_ne true hik];exact hk
   have hcl':∀a b,(listed.setIfInBounds j true).getD a false=true->b ∈ depsOf md ops a->(listed.setIfInBounds j true).getD b false=true:=λa b ha hb=>by
    by_cases e:a=j
    ·subst e;exact getD_set_true (hjd b hb)
    ·rw[getD_set_ne false (Ne.symm e)]at ha;exact getD_set_true (hcl a b ha hb)
   refine wpOp_mono (λa' w' h3=>⟨λ_=>h3.2.1 hk2,ih (listed.setIfInBounds j true) a' w' hfree' (ready_mono hr (Ne.symm hji)) hk' hcl' h3.1 (h3.2.1 hk2) ?_⟩) h2;rw[Array.setIfInBounds_comm _ _ hji];exact h3.2.2
def zms (md:Region.Mode) (ops:Array Oper) (listed:Array Bool):Bool:=(List.range listed.size).all (λa=>!(listed.getD a false) || (depsOf md ops a).all (λb=>listed.getD b false))
theorem zmr {md ops listed} (h:zms md ops listed=true):∀a b,listed.getD a false=true->b ∈ depsOf md ops a->listed.getD b false=true:=λa b ha hb=>by
 rcases Nat.lt_or_ge a listed.size with hl|hl
 ·have:=List.all_eq_true.1 h a (List.mem_range.2 hl);rw[ha]at this
  have h2:=List.all_eq_true.1 (show(depsOf md ops a).all (λb=>listed.getD b false)=true from(by simpa only[Bool.not_true,Bool.false_or]using this)) b hb;exact h2
 ·simp[Array.getElem?_eq_none hl]at ha
theorem zgo {P ops Q md S k i oi v fuel listed a w} (hi:ops[i]?=some oi) (hs:Region.noSelect ops=true) (hf:Region.free md ops listed i=true) (hr:(Region.ready md ops listed).contains i=true) (hd:(zhr md ops ops.size [k]).contains i=true) (hk:listed.getD k true=false) (hc:zms md ops listed=true) (hQ:∀c a w,Q (.panic c) (a.put oi.dst v) w->Q (.panic c) a w) (hy:YieldsIf P ops S oi v a) (hS:S w) (h:zat P md ops Q S k fuel (listed.setIfInBounds i true) (a.put oi.dst v) w):zat P md ops Q S k (fuel+1) listed a w :=
 ziJ hi (Region.noSelect_spec hs) hQ (by simpa using hd) fuel listed a w (Region.free_spec hi hf) (by simpa using hr) hk (zmr hc) hy hS h
theorem tkP {P:Program} {ops:Array Oper} {Q:Exit->Act->World->Prop} {md:Region.Mode} {S:World->Prop} {k:Nat} {oi:Oper} {v:Value} {fuel:Nat} {listed:Array Bool} {a:Act} {w:World} (i:Nat) (h:zat P md ops Q S k fuel (listed.setIfInBounds i true) (a.put oi.dst v) w)
  (hi:ops[i]?=some oi:=by exact rfl) (hy:YieldsIf P ops S oi v a:=by (refine Or.inl ⟨by rfl,?_⟩;intro w0 hSw;(try dsimp only at hSw);go_simp <;> with_reducible rfl))
  (hs:Region.noSelect ops=true:=by kernel_rfl) (hf:Region.free md ops listed i=true:=by kernel_rfl) (hr:(Region.ready md ops listed).contains i=true:=by kernel_rfl) (hd:(zhr md ops ops.size [k]).contains i=true:=by kernel_rfl) (hk:listed.getD k true=false:=by kernel_rfl) (hc:zms md ops listed=true:=by kernel_rfl)
  (hQ:∀c a w,Q (.panic c) (a.put oi.dst v) w->Q (.panic c) a w:=by exact(λ_ _ _ h=>h)) (hS:S w:=by assumption):zat P md ops Q S k (fuel+1) listed a w :=
 zgo hi hs hf hr hd hk hc hQ hy hS h
def Gr (K base:Nat) (w:World) (v:Value) (p:List Rat):Prop:=∃T:Nat->Nm,RowG 24 3 base w v p.length (rcells (rls p.length T))/\∀(j:Nat) (q:Rat),p[j]?=some q->Rn K w (T j).s (T j).x (T j).n (T j).c (T j).f (T j).y (T j).m (T j).d (T j).g q
theorem zhb (K base:Nat) (w:World):Gr K base w (slice none 0 0) []:=⟨λ_=>⟨false,none,0,0,λ_=>0,none,0,0,λ_=>0⟩,zak _ _ _ _,λj q h=>by simp at h⟩
theorem Gr.q_ {K base w w' v p} (h:Gr K base w v p) (hb:Bl w w'):Gr K base w' v p:=by
 obtain⟨T,h1,h2⟩:=h;exact⟨T,h1.q_ hb,λj q e=>(h2 j q e).q_ hb⟩
theorem zeP {K base w0 w' p T g cap s x n c f y m d gg q} (hT:∀(j:Nat) (q:Rat),p[j]?=some q->Rn K w0 (T j).s (T j).x (T j).n (T j).c (T j).f (T j).y (T j).m (T j).d (T j).g q) (hr:RowG 24 3 base w' (slice (some ⟨g,0,none⟩) (p.length+1) cap) (p.length+1) (rcells (rls p.length T)++#[Value.bool s,slice x n c,slice y m d].toList)) (hk:Kp w0 w') (hq:Rn K w0 s x n c f y m d gg q):Gr K base w' (slice (some ⟨g,0,none⟩) (p.length+1) cap) (p++[q]):=by
 refine⟨zaD T p.length ⟨s,x,n,c,f,y,m,d,gg⟩,?_,λj q' e=>?_⟩
 ·rw[List.length_append,List.length_singleton,zcM];exact hr
 ·by_cases hj:j<p.length
  ·rw[List.getElem?_append_left hj]at e
   rw[putN_ne (by omega)];exact Rn.kp (hT j q' e) hk
  ·rw[List.getElem?_append_right (by omega)]at e
   have h0:j-p.length=0:=by
    rcases Nat.eq_zero_or_pos (j-p.length)with h|h
    ·exact h
    ·rw[List.getElem?_eq_none (by simp;omega)]at e;cases e
   have hjj:j=p.length:=by omega
   subst hjj;rw[h0]at e
   cases e
   rw[zbs];exact Rn.kp hq hk
theorem Gr.rf {K base w ao n cap p} (h:Gr K base w (.slice ao n cap) p):Rf K w ao p:=λj q hj=>by
 obtain⟨T,h1,h2⟩:=h;have hl:j<p.length:=by
  rcases Nat.lt_or_ge j p.length with h|h
  ·exact h
  ·rw[List.getElem?_eq_none h]at hj;cases hj
 have hn:n=p.length:=by
  obtain⟨ao',cap',e⟩:=h1.slice;cases e;rfl
 subst hn;obtain⟨b,e,hc⟩:=zcf h1 hl;exact⟨b,0,T j,e,hc,h2 j q hj⟩
theorem Gr.slice {K base w v p} (h:Gr K base w v p):∃ao cap,v=.slice ao p.length cap/\p.length<=cap/\cap<=9223372036854775807:=by
 obtain⟨T,h1,h2⟩:=h;obtain⟨ao,cap,rfl⟩:=h1.slice;refine⟨ao,cap,rfl,?_⟩;rcases h1.2 with⟨hv,h0⟩|⟨_,_,_,hv,_,_,h5,h6,_⟩
 ·injection hv with _ e2 e3;omega
 ·injection hv with _ _ e3;subst e3;unfold maxLen at h6;omega
def zeh (xs:List Rat) (t:Int × Rat):Rat:=t.2*xs.getD t.1.toNat 0
def zbM (xs:List Rat) (r:RV):Rat:=psum (r.ts.map (zeh xs)) 0
def KA (L:Nat):Nat:=4+64*(2*L+1+1)
theorem zde {α β:Type} (f:α->β) (l:List α) (i:Nat) (v:α) (h:l[i]?=some v):(l.take (i+1)).map f=(l.take i).map f++[f v]:=by
 rw[List.take_add_one,h,List.map_append];rfl
theorem zaP {α β:Type} (f:α->β) (l:List α) (i:Nat) (h:i<=l.length):((l.take i).map f).length=i:=by simp;omega
theorem zoj {w L M off cs rs ao k cap xs} (h:MoV L w M off cs rs) (hx:Rf L w ao xs) (hk:xs.length=k) (hcol:∀r ∈ rs,∀t ∈ r.ts,0<=t.1/\t.1<(k:Int)) (hrk:rs.length<=64) (htk:∀r ∈ rs,r.ts.length<=64) (hL:L<=100) :
  Calls prog 105 #[M.val,slice ao k cap] w λe w'=>∃a c,e=returned (slice a rs.length c)/\Bl w w'/\(rs.length<=c/\c<=9223372036854775807)/\Hid (Rf (KA L) w' a (rs.map (zbM xs))):=by
 have hrk2:=h.rk;have hR:=h.rls;clear h;obtain⟨⟨s,x,n,c,f,y,m,d,g⟩,ca,ck,cc,C,ra,rk,rc,R⟩:=M;replace hrk2:rk=rs.length:=hrk2;have HR:Hid (∀j v,rs[j]?=some v->(∃b o,ra=some ⟨b,o,none⟩/\Cs w b (o+j*10) (R j).vs)/\RowV L w (R j) v):=hR;subst hrk2;have HX:=zk hx;have HCol:=zk hcol;have HTk:=zk htk
 clear hR hx hcol htk;have hb0:=zB w (cells #[.bool s,slice x n c,slice y m d,slice ca ck cc,slice ra rs.length rc] 28);have HB0:=zk hb0;obtain⟨-,-,-,-,k4⟩:=bk5 (zF w [.bool s,slice x n c,slice y m d,slice ca ck cc,slice ra rs.length rc] 28);clear hb0;show Calls prog 105 #[agg #[.bool s,slice x n c,slice y m d,slice ca ck cc,slice ra rs.length rc],slice ao k cap] w _;go_enter func105,ntmps105;go_wp2_with fail
 generalize w.alloc (cells #[.bool s,slice x n c,slice y m d,slice ca ck cc,slice ra rs.length rc] 28)=w0 at *;go_loopw[5,14] (λov t wr=>∃(i:Nat),i<=rs.length/\t=.int .i64 i/\Hid (Bl w wr)/\Hid (Gr (KA L) w.heap.size wr ov ((rs.take i).map (zbM xs)))) (λ_ t _=>rs.length-(intOf t).toNat)
 case atStart=>exact⟨0,by omega,rfl,HB0,zhb _ _ _⟩
 case round =>
  clear k4 HB0;obtain⟨i,hi,rfl,HB,HG⟩:=hrel;by_cases hlt:i<rs.length
  ·obtain⟨v,hv⟩:∃t,rs[i]?=some t:=⟨_,getElem?_eq_getElem (by omega)⟩;have hvm:=List.mem_of_getElem? hv;obtain⟨⟨b,o,hra,hc⟩,hRV⟩:=HR.out i v hv;subst hra;obtain⟨⟨z,⟨i1,⟨s1,x1,n1,c1,f1,y1,m1,d1,g1⟩⟩,⟨i2,⟨s2,x2,n2,c2,f2,y2,m2,d2,g2⟩⟩,ta,tk,tc,tcol,tt⟩,hCi⟩:∃t,R i=t:=⟨_,rfl⟩;rw[hCi]at hc hRV
   replace hc:=Cs.q_ hc HB.out;obtain⟨q0,q1,q2,q3,q4,q5,q6,q7,q8,q9⟩:=hc.lr;have hb1:=zB wr (cells #[.string z,.int .i64 i1,.bool s1,slice x1 n1 c1,slice y1 m1 d1,.int .i64 i2,.bool s2,slice x2 n2 c2,slice y2 m2 d2,slice ta tk tc] 63);obtain⟨-,-,-,-,-,-,-,-,-,b9⟩:=zef (zF wr [.string z,.int .i64 i1,.bool s1,slice x1 n1 c1,slice y1 m1 d1,.int .i64 i2,.bool s2,slice x2 n2 c2,slice y2 m2 d2,slice ta tk tc] 63);have HTS:Hid (∀p z q,v.ts[p]?=some (z,q)->tcol p=z/\NmV L w (tt p) q/\∃b o,ta=some ⟨b,o,none⟩/\C4 w b (o+p*4) (.int .i64 (tcol p)) (.bool (tt p).s) (.slice (tt p).x (tt p).n (tt p).c) (.slice (tt p).y (tt p).m (tt p).d)):=hRV.tl;have htk2:tk=v.ts.length:=hRV.tk;subst htk2;have htk3:=HTk.out v hvm;have HC2:=zk (HCol.out v hvm);have HV:=zk hv;have HB1:=zJ HB hb1;have HG1:=zk (HG.out.q_ hb1)
   have i1':((i:Nat):Int)<((rs.length:Nat):Int):=by omega
   clear hCi hc hRV hb1 hv hvm HB HG;go_wp2_with fail
   clear q0 q1 q2 q3 q4 q5 q6 q7 q8 q9;generalize wr.alloc (cells #[.string z,.int .i64 i1,.bool s1,slice x1 n1 c1,slice y1 m1 d1,.int .i64 i2,.bool s2,slice x2 n2 c2,slice y2 m2 d2,slice ta v.ts.length tc] 63)=wI at *;clear b9;go_loopw[8,21] (λvv t wz=>∃(p:Nat),p<=v.ts.length/\t=.int .i64 p/\Hid (Bl wI wz)/\Hid (Gr (2*L+1) wI.heap.size wz vv ((v.ts.take p).map (zeh xs)))) (λ_ t _=>v.ts.length-(intOf t).toNat)
   case atStart=>exact⟨0,by omega,rfl,Below.refl _ _,zhb _ _ _⟩
   case round =>
    obtain⟨p,hp,rfl,HB2,HG2⟩:=hrel;by_cases hlp:p<v.ts.length
    ·obtain⟨⟨tz,tq⟩,htv⟩:∃t,v.ts[p]?=some t:=⟨_,getElem?_eq_getElem (by omega)⟩;obtain⟨h1,h2,b2,o2,hta,h4⟩:=HTS.out p tz tq htv;obtain⟨hz0,hz1⟩:=HC2.out (tz,tq) (List.mem_of_getElem? htv);replace hz0:0<=tz:=hz0;replace hz1:tz<(k:Int):=hz1;obtain⟨zn,rfl⟩:=Int.eq_ofNat_of_zero_le hz0;subst hta;obtain⟨r,hr⟩:∃t,xs[zn]?=some t:=⟨_,getElem?_eq_getElem (by omega)⟩;have hbz:=bUp HB1.out HB2.out;obtain⟨b',o',⟨ss,sx,sn,sc,sf,sy,sm,sd,sg⟩,hax,⟨p0,p1,p2⟩,hr'⟩:=(HX.out.q_ hbz) zn r hr;subst hax;obtain⟨⟨ts,tx,tn,tc2,tf,ty,tm,td,tg⟩,hTp⟩:∃t,tt p=t:=⟨_,rfl⟩;rw[hTp,h1]at h4
     rw[hTp]at h2
     obtain⟨x0,x1,x2,x3⟩:=h4.q_ hbz;replace x0:wr.cell? ⟨b2,o2+p*4,none⟩=some (.int .i64 zn):=x0;replace x1:wr.cell? ⟨b2,o2+p*4+1,none⟩=some (.bool ts):=x1;replace x2:wr.cell? ⟨b2,o2+p*4+2,none⟩=some (slice tx tn tc2):=x2;replace x3:wr.cell? ⟨b2,o2+p*4+3,none⟩=some (slice ty tm td):=x3;replace p0:wr.cell? ⟨b',o'+zn*3,none⟩=some (.bool ss):=p0;replace p1:wr.cell? ⟨b',o'+zn*3+1,none⟩=some (slice sx sn sc):=p1;replace p2:wr.cell? ⟨b',o'+zn*3+2,none⟩=some (slice sy sm sd):=p2;have h2r:Rn L w ts tx tn tc2 tf ty tm td tg tq:=h2;have hr2:Rn L wr ss sx sn sc sf sy sm sd sg r:=hr';have hbt:=zB wr (cells #[.int .i64 zn,.bool ts,slice tx tn tc2,slice ty tm td] 65);obtain⟨a0,a1,a2,a3⟩:=bk4 (zF wr [.int .i64 zn,.bool ts,slice tx tn tc2,slice ty tm td] 65);have i2':((p:Nat):Int)<((v.ts.length:Nat):Int):=by omega
     have i3':((zn:Nat):Int)<((k:Nat):Int):=by omega
     have HTV:=zk htv;have HRR:=zk hr
     clear htv hr hz0 hz1 h1 h2 h4 hTp hr';go_upto_region 9 with fail
     clear x0 x1 x2 x3;replace p0:=kCb hbt p0;replace p1:=kCb hbt p1;replace p2:=kCb hbt p2
     have HB3:=zJ HB2 hbt;have HG3:=zk (HG2.out.q_ hbt);have R1:=zk ((h2r.q_ hbz).q_ hbt);have R2:=zk (hr2.q_ hbt)
     clear hbz hbt h2r hr2 HB2 HG2;generalize hbx:wr.heap.size=bx at *;generalize wr.alloc (cells #[.int .i64 zn,.bool ts,slice tx tn tc2,slice ty tm td] 65)=w5 at *;clear hbx;refine zag (S:=(λw'=>w'.cell? ⟨bx,0,none⟩=some (.int .i64 zn)/\w'.cell? ⟨bx,1,none⟩=some (.bool ts)/\w'.cell? ⟨bx,2,none⟩=some (slice tx tn tc2)/\w'.cell? ⟨bx,3,none⟩=some (slice ty tm td)/\w'.cell? ⟨b',o'+zn*3,none⟩=some (.bool ss)/\w'.cell? ⟨b',o'+zn*3+1,none⟩=some (slice sx sn sc)/\w'.cell? ⟨b',o'+zn*3+2,none⟩=some (slice sy sm sd))) 8 (by kernel_rfl) ⟨kCd a0,kCd a1,kCd a2,kCd a3,kCd p0,kCd p1,kCd p2⟩ (λhHeld=>?_);refine skP 0 ?_;refine skP 1 ?_;refine tkP 2 ?_;simp only[zA,Act.put];refine skP 3 ?_;refine skP 4 ?_;refine tkP 5 ?_;simp only[zA,Act.put];refine skP 6 ?_;refine tkP 7 ?_;simp only[zA,Act.put];refine rdP 8 (λK hK=>?_);go_simp
     go_at_call 127
     refine(zmU (L:=L) (zrv R1.out) (zrv R2.out) (by omega)).mono ?_;rintro e w6 ⟨s6,x6,n6,c6,f6,y6,m6,d6,g6,rfl,hb6,hq6⟩
     (try go_wp2_with fail)
     refine hK.out _ _ (λh=>by cases h) (λ_=>?_);clear hK K;try simp only[zA,Act.put]
     refine rdP 9 (λK hK=>?_);go_simp;refine hK.out _ _ (λh=>by cases h) (λ_=>?_);clear hK K;try simp only[zA,Act.put]
     refine rdP 10 (λK hK=>?_);obtain⟨T,hrow,hT⟩:=(Gr.q_ HG3.out (Below.drew (Below.refl w5.heap.size w5))).q_ hb6;rw[zaP _ _ _ (by omega)]at hrow
     refine zaY w6 rfl (.tmp 25) (.tmp 34) 29 rfl wI.heap.size 24 56 3 (agg #[.bool false,slice none 0 0,slice none 0 0]) underlying29 zaR rfl (by decide) nz3 u8 p _ rfl hrow #[.bool s6,slice x6 n6 c6,slice y6 m6 d6] rfl rfl (zdo _ _ _ _ _ _ _) (zcB _ _ _ _ _ _ _) (by omega) (by decide) ?hz ?_
     case hz=>exact(HB3.out.drew.trans (hb6.mono HB3.out.drew.size)).size
     intro g8 cap8 w8 hr8 hk8 hb8 hg8;have HB8:Hid (Bl wI w8):=hb8 wI (HB3.out.drew.trans (hb6.mono HB3.out.drew.size)) (le_refl _);have HG8:Hid (Gr (2*L+1) wI.heap.size w8 (slice (some ⟨g8,0,none⟩) (p+1) cap8) ((v.ts.take (p+1)).map (zeh xs))):=by
      have hl:=zaP (zeh xs) v.ts p (by omega);have hp8:=zeP (p:=(v.ts.take p).map (zeh xs)) hT (by rw[hl];exact hr8) hk8 hq6;rw[hl]at hp8
      rw[zde (zeh xs) v.ts p _ HTV.out];have e9:zeh xs ((zn:Int),tq)=tq*r:=by
       show tq*xs.getD (zn:Int).toNat 0=tq*r;rw[Int.toNat_natCast,List.getD_eq_getElem?_getD,HRR.out];rfl
      rw[e9];exact hp8
     clear hr8 hk8 hb8 hg8 hrow hT hb6 hq6 HG3 HB3 R1 R2;refine hK.out _ _ (λh=>by cases h) (λ_=>?_);clear hK K;simp only[List.getElem_toArray,List.getElem_cons_succ,List.getElem_cons_zero,Act.put,List.setIfInBounds_toArray,List.set_cons_zero,List.set_cons_succ];refine zaB (i:=11) (v:=?_) rfl (by kernel_rfl) (by kernel_rfl) (by kernel_rfl) (by kernel_rfl) (λ_ _ _ h=>h) (Or.inl ⟨by rfl,?_⟩) (λh=>by cases h) ?_;rotate_left
     (focus (intro w0 hSw;go_simp <;> with_reducible rfl))
     simp only[List.getElem_toArray,List.getElem_cons_succ,List.getElem_cons_zero,Act.put,List.setIfInBounds_toArray,List.set_cons_zero,List.set_cons_succ];refine dnP ?_;clear hHeld a0 a1 a2 a3 p0 p1 p2;go_wp2;go_roundw
     case rel=>exact⟨p+1,by omega,by go_num,HB8.out,HG8.out⟩
     case measure=>simp[intOf];omega
    ·have e1:p=v.ts.length:=by omega
     have i4':¬(((p:Nat):Int)<((v.ts.length:Nat):Int)):=by omega
     obtain⟨va,vc,hvs,hvc⟩:=HG2.out.slice;rw[zaP _ _ _ (by omega)]at hvs
     have HG4:=HG2.out;rw[hvs]at HG4
     replace HG4:=zk (show Rf (2*L+1) wr va (v.ts.map (zeh xs)) by have:=HG4.rf;rw[List.take_of_length_le (by omega)]at this;exact this);subst hvs;have HBq:=zJ HB1 HB2.out;have HGq:=zk (HG1.out.q_ HB2.out)
     clear HG2 HB2 HB1 HG1 HTS HC2;go_wp2_with fail
     refine(zmX (L:=2*L+1) HG4.out (by rw[List.length_map]) (by omega) (by omega)).mono ?_;rintro e w6 ⟨s6,x6,n6,c6,f6,y6,m6,d6,g6,rfl,hb6,hq6⟩;obtain⟨T,hrow,hT⟩:=HGq.out.q_ hb6;rw[zaP _ _ _ (by omega)]at hrow
     have hsz:=(bUp HBq.out hb6).size;have HB6:=zJ HBq hb6;have HQ6:=zk (show Rn (KA L) w6 s6 x6 n6 c6 f6 y6 m6 d6 g6 (zbM xs v)from hq6.mono (by unfold KA;have:v.ts.length*(2*L+1+1)<=64*(2*L+1+1):=Nat.mul_le_mul_right _ (by omega);omega));clear hb6 hq6 HGq HG4 HBq;go_wp2_with(at_builtin;go_must (refine zO w6 rfl (.tmp 37) (.tmp 40) 29 rfl w.heap.size 24 56 3 (agg #[.bool false,slice none 0 0,slice none 0 0]) underlying29 zaR rfl (by decide) nz3 u5 i _ rfl hrow #[.bool s6,slice x6 n6 c6,slice y6 m6 d6] rfl rfl (zdo _ _ _ _ _ _ _) (zcB _ _ _ _ _ _ _) ?p1 (by decide) hsz ?_))
     case p1=>omega
     intro g8 cap8 w8 hr8 hk8 hb8 hg8;have HB8:=zk (hb8 w HB6.out (le_refl _));have HG8:Hid (Gr (KA L) w.heap.size w8 (slice (some ⟨g8,0,none⟩) (i+1) cap8) ((rs.take (i+1)).map (zbM xs))):=by
      have hl:=zaP (zbM xs) rs i (by omega);have hp8:=zeP (p:=(rs.take i).map (zbM xs)) hT (by rw[hl];exact hr8) hk8 HQ6.out;rw[hl]at hp8
      rw[zde (zbM xs) rs i _ HV.out];exact hp8
     clear hr8 hk8 hb8 hg8 hrow hT HQ6 HB6 hsz;go_wp2;go_roundw
     case rel=>exact⟨i+1,by omega,by go_num,HB8.out,HG8.out⟩
     case measure=>simp[intOf];omega
  ·have e1:i=rs.length:=by omega
   have i4':¬(((i:Nat):Int)<((rs.length:Nat):Int)):=by omega
   obtain⟨va,vc,hvs,hvc⟩:=HG.out.slice;rw[zaP _ _ _ (by omega)]at hvs hvc
   have HG4:=HG.out;rw[hvs]at HG4
   replace HG4:=zk (show Rf (KA L) wr va (rs.map (zbM xs)) by have:=HG4.rf;rw[List.take_of_length_le (by omega)]at this;exact this);subst hvs;have HE:=zk (show rs.length=i by omega);have HV4:=zk hvc;clear HG e1 hvc;go_wp2;go_ret;exact⟨va,vc,by rw[HE.out];rfl,HB.out,by rw[HE.out];exact HV4.out,HG4.out⟩
theorem ztd {w B a0 a1 a2 a3 b0 b1 b2 b3} (h:Li2 w B a0 a1 a2 a3 b0 b1 b2 b3):Li2 w.drew B a0 a1 a2 a3 b0 b1 b2 b3:=⟨h.z,h.x0,h.x1,h.x2,h.x3,h.y0,h.y1,h.y2,h.y3⟩
theorem enumber_c {w s x n c y m d}:Calls prog 100 #[agg #[.bool s,slice x n c,slice y m d]] w λe w'=>e=returned (agg #[.int .i64 0,.bool s,slice x n c,slice y m d])/\Bl w w':=by
 have h1:=(zbr w (.bool s) (slice x n c) (slice y m d) 24).alloc (cells #[.int .i64 0,.bool false,slice none 0 0,slice none 0 0] 40);have h2:=zba (w.alloc (cells #[.bool s,slice x n c,slice y m d] 24)) 40;rw[zw]at h2
 have h3:=zu (zB w (cells #[.bool s,slice x n c,slice y m d] 24)) (cells #[.int .i64 0,.bool false,slice none 0 0,slice none 0 0] 40);go_enter func100,ntmps100;go_upto_region 1 with fail
 generalize(w.alloc (cells #[.bool s,slice x n c,slice y m d] 24)).alloc (cells #[.int .i64 0,.bool false,slice none 0 0,slice none 0 0] 40)=w1 at *;have HW:=zk h3;obtain⟨z,x0,x1,x2⟩:=h1;obtain⟨hz,z0,z1,z2,z3,zf⟩:=h2;clear h3;go_wp2;exact bodyPost_ret (v:=agg #[.int .i64 0,.bool s,slice x n c,slice y m d]) (by simp[results,results100,go_sem,z0,z1,z2,z3]) rfl ⟨rfl,zZ HW.out (by omega)⟩
theorem ef0 (s:Bool) (f:Nat->Int) (n:Nat) (g:Nat->Int) (m:Nat):efB 0 s f n g m=rfB s f n g m:=by simp[efB]
theorem Rn.en0 {L w s x n c f y m d g q} (h:Rn L w s x n c f y m d g q):En L w 0 s x n c f y m d g q:=⟨h,.inl rfl⟩
def zrL (i:Int) (a r:Rat) (neg:Bool) (j:Int) (q:Rat):Prop:=j=(if neg then -i else i)/\q=a*r
def ks (p:Bool) (n2:Nat):Int:=if p then (if n2=0 then 4 else 0) else 3
theorem znJ {w i1 s1 x1 n1 c1 f1 y1 m1 d1 g1 i2 s2 x2 n2 c2 f2 y2 m2 d2 g2 qa qb p1 p2} (h1:Rw w x1 n1 c1 f1 y1 m1 d1 g1) (h2:Rw w x2 n2 c2 f2 y2 m2 d2 g2) (hn1:n1<=4096) (hm1:m1<=4096) (hn2:n2<=4096) (hm2:m2<=4096) (hp1:efB i1 s1 f1 n1 g1 m1=p1) (hp2:efB i2 s2 f2 n2 g2 m2=p2) (hq1:p1=true->En 4096 w i1 s1 x1 n1 c1 f1 y1 m1 d1 g1 qa) (hq2:p2=true->En 4096 w i2 s2 x2 n2 c2 f2 y2 m2 d2 g2 qb) :
  Calls prog 126 #[agg #[.int .i64 i1,.bool s1,slice x1 n1 c1,slice y1 m1 d1],agg #[.int .i64 i2,.bool s2,slice x2 n2 c2,slice y2 m2 d2]] w λe w'=>∃r er,e=returned (.tuple #[.int .i64 r,.int .i64 er])/\Bl w w'/\Hid (OC (p1 && p2) i1 qa i2 qb r er):=by
 have HP1:=zk hp1;have HP2:=zk hp2
 have k1:=(zaT w (.int .i64 i1) (.bool s1) (slice x1 n1 c1) (slice y1 m1 d1) 40).alloc (cells #[.int .i64 i2,.bool s2,slice x2 n2 c2,slice y2 m2 d2] 40);have k2:=zaT (w.alloc (cells #[.int .i64 i1,.bool s1,slice x1 n1 c1,slice y1 m1 d1] 40)) (.int .i64 i2) (.bool s2) (slice x2 n2 c2) (slice y2 m2 d2) 40;rw[zw]at k2
 have k3:=zu (zB w (cells #[.int .i64 i1,.bool s1,slice x1 n1 c1,slice y1 m1 d1] 40)) (cells #[.int .i64 i2,.bool s2,slice x2 n2 c2,slice y2 m2 d2] 40);have HQ1:=zk (λh=>(hq1 h).q_ k3);have HQ2:=zk (λh=>(hq2 h).q_ k3);have HR1:=zk (h1.q_ k3);have HR2:=zk (h2.q_ k3)
 clear hp1 hp2 hq1 hq2 h1 h2;go_enter func126,ntmps126;go_upto_region 1 with fail
 generalize(w.alloc (cells #[.int .i64 i1,.bool s1,slice x1 n1 c1,slice y1 m1 d1] 40)).alloc (cells #[.int .i64 i2,.bool s2,slice x2 n2 c2,slice y2 m2 d2] 40)=w1 at *;have HW:=zk k3;have BA:=zk k1;have BB:=zk k2
 clear k1 k2 k3;obtain⟨za,a0,a1,a2,a3⟩:=BA.out;obtain⟨zb,b0,b1,b2,b3⟩:=BB.out;go_wp2_with fail
 have cf:=λ(t:TypeId)=>zfF (znq w1 (.int .i64 i1) (.bool s1) (slice x1 n1 c1) (slice y1 m1 d1) (.int .i64 i2) (.bool s2) (slice x2 n2 c2) (slice y2 m2 d2) t) (HR1.out.alloc _) (HR2.out.alloc _) (by omega) (by omega) (by omega) (by omega)
 rw[HP1.out,HP2.out]at cf
 refine(cf _).mono ?_;rintro e w2 ⟨rfl,hb⟩;have HB1:Hid (Bl w1 w2):=(zu (Below.refl _ _) _).trans (hb.mono (by simp));have HB:=zJ HW HB1.out;clear hb cf za a0 a1 a2 a3 zb b0 b1 b2 b3;obtain⟨pp,hp⟩:∃pp,(p1 && p2)=pp:=⟨_,rfl⟩;have HPP:=zk hp;rw[hp];cases pp
 ·clear hp;go_wp2
  go_ret2
  exact⟨0,3,rfl,HB.out,.inl ⟨HPP.out,rfl,rfl⟩⟩
 have hpp:p1=true/\p2=true:=by simpa using hp
 have E1:=zk ((HQ1.out hpp.1).q_ HB1.out);have E2:=zk ((HQ2.out hpp.2).q_ HB1.out)
 clear hp hpp;obtain⟨za,a0,a1,a2,a3⟩:=BA.out.q_ HB1.out;obtain⟨zb,b0,b1,b2,b3⟩:=BB.out.q_ HB1.out;by_cases hz:i1=0/\i2=0
 ·obtain⟨rfl,rfl⟩:=hz;go_wp2_with fail
  refine(zrc E1.out.rn E2.out.rn (by omega)).mono ?_;rintro e w3 ⟨r,rfl,hb,hr⟩;have HB3:=zJ HB hb;have HRr:=zk hr
  clear hb hr;go_wp2
  go_ret2
  refine⟨r,0,rfl,HB3.out,.inr ⟨HPP.out,rfl,?_⟩⟩;rcases HRr.out with⟨j1,j2⟩|⟨j1,j2⟩|⟨j1,j2⟩
  ·exact .inl ⟨j1,.inr ⟨rfl,j2⟩⟩
  ·exact .inr (.inl ⟨j1,rfl,j2⟩)
  ·exact .inr (.inr ⟨j1,.inr ⟨rfl,j2⟩⟩)
 ·have hcase:(i1 != 0)=true∨(i1 != 0)=false/\(i2 != 0)=true:=by
   by_cases h:i1=0
   ·right;subst h;exact⟨by simp,by simp;intro h;exact hz ⟨rfl,h⟩⟩
   ·left;simp;exact h
  have HEq:Hid (i1=i2->qa=qb):=by
   intro h;have j1:=E1.out.inf;have j2:=E2.out.inf
   rcases j1 with j1|j1
   ·exact absurd ⟨j1,by omega⟩ hz
   ·rcases j2 with j2|j2
    ·exact absurd ⟨by omega,j2⟩ hz
    ·rw[j1.2,j2.2]
  clear hz;rcases hcase with hc|⟨hc,hc2⟩
  all_goals
   go_wp2_with fail
   refine compare_c.mono ?_;rintro e w3 ⟨r,rfl,rfl,hr⟩;have HRr:=zk hr;clear hr;go_wp2
   go_ret2
   refine⟨r,0,rfl,HB.out,.inr ⟨HPP.out,rfl,?_⟩⟩;rcases HRr.out with⟨j1,j2⟩|⟨j1,j2⟩|⟨j1,j2⟩
   ·exact .inl ⟨j1,.inl j2⟩
   ·exact .inr (.inl ⟨j1,j2,HEq.out j2⟩)
   ·exact .inr (.inr ⟨j1,.inl j2⟩)
def zjg (q:Rat) (li:Int) (lq:Rat) (hi:Int) (hq:Rat):Bool:=decide ((li<0∨li=0/\lq<=q)/\(0<hi∨hi=0/\q<=hq))
theorem EOrd.geq {c q i b} (h:EOrd c 0 q i b):0<=c ↔ (i<0∨i=0/\b<=q):=by
 rcases h with⟨rfl,h⟩|⟨rfl,h,h'⟩|⟨rfl,h⟩
 ·constructor
  ·intro h;omega
  ·rintro(h2|⟨h2,h3⟩)
   ·rcases h with h|⟨h,_⟩ <;> omega
   ·rcases h with h|⟨_,h⟩
    ·omega
    ·exact absurd h (Rat.not_lt.2 h3)
 ·exact⟨λ_=>.inr ⟨h.symm,by rw[h'];exact Rat.le_refl⟩,λ_=>by omega⟩
 ·exact⟨λ_=>by rcases h with h|⟨h,h2⟩;exact .inl h;exact .inr ⟨h.symm,Rat.le_of_lt h2⟩,λ_=>by omega⟩
theorem EOrd.leq {c q i b} (h:EOrd c 0 q i b):c<=0 ↔ (0<i∨i=0/\q<=b):=by
 rcases h with⟨rfl,h⟩|⟨rfl,h,h'⟩|⟨rfl,h⟩
 ·exact⟨λ_=>by rcases h with h|⟨h,h2⟩;exact .inl h;exact .inr ⟨h.symm,Rat.le_of_lt h2⟩,λ_=>by omega⟩
 ·exact⟨λ_=>.inr ⟨h.symm,by rw[h'];exact Rat.le_refl⟩,λ_=>by omega⟩
 ·constructor
  ·intro h;omega
  ·rintro(h2|⟨h2,h3⟩)
   ·rcases h with h|⟨h,_⟩ <;> omega
   ·rcases h with h|⟨_,h⟩
    ·omega
    ·exact absurd h (Rat.not_lt.2 h3)
theorem zks {w s0 x0 n0 c0 f0 y0 m0 d0 g0 q i1 s1 x1 n1 c1 f1 y1 m1 d1 g1 q1 i2 s2 x2 n2 c2 f2 y2 m2 d2 g2 q2} (h0:Rn 4096 w s0 x0 n0 c0 f0 y0 m0 d0 g0 q) (h1:En 4096 w i1 s1 x1 n1 c1 f1 y1 m1 d1 g1 q1) (h2:En 4096 w i2 s2 x2 n2 c2 f2 y2 m2 d2 g2 q2) :
  Calls prog 104 #[agg #[.bool s0,slice x0 n0 c0,slice y0 m0 d0],agg #[.int .i64 i1,.bool s1,slice x1 n1 c1,slice y1 m1 d1],agg #[.int .i64 i2,.bool s2,slice x2 n2 c2,slice y2 m2 d2]] w λe w'=>e=returned (.bool (zjg q i1 q1 i2 q2))/\Bl w w':=by
 have k3:=zu (zu (zu (zB w (cells #[.bool s0,slice x0 n0 c0,slice y0 m0 d0] 24)) (cells #[.int .i64 i1,.bool s1,slice x1 n1 c1,slice y1 m1 d1] 40)) (cells #[.int .i64 i2,.bool s2,slice x2 n2 c2,slice y2 m2 d2] 40)) (cells #[.int .i64 0,.bool s0,slice x0 n0 c0,slice y0 m0 d0] 40);have b1:Bx4 ((((w.alloc (cells #[.bool s0,slice x0 n0 c0,slice y0 m0 d0] 24)).alloc (cells #[.int .i64 i1,.bool s1,slice x1 n1 c1,slice y1 m1 d1] 40)).alloc (cells #[.int .i64 i2,.bool s2,slice x2 n2 c2,slice y2 m2 d2] 40)).alloc (cells #[.int .i64 0,.bool s0,slice x0 n0 c0,slice y0 m0 d0] 40)) (w.heap.size+1) (.int .i64 i1) (.bool s1) (slice x1 n1 c1) (slice y1 m1 d1):=by
  have:=((zaT (w.alloc (cells #[.bool s0,slice x0 n0 c0,slice y0 m0 d0] 24)) (.int .i64 i1) (.bool s1) (slice x1 n1 c1) (slice y1 m1 d1) 40).alloc (cells #[.int .i64 i2,.bool s2,slice x2 n2 c2,slice y2 m2 d2] 40)).alloc (cells #[.int .i64 0,.bool s0,slice x0 n0 c0,slice y0 m0 d0] 40);rw[zw]at this;exact this
 have b2:Bx4 ((((w.alloc (cells #[.bool s0,slice x0 n0 c0,slice y0 m0 d0] 24)).alloc (cells #[.int .i64 i1,.bool s1,slice x1 n1 c1,slice y1 m1 d1] 40)).alloc (cells #[.int .i64 i2,.bool s2,slice x2 n2 c2,slice y2 m2 d2] 40)).alloc (cells #[.int .i64 0,.bool s0,slice x0 n0 c0,slice y0 m0 d0] 40)) (w.heap.size+1+1) (.int .i64 i2) (.bool s2) (slice x2 n2 c2) (slice y2 m2 d2):=by
  have:=(zaT ((w.alloc (cells #[.bool s0,slice x0 n0 c0,slice y0 m0 d0] 24)).alloc (cells #[.int .i64 i1,.bool s1,slice x1 n1 c1,slice y1 m1 d1] 40)) (.int .i64 i2) (.bool s2) (slice x2 n2 c2) (slice y2 m2 d2) 40).alloc (cells #[.int .i64 0,.bool s0,slice x0 n0 c0,slice y0 m0 d0] 40);rw[zw,zw]at this;exact this
 have b3:Bx4 ((((w.alloc (cells #[.bool s0,slice x0 n0 c0,slice y0 m0 d0] 24)).alloc (cells #[.int .i64 i1,.bool s1,slice x1 n1 c1,slice y1 m1 d1] 40)).alloc (cells #[.int .i64 i2,.bool s2,slice x2 n2 c2,slice y2 m2 d2] 40)).alloc (cells #[.int .i64 0,.bool s0,slice x0 n0 c0,slice y0 m0 d0] 40)) (w.heap.size+1+1+1) (.int .i64 0) (.bool s0) (slice x0 n0 c0) (slice y0 m0 d0):=by
  have:=zaT (((w.alloc (cells #[.bool s0,slice x0 n0 c0,slice y0 m0 d0] 24)).alloc (cells #[.int .i64 i1,.bool s1,slice x1 n1 c1,slice y1 m1 d1] 40)).alloc (cells #[.int .i64 i2,.bool s2,slice x2 n2 c2,slice y2 m2 d2] 40)) (.int .i64 0) (.bool s0) (slice x0 n0 c0) (slice y0 m0 d0) 40;rw[zw,zw,zw]at this;exact this
 have E0:=zk ((Rn.en0 h0).q_ k3);have E1:=zk (h1.q_ k3);have E2:=zk (h2.q_ k3);have HB:=zk k3;have B1:=zk b1;have B2:=zk b2;have B3:=zk b3
 clear h0 h1 h2 k3 b1 b2 b3;go_enter func104,ntmps104;go_upto_region 2 with fail
 generalize((((w.alloc (cells #[.bool s0,slice x0 n0 c0,slice y0 m0 d0] 24)).alloc (cells #[.int .i64 i1,.bool s1,slice x1 n1 c1,slice y1 m1 d1] 40)).alloc (cells #[.int .i64 i2,.bool s2,slice x2 n2 c2,slice y2 m2 d2] 40)).alloc (cells #[.int .i64 0,.bool s0,slice x0 n0 c0,slice y0 m0 d0] 40))=w1 at *;obtain⟨za,a0,a1,a2,a3⟩:=B3.out;obtain⟨zb,l0,l1,l2,l3⟩:=B1.out;go_wp2_with fail
 refine(znJ E0.out.rn.rw E1.out.rn.rw E0.out.rn.ln E0.out.rn.ld E1.out.rn.ln E1.out.rn.ld E0.out.ef E1.out.ef (λ_=>E0.out) (λ_=>E1.out)).mono ?_;rintro e w2 ⟨r1,er1,rfl,hb,HO1⟩;replace HB:=zJ HB hb;replace E0:=zk (E0.out.q_ hb);replace E2:=zk (E2.out.q_ hb);replace B2:=zk (B2.out.q_ hb);replace B3:=zk (B3.out.q_ hb)
 clear hb za a0 a1 a2 a3 zb l0 l1 l2 l3 E1 B1;obtain⟨za,a0,a1,a2,a3⟩:=B3.out;obtain⟨zb,l0,l1,l2,l3⟩:=B2.out;go_wp2_with fail
 refine(znJ E0.out.rn.rw E2.out.rn.rw E0.out.rn.ln E0.out.rn.ld E2.out.rn.ln E2.out.rn.ld E0.out.ef E2.out.ef (λ_=>E0.out) (λ_=>E2.out)).mono ?_;rintro e w3 ⟨r2,er2,rfl,hb,HO2⟩;replace HB:=zJ HB hb;clear hb za a0 a1 a2 a3 zb l0 l1 l2 l3 E0 E2 B2 B3;have o1:EOrd r1 0 q i1 q1:=by rcases HO1.out with⟨h,_⟩|⟨_,_,h⟩;cases h;exact h
 have o2:EOrd r2 0 q i2 q2:=by rcases HO2.out with⟨h,_⟩|⟨_,_,h⟩;cases h;exact h
 have HK:Hid (zjg q i1 q1 i2 q2=(decide (0<=r1) && decide (r2<=0))):=by
  show _=_;unfold zjg;rw[<-Bool.decide_and];exact decide_eq_decide.2 (and_congr o1.geq.symm o2.leq.symm)
 clear o1 o2 HO1 HO2;by_cases c1:0<=r1
 ·have d1:decide (0<=r1)=true:=decide_eq_true c1;have HD:=zk d1;by_cases c2:r2<=0
  ·have HD2:=zk (decide_eq_true c2);go_wp2;go_ret;exact⟨by rw[HK.out,HD.out,HD2.out];rfl,HB.out⟩
  ·have HD2:=zk (decide_eq_false c2);go_wp2;go_ret;exact⟨by rw[HK.out,HD.out,HD2.out];rfl,HB.out⟩
 ·have d1:decide (0<=r1)=false:=decide_eq_false c1;have HD:=zk d1;go_wp2;go_ret;exact⟨by rw[HK.out,HD.out];rfl,HB.out⟩
theorem zcR {w B base u0 u1 u2 x n c f} (h:Own .u64 49 w base (slice x n c) n f) (hB:B<base):Own .u64 49 (((w.setCell ⟨B,0,none⟩ u0).setCell ⟨B,1,none⟩ u1).setCell ⟨B,2,none⟩ u2) base (slice x n c) n f :=
 h.of (λa ha=>by
  have hne:a.block≠B:=by have:=(h.slice.2.2.2.2 a ha).1;omega
  rw[Below.heap_setCell _ _ _ _ hne,Below.heap_setCell _ _ _ _ hne,Below.heap_setCell _ _ _ _ hne])
theorem zrx:(prog.info? 136).map (λi=>(i.zero,i.size,i.bytes))=some (some (agg #[.int .i64 0,.bool false,slice none 0 0,slice none 0 0]),4,64):=by kernel_rfl
theorem Dn.kp {w w' x n d V} (h:Dn w x n d V) (hk:Kp w w'):Dn w' x n d V:=⟨h.rd.kp hk,h.dg,h.fm,h.val⟩
theorem Qn.kp {w w' s x n d y m g q} (h:Qn w s x n d y m g q) (hk:Kp w w'):Qn w' s x n d y m g q:=⟨⟨h.num.dn.kp hk,h.num.sgn,h.num.pos⟩,h.den.kp hk⟩
def QnT (K:Nat) (w:World) (t:Nm) (q:Rat):Prop:=t.n<=K/\t.m<=K/\Qn w t.s t.x t.n t.f t.y t.m t.g q
theorem QnT.q_ {K w w' t q} (h:QnT K w t q) (hb:Bl w w'):QnT K w' t q:=⟨h.1,h.2.1,h.2.2.q_ hb⟩
theorem QnT.kp {K w w' t q} (h:QnT K w t q) (hk:Kp w w'):QnT K w' t q:=⟨h.1,h.2.1,h.2.2.kp hk⟩
def Tq (K:Nat) (w:World) (ao:Option Addr) (v:List (Int × Rat)):Prop :=
 ∀(j:Nat) (a:Int) (q:Rat),v[j]?=some (a,q)->∃b o,∃t:Nm,ao=some ⟨b,o,none⟩/\C4 w b (o+j*4) (.int .i64 a) (.bool t.s) (slice t.x t.n t.c) (slice t.y t.m t.d)/\QnT K w t q
theorem Tq.q_ {K w w' ao v} (h:Tq K w ao v) (hb:Bl w w'):Tq K w' ao v:=λj a q hj=>by
 obtain⟨b,o,t,e,h1,h2⟩:=h j a q hj;exact⟨b,o,t,e,h1.q_ hb,h2.q_ hb⟩
theorem zqj:(prog.info? 73).map (λi=>(i.zero,i.size,i.bytes))=some (some (agg #[.bool false,slice none 0 0,slice none 0 0]),3,56):=by kernel_rfl
theorem zfG {X X'}:∀{r i:Nat},(∀j,i<=j->j<i+r->Sn (X j) (X' j))->afr X' r i=afr X r i:=by
 intro r
 induction r with
 | zero=>intro i _;rfl
 | succ r ih =>
  intro i h;simp only[afr];rw[ih (λj a b=>h j (by omega) (by omega)),(h i (by omega) (by omega)).nfB]
def Rqs (K:Nat) (w:World) (ao:Option Addr) (p:List Rat):Prop :=
 ∀(j:Nat) (q:Rat),p[j]?=some q->∃b o,∃t:Nm,ao=some ⟨b,o,none⟩/\C3 w b (o+j*3) (.bool t.s) (slice t.x t.n t.c) (slice t.y t.m t.d)/\QnT K w t q
theorem Rqs.q_ {K w w' ao p} (h:Rqs K w ao p) (hb:Bl w w'):Rqs K w' ao p:=λj q hj=>by
 obtain⟨b,o,t,e,h1,h2⟩:=h j q hj;exact⟨b,o,t,e,h1.q_ hb,h2.q_ hb⟩
def zjF (K:Nat) (w w':World) (e:Ending) (k:Nat) (p:List Rat):Prop:=∃aw cw,e=returned (slice aw k cw)/\Bl w w'/\(k<=cw/\cw<=9223372036854775807)/\Hid (Rqs K w' aw p)
theorem zpJ {w ao k cap X} (h:Rl w ao k X) (hk:k<=10000) (hl:∀j,j<k->(X j).n<=1000/\(X j).m<=1000) :
  Calls prog 74 #[slice ao k cap] w λe w'=>e=returned (.bool (afB k X))/\Bl w w':=by
 have H:=zk h;clear h;go_enter func74,ntmps74;go_wp2_with fail
 go_loopw[7] (λt wr=>∃(i:Nat),i<=k/\t=.int .i64 i/\Hid (Bl w wr)/\Hid (afB k X=afr X (k-i) i)) (λt _=>k-(intOf t).toNat)
 case atStart=>exact⟨0,by omega,rfl,Below.refl _ _,rfl⟩
 case round =>
  obtain⟨i,hi,rfl,HB,HT⟩:=hrel;by_cases hlt:i<k
  ·obtain⟨b,o,rfl,hc,hn,hn1,hn2⟩:=(H.out.q_ HB.out) i hlt;obtain⟨r,hr⟩:∃r,k-i=r+1:=⟨k-i-1,by omega⟩;have hT:afB k X=(nfB (X i) && afr X r (i+1)):=by rw[HT.out,hr];rfl
   have hr2:k-(i+1)=r:=by omega
   obtain⟨⟨s,x,n,c,f,y,m,d,g⟩,hTi⟩:∃t,X i=t:=⟨_,rfl⟩;rw[hTi]at hc hn hn1 hn2 hT
   obtain⟨x0,x1,x2⟩:=hc;replace x0:wr.cell? ⟨b,o+i*3,none⟩=some (.bool s):=x0;replace x1:wr.cell? ⟨b,o+i*3+1,none⟩=some (slice x n c):=x1;replace x2:wr.cell? ⟨b,o+i*3+2,none⟩=some (slice y m d):=x2;replace hn:Rw wr x n c f y m d g:=hn;replace hn1:n<=65536:=hn1;replace hn2:m<=65536:=hn2;have hblk:Bl wr (wr.alloc (cells #[.bool s,slice x n c,slice y m d] 24)):=zu (Below.refl _ _) _;obtain⟨hl1,hl2⟩:=hl i hlt;rw[hTi]at hl1 hl2
   have CF:=zk (zdD (s:=s) (hn.q_ hblk) hl1 hl2);have HTi:=zk hT;have HR2:=zk hr2
   have i1:((i:Nat):Int)<((k:Nat):Int):=by omega
   clear hT hr2 hTi hr hn hblk hl1 hl2;cases hf:rfB s f n g m
   ·have CF2:=CF;rw[hf]at CF2
    have HNF:Hid (nfB ⟨s,x,n,c,f,y,m,d,g⟩=false):=hf;clear CF hf;go_wp2_with fail
    refine CF2.out.mono ?_;rintro e w1 ⟨rfl,hb1⟩;obtain⟨_,_,_,_,hb2⟩:=znU hb1;go_wp2;go_ret;refine⟨?_,bUp HB.out hb2⟩;rw[HTi.out,HNF.out];rfl
   ·have CF2:=CF;rw[hf]at CF2
    have HNF:Hid (nfB ⟨s,x,n,c,f,y,m,d,g⟩=true):=hf;clear CF hf;go_wp2_with fail
    refine CF2.out.mono ?_;rintro e w1 ⟨rfl,hb1⟩;obtain⟨_,_,_,_,hb2⟩:=znU hb1;have HB2:=zJ HB hb2;clear hb1 hb2;go_wp2;go_roundw
    case rel =>
     refine⟨i+1,by omega,by go_num,HB2.out,?_⟩;show _=_;rw[HTi.out,HNF.out,HR2.out];rfl
    case measure=>simp[intOf];omega
  ·have e1:i=k:=by omega
   have HTe:Hid (afB k X=true):=by
    show _=_;rw[HT.out,e1,Nat.sub_self];rfl
   have i2:¬(((i:Nat):Int)<((k:Nat):Int)):=by omega
   clear e1 HT;go_wp2;go_ret;refine⟨?_,HB.out⟩;rw[HTe.out];rfl
def zpW (w w':World) (e:Ending) (k:Nat) (X:Nat->Nm):Prop:=∃a c X',e=returned (slice a k c)/\Bl w w'/\(k<=c/\c<=9223372036854775807)/\Hid ((Rl w' a k X'/\∀j,j<k->Sn (X j) (X' j))/\RowG 24 3 w.heap.size w' (slice a k c) k (rcells (rls k X')))
theorem zoI {w ao k cap X} (h:Rl w ao k X) (hk:k<=10000) (hl:∀j,j<k->(X j).n<=1000/\(X j).m<=1000) :
  Calls prog 8 #[slice ao k cap] w λe w'=>zpW w w' e k X:=by
 have H:=zk h;clear h;go_enter func8,ntmps8;go_wp2_with fail
 go_loopw[3,8] (λov t wr=>∃(i:Nat) (T':Nat->Nm),i<=k/\t=.int .i64 i/\Hid (Bl w wr)/\Hid (RowG 24 3 w.heap.size wr ov i (rcells (rls i T')))/\Hid (∀j,j<i->Sn (X j) (T' j)/\Rw wr (T' j).x (T' j).n (T' j).c (T' j).f (T' j).y (T' j).m (T' j).d (T' j).g)) (λ_ t _=>k-(intOf t).toNat)
 case atStart=>exact⟨0,X,by omega,rfl,Below.refl _ _,zak _ _ _ _,λj hj=>by omega⟩
 case round =>
  obtain⟨i,T',hi,rfl,HB,HRow,HT⟩:=hrel;by_cases hlt:i<k
  ·obtain⟨b,o,hao,hc,hn,hn1,hn2⟩:=(H.out.q_ HB.out) i hlt;subst hao;obtain⟨⟨s,x,n,c,f,y,m,d,g⟩,hTi⟩:∃t,X i=t:=⟨_,rfl⟩;rw[hTi]at hc hn
   obtain⟨x0,x1,x2⟩:=hc;replace x0:wr.cell? ⟨b,o+i*3,none⟩=some (.bool s):=x0;replace x1:wr.cell? ⟨b,o+i*3+1,none⟩=some (slice x n c):=x1;replace x2:wr.cell? ⟨b,o+i*3+2,none⟩=some (slice y m d):=x2;have i1:((i:Nat):Int)<((k:Nat):Int):=by omega
   obtain⟨hn10,hm10⟩:=hl i hlt;rw[hTi]at hn10 hm10
   replace hn:Rw wr x n c f y m d g:=hn;have hb5:=zB wr (cells #[.bool s,slice x n c,slice y m d] 24);have HN:=zk (hn.q_ hb5);have HTi:=zk hTi;have HRow5:=zk (HRow.out.q_ hb5);have HB5:=zJ HB hb5
   have HT5:Hid (∀j,j<i->Sn (X j) (T' j)/\Rw (wr.alloc (cells #[.bool s,slice x n c,slice y m d] 24)) (T' j).x (T' j).n (T' j).c (T' j).f (T' j).y (T' j).m (T' j).d (T' j).g):=λj hj=>⟨(HT.out j hj).1,(HT.out j hj).2.q_ hb5⟩
   clear hn hTi hb5 hn1 hn2;go_wp2_with fail
   clear x0 x1 x2 HB HRow HT;generalize wr.alloc (cells #[.bool s,slice x n c,slice y m d] 24)=w5 at *;refine(zdB (s:=s) HN.out (le_trans hn10 (by decide)) (le_trans hm10 (by decide))).mono ?_;rintro e w6 ⟨z6,c6,z7,c7,rfl,hb6,HQ⟩;have HB6:=zJ HB5 hb6;have HRow6:=zk (HRow5.out.q_ hb6)
   have HT6:Hid (∀j,j<i->Sn (X j) (T' j)/\Rw w6 (T' j).x (T' j).n (T' j).c (T' j).f (T' j).y (T' j).m (T' j).d (T' j).g):=λj hj=>⟨(HT5.out j hj).1,(HT5.out j hj).2.q_ hb6⟩
   have hsz:=HB6.out.size;clear hb6 HB5 HRow5 HT5 HN;go_wp2_with(at_builtin;go_must (refine zO w6 rfl (.tmp 12) (.tmp 15) 29 rfl w.heap.size 24 56 3 (agg #[.bool false,slice none 0 0,slice none 0 0]) underlying29 zaR rfl (by decide) nz3 u3 i (rcells (rls i T')) rfl HRow6.out #[.bool s,slice z6 n c6,slice z7 m c7] rfl rfl (zdo _ _ _ _ _ _ _) (zcB _ _ _ _ _ _ _) ?p1 (by decide) hsz ?_))
   case p1=>omega
   intro g8 cap8 w8 hr8 hk8 hb8 hg8;have HB8:=zk (hb8 w HB6.out (le_refl _));have HR8:Hid (RowG 24 3 w.heap.size w8 (slice (some ⟨g8,0,none⟩) (i+1) cap8) (i+1) (rcells (rls (i+1) (zaD T' i ⟨s,z6,n,c6,f,z7,m,c7,g⟩)))):=by
    show RowG _ _ _ _ _ _ _;rw[zcM];exact hr8
   have HT8:Hid (∀j,j<i+1->Sn (X j) (zaD T' i ⟨s,z6,n,c6,f,z7,m,c7,g⟩ j)/\Rw w8 (zaD T' i ⟨s,z6,n,c6,f,z7,m,c7,g⟩ j).x (zaD T' i ⟨s,z6,n,c6,f,z7,m,c7,g⟩ j).n (zaD T' i ⟨s,z6,n,c6,f,z7,m,c7,g⟩ j).c (zaD T' i ⟨s,z6,n,c6,f,z7,m,c7,g⟩ j).f (zaD T' i ⟨s,z6,n,c6,f,z7,m,c7,g⟩ j).y (zaD T' i ⟨s,z6,n,c6,f,z7,m,c7,g⟩ j).m (zaD T' i ⟨s,z6,n,c6,f,z7,m,c7,g⟩ j).d (zaD T' i ⟨s,z6,n,c6,f,z7,m,c7,g⟩ j).g):=λj hj=>by
    by_cases e:j=i
    ·subst e;rw[zbs];rw[HTi.out];exact⟨⟨rfl,rfl,rfl,rfl,rfl⟩,Rw.kp HQ.out hk8⟩
    ·rw[putN_ne e];exact⟨(HT6.out j (by omega)).1,Rw.kp (HT6.out j (by omega)).2 hk8⟩
   clear hr8 hk8 hb8 hg8 HRow6 HT6 HB6 HQ hsz;go_wp2;go_roundw
   case rel=>exact⟨i+1,_,by omega,by go_num,HB8.out,HR8.out,HT8.out⟩
   case measure=>simp[intOf];omega
  ·have e1:i=k:=by omega
   have i1:¬(((i:Nat):Int)<((k:Nat):Int)):=by omega
   rw[e1]at HRow HT
   obtain⟨aw,cw,rfl⟩:=HRow.out.slice;have hcw:k<=cw/\cw<=9223372036854775807:=by
    rcases HRow.out.2 with⟨hv,h0⟩|⟨_,_,_,hv,_,_,h5,h6,_⟩
    ·cases hv;omega
    ·cases hv;unfold maxLen at h6;omega
   clear e1;go_wp2;go_ret;exact⟨aw,cw,T',rfl,HB.out,hcw,⟨(λj hj=>by obtain⟨b,hb,h4⟩:=zcf HRow.out hj;obtain⟨⟨_,e2,_,e4,_⟩,h6⟩:=HT.out j hj;exact⟨b,0,hb,h4,h6,by rw[e2];exact le_trans (hl j hj).1 (by decide),by rw[e4];exact le_trans (hl j hj).2 (by decide)⟩),λj hj=>(HT.out j hj).1⟩,HRow.out⟩
theorem zpH {w L ao k cap X p} (h:Rl w ao k X) (hk:k<=10000) (hL:L<=16000) (hlp:p.length=k) (hq:∀j,j<k->∃q,p[j]?=some q/\Rn L w (X j).s (X j).x (X j).n (X j).c (X j).f (X j).y (X j).m (X j).d (X j).g q) :
  Calls prog 44 #[slice ao k cap] w λe w'=>zjF (2*L) w w' e k p:=by
 have H:=zk h;clear h;go_enter func44,ntmps44;go_wp2_with fail
 go_loopw[3,8] (λov t wr=>∃(i:Nat) (T':Nat->Nm),i<=k/\t=.int .i64 i/\Hid (Bl w wr)/\Hid (RowG 73 3 w.heap.size wr ov i (rcells (rls i T')))/\Hid (∀j,j<i->∃q,p[j]?=some q/\QnT (2*L) wr (T' j) q)) (λ_ t _=>k-(intOf t).toNat)
 case atStart=>exact⟨0,X,by omega,rfl,Below.refl _ _,zak _ _ _ _,λj hj=>by omega⟩
 case round =>
  obtain⟨i,T',hi,rfl,HB,HRow,HT⟩:=hrel;by_cases hlt:i<k
  ·obtain⟨b,o,hao,hc,hn,hn1,hn2⟩:=(H.out.q_ HB.out) i hlt;subst hao;obtain⟨⟨s,x,n,c,f,y,m,d,g⟩,hTi⟩:∃t,X i=t:=⟨_,rfl⟩;rw[hTi]at hc hn
   obtain⟨x0,x1,x2⟩:=hc;replace x0:wr.cell? ⟨b,o+i*3,none⟩=some (.bool s):=x0;replace x1:wr.cell? ⟨b,o+i*3+1,none⟩=some (slice x n c):=x1;replace x2:wr.cell? ⟨b,o+i*3+2,none⟩=some (slice y m d):=x2;have i1:((i:Nat):Int)<((k:Nat):Int):=by omega
   obtain⟨q,hvq,hrn⟩:=hq i hlt;rw[hTi]at hrn
   replace hn:Rn L wr s x n c f y m d g q:=hrn.q_ HB.out;have HVq:=zk hvq;have hb5:=zB wr (cells #[.bool s,slice x n c,slice y m d] 24);have HN:=zk (hn.q_ hb5);have HTi:=zk hTi;have HRow5:=zk (HRow.out.q_ hb5);have HB5:=zJ HB hb5
   have HT5:Hid (∀j,j<i->∃q,p[j]?=some q/\QnT (2*L) (wr.alloc (cells #[.bool s,slice x n c,slice y m d] 24)) (T' j) q):=λj hj=>by obtain⟨q,h1,h2⟩:=HT.out j hj;exact⟨q,h1,h2.q_ hb5⟩
   clear hn hTi hb5 hn1 hn2;go_wp2_with fail
   clear x0 x1 x2 HB HRow HT;generalize wr.alloc (cells #[.bool s,slice x n c,slice y m d] 24)=w5 at *;refine((zdC HN.out (by omega)).mono (R':=λe w'=>∃s6 x6 n6 c6 d6 y6 m6 e6 g6,e=returned (agg #[.bool s6,slice x6 n6 c6,slice y6 m6 e6])/\Bl w5 w'/\Hid (n6<=2*L/\m6<=2*L/\Qn w' s6 x6 n6 d6 y6 m6 g6 q)) (λ_ _ ⟨s,x,n,c,d,y,m,c',g,h1,h2,h3,h4,h5⟩=>⟨s,x,n,c,d,y,m,c',g,h1,h2,h3,h4,h5⟩)).mono ?_;rintro e w6 ⟨s6,x6,n6,c6,d6,y6,m6,e6,g6,rfl,hb6,HQ⟩;have HB6:=zJ HB5 hb6;have HRow6:=zk (HRow5.out.q_ hb6)
   have HT6:Hid (∀j,j<i->∃q,p[j]?=some q/\QnT (2*L) w6 (T' j) q):=λj hj=>by obtain⟨q,h1,h2⟩:=HT5.out j hj;exact⟨q,h1,h2.q_ hb6⟩
   have hsz:=HB6.out.size;clear hb6 HB5 HRow5 HT5 HN;go_wp2_with(at_builtin;go_must (refine zO w6 rfl (.tmp 12) (.tmp 15) 91 rfl w.heap.size 73 56 3 (agg #[.bool false,slice none 0 0,slice none 0 0]) underlying91 zqj rfl (by decide) nz3 u3 i (rcells (rls i T')) rfl HRow6.out #[.bool s6,slice x6 n6 c6,slice y6 m6 e6] rfl rfl (zdo _ _ _ _ _ _ _) (zcB _ _ _ _ _ _ _) ?p1 (by decide) hsz ?_))
   case p1=>omega
   intro g8 cap8 w8 hr8 hk8 hb8 hg8;have HB8:=zk (hb8 w HB6.out (le_refl _));have HR8:Hid (RowG 73 3 w.heap.size w8 (slice (some ⟨g8,0,none⟩) (i+1) cap8) (i+1) (rcells (rls (i+1) (zaD T' i ⟨s6,x6,n6,c6,d6,y6,m6,e6,g6⟩)))):=by
    show RowG _ _ _ _ _ _ _;rw[zcM];exact hr8
   have HT8:Hid (∀j,j<i+1->∃q,p[j]?=some q/\QnT (2*L) w8 (zaD T' i ⟨s6,x6,n6,c6,d6,y6,m6,e6,g6⟩ j) q):=λj hj=>by
    by_cases e:j=i
    ·subst e;rw[zbs];exact⟨q,HVq.out,QnT.kp (t:=⟨s6,x6,n6,c6,d6,y6,m6,e6,g6⟩) HQ.out hk8⟩
    ·rw[putN_ne e];obtain⟨q,h1,h2⟩:=HT6.out j (by omega);exact⟨q,h1,h2.kp hk8⟩
   clear hr8 hk8 hb8 hg8 HRow6 HT6 HB6 HQ hsz;go_wp2;go_roundw
   case rel=>exact⟨i+1,_,by omega,by go_num,HB8.out,HR8.out,HT8.out⟩
   case measure=>simp[intOf];omega
  ·have e1:i=k:=by omega
   have i1:¬(((i:Nat):Int)<((k:Nat):Int)):=by omega
   rw[e1]at HRow HT
   obtain⟨aw,cw,rfl⟩:=HRow.out.slice;have hcw:k<=cw/\cw<=9223372036854775807:=by
    rcases HRow.out.2 with⟨hv,h0⟩|⟨_,_,_,hv,_,_,h5,h6,_⟩
    ·cases hv;omega
    ·cases hv;unfold maxLen at h6;omega
   clear e1;go_wp2;go_ret;exact⟨aw,cw,rfl,HB.out,hcw,(λj q hj=>by have hlt2:j<k:=by { have:=(List.getElem?_eq_some_iff.1 hj).1;omega };obtain⟨b,hb,h4⟩:=zcf HRow.out hlt2;obtain⟨q',h5,h6⟩:=HT.out j hlt2;rw[hj]at h5;obtain rfl:=Option.some.inj h5;exact⟨b,0,T' j,hb,h4,h6⟩)⟩
def pnE (k:Nat) (X:Nat->Nm) (z:Int):Int:=if afB k X=true then (if (k:Int)=z then 0 else 7) else 3
theorem zdl {w ao k cap X z} (h:Rl w ao k X) (hk:k<=1048576) :
  Calls prog 30 #[slice ao k cap,.int .i64 z] w λe w'=>e=returned (.int .i64 (pnE k X z))/\Bl w w':=by
 have H:=zk h;clear h;go_enter func30,ntmps30;go_wp2_with fail
 go_loopw[9] (λt wr=>∃(i:Nat),i<=k/\t=.int .i64 i/\Hid (Bl w wr)/\Hid (afB k X=afr X (k-i) i)) (λt _=>k-(intOf t).toNat)
 case atStart=>exact⟨0,by omega,rfl,Below.refl _ _,rfl⟩
 case round =>
  obtain⟨i,hi,rfl,HB,HT⟩:=hrel;by_cases hlt:i<k
  ·obtain⟨b,o,rfl,hc,hn,hn1,hn2⟩:=(H.out.q_ HB.out) i hlt;obtain⟨r,hr⟩:∃r,k-i=r+1:=⟨k-i-1,by omega⟩;have hT:afB k X=(nfB (X i) && afr X r (i+1)):=by rw[HT.out,hr];rfl
   have hr2:k-(i+1)=r:=by omega
   obtain⟨⟨s,x,n,c,f,y,m,d,g⟩,hTi⟩:∃t,X i=t:=⟨_,rfl⟩;rw[hTi]at hc hn hn1 hn2 hT
   obtain⟨x0,x1,x2⟩:=hc;replace x0:wr.cell? ⟨b,o+i*3,none⟩=some (.bool s):=x0;replace x1:wr.cell? ⟨b,o+i*3+1,none⟩=some (slice x n c):=x1;replace x2:wr.cell? ⟨b,o+i*3+2,none⟩=some (slice y m d):=x2;replace hn:Rw wr x n c f y m d g:=hn;replace hn1:n<=65536:=hn1;replace hn2:m<=65536:=hn2;have hblk:Bl wr (wr.alloc (cells #[.bool s,slice x n c,slice y m d] 24)):=zu (Below.refl _ _) _;have CF:=zk (zdA (s:=s) (hn.q_ hblk) (by omega) (by omega));have HTi:=zk hT;have HR2:=zk hr2
   have i1:((i:Nat):Int)<((k:Nat):Int):=by omega
   clear hT hr2 hTi hr hn hblk;cases hf:rfB s f n g m
   ·have CF2:=CF;rw[hf]at CF2
    have HNF:Hid (nfB ⟨s,x,n,c,f,y,m,d,g⟩=false):=hf;clear CF hf;go_wp2_with fail
    refine CF2.out.mono ?_;rintro e w1 ⟨rfl,hb1⟩;obtain⟨_,_,_,_,hb2⟩:=znU hb1;go_wp2;go_ret;refine⟨?_,bUp HB.out hb2⟩;rw[pnE,HTi.out,HNF.out];rfl
   ·have CF2:=CF;rw[hf]at CF2
    have HNF:Hid (nfB ⟨s,x,n,c,f,y,m,d,g⟩=true):=hf;clear CF hf;go_wp2_with fail
    refine CF2.out.mono ?_;rintro e w1 ⟨rfl,hb1⟩;obtain⟨_,_,_,_,hb2⟩:=znU hb1;have HB2:=zJ HB hb2;clear hb1 hb2;go_wp2;go_roundw
    case rel =>
     refine⟨i+1,by omega,by go_num,HB2.out,?_⟩;show _=_;rw[HTi.out,HNF.out,HR2.out];rfl
    case measure=>simp[intOf];omega
  ·have e1:i=k:=by omega
   have HTe:Hid (afB k X=true):=by
    show _=_;rw[HT.out,e1,Nat.sub_self];rfl
   have i2:¬(((i:Nat):Int)<((k:Nat):Int)):=by omega
   clear e1 HT;by_cases hz:((k:Nat):Int)=z
   ·have hz1:(((k:Nat):Int) != z)=false:=by simpa using hz
    have HZ:=zk (show pnE k X z=0 by rw[pnE,HTe.out];simp[hz]);clear hz;go_wp2;go_ret;refine⟨?_,HB.out⟩;rw[HZ.out];rfl
   ·have hz1:(((k:Nat):Int) != z)=true:=by simpa using hz
    have HZ:=zk (show pnE k X z=7 by rw[pnE,HTe.out];simp[hz]);clear hz;go_wp2;go_ret;refine⟨?_,HB.out⟩;rw[HZ.out];rfl
def Dw (w:World) (base:Nat) (y:Option Addr) (m:Nat):Prop:=0<m->∃b,y=some ⟨b,0,none⟩/\base<=b/\(∃q,w.cell? ⟨b,0,none⟩=some (.int .u64 q))/\w.frozen? ⟨b,0,none⟩=false
theorem Dw.q_ {w w' base y m} (h:Dw w base y m) (hb:Bl w w'):Dw w' base y m:=λhm=>by
 obtain⟨b,h1,h2,⟨q,h3⟩,h4⟩:=h hm;obtain⟨_,h5⟩:=zaH hb;exact⟨b,h1,h2,⟨q,kCb hb h3⟩,(h5 _ _ (block_lt_of_cell? w _ h3)).trans h4⟩
theorem ziZ {w base y m d g} (h:Own .u64 49 w base (slice y m d) m g):Dw w base y m:=λhm=>by
 obtain⟨h1,h2⟩:=h;rcases h2 with⟨h3,h4⟩|⟨B,cap',cur,hv,hb,hg,hn,hmx,hs,ht⟩
 ·cases h3;omega
 ·cases hv
  refine⟨B,rfl,hb,⟨g 0,?_⟩,by simp[World.frozen?,hg]⟩;have h5:cur.toList[0]?=(lst .u64 g m)[0]?:=by rw[<-ht,List.getElem?_take,if_pos (by omega)]
  have h6:(lst .u64 g m)[0]?=some (.int .u64 (g 0)):=by
   obtain⟨m',rfl⟩:∃m',m=m'+1:=⟨m-1,by omega⟩;have hl:0<(lst .u64 g (m'+1)).length:=by rw[zS];omega
   obtain⟨u,hu⟩:∃u,(lst .u64 g (m'+1))[0]?=some u:=⟨_,getElem?_eq_getElem hl⟩;obtain⟨_,rfl⟩:=zcC hu;exact hu
  simp only[World.cell?,hg];simpa using h5.trans h6
theorem Dw.set {w base y m p u v} (h:Dw w base y m) (hp:w.cell? p=some v) (hv:∀i,v≠.int .u64 i):Dw (w.setCell p u) base y m:=λhm=>by
 obtain⟨b,h1,h2,⟨q,h3⟩,h4⟩:=h hm;refine⟨b,h1,h2,⟨q,?_⟩,kFs h4⟩;rw[World.cell?_setCell_other _ _ _ _ (λhe=>hv _ (Option.some.inj (hp.symm.trans (he ▸ h3))))];exact h3
def Dw2 (w:World) (base:Nat) (t:Nm):Prop:=Dw w base t.y t.m/\Dw w base t.x t.n
theorem Dw2.q_ {w w' base t} (h:Dw2 w base t) (hb:Bl w w'):Dw2 w' base t:=⟨h.1.q_ hb,h.2.q_ hb⟩
theorem Dw2.set {w base t p u v} (h:Dw2 w base t) (hp:w.cell? p=some v) (hv:∀i,v≠.int .u64 i):Dw2 (w.setCell p u) base t:=⟨h.1.set hp hv,h.2.set hp hv⟩
def zcz (M:Mo) (k:Nat) (X:Nat->Nm):Int:=lsf (two (zaF M) (pnE k X M.ck)) 2
theorem zhM {w M ao k cap X} (h:MoW w M) (hx:Rl w ao k X) (hk:k<=1048576) :
  Calls prog 103 #[M.val,slice ao k cap] w λe w'=>e=returned (.int .i64 (zcz M k X))/\Bl w w':=by
 have CC:=zk (λW (hW:Bl w W)=>zeT (h.q_ hW));have CN:=zk (λW (hW:Bl w W)=>zdl (w:=W) (cap:=cap) (z:=(M.ck:Int)) (hx.q_ hW) hk);obtain⟨er,her⟩:∃e,zcz M k X=e:=⟨_,rfl⟩;have HE:=zk her;unfold zcz at her;obtain⟨e0,he0⟩:∃e,zaF M=e:=⟨_,rfl⟩;rw[he0]at CC her
 obtain⟨e1,he1⟩:∃e,pnE k X M.ck=e:=⟨_,rfl⟩;rw[he1]at CN her
 have HE2:=zk her;clear h hx he0 he1 her;obtain⟨⟨s,x,n,c,f,y,m,d,g⟩,ca,ck,cc,C,ra,rk,rc,R⟩:=M;replace CC:Hid (∀W,Bl w W->Calls prog 29 #[agg #[.bool s,slice x n c,slice y m d,slice ca ck cc,slice ra rk rc]] W λr w'=>r=returned (.int .i64 e0)/\Bl W w'):=CC;replace CN:Hid (∀W,Bl w W->Calls prog 30 #[slice ao k cap,.int .i64 (ck:Int)] W λe w'=>e=returned (.int .i64 e1)/\Bl W w'):=CN;show Calls prog 103 #[agg #[.bool s,slice x n c,slice y m d,slice ca ck cc,slice ra rk rc],slice ao k cap] w _;have hb:=zB w (cells #[.bool s,slice x n c,slice y m d,slice ca ck cc,slice ra rk rc] 28);have r0:(w.alloc (cells #[.bool s,slice x n c,slice y m d,slice ca ck cc,slice ra rk rc] 28)).drew.cell? ⟨w.heap.size,0,none⟩=some (.bool s):=kCd (by simp[go_sem]);have r1:(w.alloc (cells #[.bool s,slice x n c,slice y m d,slice ca ck cc,slice ra rk rc] 28)).drew.cell? ⟨w.heap.size,1,none⟩=some (slice x n c):=kCd (by simp[go_sem]);have r2:(w.alloc (cells #[.bool s,slice x n c,slice y m d,slice ca ck cc,slice ra rk rc] 28)).drew.cell? ⟨w.heap.size,2,none⟩=some (slice y m d):=kCd (by simp[go_sem]);have r3:(w.alloc (cells #[.bool s,slice x n c,slice y m d,slice ca ck cc,slice ra rk rc] 28)).drew.cell? ⟨w.heap.size,3,none⟩=some (slice ca ck cc):=kCd (by simp[go_sem]);have r4:(w.alloc (cells #[.bool s,slice x n c,slice y m d,slice ca ck cc,slice ra rk rc] 28)).drew.cell? ⟨w.heap.size,4,none⟩=some (slice ra rk rc):=kCd (by simp[go_sem]);have HB:=zk (Below.drew hb);clear hb;go_enter func103,ntmps103;go_upto_region 1 with fail
 refine wp_region_held_drew (S:=(λw'=>w'.cell? ⟨w.heap.size,0,none⟩=some (.bool s)/\w'.cell? ⟨w.heap.size,1,none⟩=some (slice x n c)/\w'.cell? ⟨w.heap.size,2,none⟩=some (slice y m d)/\w'.cell? ⟨w.heap.size,3,none⟩=some (slice ca ck cc)/\w'.cell? ⟨w.heap.size,4,none⟩=some (slice ra rk rc))) (by kernel_rfl) ?_ (λhHeld=>?_)
 ·exact⟨r0,r1,r2,r3,r4⟩
 generalize(w.alloc (cells #[.bool s,slice x n c,slice y m d,slice ca ck cc,slice ra rk rc] 28)).drew=wd at *;clear r0 r1 r2 r3 r4;refine zK 0 ?_;refine zK 2 ?_;refine zK 3 ?_;simp only[zA,Act.put];refine zK 4 ?_;refine zK 5 ?_;simp only[zA,Act.put];refine rdO 1 (λK hK=>?_);go_simp
 go_at_call 29
 refine(CC.out _ HB.out).mono ?_;rintro e w4 ⟨rfl,hb4⟩
 (try go_wp2_with fail)
 refine hK.out _ _ ?_ (λhH4=>?_)
 ·exact⟨kCb hb4 hHeld.1,kCb hb4 hHeld.2.1,kCb hb4 hHeld.2.2.1,kCb hb4 hHeld.2.2.2.1,kCb hb4 hHeld.2.2.2.2⟩
 clear hK K;have HB4:=zJ HB hb4;try simp only[zA,Act.put]
 refine rdO 6 (λK hK=>?_);go_simp
 go_at_call 30
 refine(CN.out _ HB4.out).mono ?_;rintro e w5 ⟨rfl,hb5⟩
 (try go_wp2_with fail)
 refine hK.out _ _ ?_ (λhH5=>?_)
 ·exact⟨kCb hb5 hH4.1,kCb hb5 hH4.2.1,kCb hb5 hH4.2.2.1,kCb hb5 hH4.2.2.2.1,kCb hb5 hH4.2.2.2.2⟩
 clear hK K;have HB5:=zJ HB4 hb5;obtain⟨r0,r1,r2,r3,r4⟩:=id hH5;try simp only[zA,Act.put]
 refine rdO 7 (λK hK=>?_);go_simp;have hbA:=zB w5 (cells #[.int .i64 e0,.int .i64 e1] 36);have HEl:=zk (zdP (w:=w5) (a:=e0) (b:=e1) (t:=36));have HWA:=zJ HB5 hbA;obtain⟨gA,hgA⟩:∃z,w5.heap.size=z:=⟨_,rfl⟩;rw[hgA]at HEl ⊢
 generalize hwA:w5.alloc (cells #[.int .i64 e0,.int .i64 e1] 36)=wA at *;clear hwA hgA;refine hK.out _ _ ?_ (λhHA=>?_)
 ·((try dsimp only);(refine⟨?_,?_,?_,?_,?_⟩ <;> repeat(with_reducible first|assumption|refine kCb (by assumption) ?_)))
 clear hK K;try simp only[zA,Act.put]
 refine rdO 8 (λK hK=>?_);go_simp
 go_at_call 28
 refine(zgX HEl.out (by decide)).mono ?_;rintro e w9 ⟨rfl,rfl⟩
 (try go_wp2_with fail)
 refine hK.out _ _ ?_ (λhHB=>?_)
 ·exact hHA
 clear hK K;try simp only[zA,Act.put]
 refine zK 9 ?_;simp only[zA,Act.put];refine dnO ?_;simp only[show lsf (two e0 e1) 2=er from HE2.out];clear HE2 hHeld hH4 hH5 hHA hHB hb4 hb5 hbA r0 r1 r2 r3 r4 HEl CC CN HB HB4 HB5;go_wp2;go_ret;exact⟨by rw[HE.out];rfl,HWA.out⟩
theorem zdx {n}:∀{ts:List (Int × Rat)} {l:Int},tsB n l ts=true->∀t ∈ ts,l<t.1/\t.1<(n:Int)/\t.2≠0
 | [],_,_,t,ht=>by cases ht
 | (z,q) :: r,l,h,t,ht=>by
  simp only[tsB,Bool.and_eq_true,decide_eq_true_eq]at h;obtain⟨h1,h2,h3,h4⟩:=h;rcases List.mem_cons.1 ht with rfl|ht
  ·exact⟨h1,h2,h3⟩
  ·have:=zdx h4 t ht;exact⟨by omega,this.2⟩
theorem zgw {n}:∀{ts:List (Int × Rat)} {l:Int},tsB n l ts=true->l<(n:Int)->(ts.length:Int)<=n-1-l
 | [],l,_,hl=>by simp;omega
 | (z,q) :: r,l,h,hl=>by
  simp only[tsB,Bool.and_eq_true,decide_eq_true_eq]at h;obtain⟨h1,h2,h3,h4⟩:=h;have:=zgw h4 h2;simp only[List.length_cons];omega
def zrP (li:Int) (lq:Rat) (hi:Int) (hq:Rat):Prop:=(li=0∨(li=-1∨li=1)/\lq=0)/\(hi=0∨(hi=-1∨hi=1)/\hq=0)
theorem zoa {li lq hi hq} (h:bdB li lq hi hq=true):zrP li lq hi hq:=by
 simp only[bdB,Bool.and_eq_true,Bool.or_eq_true,decide_eq_true_eq]at h;exact⟨h.1.imp id (λh=>⟨.inl h.1,h.2⟩),h.2.imp id (λh=>⟨.inr h.1,h.2⟩)⟩
structure MvP (cs:List CV) (rs:List RV):Prop where
 cl:cs.length<=64
 rl:rs.length<=64
 cb:∀v ∈ cs,zrP v.li v.lq v.hi v.hq
 rb:∀v ∈ rs,zrP v.li v.lq v.hi v.hq
 tc:∀v ∈ rs,∀t ∈ v.ts,0<=t.1/\t.1<(cs.length:Int)
 tl:∀v ∈ rs,v.ts.length<=64
theorem zbj {cs rs} (h:zbk cs rs=true):MvP cs rs:=by
 simp only[zbk,Bool.and_eq_true,decide_eq_true_eq,List.all_eq_true]at h;obtain⟨h1,h2,h3,h4,_⟩:=h;refine⟨h1,h2,λv hv=>zoa (h3 v hv),λv hv=>zoa (h4 v hv).1,λv hv t ht=>?_,λv hv=>?_⟩
 ·have:=zdx (h4 v hv).2.1 t ht;exact⟨by omega,this.2.1⟩
 ·have:=zgw (h4 v hv).2.1 (by omega);omega
def bcB (cs:List CV) (xs:List Rat) (j:Nat):Bool:=match cs[j]?,xs[j]? with
 | some v,some q=>!(zjg q v.li v.lq v.hi v.hq)
 | _,_=>false
def brB (rs:List RV) (xs:List Rat) (j:Nat):Bool:=match rs[j]? with
 | some v=>!(zjg (zbM xs v) v.li v.lq v.hi v.hq)
 | none=>false
def zkW (w w':World) (e:Ending) (er:Int) (cs:List CV) (rs:List RV) (xs:List Rat):Prop:=Bl w w' /\
 ((er≠0/\e=returned (.tuple #[slice none 0 0,slice none 0 0,.int .i64 er]))∨(er=0/\∃xa xc ya yc,e=returned (.tuple #[.slice xa (crl (bcB cs xs) cs.length).length xc,.slice ya (crl (brB rs xs) rs.length).length yc,.int .i64 0])/\Il w' xa (crl (bcB cs xs) cs.length)/\Il w' ya (crl (brB rs xs) rs.length)))
theorem zkC {L w i i' t q} (h:NmV L w t q) (hL:L<=4096) (hi:i=i') (hb:i'=0∨(i'=-1∨i'=1)/\q=0):En 4096 w i t.s t.x t.n t.c t.f t.y t.m t.d t.g q:=⟨Rn.mono h hL,by rw[hi];exact hb⟩
theorem zls {w L M off cs rs ao k cap X xs er} (hW:MoW w M) (hx:Rl w ao k X) (hk:k<=1048576) (he:zcz M k X=er) (hv:er=0->MoV L w M off cs rs/\zbk cs rs=true/\Rf L w ao xs/\xs.length=k/\k=cs.length) (hL:L<=30) :
  Calls prog 69 #[M.val,slice ao k cap] w λe w'=>zkW w w' e er cs rs xs:=by
 have CC:=zk (λW (hW2:Bl w W)=>zhM (cap:=cap) (hW.q_ hW2) (hx.q_ hW2) hk);rw[he]at CC
 clear hW hx he;obtain⟨M0,hM0⟩:∃z,M=z:=⟨_,rfl⟩;have HV:=zk hv;clear hv;rw[hM0]at HV CC ⊢
 have CA:Hid (er=0->∀W,Bl w W->Calls prog 105 #[M0.val,slice ao k cap] W λe w'=>∃a c,e=returned (slice a rs.length c)/\Bl W w'/\(rs.length<=c/\c<=9223372036854775807)/\Hid (Rf (KA L) w' a (rs.map (zbM xs)))):=λh0 W hW2=>by
  obtain⟨v1,v2,v3,v4,v5⟩:=HV.out h0;have mp:=zbj v2;exact zoj (v1.q_ hW2) (v3.q_ hW2) v4 (λr hr t ht=>by have:=mp.tc r hr t ht;rw[v5];exact this) mp.rl mp.tl (by omega)
 clear hM0;obtain⟨⟨s,x,n,c,f,y,m,d,g⟩,ca,ck,cc,C,ra,rk,rc,R⟩:=M0;replace CC:Hid (∀W,Bl w W->Calls prog 103 #[agg #[.bool s,slice x n c,slice y m d,slice ca ck cc,slice ra rk rc],slice ao k cap] W λe w'=>e=returned (.int .i64 er)/\Bl W w'):=CC;replace CA:Hid (er=0->∀W,Bl w W->Calls prog 105 #[agg #[.bool s,slice x n c,slice y m d,slice ca ck cc,slice ra rk rc],slice ao k cap] W λe w'=>∃a c,e=returned (slice a rs.length c)/\Bl W w'/\(rs.length<=c/\c<=9223372036854775807)/\Hid (Rf (KA L) w' a (rs.map (zbM xs)))):=CA;show Calls prog 69 #[agg #[.bool s,slice x n c,slice y m d,slice ca ck cc,slice ra rk rc],slice ao k cap] w _;have hb:=zB w (cells #[.bool s,slice x n c,slice y m d,slice ca ck cc,slice ra rk rc] 28);have BM:=zk (zF w [.bool s,slice x n c,slice y m d,slice ca ck cc,slice ra rk rc] 28);have HB:=zk hb;clear hb;go_enter func69,ntmps69;go_wp2_with fail
 generalize w.alloc (cells #[.bool s,slice x n c,slice y m d,slice ca ck cc,slice ra rk rc] 28)=w0 at *;refine(CC.out _ HB.out).mono ?_;rintro e w1 ⟨rfl,hb⟩;replace HB:=zJ HB hb;replace BM:=zk (BM.out.q_ hb)
 clear hb CC;by_cases h0:er=0
 case neg =>
  have h1:(er != 0)=true:=by simpa using h0
  have H0:=zk h0;go_wp2
  go_ret3
  exact⟨HB.out,.inl ⟨H0.out,rfl⟩⟩
 have CA2:=zk (CA.out h0);obtain⟨v1,v2,v3,v4,v5⟩:=HV.out h0;have mp:=zbj v2;subst h0;have l64:=mp.cl;have r64:=mp.rl
 have HC:Hid (∀j v,cs[j]?=some v->(∃b o,ca=some ⟨b,o,none⟩/\Cs w b (o+j*12) (C j).vs)/\ColV L w (C j) v):=v1.cls;have HR:Hid (∀j v,rs[j]?=some v->(∃b o,ra=some ⟨b,o,none⟩/\Cs w b (o+j*10) (R j).vs)/\RowV L w (R j) v):=v1.rls;have hck:ck=cs.length:=v1.ck;have hrk:rk=rs.length:=v1.rk;subst hck hrk;subst v5;have HX:=zk v3;have HXL:=zk v4;have MP:=zk mp
 clear v1 v2 v3 v4 mp CA HV;have r3:=BM.out.cell (j:=3) rfl;go_wp2_with fail
 clear r3;go_loopw[8,24] (λov t wr=>∃(i:Nat),i<=cs.length/\t=.int .i64 i/\Hid (Bl w1 wr)/\Hid (RowG 3 1 w1.heap.size wr ov (crl (bcB cs xs) i).length (ils (crl (bcB cs xs) i)))) (λ_ t _=>cs.length-(intOf t).toNat)
 case atStart=>exact⟨0,by omega,rfl,Below.refl _ _,zak _ _ _ _⟩
 case round =>
  obtain⟨i,hi,rfl,HB2,HRow⟩:=hrel;by_cases hlt:i<cs.length
  ·obtain⟨v,hv⟩:∃t,cs[i]?=some t:=⟨_,getElem?_eq_getElem (by omega)⟩;have hvm:=List.mem_of_getElem? hv;obtain⟨⟨b,o,hba,hc⟩,hV⟩:=HC.out i v hv;subst hba;have hbz:=bUp HB.out HB2.out;obtain⟨hblo,hbhi⟩:=MP.out.cb v hvm;have e1:=zkC (hV.lq.q_ hbz) (by omega) hV.li hblo;have e2:=zkC (hV.hq.q_ hbz) (by omega) hV.hi hbhi;obtain⟨⟨z,⟨s0,x0,n0,c0,f0,y0,m0,d0,g0⟩,⟨i1,⟨s1,x1,n1,c1,f1,y1,m1,d1,g1⟩⟩,⟨i2,⟨s2,x2,n2,c2,f2,y2,m2,d2,g2⟩⟩⟩,hCi⟩:∃t,C i=t:=⟨_,rfl⟩;rw[hCi]at hc e1 e2
   replace e1:En 4096 wr i1 s1 x1 n1 c1 f1 y1 m1 d1 g1 v.lq:=e1;replace e2:En 4096 wr i2 s2 x2 n2 c2 f2 y2 m2 d2 g2 v.hq:=e2;have j1:i1=v.li:=by have:=hV.li;rw[hCi]at this;exact this
   have j2:i2=v.hi:=by have:=hV.hi;rw[hCi]at this;exact this
   replace hc:=Cs.q_ hc hbz;obtain⟨q0,q1,q2,q3,q4,q5,q6,q7,q8,q9,q10,q11⟩:=hc.lc;obtain⟨r,hr⟩:∃t,xs[i]?=some t:=⟨_,getElem?_eq_getElem (by have:=HXL.out;omega)⟩;obtain⟨b',o',⟨ss,sx,sn,sc,sf,sy,sm,sd,sg⟩,hax,⟨p0,p1,p2⟩,hr'⟩:=(HX.out.q_ hbz) i r hr;subst hax;replace p0:wr.cell? ⟨b',o'+i*3,none⟩=some (.bool ss):=p0;replace p1:wr.cell? ⟨b',o'+i*3+1,none⟩=some (slice sx sn sc):=p1;replace p2:wr.cell? ⟨b',o'+i*3+2,none⟩=some (slice sy sm sd):=p2;replace hr':Rn 4096 wr ss sx sn sc sf sy sm sd sg r:=Rn.mono hr' (by omega);have HEQ:Hid (∀{t},(bcB cs xs) i=t->(!t)=zjg r v.li v.lq v.hi v.hq):=by
    intro t ht;rw[<-ht,bcB,hv,hr];simp
   clear hr;have hbt:=zB wr (cells #[.string z,.bool s0,slice x0 n0 c0,slice y0 m0 d0,.int .i64 i1,.bool s1,slice x1 n1 c1,slice y1 m1 d1,.int .i64 i2,.bool s2,slice x2 n2 c2,slice y2 m2 d2] 60);obtain⟨-,-,-,-,a4,a5,a6,a7,a8,a9,a10,a11⟩:=zee (zF wr [.string z,.bool s0,slice x0 n0 c0,slice y0 m0 d0,.int .i64 i1,.bool s1,slice x1 n1 c1,slice y1 m1 d1,.int .i64 i2,.bool s2,slice x2 n2 c2,slice y2 m2 d2] 60);obtain⟨t1,ht1⟩:∃t,(bcB cs xs) i=t:=⟨_,rfl⟩;have HT1:=zk ht1;have CK:Hid (∀W,Bl wr W->Calls prog 104 #[agg #[.bool ss,slice sx sn sc,slice sy sm sd],agg #[.int .i64 i1,.bool s1,slice x1 n1 c1,slice y1 m1 d1],agg #[.int .i64 i2,.bool s2,slice x2 n2 c2,slice y2 m2 d2]] W λe w'=>e=returned (.bool (!t1))/\Bl W w'):=λW hW2=>by
    have hk9:=zks (hr'.q_ hW2) (e1.q_ hW2) (e2.q_ hW2);rw[j1,j2]at hk9
    rw[j1,j2,HEQ.out ht1];exact hk9
   have hln:=zhk (bcB cs xs) i;have i1':((i:Nat):Int)<((cs.length:Nat):Int):=by omega
   clear hCi hc hV hvm hblo hbhi e1 e2 j1 j2 ht1 hr' HEQ hv;go_upto_region 8 with fail
   clear q0 q1 q2 q3 q4 q5 q6 q7 q8 q9 q10 q11;replace p0:=kCb hbt p0;replace p1:=kCb hbt p1;replace p2:=kCb hbt p2
   have HB3:=zJ HB2 hbt;have HRow3:=zk (HRow.out.q_ hbt)
   replace CK:=zk (λW (hW2:Below (wr.alloc (cells #[.string z,.bool s0,slice x0 n0 c0,slice y0 m0 d0,.int .i64 i1,.bool s1,slice x1 n1 c1,slice y1 m1 d1,.int .i64 i2,.bool s2,slice x2 n2 c2,slice y2 m2 d2] 60)).heap.size (wr.alloc (cells #[.string z,.bool s0,slice x0 n0 c0,slice y0 m0 d0,.int .i64 i1,.bool s1,slice x1 n1 c1,slice y1 m1 d1,.int .i64 i2,.bool s2,slice x2 n2 c2,slice y2 m2 d2] 60)) W)=>CK.out W (bUp hbt hW2));clear hbz hbt HB2 HRow;generalize hbx:wr.heap.size=bx at *;generalize wr.alloc (cells #[.string z,.bool s0,slice x0 n0 c0,slice y0 m0 d0,.int .i64 i1,.bool s1,slice x1 n1 c1,slice y1 m1 d1,.int .i64 i2,.bool s2,slice x2 n2 c2,slice y2 m2 d2] 60)=w5 at *;clear hbx;go_region_held3 (λw'=>w'.cell? ⟨bx,4,none⟩=some (.int .i64 i1)/\w'.cell? ⟨bx,5,none⟩=some (.bool s1)/\w'.cell? ⟨bx,6,none⟩=some (slice x1 n1 c1)/\w'.cell? ⟨bx,7,none⟩=some (slice y1 m1 d1)/\w'.cell? ⟨bx,8,none⟩=some (.int .i64 i2)/\w'.cell? ⟨bx,9,none⟩=some (.bool s2)/\w'.cell? ⟨bx,10,none⟩=some (slice x2 n2 c2)/\w'.cell? ⟨bx,11,none⟩=some (slice y2 m2 d2)/\w'.cell? ⟨b',o'+i*3,none⟩=some (.bool ss)/\w'.cell? ⟨b',o'+i*3+1,none⟩=some (slice sx sn sc)/\w'.cell? ⟨b',o'+i*3+2,none⟩=some (slice sy sm sd))
    (refine⟨?_,?_,?_,?_,?_,?_,?_,?_,?_,?_,?_⟩ <;> repeat(with_reducible first|assumption|refine kCd ?_|refine kCb (by assumption) ?_))
    (first|(go_at_call 104;with_reducible refine(CK.out _ zai).mono ?_;rintro e w6 ⟨rfl,hb6⟩))
   have HB6:=zk (HB3.out.trans ((show Bl w5 w6 from zai).mono HB3.out.size));have HRow6:=zk (HRow3.out.q_ (show Bl w5 w6 from zai))
   clear hb6 HB3 HRow3 CK p0 p1 p2 a4 a5 a6 a7 a8 a9 a10 a11;cases t1
   ·go_wp2;go_roundw
    case rel=>exact⟨i+1,by omega,by go_num,HB6.out,by show RowG _ _ _ _ _ _ _;rw[znP HT1.out];exact HRow6.out⟩
    case measure=>simp[intOf];omega
   ·have hsz:=HB6.out.size;go_wp2_with(at_builtin;go_must (refine zO w6 rfl (.tmp 39) (.tmp 41) 123 rfl w1.heap.size 3 8 1 (.int .i64 0) underlying123 zbu rfl (by decide) nzi u8 (crl (bcB cs xs) i).length (ils (crl (bcB cs xs) i)) rfl HRow6.out #[.int .i64 (i:Int)] rfl rfl (zfN _) (zfl _) ?p1 (by decide) hsz ?_))
    case p1=>omega
    intro g8 cap8 w8 hr8 hk8 hb8 hg8;have HB8:=zk (hb8 w1 HB6.out (le_refl _));have HR8:Hid (RowG 3 1 w1.heap.size w8 (slice (some ⟨g8,0,none⟩) ((crl (bcB cs xs) i).length+1) cap8) (crl (bcB cs xs) (i+1)).length (ils (crl (bcB cs xs) (i+1)))):=by
     show RowG _ _ _ _ _ _ _;rw[zkL HT1.out];simpa[ils]using hr8
    clear hr8 hk8 hb8 hg8 HRow6 HB6 hsz;go_wp2;go_roundw
    case rel=>exact⟨i+1,by omega,by go_num,HB8.out,HR8.out⟩
    case measure=>simp[intOf];omega
  ·have i4:¬(((i:Nat):Int)<((cs.length:Nat):Int)):=by omega
   have e9:i=cs.length:=by omega
   obtain⟨xa,xc,hvs⟩:=HRow.out.slice;have HL2:=HRow.out;rw[hvs]at HL2
   have HIL:=zk (zgD HL2);rw[e9]at HIL hvs
   subst hvs;replace BM:=zk (BM.out.q_ HB2.out);replace HB:=zJ HB HB2.out;clear HL2 HRow HB2 e9 HX HC;obtain⟨r0,r1,r2,r3,r4⟩:=bk5 BM.out;go_wp2_with fail
   refine(CA2.out _ HB.out).mono ?_;rintro e w7 ⟨aa,ac,rfl,hb7,hac,HAct⟩;replace HB:=zJ HB hb7;replace BM:=zk (BM.out.q_ hb7);have HCols:=zk (HIL.out.q_ hb7)
   clear hb7 HIL r0 r1 r2 r3 r4 CA2;have r4:=BM.out.cell (j:=4) rfl;go_wp2_with fail
   clear r4;go_loopw[9,50] (λov t wr=>∃(i:Nat),i<=rs.length/\t=.int .i64 i/\Hid (Bl w7 wr)/\Hid (RowG 3 1 w7.heap.size wr ov (crl (brB rs xs) i).length (ils (crl (brB rs xs) i)))) (λ_ t _=>rs.length-(intOf t).toNat)
   case atStart=>exact⟨0,by omega,rfl,Below.refl _ _,zak _ _ _ _⟩
   case round =>
    obtain⟨i,hi,rfl,HB2,HRow⟩:=hrel;by_cases hlt:i<rs.length
    ·obtain⟨v,hv⟩:∃t,rs[i]?=some t:=⟨_,getElem?_eq_getElem (by omega)⟩;have hvm:=List.mem_of_getElem? hv;obtain⟨⟨b,o,hba,hc⟩,hV⟩:=HR.out i v hv;subst hba;have hbz:=bUp HB.out HB2.out;obtain⟨hblo,hbhi⟩:=MP.out.rb v hvm;have e1:=zkC (hV.lq.q_ hbz) (by omega) hV.li hblo;have e2:=zkC (hV.hq.q_ hbz) (by omega) hV.hi hbhi;obtain⟨⟨z,⟨i1,⟨s1,x1,n1,c1,f1,y1,m1,d1,g1⟩⟩,⟨i2,⟨s2,x2,n2,c2,f2,y2,m2,d2,g2⟩⟩,ta,tk,tc,tcol,tt⟩,hCi⟩:∃t,R i=t:=⟨_,rfl⟩;rw[hCi]at hc e1 e2
     replace e1:En 4096 wr i1 s1 x1 n1 c1 f1 y1 m1 d1 g1 v.lq:=e1;replace e2:En 4096 wr i2 s2 x2 n2 c2 f2 y2 m2 d2 g2 v.hq:=e2;have j1:i1=v.li:=by have:=hV.li;rw[hCi]at this;exact this
     have j2:i2=v.hi:=by have:=hV.hi;rw[hCi]at this;exact this
     replace hc:=Cs.q_ hc hbz;obtain⟨q0,q1,q2,q3,q4,q5,q6,q7,q8,q9⟩:=hc.lr;have hr:(rs.map (zbM xs))[i]?=some (zbM xs v):=by rw[List.getElem?_map,hv];rfl
     obtain⟨b',o',⟨ss,sx,sn,sc,sf,sy,sm,sd,sg⟩,hax,⟨p0,p1,p2⟩,hr'⟩:=(HAct.out.q_ HB2.out) i _ hr;subst hax;replace p0:wr.cell? ⟨b',o'+i*3,none⟩=some (.bool ss):=p0;replace p1:wr.cell? ⟨b',o'+i*3+1,none⟩=some (slice sx sn sc):=p1;replace p2:wr.cell? ⟨b',o'+i*3+2,none⟩=some (slice sy sm sd):=p2;replace hr':Rn 4096 wr ss sx sn sc sf sy sm sd sg (zbM xs v):=Rn.mono hr' (by unfold KA;omega);have HEQ:Hid (∀{t},(brB rs xs) i=t->(!t)=zjg (zbM xs v) v.li v.lq v.hi v.hq):=by
      intro t ht;rw[<-ht,brB,hv];simp
     clear hr;have hbt:=zB wr (cells #[.string z,.int .i64 i1,.bool s1,slice x1 n1 c1,slice y1 m1 d1,.int .i64 i2,.bool s2,slice x2 n2 c2,slice y2 m2 d2,slice ta tk tc] 63);obtain⟨-,a1,a2,a3,a4,a5,a6,a7,a8⟩:=bk9 (zF wr [.string z,.int .i64 i1,.bool s1,slice x1 n1 c1,slice y1 m1 d1,.int .i64 i2,.bool s2,slice x2 n2 c2,slice y2 m2 d2,slice ta tk tc] 63);obtain⟨t1,ht1⟩:∃t,(brB rs xs) i=t:=⟨_,rfl⟩;have HT1:=zk ht1;have CK:Hid (∀W,Bl wr W->Calls prog 104 #[agg #[.bool ss,slice sx sn sc,slice sy sm sd],agg #[.int .i64 i1,.bool s1,slice x1 n1 c1,slice y1 m1 d1],agg #[.int .i64 i2,.bool s2,slice x2 n2 c2,slice y2 m2 d2]] W λe w'=>e=returned (.bool (!t1))/\Bl W w'):=λW hW2=>by
      have hk9:=zks (hr'.q_ hW2) (e1.q_ hW2) (e2.q_ hW2);rw[j1,j2]at hk9
      rw[j1,j2,HEQ.out ht1];exact hk9
     have hln:=zhk (brB rs xs) i;have i1':((i:Nat):Int)<((rs.length:Nat):Int):=by omega
     clear hCi hc hV hvm hblo hbhi e1 e2 j1 j2 ht1 hr' HEQ hv;go_upto_region 15 with fail
     clear q0 q1 q2 q3 q4 q5 q6 q7 q8 q9;replace p0:=kCb hbt p0;replace p1:=kCb hbt p1;replace p2:=kCb hbt p2
     have HB3:=zJ HB2 hbt;have HRow3:=zk (HRow.out.q_ hbt)
     replace CK:=zk (λW (hW2:Below (wr.alloc (cells #[.string z,.int .i64 i1,.bool s1,slice x1 n1 c1,slice y1 m1 d1,.int .i64 i2,.bool s2,slice x2 n2 c2,slice y2 m2 d2,slice ta tk tc] 63)).heap.size (wr.alloc (cells #[.string z,.int .i64 i1,.bool s1,slice x1 n1 c1,slice y1 m1 d1,.int .i64 i2,.bool s2,slice x2 n2 c2,slice y2 m2 d2,slice ta tk tc] 63)) W)=>CK.out W (bUp hbt hW2));clear hbz hbt HB2 HRow;generalize hbx:wr.heap.size=bx at *;generalize wr.alloc (cells #[.string z,.int .i64 i1,.bool s1,slice x1 n1 c1,slice y1 m1 d1,.int .i64 i2,.bool s2,slice x2 n2 c2,slice y2 m2 d2,slice ta tk tc] 63)=w5 at *;clear hbx;go_region_held3 (λw'=>w'.cell? ⟨bx,1,none⟩=some (.int .i64 i1)/\w'.cell? ⟨bx,2,none⟩=some (.bool s1)/\w'.cell? ⟨bx,3,none⟩=some (slice x1 n1 c1)/\w'.cell? ⟨bx,4,none⟩=some (slice y1 m1 d1)/\w'.cell? ⟨bx,5,none⟩=some (.int .i64 i2)/\w'.cell? ⟨bx,6,none⟩=some (.bool s2)/\w'.cell? ⟨bx,7,none⟩=some (slice x2 n2 c2)/\w'.cell? ⟨bx,8,none⟩=some (slice y2 m2 d2)/\w'.cell? ⟨b',o'+i*3,none⟩=some (.bool ss)/\w'.cell? ⟨b',o'+i*3+1,none⟩=some (slice sx sn sc)/\w'.cell? ⟨b',o'+i*3+2,none⟩=some (slice sy sm sd))
      (refine⟨?_,?_,?_,?_,?_,?_,?_,?_,?_,?_,?_⟩ <;> repeat(with_reducible first|assumption|refine kCd ?_|refine kCb (by assumption) ?_))
      (first|(go_at_call 104;with_reducible refine(CK.out _ zai).mono ?_;rintro e w6 ⟨rfl,hb6⟩))
     have HB6:=zk (HB3.out.trans ((show Bl w5 w6 from zai).mono HB3.out.size));have HRow6:=zk (HRow3.out.q_ (show Bl w5 w6 from zai))
     clear hb6 HB3 HRow3 CK p0 p1 p2 a1 a2 a3 a4 a5 a6 a7 a8;cases t1
     ·go_wp2;go_roundw
      case rel=>exact⟨i+1,by omega,by go_num,HB6.out,by show RowG _ _ _ _ _ _ _;rw[znP HT1.out];exact HRow6.out⟩
      case measure=>simp[intOf];omega
     ·have hsz:=HB6.out.size;go_wp2_with(at_builtin;go_must (refine zO w6 rfl (.tmp 65) (.tmp 67) 123 rfl w7.heap.size 3 8 1 (.int .i64 0) underlying123 zbu rfl (by decide) nzi u9 (crl (brB rs xs) i).length (ils (crl (brB rs xs) i)) rfl HRow6.out #[.int .i64 (i:Int)] rfl rfl (zfN _) (zfl _) ?p1 (by decide) hsz ?_))
      case p1=>omega
      intro g8 cap8 w8 hr8 hk8 hb8 hg8;have HB8:=zk (hb8 w7 HB6.out (le_refl _));have HR8:Hid (RowG 3 1 w7.heap.size w8 (slice (some ⟨g8,0,none⟩) ((crl (brB rs xs) i).length+1) cap8) (crl (brB rs xs) (i+1)).length (ils (crl (brB rs xs) (i+1)))):=by
       show RowG _ _ _ _ _ _ _;rw[zkL HT1.out];simpa[ils]using hr8
      clear hr8 hk8 hb8 hg8 HRow6 HB6 hsz;go_wp2;go_roundw
      case rel=>exact⟨i+1,by omega,by go_num,HB8.out,HR8.out⟩
      case measure=>simp[intOf];omega
    ·have i4:¬(((i:Nat):Int)<((rs.length:Nat):Int)):=by omega
     have e9:i=rs.length:=by omega
     obtain⟨ya,yc,hvs⟩:=HRow.out.slice;have HL2:=HRow.out;rw[hvs]at HL2
     have HIL:=zk (zgD HL2);rw[e9]at HIL
     have HVS:=zk hvs;rw[e9]at HVS
     have HBF:=zJ HB HB2.out;have HCF:=zk (HCols.out.q_ HB2.out)
     clear hvs HL2 HRow HB2 HAct e9;rw[HVS.out];go_wp2
     go_ret3
     exact⟨HBF.out,.inr ⟨rfl,xa,xc,ya,yc,rfl,HCF.out,HIL.out⟩⟩
def zou (L:Nat) (w w':World) (e:Ending) (er:Int) (rs:List RV) (xs:List Rat):Prop:=Bl w w' /\
 ((er≠0/\e=returned (.tuple #[slice none 0 0,.int .i64 er]))∨(er=0/\∃a c,e=returned (.tuple #[slice a rs.length c,.int .i64 0])/\(rs.length<=c/\c<=9223372036854775807)/\Rf (KA L) w' a (rs.map (zbM xs))))
def zfx (cs:List CV) (rs:List RV) (xs:List Rat):Bool:=decide ((crl (bcB cs xs) cs.length).length=0) && decide ((crl (brB rs xs) rs.length).length=0)
def KV (L:Nat):Nat:=4+65*(2*L+1+1)
theorem zha {K base w s x n c f y m d g q} (h:Rn K w s x n c f y m d g q) (hb:base<=w.heap.size):Gr K base (w.alloc (cells #[.bool s,slice x n c,slice y m d] 24)) (slice (some ⟨w.heap.size,0,none⟩) 1 1) [q]:=by
 refine⟨λ_=>⟨s,x,n,c,f,y,m,d,g⟩,⟨rfl,.inr ⟨w.heap.size,1,#[.bool s,slice x n c,slice y m d],rfl,hb,heap_alloc_new w _,le_refl _,by decide,rfl,rfl,zaa (zcB _ _ _ _ _ _ _)⟩⟩,λj q' e=>?_⟩;cases j with
 | zero=>cases e;exact h.alloc _
 | succ j=>simp at e
theorem zph {w L M off cs rs ao k cap X xs er} (hW:MoW w M) (hx:Rl w ao k X) (hk:k<=1048576) (he:zcz M k X=er) (hv:er=0->MoV L w M off cs rs/\zbk cs rs=true/\Rf L w ao xs/\xs.length=k/\k=cs.length) (hL:L<=30) :
  Calls prog 71 #[M.val,slice ao k cap] w λe w'=>zou L w w' e er rs xs:=by
 have CC:=zk (λW (hW2:Bl w W)=>zhM (cap:=cap) (hW.q_ hW2) (hx.q_ hW2) hk);rw[he]at CC
 clear hW hx he;have HV:=zk hv;clear hv;have CA:Hid (er=0->∀W,Bl w W->Calls prog 105 #[M.val,slice ao k cap] W λe w'=>∃a c,e=returned (slice a rs.length c)/\Bl W w'/\(rs.length<=c/\c<=9223372036854775807)/\Hid (Rf (KA L) w' a (rs.map (zbM xs)))):=λh0 W hW2=>by
  obtain⟨v1,v2,v3,v4,v5⟩:=HV.out h0;have mp:=zbj v2;exact zoj (v1.q_ hW2) (v3.q_ hW2) v4 (λr hr t ht=>by have:=mp.tc r hr t ht;rw[v5];exact this) mp.rl mp.tl (by omega)
 obtain⟨⟨s,x,n,c,f,y,m,d,g⟩,ca,ck,cc,C,ra,rk,rc,R⟩:=M;replace CC:Hid (∀W,Bl w W->Calls prog 103 #[agg #[.bool s,slice x n c,slice y m d,slice ca ck cc,slice ra rk rc],slice ao k cap] W λe w'=>e=returned (.int .i64 er)/\Bl W w'):=CC;replace CA:Hid (er=0->∀W,Bl w W->Calls prog 105 #[agg #[.bool s,slice x n c,slice y m d,slice ca ck cc,slice ra rk rc],slice ao k cap] W λe w'=>∃a c,e=returned (slice a rs.length c)/\Bl W w'/\(rs.length<=c/\c<=9223372036854775807)/\Hid (Rf (KA L) w' a (rs.map (zbM xs)))):=CA;clear HV;show Calls prog 71 #[agg #[.bool s,slice x n c,slice y m d,slice ca ck cc,slice ra rk rc],slice ao k cap] w _;have hb:=zB w (cells #[.bool s,slice x n c,slice y m d,slice ca ck cc,slice ra rk rc] 28);have BM:=zk (zF w [.bool s,slice x n c,slice y m d,slice ca ck cc,slice ra rk rc] 28);have HB:=zk hb;clear hb;go_enter func71,ntmps71;go_wp2_with fail
 generalize w.alloc (cells #[.bool s,slice x n c,slice y m d,slice ca ck cc,slice ra rk rc] 28)=w0 at *;refine(CC.out _ HB.out).mono ?_;rintro e w1 ⟨rfl,hb⟩;replace HB:=zJ HB hb;replace BM:=zk (BM.out.q_ hb)
 clear hb CC;by_cases h0:er=0
 case neg =>
  have h1:(er != 0)=true:=by simpa using h0
  have H0:=zk h0;go_wp2
  go_ret2
  exact⟨HB.out,.inl ⟨H0.out,rfl⟩⟩
 have CA2:=zk (CA.out h0);subst h0;clear CA;obtain⟨r0,r1,r2,r3,r4⟩:=bk5 BM.out;go_wp2_with fail
 refine(CA2.out _ HB.out).mono ?_;rintro e w2 ⟨aa,ac,rfl,hb,hac,HR⟩;replace HB:=zJ HB hb;have HAC:=zk hac;clear hb hac r0 r1 r2 r3 r4 BM CA2;go_wp2
 go_ret2
 exact⟨HB.out,.inr ⟨rfl,aa,ac,rfl,HAC.out,HR.out⟩⟩
theorem zpg {w L M off cs rs ao k cap X xs er} (hW:MoW w M) (hx:Rl w ao k X) (hk:k<=1048576) (he:zcz M k X=er) (hv:er=0->MoV L w M off cs rs/\zbk cs rs=true/\Rf L w ao xs/\xs.length=k/\k=cs.length) (hL:L<=30) :
  Calls prog 36 #[M.val,slice ao k cap] w λe w'=>e=returned (.tuple #[.bool (decide (er=0) && zfx cs rs xs),.int .i64 er])/\Bl w w':=by
 have CB:Hid (∀W,Bl w W->Calls prog 69 #[M.val,slice ao k cap] W λe w'=>zkW W w' e er cs rs xs):=λW hW2=>zls (hW.q_ hW2) (hx.q_ hW2) hk he (λh0=>⟨(hv h0).1.q_ hW2,(hv h0).2.1,(hv h0).2.2.1.q_ hW2,(hv h0).2.2.2⟩) hL
 clear hW hx hv he;obtain⟨⟨s,x,n,c,f,y,m,d,g⟩,ca,ck,cc,C,ra,rk,rc,R⟩:=M;replace CB:Hid (∀W,Bl w W->Calls prog 69 #[agg #[.bool s,slice x n c,slice y m d,slice ca ck cc,slice ra rk rc],slice ao k cap] W λe w'=>zkW W w' e er cs rs xs):=CB;obtain⟨l1,hl1⟩:∃z,(crl (bcB cs xs) cs.length).length=z:=⟨_,rfl⟩;obtain⟨l2,hl2⟩:∃z,(crl (brB rs xs) rs.length).length=z:=⟨_,rfl⟩;have HF:Hid (zfx cs rs xs=(decide (l1=0) && decide (l2=0))):=by show _=_;rw[zfx,hl1,hl2]
 unfold zkW at CB;rw[hl1,hl2]at CB
 clear hl1 hl2;show Calls prog 36 #[agg #[.bool s,slice x n c,slice y m d,slice ca ck cc,slice ra rk rc],slice ao k cap] w _;have HB:=zk (zB w (cells #[.bool s,slice x n c,slice y m d,slice ca ck cc,slice ra rk rc] 28));go_enter func36,ntmps36;go_wp2_with fail
 refine(CB.out _ HB.out).mono ?_;rintro e w1 ⟨hb,hans⟩;replace HB:=zJ HB hb;clear hb CB;rcases hans with⟨h0,rfl⟩|⟨h0,xa,xc,ya,yc,rfl,_,_⟩
 ·have h1:(er==0)=false:=by simpa using h0
  have HE:Hid (decide (er=0)=false):=decide_eq_false h0;clear h0;go_wp2
  go_ret2
  exact⟨by rw[HE.out];rfl,HB.out⟩
 ·subst h0;by_cases c1:l1=0
  ·subst c1;by_cases c2:l2=0
   ·subst c2;go_wp2
    go_ret2
    exact⟨by rw[HF.out];rfl,HB.out⟩
   ·have c3:(((l2:Nat):Int)==0)=false:=by simp;omega
    have HE:Hid (decide (l2=0)=false):=decide_eq_false c2;go_wp2
    go_ret2
    exact⟨by rw[HF.out,HE.out];rfl,HB.out⟩
  ·have c3:(((l1:Nat):Int)==0)=false:=by simp;omega
   have HE:Hid (decide (l1=0)=false):=decide_eq_false c1;go_wp2
   go_ret2
   exact⟨by rw[HF.out,HE.out];rfl,HB.out⟩
structure Cr (base:Nat) (w:World) (g ck:Nat) (V:Nat->Value) (E:Nat->List Nm) (X:Nat->Prop):Prop where
 bl:∃cur,w.heap[g]?=some (cells cur 29 (0,0))/\cur.size=ck/\NoU cur/\∀j,j<ck->cur[j]?=some (V j)
 ge:base<=g
 xg:¬X g
 row:∀j,j<ck->RowG 24 3 base w (V j) (E j).length (rcells (E j))
 ne:∀j,j<ck->(V j).ownBlock≠some g
 nx:∀j,j<ck->∀b,(V j).ownBlock=some b->¬X b
 dj:∀i j,i<ck->j<ck->i≠j->∀b,(V i).ownBlock=some b->(V j).ownBlock≠some b
theorem Cr.lt {base w g ck V E X} (h:Cr base w g ck V E X):g<w.heap.size:=by
 obtain⟨cur,h1,_⟩:=h.bl;exact(Array.getElem?_eq_some_iff.1 h1).1
theorem Cr.q_ {base w w' g ck V E X} (h:Cr base w g ck V E X) (hb:Bl w w'):Cr base w' g ck V E X:=by
 have hlt:=h.lt;obtain⟨cur,h1,h2⟩:=h.bl;exact⟨⟨cur,(hb.block g hlt).trans h1,h2⟩,h.ge,h.xg,λj hj=>(h.row j hj).q_ hb,h.ne,h.nx,h.dj⟩
theorem Cr.cell {base w g ck V E X} (h:Cr base w g ck V E X) {j} (hj:j<ck):w.cell? ⟨g,j,none⟩=some (V j):=by
 obtain⟨cur,h1,_,_,h2⟩:=h.bl;simp only[World.cell?,h1];simpa using h2 j hj
theorem Cr.unx {base w g ck V E X} (h:Cr base w g ck V E X) (Y:Nat->Prop) (hY:∀b,Y b->w.heap.size<=b):Cr base w g ck V E Y :=
 ⟨h.bl,h.ge,λhy=>by have:=hY g hy;have:=h.lt;omega,h.row,h.ne,λj hj b hb hy=>by have:=hY b hy;have:=((h.row j hj).lt b hb).2;omega,h.dj⟩
theorem Cr.put {base w w8 g ck V E X} (h:Cr base w g ck V E X) {c} (hc:c<ck) {g8 cap8 en x} (hen:(E c).length=en) (hX:∀b,X b->b<w.heap.size) (hr:RowG 24 3 base w8 (slice (some ⟨g8,0,none⟩) (en+1) cap8) (en+1) (rcells (E c)++rcell x)) (hg:∀k,k<w.heap.size->(V c).ownBlock≠some k->w8.heap[k]?=w.heap[k]?) (hl:(V c).ownBlock=some g8∨w.heap.size<=g8) :
  Cr base (w8.setCell ⟨g,c,none⟩ (slice (some ⟨g8,0,none⟩) (en+1) cap8)) g ck (zmT V c (slice (some ⟨g8,0,none⟩) (en+1) cap8)) (λj=>if j=c then E c++[x] else E j) X:=by
 subst hen;have hgl:=h.lt;have hg8:g8≠g:=λe=>by
  rcases hl with h1|h1
  ·exact h.ne c hc (e ▸ h1)
  ·omega
 have hset:∀k,k≠g->(w8.setCell ⟨g,c,none⟩ (slice (some ⟨g8,0,none⟩) ((E c).length+1) cap8)).heap[k]?=w8.heap[k]?:=λk hk=>Below.heap_setCell _ _ _ _ hk
 obtain⟨cur,h1,h2,h3,h4⟩:=h.bl;have h8:w8.heap[g]?=some (cells cur 29 (0,0)):=(hg g hgl (h.ne c hc)).trans h1;refine⟨⟨cur.setIfInBounds c (slice (some ⟨g8,0,none⟩) ((E c).length+1) cap8),?_,by simpa using h2,?_,λj hj=>?_⟩,h.ge,h.xg,λj hj=>?_,λj hj=>?_,λj hj b hb=>?_,λi j hi hj hij b hb=>?_⟩
 ·simp[World.setCell,Array.getElem?_modify,h8]
 ·intro i z;by_cases e:i=c
  ·subst e;rw[Array.getElem?_setIfInBounds_self];split <;> simp
  ·rw[Array.getElem?_setIfInBounds_ne (Ne.symm e)];exact h3 i z
 ·by_cases e:j=c
  ·subst e;rw[zcO];simp[h2,hj]
  ·rw[zcg e,Array.getElem?_setIfInBounds_ne (Ne.symm e)];exact h4 j hj
 ·by_cases e:j=c
  ·subst e;rw[zcO];simp only[if_true,List.length_append,List.length_singleton];have:rcells (E j++[x])=rcells (E j)++rcell x:=by simp[rcells]
   rw[this];exact hr.of (λk hk=>hset k (λe=>by have:g8=k:=(by simpa[Value.ownBlock]using hk);omega))
  ·rw[zcg e];simp only[e,if_false];refine(h.row j hj).of (λk hk=>?_);have hk1:=((h.row j hj).lt k hk).2;rw[hset k (λe2=>h.ne j hj (e2 ▸ hk)),hg k hk1 (λe2=>h.dj c j hc hj (Ne.symm e) k e2 hk)]
 ·by_cases e:j=c
  ·subst e;rw[zcO];intro e2;exact hg8 (by simpa[Value.ownBlock]using e2)
  ·rw[zcg e];exact h.ne j hj
 ·by_cases e:j=c
  ·subst e;rw[zcO]at hb
   have hb':g8=b:=by simpa[Value.ownBlock]using hb
   intro hx;rcases hl with h5|h5
   ·exact h.nx j hj b (hb' ▸ h5) hx
   ·have:=hX b hx;omega
  ·rw[zcg e]at hb;exact h.nx j hj b hb
 ·by_cases e:i=c
  ·subst e;rw[zcO]at hb
   have hb':g8=b:=by simpa[Value.ownBlock]using hb
   rw[zcg (Ne.symm hij)];intro h5;rcases hl with h6|h6
   ·exact h.dj i j hi hj hij g8 h6 (hb' ▸ h5)
   ·have:=((h.row j hj).lt b h5).2;omega
  ·rw[zcg e]at hb
   by_cases e2:j=c
   ·subst e2;rw[zcO];intro h5;have hb':g8=b:=by simpa[Value.ownBlock]using h5
    rcases hl with h6|h6
    ·exact h.dj i j hi hj hij b hb (hb' ▸ h6)
    ·have:=((h.row i hi).lt b hb).2;omega
   ·rw[zcg e2];exact h.dj i j hi hj hij b hb
theorem znQ {base w g ck} (hb:base<=g) (h:∃cur,w.heap[g]?=some (cells cur 29 (0,0))/\cur.size=ck/\NoU cur/\∀j,j<ck->cur[j]?=some (slice none 0 0)):Cr base w g ck (λ_=>slice none 0 0) (λ_=>[]) (λ_=>False) :=
 ⟨h,hb,λh=>h,λ_ _=>zak _ _ _ _,(λ_ _ h=>nomatch h),(λ_ _ _ h=>nomatch h),(λ_ _ _ _ _ _ h=>nomatch h)⟩
theorem znw:(prog.info? 29).map (λi=>(i.zero,i.size,i.bytes))=some (some (slice none 0 0),1,24):=by kernel_rfl
def Lv (L:Nat) (w:World) (E:List Nm) (p:List Rat):Prop:=E.length=p.length/\∀(j:Nat) (t:Nm) (q:Rat),E[j]?=some t->p[j]?=some q->NmV L w t q
theorem Lv.nil (L:Nat) (w:World):Lv L w [] []:=⟨rfl,λj t q h=>by simp at h⟩
theorem Lv.q_ {L w w' E p} (h:Lv L w E p) (hb:Bl w w'):Lv L w' E p:=⟨h.1,λj t q a b=>Rn.q_ (h.2 j t q a b) hb⟩
theorem Lv.kp {L w w' E p} (h:Lv L w E p) (hb:Kp w w'):Lv L w' E p:=⟨h.1,λj t q a b=>Rn.kp (h.2 j t q a b) hb⟩
theorem Lv.snoc {L w E p t q} (h:Lv L w E p) (hq:NmV L w t q):Lv L w (E++[t]) (p++[q]):=by
 refine⟨by rw[List.length_append,List.length_append,h.1];rfl,λj t' q' a b=>?_⟩;by_cases hj:j<E.length
 ·rw[List.getElem?_append_left hj]at a
  rw[List.getElem?_append_left (by rw[<-h.1];exact hj)]at b
  exact h.2 j t' q' a b
 ·rw[List.getElem?_append_right (by omega)]at a
  rw[List.getElem?_append_right (by rw[<-h.1];omega),<-h.1]at b
  obtain⟨k,hk⟩:∃k,j-E.length=k:=⟨_,rfl⟩;rw[hk]at a b
  cases k with
  | zero=>cases a;cases b;exact hq
  | succ k=>simp at a
def zbh (y:Rat):List (Int × Rat)->Nat->List Rat
 | [],_=>[]
 | (z,a) :: r,j=>(if z=(j:Int) then [-y*a] else [])++zbh y r j
def zW:List RV->List Rat->Nat->List Rat
 | v :: rs,y :: ys,j=>zbh y v.ts j++zW rs ys j
 | _,_,_=>[]
theorem zcY {y}:∀{ts:List (Int × Rat)} {p:Nat} {z:Int} {a:Rat} (j:Nat),ts[p]?=some (z,a)->zbh y (ts.take (p+1)) j=zbh y (ts.take p) j++(if z=(j:Int) then [-y*a] else [])
 | [],p,z,a,j,h=>by simp at h
 | (z',a') :: r,0,z,a,j,h=>by
  have e:z'=z/\a'=a:=by simpa using h
  obtain⟨rfl,rfl⟩:=e;simp[zbh]
 | (z',a') :: r,p+1,z,a,j,h=>by
  simp only[List.take_succ_cons,zbh];rw[zcY (ts:=r) (p:=p) j (by simpa using h),List.append_assoc]
theorem zck:∀{rs:List RV} {ys:List Rat} {i:Nat} {v:RV} {y:Rat} (j:Nat),rs[i]?=some v->ys[i]?=some y->zW (rs.take (i+1)) (ys.take (i+1)) j=zW (rs.take i) (ys.take i) j++zbh y v.ts j
 | [],_,_,_,_,_,h,_=>by simp at h
 | _ :: _,[],_,_,_,_,_,h=>by simp at h
 | v' :: rs,y' :: ys,0,v,y,j,h,h2=>by
  have e1:v'=v:=by simpa using h
  have e2:y'=y:=by simpa using h2
  subst e1;subst e2
  simp[zW]
 | v' :: rs,y' :: ys,i+1,v,y,j,h,h2=>by
  simp only[List.take_succ_cons,zW];rw[zck (rs:=rs) (ys:=ys) (i:=i) j (by simpa using h) (by simpa using h2),List.append_assoc]
theorem zig {y} {n j:Nat}:∀{ts:List (Int × Rat)} {z:Int},tsB n z ts=true->(j:Int)<=z->zbh y ts j=[]
 | [],_,_,_=>rfl
 | (z',q) :: r,z,h,hj=>by
  simp only[tsB,Bool.and_eq_true,decide_eq_true_eq]at h;simp only[zbh];rw[if_neg (by omega),zig h.2.2.2 (by omega)];rfl
theorem zcH {y n j}:∀{ts:List (Int × Rat)} {z:Int},tsB n z ts=true->(zbh y ts j).length<=1
 | [],_,_=>by simp[zbh]
 | (z',q) :: r,z,h=>by
  simp only[tsB,Bool.and_eq_true,decide_eq_true_eq]at h;simp only[zbh];by_cases e:z'=(j:Int)
  ·rw[if_pos e,zig h.2.2.2 (by omega)];simp
  ·rw[if_neg e,List.nil_append];exact zcH h.2.2.2
theorem zbF {n j}:∀{rs:List RV} {ys:List Rat},(∀v ∈ rs,tsB n (-1) v.ts=true)->(zW rs ys j).length<=rs.length
 | [],_,_=>by simp[zW]
 | _ :: _,[],_=>by simp[zW]
 | v :: rs,y :: ys,h=>by
  have h1:=zcH (y:=y) (j:=j) (h v List.mem_cons_self);have h2:=zbF (rs:=rs) (ys:=ys) (j:=j) (λv' hv=>h v' (List.mem_cons_of_mem _ hv));simp only[zW,List.length_append,List.length_cons];omega
theorem zcL {n}:∀{ts:List (Int × Rat)} {z:Int} (i:Nat),tsB n z ts=true->tsB n z (ts.take i)=true
 | [],_,i,_=>by simp[tsB]
 | (y,q) :: r,z,0,_=>rfl
 | (y,q) :: r,z,i+1,h=>by
  simp only[tsB,Bool.and_eq_true,decide_eq_true_eq]at h;simp only[List.take_succ_cons,tsB,Bool.and_eq_true,decide_eq_true_eq];exact⟨h.1,h.2.1,h.2.2.1,zcL i h.2.2.2⟩
def zaA (rs:List RV) (ys:List Rat):Nat->List CV->List Rat
 | _,[]=>[]
 | j,v :: cs=>psum (zW rs ys j++[v.cost]) 0 :: zaA rs ys (j+1) cs
theorem zaX (rs:List RV) (ys:List Rat):∀(cs:List CV) (j:Nat),(zaA rs ys j cs).length=cs.length
 | [],_=>rfl
 | v :: cs,j=>by simp[zaA,zaX rs ys cs (j+1)]
theorem zdR (rs:List RV) (ys:List Rat):∀{cs:List CV} {i:Nat} {v:CV} (j:Nat),cs[i]?=some v->zaA rs ys j (cs.take (i+1))=zaA rs ys j (cs.take i)++[psum (zW rs ys (j+i)++[v.cost]) 0]
 | [],i,v,j,h=>by simp at h
 | v' :: cs,0,v,j,h=>by
  have e:v'=v:=by simpa using h
  subst e;simp[zaA]
 | v' :: cs,i+1,v,j,h=>by
  simp only[List.take_succ_cons,zaA];rw[zdR rs ys (cs:=cs) (i:=i) (j+1) (by simpa using h),show j+(i+1)=j+1+i by omega];rfl
theorem zij {L w sa xa na ca fa ya ma da ga a sb xb nb cb fb yb mb db gb b} (ha:Rn L w sa xa na ca fa ya ma da ga a) (hb:Rn L w sb xb nb cb fb yb mb db gb b) (hL:L<=200000) :
  Calls prog 32 #[agg #[.bool sa,slice xa na ca,slice ya ma da],agg #[.bool sb,slice xb nb cb,slice yb mb db]] w λe w'=>zcq (2*L+1) w w' e (a*b):=by
 have h1:=((ha.alloc (cells #[.bool sa,slice xa na ca,slice ya ma da] 24)).alloc (cells #[.bool sb,slice xb nb cb,slice yb mb db] 24)).alloc (cells #[.bool false,slice none 0 0,slice none 0 0] 24);have h2:=((hb.alloc (cells #[.bool sa,slice xa na ca,slice ya ma da] 24)).alloc (cells #[.bool sb,slice xb nb cb,slice yb mb db] 24)).alloc (cells #[.bool false,slice none 0 0,slice none 0 0] 24);have h3:=zaz ((w.alloc (cells #[.bool sa,slice xa na ca,slice ya ma da] 24)).alloc (cells #[.bool sb,slice xb nb cb,slice yb mb db] 24)) 24;rw[zw,zw]at h3
 have h4:=zu (zu (zB w (cells #[.bool sa,slice xa na ca,slice ya ma da] 24)) (cells #[.bool sb,slice xb nb cb,slice yb mb db] 24)) (cells #[.bool false,slice none 0 0,slice none 0 0] 24);clear ha hb;go_enter func32,ntmps32;go_wp2_with fail
 generalize((w.alloc (cells #[.bool sa,slice xa na ca,slice ya ma da] 24)).alloc (cells #[.bool sb,slice xb nb cb,slice yb mb db] 24)).alloc (cells #[.bool false,slice none 0 0,slice none 0 0] 24)=w1 at *;have OB1:=zk h3;have HW1:=zk h4
 refine(ziW h1 h2 hL).mono ?_;clear h1 h2 h3 h4;rintro e w2 ⟨s,x,n,c,f,y,m,d,g,rfl,hb2,hq⟩;have hob:=OB1.out.q_ hb2;have hbw:=bUp HW1.out hb2;obtain⟨hz,z0,z1,z2,zf⟩:=OB1.out.q_ hb2;have HQ:=zk hq;have HOB:=zk hob;have HBW:=zk hbw
 clear hq hob hbw hb2 OB1 HW1;go_wp2;exact bodyPost_ret (v:=agg #[.bool s,slice x n c,slice y m d]) (by simp[results,results32,go_sem,z0,z1,z2,hz]) rfl ⟨s,x,n,c,f,y,m,d,g,rfl,zu (zU HBW.out (by omega)) _,(HOB.out.rn HQ.out).alloc _⟩
def zbB (M:Mo) (k:Nat) (X:Nat->Nm):Int:=lsf (two (zaF M) (pnE k X M.rk)) 2
def ziD (L:Nat) (w w':World) (e:Ending) (er:Int) (cs:List CV) (rs:List RV) (ys:List Rat):Prop:=Bl w w' /\
 ((er≠0/\e=returned (.tuple #[slice none 0 0,.int .i64 er]))∨(er=0/\∃a c,e=returned (.tuple #[slice a cs.length c,.int .i64 0])/\(cs.length<=c/\c<=9223372036854775807)/\Rf (KV L) w' a (zaA rs ys 0 cs)))
structure Ct (base:Nat) (w:World) (g ck i:Nat) (V:Nat->Value) (E:Nat->List Nm):Prop where
 cell:∀j,i<=j->j<ck->w.cell? ⟨g,j,none⟩=some (V j)
 row:∀j,i<=j->j<ck->RowG 24 3 base w (V j) (E j).length (rcells (E j))
theorem Cr.ct {base w g ck V E X} (h:Cr base w g ck V E X):Ct base w g ck 0 V E:=⟨λ_ _ hj=>h.cell hj,λj _ hj=>h.row j hj⟩
theorem Ct.q_ {base w w' g ck i V E} (h:Ct base w g ck i V E) (hb:Bl w w'):Ct base w' g ck i V E:=⟨λj a b=>kCb hb (h.cell j a b),λj a b=>(h.row j a b).q_ hb⟩
theorem Ct.of {base w w' g ck i i' V E} (h:Ct base w g ck i V E) (hi:i<=i') (hg:w'.heap[g]?=w.heap[g]?) (hb:∀j,i'<=j->j<ck->∀b,(V j).ownBlock=some b->w'.heap[b]?=w.heap[b]?):Ct base w' g ck i' V E :=
 ⟨λj a b=>(cell?_of_block (a:=⟨g,j,none⟩) hg).trans (h.cell j (by omega) b),λj a b=>(h.row j (by omega) b).of (hb j a b)⟩
theorem Gr.of {K base w w' v p} (h:Gr K base w v p) (hb:∀b,v.ownBlock=some b->w'.heap[b]?=w.heap[b]?) (hk:Kp w w'):Gr K base w' v p:=by
 obtain⟨T,h1,h2⟩:=h;exact⟨T,h1.of hb,λj q e=>Rn.kp (h2 j q e) hk⟩
theorem Gr.own {K base w v p} (h:Gr K base w v p):∀b,v.ownBlock=some b->base<=b/\b<w.heap.size:=by
 obtain⟨T,h1,h2⟩:=h;exact h1.lt
theorem zqW (E:List Nm) (t:Nm):E=rls E.length (λj=>E.getD j t):=by
 apply List.ext_getElem?;intro j;by_cases hj:j<E.length
 ·rw[zjZ hj,List.getD_eq_getElem?_getD,getElem?_eq_getElem hj];rfl
 ·rw[List.getElem?_eq_none (by omega),List.getElem?_eq_none (by simp[rls];omega)]
theorem zjY {L base w ao n cap E p} (h:RowG 24 3 base w (slice ao n cap) E.length (rcells E)) (hv:Lv L w E p) (hn:n=E.length):Rf L w ao p:=λj q hj=>by
 subst hn;have hl:j<E.length:=by rw[hv.1];exact(List.getElem?_eq_some_iff.1 hj).1
 have t0:Nm:=⟨false,none,0,0,λ_=>0,none,0,0,λ_=>0⟩;rw[show rcells E=rcells (rls E.length (λj=>E.getD j t0)) by rw[<-zqW]]at h
 obtain⟨b,e,hc⟩:=zcf h hl;refine⟨b,0,E.getD j t0,e,hc,hv.2 j _ q ?_ hj⟩;rw[List.getD_eq_getElem?_getD,getElem?_eq_getElem hl];rfl
theorem zds {w L M off cs rs ao k cap X ys er} (hW:MoW w M) (hx:Rl w ao k X) (hk:k<=1048576) (he:zbB M k X=er) (hv:er=0->MoV L w M off cs rs/\zbk cs rs=true/\Rf L w ao ys/\ys.length=k/\k=rs.length) (hL:L<=30) :
  Calls prog 10 #[M.val,slice ao k cap] w λe w'=>ziD L w w' e er cs rs ys:=by
 have CC:=zk (λW (hW2:Bl w W)=>zeT (hW.q_ hW2));have CN:=zk (λW (hW2:Bl w W)=>zdl (w:=W) (cap:=cap) (z:=(M.rk:Int)) (hx.q_ hW2) hk);have HE:=zk he;unfold zbB at he;obtain⟨e0,he0⟩:∃e,zaF M=e:=⟨_,rfl⟩;rw[he0]at CC he
 obtain⟨e1,he1⟩:∃e,pnE k X M.rk=e:=⟨_,rfl⟩;rw[he1]at CN he
 have HE2:=zk he;have HV:=zk hv
 clear hW hx he0 he1 he hv;obtain⟨⟨s,x,n,c,f,y,m,d,g⟩,ca,ck,cc,C,ra,rk,rc,R⟩:=M;replace CC:Hid (∀W,Bl w W->Calls prog 29 #[agg #[.bool s,slice x n c,slice y m d,slice ca ck cc,slice ra rk rc]] W λr w'=>r=returned (.int .i64 e0)/\Bl W w'):=CC;replace CN:Hid (∀W,Bl w W->Calls prog 30 #[slice ao k cap,.int .i64 (rk:Int)] W λe w'=>e=returned (.int .i64 e1)/\Bl W w'):=CN;show Calls prog 10 #[agg #[.bool s,slice x n c,slice y m d,slice ca ck cc,slice ra rk rc],slice ao k cap] w _;have hb:=zB w (cells #[.bool s,slice x n c,slice y m d,slice ca ck cc,slice ra rk rc] 28);have r0:(w.alloc (cells #[.bool s,slice x n c,slice y m d,slice ca ck cc,slice ra rk rc] 28)).drew.cell? ⟨w.heap.size,0,none⟩=some (.bool s):=kCd (by simp[go_sem]);have r1:(w.alloc (cells #[.bool s,slice x n c,slice y m d,slice ca ck cc,slice ra rk rc] 28)).drew.cell? ⟨w.heap.size,1,none⟩=some (slice x n c):=kCd (by simp[go_sem]);have r2:(w.alloc (cells #[.bool s,slice x n c,slice y m d,slice ca ck cc,slice ra rk rc] 28)).drew.cell? ⟨w.heap.size,2,none⟩=some (slice y m d):=kCd (by simp[go_sem]);have r3:(w.alloc (cells #[.bool s,slice x n c,slice y m d,slice ca ck cc,slice ra rk rc] 28)).drew.cell? ⟨w.heap.size,3,none⟩=some (slice ca ck cc):=kCd (by simp[go_sem]);have r4:(w.alloc (cells #[.bool s,slice x n c,slice y m d,slice ca ck cc,slice ra rk rc] 28)).drew.cell? ⟨w.heap.size,4,none⟩=some (slice ra rk rc):=kCd (by simp[go_sem]);have HB:=zk (Below.drew hb);have hsz0:w.heap.size<(w.alloc (cells #[.bool s,slice x n c,slice y m d,slice ca ck cc,slice ra rk rc] 28)).drew.heap.size:=by show w.heap.size<(w.alloc _).heap.size;simp
 clear hb;go_enter func10,ntmps10;go_upto_region 1 with fail
 refine wp_region_held_drew (S:=(λw'=>w'.cell? ⟨w.heap.size,0,none⟩=some (.bool s)/\w'.cell? ⟨w.heap.size,1,none⟩=some (slice x n c)/\w'.cell? ⟨w.heap.size,2,none⟩=some (slice y m d)/\w'.cell? ⟨w.heap.size,3,none⟩=some (slice ca ck cc)/\w'.cell? ⟨w.heap.size,4,none⟩=some (slice ra rk rc))) (by kernel_rfl) ?_ (λhHeld=>?_)
 ·exact⟨r0,r1,r2,r3,r4⟩
 generalize(w.alloc (cells #[.bool s,slice x n c,slice y m d,slice ca ck cc,slice ra rk rc] 28)).drew=wd at *;clear r0 r1 r2 r3 r4;refine zK 0 ?_;refine zK 2 ?_;refine zK 3 ?_;simp only[zA,Act.put];refine zK 4 ?_;refine zK 5 ?_;simp only[zA,Act.put];refine rdO 1 (λK hK=>?_);go_simp
 go_at_call 29
 refine(CC.out _ HB.out).mono ?_;rintro e w4 ⟨rfl,hb4⟩
 (try go_wp2_with fail)
 refine hK.out _ _ ?_ (λhH4=>?_)
 ·exact⟨kCb hb4 hHeld.1,kCb hb4 hHeld.2.1,kCb hb4 hHeld.2.2.1,kCb hb4 hHeld.2.2.2.1,kCb hb4 hHeld.2.2.2.2⟩
 clear hK K;have HB4:=zJ HB hb4;try simp only[zA,Act.put]
 refine rdO 6 (λK hK=>?_);go_simp
 go_at_call 30
 refine(CN.out _ HB4.out).mono ?_;rintro e w5 ⟨rfl,hb5⟩
 (try go_wp2_with fail)
 refine hK.out _ _ ?_ (λhH5=>?_)
 ·exact⟨kCb hb5 hH4.1,kCb hb5 hH4.2.1,kCb hb5 hH4.2.2.1,kCb hb5 hH4.2.2.2.1,kCb hb5 hH4.2.2.2.2⟩
 clear hK K;have HB5:=zJ HB4 hb5;obtain⟨r0,r1,r2,r3,r4⟩:=id hH5;try simp only[zA,Act.put]
 refine rdO 7 (λK hK=>?_);go_simp;have hbA:=zB w5 (cells #[.int .i64 e0,.int .i64 e1] 36);have HEl:=zk (zdP (w:=w5) (a:=e0) (b:=e1) (t:=36));have HWA:=zJ HB5 hbA;obtain⟨gA,hgA⟩:∃z,w5.heap.size=z:=⟨_,rfl⟩;rw[hgA]at HEl ⊢
 generalize hwA:w5.alloc (cells #[.int .i64 e0,.int .i64 e1] 36)=wA at *;clear hwA hgA;refine hK.out _ _ ?_ (λhHA=>?_)
 ·((try dsimp only);(refine⟨?_,?_,?_,?_,?_⟩ <;> repeat(with_reducible first|assumption|refine kCb (by assumption) ?_)))
 clear hK K;try simp only[zA,Act.put]
 refine rdO 8 (λK hK=>?_);go_simp
 go_at_call 28
 refine(zgX HEl.out (by decide)).mono ?_;rintro e w9 ⟨rfl,rfl⟩
 (try go_wp2_with fail)
 refine hK.out _ _ ?_ (λhHB=>?_)
 ·exact hHA
 clear hK K;try simp only[zA,Act.put]
 refine zK 9 ?_;simp only[zA,Act.put];refine dnO ?_;simp only[show lsf (two e0 e1) 2=er from HE2.out];obtain⟨r0,r1,r2,r3,r4⟩:=id hHB;have hszA:w.heap.size<w9.heap.size:=by have h1:=hb4.size;have h2:=hb5.size;have h3:=hbA.size;omega
 have HBA:=zk HWA.out;clear HE2 hHeld hH4 hH5 hHA hHB hb4 hb5 hbA HEl CC CN HB HB4 HB5 HWA hsz0;by_cases h0:er=0
 case neg =>
  have h1:(er != 0)=true:=by simpa using h0
  have H0:=zk h0;clear r0 r1 r2 r3 r4;go_wp2
  go_ret2
  exact⟨HBA.out,.inl ⟨H0.out,rfl⟩⟩
 obtain⟨v1,v2,v3,v4,v5⟩:=HV.out h0;have mp:=zbj v2;have ht:∀v ∈ rs,tsB cs.length (-1) v.ts=true:=by
  simp only[zbk,Bool.and_eq_true,decide_eq_true_eq,List.all_eq_true]at v2;obtain⟨_,_,_,h4,_⟩:=v2;exact λv hv=>(h4 v hv).2.1
 subst h0;have l64:=mp.cl;have r64:=mp.rl
 have HC:Hid (∀j v,cs[j]?=some v->(∃b o,ca=some ⟨b,o,none⟩/\Cs w b (o+j*12) (C j).vs)/\ColV L w (C j) v):=v1.cls;have HR:Hid (∀j v,rs[j]?=some v->(∃b o,ra=some ⟨b,o,none⟩/\Cs w b (o+j*10) (R j).vs)/\RowV L w (R j) v):=v1.rls;have hck:ck=cs.length:=v1.ck;have hrk:rk=rs.length:=v1.rk;subst hck;subst hrk
 subst v5;have HY:=zk v3;have HYL:=zk v4;have HTB:Hid (∀v ∈ rs,tsB cs.length (-1) v.ts=true):=ht;have HTL:=zk mp.tl
 clear v1 v2 v3 v4 mp ht HV HE hk;go_wp2_with(at_make;refine zcu _ rfl (.tmp 31) (.tmp 31) 78 rfl 29 24 underlying78 znw .i64 .i64 cs.length cs.length cs.length rfl rfl rfl rfl (by omega) (by unfold maxLen;omega) ?_;intro w3 hk3 hb3;have k43:=kCb hb3 r4)
 have HK3:Hid (w9.cell? ⟨w.heap.size,3,none⟩=some (slice ca cs.length cc)):=zk r3;have HCo:=zk (znQ (base:=w9.heap.size) (le_refl _) hk3);have HB3:=zk hb3;clear hk3 r0 r1 r2 r3 r4;go_wp2_with fail
 clear k43 hb3;go_loopw[36] (λt wr=>∃(i:Nat) (V:Nat->Value) (E:Nat->List Nm),i<=rs.length/\t=.int .i64 i/\Hid (Bl w9 wr)/\Hid (Cr w9.heap.size wr w9.heap.size cs.length V E (λb=>False))/\Hid (∀j,j<cs.length->Lv (2*L+1) wr (E j) (zW (rs.take i) (ys.take i) j))) (λt _=>rs.length-(intOf t).toNat)
 case atStart=>exact⟨0,_,_,by omega,rfl,HB3.out,HCo.out,λj hj=>Lv.nil _ _⟩
 case round =>
  clear HB3 HCo;obtain⟨i,V,E,hi,rfl,HB,HC2,HL⟩:=hrel;by_cases hlt:i<rs.length
  ·obtain⟨v,hv⟩:∃t,rs[i]?=some t:=⟨_,getElem?_eq_getElem (by omega)⟩;have hvm:=List.mem_of_getElem? hv;obtain⟨yq,hyq⟩:∃t,ys[i]?=some t:=⟨_,getElem?_eq_getElem (by have:=HYL.out;omega)⟩;have hbw:=bUp HBA.out HB.out;obtain⟨⟨b,o,hra,hc⟩,hRV⟩:=HR.out i v hv;subst hra;obtain⟨⟨z,⟨i1,⟨s1,x1,n1,c1,f1,y1,m1,d1,g1⟩⟩,⟨i2,⟨s2,x2,n2,c2,f2,y2,m2,d2,g2⟩⟩,ta,tk,tc,tcol,tt⟩,hCi⟩:∃t,R i=t:=⟨_,rfl⟩;rw[hCi]at hc hRV
   have htk2:tk=v.ts.length:=hRV.tk;subst htk2;replace hc:=Cs.q_ hc hbw;obtain⟨q0,q1,q2,q3,q4,q5,q6,q7,q8,q9⟩:=hc.lr;obtain⟨b',o',⟨ss,sx,sn,sc,sf,sy,sm,sd,sg⟩,hax,⟨p0,p1,p2⟩,hr'⟩:=(HY.out.q_ hbw) i yq hyq;subst hax;replace p0:wr.cell? ⟨b',o'+i*3,none⟩=some (.bool ss):=p0;replace p1:wr.cell? ⟨b',o'+i*3+1,none⟩=some (slice sx sn sc):=p1;replace p2:wr.cell? ⟨b',o'+i*3+2,none⟩=some (slice sy sm sd):=p2;replace hr':Rn L wr ss sx sn sc sf sy sm sd sg yq:=hr';have hb1:=zB wr (cells #[.string z,.int .i64 i1,.bool s1,slice x1 n1 c1,slice y1 m1 d1,.int .i64 i2,.bool s2,slice x2 n2 c2,slice y2 m2 d2,slice ta v.ts.length tc] 63);obtain⟨-,-,-,-,-,-,-,-,-,b9⟩:=zef (zF wr [.string z,.int .i64 i1,.bool s1,slice x1 n1 c1,slice y1 m1 d1,.int .i64 i2,.bool s2,slice x2 n2 c2,slice y2 m2 d2,slice ta v.ts.length tc] 63);replace p0:=kCb hb1 p0;replace p1:=kCb hb1 p1;replace p2:=kCb hb1 p2
   replace hr':=hr'.q_ hb1;have HTS:Hid (∀p z q,v.ts[p]?=some (z,q)->tcol p=z/\NmV L w (tt p) q/\∃b o,ta=some ⟨b,o,none⟩/\C4 w b (o+p*4) (.int .i64 (tcol p)) (.bool (tt p).s) (.slice (tt p).x (tt p).n (tt p).c) (.slice (tt p).y (tt p).m (tt p).d)):=hRV.tl;have htk3:=HTL.out v hvm;have HT2:=zk (HTB.out v hvm);have HV:=zk hv;have HYQ:=zk hyq
   have HB1:=zJ HB hb1;have HC1:=zk (HC2.out.q_ hb1);have HL1:Hid (∀j,j<cs.length->Lv (2*L+1) (wr.alloc (cells #[.string z,.int .i64 i1,.bool s1,slice x1 n1 c1,slice y1 m1 d1,.int .i64 i2,.bool s2,slice x2 n2 c2,slice y2 m2 d2,slice ta v.ts.length tc] 63)) (E j) (zW (rs.take i) (ys.take i) j)):=zk (λj hj=>(HL.out j hj).q_ hb1)
   have i1':((i:Nat):Int)<((rs.length:Nat):Int):=by omega
   have hlw:wr.heap.size<(wr.alloc (cells #[.string z,.int .i64 i1,.bool s1,slice x1 n1 c1,slice y1 m1 d1,.int .i64 i2,.bool s2,slice x2 n2 c2,slice y2 m2 d2,slice ta v.ts.length tc] 63)).heap.size:=by simp
   clear hCi hc hRV hbw hv hyq hvm HB HC2 HL;have HR':=zk hr';clear hr';go_wp2_with fail
   clear q0 q1 q2 q3 q4 q5 q6 q7 q8 q9;generalize(wr.alloc (cells #[.string z,.int .i64 i1,.bool s1,slice x1 n1 c1,slice y1 m1 d1,.int .i64 i2,.bool s2,slice x2 n2 c2,slice y2 m2 d2,slice ta v.ts.length tc] 63))=wI at *;clear hb1;generalize wr.heap.size=rb at *;refine(zmM HR'.out (by omega)).mono ?_;rintro e w4 ⟨s6,x6,n6,c6,f6,y6,m6,d6,g6,rfl,hb4,hq6⟩;have hal:=zB w4 (cells #[.bool s6,slice x6 n6 c6,slice y6 m6 d6] 24);have hb5:=bUp hb4 hal;replace b9:=kCb hb5 b9;go_wp2_with fail
   have BK:=zk (zF w4 [.bool s6,slice x6 n6 c6,slice y6 m6 d6] 24);replace BK:Hid (Bk (w4.alloc (cells #[.bool s6,slice x6 n6 c6,slice y6 m6 d6] 24)) w4.heap.size [.bool s6,slice x6 n6 c6,slice y6 m6 d6] 24):=BK;have HN:=zk (hq6.q_ hal);have HB5:=zJ HB1 hb5;have HC5:=zk (((HC1.out.q_ hb4).unx (λb=>b=w4.heap.size) (λb e=>Nat.le_of_eq e.symm)).q_ hal);have HL5:Hid (∀j,j<cs.length->Lv (2*L+1) (w4.alloc (cells #[.bool s6,slice x6 n6 c6,slice y6 m6 d6] 24)) (E j) (zW (rs.take i) (ys.take i) j)):=zk (λj hj=>(HL1.out j hj).q_ hb5);clear hb4 hq6 hal hb5 b9 p0 p1 p2 hlw HR' HB1 HC1 HL1;generalize w4.alloc (cells #[.bool s6,slice x6 n6 c6,slice y6 m6 d6] 24)=w5 at *;generalize w4.heap.size=xb at *;go_loopw[52] (λt wz=>∃(p:Nat) (V:Nat->Value) (E:Nat->List Nm),p<=v.ts.length/\t=.int .i64 p/\Hid (Bl w9 wz)/\Hid (Cr w9.heap.size wz w9.heap.size cs.length V E (λb=>b=xb))/\Hid (Bk wz xb [.bool s6,slice x6 n6 c6,slice y6 m6 d6] 24)/\Hid (Rn L wz s6 x6 n6 c6 f6 y6 m6 d6 g6 (-yq))/\Hid (∀j,j<cs.length->Lv (2*L+1) wz (E j) (zW (rs.take i) (ys.take i) j++zbh yq (v.ts.take p) j))) (λt _=>v.ts.length-(intOf t).toNat)
   case atStart=>exact⟨0,_,_,by omega,rfl,HB5.out,HC5.out,BK.out,HN.out,λj hj=>by rw[List.take_zero];simpa only[zbh,List.append_nil]using HL5.out j hj⟩
   case round =>
    clear HB5 HC5 BK HN HL5;obtain⟨p,V,E,hp,rfl,HB,HC2,BK,HN,HL⟩:=hrel;by_cases hlp:p<v.ts.length
    ·obtain⟨⟨tz,tq⟩,htv⟩:∃t,v.ts[p]?=some t:=⟨_,getElem?_eq_getElem (by omega)⟩;obtain⟨h1,h2,b2,o2,hta,h4⟩:=HTS.out p tz tq htv;obtain⟨hz0,hz1,_⟩:=zdx HT2.out _ (List.mem_of_getElem? htv);replace hz0:(-1:Int)<tz:=hz0;replace hz1:tz<(cs.length:Int):=hz1;obtain⟨zn,rfl⟩:=Int.eq_ofNat_of_zero_le (show 0<=tz by omega);have hzn:zn<cs.length:=by omega
     subst hta;have hbz:=bUp HBA.out HB.out;obtain⟨⟨ts,tx,tn,tc2,tf,ty,tm,td,tg⟩,hTp⟩:∃t,tt p=t:=⟨_,rfl⟩;rw[hTp,h1]at h4
     rw[hTp]at h2
     obtain⟨x0,x1,x2,x3⟩:=h4.q_ hbz;replace x0:wr.cell? ⟨b2,o2+p*4,none⟩=some (.int .i64 zn):=x0;replace x1:wr.cell? ⟨b2,o2+p*4+1,none⟩=some (.bool ts):=x1;replace x2:wr.cell? ⟨b2,o2+p*4+2,none⟩=some (slice tx tn tc2):=x2;replace x3:wr.cell? ⟨b2,o2+p*4+3,none⟩=some (slice ty tm td):=x3;have h2r:Rn L w ts tx tn tc2 tf ty tm td tg tq:=h2;have hbt:=zB wr (cells #[.int .i64 zn,.bool ts,slice tx tn tc2,slice ty tm td] 65);have a0:((wr.alloc (cells #[.int .i64 zn,.bool ts,slice tx tn tc2,slice ty tm td] 65))).cell? ⟨wr.heap.size,0,none⟩=some (.int .i64 zn):=by simp[go_sem]
     have a1:((wr.alloc (cells #[.int .i64 zn,.bool ts,slice tx tn tc2,slice ty tm td] 65))).cell? ⟨wr.heap.size,1,none⟩=some (.bool ts):=by simp[go_sem]
     have a2:((wr.alloc (cells #[.int .i64 zn,.bool ts,slice tx tn tc2,slice ty tm td] 65))).cell? ⟨wr.heap.size,2,none⟩=some (slice tx tn tc2):=by simp[go_sem]
     have a3:((wr.alloc (cells #[.int .i64 zn,.bool ts,slice tx tn tc2,slice ty tm td] 65))).cell? ⟨wr.heap.size,3,none⟩=some (slice ty tm td):=by simp[go_sem]
     have i2':((p:Nat):Int)<((v.ts.length:Nat):Int):=by omega
     have i3':((zn:Nat):Int)<((cs.length:Nat):Int):=by omega
     have HTV:=zk htv;have hva:∀b,(V zn).ownBlock=some b->b<wr.heap.size:=λb e=>((HC2.out.row zn hzn).lt b e).2
     have hxz:=BK.out.lt;have hlz:wr.heap.size<(wr.alloc (cells #[.int .i64 zn,.bool ts,slice tx tn tc2,slice ty tm td] 65)).heap.size:=by simp
     clear htv hz0 hz1 h1 h2 h4 hTp;go_upto_region 12 with fail
     clear x0 x1 x2 x3;have HB5:=zJ HB hbt;have HC5:=zk (HC2.out.q_ hbt);have BK5:=zk (BK.out.q_ hbt);have R1:=zk (HN.out.q_ hbt);have R2:=zk ((h2r.q_ hbz).q_ hbt);have HL5:Hid (∀j,j<cs.length->Lv (2*L+1) (wr.alloc (cells #[.int .i64 zn,.bool ts,slice tx tn tc2,slice ty tm td] 65)) (E j) (zW (rs.take i) (ys.take i) j++zbh yq (v.ts.take p) j)):=zk (λj hj=>(HL.out j hj).q_ hbt)
     clear hbz hbt h2r HB HC2 BK HN HL;generalize wr.heap.size=bx at *;generalize(wr.alloc (cells #[.int .i64 zn,.bool ts,slice tx tn tc2,slice ty tm td] 65))=w5 at *;have o0:=HC5.out.cell hzn;obtain⟨v0,v1,v2⟩:=bk3 BK5.out;refine zag (S:=(λw'=>w'.cell? ⟨bx,0,none⟩=some (.int .i64 zn)/\w'.cell? ⟨bx,1,none⟩=some (.bool ts)/\w'.cell? ⟨bx,2,none⟩=some (slice tx tn tc2)/\w'.cell? ⟨bx,3,none⟩=some (slice ty tm td)/\w'.cell? ⟨xb,0,none⟩=some (.bool s6)/\w'.cell? ⟨xb,1,none⟩=some (slice x6 n6 c6)/\w'.cell? ⟨xb,2,none⟩=some (slice y6 m6 d6)/\w'.cell? ⟨w9.heap.size,zn,none⟩=some (V zn))) 15 (by kernel_rfl) ⟨kCd a0,kCd a1,kCd a2,kCd a3,kCd v0,kCd v1,kCd v2,kCd o0⟩ (λhHeld=>?_);have hbd:=Below.drew (Below.refl w5.heap.size w5);replace HB5:=zJ HB5 hbd;replace HC5:=zk (HC5.out.q_ hbd);replace BK5:=zk (BK5.out.q_ hbd);replace R1:=zk (R1.out.q_ hbd);replace R2:=zk (R2.out.q_ hbd);replace HL5:Hid (∀j,j<cs.length->Lv (2*L+1) w5.drew (E j) (zW (rs.take i) (ys.take i) j++zbh yq (v.ts.take p) j)):=zk (λj hj=>(HL5.out j hj).q_ hbd)
     replace hlz:bx<w5.drew.heap.size:=hlz;clear hbd a0 a1 a2 a3 v0 v1 v2 o0;generalize w5.drew=wd at *;refine skP 0 ?_;refine skP 1 ?_;refine tkP 2 ?_;simp only[zA,Act.put];refine skP 3 ?_;refine skP 4 ?_;refine tkP 5 ?_;simp only[zA,Act.put];refine skP 6 ?_;refine tkP 7 ?_;refine tkP 8 ?_;simp only[zA,Act.put];refine skP 9 ?_;refine tkP 10 ?_;simp only[zA,Act.put];refine rdP 11 (λK hK=>?_);go_simp
     go_at_call 32
     refine(zij (L:=L) R1.out R2.out (by omega)).mono ?_;rintro e w6 ⟨s7,x7,n7,c7,f7,y7,m7,d7,g7,rfl,hb6,hq7⟩
     (try go_wp2_with fail)
     have yy0:=kCb hb6 (hHeld.1);have yy1:=kCb hb6 (hHeld.2.1);have yy2:=kCb hb6 (hHeld.2.2.1);have yy3:=kCb hb6 (hHeld.2.2.2.1);have yy4:=kCb hb6 (hHeld.2.2.2.2.1);have yy5:=kCb hb6 (hHeld.2.2.2.2.2.1);have yy6:=kCb hb6 (hHeld.2.2.2.2.2.2.1);have yy7:=kCb hb6 (hHeld.2.2.2.2.2.2.2);refine hK.out _ _ (λ_=>⟨yy0,yy1,yy2,yy3,yy4,yy5,yy6,yy7⟩) (λhS6=>?_);clear hK K hS6;try simp only[zA,Act.put]
     replace HB5:=zJ HB5 hb6;replace HC5:=zk (HC5.out.q_ hb6);replace BK5:=zk (BK5.out.q_ hb6);replace R1:=zk (R1.out.q_ hb6);replace HL5:Hid (∀j,j<cs.length->Lv (2*L+1) w6 (E j) (zW (rs.take i) (ys.take i) j++zbh yq (v.ts.take p) j)):=zk (λj hj=>(HL5.out j hj).q_ hb6)
     replace hlz:bx<w6.heap.size:=Nat.lt_of_lt_of_le hlz hb6.size;have HQ7:=zk hq7;clear hb6 hq7 R2 hHeld;refine rdP 12 (λK hK=>?_);go_simp;refine hK.out _ _ (λ_=>⟨kCa yy0,kCa yy1,kCa yy2,kCa yy3,kCa yy4,kCa yy5,kCa yy6,kCa yy7⟩) (λhS7=>?_);clear hK K hS7;try simp only[zA,Act.put]
     refine rdP 13 (λK hK=>?_);have hrow:=HC5.out.row zn hzn;have hen:(E zn).length<=65:=by
      rw[(HL5.out zn hzn).1,List.length_append];have h1:=zbF (n:=cs.length) (j:=zn) (rs:=rs.take i) (ys:=ys.take i) (λv hv=>HTB.out v (List.mem_of_mem_take hv));have h2:=zcH (y:=yq) (j:=zn) (zcL p HT2.out);rw[List.length_take]at h1;omega
     have hsz6:w9.heap.size<=w6.heap.size:=HB5.out.size;refine zaj w6 rfl (.tmp 63) (.tmp 68) 29 rfl w9.heap.size 24 56 3 (agg #[.bool false,slice none 0 0,slice none 0 0]) underlying29 zaR rfl (by decide) nz3 (V zn) (E zn).length _ rfl hrow #[.bool s7,slice x7 n7 c7,slice y7 m7 d7] rfl rfl (zdo _ _ _ _ _ _ _) (zcB _ _ _ _ _ _ _) ?p1 ?p2 hsz6 ?_
     case p1=>omega
     case p2=>omega
     intro g8 cap8 w8 hr8 hk8 hb8 hg8 hl8;have hBx:=hg8 bx hlz (λe=>absurd (hva _ e) (Nat.lt_irrefl _));have hXb:=hg8 xb BK5.out.lt (λe=>HC5.out.nx zn hzn xb e rfl);have hO8:=hg8 w9.heap.size HC5.out.lt (HC5.out.ne zn hzn);have uu0:=(cell?_of_block (a:=⟨bx,0,none⟩) hBx).trans yy0;have uu1:=(cell?_of_block (a:=⟨bx,1,none⟩) hBx).trans yy1;have uu2:=(cell?_of_block (a:=⟨bx,2,none⟩) hBx).trans yy2;have uu3:=(cell?_of_block (a:=⟨bx,3,none⟩) hBx).trans yy3;have uu4:=(cell?_of_block (a:=⟨xb,0,none⟩) hXb).trans yy4;have uu5:=(cell?_of_block (a:=⟨xb,1,none⟩) hXb).trans yy5;have uu6:=(cell?_of_block (a:=⟨xb,2,none⟩) hXb).trans yy6;have uu7:=(cell?_of_block (a:=⟨w9.heap.size,zn,none⟩) hO8).trans yy7;have ff:w8.frozen? ⟨w9.heap.size,zn,none⟩=false:=by obtain⟨cur,h1,_⟩:=HC5.out.bl;simp[World.frozen?,hO8,h1]
     refine hK.out _ _ (λ_=>⟨uu0,uu1,uu2,uu3,uu4,uu5,uu6,uu7⟩) (λhS8=>?_);clear hK K hS8;try simp only[zA,Act.put]
     refine rdP 14 (λK hK=>?_);go_simp;refine hK.out _ _ (λ_=>⟨uu0,uu1,uu2,uu3,uu4,uu5,uu6,uu7⟩) (λhS9=>?_);clear hK K hS9;try simp only[zA,Act.put]
     refine rdP 15 (λK hK=>?_);go_simp;refine hK.out _ _ (λh=>by cases h) (λ_=>?_);clear hK K;try simp only[zA,Act.put]
     refine dnP ?_;have HB9:=zk (zL (hb8 w9 HB5.out (le_refl _)) (le_trans hsz6 hk8.size) ((Turned.refl w9.heap.size (w9.heap.size+1) w8).set (x:=⟨w9.heap.size,zn,none⟩) HC5.out.ge (by simp) (slice (some ⟨g8,0,none⟩) ((E zn).length+1) cap8)) (le_refl _));have hkp:Kp w6 (w8.setCell ⟨w9.heap.size,zn,none⟩ (slice (some ⟨g8,0,none⟩) ((E zn).length+1) cap8)):=by
      obtain⟨cur,h1,_,h2,_⟩:=HC5.out.bl;exact hk8.set (x:=⟨w9.heap.size,zn,none⟩) (hO8.trans h1) h2 _
     have HC9:=zk (HC5.out.put hzn (cap8:=cap8) (x:=⟨s7,x7,n7,c7,f7,y7,m7,d7,g7⟩) rfl (λb e=>by rw[e];exact BK5.out.lt) hr8 hg8 hl8);have BK9:=zk (BK5.out.of (w':=w8.setCell ⟨w9.heap.size,zn,none⟩ (slice (some ⟨g8,0,none⟩) ((E zn).length+1) cap8)) (by rw[Below.heap_setCell _ _ _ _ (λe=>HC5.out.xg e.symm)];exact hXb));have HN9:=zk (Rn.kp R1.out hkp);have HL9:Hid (∀j,j<cs.length->Lv (2*L+1) (w8.setCell ⟨w9.heap.size,zn,none⟩ (slice (some ⟨g8,0,none⟩) ((E zn).length+1) cap8)) (if j=zn then E zn++[⟨s7,x7,n7,c7,f7,y7,m7,d7,g7⟩] else E j) (zW (rs.take i) (ys.take i) j++zbh yq (v.ts.take (p+1)) j)):=λj hj=>by
      rw[zcY j HTV.out,<-List.append_assoc];by_cases e:j=zn
      ·subst e;rw[if_pos rfl,if_pos rfl];exact((HL5.out j hj).kp hkp).snoc (Rn.kp HQ7.out hkp)
      ·rw[if_neg e,if_neg (λh=>e (by omega)),List.append_nil];exact(HL5.out j hj).kp hkp
     clear hr8 hk8 hb8 hg8 hl8 hBx hXb hO8 ff hkp hrow HC5 HB5 BK5 R1 HQ7 HL5 hsz6 uu0 yy0 uu1 yy1 uu2 yy2 uu3 yy3 uu4 yy4 uu5 yy5 uu6 yy6 uu7 yy7;go_wp2;go_roundw
     case rel=>exact⟨p+1,_,_,by omega,by go_num,HB9.out,HC9.out,BK9.out,HN9.out,HL9.out⟩
     case measure=>simp[intOf];omega
    ·have e1:p=v.ts.length:=by omega
     have i4':¬(((p:Nat):Int)<((v.ts.length:Nat):Int)):=by omega
     have HC7:=zk (HC2.out.unx (λ_=>False) (λb h=>h.elim));have HL7:Hid (∀j,j<cs.length->Lv (2*L+1) wr (E j) (zW (rs.take (i+1)) (ys.take (i+1)) j)):=λj hj=>by
      have h:=HL.out j hj;rw[List.take_of_length_le (show v.ts.length<=p by omega)]at h
      rw[zck j HV.out HYQ.out];exact h
     clear HC2 HL BK HN HTS e1;go_wp2;go_roundw
     case rel=>exact⟨i+1,_,_,by omega,by go_num,HB.out,HC7.out,HL7.out⟩
     case measure=>simp[intOf];omega
  ·have e1:i=rs.length:=by omega
   have i4':¬(((i:Nat):Int)<((rs.length:Nat):Int)):=by omega
   have HL7:Hid (∀j,j<cs.length->Lv (2*L+1) wr (E j) (zW rs ys j)):=λj hj=>by
    have h:=HL.out j hj;rw[List.take_of_length_le (show rs.length<=i by omega),List.take_of_length_le (by have:=HYL.out;omega)]at h;exact h
   have HV0:Hid (∀j,j<cs.length->∀b,(V j).ownBlock=some b->b<wr.heap.size):=λj hj b e=>((HC2.out.row j hj).lt b e).2
   have HNE:=zk HC2.out.ne;have HDJ:=zk HC2.out.dj;have hgl:=HC2.out.lt;have HCT:=zk HC2.out.ct;have k3:=kCb HB.out HK3.out
   clear HL e1 HC2;go_wp2_with fail
   clear k3;generalize hw2:wr=w2 at *;clear hw2;go_loopw[14,76] (λzv t wz=>∃(i:Nat),i<=cs.length/\t=.int .i64 i/\Hid (Bl w9 wz)/\Hid (w2.heap.size<=wz.heap.size)/\Hid (Ct w9.heap.size wz w9.heap.size cs.length i V E)/\Hid (∀j,j<cs.length->Lv (2*L+1) wz (E j) (zW rs ys j))/\Hid (Gr (KV L) w2.heap.size wz zv (zaA rs ys 0 (cs.take i)))) (λ_ t _=>cs.length-(intOf t).toNat)
   case atStart=>exact⟨0,by omega,rfl,HB.out,le_refl _,HCT.out,HL7.out,zhb _ _ _⟩
   case round =>
    clear HB HCT HL7;obtain⟨i,hi,rfl,HB,HW2,HCT,HL,HG⟩:=hrel;have hgl2:(zaA rs ys 0 (cs.take i)).length=i:=by rw[zaX,List.length_take];omega
    by_cases hlt:i<cs.length
    ·obtain⟨v,hv⟩:∃t,cs[i]?=some t:=⟨_,getElem?_eq_getElem (by omega)⟩;have hbw:=bUp HBA.out HB.out;obtain⟨⟨b,o,hca,hc⟩,hV⟩:=HC.out i v hv;subst hca;have hcost:=hV.cost.q_ hbw;obtain⟨⟨z,⟨s0,x0,n0,c0,f0,y0,m0,d0,g0⟩,⟨i1,⟨s1,x1,n1,c1,f1,y1,m1,d1,g1⟩⟩,⟨i2,⟨s2,x2,n2,c2,f2,y2,m2,d2,g2⟩⟩⟩,hCi⟩:∃t,C i=t:=⟨_,rfl⟩;rw[hCi]at hc hcost
     replace hcost:Rn L wr s0 x0 n0 c0 f0 y0 m0 d0 g0 v.cost:=hcost;replace hc:=Cs.q_ hc hbw;obtain⟨q0,q1,q2,q3,q4,q5,q6,q7,q8,q9,q10,q11⟩:=hc.lc;have hbt:=zB wr (cells #[.string z,.bool s0,slice x0 n0 c0,slice y0 m0 d0,.int .i64 i1,.bool s1,slice x1 n1 c1,slice y1 m1 d1,.int .i64 i2,.bool s2,slice x2 n2 c2,slice y2 m2 d2] 60);obtain⟨-,a1,a2,a3⟩:=bk4 (zF wr [.string z,.bool s0,slice x0 n0 c0,slice y0 m0 d0,.int .i64 i1,.bool s1,slice x1 n1 c1,slice y1 m1 d1,.int .i64 i2,.bool s2,slice x2 n2 c2,slice y2 m2 d2] 60);have i1':((i:Nat):Int)<((cs.length:Nat):Int):=by omega
     have HV2:=zk hv;clear hCi hc hV hv hbw;go_upto_region 19 with fail
     clear q0 q1 q2 q3 q4 q5 q6 q7 q8 q9 q10 q11;have HB5:=zJ HB hbt;have HC5:=zk (HCT.out.q_ hbt);have HG5:=zk (HG.out.q_ hbt);have R2:=zk (hcost.q_ hbt);have HW5:=zk (le_trans HW2.out hbt.size)
     have HL5:Hid (∀j,j<cs.length->Lv (2*L+1) (wr.alloc (cells #[.string z,.bool s0,slice x0 n0 c0,slice y0 m0 d0,.int .i64 i1,.bool s1,slice x1 n1 c1,slice y1 m1 d1,.int .i64 i2,.bool s2,slice x2 n2 c2,slice y2 m2 d2] 60)) (E j) (zW rs ys j)):=zk (λj hj=>(HL.out j hj).q_ hbt);clear hbt hcost HB HCT HG HW2 HL;generalize wr.heap.size=bx at *;generalize(wr.alloc (cells #[.string z,.bool s0,slice x0 n0 c0,slice y0 m0 d0,.int .i64 i1,.bool s1,slice x1 n1 c1,slice y1 m1 d1,.int .i64 i2,.bool s2,slice x2 n2 c2,slice y2 m2 d2] 60))=w5 at *;have o0:=HC5.out.cell i (le_refl _) hlt;have i3':=i1';refine zag (S:=(λw'=>w'.cell? ⟨bx,1,none⟩=some (.bool s0)/\w'.cell? ⟨bx,2,none⟩=some (slice x0 n0 c0)/\w'.cell? ⟨bx,3,none⟩=some (slice y0 m0 d0)/\w'.cell? ⟨w9.heap.size,i,none⟩=some (V i))) 8 (by kernel_rfl) ⟨kCd a1,kCd a2,kCd a3,kCd o0⟩ (λhHeld=>?_);have hbd:=Below.drew (Below.refl w5.heap.size w5);replace HB5:=zJ HB5 hbd;replace HC5:=zk (HC5.out.q_ hbd);replace HG5:=zk (HG5.out.q_ hbd);replace R2:=zk (R2.out.q_ hbd);replace HW5:=zk (le_trans HW5.out hbd.size);replace HL5:Hid (∀j,j<cs.length->Lv (2*L+1) w5.drew (E j) (zW rs ys j)):=zk (λj hj=>(HL5.out j hj).q_ hbd)
     clear hbd a1 a2 a3 o0;generalize w5.drew=wd at *;refine skP 0 ?_;refine skP 1 ?_;refine skP 2 ?_;simp only[zA,Act.put];refine skP 3 ?_;refine tkP 4 ?_;refine skP 5 ?_;simp only[zA,Act.put];refine tkP 6 ?_;simp only[zA,Act.put];refine rdP 7 (λK hK=>?_);go_simp;refine hK.out _ _ (λ_=>⟨kCa (hHeld.1),kCa (hHeld.2.1),kCa (hHeld.2.2.1),kCa (hHeld.2.2.2)⟩) (λhS7=>?_);clear hK K hS7;try simp only[zA,Act.put]
     refine rdP 8 (λK hK=>?_);have hrow:=HC5.out.row i (le_refl _) hlt;have hen:(E i).length<=64:=by
      rw[(HL5.out i hlt).1];have h1:=zbF (n:=cs.length) (j:=i) (rs:=rs) (ys:=ys) HTB.out;omega
     have hsz5:w9.heap.size<=wd.heap.size:=HB5.out.size;refine zaj wd rfl (.tmp 85) (.tmp 88) 29 rfl w9.heap.size 24 56 3 (agg #[.bool false,slice none 0 0,slice none 0 0]) underlying29 zaR rfl (by decide) nz3 (V i) (E i).length _ rfl hrow #[.bool s0,slice x0 n0 c0,slice y0 m0 d0] rfl rfl (zdo _ _ _ _ _ _ _) (zcB _ _ _ _ _ _ _) ?p1 ?p2 hsz5 ?_
     case p1=>omega
     case p2=>omega
     intro g8 cap8 w8 hr8 hk8 hb8 hg8 hl8;have HB8:=zk (hb8 w9 HB5.out (le_refl _));have hzo:=HG5.out.own;have HG8:=zk (HG5.out.of (w':=w8) (λb e=>hg8 b (hzo b e).2 (λe2=>by have h1:=HV0.out i hlt b e2;have h2:=(hzo b e).1;omega)) hk8);have HC8:=zk (HC5.out.of (w':=w8) (Nat.le_succ i) (hg8 w9.heap.size (Nat.lt_of_lt_of_le hgl HW5.out) (HNE.out i hlt)) (λj h1 h2 b e=>hg8 b (Nat.lt_of_lt_of_le (HV0.out j h2 b e) HW5.out) (λe2=>HDJ.out i j hlt h2 (by omega) b e2 e)));have HL8:Hid (∀j,j<cs.length->Lv (2*L+1) w8 (E j) (zW rs ys j)):=λj hj=>(HL5.out j hj).kp hk8
     have R8:Rn (2*L+1) w8 s0 x0 n0 c0 f0 y0 m0 d0 g0 v.cost:=(Rn.kp R2.out hk8).mono (by omega);have HP8:=zk (zjY (ao:=some ⟨g8,0,none⟩) (n:=(E i).length+1) (cap:=cap8) (E:=E i++[⟨s0,x0,n0,c0,f0,y0,m0,d0,g0⟩]) (by rw[List.length_append,List.length_singleton,show rcells (E i++[⟨s0,x0,n0,c0,f0,y0,m0,d0,g0⟩])=rcells (E i)++rcell ⟨s0,x0,n0,c0,f0,y0,m0,d0,g0⟩ by simp[rcells]];exact hr8) (Lv.snoc (t:=⟨s0,x0,n0,c0,f0,y0,m0,d0,g0⟩) (q:=v.cost) (HL8.out i hlt) R8) (by simp));have HLE:=zk (HL8.out i hlt).1;have HW8:=zk (le_trans HW5.out hk8.size);clear hr8 hk8 hb8 hg8 hl8 hrow R8 R2 HB5 HC5 HG5 HL5 hsz5 hzo HW5 hHeld;refine hK.out _ _ (λh=>by cases h) (λ_=>?_);clear hK K;try simp only[Act.put,List.setIfInBounds_toArray]
     refine rdP 9 (λK hK=>?_);go_simp
     go_at_call 33
     refine(zmX (L:=2*L+1) HP8.out (by rw[List.length_append,<-HLE.out];rfl) (by omega) (by omega)).mono ?_;rintro e w7 ⟨s7,x7,n7,c7,f7,y7,m7,d7,g7,rfl,hb7,hq7⟩
     (try go_wp2_with fail)
     have HQ7:=zk (show Rn (KV L) w7 s7 x7 n7 c7 f7 y7 m7 d7 g7 (psum (zW rs ys i++[v.cost]) 0)from hq7.mono (by unfold KV;have:((E i).length+1)*(2*L+1+1)<=65*(2*L+1+1):=Nat.mul_le_mul_right _ (by omega);omega));replace HB8:=zJ HB8 hb7;replace HC8:=zk (HC8.out.q_ hb7);replace HG8:=zk (HG8.out.q_ hb7);replace HL8:Hid (∀j,j<cs.length->Lv (2*L+1) w7 (E j) (zW rs ys j)):=zk (λj hj=>(HL8.out j hj).q_ hb7);replace HW8:=zk (le_trans HW8.out hb7.size)
     clear hb7 hq7 HP8 HLE hen;refine hK.out _ _ (λh=>by cases h) (λ_=>?_);clear hK K;try simp only[zA,Act.put]
     refine rdP 10 (λK hK=>?_);go_simp;refine hK.out _ _ (λh=>by cases h) (λ_=>?_);clear hK K;try simp only[zA,Act.put]
     refine rdP 11 (λK hK=>?_);have hzo:=HG8.out.own;obtain⟨T,hrow,hT⟩:=HG8.out;rw[hgl2]at hrow
     have hsz8:w2.heap.size<=w7.heap.size:=HW8.out;refine zaj w7 rfl (.tmp 81) (.tmp 91) 29 rfl w2.heap.size 24 56 3 (agg #[.bool false,slice none 0 0,slice none 0 0]) underlying29 zaR rfl (by decide) nz3 u14 i _ rfl hrow #[.bool s7,slice x7 n7 c7,slice y7 m7 d7] rfl rfl (zdo _ _ _ _ _ _ _) (zcB _ _ _ _ _ _ _) ?p3 ?p4 hsz8 ?_
     case p3=>omega
     case p4=>omega
     intro g10 cap10 w10 hr10 hk10 hb10 hg10 hl10;have HB10:=zk (hb10 w9 HB8.out (Nat.le_of_lt hgl));have HC10:=zk (HC8.out.of (w':=w10) (le_refl _) (hg10 w9.heap.size (Nat.lt_of_lt_of_le hgl HW8.out) (λe=>by have:=(hzo _ e).1;omega)) (λj h1 h2 b e=>hg10 b (Nat.lt_of_lt_of_le (HV0.out j h2 b e) HW8.out) (λe2=>by have h3:=HV0.out j h2 b e;have h4:=(hzo b e2).1;omega)));have HL10:Hid (∀j,j<cs.length->Lv (2*L+1) w10 (E j) (zW rs ys j)):=λj hj=>(HL8.out j hj).kp hk10
     have HG10:Hid (Gr (KV L) w2.heap.size w10 (slice (some ⟨g10,0,none⟩) (i+1) cap10) (zaA rs ys 0 (cs.take (i+1)))):=by
      have hp8:=zeP hT (by rw[hgl2];exact hr10) hk10 HQ7.out;rw[hgl2]at hp8
      rw[zdR rs ys 0 HV2.out,Nat.zero_add];exact hp8
     have HW10:=zk (le_trans HW8.out hk10.size);clear hr10 hk10 hb10 hg10 hl10 hrow hT hzo HB8 HC8 HG8 HL8 HW8 HQ7 hsz8;refine hK.out _ _ (λh=>by cases h) (λ_=>?_);clear hK K;try simp only[Act.put,List.setIfInBounds_toArray]
     refine zaB (i:=12) (v:=?_) rfl (by kernel_rfl) (by kernel_rfl) (by kernel_rfl) (by kernel_rfl) (λ_ _ _ h=>h) (Or.inl ⟨by rfl,?_⟩) (λh=>by cases h) ?_;rotate_left
     (focus (intro w0 hSw;go_simp <;> with_reducible rfl))
     simp only[List.getElem_toArray,List.getElem_cons_succ,List.getElem_cons_zero,Act.put,List.setIfInBounds_toArray,List.set_cons_zero,List.set_cons_succ];refine dnP ?_;go_wp2;go_roundw
     case rel=>exact⟨i+1,by omega,by go_num,HB10.out,HW10.out,HC10.out,HL10.out,HG10.out⟩
     case measure=>simp[intOf];omega
    ·have e1:i=cs.length:=by omega
     have i4':¬(((i:Nat):Int)<((cs.length:Nat):Int)):=by omega
     obtain⟨va,vc,hvs,hvc⟩:=HG.out.slice;rw[hgl2]at hvs hvc
     have HG4:=HG.out;rw[hvs,List.take_of_length_le (show cs.length<=i by omega)]at HG4
     replace HG4:=zk (show Rf (KV L) wr va (zaA rs ys 0 cs)from HG4.rf);subst hvs;have HE:=zk (show cs.length=i by omega);have HV4:=zk hvc;clear HG e1 hvc HL HCT;go_wp2
     go_ret2
     exact⟨bUp HBA.out HB.out,.inr ⟨rfl,va,vc,by rw[HE.out];rfl,by rw[HE.out];exact HV4.out,HG4.out⟩⟩
def zkV (L:Nat) (w w':World) (e:Ending) (q:Rat):Prop:=∃s x n c f y m d g,e=returned (agg #[.bool s,slice x n c,slice y m d])/\Bl w w'/\Rn L w' s x n c f y m d g q/\Own .u64 49 w' w.heap.size (slice x n c) n f/\Own .u64 49 w' w.heap.size (slice y m d) m g/\zby x y
def zpY (L:Nat) (w w':World) (e:Ending) (q:Rat):Prop:=∃s x n c f y m d g,e=returned (.tuple #[agg #[.bool s,slice x n c,slice y m d],.int .i64 0])/\Bl w w'/\Rn L w' s x n c f y m d g q/\Own .u64 49 w' w.heap.size (slice x n c) n f/\Own .u64 49 w' w.heap.size (slice y m d) m g/\zby x y
theorem zmZ {w W:World} {b B n m c d:Nat} {x y:Option Addr} {f g:Nat->Int} (h1:Own .u64 49 w b (slice x n c) n f) (h2:Own .u64 49 W B (slice y m d) m g) (hB:w.heap.size<=B):zby x y:=λp q hp hq=>by
 have e1:=(h1.slice.2.2.2.2 p hp).2;have e2:=(h2.slice.2.2.2.2 q hq).1;omega
theorem zpi {w:World} {b n c:Nat} {x:Option Addr} {f:Nat->Int} (h:Own .u64 49 w b (slice x n c) n f):Und x w.heap.size:=λp hp=>(h.slice.2.2.2.2 p hp).2
theorem zsE {w:World} {s t x y n m c d f g u v} (ha:Wn w s x n c f u) (hb:Wn w t y m d g v) (hn:n<=1048576) (hm:m<=1048576) :
  Calls prog 125 #[agg #[.bool s,slice x n c],agg #[.bool t,slice y m d]] w λe w'=>∃r z k e' h,e=returned (.tuple #[agg #[.bool r,slice z k e'],.int .i64 0])/\Bl w w'/\k<=max n m+1/\Wn w' r z k e' h (u+v)/\Own .u64 49 w' w.heap.size (slice z k e') k h:=by
 refine(zmb s t x y n m c d f g w (by omega) (by omega) ha.rd hb.rd ha.lm hb.lm).mono ?_;rintro e w' ⟨r,z,k,e',h,er,rfl,hres,hans⟩;obtain⟨rfl,hv⟩:=hans.ok ⟨ha.wf,hb.wf⟩;exact⟨r,z,k,e',h,rfl,hres.res.bel,hres.res.le,hres.wn (by rw[hv,ha.val,hb.val]),hres.res.own⟩
theorem znf {w:World} {x n c f y m d g} {A B:Nat} (ha:Wn w false x n c f A) (hb:Wn w false y m d g B) (hn:n<=1048576) (hm:m<=1048576) :
  Calls prog 122 #[slice x n c,slice y m d] w λe w'=>∃z k e' h,e=returned (.tuple #[slice z k e',.int .i64 0])/\Bl w w'/\k<=n+m/\Wn w' false z k e' h (A*B:Nat)/\Own .u64 49 w' w.heap.size (slice z k e') k h:=by
 refine(zon x y n m c d f g w (by omega) (by omega) ha.cap.1 hb.cap.1 ha.cap.2 hb.cap.2 ha.rd hb.rd ha.lm hb.lm).mono ?_;rintro e w' ⟨z,k,e',h,er,rfl,hres,hv⟩;have hr:=hres.ans (by omega);rcases hv with⟨_,_,rfl,hv⟩|⟨h1,_⟩
 ·refine⟨z,k,e',h,rfl,hr.bel,hr.le,⟨hr.rd,hr.lm,(wfB_iff _ _ _).2 ⟨hr.fm,λh=>by cases h⟩,hr.ncap,hr.nil',?_⟩,hr.own⟩;show vf h k=_;rw[hv,ha.nv,hb.nv];simp
 ·exact absurd ⟨ha.fm,hb.fm⟩ h1
theorem zsA {w:World} {x n c f y m d g} {A B:Nat} (ha:Wn w false x n c f A) (hb:Wn w false y m d g B) (h0:0<B) (hn:n<=1048576) (hm:m<=1048576) :
  Calls prog 142 #[slice x n c,slice y m d] w λe w'=>∃z k e' h z2 k2 e2,e=returned (.tuple #[slice z k e',slice z2 k2 e2,.int .i64 0])/\Bl w w'/\k<=n/\Wn w' false z k e' h (A/B:Nat)/\Own .u64 49 w' w.heap.size (slice z k e') k h:=by
 refine(ziF x y n m c d f g w (by omega) (by omega) ha.rd hb.rd ha.lm hb.lm).mono ?_;rintro e w' ⟨z,k,e',h,z2,k2,e2,r,er,rfl,hres,_,hv⟩;have hr:=hres.ans (by omega);have hmp:=hb.pos (by omega);rcases hv with⟨_,_,_,rfl,hv,h1,h2⟩|⟨_,_,h1,_⟩|⟨h1,_⟩
 ·refine⟨z,k,e',h,z2,k2,e2,rfl,hr.bel,hr.le,⟨hr.rd,hr.lm,(wfB_iff _ _ _).2 ⟨hr.fm,λh=>by cases h⟩,hr.ncap,hr.nil',?_⟩,hr.own⟩;show vf h k=_;rw[ha.nv,hb.nv]at hv
  rw[hb.nv]at h2
  have hq:=zz hr.lm;obtain⟨Q,hQ⟩:=Int.eq_ofNat_of_zero_le hq;obtain⟨R,hR⟩:=Int.eq_ofNat_of_zero_le h1;rw[hQ,hR]at hv
  rw[hR]at h2
  rw[hQ];have h3:A=Q*B+R:=by exact_mod_cast hv
  have h4:R<B:=by exact_mod_cast h2
  have:A/B=Q:=by rw[h3,Nat.mul_comm,Nat.mul_add_div h0,Nat.div_eq_of_lt h4];rfl
  rw[this]
 ·omega
 ·exact absurd ⟨ha.fm,hb.fm⟩ h1
theorem zrl {w:World} {x n c f y m d g} {A B:Nat} (ha:Wn w false x n c f A) (hb:Wn w false y m d g B) (h0:0<B) (hn:n<=1048576) (hm:m<=1048576) {base:Nat} (ho:Own .u64 49 w base (slice x n c) n f) (hbs:base<=w.heap.size) :
  Calls prog 123 #[slice x n c,slice y m d] w λe w'=>∃z k e' h,e=returned (slice z k e')/\Bl w w'/\Hid (k<=n/\Wn w' false z k e' h (A/B:Nat)/\Own .u64 49 w' base (slice z k e') k h/\∀q,Und q w.heap.size->zby x q->zby z q):=by
 have C2:=zk (zdJ hb);have C3:=zk (zsA ha hb h0 hn hm);have HA:=zk ha;have HO:=zk ho
 clear ho;by_cases h2:B=1
 ·have e1:decide ((B:Int)=1)=true:=by simp[h2]
  have e2:A/B=A:=by rw[h2];simp
  rw[e2];rw[e1]at C2
  clear ha hb e1 e2 C3 h0 h2;go_enter func123,ntmps123;go_wp2_with fail
  refine C2.out.mono ?_;rintro e w1 ⟨rfl,rfl⟩;go_wp2;go_ret;exact⟨x,n,c,f,rfl,Below.refl _ _,le_refl _,HA.out,HO.out,λ_ _ hq=>hq⟩
 ·have e1:decide ((B:Int)=1)=false:=by simp;omega
  rw[e1]at C2
  clear ha hb e1 h0 h2;go_enter func123,ntmps123;go_wp2_with fail
  refine C2.out.mono ?_;rintro e w1 ⟨rfl,rfl⟩;go_wp2_with fail
  refine C3.out.mono ?_;rintro e w2 ⟨z,k,e',h,z2,k2,e2,rfl,h1,h2,h3,h4⟩;have H2:=zk (And.intro h2 (And.intro h3 (And.intro (h4.base hbs) (λ(q:Option Addr) (hq:Und q w1.heap.size) (_:zby x q)=>show zby z q from λp r hp hr=>by have e1:=(h4.slice.2.2.2.2 p hp).1;have e2:=hq r hr;omega))));clear h2 h3 h4;go_wp2;go_ret;exact⟨z,k,e',h,rfl,h1,H2.out⟩
theorem zmJ {L:Nat} {w:World} {sa:Bool} {xa:Option Addr} {na ca:Nat} {fa:Nat->Int} {ya:Option Addr} {ma da:Nat} {ga:Nat->Int} {a:Rat} {sb:Bool} {xb:Option Addr} {nb cb:Nat} {fb:Nat->Int} {yb:Option Addr} {mb db:Nat} {gb:Nat->Int} {b:Rat} (ha:Rn L w sa xa na ca fa ya ma da ga a) (hb:Rn L w sb xb nb cb fb yb mb db gb b) (hL:L<=200000) :
  Calls prog 98 #[agg #[.bool sa,slice xa na ca,slice ya ma da],agg #[.bool sb,slice xb nb cb,slice yb mb db]] w λe w'=>zkV (2*L+1) w w' e (a+b):=by
 have HA0:=zk ha;have HB0:=zk hb
 have b1:=ha.ln;have b2:=ha.ld;have b3:=hb.ln;have b4:=hb.ld
 clear ha hb;go_enter func98,ntmps98;go_wp2_with fail
 refine(zbH (((HA0.out.den.alloc _).alloc _).alloc _) (((HB0.out.den.alloc _).alloc _).alloc _) (by omega) (by omega)).mono ?_;rintro e w1 ⟨zg,kg,cg,fg,rfl,hbel,hg⟩;obtain⟨⟨hz,x0,x1,x2,y0,y1,y2,z0,z1,z2,zf⟩,hw⟩:=zbD hbel;have T1:Hid (Three w.heap.size w1 _ _ _ _ _ _ _ _ _):=⟨hz,x0,x1,x2,y0,y1,y2,z0,z1,z2,zf⟩;have HW1:=zk hw;have WG1:=zk hg;have HA1:=zk (HA0.out.q_ hw);have HB1:=zk (HB0.out.q_ hw)
 have hG0:0<a.den.gcd b.den:=Nat.gcd_pos_of_pos_left _ a.den_pos;have hkg:kg<=L:=le_trans (hg.len_le HA1.out.den (Nat.gcd_le_left _ a.den_pos)) (by omega);clear hbel hw hg HA0 HB0;have C1:Hid ((∀W,Bl w1 W->Calls prog 123 #[slice ya ma da,slice zg kg cg] W λe w'=>∃z k e' h,e=returned (slice z k e')/\Bl W w'/\Hid (k<=L/\Wn w' false z k e' h (a.den/a.den.gcd b.den:Nat)))):=λW hW=>(zbJ (HA1.out.den.q_ hW) (WG1.out.q_ hW) hG0 (by omega) (by omega)).mono (λe w' ⟨z,k,e',h,h1,h2,h3⟩=>⟨z,k,e',h,h1,h2,by have:=h3.out.1;omega,h3.out.2⟩)
 have C2:Hid ((∀W,Bl w1 W->Calls prog 123 #[slice yb mb db,slice zg kg cg] W λe w'=>∃z k e' h,e=returned (slice z k e')/\Bl W w'/\Hid (k<=L/\Wn w' false z k e' h (b.den/a.den.gcd b.den:Nat)))):=λW hW=>(zbJ (HB1.out.den.q_ hW) (WG1.out.q_ hW) hG0 (by omega) (by omega)).mono (λe w' ⟨z,k,e',h,h1,h2,h3⟩=>⟨z,k,e',h,h1,h2,by have:=h3.out.1;omega,h3.out.2⟩)
 go_wp2_with fail
 go_region_held3 (λw'=>w'.cell? ⟨w.heap.size,2,none⟩=some (slice ya ma da)/\w'.cell? ⟨w.heap.size+1,2,none⟩=some (slice yb mb db))
  (refine⟨?_,?_⟩ <;> repeat(with_reducible first|assumption|refine kCd ?_|refine kCa ?_|refine kCb (by assumption) ?_))
  (first
   | (go_at_call 123;with_reducible refine(C1.out _ zai).mono ?_;rintro e w2 ⟨zp,kp,cp,fp,rfl,hb2,HP⟩)
   | (go_at_call 123;with_reducible refine(C2.out _ zai).mono ?_;rintro e w3 ⟨zq,kq,cq,fq,rfl,hb3,HQ⟩))
 have hb:Bl w1 w3:=zai;have hkp:=HP.out.1;have hkq:=HQ.out.1
 have WP3:=zk (HP.out.2.q_ hb3);have WQ3:=zk HQ.out.2;clear HP HQ C1 C2 hb2 hb3;have HA3:=zk (HA1.out.q_ hb);have HB3:=zk (HB1.out.q_ hb);have T3:=zk (T1.out.q_ hb);have WG3:=zk (WG1.out.q_ hb);have HW3:=zk (HW1.out.trans (hb.mono HW1.out.size))
 clear HA1 HB1 T1 WG1 HW1 hb;clear hz x0 x1 x2 y0 y1 y2 z0 z1 z2 zf;obtain⟨hz,x0,x1,x2,y0,y1,y2,z0,z1,z2,zf⟩:=T3.out;have hza:w.heap.size<w3.heap.size:=by omega
 have hzb:w.heap.size+1<w3.heap.size:=by omega
 go_wp2_with fail
 refine(zci sa xa ya na ca ma da _).mono ?_;rintro e w4 ⟨rfl,hb⟩;have HA4:=zk (HA3.out.q_ hb);have HB4:=zk (HB3.out.q_ hb);have T4:=zk (T3.out.q_ hb);have WG4:=zk (WG3.out.q_ hb);have WP4:=zk (WP3.out.q_ hb);have WQ4:=zk (WQ3.out.q_ hb);have HW4:=zk (HW3.out.trans (hb.mono HW3.out.size))
 clear HA3 HB3 T3 WG3 WP3 WQ3 HW3 hb;clear hza hzb hz x0 x1 x2 y0 y1 y2 z0 z1 z2 zf;obtain⟨hz,x0,x1,x2,y0,y1,y2,z0,z1,z2,zf⟩:=T4.out;have hza:w.heap.size<w4.heap.size:=by omega
 have hzb:w.heap.size+1<w4.heap.size:=by omega
 go_wp2_with fail
 refine(zko HA4.out.num WQ4.out (by omega) (by omega)).mono ?_;rintro e w5 ⟨s5,p5,k5,c5,f5,rfl,hb,hk5,hp⟩;have WX5:=zk hp;clear hp WQ4;have HA5:=zk (HA4.out.q_ hb);have HB5:=zk (HB4.out.q_ hb);have T5:=zk (T4.out.q_ hb);have WG5:=zk (WG4.out.q_ hb);have WP5:=zk (WP4.out.q_ hb);have HW5:=zk (HW4.out.trans (hb.mono HW4.out.size))
 clear HA4 HB4 T4 WG4 WP4 HW4 hb;clear hza hzb hz x0 x1 x2 y0 y1 y2 z0 z1 z2 zf;obtain⟨hz,x0,x1,x2,y0,y1,y2,z0,z1,z2,zf⟩:=T5.out;have hza:w.heap.size<w5.heap.size:=by omega
 have hzb:w.heap.size+1<w5.heap.size:=by omega
 go_wp2_with fail
 refine(zci sb xb yb nb cb mb db _).mono ?_;rintro e w6 ⟨rfl,hb⟩;have BX6:=zk (zhq hb);have HB6:=zk (HB5.out.next hb);have T6:=zk (T5.out.next hb);have WG6:=zk (WG5.out.next hb);have WP6:=zk (WP5.out.next hb);have WX6:=zk (WX5.out.next hb);have HW6:=zk ((zu HW5.out _).trans (hb.mono (zu HW5.out _).size))
 clear HB5 T5 WG5 WP5 WX5 HW5 hb;clear hza hzb hz x0 x1 x2 y0 y1 y2 z0 z1 z2 zf;obtain⟨hz,x0,x1,x2,y0,y1,y2,z0,z1,z2,zf⟩:=T6.out;have hza:w.heap.size<w6.heap.size:=by omega
 have hzb:w.heap.size+1<w6.heap.size:=by omega
 go_wp2_with fail
 refine(zko HB6.out.num WP6.out (by omega) (by omega)).mono ?_;rintro e w7 ⟨s7,p7,k7,c7,f7,rfl,hb,hk7,hp⟩;have WY7:=zk hp;clear hp;have HB7:=zk (HB6.out.q_ hb);have T7:=zk (T6.out.q_ hb);have WG7:=zk (WG6.out.q_ hb);have WP7:=zk (WP6.out.q_ hb);have WX7:=zk (WX6.out.q_ hb);have BX7:=zk (BX6.out.q_ hb);have HW7:=zk (HW6.out.trans (hb.mono HW6.out.size))
 clear HB6 T6 WG6 WP6 WX6 BX6 HW6 hb;clear hza hzb hz x0 x1 x2 y0 y1 y2 z0 z1 z2 zf;obtain⟨hz,x0,x1,x2,y0,y1,y2,z0,z1,z2,zf⟩:=T7.out;have hza:w.heap.size<w7.heap.size:=by omega
 have hzb:w.heap.size+1<w7.heap.size:=by omega
 obtain⟨hzx,bx0,bx1⟩:=BX7.out;go_wp2_with fail
 refine(zsE (WX7.out.alloc _) (WY7.out.alloc _) (by omega) (by omega)).mono ?_;rintro e w8 ⟨s8,p8,k8,c8,f8,rfl,hb,hk8,hp,ho8⟩;have WS8:=zk hp;have OS8:=zk (ho8.base (show(w.heap.size+1+1+1)<=_ by rw[zw];omega))
 clear ho8;clear hp hzx bx0 bx1 WX7 WY7 BX7;have HB8:=zk (HB7.out.next hb);have T8:=zk (T7.out.next hb);have WG8:=zk (WG7.out.next hb);have WP8:=zk (WP7.out.next hb);have HW8:=zk ((zu HW7.out _).trans (hb.mono (zu HW7.out _).size))
 clear HB7 T7 WG7 WP7 HW7 hb;clear hza hzb hz x0 x1 x2 y0 y1 y2 z0 z1 z2 zf;obtain⟨hz,x0,x1,x2,y0,y1,y2,z0,z1,z2,zf⟩:=T8.out;have hza:w.heap.size<w8.heap.size:=by omega
 have hzb:w.heap.size+1<w8.heap.size:=by omega
 have hz8:=hz;obtain⟨S,hS⟩:∃S,S=a.num*(b.den/a.den.gcd b.den:Nat)+b.num*(a.den/a.den.gcd b.den:Nat):=⟨_,rfl⟩;rw[<-hS]at WS8
 have HS:=zk hS;clear hS;go_wp2_with fail
 refine(zbH (WS8.out.mag.alloc _) (WG8.out.alloc _) (by omega) (by omega)).mono ?_;rintro e w9 ⟨zl,kl,cl,fl,rfl,hb,hl⟩;have WL9:=zk hl;have BS9:=zk (zhq hb)
 have hl0:0<S.natAbs.gcd (a.den.gcd b.den):=Nat.gcd_pos_of_pos_right _ hG0;have hkl:kl<=L:=le_trans (hl.len_le WG8.out (Nat.gcd_le_right _ hG0)) (by omega);clear hl WG8;have HB9:=zk (HB8.out.next hb);have T9:=zk (T8.out.next hb);have WP9:=zk (WP8.out.next hb);have WS9:=zk (WS8.out.next hb);have OS9:=zk ((OS8.out.alloc _).q_ hb);have HW9:=zk ((zu HW8.out _).trans (hb.mono (zu HW8.out _).size))
 clear HB8 T8 WP8 WS8 HW8 hb;clear hza hzb hz x0 x1 x2 y0 y1 y2 z0 z1 z2 zf;obtain⟨hz,x0,x1,x2,y0,y1,y2,z0,z1,z2,zf⟩:=T9.out;have hza:w.heap.size<w9.heap.size:=by omega
 have hzb:w.heap.size+1<w9.heap.size:=by omega
 go_wp2_with fail
 refine(zbJ HB9.out.den WL9.out hl0 (by omega) (by omega)).mono ?_;rintro e w10 ⟨zo,ko,co,fo,rfl,hb,HO⟩;have hko:=HO.out.1;have WO10:=zk HO.out.2
 clear HO HB9;have T10:=zk (T9.out.q_ hb);have WP10:=zk (WP9.out.q_ hb);have WS10:=zk (WS9.out.q_ hb);have OS10:=zk (OS9.out.q_ hb);have WL10:=zk (WL9.out.q_ hb);have BS10:=zk (BS9.out.q_ hb);have HW10:=zk (HW9.out.trans (hb.mono HW9.out.size))
 clear T9 WP9 WS9 WL9 BS9 HW9 hb;clear hza hzb hz x0 x1 x2 y0 y1 y2 z0 z1 z2 zf;obtain⟨hz,x0,x1,x2,y0,y1,y2,z0,z1,z2,zf⟩:=T10.out;have hza:w.heap.size<w10.heap.size:=by omega
 have hzb:w.heap.size+1<w10.heap.size:=by omega
 go_wp2_with fail
 refine(znf WP10.out WO10.out (by omega) (by omega)).mono ?_;rintro e w11 ⟨zd,kd,cd,fd,rfl,hb,hkd,hp,hod⟩;have WD11:=zk hp;have AP11:=zk (zmZ OS10.out hod (le_refl _));have OD11:=zk (hod.base (show(w.heap.size+1+1+1)<=_ by omega))
 clear hod;clear hp WP10 WO10;have T11:=zk (T10.out.q_ hb);have WS11:=zk (WS10.out.q_ hb);have OS11:=zk (OS10.out.q_ hb);have WL11:=zk (WL10.out.q_ hb);have BS11:=zk (BS10.out.q_ hb);have HW11:=zk (HW10.out.trans (hb.mono HW10.out.size))
 clear T10 WS10 WL10 BS10 HW10 hb;clear hza hzb hz x0 x1 x2 y0 y1 y2 z0 z1 z2 zf;obtain⟨hz,x0,x1,x2,y0,y1,y2,z0,z1,z2,zf⟩:=T11.out;have hza:w.heap.size<w11.heap.size:=by omega
 have hzb:w.heap.size+1<w11.heap.size:=by omega
 obtain⟨hzs,bs0,bs1⟩:=BS11.out;have C3:Hid (∀W,Bl w11 W->Calls prog 123 #[slice p8 k8 c8,slice zl kl cl] W λe w'=>∃z k e' h,e=returned (slice z k e')/\Bl W w'/\Hid (k<=k8/\Wn w' false z k e' h (S.natAbs/S.natAbs.gcd (a.den.gcd b.den):Nat)/\Own .u64 49 w' (w.heap.size+1+1+1) (slice z k e') k h/\zby z zd)):=λW hW=>(zrl (WS11.out.mag.q_ hW) (WL11.out.q_ hW) hl0 (by omega) (by omega) (OS11.out.q_ hW) (le_trans (show(w.heap.size+1+1+1)<=w11.heap.size by omega) hW.size)).mono (λ_ _ ⟨z,k,e',h,k1,k2,k3⟩=>⟨z,k,e',h,k1,k2,k3.out.1,k3.out.2.1,k3.out.2.2.1,k3.out.2.2.2 zd (λp hp=>Nat.lt_of_lt_of_le (zpi OD11.out p hp) hW.size) AP11.out⟩)
 have C4:Hid (∀(W:World) (z:Option Addr) (k c:Nat),k<=1048576->Calls prog 62 #[.bool s8,slice z k c,slice zd kd cd] W λe w'=>∃r,e=returned (agg #[.bool r,slice z k c,slice zd kd cd])/\Bl W w'/\Hid (r=(s8 && decide (0<k)))):=λW z k c hk=>(zbE s8 z zd k c kd cd W (by omega)).mono (λe w' ⟨r,h1,h2,h3⟩=>⟨r,h1,h3,h2⟩)
 go_wp2_with fail
 go_region_held3 (λw'=>w'.cell? ⟨w8.heap.size,0,none⟩=some (.bool s8)/\w'.cell? ⟨w8.heap.size,1,none⟩=some (slice p8 k8 c8)/\(w'.cell? ⟨w.heap.size+1+1,0,none⟩).isSome=true/\(w'.cell? ⟨w.heap.size+1+1,1,none⟩).isSome=true/\(w'.cell? ⟨w.heap.size+1+1,2,none⟩).isSome=true/\w'.frozen? ⟨w.heap.size+1+1,0,none⟩=false/\w'.frozen? ⟨w.heap.size+1+1,1,none⟩=false/\w'.frozen? ⟨w.heap.size+1+1,2,none⟩=false)
  (refine⟨?_,?_,?_,?_,?_,?_,?_,?_⟩ <;> repeat(with_reducible first|assumption|exact zf _|exact uf _|exact vf' _|exact kI0 z0|exact kI0 z1|exact kI0 z2|exact kI0 u0|exact kI0 u1|exact kI0 u2|exact kI0 v0|exact kI0 v1|exact kI0 v2|refine kCd ?_|refine kId ?_|refine kFd ?_|refine kCs (by simp only[ne_eq];omega) ?_|refine kIs ?_|refine kFs ?_|refine kCb (by assumption) ?_|refine kIb (by assumption) ?_))
  (first
   | (go_at_call 123;with_reducible refine(C3.out _ zai).mono ?_;rintro e w12 ⟨zn,kn,cn,fn,rfl,hb2,HN⟩;have hkn:kn<=1048576:=(by have:=HN.out.1;omega);have TU:Three w.heap.size w12 (.bool sa) (slice xa na ca) (slice ya ma da) (.bool sb) (slice xb nb cb) (slice yb mb db) (.bool false) (slice none 0 0) (slice none 0 0):=(by repeat(with_reducible first|exact T11.out|exact TU|refine kTd ?_|refine kTb (by assumption) ?_));obtain⟨_,_,_,_,_,_,_,u0,u1,u2,uf⟩:=id TU)
   | (go_at_call 62;with_reducible refine(C4.out _ zn kn cn hkn).mono ?_;rintro e w13 ⟨rs,rfl,hb3,HRS⟩;have TV:Three w.heap.size w13 (.bool sa) (slice xa na ca) (slice ya ma da) (.bool sb) (slice xb nb cb) (slice yb mb db) (.bool false) (slice none 0 0) (slice none 0 0):=(by repeat(with_reducible first|exact T11.out|exact TU|refine kTd ?_|refine kTb (by assumption) ?_));obtain⟨_,_,_,_,_,_,_,v0,v1,v2,vf'⟩:=id TV))
 have WN:Wn w13 false zn kn cn fn _:=HN.out.2.1.q_ hb3;have ON:=HN.out.2.2.1.q_ hb3;have hw13:Bl w11 w13:=zai;have hm:=ziy HS.out WS11.out.sgn;have hkn':=HN.out.1;go_wp2;refine bodyPost_ret (v:=agg #[.bool rs,slice zn kn cn,slice zd kd cd]) (by simp[results,results98,go_sem,v0,v1,v2]) rfl ⟨rs,zn,kn,cn,fn,zd,kd,cd,fd,rfl,zbf (HW11.out.trans (hw13.mono HW11.out.size)),⟨?_,?_,?_,?_⟩,(zcR ON (by omega)).base (by omega),(zcR (OD11.out.q_ hw13) (by omega)).base (by omega),HN.out.2.2.2⟩
 ·rw[<-hm.1];exact TV.store (WN.resign HRS.out)
 ·rw[<-hm.2];exact TV.store (WD11.out.q_ hw13)
 ·omega
 ·omega
theorem zrd {L:Nat} {w:World} {sa:Bool} {xa:Option Addr} {na ca:Nat} {fa:Nat->Int} {ya:Option Addr} {ma da:Nat} {ga:Nat->Int} {a:Rat} {sb:Bool} {xb:Option Addr} {nb cb:Nat} {fb:Nat->Int} {yb:Option Addr} {mb db:Nat} {gb:Nat->Int} {b:Rat} (ha:Rn L w sa xa na ca fa ya ma da ga a) (hb:Rn L w sb xb nb cb fb yb mb db gb b) (hL:L<=200000) :
  Calls prog 65 #[agg #[.bool sa,slice xa na ca,slice ya ma da],agg #[.bool sb,slice xb nb cb,slice yb mb db]] w λe w'=>zpY (2*L+1) w w' e (a+b):=by
 have HA0:=zk ha;have HB0:=zk hb
 clear ha hb;go_enter func65,ntmps65;go_wp2_with fail
 refine(zbA (((HA0.out.alloc _).alloc _).alloc _) (by omega)).mono ?_;rintro e w1 ⟨rfl,hbel⟩;obtain⟨⟨hz,x0,x1,x2,y0,y1,y2,z0,z1,z2,zf⟩,hw⟩:=zbD hbel;have T1:Hid (Three w.heap.size w1 _ _ _ _ _ _ _ _ _):=⟨hz,x0,x1,x2,y0,y1,y2,z0,z1,z2,zf⟩;have HW1:=zk hw;have HA1:=zk (HA0.out.q_ hw);have HB1:=zk (HB0.out.q_ hw)
 clear hbel hw HA0 HB0;go_wp2_with fail
 refine(zbA HB1.out (by omega)).mono ?_;rintro e w2 ⟨rfl,hb⟩;have HA2:=zk (HA1.out.q_ hb);have HB2:=zk (HB1.out.q_ hb);have T2:=zk (T1.out.q_ hb);have HW2:=zk (HW1.out.trans (hb.mono HW1.out.size))
 clear HA1 HB1 T1 HW1 hb;clear hz x0 x1 x2 y0 y1 y2 z0 z1 z2 zf;obtain⟨hz,x0,x1,x2,y0,y1,y2,z0,z1,z2,zf⟩:=T2.out;have hza:w.heap.size<w2.heap.size:=by omega
 have hzb:w.heap.size+1<w2.heap.size:=by omega
 go_wp2_with fail
 refine(zmJ HA2.out HB2.out hL).mono ?_;rintro e w3 ⟨rs,zn,kn,cn,fn,zd,kd,cd,fd,rfl,hb,hr,hon,hod,hap⟩;have HR:=zk hr;have AP:=zk hap;have ON:=zk (hon.base (show(w.heap.size+1+1+1)<=_ by omega));have OD:=zk (hod.base (show(w.heap.size+1+1+1)<=_ by omega))
 clear hon hod hap;clear hr;have T3:=zk (T2.out.q_ hb);have HW3:=zk (HW2.out.trans (hb.mono HW2.out.size))
 clear T2 HW2 hb;clear hza hzb hz x0 x1 x2 y0 y1 y2 z0 z1 z2 zf;obtain⟨hz,x0,x1,x2,y0,y1,y2,z0,z1,z2,zf⟩:=T3.out;have hza:w.heap.size<w3.heap.size:=by omega
 have hzb:w.heap.size+1<w3.heap.size:=by omega
 go_wp2;refine bodyPost_ret (v:=.tuple #[agg #[.bool rs,slice zn kn cn,slice zd kd cd],.int .i64 0]) (by simp[results,results65,go_sem,z0,z1,z2]) rfl ⟨rs,zn,kn,cn,fn,zd,kd,cd,fd,rfl,zbf HW3.out,⟨?_,?_,HR.out.ln,HR.out.ld⟩,(zcR ON.out (by omega)).base (by omega),(zcR OD.out (by omega)).base (by omega),AP.out⟩
 ·exact T3.out.store HR.out.num
 ·exact T3.out.store HR.out.den
theorem zmL (w:World) :
  Calls prog 97 #[] w λe w'=>∃x f,e=returned (slice x 1 1)/\Bl w w'/\Wn w' false x 1 1 f 1/\Own .u64 49 w' w.heap.size (slice x 1 1) 1 f:=by
 go_enter func97,ntmps97;go_wp2;go_ret;refine⟨_,λ_=>1,rfl,?_,?_,zgQ w w.heap.size w.heap.size 1 (le_refl _) rfl⟩
 ·exact zu (Below.refl _ _) _
 ·refine⟨Rd.mk (λj hj=>?_),λj _=>by simp,?_,by omega,(λh=>by cases h),?_⟩
  ·have:j=0:=by omega
   subst this;simp[go_sem]
  ·decide
  ·simp[wv,vf,pw]
theorem zsg {w:World} {z:Int} (h0:-9223372036854775808<=z) (h1:z<=9223372036854775807) :
  Calls prog 64 #[.int .i64 z] w λe w'=>zkV 4 w w' e (z:Rat):=by
 have h2:=zaz w 24;have h3:=zu (Below.refl w.heap.size w) (cells #[.bool false,slice none 0 0,slice none 0 0] 24);go_enter func64,ntmps64;go_wp2_with fail
 generalize w.alloc (cells #[.bool false,slice none 0 0,slice none 0 0] 24)=w1 at *;have OB1:=zk h2;have HW1:=zk h3
 clear h2 h3;refine(zpZ z w1 h0 h1).mono ?_;rintro e w2 ⟨s2,x2,n2,c2,f2,rfl,hr2,hv2⟩;have hb:=hr2.res.bel;have hn2:=hr2.res.le;have hz1:=OB1.out.z;have hos:=(hr2.res.own.base (show w.heap.size+1<=_ by omega)).alloc (cells #[.bool s2,slice x2 n2 c2] 150);clear hz1;have hw2:=(hr2.wn hv2).alloc (cells #[.bool s2,slice x2 n2 c2] 150);have hbx:Bx (w2.alloc (cells #[.bool s2,slice x2 n2 c2] 150)) w2.heap.size s2 x2 n2 c2:=⟨by simp,kN0,kN1⟩;have hob:=(OB1.out.q_ hb).alloc (cells #[.bool s2,slice x2 n2 c2] 150);have hbw:=zu (HW1.out.trans (hb.mono HW1.out.size)) (cells #[.bool s2,slice x2 n2 c2] 150);have hB8:w.heap.size<w2.heap.size:=(OB1.out.q_ hb).z;clear hr2 hv2 hb OB1 HW1;go_wp2_with fail
 generalize w2.alloc (cells #[.bool s2,slice x2 n2 c2] 150)=w3 at *;generalize w2.heap.size=b3 at *;have W3:=zk hw2;have OS:=zk hos;have OB:=zk hob;have HW:=zk hbw
 obtain⟨za,a0,a1⟩:=hbx;obtain⟨hz,z0,z1,z2,zf⟩:=hob;clear hw2 hbw hos;have C1:Hid (∀W:World,Bl w3 W->Calls prog 97 #[] W λe w'=>∃x f,e=returned (slice x 1 1)/\Bl W w'/\Hid (Wn w' false x 1 1 f 1/\Own .u64 49 w' (w.heap.size+1) (slice x 1 1) 1 f/\zby x2 x)):=λW hW=>(zmL W).mono (λ_ _ ⟨x,f,k1,k2,k3,k4⟩=>⟨x,f,k1,k2,k3,k4.base (le_trans (show w.heap.size+1<=w3.heap.size by omega) hW.size),zmZ OS.out k4 hW.size⟩)
 have C2:Hid (∀(W:World) (y:Option Addr),Calls prog 62 #[.bool s2,slice x2 n2 c2,slice y 1 1] W λe w'=>∃r,e=returned (agg #[.bool r,slice x2 n2 c2,slice y 1 1])/\Bl W w'/\Hid (r=(s2 && decide (0<n2)))):=λW y=>(zbE s2 x2 y n2 c2 1 1 W (by omega)).mono (λ_ _ ⟨r,k1,k2,k3⟩=>⟨r,k1,k3,k2⟩)
 go_region_held3 (λw'=>w'.cell? ⟨b3,0,none⟩=some (.bool s2)/\w'.cell? ⟨b3,1,none⟩=some (slice x2 n2 c2)/\(w'.cell? ⟨w.heap.size,0,none⟩).isSome=true/\(w'.cell? ⟨w.heap.size,1,none⟩).isSome=true/\(w'.cell? ⟨w.heap.size,2,none⟩).isSome=true/\w'.frozen? ⟨w.heap.size,0,none⟩=false/\w'.frozen? ⟨w.heap.size,1,none⟩=false/\w'.frozen? ⟨w.heap.size,2,none⟩=false)
  (refine⟨?_,?_,?_,?_,?_,?_,?_,?_⟩ <;> repeat(with_reducible first|assumption|exact zf _|exact tf _|exact uf _|exact kI0 z0|exact kI0 z1|exact kI0 z2|exact kI0 t0|exact kI0 t1|exact kI0 t2|exact kI0 u0|exact kI0 u1|exact kI0 u2|refine kCd ?_|refine kId ?_|refine kFd ?_|refine kCs (by simp only[ne_eq];omega) ?_|refine kIs ?_|refine kFs ?_|refine kCb (by assumption) ?_|refine kIb (by assumption) ?_))
  (first
   | (go_at_call 97;with_reducible refine(C1.out _ zai).mono ?_;rintro e v5 ⟨y5,f5,rfl,hb5,H5⟩;have Tt:Ob v5 (w.heap.size):=(by repeat(with_reducible first|exact OB.out|exact Tt|exact Tu|refine Ob.drew ?_|refine kOb (by assumption) ?_));obtain⟨_,t0,t1,t2,tf⟩:=id Tt)
   | (go_at_call 62;with_reducible refine(C2.out _ y5).mono ?_;rintro e v6 ⟨r6,rfl,hb6,H6⟩;have Tu:Ob v6 (w.heap.size):=(by repeat(with_reducible first|exact OB.out|exact Tt|exact Tu|refine Ob.drew ?_|refine kOb (by assumption) ?_));obtain⟨_,u0,u1,u2,uf⟩:=id Tu))
 all_goals
  have W5:Wn v6 false y5 1 1 f5 1:=(by repeat(with_reducible first|exact H5.out.1|refine kWd ?_|refine kWb (by assumption) ?_));have hb:Bl w3 v6:=zaq;have O5:Own .u64 49 v6 (w.heap.size+1) (slice y5 1 1) 1 f5:=H5.out.2.1.q_ hb6;have hr:r6=s2:=by
   rw[H6.out];have:=((wfB_iff _ _ _).1 W3.out.wf).2;cases s2
   ·rfl
   ·simp;exact this rfl
  subst hr;go_wp2;refine bodyPost_ret (v:=agg #[.bool r6,slice x2 n2 c2,slice y5 1 1]) (by simp[results,results64,go_sem,u0,u1,u2]) rfl ⟨r6,x2,n2,c2,f2,y5,1,1,f5,rfl,zU (HW.out.trans (hb.mono HW.out.size)) (le_refl _),Tu.rn ⟨?_,?_,by omega,by omega⟩,(zcR (OS.out.q_ hb) (by omega)).base (by omega),(zcR O5 (by omega)).base (by omega),H5.out.2.2⟩
  ·rw[Rat.num_intCast];exact W3.out.q_ hb
  ·rw[Rat.den_intCast];exact W5
theorem zkk {w base s x n c f y m d g} (h1:Own .u64 49 w base (slice x n c) n f) (h2:Own .u64 49 w base (slice y m d) m g):Dw2 w base ⟨s,x,n,c,f,y,m,d,g⟩:=⟨ziZ h2,ziZ h1⟩
theorem Dw.base {w b b' y m} (h:Dw w b y m) (hb:b'<=b):Dw w b' y m:=λhm=>by
 obtain⟨k,h1,h2,h3⟩:=h hm;exact⟨k,h1,le_trans hb h2,h3⟩
theorem Dw2.base {w b b' t} (h:Dw2 w b t) (hb:b'<=b):Dw2 w b' t:=⟨h.1.base hb,h.2.base hb⟩
theorem Dw.of {w w' base y m} (h:Dw w base y m) (hb:∀b,base<=b->b<w.heap.size->∀q,w.cell? ⟨b,0,none⟩=some (.int .u64 q)->w'.heap[b]?=w.heap[b]?):Dw w' base y m:=λhm=>by
 obtain⟨k,h1,h2,⟨q,h3⟩,h4⟩:=h hm;have e:=hb k h2 (block_lt_of_cell? w _ h3) q h3;exact⟨k,h1,h2,⟨q,(cell?_of_block (a:=⟨k,0,none⟩) e).trans h3⟩,by simp only[World.frozen?,e]at h4 ⊢;exact h4⟩
theorem zsq {w w' b q} (hk:Kp w w') (h:w.cell? ⟨b,0,none⟩=some (.int .u64 q)):w'.heap[b]?=w.heap[b]?:=by
 rcases hk.block b (block_lt_of_cell? w _ h)with h1|⟨cur,t,fr,h1,h2⟩
 ·exact h1
 ·exfalso;simp[World.cell?,h1]at h
  exact h2 _ _ h
theorem Dw2.kpu {w w' base t} (h:Dw2 w base t) (hk:Kp w w'):Dw2 w' base t:=⟨h.1.of λ_ _ _ _ e=>zsq hk e,h.2.of λ_ _ _ _ e=>zsq hk e⟩
theorem Dw2.st3 {w base t B s x n c y m d v0 v1 v2} (h:Dw2 w base t) (S:Sx w B s x n c y m d):Dw2 (((w.setCell ⟨B,0,none⟩ v0).setCell ⟨B,1,none⟩ v1).setCell ⟨B,2,none⟩ v2) base t:=by
 have a1:(w.setCell ⟨B,0,none⟩ v0).cell? ⟨B,1,none⟩=some (slice x n c):=(World.cell?_setCell_other _ _ _ _ (by simp)).trans S.x1;have a2:((w.setCell ⟨B,0,none⟩ v0).setCell ⟨B,1,none⟩ v1).cell? ⟨B,2,none⟩=some (slice y m d):=(World.cell?_setCell_other _ _ _ _ (by simp)).trans ((World.cell?_setCell_other _ _ _ _ (by simp)).trans S.x2);exact((h.set S.x0 (by simp)).set a1 (by simp)).set a2 (by simp)
theorem Rn.keep {L w w' base t q} (h:Rn L w t.s t.x t.n t.c t.f t.y t.m t.d t.g q) (hd:Dw2 w base t) (hb:∀b,base<=b->b<w.heap.size->w'.heap[b]?=w.heap[b]?):Rn L w' t.s t.x t.n t.c t.f t.y t.m t.d t.g q:=by
 have hrd:∀{x:Option Addr} {n:Nat} {f:Nat->Int},Rd .u64 w x n f->Dw w base x n->Rd .u64 w' x n f:=λ{x n f} hr hw i hi=>by
  obtain⟨b,o,e,hc⟩:=hr i hi;obtain⟨b',e',hge,_⟩:=hw (by omega);rw[e]at e'
  cases e'
  exact⟨b,0,e,(cell?_of_block (a:=⟨b,0+i,none⟩) (hb b hge (block_lt_of_cell? w _ hc))).trans hc⟩
 obtain⟨hn,hm,h1,h2⟩:=h;exact⟨⟨hrd hn.rd hd.2,hn.lm,hn.wf,hn.cap,hn.nil,hn.val⟩,⟨hrd hm.rd hd.1,hm.lm,hm.wf,hm.cap,hm.nil,hm.val⟩,h1,h2⟩
def GrO (K base:Nat) (w:World) (v:Value) (p:List Rat):Prop:=∃T:Nat->Nm,RowG 24 3 base w v p.length (rcells (rls p.length T))/\∀(j:Nat) (q:Rat),p[j]?=some q->Rn K w (T j).s (T j).x (T j).n (T j).c (T j).f (T j).y (T j).m (T j).d (T j).g q/\Dw2 w base (T j)
theorem zeQ (K base:Nat) (w:World):GrO K base w (slice none 0 0) []:=⟨λ_=>⟨false,none,0,0,λ_=>0,none,0,0,λ_=>0⟩,zak _ _ _ _,λj q h=>by simp at h⟩
theorem GrO.gr {K base w v p} (h:GrO K base w v p):Gr K base w v p:=by
 obtain⟨T,h1,h2⟩:=h;exact⟨T,h1,λj q e=>(h2 j q e).1⟩
theorem GrO.q_ {K base w w' v p} (h:GrO K base w v p) (hb:Bl w w'):GrO K base w' v p:=by
 obtain⟨T,h1,h2⟩:=h;exact⟨T,h1.q_ hb,λj q e=>⟨(h2 j q e).1.q_ hb,(h2 j q e).2.q_ hb⟩⟩
theorem GrO.base {K b b' w v p} (h:GrO K b w v p) (hb:b'<=b):GrO K b' w v p:=by
 obtain⟨T,⟨h0,h1⟩,h2⟩:=h;refine⟨T,⟨h0,?_⟩,λj q e=>⟨(h2 j q e).1,(h2 j q e).2.base hb⟩⟩;rcases h1 with h1|⟨g,cap,cur,e1,e2,e3⟩
 ·exact .inl h1
 ·exact .inr ⟨g,cap,cur,e1,le_trans hb e2,e3⟩
theorem zia {K base w0 w' p T g cap s x n c f y m d gg q} (hT:∀(j:Nat) (q:Rat),p[j]?=some q->Rn K w0 (T j).s (T j).x (T j).n (T j).c (T j).f (T j).y (T j).m (T j).d (T j).g q/\Dw2 w0 base (T j)) (hr:RowG 24 3 base w' (slice (some ⟨g,0,none⟩) (p.length+1) cap) (p.length+1) (rcells (rls p.length T)++#[Value.bool s,slice x n c,slice y m d].toList)) (hk:Kp w0 w') (hq:Rn K w0 s x n c f y m d gg q) (hd:Dw2 w0 base ⟨s,x,n,c,f,y,m,d,gg⟩):GrO K base w' (slice (some ⟨g,0,none⟩) (p.length+1) cap) (p++[q]):=by
 refine⟨zaD T p.length ⟨s,x,n,c,f,y,m,d,gg⟩,?_,λj q' e=>?_⟩
 ·rw[List.length_append,List.length_singleton,zcM];exact hr
 ·by_cases hj:j<p.length
  ·rw[List.getElem?_append_left hj]at e
   rw[putN_ne (by omega)];exact⟨Rn.kp (hT j q' e).1 hk,(hT j q' e).2.kpu hk⟩
  ·rw[List.getElem?_append_right (by omega)]at e
   have h0:j-p.length=0:=by
    rcases Nat.eq_zero_or_pos (j-p.length)with h|h
    ·exact h
    ·rw[List.getElem?_eq_none (by simp;omega)]at e;cases e
   have hjj:j=p.length:=by omega
   subst hjj;rw[h0]at e
   cases e
   rw[zbs];exact⟨Rn.kp hq hk,hd.kpu hk⟩
theorem GrO.slice {K base w v p} (h:GrO K base w v p):∃ao cap,v=.slice ao p.length cap/\p.length<=cap/\cap<=9223372036854775807:=h.gr.slice
theorem GrO.keep {K base w w' v p} (h:GrO K base w v p) (hb:∀b,base<=b->b<w.heap.size->w'.heap[b]?=w.heap[b]?):Gr K base w' v p:=by
 obtain⟨T,h1,h2⟩:=h;exact⟨T,h1.of (λg hg=>hb g (h1.lt g hg).1 (h1.lt g hg).2),λj q e=>(h2 j q e).1.keep (h2 j q e).2 hb⟩
def zhu (L:Nat) (w w':World) (e:Ending) (q:Rat):Prop:=∃s x n c f y m d g,e=returned (agg #[.bool s,slice x n c,slice y m d])/\Bl w w'/\Rn L w' s x n c f y m d g q/\Dw2 w' w.heap.size ⟨s,x,n,c,f,y,m,d,g⟩
theorem zpf {w L ao k cap p} (h:Rf L w ao p) (hk:p.length=k) (hk2:k<=400) (hL:L<=400) :
  Calls prog 33 #[slice ao k cap] w λe w'=>zhu (4+k*(L+1)) w w' e (psum p 0):=by
 have H:=zk h;have h2:=zaz w 24;have h3:=zB w (cells #[.bool false,slice none 0 0,slice none 0 0] 24);clear h;go_enter func33,ntmps33;go_wp2_with fail
 generalize w.alloc (cells #[.bool false,slice none 0 0,slice none 0 0] 24)=w0 at *;refine(zsg (z:=0) (by omega) (by omega)).mono ?_;rintro e w4 ⟨s0,x0,n0,c0,f0,y0,m0,d0,g0,rfl,hb4,hq4,hu4,hv4,_⟩;have HD4:=zk ((zkk (s:=s0) hu4 hv4).base h3.size);clear hu4 hv4;have OB4:=zk (h2.q_ hb4);have HB4:=zk (bUp h3 hb4);have HQ4:=zk hq4
 clear h2 h3 hb4 hq4;go_wp2_with fail
 have hSx:Sx (w4.alloc (cells #[.bool s0,slice x0 n0 c0,slice y0 m0 d0] 24)) w4.heap.size s0 x0 n0 c0 y0 m0 d0:=⟨by simp,by simp[go_sem],by simp[go_sem],by simp[go_sem],λo=>by simp only[World.frozen?,heap_alloc_new w4 (cells #[.bool s0,slice x0 n0 c0,slice y0 m0 d0] 24)];simp⟩;have hal:=zB w4 (cells #[.bool s0,slice x0 n0 c0,slice y0 m0 d0] 24);have hne:w.heap.size<w4.heap.size:=OB4.out.z;have ST:=zk hSx;have HB5:=zJ HB4 hal;have HQ5:=zk (HQ4.out.q_ hal);have HD5:=zk (HD4.out.q_ hal);have OB5:=zk (OB4.out.q_ hal)
 clear hSx hal HB4 HQ4 OB4 HD4;go_loopw[9] (λt wr=>∃(i:Nat) (acc:Rat) (s:Bool) (x:Option Addr) (n c:Nat) (f:Nat->Int) (y:Option Addr) (m d:Nat) (g:Nat->Int),i<=k/\t=.int .i64 i/\Hid (Bl w wr)/\Hid (Sx wr w4.heap.size s x n c y m d)/\Hid (Ob wr w.heap.size)/\Hid (Rn (4+i*(L+1)) wr s x n c f y m d g acc)/\Hid (Dw2 wr w.heap.size ⟨s,x,n,c,f,y,m,d,g⟩)/\Hid (psum (p.drop i) acc=psum p 0)) (λt _=>k-(intOf t).toNat)
 case atStart=>exact⟨0,0,s0,x0,n0,c0,f0,y0,m0,d0,g0,by omega,rfl,HB5,ST,OB5,(by show Rn _ _ _ _ _ _ _ _ _ _ _ _;exact HQ5.out.mono (by omega)),HD5,rfl⟩
 case round =>
  clear HB5 HQ5 OB5 ST HD5;obtain⟨i,acc,s,x,n,c,f,y,m,d,g,hi,rfl,HB,HS,HO,HQ,HZ,HE⟩:=hrel;by_cases hlt:i<k
  ·obtain⟨q,haq⟩:∃t,p[i]?=some t:=⟨_,getElem?_eq_getElem (by omega)⟩;obtain⟨b,o,⟨ts,tx,tn,tc,tf,ty,tm,td,tg⟩,hav,hc,hr⟩:=(H.out.q_ HB.out) i q haq;have hav2:=hav;subst hav2;obtain⟨x0,x1,x2⟩:=hc;replace x0:wr.cell? ⟨b,o+i*3,none⟩=some (.bool ts):=x0;replace x1:wr.cell? ⟨b,o+i*3+1,none⟩=some (slice tx tn tc):=x1;replace x2:wr.cell? ⟨b,o+i*3+2,none⟩=some (slice ty tm td):=x2;have HD:Hid (psum (p.drop (i+1)) (acc+q)=psum p 0):=by
    show _=_;have e1:p.drop i=q :: p.drop (i+1):=by
     have hl:i<p.length:=by omega
     have:p[i]=q:=by rw[getElem?_eq_getElem hl]at haq;exact Option.some.inj haq
     rw[<-this];exact List.drop_eq_getElem_cons hl
    rw[<-HE.out,e1];rfl
   have hb5:=zB wr (cells #[.bool ts,slice tx tn tc,slice ty tm td] 24);have HR1:Hid (Rn L (wr.alloc (cells #[.bool ts,slice tx tn tc,slice ty tm td] 24)) ts tx tn tc tf ty tm td tg q):=Rn.q_ hr hb5;replace HS:=zk (HS.out.q_ hb5);replace HO:=zk (HO.out.q_ hb5);replace HQ:=zk (HQ.out.q_ hb5);replace HB:=zJ HB hb5
   have i2:((i:Nat):Int)<((k:Nat):Int):=by omega
   obtain⟨sz,u0,u1,u2,uf⟩:=HS.out;clear hr haq hav HE hb5;go_wp2_with fail
   clear sz u0 u1 u2 uf x0 x1 x2;generalize wr.alloc (cells #[.bool ts,slice tx tn tc,slice ty tm td] 24)=w5 at *;have hKi:=zfU (i:=i) (L:=L) (by omega) hL;refine(zrd (L:=164000) (HQ.out.mono hKi) (HR1.out.mono (by omega)) (by omega)).mono ?_;rintro e w6 ⟨s6,x6,n6,c6,f6,y6,m6,d6,g6,rfl,hb6,hq6,hu6,hv6,_⟩;have S6:=HS.out.q_ hb6;have HZ6:=zk (((zkk (s:=s6) hu6 hv6).base HB.out.size).st3 (v0:=.bool s6) (v1:=slice x6 n6 c6) (v2:=slice y6 m6 d6) S6);have R1:=zk (ziU (bUp HB.out hb6) S6 (HO.out.q_ hb6) (hq6.cut (K:=4+(i+1)*(L+1)) ((zfr (HQ.out.lo HQ.out.ln HQ.out.ld) (HR1.out.lo HR1.out.ln HR1.out.ld)).mono (by rw[Nat.add_mul];omega))) hne);obtain⟨sz,u0,u1,u2,uf⟩:=S6;clear HS HO HQ HR1 HB hb6 hq6 hKi hu6 hv6 HZ;go_wp2;go_roundw
   case rel=>exact⟨i+1,acc+q,s6,x6,n6,c6,f6,y6,m6,d6,g6,by omega,by go_num,R1.out.bel,R1.out.sx,R1.out.ob,R1.out.rn,HZ6,HD.out⟩
   case measure=>simp[intOf];omega
  ·have e1:i=k:=by omega
   have HF:Hid (acc=psum p 0):=by
    show _=_;rw[<-HE.out,e1,<-hk,List.drop_length];rfl
   have i2:¬(((i:Nat):Int)<((k:Nat):Int)):=by omega
   obtain⟨sz,u0,u1,u2,uf⟩:=HS.out;obtain⟨hz,z0,z1,z2,zf⟩:=HO.out;have HKK:Hid (i=k):=e1;clear e1 HE;go_wp2;exact bodyPost_ret (v:=agg #[.bool s,slice x n c,slice y m d]) (by simp[results,results33,go_sem,z0,z1,z2]) rfl ⟨s,x,n,c,f,y,m,d,g,rfl,zU HB.out (by omega),by rw[<-HF.out,<-HKK.out];exact HO.out.rn HQ.out,HZ.out.st3 ⟨hz,z0,z1,z2,zf⟩⟩
end Go.Proofs.YtlbgphjdibbkjaaGreat
