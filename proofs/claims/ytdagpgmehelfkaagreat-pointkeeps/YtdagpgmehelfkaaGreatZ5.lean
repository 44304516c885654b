/-
 Walks.
-/
import Derived.Test.YtdagpgmehelfkaaGreatZ4
import Derived.ProofKit
import Derived.OpenShut
import Derived.ChangeSame
import Derived.Deep.Slices
import Derived.SizedLaws
import Derived.Test.YtdagpgmehelfkaaGreatRows
import Derived.Test.YtdagpgmehelfkaaGreatChecked
import Derived.Deep.DeepHandedRow
import Derived.Test.YtdagpgmehelfkaaGreatZ3
import Derived.Test.YtdagpgmehelfkaaGreatZ2
import Derived.BigQuiet
import Derived.Deep.RegionHeld3
import Derived.Test.YtdagpgmehelfkaaGreatZ0
set_option maxRecDepth 100000
set_option maxHeartbeats 16000000
namespace Go.Proofs.YtdagpgmehelfkaaGreat
open Value (slice agg)
open Obj (cells)
open Ending (returned)
open Nat (le_refl le_trans)
open World (cell?_of_block block_lt_of_cell?)
open List (getElem?_eq_getElem)
open Go.Proofs.Tryz
open Go.ChangeShapes Go.WideShapes Go.ChangeAt Go.RowKit
theorem zjJ {H:Type} {P:Program} {e:TypeId}:∀{l:List (DataW H)} {d:DataW H},d ∈ l->∀n ∈ d.weights P e,n ∈ DataW.weightsAll P e l
 | x :: l,d,h,n,hn=>by
  simp only[DataW.weightsAll,List.mem_append];rcases List.mem_cons.1 h with rfl|h
  ·exact .inl hn
  ·exact .inr (zjJ h n hn)
def Wt {H:Type} (P:Program) (t:TypeId) (x:DataW H × List MemPlace):Prop:=∀n ∈ x.1.weights P t,n<=reachBytes
theorem zcC {H:Type} {enc:TypeId × Value->H} {P:Program} {w:World} {t:TypeId} {fs:Array Field} {fuel:Nat} {cs:List Value} {x:DataW H × List MemPlace} (ht:P.underlying t=some (.struct fs)) (h:DataW.trod enc P w 0 (λ_=>true) true fuel t cs=some x) (hw:Wt P t x) :
  ∃k,∀(i:Nat) (f:Field),fs[i]?=some f->∃y,DataW.trod enc P w 0 (λ_=>true) true k f.type ((cs.drop f.offset).take (P.cellsOf f.type))=some y/\Wt P f.type y:=by
 obtain⟨xs,k,_,rfl,_,hlen,hf⟩:=DataW.trod_struct ht h;refine⟨k,λi f hi=>?_⟩;have hlt:i<xs.length:=by rw[hlen];exact(Array.getElem?_eq_some_iff.1 hi).1
 refine⟨xs[i],by rw[hf i f hi,getElem?_eq_getElem hlt],λn hn=>hw n ?_⟩;show n ∈ (DataW.agg (xs.map (·.1))).weights P t;simp only[DataW.weights,ht];refine DataW.weights_mem_each (j:=i) (t:=f.type) (d:=(xs[i]).1) ?_ ?_ n hn
 ·simp[hi]
 ·simp[hlt]
theorem sliceW {H:Type} {enc:TypeId × Value->H} {P:Program} {w:World} {t e:TypeId} {fuel:Nat} {cs:List Value} {x:DataW H × List MemPlace} (ht:P.underlying t=some (.slice e)) (h:DataW.trod enc P w 0 (λ_=>true) true fuel t cs=some x) (hw:Wt P t x) :
  cs=[slice none 0 0]∨∃(a:Addr) (len cap k:Nat),cs=[slice (some a) len cap]/\len<=cap/\cap<=maxLen/\cap*P.bytesOf e<=reachBytes /\
   ∀i,i<len->∃cs' y,w.cells? 0 (a.add (i*P.cellsOf e)) (P.cellsOf e)=some cs'/\DataW.trod enc P w 0 (λ_=>true) true k e cs'=some y/\Wt P e y:=by
 rcases Go.Deep.open_slice ht h with⟨hcs,_⟩|⟨a,len,cap,m,n,D,Pl,hcs,_,hl,hm,hmm,rfl,hel⟩
 ·exact .inl hcs
 ·simp only[if_true]at hmm;subst hmm;refine .inr ⟨a,len,m,n,hcs,hl,hm,?_,λi hi=>?_⟩
  ·refine hw _ ?_;simp only[DataW.weights,ht,List.length_map,List.length_range];rw[show len+(m-len)=m by omega];exact List.mem_cons_self
  ·obtain⟨cs',h1,h2⟩:=hel i (by omega);refine⟨cs',_,h1,h2,λk hk=>hw k ?_⟩;simp only[DataW.weights,ht];exact List.mem_cons_of_mem _ (List.mem_append_left _ (zjJ (d:=D i) (List.mem_map.2 ⟨i,List.mem_range.2 hi,rfl⟩) k hk))
theorem Tryz.bytesU64:prog.bytesOf 46=8:=by kernel_rfl
theorem Tryz.bytesTerm:prog.bytesOf 64=64:=by kernel_rfl
theorem Tryz.bytesCol:prog.bytesOf 59=200:=by kernel_rfl
theorem Tryz.bytesRow:prog.bytesOf 62=168:=by kernel_rfl
theorem Tryz.cellsU:prog.cellsOf 46=1:=by kernel_rfl
theorem Tryz.cellsTerm:prog.cellsOf 64=4:=by kernel_rfl
theorem Tryz.cellsCol:prog.cellsOf 59=12:=by kernel_rfl
theorem Tryz.cellsRow:prog.cellsOf 62=10:=by kernel_rfl
theorem zkQ {H:Type} {enc:TypeId × Value->H} {W:World} {fuel:Nat} {v:Value} {x:DataW H × List MemPlace} (h:DataW.trod enc prog W 0 (λ_=>true) true fuel 22 [v]=some x) (hw:Wt prog 22 x) :
  ∃ao n cap f,v=slice ao n cap/\Rd .u64 W ao n f/\Lm f n/\(ao=none->n=0/\cap=0)/\(n<=cap/\cap<=9223372036854775807)/\n<=17592186044416:=by
 rcases open_ints underlying22 underlying46 Tryz.cellsU h with⟨hcs,hx⟩|⟨a,len',cap',zs,hcs,_,hl,hm,hz,hx,hcell,hwz⟩
 ·simp at hcs;subst hcs;exact⟨none,0,0,λ_=>0,rfl,Rd.zero,λj hj=>by omega,λ_=>⟨rfl,rfl⟩,⟨by omega,by omega⟩,by omega⟩
 ·simp at hcs;subst hcs;simp only[if_true]at hz;have hb:cap'*8<=reachBytes:=by
   have:cap'*prog.bytesOf 46<=reachBytes:=by
    refine hw _ ?_;rw[hx];simp only[DataW.weights,underlying22];have e:(lits .u64 (zs.take len'):List (DataW H)).length+(lits .u64 (zs.drop len'):List (DataW H)).length=cap':=by simp[lits];omega
    rw[e];exact List.mem_cons_self
   rw[Tryz.bytesU64]at this
   exact this
  refine⟨some a,len',cap',λj=>zs.getD j 0,rfl,λj hj=>?_,λj hj=>?_,(λh=>by cases h),⟨hl,by unfold maxLen at hm;omega⟩,by unfold reachBytes at hb;omega⟩
  ·obtain⟨b,off,spot⟩:=a;have hspot:spot=none:=by simpa[Addr.add]using World.cell?_spot (hcell 0 (by omega))
   subst hspot;exact⟨b,off,rfl,by have:=hcell j (by omega);rwa[addr_add]at this⟩
  ·have hmem:zs.getD j 0 ∈ zs:=by
    rw[List.getD_eq_getElem?_getD,getElem?_eq_getElem (by omega)];exact List.getElem_mem _
   have:=bounds_u64 (hwz _ hmem);show 0<=zs.getD j 0/\zs.getD j 0<18446744073709551616;omega
theorem zez {H:Type} {enc:TypeId × Value->H} {W:World} {k:Nat} {c0 c1 c2:Value} {z:DataW H × List MemPlace} (hf:DataW.trod enc prog W 0 (λ_=>true) true k 24 [c0,c1,c2]=some z) (hw:Wt prog 24 z) :
  ∃t:Nm,c0=.bool t.s/\c1=slice t.x t.n t.c/\c2=slice t.y t.m t.d/\NmB W t:=by
 obtain⟨k,hk⟩:=zcC underlying24 hf hw;obtain⟨y0,h0,_⟩:=hk 0 _ rfl;obtain⟨y1,h1,w1⟩:=hk 1 _ rfl;obtain⟨y2,h2,w2⟩:=hk 2 _ rfl;have h0':DataW.trod enc prog W 0 (λ_=>true) true k 4 [c0]=some y0:=h0;have h1':DataW.trod enc prog W 0 (λ_=>true) true k 22 [c1]=some y1:=h1;have h2':DataW.trod enc prog W 0 (λ_=>true) true k 22 [c2]=some y2:=h2;obtain⟨s,hs,_⟩:=DataW.trod_bool underlying4 h0';obtain⟨ao,n,cap,f,rfl,hr,hlm,hnil,hc,hl⟩:=zkQ h1' w1;obtain⟨bo,m,cap',g,rfl,hr',hlm',hnil',hc',hl'⟩:=zkQ h2' w2;simp at hs;exact⟨⟨s,ao,n,cap,f,bo,m,cap',g⟩,hs,rfl,rfl,⟨hr,hlm,hc,hnil,hr',hlm',hc',hnil'⟩,hl,hl'⟩
theorem zfL {H:Type} {enc:TypeId × Value->H} {W:World} {k:Nat} {c0 c1 c2 c3:Value} {z:DataW H × List MemPlace} (hf:DataW.trod enc prog W 0 (λ_=>true) true k 57 [c0,c1,c2,c3]=some z) (hw:Wt prog 57 z) :
  ∃e:Ex,c0=.int .i64 e.i/\c1=.bool e.v.s/\c2=slice e.v.x e.v.n e.v.c/\c3=slice e.v.y e.v.m e.v.d/\NmB W e.v:=by
 obtain⟨k,hk⟩:=zcC underlying57 hf hw;obtain⟨y0,h0,_⟩:=hk 0 _ rfl;obtain⟨y1,h1,w1⟩:=hk 1 _ rfl;have h0':DataW.trod enc prog W 0 (λ_=>true) true k 3 [c0]=some y0:=h0;have h1':DataW.trod enc prog W 0 (λ_=>true) true k 24 [c1,c2,c3]=some y1:=h1;obtain⟨i,hi,_⟩:=DataW.trod_int underlying3 h0';obtain⟨t,e1,e2,e3,ht⟩:=zez h1' w1;simp at hi;exact⟨⟨i,t⟩,hi,e1,e2,e3,ht⟩
theorem zbt {w:World} {base n:Nat} {a:Addr} {cs:List Value} (h:w.cells? base a n=some cs):cs.length=n/\∀(i:Nat) u,cs[i]?=some u->w.cell? (a.add i)=some u:=by
 obtain⟨_,h1,h2⟩:=World.cells?_some h;refine⟨h1,λi u hi=>?_⟩;have hlt:i<n:=by rw[<-h1];exact(List.getElem?_eq_some_iff.1 hi).1
 rw[<-hi];exact h2 i hlt
theorem zhD (a:Addr) (j i:Nat):(a.add j).add i=a.add (j+i):=by
 obtain⟨b,o,s⟩:=a;by_cases hj:j=0
 ·subst hj;by_cases hi:i=0
  ·subst hi;simp[Addr.add]
  ·simp[Addr.add,hi]
 ·by_cases hi:i=0
  ·subst hi;simp[Addr.add,hj]
  ·simp[Addr.add,hi,hj,Nat.add_assoc]
theorem zjB {w:World} {base n:Nat} {b o j:Nat} {cs:List Value} (h:w.cells? base (Addr.add ⟨b,o,none⟩ (j*n)) n=some cs):Cs w b (o+j*n) cs:=λi v e=>by
 have:=(zbt h).2 i v e;rw[zhD,addr_add]at this
 rw[Nat.add_assoc];exact this
theorem zef {w:World} {base n:Nat} {a:Addr} {cs:List Value} (h:w.cells? base (a.add (0*n)) n=some cs) (hn:0<n):a.spot=none:=by
 obtain⟨h1,h2⟩:=zbt h;have:=h2 0 cs[0] (getElem?_eq_getElem (by omega));rw[zhD,Nat.zero_mul]at this
 simpa[Addr.add]using World.cell?_spot this
theorem zoV {H:Type} {enc:TypeId × Value->H} {W:World} {fuel:Nat} {v:Value} {x:DataW H × List MemPlace} (h:DataW.trod enc prog W 0 (λ_=>true) true fuel 60 [v]=some x) (hw:Wt prog 60 x) :
  ∃ta tk tc col T,v=slice ta tk tc/\Tr W ta tk col T/\tk<=2199023255552/\∀p,p<tk->(T p).n<=17592186044416/\(T p).m<=17592186044416:=by
 rcases sliceW underlying60 h hw with hcs|⟨a,len,cap,k,hcs,hl,hm,hb,hel⟩
 ·simp at hcs;exact⟨none,0,0,λ_=>0,λ_=>nz9,hcs,λj hj=>by omega,by omega,λj hj=>by omega⟩
 ·simp at hcs;rw[Tryz.cellsTerm]at hel
  rw[Tryz.bytesTerm]at hb
  have hX:∀j,∃zt:Int × Nm,j<len->W.cells? 0 (a.add (j*4)) 4=some [.int .i64 zt.1,.bool zt.2.s,slice zt.2.x zt.2.n zt.2.c,slice zt.2.y zt.2.m zt.2.d]/\NmB W zt.2:=λj=>by
   by_cases hj:j<len
   ·obtain⟨cs',y,h1,h2,w2⟩:=hel j hj
    match cs',(zbt h1).1 with
    | [c0,c1,c2,c3],_ =>
     obtain⟨k',hk⟩:=zcC underlying64 h2 w2;obtain⟨y0,g0,_⟩:=hk 0 _ rfl;obtain⟨y1,g1,w1⟩:=hk 1 _ rfl;have g0':DataW.trod enc prog W 0 (λ_=>true) true k' 3 [c0]=some y0:=g0;have g1':DataW.trod enc prog W 0 (λ_=>true) true k' 24 [c1,c2,c3]=some y1:=g1;obtain⟨i,hi,_⟩:=DataW.trod_int underlying3 g0';obtain⟨t,e1,e2,e3,ht⟩:=zez g1' w1;simp at hi;subst hi;subst e1;subst e2;subst e3
     exact⟨(i,t),λ_=>⟨h1,ht⟩⟩
   ·exact⟨(0,nz9),λh=>absurd h hj⟩
  have hX':∃Z:Nat->Int × Nm,∀j,j<len->W.cells? 0 (a.add (j*4)) 4=some [.int .i64 (Z j).1,.bool (Z j).2.s,.slice (Z j).2.x (Z j).2.n (Z j).2.c,.slice (Z j).2.y (Z j).2.m (Z j).2.d]/\NmB W (Z j).2:=⟨λj=>Classical.choose (hX j),λj=>Classical.choose_spec (hX j)⟩;obtain⟨Z,hZ⟩:=hX';refine⟨some a,len,cap,λj=>(Z j).1,λj=>(Z j).2,hcs,λj hj=>?_,by unfold reachBytes at hb;omega,λp hp=>(hZ p hp).2.2⟩;have hs:=zef (n:=4) (hZ 0 (by omega)).1 (by decide);obtain⟨b,o,sp⟩:=a;simp only at hs;subst hs;exact⟨b,o,rfl,cs4 (zjB (hZ j hj).1),(hZ j hj).2.1⟩
theorem zoZ {H:Type} {enc:TypeId × Value->H} {W:World} {k:Nat} {c0 c1 c2 c3 c4 c5 c6 c7 c8 c9 c10 c11:Value} {z:DataW H × List MemPlace} (hf:DataW.trod enc prog W 0 (λ_=>true) true k 59 [c0,c1,c2,c3,c4,c5,c6,c7,c8,c9,c10,c11]=some z) (hw:Wt prog 59 z) :
  ∃c:Lc,[c0,c1,c2,c3,c4,c5,c6,c7,c8,c9,c10,c11]=c.vs/\LcB W c/\c.nm.size<=9223372036854775807:=by
 obtain⟨k,hk⟩:=zcC underlying59 hf hw;obtain⟨y0,h0,_⟩:=hk 0 _ rfl;obtain⟨y1,h1,w1⟩:=hk 1 _ rfl;obtain⟨y2,h2,w2⟩:=hk 2 _ rfl;obtain⟨y3,h3,w3⟩:=hk 3 _ rfl;have h0':DataW.trod enc prog W 0 (λ_=>true) true k 9 [c0]=some y0:=h0;have h1':DataW.trod enc prog W 0 (λ_=>true) true k 24 [c1,c2,c3]=some y1:=h1;have h2':DataW.trod enc prog W 0 (λ_=>true) true k 57 [c4,c5,c6,c7]=some y2:=h2;have h3':DataW.trod enc prog W 0 (λ_=>true) true k 57 [c8,c9,c10,c11]=some y3:=h3;obtain⟨s,hs,_,hz⟩:=DataW.trod_string underlying9 h0';obtain⟨t,rfl,rfl,rfl,ht⟩:=zez h1' w1;obtain⟨e1,rfl,rfl,rfl,rfl,he1⟩:=zfL h2' w2;obtain⟨e2,rfl,rfl,rfl,rfl,he2⟩:=zfL h3' w3;simp at hs;subst hs;exact⟨⟨s,t,e1,e2⟩,rfl,⟨ht,he1,he2⟩,by unfold maxLen at hz;exact le_trans hz (by decide)⟩
theorem zoW {H:Type} {enc:TypeId × Value->H} {W:World} {k:Nat} {c0 c1 c2 c3 c4 c5 c6 c7 c8 c9:Value} {z:DataW H × List MemPlace} (hf:DataW.trod enc prog W 0 (λ_=>true) true k 62 [c0,c1,c2,c3,c4,c5,c6,c7,c8,c9]=some z) (hw:Wt prog 62 z) :
  ∃r:Lr,[c0,c1,c2,c3,c4,c5,c6,c7,c8,c9]=r.vs/\LrB W r/\r.nm.size<=9223372036854775807:=by
 obtain⟨k,hk⟩:=zcC underlying62 hf hw;obtain⟨y0,h0,_⟩:=hk 0 _ rfl;obtain⟨y1,h1,w1⟩:=hk 1 _ rfl;obtain⟨y2,h2,w2⟩:=hk 2 _ rfl;obtain⟨y3,h3,w3⟩:=hk 3 _ rfl;have h0':DataW.trod enc prog W 0 (λ_=>true) true k 9 [c0]=some y0:=h0;have h1':DataW.trod enc prog W 0 (λ_=>true) true k 57 [c1,c2,c3,c4]=some y1:=h1;have h2':DataW.trod enc prog W 0 (λ_=>true) true k 57 [c5,c6,c7,c8]=some y2:=h2;have h3':DataW.trod enc prog W 0 (λ_=>true) true k 60 [c9]=some y3:=h3;obtain⟨s,hs,_,hz⟩:=DataW.trod_string underlying9 h0';obtain⟨e1,rfl,rfl,rfl,rfl,he1⟩:=zfL h1' w1;obtain⟨e2,rfl,rfl,rfl,rfl,he2⟩:=zfL h2' w2;obtain⟨ta,tk,tc,col,T,rfl,ht,hk',hn⟩:=zoV h3' w3;simp at hs;subst hs;exact⟨⟨s,e1,e2,ta,tk,tc,col,T⟩,rfl,⟨he1,he2,ht,hk',hn⟩,by unfold maxLen at hz;exact le_trans hz (by decide)⟩
theorem zng {H:Type} {enc:TypeId × Value->H} {W:World} {fuel:Nat} {v:Value} {x:DataW H × List MemPlace} (h:DataW.trod enc prog W 0 (λ_=>true) true fuel 25 [v]=some x) (hw:Wt prog 25 x) :
  ∃ca ck cc C,v=slice ca ck cc/\Cl9 W ca ck C/\ck<=703687441776/\(ck<=cc/\cc<=9223372036854775807)/\∀j,j<ck->(C j).nm.size<=9223372036854775807:=by
 have z9:Lc:=⟨ByteArray.empty,nz9,⟨0,nz9⟩,⟨0,nz9⟩⟩;rcases sliceW underlying25 h hw with hcs|⟨a,len,cap,k,hcs,hl,hm,hb,hel⟩
 ·simp at hcs;exact⟨none,0,0,λ_=>z9,hcs,λj hj=>by omega,by omega,⟨by omega,by omega⟩,λj hj=>by omega⟩
 ·simp at hcs;rw[Tryz.cellsCol]at hel
  rw[Tryz.bytesCol]at hb
  have hX:∀j,∃c:Lc,j<len->W.cells? 0 (a.add (j*12)) 12=some c.vs/\LcB W c/\c.nm.size<=9223372036854775807:=λj=>by
   by_cases hj:j<len
   ·obtain⟨cs',y,h1,h2,w2⟩:=hel j hj
    match cs',(zbt h1).1 with
    | [c0,c1,c2,c3,c4,c5,c6,c7,c8,c9,c10,c11],_ =>
     obtain⟨c,e,hc,hn⟩:=zoZ h2 w2;rw[e]at h1
     exact⟨c,λ_=>⟨h1,hc,hn⟩⟩
   ·exact⟨z9,λh=>absurd h hj⟩
  have hX':∃Z:Nat->Lc,∀j,j<len->W.cells? 0 (a.add (j*12)) 12=some (Z j).vs/\LcB W (Z j)/\(Z j).nm.size<=9223372036854775807:=⟨λj=>Classical.choose (hX j),λj=>Classical.choose_spec (hX j)⟩;obtain⟨Z,hZ⟩:=hX';refine⟨some a,len,cap,Z,hcs,λj hj=>?_,by unfold reachBytes at hb;omega,⟨hl,by unfold maxLen at hm;omega⟩,λj hj=>(hZ j hj).2.2⟩;have hs:=zef (n:=12) (hZ 0 (by omega)).1 (by decide);obtain⟨b,o,sp⟩:=a;simp only at hs;subst hs;exact⟨b,o,rfl,zjB (hZ j hj).1,(hZ j hj).2.1⟩
theorem znf {H:Type} {enc:TypeId × Value->H} {W:World} {fuel:Nat} {v:Value} {x:DataW H × List MemPlace} (h:DataW.trod enc prog W 0 (λ_=>true) true fuel 26 [v]=some x) (hw:Wt prog 26 x) :
  ∃ra rk rc R,v=slice ra rk rc/\Rl9 W ra rk R/\rk<=837723144971/\(rk<=rc/\rc<=9223372036854775807)/\∀j,j<rk->(R j).nm.size<=9223372036854775807:=by
 have z9:Lr:=⟨ByteArray.empty,⟨0,nz9⟩,⟨0,nz9⟩,none,0,0,λ_=>0,λ_=>nz9⟩;rcases sliceW underlying26 h hw with hcs|⟨a,len,cap,k,hcs,hl,hm,hb,hel⟩
 ·simp at hcs;exact⟨none,0,0,λ_=>z9,hcs,λj hj=>by omega,by omega,⟨by omega,by omega⟩,λj hj=>by omega⟩
 ·simp at hcs;rw[Tryz.cellsRow]at hel
  rw[Tryz.bytesRow]at hb
  have hX:∀j,∃c:Lr,j<len->W.cells? 0 (a.add (j*10)) 10=some c.vs/\LrB W c/\c.nm.size<=9223372036854775807:=λj=>by
   by_cases hj:j<len
   ·obtain⟨cs',y,h1,h2,w2⟩:=hel j hj
    match cs',(zbt h1).1 with
    | [c0,c1,c2,c3,c4,c5,c6,c7,c8,c9],_ =>
     obtain⟨c,e,hc,hn⟩:=zoW h2 w2;rw[e]at h1
     exact⟨c,λ_=>⟨h1,hc,hn⟩⟩
   ·exact⟨z9,λh=>absurd h hj⟩
  have hX':∃Z:Nat->Lr,∀j,j<len->W.cells? 0 (a.add (j*10)) 10=some (Z j).vs/\LrB W (Z j)/\(Z j).nm.size<=9223372036854775807:=⟨λj=>Classical.choose (hX j),λj=>Classical.choose_spec (hX j)⟩;obtain⟨Z,hZ⟩:=hX';refine⟨some a,len,cap,Z,hcs,λj hj=>?_,by unfold reachBytes at hb;omega,⟨hl,by unfold maxLen at hm;omega⟩,λj hj=>(hZ j hj).2.2⟩;have hs:=zef (n:=10) (hZ 0 (by omega)).1 (by decide);obtain⟨b,o,sp⟩:=a;simp only at hs;subst hs;exact⟨b,o,rfl,zjB (hZ j hj).1,(hZ j hj).2.1⟩
theorem Tryz.cellsM:prog.cellsOf 28=5:=by kernel_rfl
theorem Tryz.readM:prog.readableRec 28=true:=by kernel_rfl
theorem Tryz.sizeM:28<prog.types.size:=of_decide_eq_true (by kernel_rfl)
theorem zqj {H:Type} {enc:TypeId × Value->H} {W:World} {base:Nat} {v:Value} {d:DataW H} {p:List MemPlace} (hok:Value.okWide prog W .any base 28 v) (h:DataW.Trod enc prog W 0 (λ_=>true) true 28 v d p) (hw:∀n ∈ d.weights prog 28,n<=reachBytes) :
  ∃M:Mo,v=M.val/\MoX W M/\MoN M/\MoC M:=by
 obtain⟨cs,rfl,hsz⟩:=okWide_struct underlying28 hok;rw[Tryz.cellsM]at hsz
 obtain⟨fuel,hf⟩:=h;obtain⟨l⟩:=cs
 match l,hsz with
 | [c0,c1,c2,c3,c4],_ =>
  obtain⟨k,hk⟩:=zcC (x:=(d,p)) underlying28 hf hw;obtain⟨y0,h0,w0⟩:=hk 0 _ rfl;obtain⟨y1,h1,w1⟩:=hk 1 _ rfl;obtain⟨y2,h2,w2⟩:=hk 2 _ rfl;have h0':DataW.trod enc prog W 0 (λ_=>true) true k 24 [c0,c1,c2]=some y0:=h0;have h1':DataW.trod enc prog W 0 (λ_=>true) true k 25 [c3]=some y1:=h1;have h2':DataW.trod enc prog W 0 (λ_=>true) true k 26 [c4]=some y2:=h2;obtain⟨t,rfl,rfl,rfl,ht⟩:=zez h0' w0;obtain⟨ca,ck,cc,C,rfl,hC,hck,hcc,hcn⟩:=zng h1' w1;obtain⟨ra,rk,rc,R,rfl,hR,hrk,hrc,hrn⟩:=znf h2' w2;exact⟨⟨t,ca,ck,cc,C,ra,rk,rc,R⟩,rfl,⟨ht,hC,hR,hck,hrk⟩,⟨hcn,hrn⟩,hcc,hrc⟩
end Go.Proofs.YtdagpgmehelfkaaGreat
namespace Go.Proofs.YtdagpgmehelfkaaGreat
open Value (slice agg)
open Obj (cells)
open Ending (returned)
open Nat (le_refl le_trans)
open World (cell?_of_block block_lt_of_cell?)
open List (getElem?_eq_getElem)
open Go.Proofs.Tryz
open Go.ChangeShapes Go.WideShapes Go.ChangeAt Go.RowKit
theorem Tryz.own:ownKnob prog.godebug=none:=by kernel_rfl
theorem Tryz.laidOut:laidOutB prog=true:=by kernel_rfl
end Go.Proofs.YtdagpgmehelfkaaGreat
namespace Go.Proofs.YtdagpgmehelfkaaGreat
open Value (slice agg)
open Obj (cells)
open Ending (returned)
open Nat (le_refl le_trans)
open World (cell?_of_block block_lt_of_cell?)
open List (getElem?_eq_getElem)
open Go.Proofs.Tryz
open Go.ChangeShapes Go.WideShapes Go.ChangeAt Go.RowKit
theorem Tryz.bytesRat:prog.bytesOf 24=56:=by kernel_rfl
theorem Tryz.cellsRat:prog.cellsOf 24=3:=by kernel_rfl
theorem zoY {H:Type} {enc:TypeId × Value->H} {W:World} {fuel:Nat} {v:Value} {x:DataW H × List MemPlace} (h:DataW.trod enc prog W 0 (λ_=>true) true fuel 29 [v]=some x) (hw:Wt prog 29 x) :
  ∃ao k c X,v=slice ao k c/\Rr W ao k X/\k<=9223372036854775807:=by
 rcases sliceW underlying29 h hw with hcs|⟨a,len,cap,k,hcs,hl,hm,hb,hel⟩
 ·simp at hcs;exact⟨none,0,0,λ_=>nz9,hcs,λj hj=>by omega,by omega⟩
 ·simp at hcs;rw[Tryz.cellsRat]at hel
  rw[Tryz.bytesRat]at hb
  have hX:∀j,∃t:Nm,j<len->W.cells? 0 (a.add (j*3)) 3=some [.bool t.s,slice t.x t.n t.c,slice t.y t.m t.d]/\NmB W t:=λj=>by
   by_cases hj:j<len
   ·obtain⟨cs',y,h1,h2,w2⟩:=hel j hj
    match cs',(zbt h1).1 with
    | [c0,c1,c2],_ =>
     obtain⟨t,e1,e2,e3,ht⟩:=zez h2 w2;subst e1;subst e2;subst e3
     exact⟨t,λ_=>⟨h1,ht⟩⟩
   ·exact⟨nz9,λh=>absurd h hj⟩
  have hX':∃Z:Nat->Nm,∀j,j<len->W.cells? 0 (a.add (j*3)) 3=some [.bool (Z j).s,.slice (Z j).x (Z j).n (Z j).c,.slice (Z j).y (Z j).m (Z j).d]/\NmB W (Z j):=⟨λj=>Classical.choose (hX j),λj=>Classical.choose_spec (hX j)⟩;obtain⟨Z,hZ⟩:=hX';refine⟨some a,len,cap,Z,hcs,λj hj=>?_,by unfold reachBytes at hb;omega⟩;have hs:=zef (n:=3) (hZ 0 (by omega)).1 (by decide);obtain⟨b,o,sp⟩:=a;simp only at hs;subst hs;have hc:=zjB (hZ j hj).1;exact⟨b,o,rfl,⟨hc 0 _ rfl,hc 1 _ rfl,hc 2 _ rfl⟩,(hZ j hj).2.1⟩
theorem Tryz.readQq:prog.readableRec 29=true:=by kernel_rfl
theorem Tryz.sizeQq:29<prog.types.size:=of_decide_eq_true (by kernel_rfl)
theorem zoX {H:Type} {enc:TypeId × Value->H} {W:World} {base:Nat} {v:Value} {d:DataW H} {p:List MemPlace} (hok:Value.okWide prog W .any base 29 v) (h:DataW.Trod enc prog W 0 (λ_=>true) true 29 v d p) (hw:∀n ∈ d.weights prog 29,n<=reachBytes) :
  ∃ao k c X,v=slice ao k c/\Rr W ao k X/\k<=9223372036854775807:=by
 obtain⟨a0,len,cap,hv⟩:=okWide_slice underlying29 hok;subst hv;obtain⟨fuel,hf⟩:=h;exact zoY (x:=(d,p)) hf hw
end Go.Proofs.YtdagpgmehelfkaaGreat
namespace Go.Proofs.YtdagpgmehelfkaaGreat
open Value (slice agg)
open Obj (cells)
open Ending (returned)
open Nat (le_refl le_trans)
open World (cell?_of_block block_lt_of_cell?)
open List (getElem?_eq_getElem)
open Go.Proofs.Tryz
open Go.RowKit
theorem zdf {L w sa xa na ca fa ya ma da ga a sb xb nb cb fb yb mb db gb b} (ha:Rn L w sa xa na ca fa ya ma da ga a) (hb:Rn L w sb xb nb cb fb yb mb db gb b) (hL:L<=200000) :
  Calls prog 28 #[agg #[.bool sa,slice xa na ca,slice ya ma da],agg #[.bool sb,slice xb nb cb,slice yb mb db]] w λe w'=>zcS (2*L+1) w w' e (a*b):=by
 have h1:=((ha.alloc (cells #[.bool sa,slice xa na ca,slice ya ma da] 24)).alloc (cells #[.bool sb,slice xb nb cb,slice yb mb db] 24)).alloc (cells #[.bool false,slice none 0 0,slice none 0 0] 24);have h2:=((hb.alloc (cells #[.bool sa,slice xa na ca,slice ya ma da] 24)).alloc (cells #[.bool sb,slice xb nb cb,slice yb mb db] 24)).alloc (cells #[.bool false,slice none 0 0,slice none 0 0] 24);have h3:=zay ((w.alloc (cells #[.bool sa,slice xa na ca,slice ya ma da] 24)).alloc (cells #[.bool sb,slice xb nb cb,slice yb mb db] 24)) 24;rw[zz,zz]at h3
 have h4:=zu (zu (zF w (cells #[.bool sa,slice xa na ca,slice ya ma da] 24)) (cells #[.bool sb,slice xb nb cb,slice yb mb db] 24)) (cells #[.bool false,slice none 0 0,slice none 0 0] 24);clear ha hb;go_enter func28,ntmps28;go_wp2_with fail
 generalize((w.alloc (cells #[.bool sa,slice xa na ca,slice ya ma da] 24)).alloc (cells #[.bool sb,slice xb nb cb,slice yb mb db] 24)).alloc (cells #[.bool false,slice none 0 0,slice none 0 0] 24)=w1 at *;have OB1:=zk h3;have HW1:=zk h4
 refine(zpq h1 h2 hL).mono ?_;clear h1 h2 h3 h4;rintro e w2 ⟨s,x,n,c,f,y,m,d,g,rfl,hb2,hq⟩;have hob:=OB1.out.q_ hb2;have hbw:=bUp HW1.out hb2;obtain⟨hz,z0,z1,z2,zf⟩:=OB1.out.q_ hb2;have HQ:=zk hq;have HOB:=zk hob;have HBW:=zk hbw
 clear hq hob hbw hb2 OB1 HW1;go_wp2;exact bodyPost_ret (v:=agg #[.bool s,slice x n c,slice y m d]) (by simp[results,results28,go_sem,z0,z1,z2,hz]) rfl ⟨s,x,n,c,f,y,m,d,g,rfl,zu (below_st HBW.out (by omega)) _,(HOB.out.rn HQ.out).alloc _⟩
def zcm:List Rat->Rat->Rat
 | [],acc=>acc
 | q :: p,acc=>zcm p (acc+q)
theorem zfm {i L} (hi:i<=400) (hL:L<=400):4+i*(L+1)<=164000:=by
 have h1:i*(L+1)<=400*(L+1):=Nat.mul_le_mul_right _ hi;omega
theorem zlF {w L ao k cap p} (h:Rf L w ao p) (hk:p.length=k) (hk2:k<=400) (hL:L<=400) :
  Calls prog 29 #[slice ao k cap] w λe w'=>zcS (4+k*(L+1)) w w' e (zcm p 0):=by
 have H:=zk h;have h2:=zay w 24;have h3:=zF w (cells #[.bool false,slice none 0 0,slice none 0 0] 24);clear h;go_enter func29,ntmps29;go_wp2_with fail
 generalize w.alloc (cells #[.bool false,slice none 0 0,slice none 0 0] 24)=w0 at *;refine(zqr (z:=0) (by omega) (by omega)).mono ?_;rintro e w4 ⟨s0,x0,n0,c0,f0,y0,m0,d0,g0,rfl,hb4,hq4⟩;have OB4:=zk (h2.q_ hb4);have HB4:=zk (bUp h3 hb4);have HQ4:=zk hq4
 clear h2 h3 hb4 hq4;go_wp2_with fail
 have hSx:Sx (w4.alloc (cells #[.bool s0,slice x0 n0 c0,slice y0 m0 d0] 24)) w4.heap.size s0 x0 n0 c0 y0 m0 d0:=⟨by simp,by simp[go_sem],by simp[go_sem],by simp[go_sem],λo=>by simp only[World.frozen?,heap_alloc_new w4 (cells #[.bool s0,slice x0 n0 c0,slice y0 m0 d0] 24)];simp⟩;have hal:=zF w4 (cells #[.bool s0,slice x0 n0 c0,slice y0 m0 d0] 24);have hne:w.heap.size<w4.heap.size:=OB4.out.z;have ST:=zk hSx;have HB5:=zP HB4 hal;have HQ5:=zk (HQ4.out.q_ hal);have OB5:=zk (OB4.out.q_ hal)
 clear hSx hal HB4 HQ4 OB4;go_loopw[9] (λt wr=>∃(i:Nat) (acc:Rat) (s:Bool) (x:Option Addr) (n c:Nat) (f:Nat->Int) (y:Option Addr) (m d:Nat) (g:Nat->Int),i<=k/\t=.int .i64 i/\Hid (Bl w wr)/\Hid (Sx wr w4.heap.size s x n c y m d)/\Hid (Ob wr w.heap.size)/\Hid (Rn (4+i*(L+1)) wr s x n c f y m d g acc)/\Hid (zcm (p.drop i) acc=zcm p 0)) (λt _=>k-(intOf t).toNat)
 case atStart=>exact⟨0,0,s0,x0,n0,c0,f0,y0,m0,d0,g0,by omega,rfl,HB5,ST,OB5,(by show Rn _ _ _ _ _ _ _ _ _ _ _ _;exact HQ5.out.mono (by omega)),rfl⟩
 case round =>
  clear HB5 HQ5 OB5 ST;obtain⟨i,acc,s,x,n,c,f,y,m,d,g,hi,rfl,HB,HS,HO,HQ,HE⟩:=hrel;by_cases hlt:i<k
  ·obtain⟨q,haq⟩:∃t,p[i]?=some t:=⟨_,getElem?_eq_getElem (by omega)⟩;obtain⟨b,o,⟨ts,tx,tn,tc,tf,ty,tm,td,tg⟩,hav,hc,hr⟩:=(H.out.q_ HB.out) i q haq;have hav2:=hav;subst hav2;obtain⟨x0,x1,x2⟩:=hc;replace x0:wr.cell? ⟨b,o+i*3,none⟩=some (.bool ts):=x0;replace x1:wr.cell? ⟨b,o+i*3+1,none⟩=some (slice tx tn tc):=x1;replace x2:wr.cell? ⟨b,o+i*3+2,none⟩=some (slice ty tm td):=x2;have HD:Hid (zcm (p.drop (i+1)) (acc+q)=zcm p 0):=by
    show _=_;have e1:p.drop i=q :: p.drop (i+1):=by
     have hl:i<p.length:=by omega
     have:p[i]=q:=by rw[getElem?_eq_getElem hl]at haq;exact Option.some.inj haq
     rw[<-this];exact List.drop_eq_getElem_cons hl
    rw[<-HE.out,e1];rfl
   have hb5:=zF wr (cells #[.bool ts,slice tx tn tc,slice ty tm td] 24);have HR1:Hid (Rn L (wr.alloc (cells #[.bool ts,slice tx tn tc,slice ty tm td] 24)) ts tx tn tc tf ty tm td tg q):=Rn.q_ hr hb5;replace HS:=zk (HS.out.q_ hb5);replace HO:=zk (HO.out.q_ hb5);replace HQ:=zk (HQ.out.q_ hb5);replace HB:=zP HB hb5
   have i2:((i:Nat):Int)<((k:Nat):Int):=by omega
   obtain⟨sz,u0,u1,u2,uf⟩:=HS.out;clear hr haq hav HE hb5;go_wp2_with fail
   clear sz u0 u1 u2 uf x0 x1 x2;generalize wr.alloc (cells #[.bool ts,slice tx tn tc,slice ty tm td] 24)=w5 at *;have hKi:=zfm (i:=i) (L:=L) (by omega) hL;refine(zpt (L:=164000) (HQ.out.mono hKi) (HR1.out.mono (by omega)) (by omega)).mono ?_;rintro e w6 ⟨s6,x6,n6,c6,f6,y6,m6,d6,g6,rfl,hb6,hq6⟩;have S6:=HS.out.q_ hb6;have R1:=zk (zls (bUp HB.out hb6) S6 (HO.out.q_ hb6) (hq6.cut (K:=4+(i+1)*(L+1)) ((zic (HQ.out.lo HQ.out.ln HQ.out.ld) (HR1.out.lo HR1.out.ln HR1.out.ld)).mono (by rw[Nat.add_mul];omega))) hne);obtain⟨sz,u0,u1,u2,uf⟩:=S6;clear HS HO HQ HR1 HB hb6 hq6 hKi;go_wp2;go_roundw
   case rel=>exact⟨i+1,acc+q,s6,x6,n6,c6,f6,y6,m6,d6,g6,by omega,by go_num,R1.out.bel,R1.out.sx,R1.out.ob,R1.out.rn,HD.out⟩
   case measure=>simp[intOf];omega
  ·have e1:i=k:=by omega
   have HF:Hid (acc=zcm p 0):=by
    show _=_;rw[<-HE.out,e1,<-hk,List.drop_length];rfl
   have i2:¬(((i:Nat):Int)<((k:Nat):Int)):=by omega
   obtain⟨sz,u0,u1,u2,uf⟩:=HS.out;obtain⟨hz,z0,z1,z2,zf⟩:=HO.out;have HKK:Hid (i=k):=e1;clear e1 HE;go_wp2;exact bodyPost_ret (v:=agg #[.bool s,slice x n c,slice y m d]) (by simp[results,results29,go_sem,z0,z1,z2]) rfl ⟨s,x,n,c,f,y,m,d,g,rfl,below_st HB.out (by omega),by rw[<-HF.out,<-HKK.out];exact HO.out.rn HQ.out⟩
def zaq (P:Program) (md:Region.Mode) (ops:Array Oper) (Q:Exit->Act->World->Prop) (S:World->Prop) (k:Nat):Nat->Array Bool->Act->World->Prop
 | 0,listed,a,w=>Region.ready md ops listed=[]/\Q .normal a w
 | fuel+1,listed,a,w =>
  (Region.ready md ops listed=[]->Q .normal a w) /\
  ∀i ∈ Region.ready md ops listed,wpOp P ops Q i (λa' w'=>((listed.setIfInBounds i true).getD k true=false->S w')/\zaq P md ops Q S k fuel (listed.setIfInBounds i true) a' w') a w
theorem zck {P ops Q md S k}:∀(fuel:Nat) (listed:Array Bool) (a:Act) (w:World),zaq P md ops Q S k fuel listed a w->wpAny P md ops Q fuel listed a w
 | 0,_,_,_,h=>h
 | fuel+1,_,_,_,h=>⟨h.1,λi hi=>wpOp_mono (λa' w' h'=>zck fuel _ a' w' h'.2) (h.2 i hi)⟩
theorem zdL {ops md listed i j} (hi:i ∈ Region.ready md ops listed) (hj:j ∈ Region.ready md ops listed) (hd:i ∈ depsOf md ops j):False:=by
 obtain⟨oj,hoj,e,he,hb,rfl⟩:=mem_deps.1 hd;obtain⟨_,oj',hoj',hall⟩:=mem_ready.1 hj;rw[hoj]at hoj'
 cases hoj'
 have h1:=hall e he hb;have h0:=(mem_ready.1 hi).1;rcases Nat.lt_or_ge e.on listed.size with h'|h'
 ·simp[h']at h0 h1;rw[h0]at h1;cases h1
 ·simp[Array.getElem?_eq_none h']at h1
theorem zgI {P ops Q md S k i oi v} (hi:ops[i]?=some oi) (hsel:∀(j:Nat) (o:Oper) cs b,ops[j]?=some o->o.op≠.select cs b) (hQ:∀c a w,Q (.panic c) (a.put oi.dst v) w->Q (.panic c) a w) (hik:i≠k) :
  ∀(fuel:Nat) (listed:Array Bool) (a:Act) (w:World),
   (∀j oj,ops[j]?=some oj->j≠i->listed.getD j true=false->(∀e ∈ oj.after,Region.binds md e=true->e.on≠i)->oi.apart ops oj=true) ->
   i ∈ Region.ready md ops listed->YieldsIf P ops (λ_=>True) oi v a->(listed.getD k true=false->S w) ->
   zaq P md ops Q S k fuel (listed.setIfInBounds i true) (a.put oi.dst v) w->zaq P md ops Q S k (fuel+1) listed a w:=by
 intro fuel
 induction fuel with
 | zero =>
  intro listed a w _ hr hy hS H;refine⟨λh=>(by rw[h]at hr;cases hr),λj hj=>?_⟩;by_cases hji:j=i
  ·subst hji;exact hy.wpOp hi trivial ⟨λh=>hS (by rw[getD_set_ne true hik]at h;exact h),H⟩
  ·have:=ready_mono hj hji;rw[H.1]at this
   cases this
 | succ fuel ih =>
  intro listed a w hfree hr hy hS H;refine⟨λh=>(by rw[h]at hr;cases hr),λj hj=>?_⟩;by_cases hji:j=i
  ·subst hji;exact hy.wpOp hi trivial ⟨λh=>hS (by rw[getD_set_ne true hik]at h;exact h),H⟩
  ·have h1:=H.2 j (ready_mono hj hji);obtain⟨hjun,oj,hoj,hall⟩:=mem_ready.1 hj;have hnot:∀e ∈ oj.after,Region.binds md e=true->e.on≠i:=λe he hb heq=>zdL hr hj (mem_deps.2 ⟨oj,hoj,e,he,hb,heq⟩)
   have h2:=wpOp_putIf hoj (hfree j oj hoj hji hjun hnot) (λcs b=>hsel i oi cs b hi) (λcs b=>hsel j oj cs b hoj) hQ hy h1;have hfree':∀k ok,ops[k]?=some ok->k≠i->(listed.setIfInBounds j true).getD k true=false ->
     (∀e ∈ ok.after,Region.binds md e=true->e.on≠i)->oi.apart ops ok=true:=λk ok hk hki hun hno=>by
    refine hfree k ok hk hki ?_ hno;by_cases hjk:j=k
    ·subst hjk;exact hjun
    ·rw[getD_set_ne true hjk]at hun;exact hun
   have hS':∀w',(((listed.setIfInBounds i true).setIfInBounds j true).getD k true=false->S w')->(listed.setIfInBounds j true).getD k true=false->S w':=λw' h hk=>h (by
    by_cases hjk:j=k
    ·subst hjk;rcases Nat.lt_or_ge j listed.size with h'|h'
     ·simp[h']at hk
     ·simp[Array.getElem?_eq_none h']at hjun
    ·rw[getD_set_ne true hjk]at hk ⊢;rw[getD_set_ne true hik];exact hk)
   refine wpOp_mono (λa' w' h3=>⟨hS' _ h3.2.1,ih (listed.setIfInBounds j true) a' w' hfree' (ready_mono hr (Ne.symm hji)) h3.1 (hS' _ h3.2.1) ?_⟩) h2;rw[Array.setIfInBounds_comm _ _ hji];exact h3.2.2
theorem zbk {P ops Q md S k i oi v fuel listed a w} (hi:ops[i]?=some oi) (hs:Region.noSelect ops=true) (hf:Region.free md ops listed i=true) (hr:(Region.ready md ops listed).contains i=true) (hik:(i==k)=false) (hQ:∀c a w,Q (.panic c) (a.put oi.dst v) w->Q (.panic c) a w) (hy:YieldsIf P ops (λ_=>True) oi v a) (hS:listed.getD k true=false->S w) (h:zaq P md ops Q S k fuel (listed.setIfInBounds i true) (a.put oi.dst v) w):zaq P md ops Q S k (fuel+1) listed a w :=
 zgI hi (Region.noSelect_spec hs) hQ (by simpa using hik) fuel listed a w (Region.free_spec hi hf) (by simpa using hr) hy hS h
theorem skP {P:Program} {ops:Array Oper} {Q:Exit->Act->World->Prop} {md:Region.Mode} {S:World->Prop} {k:Nat} {oi:Oper} {v:Value} {fuel:Nat} {listed:Array Bool} {a:Act} {w:World} (i:Nat) (h:zaq P md ops Q S k fuel (listed.setIfInBounds i true) (a.put oi.dst v) w)
  (hi:ops[i]?=some oi:=by exact rfl) (hy:YieldsIf P ops (λ_=>True) oi v a:=by (refine Or.inl ⟨by rfl,?_⟩;intro w0 hSw;go_simp <;> with_reducible rfl))
  (hs:Region.noSelect ops=true:=by kernel_rfl) (hf:Region.free md ops listed i=true:=by kernel_rfl) (hr:(Region.ready md ops listed).contains i=true:=by kernel_rfl) (hik:(i==k)=false:=by kernel_rfl)
  (hQ:∀c a w,Q (.panic c) (a.put oi.dst v) w->Q (.panic c) a w:=by exact(λ_ _ _ h=>h)) (hS:listed.getD k true=false->S w:=by exact(λ_=>by assumption)):zaq P md ops Q S k (fuel+1) listed a w :=
 zbk hi hs hf hr hik hQ hy hS h
def AllReadyP (P:Program) (md:Region.Mode) (ops:Array Oper) (Q:Exit->Act->World->Prop) (S:World->Prop) (k:Nat) (fuel:Nat) (listed:Array Bool) (a:Act) (w:World) (rs:List Nat):Prop :=
 ∀i ∈ rs,wpOp P ops Q i (λa' w'=>((listed.setIfInBounds i true).getD k true=false->S w')/\zaq P md ops Q S k fuel (listed.setIfInBounds i true) a' w') a w
theorem AllReadyP.nil {P ops Q md S k fuel listed a w}:AllReadyP P md ops Q S k fuel listed a w []:=λ_ h=>by cases h
theorem AllReadyP.cons {P ops Q md S k fuel listed a w i o rs} (ho:ops[i]?=some o) (h:∀K':Act->World->Prop,Shut (∀a w,((listed.setIfInBounds i true).getD k true=false->S w)->(((listed.setIfInBounds i true).getD k true=false->S w)->zaq P md ops Q S k fuel (listed.setIfInBounds i true) a w)->K' a w)->if Region.wanted o (yielded ops a.tmps)=true then Oper.wp P o a w K' Q else K' (a.put o.dst undef) w) (hs:AllReadyP P md ops Q S k fuel listed a w rs):AllReadyP P md ops Q S k fuel listed a w (i :: rs):=λj hj=>by
 rcases List.mem_cons.1 hj with rfl|hj
 ·exact wpOp_step ho (λK' hK=>h K' (λa w hS hW=>hK a w ⟨hS,hW hS⟩))
 ·exact hs j hj
theorem zfI {P ops Q md S k rs fuel listed a w} (hr:Region.ready md ops listed=rs) (hne:rs≠[]) (h:AllReadyP P md ops Q S k fuel listed a w rs):zaq P md ops Q S k (fuel+1) listed a w:=⟨λh0=>absurd (hr ▸ h0) hne,hr ▸ h⟩
theorem zgJ {P ops Q md S k listed a w} (hr:Region.ready md ops listed=[]) (h:Q .normal a w) :
  ∀fuel,zaq P md ops Q S k fuel listed a w
 | 0=>⟨hr,h⟩
 | _+1=>⟨λ_=>h,by rw[hr];simp⟩
theorem rdP {P ops Q md} {S:World->Prop} {k fuel listed a w o} (i:Nat) (h:∀K':Act->World->Prop,Shut (∀a w,((listed.setIfInBounds i true).getD k true=false->S w)->(((listed.setIfInBounds i true).getD k true=false->S w)->zaq P md ops Q S k fuel (listed.setIfInBounds i true) a w)->K' a w)->if Region.wanted o (yielded ops a.tmps)=true then Oper.wp P o a w K' Q else K' (a.put o.dst undef) w)
  (ho:ops[i]?=some o:=by exact rfl) (hr:Region.ready md ops listed=[i]:=by kernel_rfl):zaq P md ops Q S k (fuel+1) listed a w:=zfI hr (by simp) (AllReadyP.cons ho h AllReadyP.nil)
theorem dnP {P ops Q md} {S:World->Prop} {k fuel listed a w} (h:Q .normal a w) (hr:Region.ready md ops listed=[]:=by kernel_rfl):zaq P md ops Q S k fuel listed a w:=zgJ hr h fuel
theorem zaR {P ops Q S id a w} (k:Nat) (hm:P.follows .mixedOrders=true) (hS:S w.drew) (h:S w.drew->zaq P .any ops Q S k ops.size (Array.replicate ops.size false) a w.drew):(Code.region id ops true).wp P Q a w :=
 wp_region_any hm (zck _ _ _ _ (h hS))
theorem zhJ {P ops Q md S k i oi v} (hi:ops[i]?=some oi) (hsel:∀(j:Nat) (o:Oper) cs b,ops[j]?=some o->o.op≠.select cs b) (hQ:∀c a w,Q (.panic c) (a.put oi.dst v) w->Q (.panic c) a w) (hd:i ∈ zgD md ops ops.size [k]) :
  ∀(fuel:Nat) (listed:Array Bool) (a:Act) (w:World),
   (∀j oj,ops[j]?=some oj->j≠i->listed.getD j true=false->(∀e ∈ oj.after,Region.binds md e=true->e.on≠i)->oi.apart ops oj=true) ->
   i ∈ Region.ready md ops listed->listed.getD k true=false->(∀a b,listed.getD a false=true->b ∈ depsOf md ops a->listed.getD b false=true)->YieldsIf P ops S oi v a->S w ->
   zaq P md ops Q S k fuel (listed.setIfInBounds i true) (a.put oi.dst v) w->zaq P md ops Q S k (fuel+1) listed a w:=by
 intro fuel
 induction fuel with
 | zero =>
  intro listed a w _ hr _ _ hy hS H;refine⟨λh=>(by rw[h]at hr;cases hr),λj hj=>?_⟩;by_cases hji:j=i
  ·subst hji;exact hy.wpOp hi hS ⟨λ_=>hS,H⟩
  ·have:=ready_mono hj hji;rw[H.1]at this
   cases this
 | succ fuel ih =>
  intro listed a w hfree hr hk hcl hy hS H;refine⟨λh=>(by rw[h]at hr;cases hr),λj hj=>?_⟩;by_cases hji:j=i
  ·subst hji;exact hy.wpOp hi hS ⟨λ_=>hS,H⟩
  ·have h1:=H.2 j (ready_mono hj hji);obtain⟨hjun,oj,hoj,hall⟩:=mem_ready.1 hj;have hil:listed.getD i false=true->False:=λh=>by
    have h0:=(mem_ready.1 hr).1;rcases Nat.lt_or_ge i listed.size with h'|h'
    ·simp[h']at h0 h;rw[h0]at h;cases h
    ·simp[Array.getElem?_eq_none h']at h
   have hjd:∀b,b ∈ depsOf md ops j->listed.getD b false=true:=λb hb=>by
    obtain⟨o',ho',e,he,hb',rfl⟩:=mem_deps.1 hb;obtain⟨_,oj',hoj',hall'⟩:=mem_ready.1 hj;obtain rfl:o'=oj':=Option.some.inj (ho'.symm.trans hoj');exact hall' e he hb'
   have hjk:j≠k:=λe=>by
    subst e;exact hil (zce hcl ops.size [j] (λa ha b hb=>by simp at ha;subst ha;exact hjd b hb) i hd)
   have hik:i≠k:=λe=>by
    subst e;refine hil (zce hcl ops.size [i] (λa ha b hb=>?_) i hd);simp at ha;subst ha
    obtain⟨o',ho',e,he,hb',rfl⟩:=mem_deps.1 hb;obtain⟨_,oi',hoi',hall'⟩:=mem_ready.1 hr;obtain rfl:o'=oi':=Option.some.inj (ho'.symm.trans hoi');exact hall' e he hb'
   have hnot:∀e ∈ oj.after,Region.binds md e=true->e.on≠i:=λe he hb heq=>zdL hr hj (mem_deps.2 ⟨oj,hoj,e,he,hb,heq⟩)
   have h2:=wpOp_putIf hoj (hfree j oj hoj hji hjun hnot) (λcs b=>hsel i oi cs b hi) (λcs b=>hsel j oj cs b hoj) hQ hy h1;have hfree':∀k ok,ops[k]?=some ok->k≠i->(listed.setIfInBounds j true).getD k true=false ->
     (∀e ∈ ok.after,Region.binds md e=true->e.on≠i)->oi.apart ops ok=true:=λk ok hk hki hun hno=>by
    refine hfree k ok hk hki ?_ hno;by_cases hjk:j=k
    ·subst hjk;exact hjun
    ·rw[getD_set_ne true hjk]at hun;exact hun
   have hk':(listed.setIfInBounds j true).getD k true=false:=by rw[getD_set_ne true hjk];exact hk
   have hk2:((listed.setIfInBounds i true).setIfInBounds j true).getD k true=false:=by rw[getD_set_ne true hjk,getD_set_ne true hik];exact hk
   have hcl':∀a b,(listed.setIfInBounds j true).getD a false=true->b ∈ depsOf md ops a->(listed.setIfInBounds j true).getD b false=true:=λa b ha hb=>by
    by_cases e:a=j
    ·subst e;exact getD_set_true (hjd b hb)
    ·rw[getD_set_ne false (Ne.symm e)]at ha;exact getD_set_true (hcl a b ha hb)
   refine wpOp_mono (λa' w' h3=>⟨λ_=>h3.2.1 hk2,ih (listed.setIfInBounds j true) a' w' hfree' (ready_mono hr (Ne.symm hji)) hk' hcl' h3.1 (h3.2.1 hk2) ?_⟩) h2;rw[Array.setIfInBounds_comm _ _ hji];exact h3.2.2
def zli (md:Region.Mode) (ops:Array Oper) (listed:Array Bool):Bool:=(List.range listed.size).all (λa=>!(listed.getD a false) || (depsOf md ops a).all (λb=>listed.getD b false))
theorem zlh {md ops listed} (h:zli md ops listed=true):∀a b,listed.getD a false=true->b ∈ depsOf md ops a->listed.getD b false=true:=λa b ha hb=>by
 rcases Nat.lt_or_ge a listed.size with hl|hl
 ·have:=List.all_eq_true.1 h a (List.mem_range.2 hl);rw[ha]at this
  have h2:=List.all_eq_true.1 (show(depsOf md ops a).all (λb=>listed.getD b false)=true from(by simpa only[Bool.not_true,Bool.false_or]using this)) b hb;exact h2
 ·simp[Array.getElem?_eq_none hl]at ha
theorem zfH {P ops Q md S k i oi v fuel listed a w} (hi:ops[i]?=some oi) (hs:Region.noSelect ops=true) (hf:Region.free md ops listed i=true) (hr:(Region.ready md ops listed).contains i=true) (hd:(zgD md ops ops.size [k]).contains i=true) (hk:listed.getD k true=false) (hc:zli md ops listed=true) (hQ:∀c a w,Q (.panic c) (a.put oi.dst v) w->Q (.panic c) a w) (hy:YieldsIf P ops S oi v a) (hS:S w) (h:zaq P md ops Q S k fuel (listed.setIfInBounds i true) (a.put oi.dst v) w):zaq P md ops Q S k (fuel+1) listed a w :=
 zhJ hi (Region.noSelect_spec hs) hQ (by simpa using hd) fuel listed a w (Region.free_spec hi hf) (by simpa using hr) hk (zlh hc) hy hS h
theorem tkP {P:Program} {ops:Array Oper} {Q:Exit->Act->World->Prop} {md:Region.Mode} {S:World->Prop} {k:Nat} {oi:Oper} {v:Value} {fuel:Nat} {listed:Array Bool} {a:Act} {w:World} (i:Nat) (h:zaq P md ops Q S k fuel (listed.setIfInBounds i true) (a.put oi.dst v) w)
  (hi:ops[i]?=some oi:=by exact rfl) (hy:YieldsIf P ops S oi v a:=by (refine Or.inl ⟨by rfl,?_⟩;intro w0 hSw;(try dsimp only at hSw);go_simp <;> with_reducible rfl))
  (hs:Region.noSelect ops=true:=by kernel_rfl) (hf:Region.free md ops listed i=true:=by kernel_rfl) (hr:(Region.ready md ops listed).contains i=true:=by kernel_rfl) (hd:(zgD md ops ops.size [k]).contains i=true:=by kernel_rfl) (hk:listed.getD k true=false:=by kernel_rfl) (hc:zli md ops listed=true:=by kernel_rfl)
  (hQ:∀c a w,Q (.panic c) (a.put oi.dst v) w->Q (.panic c) a w:=by exact(λ_ _ _ h=>h)) (hS:S w:=by assumption):zaq P md ops Q S k (fuel+1) listed a w :=
 zfH hi hs hf hr hd hk hc hQ hy hS h
def Gr (K base:Nat) (w:World) (v:Value) (p:List Rat):Prop:=∃T:Nat->Nm,RowG 24 3 base w v p.length (zar (rls p.length T))/\∀(j:Nat) (q:Rat),p[j]?=some q->Rn K w (T j).s (T j).x (T j).n (T j).c (T j).f (T j).y (T j).m (T j).d (T j).g q
theorem zii (K base:Nat) (w:World):Gr K base w (slice none 0 0) []:=⟨λ_=>⟨false,none,0,0,λ_=>0,none,0,0,λ_=>0⟩,zao _ _ _ _,λj q h=>by simp at h⟩
theorem Gr.q_ {K base w w' v p} (h:Gr K base w v p) (hb:Bl w w'):Gr K base w' v p:=by
 obtain⟨T,h1,h2⟩:=h;exact⟨T,h1.q_ hb,λj q e=>(h2 j q e).q_ hb⟩
theorem zdo {K base w0 w' p T g cap s x n c f y m d gg q} (hT:∀(j:Nat) (q:Rat),p[j]?=some q->Rn K w0 (T j).s (T j).x (T j).n (T j).c (T j).f (T j).y (T j).m (T j).d (T j).g q) (hr:RowG 24 3 base w' (slice (some ⟨g,0,none⟩) (p.length+1) cap) (p.length+1) (zar (rls p.length T)++#[Value.bool s,slice x n c,slice y m d].toList)) (hk:Kp w0 w') (hq:Rn K w0 s x n c f y m d gg q):Gr K base w' (slice (some ⟨g,0,none⟩) (p.length+1) cap) (p++[q]):=by
 refine⟨zaG T p.length ⟨s,x,n,c,f,y,m,d,gg⟩,?_,λj q' e=>?_⟩
 ·rw[List.length_append,List.length_singleton,zcY];exact hr
 ·by_cases hj:j<p.length
  ·rw[List.getElem?_append_left hj]at e
   rw[putN_ne (by omega)];exact Rn.kp (hT j q' e) hk
  ·rw[List.getElem?_append_right (by omega)]at e
   have h0:j-p.length=0:=by
    rcases Nat.eq_zero_or_pos (j-p.length)with h|h
    ·exact h
    ·rw[List.getElem?_eq_none (by simp;omega)]at e;cases e
   have hjj:j=p.length:=by omega
   subst hjj;rw[h0]at e
   cases e
   rw[zbD];exact Rn.kp hq hk
theorem Gr.rf {K base w ao n cap p} (h:Gr K base w (.slice ao n cap) p):Rf K w ao p:=λj q hj=>by
 obtain⟨T,h1,h2⟩:=h;have hl:j<p.length:=by
  rcases Nat.lt_or_ge j p.length with h|h
  ·exact h
  ·rw[List.getElem?_eq_none h]at hj;cases hj
 have hn:n=p.length:=by
  obtain⟨ao',cap',e⟩:=h1.slice;cases e;rfl
 subst hn;obtain⟨b,e,hc⟩:=zcX h1 hl;exact⟨b,0,T j,e,hc,h2 j q hj⟩
theorem Gr.slice {K base w v p} (h:Gr K base w v p):∃ao cap,v=.slice ao p.length cap/\p.length<=cap/\cap<=9223372036854775807:=by
 obtain⟨T,h1,h2⟩:=h;obtain⟨ao,cap,rfl⟩:=h1.slice;refine⟨ao,cap,rfl,?_⟩;rcases h1.2 with⟨hv,h0⟩|⟨_,_,_,hv,_,_,h5,h6,_⟩
 ·injection hv with _ e2 e3;omega
 ·injection hv with _ _ e3;subst e3;unfold maxLen at h6;omega
def zaZ (xs:List Rat) (t:Int × Rat):Rat:=t.2*xs.getD t.1.toNat 0
def zas (xs:List Rat) (r:RV):Rat:=zcm (r.ts.map (zaZ xs)) 0
def KA (L:Nat):Nat:=4+64*(2*L+1+1)
theorem zbf {α β:Type} (f:α->β) (l:List α) (i:Nat) (v:α) (h:l[i]?=some v):(l.take (i+1)).map f=(l.take i).map f++[f v]:=by
 rw[List.take_add_one,h,List.map_append];rfl
theorem zac {α β:Type} (f:α->β) (l:List α) (i:Nat) (h:i<=l.length):((l.take i).map f).length=i:=by simp;omega
theorem zmJ {w L M off cs rs ao k cap xs} (h:MoV L w M off cs rs) (hx:Rf L w ao xs) (hk:xs.length=k) (hcol:∀r ∈ rs,∀t ∈ r.ts,0<=t.1/\t.1<(k:Int)) (hrk:rs.length<=64) (htk:∀r ∈ rs,r.ts.length<=64) (hL:L<=100) :
  Calls prog 27 #[M.val,slice ao k cap] w λe w'=>∃a c,e=returned (slice a rs.length c)/\Bl w w'/\(rs.length<=c/\c<=9223372036854775807)/\Hid (Rf (KA L) w' a (rs.map (zas xs))):=by
 have hrk2:=h.rk;have hR:=h.rls;clear h;obtain⟨⟨s,x,n,c,f,y,m,d,g⟩,ca,ck,cc,C,ra,rk,rc,R⟩:=M;replace hrk2:rk=rs.length:=hrk2;have HR:Hid (∀j v,rs[j]?=some v->(∃b o,ra=some ⟨b,o,none⟩/\Cs w b (o+j*10) (R j).vs)/\RowV L w (R j) v):=hR;subst hrk2;have HX:=zk hx;have HCol:=zk hcol;have HTk:=zk htk
 clear hR hx hcol htk;have hb0:=zF w (cells #[.bool s,slice x n c,slice y m d,slice ca ck cc,slice ra rs.length rc] 28);have HB0:=zk hb0;obtain⟨-,-,-,-,k4⟩:=bk5 (zJ w [.bool s,slice x n c,slice y m d,slice ca ck cc,slice ra rs.length rc] 28);clear hb0;show Calls prog 27 #[agg #[.bool s,slice x n c,slice y m d,slice ca ck cc,slice ra rs.length rc],slice ao k cap] w _;go_enter func27,ntmps27;go_wp2_with fail
 generalize w.alloc (cells #[.bool s,slice x n c,slice y m d,slice ca ck cc,slice ra rs.length rc] 28)=w0 at *;go_loopw[5,14] (λov t wr=>∃(i:Nat),i<=rs.length/\t=.int .i64 i/\Hid (Bl w wr)/\Hid (Gr (KA L) w.heap.size wr ov ((rs.take i).map (zas xs)))) (λ_ t _=>rs.length-(intOf t).toNat)
 case atStart=>exact⟨0,by omega,rfl,HB0,zii _ _ _⟩
 case round =>
  clear k4 HB0;obtain⟨i,hi,rfl,HB,HG⟩:=hrel;by_cases hlt:i<rs.length
  ·obtain⟨v,hv⟩:∃t,rs[i]?=some t:=⟨_,getElem?_eq_getElem (by omega)⟩;have hvm:=List.mem_of_getElem? hv;obtain⟨⟨b,o,hra,hc⟩,hRV⟩:=HR.out i v hv;subst hra;obtain⟨⟨z,⟨i1,⟨s1,x1,n1,c1,f1,y1,m1,d1,g1⟩⟩,⟨i2,⟨s2,x2,n2,c2,f2,y2,m2,d2,g2⟩⟩,ta,tk,tc,tcol,tt⟩,hCi⟩:∃t,R i=t:=⟨_,rfl⟩;rw[hCi]at hc hRV
   replace hc:=Cs.q_ hc HB.out;obtain⟨q0,q1,q2,q3,q4,q5,q6,q7,q8,q9⟩:=hc.lr;have hb1:=zF wr (cells #[.string z,.int .i64 i1,.bool s1,slice x1 n1 c1,slice y1 m1 d1,.int .i64 i2,.bool s2,slice x2 n2 c2,slice y2 m2 d2,slice ta tk tc] 62);obtain⟨-,-,-,-,-,-,-,-,-,b9⟩:=zdH (zJ wr [.string z,.int .i64 i1,.bool s1,slice x1 n1 c1,slice y1 m1 d1,.int .i64 i2,.bool s2,slice x2 n2 c2,slice y2 m2 d2,slice ta tk tc] 62);have HTS:Hid (∀p z q,v.ts[p]?=some (z,q)->tcol p=z/\NmV L w (tt p) q/\∃b o,ta=some ⟨b,o,none⟩/\C4 w b (o+p*4) (.int .i64 (tcol p)) (.bool (tt p).s) (.slice (tt p).x (tt p).n (tt p).c) (.slice (tt p).y (tt p).m (tt p).d)):=hRV.tl;have htk2:tk=v.ts.length:=hRV.tk;subst htk2;have htk3:=HTk.out v hvm;have HC2:=zk (HCol.out v hvm);have HV:=zk hv;have HB1:=zP HB hb1;have HG1:=zk (HG.out.q_ hb1)
   have i1':((i:Nat):Int)<((rs.length:Nat):Int):=by omega
   clear hCi hc hRV hb1 hv hvm HB HG;go_wp2_with fail
   clear q0 q1 q2 q3 q4 q5 q6 q7 q8 q9;generalize wr.alloc (cells #[.string z,.int .i64 i1,.bool s1,slice x1 n1 c1,slice y1 m1 d1,.int .i64 i2,.bool s2,slice x2 n2 c2,slice y2 m2 d2,slice ta v.ts.length tc] 62)=wI at *;clear b9;go_loopw[8,21] (λvv t wz=>∃(p:Nat),p<=v.ts.length/\t=.int .i64 p/\Hid (Bl wI wz)/\Hid (Gr (2*L+1) wI.heap.size wz vv ((v.ts.take p).map (zaZ xs)))) (λ_ t _=>v.ts.length-(intOf t).toNat)
   case atStart=>exact⟨0,by omega,rfl,Below.refl _ _,zii _ _ _⟩
   case round =>
    obtain⟨p,hp,rfl,HB2,HG2⟩:=hrel;by_cases hlp:p<v.ts.length
    ·obtain⟨⟨tz,tq⟩,htv⟩:∃t,v.ts[p]?=some t:=⟨_,getElem?_eq_getElem (by omega)⟩;obtain⟨h1,h2,b2,o2,hta,h4⟩:=HTS.out p tz tq htv;obtain⟨hz0,hz1⟩:=HC2.out (tz,tq) (List.mem_of_getElem? htv);replace hz0:0<=tz:=hz0;replace hz1:tz<(k:Int):=hz1;obtain⟨zn,rfl⟩:=Int.eq_ofNat_of_zero_le hz0;subst hta;obtain⟨r,hr⟩:∃t,xs[zn]?=some t:=⟨_,getElem?_eq_getElem (by omega)⟩;have hbz:=bUp HB1.out HB2.out;obtain⟨b',o',⟨ss,sx,sn,sc,sf,sy,sm,sd,sg⟩,hax,⟨p0,p1,p2⟩,hr'⟩:=(HX.out.q_ hbz) zn r hr;subst hax;obtain⟨⟨ts,tx,tn,tc2,tf,ty,tm,td,tg⟩,hTp⟩:∃t,tt p=t:=⟨_,rfl⟩;rw[hTp,h1]at h4
     rw[hTp]at h2
     obtain⟨x0,x1,x2,x3⟩:=h4.q_ hbz;replace x0:wr.cell? ⟨b2,o2+p*4,none⟩=some (.int .i64 zn):=x0;replace x1:wr.cell? ⟨b2,o2+p*4+1,none⟩=some (.bool ts):=x1;replace x2:wr.cell? ⟨b2,o2+p*4+2,none⟩=some (slice tx tn tc2):=x2;replace x3:wr.cell? ⟨b2,o2+p*4+3,none⟩=some (slice ty tm td):=x3;replace p0:wr.cell? ⟨b',o'+zn*3,none⟩=some (.bool ss):=p0;replace p1:wr.cell? ⟨b',o'+zn*3+1,none⟩=some (slice sx sn sc):=p1;replace p2:wr.cell? ⟨b',o'+zn*3+2,none⟩=some (slice sy sm sd):=p2;have h2r:Rn L w ts tx tn tc2 tf ty tm td tg tq:=h2;have hr2:Rn L wr ss sx sn sc sf sy sm sd sg r:=hr';have hbt:=zF wr (cells #[.int .i64 zn,.bool ts,slice tx tn tc2,slice ty tm td] 64);obtain⟨a0,a1,a2,a3⟩:=bk4 (zJ wr [.int .i64 zn,.bool ts,slice tx tn tc2,slice ty tm td] 64);have i2':((p:Nat):Int)<((v.ts.length:Nat):Int):=by omega
     have i3':((zn:Nat):Int)<((k:Nat):Int):=by omega
     have HTV:=zk htv;have HRR:=zk hr
     clear htv hr hz0 hz1 h1 h2 h4 hTp hr';go_upto_region 9 with fail
     clear x0 x1 x2 x3;replace p0:=kCb hbt p0;replace p1:=kCb hbt p1;replace p2:=kCb hbt p2
     have HB3:=zP HB2 hbt;have HG3:=zk (HG2.out.q_ hbt);have R1:=zk ((h2r.q_ hbz).q_ hbt);have R2:=zk (hr2.q_ hbt)
     clear hbz hbt h2r hr2 HB2 HG2;generalize hbx:wr.heap.size=bx at *;generalize wr.alloc (cells #[.int .i64 zn,.bool ts,slice tx tn tc2,slice ty tm td] 64)=w5 at *;clear hbx;refine zaR (S:=(λw'=>w'.cell? ⟨bx,0,none⟩=some (.int .i64 zn)/\w'.cell? ⟨bx,1,none⟩=some (.bool ts)/\w'.cell? ⟨bx,2,none⟩=some (slice tx tn tc2)/\w'.cell? ⟨bx,3,none⟩=some (slice ty tm td)/\w'.cell? ⟨b',o'+zn*3,none⟩=some (.bool ss)/\w'.cell? ⟨b',o'+zn*3+1,none⟩=some (slice sx sn sc)/\w'.cell? ⟨b',o'+zn*3+2,none⟩=some (slice sy sm sd))) 8 (by kernel_rfl) ⟨kCd a0,kCd a1,kCd a2,kCd a3,kCd p0,kCd p1,kCd p2⟩ (λhHeld=>?_);refine skP 0 ?_;refine skP 1 ?_;refine tkP 2 ?_;simp only[zw,Act.put];refine skP 3 ?_;refine skP 4 ?_;refine tkP 5 ?_;simp only[zw,Act.put];refine skP 6 ?_;refine tkP 7 ?_;simp only[zw,Act.put];refine rdP 8 (λK hK=>?_);go_simp
     go_at_call 28
     refine(zdf (L:=L) (zgn R1.out) (zgn R2.out) (by omega)).mono ?_;rintro e w6 ⟨s6,x6,n6,c6,f6,y6,m6,d6,g6,rfl,hb6,hq6⟩
     (try go_wp2_with fail)
     refine hK.out _ _ (λh=>by cases h) (λ_=>?_);clear hK K;try simp only[zw,Act.put]
     refine rdP 9 (λK hK=>?_);go_simp;refine hK.out _ _ (λh=>by cases h) (λ_=>?_);clear hK K;try simp only[zw,Act.put]
     refine rdP 10 (λK hK=>?_);obtain⟨T,hrow,hT⟩:=(Gr.q_ HG3.out (Below.drew (Below.refl w5.heap.size w5))).q_ hb6;rw[zac _ _ _ (by omega)]at hrow
     refine zat w6 rfl (.tmp 25) (.tmp 34) 29 rfl wI.heap.size 24 56 3 (agg #[.bool false,slice none 0 0,slice none 0 0]) underlying29 zbg rfl (by decide) nz3 u8 p _ rfl hrow #[.bool s6,slice x6 n6 c6,slice y6 m6 d6] rfl rfl (zeM _ _ _ _ _ _ _) (zdy _ _ _ _ _ _ _) (by omega) (by decide) ?hz ?_
     case hz=>exact(HB3.out.drew.trans (hb6.mono HB3.out.drew.size)).size
     intro g8 cap8 w8 hr8 hk8 hb8 hg8;have HB8:Hid (Bl wI w8):=hb8 wI (HB3.out.drew.trans (hb6.mono HB3.out.drew.size)) (le_refl _);have HG8:Hid (Gr (2*L+1) wI.heap.size w8 (slice (some ⟨g8,0,none⟩) (p+1) cap8) ((v.ts.take (p+1)).map (zaZ xs))):=by
      have hl:=zac (zaZ xs) v.ts p (by omega);have hp8:=zdo (p:=(v.ts.take p).map (zaZ xs)) hT (by rw[hl];exact hr8) hk8 hq6;rw[hl]at hp8
      rw[zbf (zaZ xs) v.ts p _ HTV.out];have e9:zaZ xs ((zn:Int),tq)=tq*r:=by
       show tq*xs.getD (zn:Int).toNat 0=tq*r;rw[Int.toNat_natCast,List.getD_eq_getElem?_getD,HRR.out];rfl
      rw[e9];exact hp8
     clear hr8 hk8 hb8 hg8 hrow hT hb6 hq6 HG3 HB3 R1 R2;refine hK.out _ _ (λh=>by cases h) (λ_=>?_);clear hK K;simp only[List.getElem_toArray,List.getElem_cons_succ,List.getElem_cons_zero,Act.put,List.setIfInBounds_toArray,List.set_cons_zero,List.set_cons_succ];refine zbk (i:=11) (v:=?_) rfl (by kernel_rfl) (by kernel_rfl) (by kernel_rfl) (by kernel_rfl) (λ_ _ _ h=>h) (Or.inl ⟨by rfl,?_⟩) (λh=>by cases h) ?_;rotate_left
     (focus (intro w0 hSw;go_simp <;> with_reducible rfl))
     simp only[List.getElem_toArray,List.getElem_cons_succ,List.getElem_cons_zero,Act.put,List.setIfInBounds_toArray,List.set_cons_zero,List.set_cons_succ];refine dnP ?_;clear hHeld a0 a1 a2 a3 p0 p1 p2;go_wp2;go_roundw
     case rel=>exact⟨p+1,by omega,by go_num,HB8.out,HG8.out⟩
     case measure=>simp[intOf];omega
    ·have e1:p=v.ts.length:=by omega
     have i4':¬(((p:Nat):Int)<((v.ts.length:Nat):Int)):=by omega
     obtain⟨va,vc,hvs,hvc⟩:=HG2.out.slice;rw[zac _ _ _ (by omega)]at hvs
     have HG4:=HG2.out;rw[hvs]at HG4
     replace HG4:=zk (show Rf (2*L+1) wr va (v.ts.map (zaZ xs)) by have:=HG4.rf;rw[List.take_of_length_le (by omega)]at this;exact this);subst hvs;have HBq:=zP HB1 HB2.out;have HGq:=zk (HG1.out.q_ HB2.out)
     clear HG2 HB2 HB1 HG1 HTS HC2;go_wp2_with fail
     refine(zlF (L:=2*L+1) HG4.out (by rw[List.length_map]) (by omega) (by omega)).mono ?_;rintro e w6 ⟨s6,x6,n6,c6,f6,y6,m6,d6,g6,rfl,hb6,hq6⟩;obtain⟨T,hrow,hT⟩:=HGq.out.q_ hb6;rw[zac _ _ _ (by omega)]at hrow
     have hsz:=(bUp HBq.out hb6).size;have HB6:=zP HBq hb6;have HQ6:=zk (show Rn (KA L) w6 s6 x6 n6 c6 f6 y6 m6 d6 g6 (zas xs v)from hq6.mono (by unfold KA;have:v.ts.length*(2*L+1+1)<=64*(2*L+1+1):=Nat.mul_le_mul_right _ (by omega);omega));clear hb6 hq6 HGq HG4 HBq;go_wp2_with(at_builtin;go_must (refine zS w6 rfl (.tmp 37) (.tmp 40) 29 rfl w.heap.size 24 56 3 (agg #[.bool false,slice none 0 0,slice none 0 0]) underlying29 zbg rfl (by decide) nz3 u5 i _ rfl hrow #[.bool s6,slice x6 n6 c6,slice y6 m6 d6] rfl rfl (zeM _ _ _ _ _ _ _) (zdy _ _ _ _ _ _ _) ?p1 (by decide) hsz ?_))
     case p1=>omega
     intro g8 cap8 w8 hr8 hk8 hb8 hg8;have HB8:=zk (hb8 w HB6.out (le_refl _));have HG8:Hid (Gr (KA L) w.heap.size w8 (slice (some ⟨g8,0,none⟩) (i+1) cap8) ((rs.take (i+1)).map (zas xs))):=by
      have hl:=zac (zas xs) rs i (by omega);have hp8:=zdo (p:=(rs.take i).map (zas xs)) hT (by rw[hl];exact hr8) hk8 HQ6.out;rw[hl]at hp8
      rw[zbf (zas xs) rs i _ HV.out];exact hp8
     clear hr8 hk8 hb8 hg8 hrow hT HQ6 HB6 hsz;go_wp2;go_roundw
     case rel=>exact⟨i+1,by omega,by go_num,HB8.out,HG8.out⟩
     case measure=>simp[intOf];omega
  ·have e1:i=rs.length:=by omega
   have i4':¬(((i:Nat):Int)<((rs.length:Nat):Int)):=by omega
   obtain⟨va,vc,hvs,hvc⟩:=HG.out.slice;rw[zac _ _ _ (by omega)]at hvs hvc
   have HG4:=HG.out;rw[hvs]at HG4
   replace HG4:=zk (show Rf (KA L) wr va (rs.map (zas xs)) by have:=HG4.rf;rw[List.take_of_length_le (by omega)]at this;exact this);subst hvs;have HE:=zk (show rs.length=i by omega);have HV4:=zk hvc;clear HG e1 hvc;go_wp2;go_ret;exact⟨va,vc,by rw[HE.out];rfl,HB.out,by rw[HE.out];exact HV4.out,HG4.out⟩
def kx (p:Bool):Int:=if p then 0 else 3
theorem Rn.en0 {L w s x n c f y m d g q} (h:Rn L w s x n c f y m d g q):En L w 0 s x n c f y m d g q:=⟨h,.inl rfl⟩
def ks (p:Bool) (n2:Nat):Int:=if p then (if n2=0 then 4 else 0) else 3
theorem zmq {w i1 s1 x1 n1 c1 f1 y1 m1 d1 g1 i2 s2 x2 n2 c2 f2 y2 m2 d2 g2 qa qb p1 p2} (h1:Rw w x1 n1 c1 f1 y1 m1 d1 g1) (h2:Rw w x2 n2 c2 f2 y2 m2 d2 g2) (hn1:n1<=4096) (hm1:m1<=4096) (hn2:n2<=4096) (hm2:m2<=4096) (hp1:efB i1 s1 f1 n1 g1 m1=p1) (hp2:efB i2 s2 f2 n2 g2 m2=p2) (hq1:p1=true->En 4096 w i1 s1 x1 n1 c1 f1 y1 m1 d1 g1 qa) (hq2:p2=true->En 4096 w i2 s2 x2 n2 c2 f2 y2 m2 d2 g2 qb) :
  Calls prog 52 #[agg #[.int .i64 i1,.bool s1,slice x1 n1 c1,slice y1 m1 d1],agg #[.int .i64 i2,.bool s2,slice x2 n2 c2,slice y2 m2 d2]] w λe w'=>∃r er,e=returned (.tuple #[.int .i64 r,.int .i64 er])/\Bl w w'/\Hid (OC (p1 && p2) i1 qa i2 qb r er):=by
 have HP1:=zk hp1;have HP2:=zk hp2
 have k1:=(zbe w (.int .i64 i1) (.bool s1) (slice x1 n1 c1) (slice y1 m1 d1) 57).alloc (cells #[.int .i64 i2,.bool s2,slice x2 n2 c2,slice y2 m2 d2] 57);have k2:=zbe (w.alloc (cells #[.int .i64 i1,.bool s1,slice x1 n1 c1,slice y1 m1 d1] 57)) (.int .i64 i2) (.bool s2) (slice x2 n2 c2) (slice y2 m2 d2) 57;rw[zz]at k2
 have k3:=zu (zF w (cells #[.int .i64 i1,.bool s1,slice x1 n1 c1,slice y1 m1 d1] 57)) (cells #[.int .i64 i2,.bool s2,slice x2 n2 c2,slice y2 m2 d2] 57);have HQ1:=zk (λh=>(hq1 h).q_ k3);have HQ2:=zk (λh=>(hq2 h).q_ k3);have HR1:=zk (h1.q_ k3);have HR2:=zk (h2.q_ k3)
 clear hp1 hp2 hq1 hq2 h1 h2;go_enter func52,ntmps52;go_upto_region 1 with fail
 generalize(w.alloc (cells #[.int .i64 i1,.bool s1,slice x1 n1 c1,slice y1 m1 d1] 57)).alloc (cells #[.int .i64 i2,.bool s2,slice x2 n2 c2,slice y2 m2 d2] 57)=w1 at *;have HW:=zk k3;have BA:=zk k1;have BB:=zk k2
 clear k1 k2 k3;obtain⟨za,a0,a1,a2,a3⟩:=BA.out;obtain⟨zb,b0,b1,b2,b3⟩:=BB.out;go_wp2_with fail
 have cf:=λ(t:TypeId)=>ziv (zpE w1 (.int .i64 i1) (.bool s1) (slice x1 n1 c1) (slice y1 m1 d1) (.int .i64 i2) (.bool s2) (slice x2 n2 c2) (slice y2 m2 d2) t) (HR1.out.alloc _) (HR2.out.alloc _) (by omega) (by omega) (by omega) (by omega)
 rw[HP1.out,HP2.out]at cf
 refine(cf _).mono ?_;rintro e w2 ⟨rfl,hb⟩;have HB1:Hid (Bl w1 w2):=(zu (Below.refl _ _) _).trans (hb.mono (by simp));have HB:=zP HW HB1.out;clear hb cf za a0 a1 a2 a3 zb b0 b1 b2 b3;obtain⟨pp,hp⟩:∃pp,(p1 && p2)=pp:=⟨_,rfl⟩;have HPP:=zk hp;rw[hp];cases pp
 ·clear hp;go_wp2
  go_ret2
  exact⟨0,3,rfl,HB.out,.inl ⟨HPP.out,rfl,rfl⟩⟩
 have hpp:p1=true/\p2=true:=by simpa using hp
 have E1:=zk ((HQ1.out hpp.1).q_ HB1.out);have E2:=zk ((HQ2.out hpp.2).q_ HB1.out)
 clear hp hpp;obtain⟨za,a0,a1,a2,a3⟩:=BA.out.q_ HB1.out;obtain⟨zb,b0,b1,b2,b3⟩:=BB.out.q_ HB1.out;by_cases hz:i1=0/\i2=0
 ·obtain⟨rfl,rfl⟩:=hz;go_wp2_with fail
  refine(zpr E1.out.rn E2.out.rn (by omega)).mono ?_;rintro e w3 ⟨r,rfl,hb,hr⟩;have HB3:=zP HB hb;have HRr:=zk hr
  clear hb hr;go_wp2
  go_ret2
  refine⟨r,0,rfl,HB3.out,.inr ⟨HPP.out,rfl,?_⟩⟩;rcases HRr.out with⟨j1,j2⟩|⟨j1,j2⟩|⟨j1,j2⟩
  ·exact .inl ⟨j1,.inr ⟨rfl,j2⟩⟩
  ·exact .inr (.inl ⟨j1,rfl,j2⟩)
  ·exact .inr (.inr ⟨j1,.inr ⟨rfl,j2⟩⟩)
 ·have hcase:(i1 != 0)=true∨(i1 != 0)=false/\(i2 != 0)=true:=by
   by_cases h:i1=0
   ·right;subst h;exact⟨by simp,by simp;intro h;exact hz ⟨rfl,h⟩⟩
   ·left;simp;exact h
  have HEq:Hid (i1=i2->qa=qb):=by
   intro h;have j1:=E1.out.inf;have j2:=E2.out.inf
   rcases j1 with j1|j1
   ·exact absurd ⟨j1,by omega⟩ hz
   ·rcases j2 with j2|j2
    ·exact absurd ⟨by omega,j2⟩ hz
    ·rw[j1.2,j2.2]
  clear hz;rcases hcase with hc|⟨hc,hc2⟩
  all_goals
   go_wp2_with fail
   refine compare_c.mono ?_;rintro e w3 ⟨r,rfl,rfl,hr⟩;have HRr:=zk hr;clear hr;go_wp2
   go_ret2
   refine⟨r,0,rfl,HB.out,.inr ⟨HPP.out,rfl,?_⟩⟩;rcases HRr.out with⟨j1,j2⟩|⟨j1,j2⟩|⟨j1,j2⟩
   ·exact .inl ⟨j1,.inl j2⟩
   ·exact .inr (.inl ⟨j1,j2,HEq.out j2⟩)
   ·exact .inr (.inr ⟨j1,.inl j2⟩)
def zie (q:Rat) (li:Int) (lq:Rat) (hi:Int) (hq:Rat):Bool:=decide ((li<0∨li=0/\lq<=q)/\(0<hi∨hi=0/\q<=hq))
theorem EOrd.geq {c q i b} (h:EOrd c 0 q i b):0<=c ↔ (i<0∨i=0/\b<=q):=by
 rcases h with⟨rfl,h⟩|⟨rfl,h,h'⟩|⟨rfl,h⟩
 ·constructor
  ·intro h;omega
  ·rintro(h2|⟨h2,h3⟩)
   ·rcases h with h|⟨h,_⟩ <;> omega
   ·rcases h with h|⟨_,h⟩
    ·omega
    ·exact absurd h (Rat.not_lt.2 h3)
 ·exact⟨λ_=>.inr ⟨h.symm,by rw[h'];exact Rat.le_refl⟩,λ_=>by omega⟩
 ·exact⟨λ_=>by rcases h with h|⟨h,h2⟩;exact .inl h;exact .inr ⟨h.symm,Rat.le_of_lt h2⟩,λ_=>by omega⟩
theorem EOrd.leq {c q i b} (h:EOrd c 0 q i b):c<=0 ↔ (0<i∨i=0/\q<=b):=by
 rcases h with⟨rfl,h⟩|⟨rfl,h,h'⟩|⟨rfl,h⟩
 ·exact⟨λ_=>by rcases h with h|⟨h,h2⟩;exact .inl h;exact .inr ⟨h.symm,Rat.le_of_lt h2⟩,λ_=>by omega⟩
 ·exact⟨λ_=>.inr ⟨h.symm,by rw[h'];exact Rat.le_refl⟩,λ_=>by omega⟩
 ·constructor
  ·intro h;omega
  ·rintro(h2|⟨h2,h3⟩)
   ·rcases h with h|⟨h,_⟩ <;> omega
   ·rcases h with h|⟨_,h⟩
    ·omega
    ·exact absurd h (Rat.not_lt.2 h3)
theorem zjm {w s0 x0 n0 c0 f0 y0 m0 d0 g0 q i1 s1 x1 n1 c1 f1 y1 m1 d1 g1 q1 i2 s2 x2 n2 c2 f2 y2 m2 d2 g2 q2} (h0:Rn 4096 w s0 x0 n0 c0 f0 y0 m0 d0 g0 q) (h1:En 4096 w i1 s1 x1 n1 c1 f1 y1 m1 d1 g1 q1) (h2:En 4096 w i2 s2 x2 n2 c2 f2 y2 m2 d2 g2 q2) :
  Calls prog 30 #[agg #[.bool s0,slice x0 n0 c0,slice y0 m0 d0],agg #[.int .i64 i1,.bool s1,slice x1 n1 c1,slice y1 m1 d1],agg #[.int .i64 i2,.bool s2,slice x2 n2 c2,slice y2 m2 d2]] w λe w'=>e=returned (.bool (zie q i1 q1 i2 q2))/\Bl w w':=by
 have k3:=zu (zu (zu (zF w (cells #[.bool s0,slice x0 n0 c0,slice y0 m0 d0] 24)) (cells #[.int .i64 i1,.bool s1,slice x1 n1 c1,slice y1 m1 d1] 57)) (cells #[.int .i64 i2,.bool s2,slice x2 n2 c2,slice y2 m2 d2] 57)) (cells #[.int .i64 0,.bool s0,slice x0 n0 c0,slice y0 m0 d0] 57);have b1:Bx4 ((((w.alloc (cells #[.bool s0,slice x0 n0 c0,slice y0 m0 d0] 24)).alloc (cells #[.int .i64 i1,.bool s1,slice x1 n1 c1,slice y1 m1 d1] 57)).alloc (cells #[.int .i64 i2,.bool s2,slice x2 n2 c2,slice y2 m2 d2] 57)).alloc (cells #[.int .i64 0,.bool s0,slice x0 n0 c0,slice y0 m0 d0] 57)) (w.heap.size+1) (.int .i64 i1) (.bool s1) (slice x1 n1 c1) (slice y1 m1 d1):=by
  have:=((zbe (w.alloc (cells #[.bool s0,slice x0 n0 c0,slice y0 m0 d0] 24)) (.int .i64 i1) (.bool s1) (slice x1 n1 c1) (slice y1 m1 d1) 57).alloc (cells #[.int .i64 i2,.bool s2,slice x2 n2 c2,slice y2 m2 d2] 57)).alloc (cells #[.int .i64 0,.bool s0,slice x0 n0 c0,slice y0 m0 d0] 57);rw[zz]at this;exact this
 have b2:Bx4 ((((w.alloc (cells #[.bool s0,slice x0 n0 c0,slice y0 m0 d0] 24)).alloc (cells #[.int .i64 i1,.bool s1,slice x1 n1 c1,slice y1 m1 d1] 57)).alloc (cells #[.int .i64 i2,.bool s2,slice x2 n2 c2,slice y2 m2 d2] 57)).alloc (cells #[.int .i64 0,.bool s0,slice x0 n0 c0,slice y0 m0 d0] 57)) (w.heap.size+1+1) (.int .i64 i2) (.bool s2) (slice x2 n2 c2) (slice y2 m2 d2):=by
  have:=(zbe ((w.alloc (cells #[.bool s0,slice x0 n0 c0,slice y0 m0 d0] 24)).alloc (cells #[.int .i64 i1,.bool s1,slice x1 n1 c1,slice y1 m1 d1] 57)) (.int .i64 i2) (.bool s2) (slice x2 n2 c2) (slice y2 m2 d2) 57).alloc (cells #[.int .i64 0,.bool s0,slice x0 n0 c0,slice y0 m0 d0] 57);rw[zz,zz]at this;exact this
 have b3:Bx4 ((((w.alloc (cells #[.bool s0,slice x0 n0 c0,slice y0 m0 d0] 24)).alloc (cells #[.int .i64 i1,.bool s1,slice x1 n1 c1,slice y1 m1 d1] 57)).alloc (cells #[.int .i64 i2,.bool s2,slice x2 n2 c2,slice y2 m2 d2] 57)).alloc (cells #[.int .i64 0,.bool s0,slice x0 n0 c0,slice y0 m0 d0] 57)) (w.heap.size+1+1+1) (.int .i64 0) (.bool s0) (slice x0 n0 c0) (slice y0 m0 d0):=by
  have:=zbe (((w.alloc (cells #[.bool s0,slice x0 n0 c0,slice y0 m0 d0] 24)).alloc (cells #[.int .i64 i1,.bool s1,slice x1 n1 c1,slice y1 m1 d1] 57)).alloc (cells #[.int .i64 i2,.bool s2,slice x2 n2 c2,slice y2 m2 d2] 57)) (.int .i64 0) (.bool s0) (slice x0 n0 c0) (slice y0 m0 d0) 57;rw[zz,zz,zz]at this;exact this
 have E0:=zk ((Rn.en0 h0).q_ k3);have E1:=zk (h1.q_ k3);have E2:=zk (h2.q_ k3);have HB:=zk k3;have B1:=zk b1;have B2:=zk b2;have B3:=zk b3
 clear h0 h1 h2 k3 b1 b2 b3;go_enter func30,ntmps30;go_upto_region 2 with fail
 generalize((((w.alloc (cells #[.bool s0,slice x0 n0 c0,slice y0 m0 d0] 24)).alloc (cells #[.int .i64 i1,.bool s1,slice x1 n1 c1,slice y1 m1 d1] 57)).alloc (cells #[.int .i64 i2,.bool s2,slice x2 n2 c2,slice y2 m2 d2] 57)).alloc (cells #[.int .i64 0,.bool s0,slice x0 n0 c0,slice y0 m0 d0] 57))=w1 at *;obtain⟨za,a0,a1,a2,a3⟩:=B3.out;obtain⟨zb,l0,l1,l2,l3⟩:=B1.out;go_wp2_with fail
 refine(zmq E0.out.rn.rw E1.out.rn.rw E0.out.rn.ln E0.out.rn.ld E1.out.rn.ln E1.out.rn.ld E0.out.ef E1.out.ef (λ_=>E0.out) (λ_=>E1.out)).mono ?_;rintro e w2 ⟨r1,er1,rfl,hb,HO1⟩;replace HB:=zP HB hb;replace E0:=zk (E0.out.q_ hb);replace E2:=zk (E2.out.q_ hb);replace B2:=zk (B2.out.q_ hb);replace B3:=zk (B3.out.q_ hb)
 clear hb za a0 a1 a2 a3 zb l0 l1 l2 l3 E1 B1;obtain⟨za,a0,a1,a2,a3⟩:=B3.out;obtain⟨zb,l0,l1,l2,l3⟩:=B2.out;go_wp2_with fail
 refine(zmq E0.out.rn.rw E2.out.rn.rw E0.out.rn.ln E0.out.rn.ld E2.out.rn.ln E2.out.rn.ld E0.out.ef E2.out.ef (λ_=>E0.out) (λ_=>E2.out)).mono ?_;rintro e w3 ⟨r2,er2,rfl,hb,HO2⟩;replace HB:=zP HB hb;clear hb za a0 a1 a2 a3 zb l0 l1 l2 l3 E0 E2 B2 B3;have o1:EOrd r1 0 q i1 q1:=by rcases HO1.out with⟨h,_⟩|⟨_,_,h⟩;cases h;exact h
 have o2:EOrd r2 0 q i2 q2:=by rcases HO2.out with⟨h,_⟩|⟨_,_,h⟩;cases h;exact h
 have HK:Hid (zie q i1 q1 i2 q2=(decide (0<=r1) && decide (r2<=0))):=by
  show _=_;unfold zie;rw[<-Bool.decide_and];exact decide_eq_decide.2 (and_congr o1.geq.symm o2.leq.symm)
 clear o1 o2 HO1 HO2;by_cases c1:0<=r1
 ·have d1:decide (0<=r1)=true:=decide_eq_true c1;have HD:=zk d1;by_cases c2:r2<=0
  ·have HD2:=zk (decide_eq_true c2);go_wp2;go_ret;exact⟨by rw[HK.out,HD.out,HD2.out];rfl,HB.out⟩
  ·have HD2:=zk (decide_eq_false c2);go_wp2;go_ret;exact⟨by rw[HK.out,HD.out,HD2.out];rfl,HB.out⟩
 ·have d1:decide (0<=r1)=false:=decide_eq_false c1;have HD:=zk d1;go_wp2;go_ret;exact⟨by rw[HK.out,HD.out];rfl,HB.out⟩
theorem zcw {w B base u0 u1 u2 x n c f} (h:Own .u64 46 w base (slice x n c) n f) (hB:B<base):Own .u64 46 (((w.setCell ⟨B,0,none⟩ u0).setCell ⟨B,1,none⟩ u1).setCell ⟨B,2,none⟩ u2) base (slice x n c) n f :=
 h.of (λa ha=>by
  have hne:a.block≠B:=by have:=(h.slice.2.2.2.2 a ha).1;omega
  rw[Below.heap_setCell _ _ _ _ hne,Below.heap_setCell _ _ _ _ hne,Below.heap_setCell _ _ _ _ hne])
theorem zpH:(prog.info? 118).map (λi=>(i.zero,i.size,i.bytes))=some (some (agg #[.int .i64 0,.bool false,slice none 0 0,slice none 0 0]),4,64):=by kernel_rfl
theorem Dn.kp {w w' x n d V} (h:Dn w x n d V) (hk:Kp w w'):Dn w' x n d V:=⟨h.rd.kp hk,h.dg,h.fm,h.val⟩
theorem Qn.kp {w w' s x n d y m g q} (h:Qn w s x n d y m g q) (hk:Kp w w'):Qn w' s x n d y m g q:=⟨⟨h.num.dn.kp hk,h.num.sgn,h.num.pos⟩,h.den.kp hk⟩
def QnT (K:Nat) (w:World) (t:Nm) (q:Rat):Prop:=t.n<=K/\t.m<=K/\Qn w t.s t.x t.n t.f t.y t.m t.g q
theorem QnT.q_ {K w w' t q} (h:QnT K w t q) (hb:Bl w w'):QnT K w' t q:=⟨h.1,h.2.1,h.2.2.q_ hb⟩
theorem QnT.kp {K w w' t q} (h:QnT K w t q) (hk:Kp w w'):QnT K w' t q:=⟨h.1,h.2.1,h.2.2.kp hk⟩
def Tq (K:Nat) (w:World) (ao:Option Addr) (v:List (Int × Rat)):Prop :=
 ∀(j:Nat) (a:Int) (q:Rat),v[j]?=some (a,q)->∃b o,∃t:Nm,ao=some ⟨b,o,none⟩/\C4 w b (o+j*4) (.int .i64 a) (.bool t.s) (slice t.x t.n t.c) (slice t.y t.m t.d)/\QnT K w t q
theorem Tq.q_ {K w w' ao v} (h:Tq K w ao v) (hb:Bl w w'):Tq K w' ao v:=λj a q hj=>by
 obtain⟨b,o,t,e,h1,h2⟩:=h j a q hj;exact⟨b,o,t,e,h1.q_ hb,h2.q_ hb⟩
theorem zqD:(prog.info? 72).map (λi=>(i.zero,i.size,i.bytes))=some (some (agg #[.bool false,slice none 0 0,slice none 0 0]),3,56):=by kernel_rfl
theorem zix {X X'}:∀{r i:Nat},(∀j,i<=j->j<i+r->Sn (X j) (X' j))->afr X' r i=afr X r i:=by
 intro r
 induction r with
 | zero=>intro i _;rfl
 | succ r ih =>
  intro i h;simp only[afr];rw[ih (λj a b=>h j (by omega) (by omega)),(h i (by omega) (by omega)).nfB]
def Rqs (K:Nat) (w:World) (ao:Option Addr) (p:List Rat):Prop :=
 ∀(j:Nat) (q:Rat),p[j]?=some q->∃b o,∃t:Nm,ao=some ⟨b,o,none⟩/\C3 w b (o+j*3) (.bool t.s) (slice t.x t.n t.c) (slice t.y t.m t.d)/\QnT K w t q
theorem Rqs.q_ {K w w' ao p} (h:Rqs K w ao p) (hb:Bl w w'):Rqs K w' ao p:=λj q hj=>by
 obtain⟨b,o,t,e,h1,h2⟩:=h j q hj;exact⟨b,o,t,e,h1.q_ hb,h2.q_ hb⟩
def zpX (K:Nat) (w w':World) (e:Ending) (k:Nat) (p:List Rat):Prop:=∃aw cw,e=returned (slice aw k cw)/\Bl w w'/\(k<=cw/\cw<=9223372036854775807)/\Hid (Rqs K w' aw p)
theorem zoh {w ao k cap X} (h:Rl w ao k X) (hk:k<=10000) (hl:∀j,j<k->(X j).n<=1000/\(X j).m<=1000) :
  Calls prog 54 #[slice ao k cap] w λe w'=>e=returned (.bool (afB k X))/\Bl w w':=by
 have H:=zk h;clear h;go_enter func54,ntmps54;go_wp2_with fail
 go_loopw[7] (λt wr=>∃(i:Nat),i<=k/\t=.int .i64 i/\Hid (Bl w wr)/\Hid (afB k X=afr X (k-i) i)) (λt _=>k-(intOf t).toNat)
 case atStart=>exact⟨0,by omega,rfl,Below.refl _ _,rfl⟩
 case round =>
  obtain⟨i,hi,rfl,HB,HT⟩:=hrel;by_cases hlt:i<k
  ·obtain⟨b,o,rfl,hc,hn,hn1,hn2⟩:=(H.out.q_ HB.out) i hlt;obtain⟨r,hr⟩:∃r,k-i=r+1:=⟨k-i-1,by omega⟩;have hT:afB k X=(nfB (X i) && afr X r (i+1)):=by rw[HT.out,hr];rfl
   have hr2:k-(i+1)=r:=by omega
   obtain⟨⟨s,x,n,c,f,y,m,d,g⟩,hTi⟩:∃t,X i=t:=⟨_,rfl⟩;rw[hTi]at hc hn hn1 hn2 hT
   obtain⟨x0,x1,x2⟩:=hc;replace x0:wr.cell? ⟨b,o+i*3,none⟩=some (.bool s):=x0;replace x1:wr.cell? ⟨b,o+i*3+1,none⟩=some (slice x n c):=x1;replace x2:wr.cell? ⟨b,o+i*3+2,none⟩=some (slice y m d):=x2;replace hn:Rw wr x n c f y m d g:=hn;replace hn1:n<=65536:=hn1;replace hn2:m<=65536:=hn2;have hblk:Bl wr (wr.alloc (cells #[.bool s,slice x n c,slice y m d] 24)):=zu (Below.refl _ _) _;obtain⟨hl1,hl2⟩:=hl i hlt;rw[hTi]at hl1 hl2
   have CF:=zk (zdd (s:=s) (hn.q_ hblk) hl1 hl2);have HTi:=zk hT;have HR2:=zk hr2
   have i1:((i:Nat):Int)<((k:Nat):Int):=by omega
   clear hT hr2 hTi hr hn hblk hl1 hl2;cases hf:rfB s f n g m
   ·have CF2:=CF;rw[hf]at CF2
    have HNF:Hid (nfB ⟨s,x,n,c,f,y,m,d,g⟩=false):=hf;clear CF hf;go_wp2_with fail
    refine CF2.out.mono ?_;rintro e w1 ⟨rfl,hb1⟩;obtain⟨_,_,_,_,hb2⟩:=zmy hb1;go_wp2;go_ret;refine⟨?_,bUp HB.out hb2⟩;rw[HTi.out,HNF.out];rfl
   ·have CF2:=CF;rw[hf]at CF2
    have HNF:Hid (nfB ⟨s,x,n,c,f,y,m,d,g⟩=true):=hf;clear CF hf;go_wp2_with fail
    refine CF2.out.mono ?_;rintro e w1 ⟨rfl,hb1⟩;obtain⟨_,_,_,_,hb2⟩:=zmy hb1;have HB2:=zP HB hb2;clear hb1 hb2;go_wp2;go_roundw
    case rel =>
     refine⟨i+1,by omega,by go_num,HB2.out,?_⟩;show _=_;rw[HTi.out,HNF.out,HR2.out];rfl
    case measure=>simp[intOf];omega
  ·have e1:i=k:=by omega
   have HTe:Hid (afB k X=true):=by
    show _=_;rw[HT.out,e1,Nat.sub_self];rfl
   have i2:¬(((i:Nat):Int)<((k:Nat):Int)):=by omega
   clear e1 HT;go_wp2;go_ret;refine⟨?_,HB.out⟩;rw[HTe.out];rfl
def zou (w w':World) (e:Ending) (k:Nat) (X:Nat->Nm):Prop:=∃a c X',e=returned (slice a k c)/\Bl w w'/\(k<=c/\c<=9223372036854775807)/\Hid ((Rl w' a k X'/\∀j,j<k->Sn (X j) (X' j))/\RowG 24 3 w.heap.size w' (slice a k c) k (zar (rls k X')))
theorem znk {w ao k cap X} (h:Rl w ao k X) (hk:k<=10000) (hl:∀j,j<k->(X j).n<=1000/\(X j).m<=1000) :
  Calls prog 8 #[slice ao k cap] w λe w'=>zou w w' e k X:=by
 have H:=zk h;clear h;go_enter func8,ntmps8;go_wp2_with fail
 go_loopw[3,8] (λov t wr=>∃(i:Nat) (T':Nat->Nm),i<=k/\t=.int .i64 i/\Hid (Bl w wr)/\Hid (RowG 24 3 w.heap.size wr ov i (zar (rls i T')))/\Hid (∀j,j<i->Sn (X j) (T' j)/\Rw wr (T' j).x (T' j).n (T' j).c (T' j).f (T' j).y (T' j).m (T' j).d (T' j).g)) (λ_ t _=>k-(intOf t).toNat)
 case atStart=>exact⟨0,X,by omega,rfl,Below.refl _ _,zao _ _ _ _,λj hj=>by omega⟩
 case round =>
  obtain⟨i,T',hi,rfl,HB,HRow,HT⟩:=hrel;by_cases hlt:i<k
  ·obtain⟨b,o,hao,hc,hn,hn1,hn2⟩:=(H.out.q_ HB.out) i hlt;subst hao;obtain⟨⟨s,x,n,c,f,y,m,d,g⟩,hTi⟩:∃t,X i=t:=⟨_,rfl⟩;rw[hTi]at hc hn
   obtain⟨x0,x1,x2⟩:=hc;replace x0:wr.cell? ⟨b,o+i*3,none⟩=some (.bool s):=x0;replace x1:wr.cell? ⟨b,o+i*3+1,none⟩=some (slice x n c):=x1;replace x2:wr.cell? ⟨b,o+i*3+2,none⟩=some (slice y m d):=x2;have i1:((i:Nat):Int)<((k:Nat):Int):=by omega
   obtain⟨hn10,hm10⟩:=hl i hlt;rw[hTi]at hn10 hm10
   replace hn:Rw wr x n c f y m d g:=hn;have hb5:=zF wr (cells #[.bool s,slice x n c,slice y m d] 24);have HN:=zk (hn.q_ hb5);have HTi:=zk hTi;have HRow5:=zk (HRow.out.q_ hb5);have HB5:=zP HB hb5
   have HT5:Hid (∀j,j<i->Sn (X j) (T' j)/\Rw (wr.alloc (cells #[.bool s,slice x n c,slice y m d] 24)) (T' j).x (T' j).n (T' j).c (T' j).f (T' j).y (T' j).m (T' j).d (T' j).g):=λj hj=>⟨(HT.out j hj).1,(HT.out j hj).2.q_ hb5⟩
   clear hn hTi hb5 hn1 hn2;go_wp2_with fail
   clear x0 x1 x2 HB HRow HT;generalize wr.alloc (cells #[.bool s,slice x n c,slice y m d] 24)=w5 at *;refine(zdb (s:=s) HN.out (le_trans hn10 (by decide)) (le_trans hm10 (by decide))).mono ?_;rintro e w6 ⟨z6,c6,z7,c7,rfl,hb6,HQ⟩;have HB6:=zP HB5 hb6;have HRow6:=zk (HRow5.out.q_ hb6)
   have HT6:Hid (∀j,j<i->Sn (X j) (T' j)/\Rw w6 (T' j).x (T' j).n (T' j).c (T' j).f (T' j).y (T' j).m (T' j).d (T' j).g):=λj hj=>⟨(HT5.out j hj).1,(HT5.out j hj).2.q_ hb6⟩
   have hsz:=HB6.out.size;clear hb6 HB5 HRow5 HT5 HN;go_wp2_with(at_builtin;go_must (refine zS w6 rfl (.tmp 12) (.tmp 15) 29 rfl w.heap.size 24 56 3 (agg #[.bool false,slice none 0 0,slice none 0 0]) underlying29 zbg rfl (by decide) nz3 u3 i (zar (rls i T')) rfl HRow6.out #[.bool s,slice z6 n c6,slice z7 m c7] rfl rfl (zeM _ _ _ _ _ _ _) (zdy _ _ _ _ _ _ _) ?p1 (by decide) hsz ?_))
   case p1=>omega
   intro g8 cap8 w8 hr8 hk8 hb8 hg8;have HB8:=zk (hb8 w HB6.out (le_refl _));have HR8:Hid (RowG 24 3 w.heap.size w8 (slice (some ⟨g8,0,none⟩) (i+1) cap8) (i+1) (zar (rls (i+1) (zaG T' i ⟨s,z6,n,c6,f,z7,m,c7,g⟩)))):=by
    show RowG _ _ _ _ _ _ _;rw[zcY];exact hr8
   have HT8:Hid (∀j,j<i+1->Sn (X j) (zaG T' i ⟨s,z6,n,c6,f,z7,m,c7,g⟩ j)/\Rw w8 (zaG T' i ⟨s,z6,n,c6,f,z7,m,c7,g⟩ j).x (zaG T' i ⟨s,z6,n,c6,f,z7,m,c7,g⟩ j).n (zaG T' i ⟨s,z6,n,c6,f,z7,m,c7,g⟩ j).c (zaG T' i ⟨s,z6,n,c6,f,z7,m,c7,g⟩ j).f (zaG T' i ⟨s,z6,n,c6,f,z7,m,c7,g⟩ j).y (zaG T' i ⟨s,z6,n,c6,f,z7,m,c7,g⟩ j).m (zaG T' i ⟨s,z6,n,c6,f,z7,m,c7,g⟩ j).d (zaG T' i ⟨s,z6,n,c6,f,z7,m,c7,g⟩ j).g):=λj hj=>by
    by_cases e:j=i
    ·subst e;rw[zbD];rw[HTi.out];exact⟨⟨rfl,rfl,rfl,rfl,rfl⟩,Rw.kp HQ.out hk8⟩
    ·rw[putN_ne e];exact⟨(HT6.out j (by omega)).1,Rw.kp (HT6.out j (by omega)).2 hk8⟩
   clear hr8 hk8 hb8 hg8 HRow6 HT6 HB6 HQ hsz;go_wp2;go_roundw
   case rel=>exact⟨i+1,_,by omega,by go_num,HB8.out,HR8.out,HT8.out⟩
   case measure=>simp[intOf];omega
  ·have e1:i=k:=by omega
   have i1:¬(((i:Nat):Int)<((k:Nat):Int)):=by omega
   rw[e1]at HRow HT
   obtain⟨aw,cw,rfl⟩:=HRow.out.slice;have hcw:k<=cw/\cw<=9223372036854775807:=by
    rcases HRow.out.2 with⟨hv,h0⟩|⟨_,_,_,hv,_,_,h5,h6,_⟩
    ·cases hv;omega
    ·cases hv;unfold maxLen at h6;omega
   clear e1;go_wp2;go_ret;exact⟨aw,cw,T',rfl,HB.out,hcw,⟨(λj hj=>by obtain⟨b,hb,h4⟩:=zcX HRow.out hj;obtain⟨⟨_,e2,_,e4,_⟩,h6⟩:=HT.out j hj;exact⟨b,0,hb,h4,h6,by rw[e2];exact le_trans (hl j hj).1 (by decide),by rw[e4];exact le_trans (hl j hj).2 (by decide)⟩),λj hj=>(HT.out j hj).1⟩,HRow.out⟩
theorem zof {w L ao k cap X p} (h:Rl w ao k X) (hk:k<=10000) (hL:L<=16000) (hlp:p.length=k) (hq:∀j,j<k->∃q,p[j]?=some q/\Rn L w (X j).s (X j).x (X j).n (X j).c (X j).f (X j).y (X j).m (X j).d (X j).g q) :
  Calls prog 34 #[slice ao k cap] w λe w'=>zpX (2*L) w w' e k p:=by
 have H:=zk h;clear h;go_enter func34,ntmps34;go_wp2_with fail
 go_loopw[3,8] (λov t wr=>∃(i:Nat) (T':Nat->Nm),i<=k/\t=.int .i64 i/\Hid (Bl w wr)/\Hid (RowG 72 3 w.heap.size wr ov i (zar (rls i T')))/\Hid (∀j,j<i->∃q,p[j]?=some q/\QnT (2*L) wr (T' j) q)) (λ_ t _=>k-(intOf t).toNat)
 case atStart=>exact⟨0,X,by omega,rfl,Below.refl _ _,zao _ _ _ _,λj hj=>by omega⟩
 case round =>
  obtain⟨i,T',hi,rfl,HB,HRow,HT⟩:=hrel;by_cases hlt:i<k
  ·obtain⟨b,o,hao,hc,hn,hn1,hn2⟩:=(H.out.q_ HB.out) i hlt;subst hao;obtain⟨⟨s,x,n,c,f,y,m,d,g⟩,hTi⟩:∃t,X i=t:=⟨_,rfl⟩;rw[hTi]at hc hn
   obtain⟨x0,x1,x2⟩:=hc;replace x0:wr.cell? ⟨b,o+i*3,none⟩=some (.bool s):=x0;replace x1:wr.cell? ⟨b,o+i*3+1,none⟩=some (slice x n c):=x1;replace x2:wr.cell? ⟨b,o+i*3+2,none⟩=some (slice y m d):=x2;have i1:((i:Nat):Int)<((k:Nat):Int):=by omega
   obtain⟨q,hvq,hrn⟩:=hq i hlt;rw[hTi]at hrn
   replace hn:Rn L wr s x n c f y m d g q:=hrn.q_ HB.out;have HVq:=zk hvq;have hb5:=zF wr (cells #[.bool s,slice x n c,slice y m d] 24);have HN:=zk (hn.q_ hb5);have HTi:=zk hTi;have HRow5:=zk (HRow.out.q_ hb5);have HB5:=zP HB hb5
   have HT5:Hid (∀j,j<i->∃q,p[j]?=some q/\QnT (2*L) (wr.alloc (cells #[.bool s,slice x n c,slice y m d] 24)) (T' j) q):=λj hj=>by obtain⟨q,h1,h2⟩:=HT.out j hj;exact⟨q,h1,h2.q_ hb5⟩
   clear hn hTi hb5 hn1 hn2;go_wp2_with fail
   clear x0 x1 x2 HB HRow HT;generalize wr.alloc (cells #[.bool s,slice x n c,slice y m d] 24)=w5 at *;refine((zdc HN.out (by omega)).mono (R':=λe w'=>∃s6 x6 n6 c6 d6 y6 m6 e6 g6,e=returned (agg #[.bool s6,slice x6 n6 c6,slice y6 m6 e6])/\Bl w5 w'/\Hid (n6<=2*L/\m6<=2*L/\Qn w' s6 x6 n6 d6 y6 m6 g6 q)) (λ_ _ ⟨s,x,n,c,d,y,m,c',g,h1,h2,h3,h4,h5⟩=>⟨s,x,n,c,d,y,m,c',g,h1,h2,h3,h4,h5⟩)).mono ?_;rintro e w6 ⟨s6,x6,n6,c6,d6,y6,m6,e6,g6,rfl,hb6,HQ⟩;have HB6:=zP HB5 hb6;have HRow6:=zk (HRow5.out.q_ hb6)
   have HT6:Hid (∀j,j<i->∃q,p[j]?=some q/\QnT (2*L) w6 (T' j) q):=λj hj=>by obtain⟨q,h1,h2⟩:=HT5.out j hj;exact⟨q,h1,h2.q_ hb6⟩
   have hsz:=HB6.out.size;clear hb6 HB5 HRow5 HT5 HN;go_wp2_with(at_builtin;go_must (refine zS w6 rfl (.tmp 12) (.tmp 15) 91 rfl w.heap.size 72 56 3 (agg #[.bool false,slice none 0 0,slice none 0 0]) underlying91 zqD rfl (by decide) nz3 u3 i (zar (rls i T')) rfl HRow6.out #[.bool s6,slice x6 n6 c6,slice y6 m6 e6] rfl rfl (zeM _ _ _ _ _ _ _) (zdy _ _ _ _ _ _ _) ?p1 (by decide) hsz ?_))
   case p1=>omega
   intro g8 cap8 w8 hr8 hk8 hb8 hg8;have HB8:=zk (hb8 w HB6.out (le_refl _));have HR8:Hid (RowG 72 3 w.heap.size w8 (slice (some ⟨g8,0,none⟩) (i+1) cap8) (i+1) (zar (rls (i+1) (zaG T' i ⟨s6,x6,n6,c6,d6,y6,m6,e6,g6⟩)))):=by
    show RowG _ _ _ _ _ _ _;rw[zcY];exact hr8
   have HT8:Hid (∀j,j<i+1->∃q,p[j]?=some q/\QnT (2*L) w8 (zaG T' i ⟨s6,x6,n6,c6,d6,y6,m6,e6,g6⟩ j) q):=λj hj=>by
    by_cases e:j=i
    ·subst e;rw[zbD];exact⟨q,HVq.out,QnT.kp (t:=⟨s6,x6,n6,c6,d6,y6,m6,e6,g6⟩) HQ.out hk8⟩
    ·rw[putN_ne e];obtain⟨q,h1,h2⟩:=HT6.out j (by omega);exact⟨q,h1,h2.kp hk8⟩
   clear hr8 hk8 hb8 hg8 HRow6 HT6 HB6 HQ hsz;go_wp2;go_roundw
   case rel=>exact⟨i+1,_,by omega,by go_num,HB8.out,HR8.out,HT8.out⟩
   case measure=>simp[intOf];omega
  ·have e1:i=k:=by omega
   have i1:¬(((i:Nat):Int)<((k:Nat):Int)):=by omega
   rw[e1]at HRow HT
   obtain⟨aw,cw,rfl⟩:=HRow.out.slice;have hcw:k<=cw/\cw<=9223372036854775807:=by
    rcases HRow.out.2 with⟨hv,h0⟩|⟨_,_,_,hv,_,_,h5,h6,_⟩
    ·cases hv;omega
    ·cases hv;unfold maxLen at h6;omega
   clear e1;go_wp2;go_ret;exact⟨aw,cw,rfl,HB.out,hcw,(λj q hj=>by have hlt2:j<k:=by { have:=(List.getElem?_eq_some_iff.1 hj).1;omega };obtain⟨b,hb,h4⟩:=zcX HRow.out hlt2;obtain⟨q',h5,h6⟩:=HT.out j hlt2;rw[hj]at h5;obtain rfl:=Option.some.inj h5;exact⟨b,0,T' j,hb,h4,h6⟩)⟩
def pnE (k:Nat) (X:Nat->Nm) (z:Int):Int:=if afB k X=true then (if (k:Int)=z then 0 else 7) else 3
theorem zhX {w ao k cap X z} (h:Rl w ao k X) (hk:k<=1048576) :
  Calls prog 48 #[slice ao k cap,.int .i64 z] w λe w'=>e=returned (.int .i64 (pnE k X z))/\Bl w w':=by
 have H:=zk h;clear h;go_enter func48,ntmps48;go_wp2_with fail
 go_loopw[9] (λt wr=>∃(i:Nat),i<=k/\t=.int .i64 i/\Hid (Bl w wr)/\Hid (afB k X=afr X (k-i) i)) (λt _=>k-(intOf t).toNat)
 case atStart=>exact⟨0,by omega,rfl,Below.refl _ _,rfl⟩
 case round =>
  obtain⟨i,hi,rfl,HB,HT⟩:=hrel;by_cases hlt:i<k
  ·obtain⟨b,o,rfl,hc,hn,hn1,hn2⟩:=(H.out.q_ HB.out) i hlt;obtain⟨r,hr⟩:∃r,k-i=r+1:=⟨k-i-1,by omega⟩;have hT:afB k X=(nfB (X i) && afr X r (i+1)):=by rw[HT.out,hr];rfl
   have hr2:k-(i+1)=r:=by omega
   obtain⟨⟨s,x,n,c,f,y,m,d,g⟩,hTi⟩:∃t,X i=t:=⟨_,rfl⟩;rw[hTi]at hc hn hn1 hn2 hT
   obtain⟨x0,x1,x2⟩:=hc;replace x0:wr.cell? ⟨b,o+i*3,none⟩=some (.bool s):=x0;replace x1:wr.cell? ⟨b,o+i*3+1,none⟩=some (slice x n c):=x1;replace x2:wr.cell? ⟨b,o+i*3+2,none⟩=some (slice y m d):=x2;replace hn:Rw wr x n c f y m d g:=hn;replace hn1:n<=65536:=hn1;replace hn2:m<=65536:=hn2;have hblk:Bl wr (wr.alloc (cells #[.bool s,slice x n c,slice y m d] 24)):=zu (Below.refl _ _) _;have CF:=zk (zda (s:=s) (hn.q_ hblk) (by omega) (by omega));have HTi:=zk hT;have HR2:=zk hr2
   have i1:((i:Nat):Int)<((k:Nat):Int):=by omega
   clear hT hr2 hTi hr hn hblk;cases hf:rfB s f n g m
   ·have CF2:=CF;rw[hf]at CF2
    have HNF:Hid (nfB ⟨s,x,n,c,f,y,m,d,g⟩=false):=hf;clear CF hf;go_wp2_with fail
    refine CF2.out.mono ?_;rintro e w1 ⟨rfl,hb1⟩;obtain⟨_,_,_,_,hb2⟩:=zmy hb1;go_wp2;go_ret;refine⟨?_,bUp HB.out hb2⟩;rw[pnE,HTi.out,HNF.out];rfl
   ·have CF2:=CF;rw[hf]at CF2
    have HNF:Hid (nfB ⟨s,x,n,c,f,y,m,d,g⟩=true):=hf;clear CF hf;go_wp2_with fail
    refine CF2.out.mono ?_;rintro e w1 ⟨rfl,hb1⟩;obtain⟨_,_,_,_,hb2⟩:=zmy hb1;have HB2:=zP HB hb2;clear hb1 hb2;go_wp2;go_roundw
    case rel =>
     refine⟨i+1,by omega,by go_num,HB2.out,?_⟩;show _=_;rw[HTi.out,HNF.out,HR2.out];rfl
    case measure=>simp[intOf];omega
  ·have e1:i=k:=by omega
   have HTe:Hid (afB k X=true):=by
    show _=_;rw[HT.out,e1,Nat.sub_self];rfl
   have i2:¬(((i:Nat):Int)<((k:Nat):Int)):=by omega
   clear e1 HT;by_cases hz:((k:Nat):Int)=z
   ·have hz1:(((k:Nat):Int) != z)=false:=by simpa using hz
    have HZ:=zk (show pnE k X z=0 by rw[pnE,HTe.out];simp[hz]);clear hz;go_wp2;go_ret;refine⟨?_,HB.out⟩;rw[HZ.out];rfl
   ·have hz1:(((k:Nat):Int) != z)=true:=by simpa using hz
    have HZ:=zk (show pnE k X z=7 by rw[pnE,HTe.out];simp[hz]);clear hz;go_wp2;go_ret;refine⟨?_,HB.out⟩;rw[HZ.out];rfl
def Dw (w:World) (base:Nat) (y:Option Addr) (m:Nat):Prop:=0<m->∃b,y=some ⟨b,0,none⟩/\base<=b/\(∃q,w.cell? ⟨b,0,none⟩=some (.int .u64 q))/\w.frozen? ⟨b,0,none⟩=false
theorem Dw.q_ {w w' base y m} (h:Dw w base y m) (hb:Bl w w'):Dw w' base y m:=λhm=>by
 obtain⟨b,h1,h2,⟨q,h3⟩,h4⟩:=h hm;obtain⟨_,h5⟩:=zaC hb;exact⟨b,h1,h2,⟨q,kCb hb h3⟩,(h5 _ _ (block_lt_of_cell? w _ h3)).trans h4⟩
theorem zhY {w base y m d g} (h:Own .u64 46 w base (slice y m d) m g):Dw w base y m:=λhm=>by
 obtain⟨h1,h2⟩:=h;rcases h2 with⟨h3,h4⟩|⟨B,cap',cur,hv,hb,hg,hn,hmx,hs,ht⟩
 ·cases h3;omega
 ·cases hv
  refine⟨B,rfl,hb,⟨g 0,?_⟩,by simp[World.frozen?,hg]⟩;have h5:cur.toList[0]?=(lst .u64 g m)[0]?:=by rw[<-ht,List.getElem?_take,if_pos (by omega)]
  have h6:(lst .u64 g m)[0]?=some (.int .u64 (g 0)):=by
   obtain⟨m',rfl⟩:∃m',m=m'+1:=⟨m-1,by omega⟩;have hl:0<(lst .u64 g (m'+1)).length:=by rw[zN];omega
   obtain⟨u,hu⟩:∃u,(lst .u64 g (m'+1))[0]?=some u:=⟨_,getElem?_eq_getElem hl⟩;obtain⟨_,rfl⟩:=zdl hu;exact hu
  simp only[World.cell?,hg];simpa using h5.trans h6
theorem Dw.set {w base y m p u v} (h:Dw w base y m) (hp:w.cell? p=some v) (hv:∀i,v≠.int .u64 i):Dw (w.setCell p u) base y m:=λhm=>by
 obtain⟨b,h1,h2,⟨q,h3⟩,h4⟩:=h hm;refine⟨b,h1,h2,⟨q,?_⟩,kFs h4⟩;rw[World.cell?_setCell_other _ _ _ _ (λhe=>hv _ (Option.some.inj (hp.symm.trans (he ▸ h3))))];exact h3
def Dw2 (w:World) (base:Nat) (t:Nm):Prop:=Dw w base t.y t.m/\Dw w base t.x t.n
theorem Dw2.q_ {w w' base t} (h:Dw2 w base t) (hb:Bl w w'):Dw2 w' base t:=⟨h.1.q_ hb,h.2.q_ hb⟩
theorem Dw2.set {w base t p u v} (h:Dw2 w base t) (hp:w.cell? p=some v) (hv:∀i,v≠.int .u64 i):Dw2 (w.setCell p u) base t:=⟨h.1.set hp hv,h.2.set hp hv⟩
theorem Dw.kp {w w' base y m} (h:Dw w base y m) (hk:Kp w w'):Dw w' base y m:=λhm=>by
 obtain⟨b,h1,h2,⟨q,h3⟩,h4⟩:=h hm;have hl:=block_lt_of_cell? w _ h3;rcases hk.block b hl with e|⟨cur,t,fr,e,hu⟩
 ·exact⟨b,h1,h2,⟨q,(cell?_of_block (a:=⟨b,0,none⟩) e).trans h3⟩,by simp only[World.frozen?,e]at h4 ⊢;exact h4⟩
 ·exfalso;simp only[World.cell?,e]at h3;exact hu 0 q (by simpa using h3)
theorem Dw2.kp {w w' base t} (h:Dw2 w base t) (hk:Kp w w'):Dw2 w' base t:=⟨h.1.kp hk,h.2.kp hk⟩
theorem Rl.st {w w' ao k B X} (h:Rl w ao k X) (hk:Kp w w') (hne:∀b,b≠B->w'.heap[b]?=w.heap[b]?) (hnb:∀o s,w.cell? ⟨B,o,none⟩≠some (.bool s)):Rl w' ao k X:=λj hj=>by
 obtain⟨b,o,e,⟨c0,c1,c2⟩,h1,h2⟩:=h j hj;have hB:b≠B:=λe=>hnb _ _ (e ▸ c0)
 have hs:=hne b hB;exact⟨b,o,e,⟨(cell?_of_block (a:=⟨b,o+j*3,none⟩) hs).trans c0,(cell?_of_block (a:=⟨b,o+j*3+1,none⟩) hs).trans c1,(cell?_of_block (a:=⟨b,o+j*3+2,none⟩) hs).trans c2⟩,h1.kp hk,h2⟩
def zbq (M:Mo) (k:Nat) (X:Nat->Nm):Int:=lsf (two (zaM M) (pnE k X M.ck)) 2
theorem zco {w M ao k cap X} (h:MoW w M) (hx:Rl w ao k X) (hk:k<=1048576) :
  Calls prog 26 #[M.val,slice ao k cap] w λe w'=>e=returned (.int .i64 (zbq M k X))/\Bl w w':=by
 have CC:=zk (λW (hW:Bl w W)=>zon (h.q_ hW));have CN:=zk (λW (hW:Bl w W)=>zhX (w:=W) (cap:=cap) (z:=(M.ck:Int)) (hx.q_ hW) hk);obtain⟨er,her⟩:∃e,zbq M k X=e:=⟨_,rfl⟩;have HE:=zk her;unfold zbq at her;obtain⟨e0,he0⟩:∃e,zaM M=e:=⟨_,rfl⟩;rw[he0]at CC her
 obtain⟨e1,he1⟩:∃e,pnE k X M.ck=e:=⟨_,rfl⟩;rw[he1]at CN her
 have HE2:=zk her;clear h hx he0 he1 her;obtain⟨⟨s,x,n,c,f,y,m,d,g⟩,ca,ck,cc,C,ra,rk,rc,R⟩:=M;replace CC:Hid (∀W,Bl w W->Calls prog 47 #[agg #[.bool s,slice x n c,slice y m d,slice ca ck cc,slice ra rk rc]] W λr w'=>r=returned (.int .i64 e0)/\Bl W w'):=CC;replace CN:Hid (∀W,Bl w W->Calls prog 48 #[slice ao k cap,.int .i64 (ck:Int)] W λe w'=>e=returned (.int .i64 e1)/\Bl W w'):=CN;show Calls prog 26 #[agg #[.bool s,slice x n c,slice y m d,slice ca ck cc,slice ra rk rc],slice ao k cap] w _;have hb:=zF w (cells #[.bool s,slice x n c,slice y m d,slice ca ck cc,slice ra rk rc] 28);have r0:(w.alloc (cells #[.bool s,slice x n c,slice y m d,slice ca ck cc,slice ra rk rc] 28)).drew.cell? ⟨w.heap.size,0,none⟩=some (.bool s):=kCd (by simp[go_sem]);have r1:(w.alloc (cells #[.bool s,slice x n c,slice y m d,slice ca ck cc,slice ra rk rc] 28)).drew.cell? ⟨w.heap.size,1,none⟩=some (slice x n c):=kCd (by simp[go_sem]);have r2:(w.alloc (cells #[.bool s,slice x n c,slice y m d,slice ca ck cc,slice ra rk rc] 28)).drew.cell? ⟨w.heap.size,2,none⟩=some (slice y m d):=kCd (by simp[go_sem]);have r3:(w.alloc (cells #[.bool s,slice x n c,slice y m d,slice ca ck cc,slice ra rk rc] 28)).drew.cell? ⟨w.heap.size,3,none⟩=some (slice ca ck cc):=kCd (by simp[go_sem]);have r4:(w.alloc (cells #[.bool s,slice x n c,slice y m d,slice ca ck cc,slice ra rk rc] 28)).drew.cell? ⟨w.heap.size,4,none⟩=some (slice ra rk rc):=kCd (by simp[go_sem]);have HB:=zk (Below.drew hb);clear hb;go_enter func26,ntmps26;go_upto_region 1 with fail
 refine wp_region_held_drew (S:=(λw'=>w'.cell? ⟨w.heap.size,0,none⟩=some (.bool s)/\w'.cell? ⟨w.heap.size,1,none⟩=some (slice x n c)/\w'.cell? ⟨w.heap.size,2,none⟩=some (slice y m d)/\w'.cell? ⟨w.heap.size,3,none⟩=some (slice ca ck cc)/\w'.cell? ⟨w.heap.size,4,none⟩=some (slice ra rk rc))) (by kernel_rfl) ?_ (λhHeld=>?_)
 ·exact⟨r0,r1,r2,r3,r4⟩
 generalize(w.alloc (cells #[.bool s,slice x n c,slice y m d,slice ca ck cc,slice ra rk rc] 28)).drew=wd at *;clear r0 r1 r2 r3 r4;refine zH 0 ?_;refine zH 2 ?_;refine zH 3 ?_;simp only[zw,Act.put];refine zH 4 ?_;refine zH 5 ?_;simp only[zw,Act.put];refine rdO 1 (λK hK=>?_);go_simp
 go_at_call 47
 refine(CC.out _ HB.out).mono ?_;rintro e w4 ⟨rfl,hb4⟩
 (try go_wp2_with fail)
 refine hK.out _ _ ?_ (λhH4=>?_)
 ·exact⟨kCb hb4 hHeld.1,kCb hb4 hHeld.2.1,kCb hb4 hHeld.2.2.1,kCb hb4 hHeld.2.2.2.1,kCb hb4 hHeld.2.2.2.2⟩
 clear hK K;have HB4:=zP HB hb4;try simp only[zw,Act.put]
 refine rdO 6 (λK hK=>?_);go_simp
 go_at_call 48
 refine(CN.out _ HB4.out).mono ?_;rintro e w5 ⟨rfl,hb5⟩
 (try go_wp2_with fail)
 refine hK.out _ _ ?_ (λhH5=>?_)
 ·exact⟨kCb hb5 hH4.1,kCb hb5 hH4.2.1,kCb hb5 hH4.2.2.1,kCb hb5 hH4.2.2.2.1,kCb hb5 hH4.2.2.2.2⟩
 clear hK K;have HB5:=zP HB4 hb5;obtain⟨r0,r1,r2,r3,r4⟩:=id hH5;try simp only[zw,Act.put]
 refine rdO 7 (λK hK=>?_);go_simp;have hbA:=zF w5 (cells #[.int .i64 e0,.int .i64 e1] 36);have HEl:=zk (zfP (w:=w5) (a:=e0) (b:=e1) (t:=36));have HWA:=zP HB5 hbA;obtain⟨gA,hgA⟩:∃z,w5.heap.size=z:=⟨_,rfl⟩;rw[hgA]at HEl ⊢
 generalize hwA:w5.alloc (cells #[.int .i64 e0,.int .i64 e1] 36)=wA at *;clear hwA hgA;refine hK.out _ _ ?_ (λhHA=>?_)
 ·((try dsimp only);(refine⟨?_,?_,?_,?_,?_⟩ <;> repeat(with_reducible first|assumption|refine kCb (by assumption) ?_)))
 clear hK K;try simp only[zw,Act.put]
 refine rdO 8 (λK hK=>?_);go_simp
 go_at_call 46
 refine(znY HEl.out (by decide)).mono ?_;rintro e w9 ⟨rfl,rfl⟩
 (try go_wp2_with fail)
 refine hK.out _ _ ?_ (λhHB=>?_)
 ·exact hHA
 clear hK K;try simp only[zw,Act.put]
 refine zH 9 ?_;simp only[zw,Act.put];refine dnO ?_;simp only[show lsf (two e0 e1) 2=er from HE2.out];clear HE2 hHeld hH4 hH5 hHA hHB hb4 hb5 hbA r0 r1 r2 r3 r4 HEl CC CN HB HB4 HB5;go_wp2;go_ret;exact⟨by rw[HE.out];rfl,HWA.out⟩
theorem ziI {n}:∀{ts:List (Int × Rat)} {l:Int},tsB n l ts=true->∀t ∈ ts,l<t.1/\t.1<(n:Int)/\t.2≠0
 | [],_,_,t,ht=>by cases ht
 | (z,q) :: r,l,h,t,ht=>by
  simp only[tsB,Bool.and_eq_true,decide_eq_true_eq]at h;obtain⟨h1,h2,h3,h4⟩:=h;rcases List.mem_cons.1 ht with rfl|ht
  ·exact⟨h1,h2,h3⟩
  ·have:=ziI h4 t ht;exact⟨by omega,this.2⟩
theorem ziJ {n}:∀{ts:List (Int × Rat)} {l:Int},tsB n l ts=true->l<(n:Int)->(ts.length:Int)<=n-1-l
 | [],l,_,hl=>by simp;omega
 | (z,q) :: r,l,h,hl=>by
  simp only[tsB,Bool.and_eq_true,decide_eq_true_eq]at h;obtain⟨h1,h2,h3,h4⟩:=h;have:=ziJ h4 h2;simp only[List.length_cons];omega
def zpZ (li:Int) (lq:Rat) (hi:Int) (hq:Rat):Prop:=(li=0∨(li=-1∨li=1)/\lq=0)/\(hi=0∨(hi=-1∨hi=1)/\hq=0)
theorem zmD {li lq hi hq} (h:bdB li lq hi hq=true):zpZ li lq hi hq:=by
 simp only[bdB,Bool.and_eq_true,Bool.or_eq_true,decide_eq_true_eq]at h;exact⟨h.1.imp id (λh=>⟨.inl h.1,h.2⟩),h.2.imp id (λh=>⟨.inr h.1,h.2⟩)⟩
structure MvP (cs:List CV) (rs:List RV):Prop where
 cl:cs.length<=64
 rl:rs.length<=64
 cb:∀v ∈ cs,zpZ v.li v.lq v.hi v.hq
 rb:∀v ∈ rs,zpZ v.li v.lq v.hi v.hq
 tc:∀v ∈ rs,∀t ∈ v.ts,0<=t.1/\t.1<(cs.length:Int)
 tl:∀v ∈ rs,v.ts.length<=64
theorem zbo {cs rs} (h:zbA cs rs=true):MvP cs rs:=by
 simp only[zbA,Bool.and_eq_true,decide_eq_true_eq,List.all_eq_true]at h;obtain⟨h1,h2,h3,h4,_⟩:=h;refine⟨h1,h2,λv hv=>zmD (h3 v hv),λv hv=>zmD (h4 v hv).1,λv hv t ht=>?_,λv hv=>?_⟩
 ·have:=ziI (h4 v hv).2.1 t ht;exact⟨by omega,this.2.1⟩
 ·have:=ziJ (h4 v hv).2.1 (by omega);omega
def bcB (cs:List CV) (xs:List Rat) (j:Nat):Bool:=match cs[j]?,xs[j]? with
 | some v,some q=>!(zie q v.li v.lq v.hi v.hq)
 | _,_=>false
def brB (rs:List RV) (xs:List Rat) (j:Nat):Bool:=match rs[j]? with
 | some v=>!(zie (zas xs v) v.li v.lq v.hi v.hq)
 | none=>false
def zfE (w w':World) (e:Ending) (er:Int) (cs:List CV) (rs:List RV) (xs:List Rat):Prop:=Bl w w' /\
 ((er≠0/\e=returned (.tuple #[slice none 0 0,slice none 0 0,.int .i64 er]))∨(er=0/\∃xa xc ya yc,e=returned (.tuple #[.slice xa (crl (bcB cs xs) cs.length).length xc,.slice ya (crl (brB rs xs) rs.length).length yc,.int .i64 0])/\Il w' xa (crl (bcB cs xs) cs.length)/\Il w' ya (crl (brB rs xs) rs.length)))
theorem zjt {L w i i' t q} (h:NmV L w t q) (hL:L<=4096) (hi:i=i') (hb:i'=0∨(i'=-1∨i'=1)/\q=0):En 4096 w i t.s t.x t.n t.c t.f t.y t.m t.d t.g q:=⟨Rn.mono h hL,by rw[hi];exact hb⟩
theorem zdx {w L M off cs rs ao k cap X xs er} (hW:MoW w M) (hx:Rl w ao k X) (hk:k<=1048576) (he:zbq M k X=er) (hv:er=0->MoV L w M off cs rs/\zbA cs rs=true/\Rf L w ao xs/\xs.length=k/\k=cs.length) (hL:L<=30) :
  Calls prog 12 #[M.val,slice ao k cap] w λe w'=>zfE w w' e er cs rs xs:=by
 have CC:=zk (λW (hW2:Bl w W)=>zco (cap:=cap) (hW.q_ hW2) (hx.q_ hW2) hk);rw[he]at CC
 clear hW hx he;obtain⟨M0,hM0⟩:∃z,M=z:=⟨_,rfl⟩;have HV:=zk hv;clear hv;rw[hM0]at HV CC ⊢
 have CA:Hid (er=0->∀W,Bl w W->Calls prog 27 #[M0.val,slice ao k cap] W λe w'=>∃a c,e=returned (slice a rs.length c)/\Bl W w'/\(rs.length<=c/\c<=9223372036854775807)/\Hid (Rf (KA L) w' a (rs.map (zas xs)))):=λh0 W hW2=>by
  obtain⟨v1,v2,v3,v4,v5⟩:=HV.out h0;have mp:=zbo v2;exact zmJ (v1.q_ hW2) (v3.q_ hW2) v4 (λr hr t ht=>by have:=mp.tc r hr t ht;rw[v5];exact this) mp.rl mp.tl (by omega)
 clear hM0;obtain⟨⟨s,x,n,c,f,y,m,d,g⟩,ca,ck,cc,C,ra,rk,rc,R⟩:=M0;replace CC:Hid (∀W,Bl w W->Calls prog 26 #[agg #[.bool s,slice x n c,slice y m d,slice ca ck cc,slice ra rk rc],slice ao k cap] W λe w'=>e=returned (.int .i64 er)/\Bl W w'):=CC;replace CA:Hid (er=0->∀W,Bl w W->Calls prog 27 #[agg #[.bool s,slice x n c,slice y m d,slice ca ck cc,slice ra rk rc],slice ao k cap] W λe w'=>∃a c,e=returned (slice a rs.length c)/\Bl W w'/\(rs.length<=c/\c<=9223372036854775807)/\Hid (Rf (KA L) w' a (rs.map (zas xs)))):=CA;show Calls prog 12 #[agg #[.bool s,slice x n c,slice y m d,slice ca ck cc,slice ra rk rc],slice ao k cap] w _;have hb:=zF w (cells #[.bool s,slice x n c,slice y m d,slice ca ck cc,slice ra rk rc] 28);have BM:=zk (zJ w [.bool s,slice x n c,slice y m d,slice ca ck cc,slice ra rk rc] 28);have HB:=zk hb;clear hb;go_enter func12,ntmps12;go_wp2_with fail
 generalize w.alloc (cells #[.bool s,slice x n c,slice y m d,slice ca ck cc,slice ra rk rc] 28)=w0 at *;refine(CC.out _ HB.out).mono ?_;rintro e w1 ⟨rfl,hb⟩;replace HB:=zP HB hb;replace BM:=zk (BM.out.q_ hb)
 clear hb CC;by_cases h0:er=0
 case neg =>
  have h1:(er != 0)=true:=by simpa using h0
  have H0:=zk h0;go_wp2
  go_ret3
  exact⟨HB.out,.inl ⟨H0.out,rfl⟩⟩
 have CA2:=zk (CA.out h0);obtain⟨v1,v2,v3,v4,v5⟩:=HV.out h0;have mp:=zbo v2;subst h0;have l64:=mp.cl;have r64:=mp.rl
 have HC:Hid (∀j v,cs[j]?=some v->(∃b o,ca=some ⟨b,o,none⟩/\Cs w b (o+j*12) (C j).vs)/\ColV L w (C j) v):=v1.cls;have HR:Hid (∀j v,rs[j]?=some v->(∃b o,ra=some ⟨b,o,none⟩/\Cs w b (o+j*10) (R j).vs)/\RowV L w (R j) v):=v1.rls;have hck:ck=cs.length:=v1.ck;have hrk:rk=rs.length:=v1.rk;subst hck hrk;subst v5;have HX:=zk v3;have HXL:=zk v4;have MP:=zk mp
 clear v1 v2 v3 v4 mp CA HV;have r3:=BM.out.cell (j:=3) rfl;go_wp2_with fail
 clear r3;go_loopw[8,24] (λov t wr=>∃(i:Nat),i<=cs.length/\t=.int .i64 i/\Hid (Bl w1 wr)/\Hid (RowG 3 1 w1.heap.size wr ov (crl (bcB cs xs) i).length (ils (crl (bcB cs xs) i)))) (λ_ t _=>cs.length-(intOf t).toNat)
 case atStart=>exact⟨0,by omega,rfl,Below.refl _ _,zao _ _ _ _⟩
 case round =>
  obtain⟨i,hi,rfl,HB2,HRow⟩:=hrel;by_cases hlt:i<cs.length
  ·obtain⟨v,hv⟩:∃t,cs[i]?=some t:=⟨_,getElem?_eq_getElem (by omega)⟩;have hvm:=List.mem_of_getElem? hv;obtain⟨⟨b,o,hba,hc⟩,hV⟩:=HC.out i v hv;subst hba;have hbz:=bUp HB.out HB2.out;obtain⟨hblo,hbhi⟩:=MP.out.cb v hvm;have e1:=zjt (hV.lq.q_ hbz) (by omega) hV.li hblo;have e2:=zjt (hV.hq.q_ hbz) (by omega) hV.hi hbhi;obtain⟨⟨z,⟨s0,x0,n0,c0,f0,y0,m0,d0,g0⟩,⟨i1,⟨s1,x1,n1,c1,f1,y1,m1,d1,g1⟩⟩,⟨i2,⟨s2,x2,n2,c2,f2,y2,m2,d2,g2⟩⟩⟩,hCi⟩:∃t,C i=t:=⟨_,rfl⟩;rw[hCi]at hc e1 e2
   replace e1:En 4096 wr i1 s1 x1 n1 c1 f1 y1 m1 d1 g1 v.lq:=e1;replace e2:En 4096 wr i2 s2 x2 n2 c2 f2 y2 m2 d2 g2 v.hq:=e2;have j1:i1=v.li:=by have:=hV.li;rw[hCi]at this;exact this
   have j2:i2=v.hi:=by have:=hV.hi;rw[hCi]at this;exact this
   replace hc:=Cs.q_ hc hbz;obtain⟨q0,q1,q2,q3,q4,q5,q6,q7,q8,q9,q10,q11⟩:=hc.lc;obtain⟨r,hr⟩:∃t,xs[i]?=some t:=⟨_,getElem?_eq_getElem (by have:=HXL.out;omega)⟩;obtain⟨b',o',⟨ss,sx,sn,sc,sf,sy,sm,sd,sg⟩,hax,⟨p0,p1,p2⟩,hr'⟩:=(HX.out.q_ hbz) i r hr;subst hax;replace p0:wr.cell? ⟨b',o'+i*3,none⟩=some (.bool ss):=p0;replace p1:wr.cell? ⟨b',o'+i*3+1,none⟩=some (slice sx sn sc):=p1;replace p2:wr.cell? ⟨b',o'+i*3+2,none⟩=some (slice sy sm sd):=p2;replace hr':Rn 4096 wr ss sx sn sc sf sy sm sd sg r:=Rn.mono hr' (by omega);have HEQ:Hid (∀{t},(bcB cs xs) i=t->(!t)=zie r v.li v.lq v.hi v.hq):=by
    intro t ht;rw[<-ht,bcB,hv,hr];simp
   clear hr;have hbt:=zF wr (cells #[.string z,.bool s0,slice x0 n0 c0,slice y0 m0 d0,.int .i64 i1,.bool s1,slice x1 n1 c1,slice y1 m1 d1,.int .i64 i2,.bool s2,slice x2 n2 c2,slice y2 m2 d2] 59);obtain⟨-,-,-,-,a4,a5,a6,a7,a8,a9,a10,a11⟩:=zfg (zJ wr [.string z,.bool s0,slice x0 n0 c0,slice y0 m0 d0,.int .i64 i1,.bool s1,slice x1 n1 c1,slice y1 m1 d1,.int .i64 i2,.bool s2,slice x2 n2 c2,slice y2 m2 d2] 59);obtain⟨t1,ht1⟩:∃t,(bcB cs xs) i=t:=⟨_,rfl⟩;have HT1:=zk ht1;have CK:Hid (∀W,Bl wr W->Calls prog 30 #[agg #[.bool ss,slice sx sn sc,slice sy sm sd],agg #[.int .i64 i1,.bool s1,slice x1 n1 c1,slice y1 m1 d1],agg #[.int .i64 i2,.bool s2,slice x2 n2 c2,slice y2 m2 d2]] W λe w'=>e=returned (.bool (!t1))/\Bl W w'):=λW hW2=>by
    have hk9:=zjm (hr'.q_ hW2) (e1.q_ hW2) (e2.q_ hW2);rw[j1,j2]at hk9
    rw[j1,j2,HEQ.out ht1];exact hk9
   have hln:=zgw (bcB cs xs) i;have i1':((i:Nat):Int)<((cs.length:Nat):Int):=by omega
   clear hCi hc hV hvm hblo hbhi e1 e2 j1 j2 ht1 hr' HEQ hv;go_upto_region 8 with fail
   clear q0 q1 q2 q3 q4 q5 q6 q7 q8 q9 q10 q11;replace p0:=kCb hbt p0;replace p1:=kCb hbt p1;replace p2:=kCb hbt p2
   have HB3:=zP HB2 hbt;have HRow3:=zk (HRow.out.q_ hbt)
   replace CK:=zk (λW (hW2:Below (wr.alloc (cells #[.string z,.bool s0,slice x0 n0 c0,slice y0 m0 d0,.int .i64 i1,.bool s1,slice x1 n1 c1,slice y1 m1 d1,.int .i64 i2,.bool s2,slice x2 n2 c2,slice y2 m2 d2] 59)).heap.size (wr.alloc (cells #[.string z,.bool s0,slice x0 n0 c0,slice y0 m0 d0,.int .i64 i1,.bool s1,slice x1 n1 c1,slice y1 m1 d1,.int .i64 i2,.bool s2,slice x2 n2 c2,slice y2 m2 d2] 59)) W)=>CK.out W (bUp hbt hW2));clear hbz hbt HB2 HRow;generalize hbx:wr.heap.size=bx at *;generalize wr.alloc (cells #[.string z,.bool s0,slice x0 n0 c0,slice y0 m0 d0,.int .i64 i1,.bool s1,slice x1 n1 c1,slice y1 m1 d1,.int .i64 i2,.bool s2,slice x2 n2 c2,slice y2 m2 d2] 59)=w5 at *;clear hbx;go_region_held3 (λw'=>w'.cell? ⟨bx,4,none⟩=some (.int .i64 i1)/\w'.cell? ⟨bx,5,none⟩=some (.bool s1)/\w'.cell? ⟨bx,6,none⟩=some (slice x1 n1 c1)/\w'.cell? ⟨bx,7,none⟩=some (slice y1 m1 d1)/\w'.cell? ⟨bx,8,none⟩=some (.int .i64 i2)/\w'.cell? ⟨bx,9,none⟩=some (.bool s2)/\w'.cell? ⟨bx,10,none⟩=some (slice x2 n2 c2)/\w'.cell? ⟨bx,11,none⟩=some (slice y2 m2 d2)/\w'.cell? ⟨b',o'+i*3,none⟩=some (.bool ss)/\w'.cell? ⟨b',o'+i*3+1,none⟩=some (slice sx sn sc)/\w'.cell? ⟨b',o'+i*3+2,none⟩=some (slice sy sm sd))
    (refine⟨?_,?_,?_,?_,?_,?_,?_,?_,?_,?_,?_⟩ <;> repeat(with_reducible first|assumption|refine kCd ?_|refine kCb (by assumption) ?_))
    (first|(go_at_call 30;with_reducible refine(CK.out _ zad).mono ?_;rintro e w6 ⟨rfl,hb6⟩))
   have HB6:=zk (HB3.out.trans ((show Bl w5 w6 from zad).mono HB3.out.size));have HRow6:=zk (HRow3.out.q_ (show Bl w5 w6 from zad))
   clear hb6 HB3 HRow3 CK p0 p1 p2 a4 a5 a6 a7 a8 a9 a10 a11;cases t1
   ·go_wp2;go_roundw
    case rel=>exact⟨i+1,by omega,by go_num,HB6.out,by show RowG _ _ _ _ _ _ _;rw[zmu HT1.out];exact HRow6.out⟩
    case measure=>simp[intOf];omega
   ·have hsz:=HB6.out.size;go_wp2_with(at_builtin;go_must (refine zS w6 rfl (.tmp 39) (.tmp 41) 41 rfl w1.heap.size 3 8 1 (.int .i64 0) underlying41 zbh rfl (by decide) nzi u8 (crl (bcB cs xs) i).length (ils (crl (bcB cs xs) i)) rfl HRow6.out #[.int .i64 (i:Int)] rfl rfl (zfe _) (zeN _) ?p1 (by decide) hsz ?_))
    case p1=>omega
    intro g8 cap8 w8 hr8 hk8 hb8 hg8;have HB8:=zk (hb8 w1 HB6.out (le_refl _));have HR8:Hid (RowG 3 1 w1.heap.size w8 (slice (some ⟨g8,0,none⟩) ((crl (bcB cs xs) i).length+1) cap8) (crl (bcB cs xs) (i+1)).length (ils (crl (bcB cs xs) (i+1)))):=by
     show RowG _ _ _ _ _ _ _;rw[zjC HT1.out];simpa[ils]using hr8
    clear hr8 hk8 hb8 hg8 HRow6 HB6 hsz;go_wp2;go_roundw
    case rel=>exact⟨i+1,by omega,by go_num,HB8.out,HR8.out⟩
    case measure=>simp[intOf];omega
  ·have i4:¬(((i:Nat):Int)<((cs.length:Nat):Int)):=by omega
   have e9:i=cs.length:=by omega
   obtain⟨xa,xc,hvs⟩:=HRow.out.slice;have HL2:=HRow.out;rw[hvs]at HL2
   have HIL:=zk (zfU HL2);rw[e9]at HIL hvs
   subst hvs;replace BM:=zk (BM.out.q_ HB2.out);replace HB:=zP HB HB2.out;clear HL2 HRow HB2 e9 HX HC;obtain⟨r0,r1,r2,r3,r4⟩:=bk5 BM.out;go_wp2_with fail
   refine(CA2.out _ HB.out).mono ?_;rintro e w7 ⟨aa,ac,rfl,hb7,hac,HAct⟩;replace HB:=zP HB hb7;replace BM:=zk (BM.out.q_ hb7);have HCols:=zk (HIL.out.q_ hb7)
   clear hb7 HIL r0 r1 r2 r3 r4 CA2;have r4:=BM.out.cell (j:=4) rfl;go_wp2_with fail
   clear r4;go_loopw[9,50] (λov t wr=>∃(i:Nat),i<=rs.length/\t=.int .i64 i/\Hid (Bl w7 wr)/\Hid (RowG 3 1 w7.heap.size wr ov (crl (brB rs xs) i).length (ils (crl (brB rs xs) i)))) (λ_ t _=>rs.length-(intOf t).toNat)
   case atStart=>exact⟨0,by omega,rfl,Below.refl _ _,zao _ _ _ _⟩
   case round =>
    obtain⟨i,hi,rfl,HB2,HRow⟩:=hrel;by_cases hlt:i<rs.length
    ·obtain⟨v,hv⟩:∃t,rs[i]?=some t:=⟨_,getElem?_eq_getElem (by omega)⟩;have hvm:=List.mem_of_getElem? hv;obtain⟨⟨b,o,hba,hc⟩,hV⟩:=HR.out i v hv;subst hba;have hbz:=bUp HB.out HB2.out;obtain⟨hblo,hbhi⟩:=MP.out.rb v hvm;have e1:=zjt (hV.lq.q_ hbz) (by omega) hV.li hblo;have e2:=zjt (hV.hq.q_ hbz) (by omega) hV.hi hbhi;obtain⟨⟨z,⟨i1,⟨s1,x1,n1,c1,f1,y1,m1,d1,g1⟩⟩,⟨i2,⟨s2,x2,n2,c2,f2,y2,m2,d2,g2⟩⟩,ta,tk,tc,tcol,tt⟩,hCi⟩:∃t,R i=t:=⟨_,rfl⟩;rw[hCi]at hc e1 e2
     replace e1:En 4096 wr i1 s1 x1 n1 c1 f1 y1 m1 d1 g1 v.lq:=e1;replace e2:En 4096 wr i2 s2 x2 n2 c2 f2 y2 m2 d2 g2 v.hq:=e2;have j1:i1=v.li:=by have:=hV.li;rw[hCi]at this;exact this
     have j2:i2=v.hi:=by have:=hV.hi;rw[hCi]at this;exact this
     replace hc:=Cs.q_ hc hbz;obtain⟨q0,q1,q2,q3,q4,q5,q6,q7,q8,q9⟩:=hc.lr;have hr:(rs.map (zas xs))[i]?=some (zas xs v):=by rw[List.getElem?_map,hv];rfl
     obtain⟨b',o',⟨ss,sx,sn,sc,sf,sy,sm,sd,sg⟩,hax,⟨p0,p1,p2⟩,hr'⟩:=(HAct.out.q_ HB2.out) i _ hr;subst hax;replace p0:wr.cell? ⟨b',o'+i*3,none⟩=some (.bool ss):=p0;replace p1:wr.cell? ⟨b',o'+i*3+1,none⟩=some (slice sx sn sc):=p1;replace p2:wr.cell? ⟨b',o'+i*3+2,none⟩=some (slice sy sm sd):=p2;replace hr':Rn 4096 wr ss sx sn sc sf sy sm sd sg (zas xs v):=Rn.mono hr' (by unfold KA;omega);have HEQ:Hid (∀{t},(brB rs xs) i=t->(!t)=zie (zas xs v) v.li v.lq v.hi v.hq):=by
      intro t ht;rw[<-ht,brB,hv];simp
     clear hr;have hbt:=zF wr (cells #[.string z,.int .i64 i1,.bool s1,slice x1 n1 c1,slice y1 m1 d1,.int .i64 i2,.bool s2,slice x2 n2 c2,slice y2 m2 d2,slice ta tk tc] 62);obtain⟨-,a1,a2,a3,a4,a5,a6,a7,a8⟩:=bk9 (zJ wr [.string z,.int .i64 i1,.bool s1,slice x1 n1 c1,slice y1 m1 d1,.int .i64 i2,.bool s2,slice x2 n2 c2,slice y2 m2 d2,slice ta tk tc] 62);obtain⟨t1,ht1⟩:∃t,(brB rs xs) i=t:=⟨_,rfl⟩;have HT1:=zk ht1;have CK:Hid (∀W,Bl wr W->Calls prog 30 #[agg #[.bool ss,slice sx sn sc,slice sy sm sd],agg #[.int .i64 i1,.bool s1,slice x1 n1 c1,slice y1 m1 d1],agg #[.int .i64 i2,.bool s2,slice x2 n2 c2,slice y2 m2 d2]] W λe w'=>e=returned (.bool (!t1))/\Bl W w'):=λW hW2=>by
      have hk9:=zjm (hr'.q_ hW2) (e1.q_ hW2) (e2.q_ hW2);rw[j1,j2]at hk9
      rw[j1,j2,HEQ.out ht1];exact hk9
     have hln:=zgw (brB rs xs) i;have i1':((i:Nat):Int)<((rs.length:Nat):Int):=by omega
     clear hCi hc hV hvm hblo hbhi e1 e2 j1 j2 ht1 hr' HEQ hv;go_upto_region 15 with fail
     clear q0 q1 q2 q3 q4 q5 q6 q7 q8 q9;replace p0:=kCb hbt p0;replace p1:=kCb hbt p1;replace p2:=kCb hbt p2
     have HB3:=zP HB2 hbt;have HRow3:=zk (HRow.out.q_ hbt)
     replace CK:=zk (λW (hW2:Below (wr.alloc (cells #[.string z,.int .i64 i1,.bool s1,slice x1 n1 c1,slice y1 m1 d1,.int .i64 i2,.bool s2,slice x2 n2 c2,slice y2 m2 d2,slice ta tk tc] 62)).heap.size (wr.alloc (cells #[.string z,.int .i64 i1,.bool s1,slice x1 n1 c1,slice y1 m1 d1,.int .i64 i2,.bool s2,slice x2 n2 c2,slice y2 m2 d2,slice ta tk tc] 62)) W)=>CK.out W (bUp hbt hW2));clear hbz hbt HB2 HRow;generalize hbx:wr.heap.size=bx at *;generalize wr.alloc (cells #[.string z,.int .i64 i1,.bool s1,slice x1 n1 c1,slice y1 m1 d1,.int .i64 i2,.bool s2,slice x2 n2 c2,slice y2 m2 d2,slice ta tk tc] 62)=w5 at *;clear hbx;go_region_held3 (λw'=>w'.cell? ⟨bx,1,none⟩=some (.int .i64 i1)/\w'.cell? ⟨bx,2,none⟩=some (.bool s1)/\w'.cell? ⟨bx,3,none⟩=some (slice x1 n1 c1)/\w'.cell? ⟨bx,4,none⟩=some (slice y1 m1 d1)/\w'.cell? ⟨bx,5,none⟩=some (.int .i64 i2)/\w'.cell? ⟨bx,6,none⟩=some (.bool s2)/\w'.cell? ⟨bx,7,none⟩=some (slice x2 n2 c2)/\w'.cell? ⟨bx,8,none⟩=some (slice y2 m2 d2)/\w'.cell? ⟨b',o'+i*3,none⟩=some (.bool ss)/\w'.cell? ⟨b',o'+i*3+1,none⟩=some (slice sx sn sc)/\w'.cell? ⟨b',o'+i*3+2,none⟩=some (slice sy sm sd))
      (refine⟨?_,?_,?_,?_,?_,?_,?_,?_,?_,?_,?_⟩ <;> repeat(with_reducible first|assumption|refine kCd ?_|refine kCb (by assumption) ?_))
      (first|(go_at_call 30;with_reducible refine(CK.out _ zad).mono ?_;rintro e w6 ⟨rfl,hb6⟩))
     have HB6:=zk (HB3.out.trans ((show Bl w5 w6 from zad).mono HB3.out.size));have HRow6:=zk (HRow3.out.q_ (show Bl w5 w6 from zad))
     clear hb6 HB3 HRow3 CK p0 p1 p2 a1 a2 a3 a4 a5 a6 a7 a8;cases t1
     ·go_wp2;go_roundw
      case rel=>exact⟨i+1,by omega,by go_num,HB6.out,by show RowG _ _ _ _ _ _ _;rw[zmu HT1.out];exact HRow6.out⟩
      case measure=>simp[intOf];omega
     ·have hsz:=HB6.out.size;go_wp2_with(at_builtin;go_must (refine zS w6 rfl (.tmp 65) (.tmp 67) 41 rfl w7.heap.size 3 8 1 (.int .i64 0) underlying41 zbh rfl (by decide) nzi u9 (crl (brB rs xs) i).length (ils (crl (brB rs xs) i)) rfl HRow6.out #[.int .i64 (i:Int)] rfl rfl (zfe _) (zeN _) ?p1 (by decide) hsz ?_))
      case p1=>omega
      intro g8 cap8 w8 hr8 hk8 hb8 hg8;have HB8:=zk (hb8 w7 HB6.out (le_refl _));have HR8:Hid (RowG 3 1 w7.heap.size w8 (slice (some ⟨g8,0,none⟩) ((crl (brB rs xs) i).length+1) cap8) (crl (brB rs xs) (i+1)).length (ils (crl (brB rs xs) (i+1)))):=by
       show RowG _ _ _ _ _ _ _;rw[zjC HT1.out];simpa[ils]using hr8
      clear hr8 hk8 hb8 hg8 HRow6 HB6 hsz;go_wp2;go_roundw
      case rel=>exact⟨i+1,by omega,by go_num,HB8.out,HR8.out⟩
      case measure=>simp[intOf];omega
    ·have i4:¬(((i:Nat):Int)<((rs.length:Nat):Int)):=by omega
     have e9:i=rs.length:=by omega
     obtain⟨ya,yc,hvs⟩:=HRow.out.slice;have HL2:=HRow.out;rw[hvs]at HL2
     have HIL:=zk (zfU HL2);rw[e9]at HIL
     have HVS:=zk hvs;rw[e9]at HVS
     have HBF:=zP HB HB2.out;have HCF:=zk (HCols.out.q_ HB2.out)
     clear hvs HL2 HRow HB2 HAct e9;rw[HVS.out];go_wp2
     go_ret3
     exact⟨HBF.out,.inr ⟨rfl,xa,xc,ya,yc,rfl,HCF.out,HIL.out⟩⟩
def zoN (L:Nat) (w w':World) (e:Ending) (er:Int) (rs:List RV) (xs:List Rat):Prop:=Bl w w' /\
 ((er≠0/\e=returned (.tuple #[slice none 0 0,.int .i64 er]))∨(er=0/\∃a c,e=returned (.tuple #[slice a rs.length c,.int .i64 0])/\(rs.length<=c/\c<=9223372036854775807)/\Rf (KA L) w' a (rs.map (zas xs))))
def zhl (cs:List CV) (rs:List RV) (xs:List Rat):Bool:=decide ((crl (bcB cs xs) cs.length).length=0) && decide ((crl (brB rs xs) rs.length).length=0)
def zaI (cs:List CV) (xs:List Rat):List Rat:=List.zipWith (λv x=>v.cost*x) cs xs
def zjT (off:Rat) (cs:List CV) (xs:List Rat):Rat:=zcm (off :: zaI cs xs) 0
def KV (L:Nat):Nat:=4+65*(2*L+1+1)
def zoL (L:Nat) (w w':World) (e:Ending) (er:Int) (off:Rat) (cs:List CV) (xs:List Rat):Prop:=Bl w w' /\
 ((er≠0/\e=returned (.tuple #[agg #[.bool false,slice none 0 0,slice none 0 0],.int .i64 er]))∨(er=0/\∃s x n c f y m d g,e=returned (.tuple #[agg #[.bool s,slice x n c,slice y m d],.int .i64 0])/\Rn (KV L) w' s x n c f y m d g (zjT off cs xs)))
theorem zmf {K base w s x n c f y m d g q} (h:Rn K w s x n c f y m d g q) (hb:base<=w.heap.size):Gr K base (w.alloc (cells #[.bool s,slice x n c,slice y m d] 24)) (slice (some ⟨w.heap.size,0,none⟩) 1 1) [q]:=by
 refine⟨λ_=>⟨s,x,n,c,f,y,m,d,g⟩,⟨rfl,.inr ⟨w.heap.size,1,#[.bool s,slice x n c,slice y m d],rfl,hb,heap_alloc_new w _,le_refl _,by decide,rfl,rfl,zab (zdy _ _ _ _ _ _ _)⟩⟩,λj q' e=>?_⟩;cases j with
 | zero=>cases e;exact h.alloc _
 | succ j=>simp at e
theorem znD {w L M off cs rs ao k cap X xs er} (hW:MoW w M) (hx:Rl w ao k X) (hk:k<=1048576) (he:zbq M k X=er) (hv:er=0->MoV L w M off cs rs/\zbA cs rs=true/\Rf L w ao xs/\xs.length=k/\k=cs.length) (hL:L<=30) :
  Calls prog 10 #[M.val,slice ao k cap] w λe w'=>zoN L w w' e er rs xs:=by
 have CC:=zk (λW (hW2:Bl w W)=>zco (cap:=cap) (hW.q_ hW2) (hx.q_ hW2) hk);rw[he]at CC
 clear hW hx he;have HV:=zk hv;clear hv;have CA:Hid (er=0->∀W,Bl w W->Calls prog 27 #[M.val,slice ao k cap] W λe w'=>∃a c,e=returned (slice a rs.length c)/\Bl W w'/\(rs.length<=c/\c<=9223372036854775807)/\Hid (Rf (KA L) w' a (rs.map (zas xs)))):=λh0 W hW2=>by
  obtain⟨v1,v2,v3,v4,v5⟩:=HV.out h0;have mp:=zbo v2;exact zmJ (v1.q_ hW2) (v3.q_ hW2) v4 (λr hr t ht=>by have:=mp.tc r hr t ht;rw[v5];exact this) mp.rl mp.tl (by omega)
 obtain⟨⟨s,x,n,c,f,y,m,d,g⟩,ca,ck,cc,C,ra,rk,rc,R⟩:=M;replace CC:Hid (∀W,Bl w W->Calls prog 26 #[agg #[.bool s,slice x n c,slice y m d,slice ca ck cc,slice ra rk rc],slice ao k cap] W λe w'=>e=returned (.int .i64 er)/\Bl W w'):=CC;replace CA:Hid (er=0->∀W,Bl w W->Calls prog 27 #[agg #[.bool s,slice x n c,slice y m d,slice ca ck cc,slice ra rk rc],slice ao k cap] W λe w'=>∃a c,e=returned (slice a rs.length c)/\Bl W w'/\(rs.length<=c/\c<=9223372036854775807)/\Hid (Rf (KA L) w' a (rs.map (zas xs)))):=CA;clear HV;show Calls prog 10 #[agg #[.bool s,slice x n c,slice y m d,slice ca ck cc,slice ra rk rc],slice ao k cap] w _;have hb:=zF w (cells #[.bool s,slice x n c,slice y m d,slice ca ck cc,slice ra rk rc] 28);have BM:=zk (zJ w [.bool s,slice x n c,slice y m d,slice ca ck cc,slice ra rk rc] 28);have HB:=zk hb;clear hb;go_enter func10,ntmps10;go_wp2_with fail
 generalize w.alloc (cells #[.bool s,slice x n c,slice y m d,slice ca ck cc,slice ra rk rc] 28)=w0 at *;refine(CC.out _ HB.out).mono ?_;rintro e w1 ⟨rfl,hb⟩;replace HB:=zP HB hb;replace BM:=zk (BM.out.q_ hb)
 clear hb CC;by_cases h0:er=0
 case neg =>
  have h1:(er != 0)=true:=by simpa using h0
  have H0:=zk h0;go_wp2
  go_ret2
  exact⟨HB.out,.inl ⟨H0.out,rfl⟩⟩
 have CA2:=zk (CA.out h0);subst h0;clear CA;obtain⟨r0,r1,r2,r3,r4⟩:=bk5 BM.out;go_wp2_with fail
 refine(CA2.out _ HB.out).mono ?_;rintro e w2 ⟨aa,ac,rfl,hb,hac,HR⟩;replace HB:=zP HB hb;have HAC:=zk hac;clear hb hac r0 r1 r2 r3 r4 BM CA2;go_wp2
 go_ret2
 exact⟨HB.out,.inr ⟨rfl,aa,ac,rfl,HAC.out,HR.out⟩⟩
theorem znB {w L M off cs rs ao k cap X xs er} (hW:MoW w M) (hx:Rl w ao k X) (hk:k<=1048576) (he:zbq M k X=er) (hv:er=0->MoV L w M off cs rs/\zbA cs rs=true/\Rf L w ao xs/\xs.length=k/\k=cs.length) (hL:L<=30) :
  Calls prog 19 #[M.val,slice ao k cap] w λe w'=>e=returned (.tuple #[.bool (decide (er=0) && zhl cs rs xs),.int .i64 er])/\Bl w w':=by
 have CB:Hid (∀W,Bl w W->Calls prog 12 #[M.val,slice ao k cap] W λe w'=>zfE W w' e er cs rs xs):=λW hW2=>zdx (hW.q_ hW2) (hx.q_ hW2) hk he (λh0=>⟨(hv h0).1.q_ hW2,(hv h0).2.1,(hv h0).2.2.1.q_ hW2,(hv h0).2.2.2⟩) hL
 clear hW hx hv he;obtain⟨⟨s,x,n,c,f,y,m,d,g⟩,ca,ck,cc,C,ra,rk,rc,R⟩:=M;replace CB:Hid (∀W,Bl w W->Calls prog 12 #[agg #[.bool s,slice x n c,slice y m d,slice ca ck cc,slice ra rk rc],slice ao k cap] W λe w'=>zfE W w' e er cs rs xs):=CB;obtain⟨l1,hl1⟩:∃z,(crl (bcB cs xs) cs.length).length=z:=⟨_,rfl⟩;obtain⟨l2,hl2⟩:∃z,(crl (brB rs xs) rs.length).length=z:=⟨_,rfl⟩;have HF:Hid (zhl cs rs xs=(decide (l1=0) && decide (l2=0))):=by show _=_;rw[zhl,hl1,hl2]
 unfold zfE at CB;rw[hl1,hl2]at CB
 clear hl1 hl2;show Calls prog 19 #[agg #[.bool s,slice x n c,slice y m d,slice ca ck cc,slice ra rk rc],slice ao k cap] w _;have HB:=zk (zF w (cells #[.bool s,slice x n c,slice y m d,slice ca ck cc,slice ra rk rc] 28));go_enter func19,ntmps19;go_wp2_with fail
 refine(CB.out _ HB.out).mono ?_;rintro e w1 ⟨hb,hans⟩;replace HB:=zP HB hb;clear hb CB;rcases hans with⟨h0,rfl⟩|⟨h0,xa,xc,ya,yc,rfl,_,_⟩
 ·have h1:(er==0)=false:=by simpa using h0
  have HE:Hid (decide (er=0)=false):=decide_eq_false h0;clear h0;go_wp2
  go_ret2
  exact⟨by rw[HE.out];rfl,HB.out⟩
 ·subst h0;by_cases c1:l1=0
  ·subst c1;by_cases c2:l2=0
   ·subst c2;go_wp2
    go_ret2
    exact⟨by rw[HF.out];rfl,HB.out⟩
   ·have c3:(((l2:Nat):Int)==0)=false:=by simp;omega
    have HE:Hid (decide (l2=0)=false):=decide_eq_false c2;go_wp2
    go_ret2
    exact⟨by rw[HF.out,HE.out];rfl,HB.out⟩
  ·have c3:(((l1:Nat):Int)==0)=false:=by simp;omega
   have HE:Hid (decide (l1=0)=false):=decide_eq_false c1;go_wp2
   go_ret2
   exact⟨by rw[HF.out,HE.out];rfl,HB.out⟩
theorem zlC {w L M off cs rs ao k cap X xs er} (hW:MoW w M) (hx:Rl w ao k X) (hk:k<=1048576) (he:zbq M k X=er) (hv:er=0->MoV L w M off cs rs/\zbA cs rs=true/\Rf L w ao xs/\xs.length=k/\k=cs.length) (hL:L<=30) :
  Calls prog 11 #[M.val,slice ao k cap] w λe w'=>zoL L w w' e er off cs xs:=by
 have CC:=zk (λW (hW2:Bl w W)=>zco (cap:=cap) (hW.q_ hW2) (hx.q_ hW2) hk);rw[he]at CC
 clear hW hx he;have HV:=zk hv;clear hv;obtain⟨⟨s,x,n,c,f,y,m,d,g⟩,ca,ck,cc,C,ra,rk,rc,R⟩:=M;replace CC:Hid (∀W,Bl w W->Calls prog 26 #[agg #[.bool s,slice x n c,slice y m d,slice ca ck cc,slice ra rk rc],slice ao k cap] W λe w'=>e=returned (.int .i64 er)/\Bl W w'):=CC;show Calls prog 11 #[agg #[.bool s,slice x n c,slice y m d,slice ca ck cc,slice ra rk rc],slice ao k cap] w _;have hb:=zu (zF w (cells #[.bool s,slice x n c,slice y m d,slice ca ck cc,slice ra rk rc] 28)) (cells #[.bool false,slice none 0 0,slice none 0 0] 24);have BM:=zk ((zJ w [.bool s,slice x n c,slice y m d,slice ca ck cc,slice ra rk rc] 28).q_ (zF _ (cells #[.bool false,slice none 0 0,slice none 0 0] 24)));have hob:=zay (w.alloc (cells #[.bool s,slice x n c,slice y m d,slice ca ck cc,slice ra rk rc] 28)) 24;rw[zz]at hob
 have OB:=zk hob;have HB:=zk hb
 clear hb hob;go_enter func11,ntmps11;obtain⟨r0,r1,r2,r3,r4⟩:=bk5 BM.out;go_wp2_with fail
 clear r0 r1 r2 r3 r4;generalize((w.alloc (cells #[.bool s,slice x n c,slice y m d,slice ca ck cc,slice ra rk rc] 28)).alloc (cells #[.bool false,slice none 0 0,slice none 0 0] 24))=w0 at *;refine(CC.out _ HB.out).mono ?_;rintro e w1 ⟨rfl,hb⟩;replace HB:=zP HB hb;replace BM:=zk (BM.out.q_ hb);replace OB:=zk (OB.out.q_ hb)
 clear hb CC;by_cases h0:er=0
 case neg =>
  have h1:(er != 0)=true:=by simpa using h0
  have H0:=zk h0;obtain⟨hz,z0,z1,z2,zf⟩:=OB.out;go_wp2;exact bodyPost_ret (v:=.tuple #[agg #[.bool false,slice none 0 0,slice none 0 0],.int .i64 er]) (by simp[results,results11,go_sem,z0,z1,z2]) rfl ⟨below_st HB.out (by omega),.inl ⟨H0.out,rfl⟩⟩
 obtain⟨v1,v2,v3,v4,v5⟩:=HV.out h0;have mp:=zbo v2;subst h0;have l64:=mp.cl;have HC:Hid (∀j v,cs[j]?=some v->(∃b o,ca=some ⟨b,o,none⟩/\Cs w b (o+j*12) (C j).vs)/\ColV L w (C j) v):=v1.cls;have HO:Hid (Rn L w s x n c f y m d g off):=v1.off;have hck:ck=cs.length:=v1.ck;subst hck;subst v5;have HX:=zk v3;have HXL:=zk v4
 clear v1 v2 v3 v4 mp HV;have HG:=zk (zmf (K:=2*L+1) (base:=w1.heap.size) ((HO.out.q_ HB.out).mono (by omega)) (le_refl _));have hbo:=zF w1 (cells #[.bool s,slice x n c,slice y m d] 24);obtain⟨r0,r1,r2,r3,r4⟩:=bk5 BM.out;have r3':=kCb hbo r3;go_wp2_with fail
 clear r0 r1 r2 r3 r3' r4 HO;go_loopw[7,23] (λov t wr=>∃(i:Nat),i<=cs.length/\t=.int .i64 i/\Hid (Bl w1 wr)/\Hid (Gr (2*L+1) w1.heap.size wr ov (off :: (zaI cs xs).take i))) (λ_ t _=>cs.length-(intOf t).toNat)
 case atStart=>exact⟨0,by omega,rfl,hbo,HG⟩
 case round =>
  clear HG hbo;obtain⟨i,hi,rfl,HB2,HG2⟩:=hrel;have hcl:(zaI cs xs).length=cs.length:=by unfold zaI;rw[List.length_zipWith,HXL.out,Nat.min_self]
  have hgl:(off :: (zaI cs xs).take i).length=i+1:=by rw[List.length_cons,List.length_take];omega
  by_cases hlt:i<cs.length
  ·obtain⟨v,hv⟩:∃t,cs[i]?=some t:=⟨_,getElem?_eq_getElem (by omega)⟩;obtain⟨⟨b,o,hba,hc⟩,hV⟩:=HC.out i v hv;subst hba;have hbz:=bUp HB.out HB2.out;have hcost:=hV.cost.q_ hbz;obtain⟨⟨z,⟨s0,x0,n0,c0,f0,y0,m0,d0,g0⟩,⟨i1,⟨s1,x1,n1,c1,f1,y1,m1,d1,g1⟩⟩,⟨i2,⟨s2,x2,n2,c2,f2,y2,m2,d2,g2⟩⟩⟩,hCi⟩:∃t,C i=t:=⟨_,rfl⟩;rw[hCi]at hc hcost
   replace hcost:Rn L wr s0 x0 n0 c0 f0 y0 m0 d0 g0 v.cost:=hcost;replace hc:=Cs.q_ hc hbz;obtain⟨q0,q1,q2,q3,q4,q5,q6,q7,q8,q9,q10,q11⟩:=hc.lc;obtain⟨r,hr⟩:∃t,xs[i]?=some t:=⟨_,getElem?_eq_getElem (by have:=HXL.out;omega)⟩;obtain⟨b',o',⟨ss,sx,sn,sc,sf,sy,sm,sd,sg⟩,hax,⟨p0,p1,p2⟩,hr'⟩:=(HX.out.q_ hbz) i r hr;subst hax;replace p0:wr.cell? ⟨b',o'+i*3,none⟩=some (.bool ss):=p0;replace p1:wr.cell? ⟨b',o'+i*3+1,none⟩=some (slice sx sn sc):=p1;replace p2:wr.cell? ⟨b',o'+i*3+2,none⟩=some (slice sy sm sd):=p2;replace hr':Rn L wr ss sx sn sc sf sy sm sd sg r:=hr';have HCI:Hid ((zaI cs xs).take (i+1)=(zaI cs xs).take i++[v.cost*r]):=by
    show _=_;rw[List.take_add_one]
    congr 1
    unfold zaI;rw[List.getElem?_zipWith,hv,hr];rfl
   have hbt:=zF wr (cells #[.string z,.bool s0,slice x0 n0 c0,slice y0 m0 d0,.int .i64 i1,.bool s1,slice x1 n1 c1,slice y1 m1 d1,.int .i64 i2,.bool s2,slice x2 n2 c2,slice y2 m2 d2] 59);obtain⟨-,a1,a2,a3⟩:=bk4 (zJ wr [.string z,.bool s0,slice x0 n0 c0,slice y0 m0 d0,.int .i64 i1,.bool s1,slice x1 n1 c1,slice y1 m1 d1,.int .i64 i2,.bool s2,slice x2 n2 c2,slice y2 m2 d2] 59);have i1':((i:Nat):Int)<((cs.length:Nat):Int):=by omega
   clear hCi hc hV hv hr;go_upto_region 8 with fail
   clear q0 q1 q2 q3 q4 q5 q6 q7 q8 q9 q10 q11;replace p0:=kCb hbt p0;replace p1:=kCb hbt p1;replace p2:=kCb hbt p2
   have HB3:=zP HB2 hbt;have HG3:=zk (HG2.out.q_ hbt);have R1:=zk (hcost.q_ hbt);have R2:=zk (hr'.q_ hbt)
   clear hbz hbt HB2 HG2 hcost hr';generalize hbx:wr.heap.size=bx at *;generalize wr.alloc (cells #[.string z,.bool s0,slice x0 n0 c0,slice y0 m0 d0,.int .i64 i1,.bool s1,slice x1 n1 c1,slice y1 m1 d1,.int .i64 i2,.bool s2,slice x2 n2 c2,slice y2 m2 d2] 59)=w5 at *;clear hbx;refine zaR (S:=(λw'=>w'.cell? ⟨bx,1,none⟩=some (.bool s0)/\w'.cell? ⟨bx,2,none⟩=some (slice x0 n0 c0)/\w'.cell? ⟨bx,3,none⟩=some (slice y0 m0 d0)/\w'.cell? ⟨b',o'+i*3,none⟩=some (.bool ss)/\w'.cell? ⟨b',o'+i*3+1,none⟩=some (slice sx sn sc)/\w'.cell? ⟨b',o'+i*3+2,none⟩=some (slice sy sm sd))) 7 (by kernel_rfl) ⟨kCd a1,kCd a2,kCd a3,kCd p0,kCd p1,kCd p2⟩ (λhHeld=>?_);refine skP 0 ?_;refine skP 1 ?_;refine tkP 2 ?_;simp only[zw,Act.put];refine skP 3 ?_;refine skP 4 ?_;refine skP 5 ?_;simp only[zw,Act.put];refine tkP 6 ?_;simp only[zw,Act.put];refine rdP 7 (λK hK=>?_);go_simp
   go_at_call 28
   refine(zdf (L:=L) (zgn R1.out) (zgn R2.out) (by omega)).mono ?_;rintro e w6 ⟨s6,x6,n6,c6,f6,y6,m6,d6,g6,rfl,hb6,hq6⟩
   (try go_wp2_with fail)
   refine hK.out _ _ (λh=>by cases h) (λ_=>?_);clear hK K;try simp only[zw,Act.put]
   refine rdP 8 (λK hK=>?_);go_simp;refine hK.out _ _ (λh=>by cases h) (λ_=>?_);clear hK K;try simp only[zw,Act.put]
   refine rdP 9 (λK hK=>?_);obtain⟨T,hrow,hT⟩:=(Gr.q_ HG3.out (Below.drew (Below.refl w5.heap.size w5))).q_ hb6;rw[hgl]at hrow
   refine zat w6 rfl (.tmp 28) (.tmp 36) 29 rfl w1.heap.size 24 56 3 (agg #[.bool false,slice none 0 0,slice none 0 0]) underlying29 zbg rfl (by decide) nz3 u7 (i+1) _ rfl hrow #[.bool s6,slice x6 n6 c6,slice y6 m6 d6] rfl rfl (zeM _ _ _ _ _ _ _) (zdy _ _ _ _ _ _ _) (by omega) (by decide) ?hz ?_
   case hz=>exact(HB3.out.drew.trans (hb6.mono HB3.out.drew.size)).size
   intro g8 cap8 w8 hr8 hk8 hb8 hg8;have HB8:Hid (Bl w1 w8):=hb8 w1 (HB3.out.drew.trans (hb6.mono HB3.out.drew.size)) (le_refl _);have HG8:Hid (Gr (2*L+1) w1.heap.size w8 (slice (some ⟨g8,0,none⟩) (i+1+1) cap8) (off :: (zaI cs xs).take (i+1))):=by
    have hp8:=zdo (p:=off :: (zaI cs xs).take i) hT (by rw[hgl];exact hr8) hk8 hq6;rw[hgl]at hp8
    rw[HCI.out];exact hp8
   clear hr8 hk8 hb8 hg8 hrow hT hb6 hq6 HG3 HB3 R1 R2;refine hK.out _ _ (λh=>by cases h) (λ_=>?_);clear hK K;simp only[List.getElem_toArray,List.getElem_cons_succ,List.getElem_cons_zero,Act.put,List.setIfInBounds_toArray,List.set_cons_zero,List.set_cons_succ];refine zbk (i:=10) (v:=?_) rfl (by kernel_rfl) (by kernel_rfl) (by kernel_rfl) (by kernel_rfl) (λ_ _ _ h=>h) (Or.inl ⟨by rfl,?_⟩) (λh=>by cases h) ?_;rotate_left
   (focus (intro w0 hSw;go_simp <;> with_reducible rfl))
   simp only[List.getElem_toArray,List.getElem_cons_succ,List.getElem_cons_zero,Act.put,List.setIfInBounds_toArray,List.set_cons_zero,List.set_cons_succ];refine dnP ?_;clear hHeld a1 a2 a3 p0 p1 p2;go_wp2;go_roundw
   case rel=>exact⟨i+1,by omega,by go_num,HB8.out,HG8.out⟩
   case measure=>simp[intOf];omega
  ·have i4:¬(((i:Nat):Int)<((cs.length:Nat):Int)):=by omega
   have e9:i=cs.length:=by omega
   obtain⟨va,vc,hvs,hvc⟩:=HG2.out.slice;rw[hgl]at hvs
   have HG4:=HG2.out;rw[hvs]at HG4
   replace HG4:=zk (show Rf (2*L+1) wr va (off :: zaI cs xs) by have:=HG4.rf;rw[List.take_of_length_le (by omega)]at this;exact this);subst hvs;have HLen:=zk (show(off :: zaI cs xs).length=i+1 by rw[List.length_cons];omega);have hi65:i+1<=65:=by omega
   replace HB:=zP HB HB2.out;replace OB:=zk (OB.out.q_ HB2.out)
   clear HG2 HB2 hgl hcl e9 HC HX BM;go_wp2_with fail
   refine(zlF (L:=2*L+1) HG4.out HLen.out (by omega) (by omega)).mono ?_;rintro e w6 ⟨s6,x6,n6,c6,f6,y6,m6,d6,g6,rfl,hb6,hq6⟩;replace HB:=zP HB hb6;replace OB:=zk (OB.out.q_ hb6)
   have HQ:=zk (show Rn (KV L) w6 s6 x6 n6 c6 f6 y6 m6 d6 g6 (zjT off cs xs)from hq6.mono (by unfold KV;have:(i+1)*(2*L+1+1)<=65*(2*L+1+1):=Nat.mul_le_mul_right _ hi65;omega));clear hb6 hq6 HG4 HLen;obtain⟨hz,z0,z1,z2,zf⟩:=OB.out;go_wp2;exact bodyPost_ret (v:=.tuple #[agg #[.bool s6,slice x6 n6 c6,slice y6 m6 d6],.int .i64 0]) (by simp[results,results11,go_sem,z0,z1,z2]) rfl ⟨below_st HB.out (by omega),.inr ⟨rfl,s6,x6,n6,c6,f6,y6,m6,d6,g6,rfl,OB.out.rn HQ.out⟩⟩
def zjL (L:Nat) (w w':World) (e:Ending) (q:Rat):Prop:=∃s x n c f y m d g,e=returned (agg #[.bool s,slice x n c,slice y m d])/\Bl w w'/\Rn L w' s x n c f y m d g q/\Own .u64 46 w' w.heap.size (slice x n c) n f/\Own .u64 46 w' w.heap.size (slice y m d) m g/\Apart x y
def zov (L:Nat) (w w':World) (e:Ending) (q:Rat):Prop:=∃s x n c f y m d g,e=returned (.tuple #[agg #[.bool s,slice x n c,slice y m d],.int .i64 0])/\Bl w w'/\Rn L w' s x n c f y m d g q/\Own .u64 46 w' w.heap.size (slice x n c) n f/\Own .u64 46 w' w.heap.size (slice y m d) m g/\Apart x y
theorem zlH {w W:World} {b B n m c d:Nat} {x y:Option Addr} {f g:Nat->Int} (h1:Own .u64 46 w b (slice x n c) n f) (h2:Own .u64 46 W B (slice y m d) m g) (hB:w.heap.size<=B):Apart x y:=λp q hp hq=>by
 have e1:=(h1.slice.2.2.2.2 p hp).2;have e2:=(h2.slice.2.2.2.2 q hq).1;omega
theorem znG {w:World} {b n c:Nat} {x:Option Addr} {f:Nat->Int} (h:Own .u64 46 w b (slice x n c) n f):Und x w.heap.size:=λp hp=>(h.slice.2.2.2.2 p hp).2
theorem zqQ {w:World} {s t x y n m c d f g u v} (ha:Wn w s x n c f u) (hb:Wn w t y m d g v) (hn:n<=1048576) (hm:m<=1048576) :
  Calls prog 98 #[agg #[.bool s,slice x n c],agg #[.bool t,slice y m d]] w λe w'=>∃r z k e' h,e=returned (.tuple #[agg #[.bool r,slice z k e'],.int .i64 0])/\Bl w w'/\k<=max n m+1/\Wn w' r z k e' h (u+v)/\Own .u64 46 w' w.heap.size (slice z k e') k h:=by
 refine(zkP s t x y n m c d f g w (by omega) (by omega) ha.rd hb.rd ha.lm hb.lm).mono ?_;rintro e w' ⟨r,z,k,e',h,er,rfl,hres,hans⟩;obtain⟨rfl,hv⟩:=hans.ok ⟨ha.wf,hb.wf⟩;exact⟨r,z,k,e',h,rfl,hres.res.bel,hres.res.le,hres.wn (by rw[hv,ha.val,hb.val]),hres.res.own⟩
theorem zlP {w:World} {x n c f y m d g} {A B:Nat} (ha:Wn w false x n c f A) (hb:Wn w false y m d g B) (hn:n<=1048576) (hm:m<=1048576) :
  Calls prog 95 #[slice x n c,slice y m d] w λe w'=>∃z k e' h,e=returned (.tuple #[slice z k e',.int .i64 0])/\Bl w w'/\k<=n+m/\Wn w' false z k e' h (A*B:Nat)/\Own .u64 46 w' w.heap.size (slice z k e') k h:=by
 refine(zmQ x y n m c d f g w (by omega) (by omega) ha.cap.1 hb.cap.1 ha.cap.2 hb.cap.2 ha.rd hb.rd ha.lm hb.lm).mono ?_;rintro e w' ⟨z,k,e',h,er,rfl,hres,hv⟩;have hr:=hres.ans (by omega);rcases hv with⟨_,_,rfl,hv⟩|⟨h1,_⟩
 ·refine⟨z,k,e',h,rfl,hr.bel,hr.le,⟨hr.rd,hr.lm,(wfB_iff _ _ _).2 ⟨hr.fm,λh=>by cases h⟩,hr.ncap,hr.nil',?_⟩,hr.own⟩;show vf h k=_;rw[hv,ha.nv,hb.nv];simp
 ·exact absurd ⟨ha.fm,hb.fm⟩ h1
theorem zqL {w:World} {x n c f y m d g} {A B:Nat} (ha:Wn w false x n c f A) (hb:Wn w false y m d g B) (h0:0<B) (hn:n<=1048576) (hm:m<=1048576) :
  Calls prog 116 #[slice x n c,slice y m d] w λe w'=>∃z k e' h z2 k2 e2,e=returned (.tuple #[slice z k e',slice z2 k2 e2,.int .i64 0])/\Bl w w'/\k<=n/\Wn w' false z k e' h (A/B:Nat)/\Own .u64 46 w' w.heap.size (slice z k e') k h:=by
 refine(zhH x y n m c d f g w (by omega) (by omega) ha.rd hb.rd ha.lm hb.lm).mono ?_;rintro e w' ⟨z,k,e',h,z2,k2,e2,r,er,rfl,hres,_,hv⟩;have hr:=hres.ans (by omega);have hmp:=hb.pos (by omega);rcases hv with⟨_,_,_,rfl,hv,h1,h2⟩|⟨_,_,h1,_⟩|⟨h1,_⟩
 ·refine⟨z,k,e',h,z2,k2,e2,rfl,hr.bel,hr.le,⟨hr.rd,hr.lm,(wfB_iff _ _ _).2 ⟨hr.fm,λh=>by cases h⟩,hr.ncap,hr.nil',?_⟩,hr.own⟩;show vf h k=_;rw[ha.nv,hb.nv]at hv
  rw[hb.nv]at h2
  have hq:=zv hr.lm;obtain⟨Q,hQ⟩:=Int.eq_ofNat_of_zero_le hq;obtain⟨R,hR⟩:=Int.eq_ofNat_of_zero_le h1;rw[hQ,hR]at hv
  rw[hR]at h2
  rw[hQ];have h3:A=Q*B+R:=by exact_mod_cast hv
  have h4:R<B:=by exact_mod_cast h2
  have:A/B=Q:=by rw[h3,Nat.mul_comm,Nat.mul_add_div h0,Nat.div_eq_of_lt h4];rfl
  rw[this]
 ·omega
 ·exact absurd ⟨ha.fm,hb.fm⟩ h1
theorem zpw {w:World} {x n c f y m d g} {A B:Nat} (ha:Wn w false x n c f A) (hb:Wn w false y m d g B) (h0:0<B) (hn:n<=1048576) (hm:m<=1048576) {base:Nat} (ho:Own .u64 46 w base (slice x n c) n f) (hbs:base<=w.heap.size) :
  Calls prog 96 #[slice x n c,slice y m d] w λe w'=>∃z k e' h,e=returned (slice z k e')/\Bl w w'/\Hid (k<=n/\Wn w' false z k e' h (A/B:Nat)/\Own .u64 46 w' base (slice z k e') k h/\∀q,Und q w.heap.size->Apart x q->Apart z q):=by
 have C2:=zk (zdm hb);have C3:=zk (zqL ha hb h0 hn hm);have HA:=zk ha;have HO:=zk ho
 clear ho;by_cases h2:B=1
 ·have e1:decide ((B:Int)=1)=true:=by simp[h2]
  have e2:A/B=A:=by rw[h2];simp
  rw[e2];rw[e1]at C2
  clear ha hb e1 e2 C3 h0 h2;go_enter func96,ntmps96;go_wp2_with fail
  refine C2.out.mono ?_;rintro e w1 ⟨rfl,rfl⟩;go_wp2;go_ret;exact⟨x,n,c,f,rfl,Below.refl _ _,le_refl _,HA.out,HO.out,λ_ _ hq=>hq⟩
 ·have e1:decide ((B:Int)=1)=false:=by simp;omega
  rw[e1]at C2
  clear ha hb e1 h0 h2;go_enter func96,ntmps96;go_wp2_with fail
  refine C2.out.mono ?_;rintro e w1 ⟨rfl,rfl⟩;go_wp2_with fail
  refine C3.out.mono ?_;rintro e w2 ⟨z,k,e',h,z2,k2,e2,rfl,h1,h2,h3,h4⟩;have H2:=zk (And.intro h2 (And.intro h3 (And.intro (h4.base hbs) (λ(q:Option Addr) (hq:Und q w1.heap.size) (_:Apart x q)=>show Apart z q from λp r hp hr=>by have e1:=(h4.slice.2.2.2.2 p hp).1;have e2:=hq r hr;omega))));clear h2 h3 h4;go_wp2;go_ret;exact⟨z,k,e',h,rfl,h1,H2.out⟩
theorem zlu {L:Nat} {w:World} {sa:Bool} {xa:Option Addr} {na ca:Nat} {fa:Nat->Int} {ya:Option Addr} {ma da:Nat} {ga:Nat->Int} {a:Rat} {sb:Bool} {xb:Option Addr} {nb cb:Nat} {fb:Nat->Int} {yb:Option Addr} {mb db:Nat} {gb:Nat->Int} {b:Rat} (ha:Rn L w sa xa na ca fa ya ma da ga a) (hb:Rn L w sb xb nb cb fb yb mb db gb b) (hL:L<=200000) :
  Calls prog 73 #[agg #[.bool sa,slice xa na ca,slice ya ma da],agg #[.bool sb,slice xb nb cb,slice yb mb db]] w λe w'=>zjL (2*L+1) w w' e (a+b):=by
 have HA0:=zk ha;have HB0:=zk hb
 have b1:=ha.ln;have b2:=ha.ld;have b3:=hb.ln;have b4:=hb.ld
 clear ha hb;go_enter func73,ntmps73;go_wp2_with fail
 refine(zbu (((HA0.out.den.alloc _).alloc _).alloc _) (((HB0.out.den.alloc _).alloc _).alloc _) (by omega) (by omega)).mono ?_;rintro e w1 ⟨zg,kg,cg,fg,rfl,hbel,hg⟩;obtain⟨⟨hz,x0,x1,x2,y0,y1,y2,z0,z1,z2,zf⟩,hw⟩:=zbs hbel;have T1:Hid (Three w.heap.size w1 _ _ _ _ _ _ _ _ _):=⟨hz,x0,x1,x2,y0,y1,y2,z0,z1,z2,zf⟩;have HW1:=zk hw;have WG1:=zk hg;have HA1:=zk (HA0.out.q_ hw);have HB1:=zk (HB0.out.q_ hw)
 have hG0:0<a.den.gcd b.den:=Nat.gcd_pos_of_pos_left _ a.den_pos;have hkg:kg<=L:=le_trans (hg.len_le HA1.out.den (Nat.gcd_le_left _ a.den_pos)) (by omega);clear hbel hw hg HA0 HB0;have C1:Hid ((∀W,Bl w1 W->Calls prog 96 #[slice ya ma da,slice zg kg cg] W λe w'=>∃z k e' h,e=returned (slice z k e')/\Bl W w'/\Hid (k<=L/\Wn w' false z k e' h (a.den/a.den.gcd b.den:Nat)))):=λW hW=>(zbw (HA1.out.den.q_ hW) (WG1.out.q_ hW) hG0 (by omega) (by omega)).mono (λe w' ⟨z,k,e',h,h1,h2,h3⟩=>⟨z,k,e',h,h1,h2,by have:=h3.out.1;omega,h3.out.2⟩)
 have C2:Hid ((∀W,Bl w1 W->Calls prog 96 #[slice yb mb db,slice zg kg cg] W λe w'=>∃z k e' h,e=returned (slice z k e')/\Bl W w'/\Hid (k<=L/\Wn w' false z k e' h (b.den/a.den.gcd b.den:Nat)))):=λW hW=>(zbw (HB1.out.den.q_ hW) (WG1.out.q_ hW) hG0 (by omega) (by omega)).mono (λe w' ⟨z,k,e',h,h1,h2,h3⟩=>⟨z,k,e',h,h1,h2,by have:=h3.out.1;omega,h3.out.2⟩)
 go_wp2_with fail
 go_region_held3 (λw'=>w'.cell? ⟨w.heap.size,2,none⟩=some (slice ya ma da)/\w'.cell? ⟨w.heap.size+1,2,none⟩=some (slice yb mb db))
  (refine⟨?_,?_⟩ <;> repeat(with_reducible first|assumption|refine kCd ?_|refine kCa ?_|refine kCb (by assumption) ?_))
  (first
   | (go_at_call 96;with_reducible refine(C1.out _ zad).mono ?_;rintro e w2 ⟨zp,kp,cp,fp,rfl,hb2,HP⟩)
   | (go_at_call 96;with_reducible refine(C2.out _ zad).mono ?_;rintro e w3 ⟨zq,kq,cq,fq,rfl,hb3,HQ⟩))
 have hb:Bl w1 w3:=zad;have hkp:=HP.out.1;have hkq:=HQ.out.1
 have WP3:=zk (HP.out.2.q_ hb3);have WQ3:=zk HQ.out.2;clear HP HQ C1 C2 hb2 hb3;have HA3:=zk (HA1.out.q_ hb);have HB3:=zk (HB1.out.q_ hb);have T3:=zk (T1.out.q_ hb);have WG3:=zk (WG1.out.q_ hb);have HW3:=zk (HW1.out.trans (hb.mono HW1.out.size))
 clear HA1 HB1 T1 WG1 HW1 hb;clear hz x0 x1 x2 y0 y1 y2 z0 z1 z2 zf;obtain⟨hz,x0,x1,x2,y0,y1,y2,z0,z1,z2,zf⟩:=T3.out;have hza:w.heap.size<w3.heap.size:=by omega
 have hzb:w.heap.size+1<w3.heap.size:=by omega
 go_wp2_with fail
 refine(zbY sa xa ya na ca ma da _).mono ?_;rintro e w4 ⟨rfl,hb⟩;have HA4:=zk (HA3.out.q_ hb);have HB4:=zk (HB3.out.q_ hb);have T4:=zk (T3.out.q_ hb);have WG4:=zk (WG3.out.q_ hb);have WP4:=zk (WP3.out.q_ hb);have WQ4:=zk (WQ3.out.q_ hb);have HW4:=zk (HW3.out.trans (hb.mono HW3.out.size))
 clear HA3 HB3 T3 WG3 WP3 WQ3 HW3 hb;clear hza hzb hz x0 x1 x2 y0 y1 y2 z0 z1 z2 zf;obtain⟨hz,x0,x1,x2,y0,y1,y2,z0,z1,z2,zf⟩:=T4.out;have hza:w.heap.size<w4.heap.size:=by omega
 have hzb:w.heap.size+1<w4.heap.size:=by omega
 go_wp2_with fail
 refine(zji HA4.out.num WQ4.out (by omega) (by omega)).mono ?_;rintro e w5 ⟨s5,p5,k5,c5,f5,rfl,hb,hk5,hp⟩;have WX5:=zk hp;clear hp WQ4;have HA5:=zk (HA4.out.q_ hb);have HB5:=zk (HB4.out.q_ hb);have T5:=zk (T4.out.q_ hb);have WG5:=zk (WG4.out.q_ hb);have WP5:=zk (WP4.out.q_ hb);have HW5:=zk (HW4.out.trans (hb.mono HW4.out.size))
 clear HA4 HB4 T4 WG4 WP4 HW4 hb;clear hza hzb hz x0 x1 x2 y0 y1 y2 z0 z1 z2 zf;obtain⟨hz,x0,x1,x2,y0,y1,y2,z0,z1,z2,zf⟩:=T5.out;have hza:w.heap.size<w5.heap.size:=by omega
 have hzb:w.heap.size+1<w5.heap.size:=by omega
 go_wp2_with fail
 refine(zbY sb xb yb nb cb mb db _).mono ?_;rintro e w6 ⟨rfl,hb⟩;have BX6:=zk (zgC hb);have HB6:=zk (HB5.out.next hb);have T6:=zk (T5.out.next hb);have WG6:=zk (WG5.out.next hb);have WP6:=zk (WP5.out.next hb);have WX6:=zk (WX5.out.next hb);have HW6:=zk ((zu HW5.out _).trans (hb.mono (zu HW5.out _).size))
 clear HB5 T5 WG5 WP5 WX5 HW5 hb;clear hza hzb hz x0 x1 x2 y0 y1 y2 z0 z1 z2 zf;obtain⟨hz,x0,x1,x2,y0,y1,y2,z0,z1,z2,zf⟩:=T6.out;have hza:w.heap.size<w6.heap.size:=by omega
 have hzb:w.heap.size+1<w6.heap.size:=by omega
 go_wp2_with fail
 refine(zji HB6.out.num WP6.out (by omega) (by omega)).mono ?_;rintro e w7 ⟨s7,p7,k7,c7,f7,rfl,hb,hk7,hp⟩;have WY7:=zk hp;clear hp;have HB7:=zk (HB6.out.q_ hb);have T7:=zk (T6.out.q_ hb);have WG7:=zk (WG6.out.q_ hb);have WP7:=zk (WP6.out.q_ hb);have WX7:=zk (WX6.out.q_ hb);have BX7:=zk (BX6.out.q_ hb);have HW7:=zk (HW6.out.trans (hb.mono HW6.out.size))
 clear HB6 T6 WG6 WP6 WX6 BX6 HW6 hb;clear hza hzb hz x0 x1 x2 y0 y1 y2 z0 z1 z2 zf;obtain⟨hz,x0,x1,x2,y0,y1,y2,z0,z1,z2,zf⟩:=T7.out;have hza:w.heap.size<w7.heap.size:=by omega
 have hzb:w.heap.size+1<w7.heap.size:=by omega
 obtain⟨hzx,bx0,bx1⟩:=BX7.out;go_wp2_with fail
 refine(zqQ (WX7.out.alloc _) (WY7.out.alloc _) (by omega) (by omega)).mono ?_;rintro e w8 ⟨s8,p8,k8,c8,f8,rfl,hb,hk8,hp,ho8⟩;have WS8:=zk hp;have OS8:=zk (ho8.base (show(w.heap.size+1+1+1)<=_ by rw[zz];omega))
 clear ho8;clear hp hzx bx0 bx1 WX7 WY7 BX7;have HB8:=zk (HB7.out.next hb);have T8:=zk (T7.out.next hb);have WG8:=zk (WG7.out.next hb);have WP8:=zk (WP7.out.next hb);have HW8:=zk ((zu HW7.out _).trans (hb.mono (zu HW7.out _).size))
 clear HB7 T7 WG7 WP7 HW7 hb;clear hza hzb hz x0 x1 x2 y0 y1 y2 z0 z1 z2 zf;obtain⟨hz,x0,x1,x2,y0,y1,y2,z0,z1,z2,zf⟩:=T8.out;have hza:w.heap.size<w8.heap.size:=by omega
 have hzb:w.heap.size+1<w8.heap.size:=by omega
 have hz8:=hz;obtain⟨S,hS⟩:∃S,S=a.num*(b.den/a.den.gcd b.den:Nat)+b.num*(a.den/a.den.gcd b.den:Nat):=⟨_,rfl⟩;rw[<-hS]at WS8
 have HS:=zk hS;clear hS;go_wp2_with fail
 refine(zbu (WS8.out.mag.alloc _) (WG8.out.alloc _) (by omega) (by omega)).mono ?_;rintro e w9 ⟨zl,kl,cl,fl,rfl,hb,hl⟩;have WL9:=zk hl;have BS9:=zk (zgC hb)
 have hl0:0<S.natAbs.gcd (a.den.gcd b.den):=Nat.gcd_pos_of_pos_right _ hG0;have hkl:kl<=L:=le_trans (hl.len_le WG8.out (Nat.gcd_le_right _ hG0)) (by omega);clear hl WG8;have HB9:=zk (HB8.out.next hb);have T9:=zk (T8.out.next hb);have WP9:=zk (WP8.out.next hb);have WS9:=zk (WS8.out.next hb);have OS9:=zk ((OS8.out.alloc _).q_ hb);have HW9:=zk ((zu HW8.out _).trans (hb.mono (zu HW8.out _).size))
 clear HB8 T8 WP8 WS8 HW8 hb;clear hza hzb hz x0 x1 x2 y0 y1 y2 z0 z1 z2 zf;obtain⟨hz,x0,x1,x2,y0,y1,y2,z0,z1,z2,zf⟩:=T9.out;have hza:w.heap.size<w9.heap.size:=by omega
 have hzb:w.heap.size+1<w9.heap.size:=by omega
 go_wp2_with fail
 refine(zbw HB9.out.den WL9.out hl0 (by omega) (by omega)).mono ?_;rintro e w10 ⟨zo,ko,co,fo,rfl,hb,HO⟩;have hko:=HO.out.1;have WO10:=zk HO.out.2
 clear HO HB9;have T10:=zk (T9.out.q_ hb);have WP10:=zk (WP9.out.q_ hb);have WS10:=zk (WS9.out.q_ hb);have OS10:=zk (OS9.out.q_ hb);have WL10:=zk (WL9.out.q_ hb);have BS10:=zk (BS9.out.q_ hb);have HW10:=zk (HW9.out.trans (hb.mono HW9.out.size))
 clear T9 WP9 WS9 WL9 BS9 HW9 hb;clear hza hzb hz x0 x1 x2 y0 y1 y2 z0 z1 z2 zf;obtain⟨hz,x0,x1,x2,y0,y1,y2,z0,z1,z2,zf⟩:=T10.out;have hza:w.heap.size<w10.heap.size:=by omega
 have hzb:w.heap.size+1<w10.heap.size:=by omega
 go_wp2_with fail
 refine(zlP WP10.out WO10.out (by omega) (by omega)).mono ?_;rintro e w11 ⟨zd,kd,cd,fd,rfl,hb,hkd,hp,hod⟩;have WD11:=zk hp;have AP11:=zk (zlH OS10.out hod (le_refl _));have OD11:=zk (hod.base (show(w.heap.size+1+1+1)<=_ by omega))
 clear hod;clear hp WP10 WO10;have T11:=zk (T10.out.q_ hb);have WS11:=zk (WS10.out.q_ hb);have OS11:=zk (OS10.out.q_ hb);have WL11:=zk (WL10.out.q_ hb);have BS11:=zk (BS10.out.q_ hb);have HW11:=zk (HW10.out.trans (hb.mono HW10.out.size))
 clear T10 WS10 WL10 BS10 HW10 hb;clear hza hzb hz x0 x1 x2 y0 y1 y2 z0 z1 z2 zf;obtain⟨hz,x0,x1,x2,y0,y1,y2,z0,z1,z2,zf⟩:=T11.out;have hza:w.heap.size<w11.heap.size:=by omega
 have hzb:w.heap.size+1<w11.heap.size:=by omega
 obtain⟨hzs,bs0,bs1⟩:=BS11.out;have C3:Hid (∀W,Bl w11 W->Calls prog 96 #[slice p8 k8 c8,slice zl kl cl] W λe w'=>∃z k e' h,e=returned (slice z k e')/\Bl W w'/\Hid (k<=k8/\Wn w' false z k e' h (S.natAbs/S.natAbs.gcd (a.den.gcd b.den):Nat)/\Own .u64 46 w' (w.heap.size+1+1+1) (slice z k e') k h/\Apart z zd)):=λW hW=>(zpw (WS11.out.mag.q_ hW) (WL11.out.q_ hW) hl0 (by omega) (by omega) (OS11.out.q_ hW) (le_trans (show(w.heap.size+1+1+1)<=w11.heap.size by omega) hW.size)).mono (λ_ _ ⟨z,k,e',h,k1,k2,k3⟩=>⟨z,k,e',h,k1,k2,k3.out.1,k3.out.2.1,k3.out.2.2.1,k3.out.2.2.2 zd (λp hp=>Nat.lt_of_lt_of_le (znG OD11.out p hp) hW.size) AP11.out⟩)
 have C4:Hid (∀(W:World) (z:Option Addr) (k c:Nat),k<=1048576->Calls prog 71 #[.bool s8,slice z k c,slice zd kd cd] W λe w'=>∃r,e=returned (agg #[.bool r,slice z k c,slice zd kd cd])/\Bl W w'/\Hid (r=(s8 && decide (0<k)))):=λW z k c hk=>(zbN s8 z zd k c kd cd W (by omega)).mono (λe w' ⟨r,h1,h2,h3⟩=>⟨r,h1,h3,h2⟩)
 go_wp2_with fail
 go_region_held3 (λw'=>w'.cell? ⟨w8.heap.size,0,none⟩=some (.bool s8)/\w'.cell? ⟨w8.heap.size,1,none⟩=some (slice p8 k8 c8)/\(w'.cell? ⟨w.heap.size+1+1,0,none⟩).isSome=true/\(w'.cell? ⟨w.heap.size+1+1,1,none⟩).isSome=true/\(w'.cell? ⟨w.heap.size+1+1,2,none⟩).isSome=true/\w'.frozen? ⟨w.heap.size+1+1,0,none⟩=false/\w'.frozen? ⟨w.heap.size+1+1,1,none⟩=false/\w'.frozen? ⟨w.heap.size+1+1,2,none⟩=false)
  (refine⟨?_,?_,?_,?_,?_,?_,?_,?_⟩ <;> repeat(with_reducible first|assumption|exact zf _|exact uf _|exact vf' _|exact kI0 z0|exact kI0 z1|exact kI0 z2|exact kI0 u0|exact kI0 u1|exact kI0 u2|exact kI0 v0|exact kI0 v1|exact kI0 v2|refine kCd ?_|refine kId ?_|refine kFd ?_|refine kCs (by simp only[ne_eq];omega) ?_|refine kIs ?_|refine kFs ?_|refine kCb (by assumption) ?_|refine kIb (by assumption) ?_))
  (first
   | (go_at_call 96;with_reducible refine(C3.out _ zad).mono ?_;rintro e w12 ⟨zn,kn,cn,fn,rfl,hb2,HN⟩;have hkn:kn<=1048576:=(by have:=HN.out.1;omega);have TU:Three w.heap.size w12 (.bool sa) (slice xa na ca) (slice ya ma da) (.bool sb) (slice xb nb cb) (slice yb mb db) (.bool false) (slice none 0 0) (slice none 0 0):=(by repeat(with_reducible first|exact T11.out|exact TU|refine kTd ?_|refine kTb (by assumption) ?_));obtain⟨_,_,_,_,_,_,_,u0,u1,u2,uf⟩:=id TU)
   | (go_at_call 71;with_reducible refine(C4.out _ zn kn cn hkn).mono ?_;rintro e w13 ⟨rs,rfl,hb3,HRS⟩;have TV:Three w.heap.size w13 (.bool sa) (slice xa na ca) (slice ya ma da) (.bool sb) (slice xb nb cb) (slice yb mb db) (.bool false) (slice none 0 0) (slice none 0 0):=(by repeat(with_reducible first|exact T11.out|exact TU|refine kTd ?_|refine kTb (by assumption) ?_));obtain⟨_,_,_,_,_,_,_,v0,v1,v2,vf'⟩:=id TV))
 have WN:Wn w13 false zn kn cn fn _:=HN.out.2.1.q_ hb3;have ON:=HN.out.2.2.1.q_ hb3;have hw13:Bl w11 w13:=zad;have hm:=zhC HS.out WS11.out.sgn;have hkn':=HN.out.1;go_wp2;refine bodyPost_ret (v:=agg #[.bool rs,slice zn kn cn,slice zd kd cd]) (by simp[results,results73,go_sem,v0,v1,v2]) rfl ⟨rs,zn,kn,cn,fn,zd,kd,cd,fd,rfl,zaY (HW11.out.trans (hw13.mono HW11.out.size)),⟨?_,?_,?_,?_⟩,(zcw ON (by omega)).base (by omega),(zcw (OD11.out.q_ hw13) (by omega)).base (by omega),HN.out.2.2.2⟩
 ·rw[<-hm.1];exact TV.store (WN.resign HRS.out)
 ·rw[<-hm.2];exact TV.store (WD11.out.q_ hw13)
 ·omega
 ·omega
theorem zps {L:Nat} {w:World} {sa:Bool} {xa:Option Addr} {na ca:Nat} {fa:Nat->Int} {ya:Option Addr} {ma da:Nat} {ga:Nat->Int} {a:Rat} {sb:Bool} {xb:Option Addr} {nb cb:Nat} {fb:Nat->Int} {yb:Option Addr} {mb db:Nat} {gb:Nat->Int} {b:Rat} (ha:Rn L w sa xa na ca fa ya ma da ga a) (hb:Rn L w sb xb nb cb fb yb mb db gb b) (hL:L<=200000) :
  Calls prog 51 #[agg #[.bool sa,slice xa na ca,slice ya ma da],agg #[.bool sb,slice xb nb cb,slice yb mb db]] w λe w'=>zov (2*L+1) w w' e (a+b):=by
 have HA0:=zk ha;have HB0:=zk hb
 clear ha hb;go_enter func51,ntmps51;go_wp2_with fail
 refine(zbC (((HA0.out.alloc _).alloc _).alloc _) (by omega)).mono ?_;rintro e w1 ⟨rfl,hbel⟩;obtain⟨⟨hz,x0,x1,x2,y0,y1,y2,z0,z1,z2,zf⟩,hw⟩:=zbs hbel;have T1:Hid (Three w.heap.size w1 _ _ _ _ _ _ _ _ _):=⟨hz,x0,x1,x2,y0,y1,y2,z0,z1,z2,zf⟩;have HW1:=zk hw;have HA1:=zk (HA0.out.q_ hw);have HB1:=zk (HB0.out.q_ hw)
 clear hbel hw HA0 HB0;go_wp2_with fail
 refine(zbC HB1.out (by omega)).mono ?_;rintro e w2 ⟨rfl,hb⟩;have HA2:=zk (HA1.out.q_ hb);have HB2:=zk (HB1.out.q_ hb);have T2:=zk (T1.out.q_ hb);have HW2:=zk (HW1.out.trans (hb.mono HW1.out.size))
 clear HA1 HB1 T1 HW1 hb;clear hz x0 x1 x2 y0 y1 y2 z0 z1 z2 zf;obtain⟨hz,x0,x1,x2,y0,y1,y2,z0,z1,z2,zf⟩:=T2.out;have hza:w.heap.size<w2.heap.size:=by omega
 have hzb:w.heap.size+1<w2.heap.size:=by omega
 go_wp2_with fail
 refine(zlu HA2.out HB2.out hL).mono ?_;rintro e w3 ⟨rs,zn,kn,cn,fn,zd,kd,cd,fd,rfl,hb,hr,hon,hod,hap⟩;have HR:=zk hr;have AP:=zk hap;have ON:=zk (hon.base (show(w.heap.size+1+1+1)<=_ by omega));have OD:=zk (hod.base (show(w.heap.size+1+1+1)<=_ by omega))
 clear hon hod hap;clear hr;have T3:=zk (T2.out.q_ hb);have HW3:=zk (HW2.out.trans (hb.mono HW2.out.size))
 clear T2 HW2 hb;clear hza hzb hz x0 x1 x2 y0 y1 y2 z0 z1 z2 zf;obtain⟨hz,x0,x1,x2,y0,y1,y2,z0,z1,z2,zf⟩:=T3.out;have hza:w.heap.size<w3.heap.size:=by omega
 have hzb:w.heap.size+1<w3.heap.size:=by omega
 go_wp2;refine bodyPost_ret (v:=.tuple #[agg #[.bool rs,slice zn kn cn,slice zd kd cd],.int .i64 0]) (by simp[results,results51,go_sem,z0,z1,z2]) rfl ⟨rs,zn,kn,cn,fn,zd,kd,cd,fd,rfl,zaY HW3.out,⟨?_,?_,HR.out.ln,HR.out.ld⟩,(zcw ON.out (by omega)).base (by omega),(zcw OD.out (by omega)).base (by omega),AP.out⟩
 ·exact T3.out.store HR.out.num
 ·exact T3.out.store HR.out.den
theorem zlw (w:World) :
  Calls prog 72 #[] w λe w'=>∃x f,e=returned (slice x 1 1)/\Bl w w'/\Wn w' false x 1 1 f 1/\Own .u64 46 w' w.heap.size (slice x 1 1) 1 f:=by
 go_enter func72,ntmps72;go_wp2;go_ret;refine⟨_,λ_=>1,rfl,?_,?_,zge w w.heap.size w.heap.size 1 (le_refl _) rfl⟩
 ·exact zu (Below.refl _ _) _
 ·refine⟨Rd.mk (λj hj=>?_),λj _=>by simp,?_,by omega,(λh=>by cases h),?_⟩
  ·have:j=0:=by omega
   subst this;simp[go_sem]
  ·decide
  ·simp[wv,vf,pw]
theorem zqq {w:World} {z:Int} (h0:-9223372036854775808<=z) (h1:z<=9223372036854775807) :
  Calls prog 50 #[.int .i64 z] w λe w'=>zjL 4 w w' e (z:Rat):=by
 have h2:=zay w 24;have h3:=zu (Below.refl w.heap.size w) (cells #[.bool false,slice none 0 0,slice none 0 0] 24);go_enter func50,ntmps50;go_wp2_with fail
 generalize w.alloc (cells #[.bool false,slice none 0 0,slice none 0 0] 24)=w1 at *;have OB1:=zk h2;have HW1:=zk h3
 clear h2 h3;refine(zoy z w1 h0 h1).mono ?_;rintro e w2 ⟨s2,x2,n2,c2,f2,rfl,hr2,hv2⟩;have hb:=hr2.res.bel;have hn2:=hr2.res.le;have hz1:=OB1.out.z;have hos:=(hr2.res.own.base (show w.heap.size+1<=_ by omega)).alloc (cells #[.bool s2,slice x2 n2 c2] 129);clear hz1;have hw2:=(hr2.wn hv2).alloc (cells #[.bool s2,slice x2 n2 c2] 129);have hbx:Bx (w2.alloc (cells #[.bool s2,slice x2 n2 c2] 129)) w2.heap.size s2 x2 n2 c2:=⟨by simp,kN0,kN1⟩;have hob:=(OB1.out.q_ hb).alloc (cells #[.bool s2,slice x2 n2 c2] 129);have hbw:=zu (HW1.out.trans (hb.mono HW1.out.size)) (cells #[.bool s2,slice x2 n2 c2] 129);have hB8:w.heap.size<w2.heap.size:=(OB1.out.q_ hb).z;clear hr2 hv2 hb OB1 HW1;go_wp2_with fail
 generalize w2.alloc (cells #[.bool s2,slice x2 n2 c2] 129)=w3 at *;generalize w2.heap.size=b3 at *;have W3:=zk hw2;have OS:=zk hos;have OB:=zk hob;have HW:=zk hbw
 obtain⟨za,a0,a1⟩:=hbx;obtain⟨hz,z0,z1,z2,zf⟩:=hob;clear hw2 hbw hos;have C1:Hid (∀W:World,Bl w3 W->Calls prog 72 #[] W λe w'=>∃x f,e=returned (slice x 1 1)/\Bl W w'/\Hid (Wn w' false x 1 1 f 1/\Own .u64 46 w' (w.heap.size+1) (slice x 1 1) 1 f/\Apart x2 x)):=λW hW=>(zlw W).mono (λ_ _ ⟨x,f,k1,k2,k3,k4⟩=>⟨x,f,k1,k2,k3,k4.base (le_trans (show w.heap.size+1<=w3.heap.size by omega) hW.size),zlH OS.out k4 hW.size⟩)
 have C2:Hid (∀(W:World) (y:Option Addr),Calls prog 71 #[.bool s2,slice x2 n2 c2,slice y 1 1] W λe w'=>∃r,e=returned (agg #[.bool r,slice x2 n2 c2,slice y 1 1])/\Bl W w'/\Hid (r=(s2 && decide (0<n2)))):=λW y=>(zbN s2 x2 y n2 c2 1 1 W (by omega)).mono (λ_ _ ⟨r,k1,k2,k3⟩=>⟨r,k1,k3,k2⟩)
 go_region_held3 (λw'=>w'.cell? ⟨b3,0,none⟩=some (.bool s2)/\w'.cell? ⟨b3,1,none⟩=some (slice x2 n2 c2)/\(w'.cell? ⟨w.heap.size,0,none⟩).isSome=true/\(w'.cell? ⟨w.heap.size,1,none⟩).isSome=true/\(w'.cell? ⟨w.heap.size,2,none⟩).isSome=true/\w'.frozen? ⟨w.heap.size,0,none⟩=false/\w'.frozen? ⟨w.heap.size,1,none⟩=false/\w'.frozen? ⟨w.heap.size,2,none⟩=false)
  (refine⟨?_,?_,?_,?_,?_,?_,?_,?_⟩ <;> repeat(with_reducible first|assumption|exact zf _|exact tf _|exact uf _|exact kI0 z0|exact kI0 z1|exact kI0 z2|exact kI0 t0|exact kI0 t1|exact kI0 t2|exact kI0 u0|exact kI0 u1|exact kI0 u2|refine kCd ?_|refine kId ?_|refine kFd ?_|refine kCs (by simp only[ne_eq];omega) ?_|refine kIs ?_|refine kFs ?_|refine kCb (by assumption) ?_|refine kIb (by assumption) ?_))
  (first
   | (go_at_call 72;with_reducible refine(C1.out _ zad).mono ?_;rintro e v5 ⟨y5,f5,rfl,hb5,H5⟩;have Tt:Ob v5 (w.heap.size):=(by repeat(with_reducible first|exact OB.out|exact Tt|exact Tu|refine Ob.drew ?_|refine kOb (by assumption) ?_));obtain⟨_,t0,t1,t2,tf⟩:=id Tt)
   | (go_at_call 71;with_reducible refine(C2.out _ y5).mono ?_;rintro e v6 ⟨r6,rfl,hb6,H6⟩;have Tu:Ob v6 (w.heap.size):=(by repeat(with_reducible first|exact OB.out|exact Tt|exact Tu|refine Ob.drew ?_|refine kOb (by assumption) ?_));obtain⟨_,u0,u1,u2,uf⟩:=id Tu))
 all_goals
  have W5:Wn v6 false y5 1 1 f5 1:=(by repeat(with_reducible first|exact H5.out.1|refine kWd ?_|refine kWb (by assumption) ?_));have hb:Bl w3 v6:=zal;have O5:Own .u64 46 v6 (w.heap.size+1) (slice y5 1 1) 1 f5:=H5.out.2.1.q_ hb6;have hr:r6=s2:=by
   rw[H6.out];have:=((wfB_iff _ _ _).1 W3.out.wf).2;cases s2
   ·rfl
   ·simp;exact this rfl
  subst hr;go_wp2;refine bodyPost_ret (v:=agg #[.bool r6,slice x2 n2 c2,slice y5 1 1]) (by simp[results,results50,go_sem,u0,u1,u2]) rfl ⟨r6,x2,n2,c2,f2,y5,1,1,f5,rfl,below_st (HW.out.trans (hb.mono HW.out.size)) (le_refl _),Tu.rn ⟨?_,?_,by omega,by omega⟩,(zcw (OS.out.q_ hb) (by omega)).base (by omega),(zcw O5 (by omega)).base (by omega),H5.out.2.2⟩
  ·rw[Rat.num_intCast];exact W3.out.q_ hb
  ·rw[Rat.den_intCast];exact W5
theorem zjf {w base s x n c f y m d g} (h1:Own .u64 46 w base (slice x n c) n f) (h2:Own .u64 46 w base (slice y m d) m g):Dw2 w base ⟨s,x,n,c,f,y,m,d,g⟩:=⟨zhY h2,zhY h1⟩
theorem Dw.base {w b b' y m} (h:Dw w b y m) (hb:b'<=b):Dw w b' y m:=λhm=>by
 obtain⟨k,h1,h2,h3⟩:=h hm;exact⟨k,h1,le_trans hb h2,h3⟩
theorem Dw2.base {w b b' t} (h:Dw2 w b t) (hb:b'<=b):Dw2 w b' t:=⟨h.1.base hb,h.2.base hb⟩
theorem Dw.of {w w' base y m} (h:Dw w base y m) (hb:∀b,base<=b->b<w.heap.size->∀q,w.cell? ⟨b,0,none⟩=some (.int .u64 q)->w'.heap[b]?=w.heap[b]?):Dw w' base y m:=λhm=>by
 obtain⟨k,h1,h2,⟨q,h3⟩,h4⟩:=h hm;have e:=hb k h2 (block_lt_of_cell? w _ h3) q h3;exact⟨k,h1,h2,⟨q,(cell?_of_block (a:=⟨k,0,none⟩) e).trans h3⟩,by simp only[World.frozen?,e]at h4 ⊢;exact h4⟩
theorem zqB {w w' b q} (hk:Kp w w') (h:w.cell? ⟨b,0,none⟩=some (.int .u64 q)):w'.heap[b]?=w.heap[b]?:=by
 rcases hk.block b (block_lt_of_cell? w _ h)with h1|⟨cur,t,fr,h1,h2⟩
 ·exact h1
 ·exfalso;simp[World.cell?,h1]at h
  exact h2 _ _ h
theorem Dw2.kpu {w w' base t} (h:Dw2 w base t) (hk:Kp w w'):Dw2 w' base t:=⟨h.1.of λ_ _ _ _ e=>zqB hk e,h.2.of λ_ _ _ _ e=>zqB hk e⟩
theorem Dw2.st3 {w base t B s x n c y m d v0 v1 v2} (h:Dw2 w base t) (S:Sx w B s x n c y m d):Dw2 (((w.setCell ⟨B,0,none⟩ v0).setCell ⟨B,1,none⟩ v1).setCell ⟨B,2,none⟩ v2) base t:=by
 have a1:(w.setCell ⟨B,0,none⟩ v0).cell? ⟨B,1,none⟩=some (slice x n c):=(World.cell?_setCell_other _ _ _ _ (by simp)).trans S.x1;have a2:((w.setCell ⟨B,0,none⟩ v0).setCell ⟨B,1,none⟩ v1).cell? ⟨B,2,none⟩=some (slice y m d):=(World.cell?_setCell_other _ _ _ _ (by simp)).trans ((World.cell?_setCell_other _ _ _ _ (by simp)).trans S.x2);exact((h.set S.x0 (by simp)).set a1 (by simp)).set a2 (by simp)
theorem Rn.keep {L w w' base t q} (h:Rn L w t.s t.x t.n t.c t.f t.y t.m t.d t.g q) (hd:Dw2 w base t) (hb:∀b,base<=b->b<w.heap.size->w'.heap[b]?=w.heap[b]?):Rn L w' t.s t.x t.n t.c t.f t.y t.m t.d t.g q:=by
 have hrd:∀{x:Option Addr} {n:Nat} {f:Nat->Int},Rd .u64 w x n f->Dw w base x n->Rd .u64 w' x n f:=λ{x n f} hr hw i hi=>by
  obtain⟨b,o,e,hc⟩:=hr i hi;obtain⟨b',e',hge,_⟩:=hw (by omega);rw[e]at e'
  cases e'
  exact⟨b,0,e,(cell?_of_block (a:=⟨b,0+i,none⟩) (hb b hge (block_lt_of_cell? w _ hc))).trans hc⟩
 obtain⟨hn,hm,h1,h2⟩:=h;exact⟨⟨hrd hn.rd hd.2,hn.lm,hn.wf,hn.cap,hn.nil,hn.val⟩,⟨hrd hm.rd hd.1,hm.lm,hm.wf,hm.cap,hm.nil,hm.val⟩,h1,h2⟩
def GrO (K base:Nat) (w:World) (v:Value) (p:List Rat):Prop:=∃T:Nat->Nm,RowG 24 3 base w v p.length (zar (rls p.length T))/\∀(j:Nat) (q:Rat),p[j]?=some q->Rn K w (T j).s (T j).x (T j).n (T j).c (T j).f (T j).y (T j).m (T j).d (T j).g q/\Dw2 w base (T j)
theorem zet (K base:Nat) (w:World):GrO K base w (slice none 0 0) []:=⟨λ_=>⟨false,none,0,0,λ_=>0,none,0,0,λ_=>0⟩,zao _ _ _ _,λj q h=>by simp at h⟩
theorem GrO.gr {K base w v p} (h:GrO K base w v p):Gr K base w v p:=by
 obtain⟨T,h1,h2⟩:=h;exact⟨T,h1,λj q e=>(h2 j q e).1⟩
theorem GrO.q_ {K base w w' v p} (h:GrO K base w v p) (hb:Bl w w'):GrO K base w' v p:=by
 obtain⟨T,h1,h2⟩:=h;exact⟨T,h1.q_ hb,λj q e=>⟨(h2 j q e).1.q_ hb,(h2 j q e).2.q_ hb⟩⟩
theorem GrO.base {K b b' w v p} (h:GrO K b w v p) (hb:b'<=b):GrO K b' w v p:=by
 obtain⟨T,⟨h0,h1⟩,h2⟩:=h;refine⟨T,⟨h0,?_⟩,λj q e=>⟨(h2 j q e).1,(h2 j q e).2.base hb⟩⟩;rcases h1 with h1|⟨g,cap,cur,e1,e2,e3⟩
 ·exact .inl h1
 ·exact .inr ⟨g,cap,cur,e1,le_trans hb e2,e3⟩
theorem zhi {K base w0 w' p T g cap s x n c f y m d gg q} (hT:∀(j:Nat) (q:Rat),p[j]?=some q->Rn K w0 (T j).s (T j).x (T j).n (T j).c (T j).f (T j).y (T j).m (T j).d (T j).g q/\Dw2 w0 base (T j)) (hr:RowG 24 3 base w' (slice (some ⟨g,0,none⟩) (p.length+1) cap) (p.length+1) (zar (rls p.length T)++#[Value.bool s,slice x n c,slice y m d].toList)) (hk:Kp w0 w') (hq:Rn K w0 s x n c f y m d gg q) (hd:Dw2 w0 base ⟨s,x,n,c,f,y,m,d,gg⟩):GrO K base w' (slice (some ⟨g,0,none⟩) (p.length+1) cap) (p++[q]):=by
 refine⟨zaG T p.length ⟨s,x,n,c,f,y,m,d,gg⟩,?_,λj q' e=>?_⟩
 ·rw[List.length_append,List.length_singleton,zcY];exact hr
 ·by_cases hj:j<p.length
  ·rw[List.getElem?_append_left hj]at e
   rw[putN_ne (by omega)];exact⟨Rn.kp (hT j q' e).1 hk,(hT j q' e).2.kpu hk⟩
  ·rw[List.getElem?_append_right (by omega)]at e
   have h0:j-p.length=0:=by
    rcases Nat.eq_zero_or_pos (j-p.length)with h|h
    ·exact h
    ·rw[List.getElem?_eq_none (by simp;omega)]at e;cases e
   have hjj:j=p.length:=by omega
   subst hjj;rw[h0]at e
   cases e
   rw[zbD];exact⟨Rn.kp hq hk,hd.kpu hk⟩
theorem GrO.slice {K base w v p} (h:GrO K base w v p):∃ao cap,v=.slice ao p.length cap/\p.length<=cap/\cap<=9223372036854775807:=h.gr.slice
theorem GrO.keep {K base w w' v p} (h:GrO K base w v p) (hb:∀b,base<=b->b<w.heap.size->w'.heap[b]?=w.heap[b]?):Gr K base w' v p:=by
 obtain⟨T,h1,h2⟩:=h;exact⟨T,h1.of (λg hg=>hb g (h1.lt g hg).1 (h1.lt g hg).2),λj q e=>(h2 j q e).1.keep (h2 j q e).2 hb⟩
def zgF (L:Nat) (w w':World) (e:Ending) (q:Rat):Prop:=∃s x n c f y m d g,e=returned (agg #[.bool s,slice x n c,slice y m d])/\Bl w w'/\Rn L w' s x n c f y m d g q/\Dw2 w' w.heap.size ⟨s,x,n,c,f,y,m,d,g⟩
theorem zje {w L ao k cap p} (h:Rf L w ao p) (hk:p.length=k) (hk2:k<=400) (hL:L<=400) :
  Calls prog 29 #[slice ao k cap] w λe w'=>zgF (4+k*(L+1)) w w' e (zcm p 0):=by
 have H:=zk h;have h2:=zay w 24;have h3:=zF w (cells #[.bool false,slice none 0 0,slice none 0 0] 24);clear h;go_enter func29,ntmps29;go_wp2_with fail
 generalize w.alloc (cells #[.bool false,slice none 0 0,slice none 0 0] 24)=w0 at *;refine(zqq (z:=0) (by omega) (by omega)).mono ?_;rintro e w4 ⟨s0,x0,n0,c0,f0,y0,m0,d0,g0,rfl,hb4,hq4,hu4,hv4,_⟩;have HD4:=zk ((zjf (s:=s0) hu4 hv4).base h3.size);clear hu4 hv4;have OB4:=zk (h2.q_ hb4);have HB4:=zk (bUp h3 hb4);have HQ4:=zk hq4
 clear h2 h3 hb4 hq4;go_wp2_with fail
 have hSx:Sx (w4.alloc (cells #[.bool s0,slice x0 n0 c0,slice y0 m0 d0] 24)) w4.heap.size s0 x0 n0 c0 y0 m0 d0:=⟨by simp,by simp[go_sem],by simp[go_sem],by simp[go_sem],λo=>by simp only[World.frozen?,heap_alloc_new w4 (cells #[.bool s0,slice x0 n0 c0,slice y0 m0 d0] 24)];simp⟩;have hal:=zF w4 (cells #[.bool s0,slice x0 n0 c0,slice y0 m0 d0] 24);have hne:w.heap.size<w4.heap.size:=OB4.out.z;have ST:=zk hSx;have HB5:=zP HB4 hal;have HQ5:=zk (HQ4.out.q_ hal);have HD5:=zk (HD4.out.q_ hal);have OB5:=zk (OB4.out.q_ hal)
 clear hSx hal HB4 HQ4 OB4 HD4;go_loopw[9] (λt wr=>∃(i:Nat) (acc:Rat) (s:Bool) (x:Option Addr) (n c:Nat) (f:Nat->Int) (y:Option Addr) (m d:Nat) (g:Nat->Int),i<=k/\t=.int .i64 i/\Hid (Bl w wr)/\Hid (Sx wr w4.heap.size s x n c y m d)/\Hid (Ob wr w.heap.size)/\Hid (Rn (4+i*(L+1)) wr s x n c f y m d g acc)/\Hid (Dw2 wr w.heap.size ⟨s,x,n,c,f,y,m,d,g⟩)/\Hid (zcm (p.drop i) acc=zcm p 0)) (λt _=>k-(intOf t).toNat)
 case atStart=>exact⟨0,0,s0,x0,n0,c0,f0,y0,m0,d0,g0,by omega,rfl,HB5,ST,OB5,(by show Rn _ _ _ _ _ _ _ _ _ _ _ _;exact HQ5.out.mono (by omega)),HD5,rfl⟩
 case round =>
  clear HB5 HQ5 OB5 ST HD5;obtain⟨i,acc,s,x,n,c,f,y,m,d,g,hi,rfl,HB,HS,HO,HQ,HZ,HE⟩:=hrel;by_cases hlt:i<k
  ·obtain⟨q,haq⟩:∃t,p[i]?=some t:=⟨_,getElem?_eq_getElem (by omega)⟩;obtain⟨b,o,⟨ts,tx,tn,tc,tf,ty,tm,td,tg⟩,hav,hc,hr⟩:=(H.out.q_ HB.out) i q haq;have hav2:=hav;subst hav2;obtain⟨x0,x1,x2⟩:=hc;replace x0:wr.cell? ⟨b,o+i*3,none⟩=some (.bool ts):=x0;replace x1:wr.cell? ⟨b,o+i*3+1,none⟩=some (slice tx tn tc):=x1;replace x2:wr.cell? ⟨b,o+i*3+2,none⟩=some (slice ty tm td):=x2;have HD:Hid (zcm (p.drop (i+1)) (acc+q)=zcm p 0):=by
    show _=_;have e1:p.drop i=q :: p.drop (i+1):=by
     have hl:i<p.length:=by omega
     have:p[i]=q:=by rw[getElem?_eq_getElem hl]at haq;exact Option.some.inj haq
     rw[<-this];exact List.drop_eq_getElem_cons hl
    rw[<-HE.out,e1];rfl
   have hb5:=zF wr (cells #[.bool ts,slice tx tn tc,slice ty tm td] 24);have HR1:Hid (Rn L (wr.alloc (cells #[.bool ts,slice tx tn tc,slice ty tm td] 24)) ts tx tn tc tf ty tm td tg q):=Rn.q_ hr hb5;replace HS:=zk (HS.out.q_ hb5);replace HO:=zk (HO.out.q_ hb5);replace HQ:=zk (HQ.out.q_ hb5);replace HB:=zP HB hb5
   have i2:((i:Nat):Int)<((k:Nat):Int):=by omega
   obtain⟨sz,u0,u1,u2,uf⟩:=HS.out;clear hr haq hav HE hb5;go_wp2_with fail
   clear sz u0 u1 u2 uf x0 x1 x2;generalize wr.alloc (cells #[.bool ts,slice tx tn tc,slice ty tm td] 24)=w5 at *;have hKi:=zfm (i:=i) (L:=L) (by omega) hL;refine(zps (L:=164000) (HQ.out.mono hKi) (HR1.out.mono (by omega)) (by omega)).mono ?_;rintro e w6 ⟨s6,x6,n6,c6,f6,y6,m6,d6,g6,rfl,hb6,hq6,hu6,hv6,_⟩;have S6:=HS.out.q_ hb6;have HZ6:=zk (((zjf (s:=s6) hu6 hv6).base HB.out.size).st3 (v0:=.bool s6) (v1:=slice x6 n6 c6) (v2:=slice y6 m6 d6) S6);have R1:=zk (zls (bUp HB.out hb6) S6 (HO.out.q_ hb6) (hq6.cut (K:=4+(i+1)*(L+1)) ((zic (HQ.out.lo HQ.out.ln HQ.out.ld) (HR1.out.lo HR1.out.ln HR1.out.ld)).mono (by rw[Nat.add_mul];omega))) hne);obtain⟨sz,u0,u1,u2,uf⟩:=S6;clear HS HO HQ HR1 HB hb6 hq6 hKi hu6 hv6 HZ;go_wp2;go_roundw
   case rel=>exact⟨i+1,acc+q,s6,x6,n6,c6,f6,y6,m6,d6,g6,by omega,by go_num,R1.out.bel,R1.out.sx,R1.out.ob,R1.out.rn,HZ6,HD.out⟩
   case measure=>simp[intOf];omega
  ·have e1:i=k:=by omega
   have HF:Hid (acc=zcm p 0):=by
    show _=_;rw[<-HE.out,e1,<-hk,List.drop_length];rfl
   have i2:¬(((i:Nat):Int)<((k:Nat):Int)):=by omega
   obtain⟨sz,u0,u1,u2,uf⟩:=HS.out;obtain⟨hz,z0,z1,z2,zf⟩:=HO.out;have HKK:Hid (i=k):=e1;clear e1 HE;go_wp2;exact bodyPost_ret (v:=agg #[.bool s,slice x n c,slice y m d]) (by simp[results,results29,go_sem,z0,z1,z2]) rfl ⟨s,x,n,c,f,y,m,d,g,rfl,below_st HB.out (by omega),by rw[<-HF.out,<-HKK.out];exact HO.out.rn HQ.out,HZ.out.st3 ⟨hz,z0,z1,z2,zf⟩⟩
def zmW (L:Nat) (w w':World) (e:Ending) (er:Int) (rs:List RV) (xs:List Rat):Prop:=Bl w w' /\
 ((er≠0/\e=returned (.tuple #[slice none 0 0,.int .i64 er]))∨(er=0/\∃a c,e=returned (.tuple #[slice a rs.length c,.int .i64 0])/\(rs.length<=c/\c<=9223372036854775807)/\GrO (KA L) w.heap.size w' (slice a rs.length c) (rs.map (zas xs))))
def zmM (L:Nat) (w w':World) (e:Ending) (er:Int) (off:Rat) (cs:List CV) (xs:List Rat):Prop:=Bl w w' /\
 ((er≠0/\e=returned (.tuple #[agg #[.bool false,slice none 0 0,slice none 0 0],.int .i64 er]))∨(er=0/\∃s x n c f y m d g,e=returned (.tuple #[agg #[.bool s,slice x n c,slice y m d],.int .i64 0])/\Rn (KV L) w' s x n c f y m d g (zjT off cs xs)/\Dw2 w' w.heap.size ⟨s,x,n,c,f,y,m,d,g⟩))
theorem zpT {w L M off cs rs ao k cap xs} (h:MoV L w M off cs rs) (hx:Rf L w ao xs) (hk:xs.length=k) (hcol:∀r ∈ rs,∀t ∈ r.ts,0<=t.1/\t.1<(k:Int)) (hrk:rs.length<=64) (htk:∀r ∈ rs,r.ts.length<=64) (hL:L<=100) :
  Calls prog 27 #[M.val,slice ao k cap] w λe w'=>∃a c,e=returned (slice a rs.length c)/\Bl w w'/\(rs.length<=c/\c<=9223372036854775807)/\Hid (GrO (KA L) w.heap.size w' (slice a rs.length c) (rs.map (zas xs))):=by
 have hrk2:=h.rk;have hR:=h.rls;clear h;obtain⟨⟨s,x,n,c,f,y,m,d,g⟩,ca,ck,cc,C,ra,rk,rc,R⟩:=M;replace hrk2:rk=rs.length:=hrk2;have HR:Hid (∀j v,rs[j]?=some v->(∃b o,ra=some ⟨b,o,none⟩/\Cs w b (o+j*10) (R j).vs)/\RowV L w (R j) v):=hR;subst hrk2;have HX:=zk hx;have HCol:=zk hcol;have HTk:=zk htk
 clear hR hx hcol htk;have hb0:=zF w (cells #[.bool s,slice x n c,slice y m d,slice ca ck cc,slice ra rs.length rc] 28);have HB0:=zk hb0;obtain⟨-,-,-,-,k4⟩:=bk5 (zJ w [.bool s,slice x n c,slice y m d,slice ca ck cc,slice ra rs.length rc] 28);clear hb0;show Calls prog 27 #[agg #[.bool s,slice x n c,slice y m d,slice ca ck cc,slice ra rs.length rc],slice ao k cap] w _;go_enter func27,ntmps27;go_wp2_with fail
 generalize w.alloc (cells #[.bool s,slice x n c,slice y m d,slice ca ck cc,slice ra rs.length rc] 28)=w0 at *;go_loopw[5,14] (λov t wr=>∃(i:Nat),i<=rs.length/\t=.int .i64 i/\Hid (Bl w wr)/\Hid (GrO (KA L) w.heap.size wr ov ((rs.take i).map (zas xs)))) (λ_ t _=>rs.length-(intOf t).toNat)
 case atStart=>exact⟨0,by omega,rfl,HB0,zet _ _ _⟩
 case round =>
  clear k4 HB0;obtain⟨i,hi,rfl,HB,HG⟩:=hrel;by_cases hlt:i<rs.length
  ·obtain⟨v,hv⟩:∃t,rs[i]?=some t:=⟨_,getElem?_eq_getElem (by omega)⟩;have hvm:=List.mem_of_getElem? hv;obtain⟨⟨b,o,hra,hc⟩,hRV⟩:=HR.out i v hv;subst hra;obtain⟨⟨z,⟨i1,⟨s1,x1,n1,c1,f1,y1,m1,d1,g1⟩⟩,⟨i2,⟨s2,x2,n2,c2,f2,y2,m2,d2,g2⟩⟩,ta,tk,tc,tcol,tt⟩,hCi⟩:∃t,R i=t:=⟨_,rfl⟩;rw[hCi]at hc hRV
   replace hc:=Cs.q_ hc HB.out;obtain⟨q0,q1,q2,q3,q4,q5,q6,q7,q8,q9⟩:=hc.lr;have hb1:=zF wr (cells #[.string z,.int .i64 i1,.bool s1,slice x1 n1 c1,slice y1 m1 d1,.int .i64 i2,.bool s2,slice x2 n2 c2,slice y2 m2 d2,slice ta tk tc] 62);obtain⟨-,-,-,-,-,-,-,-,-,b9⟩:=zdH (zJ wr [.string z,.int .i64 i1,.bool s1,slice x1 n1 c1,slice y1 m1 d1,.int .i64 i2,.bool s2,slice x2 n2 c2,slice y2 m2 d2,slice ta tk tc] 62);have HTS:Hid (∀p z q,v.ts[p]?=some (z,q)->tcol p=z/\NmV L w (tt p) q/\∃b o,ta=some ⟨b,o,none⟩/\C4 w b (o+p*4) (.int .i64 (tcol p)) (.bool (tt p).s) (.slice (tt p).x (tt p).n (tt p).c) (.slice (tt p).y (tt p).m (tt p).d)):=hRV.tl;have htk2:tk=v.ts.length:=hRV.tk;subst htk2;have htk3:=HTk.out v hvm;have HC2:=zk (HCol.out v hvm);have HV:=zk hv;have HB1:=zP HB hb1;have HG1:=zk (HG.out.q_ hb1)
   have i1':((i:Nat):Int)<((rs.length:Nat):Int):=by omega
   clear hCi hc hRV hb1 hv hvm HB HG;go_wp2_with fail
   clear q0 q1 q2 q3 q4 q5 q6 q7 q8 q9;generalize wr.alloc (cells #[.string z,.int .i64 i1,.bool s1,slice x1 n1 c1,slice y1 m1 d1,.int .i64 i2,.bool s2,slice x2 n2 c2,slice y2 m2 d2,slice ta v.ts.length tc] 62)=wI at *;clear b9;go_loopw[8,21] (λvv t wz=>∃(p:Nat),p<=v.ts.length/\t=.int .i64 p/\Hid (Bl wI wz)/\Hid (Gr (2*L+1) wI.heap.size wz vv ((v.ts.take p).map (zaZ xs)))) (λ_ t _=>v.ts.length-(intOf t).toNat)
   case atStart=>exact⟨0,by omega,rfl,Below.refl _ _,zii _ _ _⟩
   case round =>
    obtain⟨p,hp,rfl,HB2,HG2⟩:=hrel;by_cases hlp:p<v.ts.length
    ·obtain⟨⟨tz,tq⟩,htv⟩:∃t,v.ts[p]?=some t:=⟨_,getElem?_eq_getElem (by omega)⟩;obtain⟨h1,h2,b2,o2,hta,h4⟩:=HTS.out p tz tq htv;obtain⟨hz0,hz1⟩:=HC2.out (tz,tq) (List.mem_of_getElem? htv);replace hz0:0<=tz:=hz0;replace hz1:tz<(k:Int):=hz1;obtain⟨zn,rfl⟩:=Int.eq_ofNat_of_zero_le hz0;subst hta;obtain⟨r,hr⟩:∃t,xs[zn]?=some t:=⟨_,getElem?_eq_getElem (by omega)⟩;have hbz:=bUp HB1.out HB2.out;obtain⟨b',o',⟨ss,sx,sn,sc,sf,sy,sm,sd,sg⟩,hax,⟨p0,p1,p2⟩,hr'⟩:=(HX.out.q_ hbz) zn r hr;subst hax;obtain⟨⟨ts,tx,tn,tc2,tf,ty,tm,td,tg⟩,hTp⟩:∃t,tt p=t:=⟨_,rfl⟩;rw[hTp,h1]at h4
     rw[hTp]at h2
     obtain⟨x0,x1,x2,x3⟩:=h4.q_ hbz;replace x0:wr.cell? ⟨b2,o2+p*4,none⟩=some (.int .i64 zn):=x0;replace x1:wr.cell? ⟨b2,o2+p*4+1,none⟩=some (.bool ts):=x1;replace x2:wr.cell? ⟨b2,o2+p*4+2,none⟩=some (slice tx tn tc2):=x2;replace x3:wr.cell? ⟨b2,o2+p*4+3,none⟩=some (slice ty tm td):=x3;replace p0:wr.cell? ⟨b',o'+zn*3,none⟩=some (.bool ss):=p0;replace p1:wr.cell? ⟨b',o'+zn*3+1,none⟩=some (slice sx sn sc):=p1;replace p2:wr.cell? ⟨b',o'+zn*3+2,none⟩=some (slice sy sm sd):=p2;have h2r:Rn L w ts tx tn tc2 tf ty tm td tg tq:=h2;have hr2:Rn L wr ss sx sn sc sf sy sm sd sg r:=hr';have hbt:=zF wr (cells #[.int .i64 zn,.bool ts,slice tx tn tc2,slice ty tm td] 64);obtain⟨a0,a1,a2,a3⟩:=bk4 (zJ wr [.int .i64 zn,.bool ts,slice tx tn tc2,slice ty tm td] 64);have i2':((p:Nat):Int)<((v.ts.length:Nat):Int):=by omega
     have i3':((zn:Nat):Int)<((k:Nat):Int):=by omega
     have HTV:=zk htv;have HRR:=zk hr
     clear htv hr hz0 hz1 h1 h2 h4 hTp hr';go_upto_region 9 with fail
     clear x0 x1 x2 x3;replace p0:=kCb hbt p0;replace p1:=kCb hbt p1;replace p2:=kCb hbt p2
     have HB3:=zP HB2 hbt;have HG3:=zk (HG2.out.q_ hbt);have R1:=zk ((h2r.q_ hbz).q_ hbt);have R2:=zk (hr2.q_ hbt)
     clear hbz hbt h2r hr2 HB2 HG2;generalize hbx:wr.heap.size=bx at *;generalize wr.alloc (cells #[.int .i64 zn,.bool ts,slice tx tn tc2,slice ty tm td] 64)=w5 at *;clear hbx;refine zaR (S:=(λw'=>w'.cell? ⟨bx,0,none⟩=some (.int .i64 zn)/\w'.cell? ⟨bx,1,none⟩=some (.bool ts)/\w'.cell? ⟨bx,2,none⟩=some (slice tx tn tc2)/\w'.cell? ⟨bx,3,none⟩=some (slice ty tm td)/\w'.cell? ⟨b',o'+zn*3,none⟩=some (.bool ss)/\w'.cell? ⟨b',o'+zn*3+1,none⟩=some (slice sx sn sc)/\w'.cell? ⟨b',o'+zn*3+2,none⟩=some (slice sy sm sd))) 8 (by kernel_rfl) ⟨kCd a0,kCd a1,kCd a2,kCd a3,kCd p0,kCd p1,kCd p2⟩ (λhHeld=>?_);refine skP 0 ?_;refine skP 1 ?_;refine tkP 2 ?_;simp only[zw,Act.put];refine skP 3 ?_;refine skP 4 ?_;refine tkP 5 ?_;simp only[zw,Act.put];refine skP 6 ?_;refine tkP 7 ?_;simp only[zw,Act.put];refine rdP 8 (λK hK=>?_);go_simp
     go_at_call 28
     refine(zdf (L:=L) (zgn R1.out) (zgn R2.out) (by omega)).mono ?_;rintro e w6 ⟨s6,x6,n6,c6,f6,y6,m6,d6,g6,rfl,hb6,hq6⟩
     (try go_wp2_with fail)
     refine hK.out _ _ (λh=>by cases h) (λ_=>?_);clear hK K;try simp only[zw,Act.put]
     refine rdP 9 (λK hK=>?_);go_simp;refine hK.out _ _ (λh=>by cases h) (λ_=>?_);clear hK K;try simp only[zw,Act.put]
     refine rdP 10 (λK hK=>?_);obtain⟨T,hrow,hT⟩:=(Gr.q_ HG3.out (Below.drew (Below.refl w5.heap.size w5))).q_ hb6;rw[zac _ _ _ (by omega)]at hrow
     refine zat w6 rfl (.tmp 25) (.tmp 34) 29 rfl wI.heap.size 24 56 3 (agg #[.bool false,slice none 0 0,slice none 0 0]) underlying29 zbg rfl (by decide) nz3 u8 p _ rfl hrow #[.bool s6,slice x6 n6 c6,slice y6 m6 d6] rfl rfl (zeM _ _ _ _ _ _ _) (zdy _ _ _ _ _ _ _) (by omega) (by decide) ?hz ?_
     case hz=>exact(HB3.out.drew.trans (hb6.mono HB3.out.drew.size)).size
     intro g8 cap8 w8 hr8 hk8 hb8 hg8;have HB8:Hid (Bl wI w8):=hb8 wI (HB3.out.drew.trans (hb6.mono HB3.out.drew.size)) (le_refl _);have HG8:Hid (Gr (2*L+1) wI.heap.size w8 (slice (some ⟨g8,0,none⟩) (p+1) cap8) ((v.ts.take (p+1)).map (zaZ xs))):=by
      have hl:=zac (zaZ xs) v.ts p (by omega);have hp8:=zdo (p:=(v.ts.take p).map (zaZ xs)) hT (by rw[hl];exact hr8) hk8 hq6;rw[hl]at hp8
      rw[zbf (zaZ xs) v.ts p _ HTV.out];have e9:zaZ xs ((zn:Int),tq)=tq*r:=by
       show tq*xs.getD (zn:Int).toNat 0=tq*r;rw[Int.toNat_natCast,List.getD_eq_getElem?_getD,HRR.out];rfl
      rw[e9];exact hp8
     clear hr8 hk8 hb8 hg8 hrow hT hb6 hq6 HG3 HB3 R1 R2;refine hK.out _ _ (λh=>by cases h) (λ_=>?_);clear hK K;simp only[List.getElem_toArray,List.getElem_cons_succ,List.getElem_cons_zero,Act.put,List.setIfInBounds_toArray,List.set_cons_zero,List.set_cons_succ];refine zbk (i:=11) (v:=?_) rfl (by kernel_rfl) (by kernel_rfl) (by kernel_rfl) (by kernel_rfl) (λ_ _ _ h=>h) (Or.inl ⟨by rfl,?_⟩) (λh=>by cases h) ?_;rotate_left
     (focus (intro w0 hSw;go_simp <;> with_reducible rfl))
     simp only[List.getElem_toArray,List.getElem_cons_succ,List.getElem_cons_zero,Act.put,List.setIfInBounds_toArray,List.set_cons_zero,List.set_cons_succ];refine dnP ?_;clear hHeld a0 a1 a2 a3 p0 p1 p2;go_wp2;go_roundw
     case rel=>exact⟨p+1,by omega,by go_num,HB8.out,HG8.out⟩
     case measure=>simp[intOf];omega
    ·have e1:p=v.ts.length:=by omega
     have i4':¬(((p:Nat):Int)<((v.ts.length:Nat):Int)):=by omega
     obtain⟨va,vc,hvs,hvc⟩:=HG2.out.slice;rw[zac _ _ _ (by omega)]at hvs
     have HG4:=HG2.out;rw[hvs]at HG4
     replace HG4:=zk (show Rf (2*L+1) wr va (v.ts.map (zaZ xs)) by have:=HG4.rf;rw[List.take_of_length_le (by omega)]at this;exact this);subst hvs;have HBq:=zP HB1 HB2.out;have HGq:=zk (HG1.out.q_ HB2.out)
     clear HG2 HB2 HB1 HG1 HTS HC2;go_wp2_with fail
     refine(zje (L:=2*L+1) HG4.out (by rw[List.length_map]) (by omega) (by omega)).mono ?_;rintro e w6 ⟨s6,x6,n6,c6,f6,y6,m6,d6,g6,rfl,hb6,hq6,hd6⟩;have HD6:=zk (hd6.base HBq.out.size);obtain⟨T,hrow,hT⟩:=HGq.out.q_ hb6;rw[zac _ _ _ (by omega)]at hrow
     have hsz:=(bUp HBq.out hb6).size;have HB6:=zP HBq hb6;have HQ6:=zk (show Rn (KA L) w6 s6 x6 n6 c6 f6 y6 m6 d6 g6 (zas xs v)from hq6.mono (by unfold KA;have:v.ts.length*(2*L+1+1)<=64*(2*L+1+1):=Nat.mul_le_mul_right _ (by omega);omega));clear hb6 hq6 hd6 HGq HG4 HBq;go_wp2_with(at_builtin;go_must (refine zS w6 rfl (.tmp 37) (.tmp 40) 29 rfl w.heap.size 24 56 3 (agg #[.bool false,slice none 0 0,slice none 0 0]) underlying29 zbg rfl (by decide) nz3 u5 i _ rfl hrow #[.bool s6,slice x6 n6 c6,slice y6 m6 d6] rfl rfl (zeM _ _ _ _ _ _ _) (zdy _ _ _ _ _ _ _) ?p1 (by decide) hsz ?_))
     case p1=>omega
     intro g8 cap8 w8 hr8 hk8 hb8 hg8;have HB8:=zk (hb8 w HB6.out (le_refl _));have HG8:Hid (GrO (KA L) w.heap.size w8 (slice (some ⟨g8,0,none⟩) (i+1) cap8) ((rs.take (i+1)).map (zas xs))):=by
      have hl:=zac (zas xs) rs i (by omega);have hp8:=zhi (p:=(rs.take i).map (zas xs)) hT (by rw[hl];exact hr8) hk8 HQ6.out HD6.out;rw[hl]at hp8
      rw[zbf (zas xs) rs i _ HV.out];exact hp8
     clear hr8 hk8 hb8 hg8 hrow hT HQ6 HD6 HB6 hsz;go_wp2;go_roundw
     case rel=>exact⟨i+1,by omega,by go_num,HB8.out,HG8.out⟩
     case measure=>simp[intOf];omega
  ·have e1:i=rs.length:=by omega
   have i4':¬(((i:Nat):Int)<((rs.length:Nat):Int)):=by omega
   obtain⟨va,vc,hvs,hvc⟩:=HG.out.slice;rw[zac _ _ _ (by omega)]at hvs hvc
   have HG4:=HG.out;rw[hvs]at HG4
   replace HG4:=zk (show GrO (KA L) w.heap.size wr (slice va i vc) (rs.map (zas xs)) by have:=HG4;rw[List.take_of_length_le (by omega)]at this;exact this);subst hvs;have HE:=zk (show rs.length=i by omega);have HV4:=zk hvc;clear HG e1 hvc;go_wp2;go_ret;exact⟨va,vc,by rw[HE.out];rfl,HB.out,by rw[HE.out];exact HV4.out,by rw[HE.out];exact HG4.out⟩
theorem znF {w L M off cs rs ao k cap X xs er} (hW:MoW w M) (hx:Rl w ao k X) (hk:k<=1048576) (he:zbq M k X=er) (hv:er=0->MoV L w M off cs rs/\zbA cs rs=true/\Rf L w ao xs/\xs.length=k/\k=cs.length) (hL:L<=30) :
  Calls prog 10 #[M.val,slice ao k cap] w λe w'=>zmW L w w' e er rs xs:=by
 have CC:=zk (λW (hW2:Bl w W)=>zco (cap:=cap) (hW.q_ hW2) (hx.q_ hW2) hk);rw[he]at CC
 clear hW hx he;have HV:=zk hv;clear hv;have CA:Hid (er=0->∀W,Bl w W->Calls prog 27 #[M.val,slice ao k cap] W λe w'=>∃a c,e=returned (slice a rs.length c)/\Bl W w'/\(rs.length<=c/\c<=9223372036854775807)/\Hid (GrO (KA L) W.heap.size w' (slice a rs.length c) (rs.map (zas xs)))):=λh0 W hW2=>by
  obtain⟨v1,v2,v3,v4,v5⟩:=HV.out h0;have mp:=zbo v2;exact zpT (v1.q_ hW2) (v3.q_ hW2) v4 (λr hr t ht=>by have:=mp.tc r hr t ht;rw[v5];exact this) mp.rl mp.tl (by omega)
 obtain⟨⟨s,x,n,c,f,y,m,d,g⟩,ca,ck,cc,C,ra,rk,rc,R⟩:=M;replace CC:Hid (∀W,Bl w W->Calls prog 26 #[agg #[.bool s,slice x n c,slice y m d,slice ca ck cc,slice ra rk rc],slice ao k cap] W λe w'=>e=returned (.int .i64 er)/\Bl W w'):=CC;replace CA:Hid (er=0->∀W,Bl w W->Calls prog 27 #[agg #[.bool s,slice x n c,slice y m d,slice ca ck cc,slice ra rk rc],slice ao k cap] W λe w'=>∃a c,e=returned (slice a rs.length c)/\Bl W w'/\(rs.length<=c/\c<=9223372036854775807)/\Hid (GrO (KA L) W.heap.size w' (slice a rs.length c) (rs.map (zas xs)))):=CA;clear HV;show Calls prog 10 #[agg #[.bool s,slice x n c,slice y m d,slice ca ck cc,slice ra rk rc],slice ao k cap] w _;have hb:=zF w (cells #[.bool s,slice x n c,slice y m d,slice ca ck cc,slice ra rk rc] 28);have BM:=zk (zJ w [.bool s,slice x n c,slice y m d,slice ca ck cc,slice ra rk rc] 28);have HB:=zk hb;clear hb;go_enter func10,ntmps10;go_wp2_with fail
 generalize w.alloc (cells #[.bool s,slice x n c,slice y m d,slice ca ck cc,slice ra rk rc] 28)=w0 at *;refine(CC.out _ HB.out).mono ?_;rintro e w1 ⟨rfl,hb⟩;replace HB:=zP HB hb;replace BM:=zk (BM.out.q_ hb)
 clear hb CC;by_cases h0:er=0
 case neg =>
  have h1:(er != 0)=true:=by simpa using h0
  have H0:=zk h0;go_wp2
  go_ret2
  exact⟨HB.out,.inl ⟨H0.out,rfl⟩⟩
 have CA2:=zk (CA.out h0);subst h0;clear CA;obtain⟨r0,r1,r2,r3,r4⟩:=bk5 BM.out;go_wp2_with fail
 refine(CA2.out _ HB.out).mono ?_;rintro e w2 ⟨aa,ac,rfl,hb,hac,HR⟩;have HR2:=zk (HR.out.base HB.out.size);replace HB:=zP HB hb;have HAC:=zk hac;clear hb hac r0 r1 r2 r3 r4 BM CA2;go_wp2
 go_ret2
 exact⟨HB.out,.inr ⟨rfl,aa,ac,rfl,HAC.out,HR2.out⟩⟩
theorem zlE {w L M off cs rs ao k cap X xs er} (hW:MoW w M) (hx:Rl w ao k X) (hk:k<=1048576) (he:zbq M k X=er) (hv:er=0->MoV L w M off cs rs/\zbA cs rs=true/\Rf L w ao xs/\xs.length=k/\k=cs.length) (hL:L<=30) :
  Calls prog 11 #[M.val,slice ao k cap] w λe w'=>zmM L w w' e er off cs xs:=by
 have CC:=zk (λW (hW2:Bl w W)=>zco (cap:=cap) (hW.q_ hW2) (hx.q_ hW2) hk);rw[he]at CC
 clear hW hx he;have HV:=zk hv;clear hv;obtain⟨⟨s,x,n,c,f,y,m,d,g⟩,ca,ck,cc,C,ra,rk,rc,R⟩:=M;replace CC:Hid (∀W,Bl w W->Calls prog 26 #[agg #[.bool s,slice x n c,slice y m d,slice ca ck cc,slice ra rk rc],slice ao k cap] W λe w'=>e=returned (.int .i64 er)/\Bl W w'):=CC;show Calls prog 11 #[agg #[.bool s,slice x n c,slice y m d,slice ca ck cc,slice ra rk rc],slice ao k cap] w _;have hb:=zu (zF w (cells #[.bool s,slice x n c,slice y m d,slice ca ck cc,slice ra rk rc] 28)) (cells #[.bool false,slice none 0 0,slice none 0 0] 24);have BM:=zk ((zJ w [.bool s,slice x n c,slice y m d,slice ca ck cc,slice ra rk rc] 28).q_ (zF _ (cells #[.bool false,slice none 0 0,slice none 0 0] 24)));have hob:=zay (w.alloc (cells #[.bool s,slice x n c,slice y m d,slice ca ck cc,slice ra rk rc] 28)) 24;rw[zz]at hob
 have OB:=zk hob;have HB:=zk hb
 clear hb hob;go_enter func11,ntmps11;obtain⟨r0,r1,r2,r3,r4⟩:=bk5 BM.out;go_wp2_with fail
 clear r0 r1 r2 r3 r4;generalize((w.alloc (cells #[.bool s,slice x n c,slice y m d,slice ca ck cc,slice ra rk rc] 28)).alloc (cells #[.bool false,slice none 0 0,slice none 0 0] 24))=w0 at *;refine(CC.out _ HB.out).mono ?_;rintro e w1 ⟨rfl,hb⟩;replace HB:=zP HB hb;replace BM:=zk (BM.out.q_ hb);replace OB:=zk (OB.out.q_ hb)
 clear hb CC;by_cases h0:er=0
 case neg =>
  have h1:(er != 0)=true:=by simpa using h0
  have H0:=zk h0;obtain⟨hz,z0,z1,z2,zf⟩:=OB.out;go_wp2;exact bodyPost_ret (v:=.tuple #[agg #[.bool false,slice none 0 0,slice none 0 0],.int .i64 er]) (by simp[results,results11,go_sem,z0,z1,z2]) rfl ⟨below_st HB.out (by omega),.inl ⟨H0.out,rfl⟩⟩
 obtain⟨v1,v2,v3,v4,v5⟩:=HV.out h0;have mp:=zbo v2;subst h0;have l64:=mp.cl;have HC:Hid (∀j v,cs[j]?=some v->(∃b o,ca=some ⟨b,o,none⟩/\Cs w b (o+j*12) (C j).vs)/\ColV L w (C j) v):=v1.cls;have HO:Hid (Rn L w s x n c f y m d g off):=v1.off;have hck:ck=cs.length:=v1.ck;subst hck;subst v5;have HX:=zk v3;have HXL:=zk v4
 clear v1 v2 v3 v4 mp HV;have HG:=zk (zmf (K:=2*L+1) (base:=w1.heap.size) ((HO.out.q_ HB.out).mono (by omega)) (le_refl _));have hbo:=zF w1 (cells #[.bool s,slice x n c,slice y m d] 24);obtain⟨r0,r1,r2,r3,r4⟩:=bk5 BM.out;have r3':=kCb hbo r3;go_wp2_with fail
 clear r0 r1 r2 r3 r3' r4 HO;go_loopw[7,23] (λov t wr=>∃(i:Nat),i<=cs.length/\t=.int .i64 i/\Hid (Bl w1 wr)/\Hid (Gr (2*L+1) w1.heap.size wr ov (off :: (zaI cs xs).take i))) (λ_ t _=>cs.length-(intOf t).toNat)
 case atStart=>exact⟨0,by omega,rfl,hbo,HG⟩
 case round =>
  clear HG hbo;obtain⟨i,hi,rfl,HB2,HG2⟩:=hrel;have hcl:(zaI cs xs).length=cs.length:=by unfold zaI;rw[List.length_zipWith,HXL.out,Nat.min_self]
  have hgl:(off :: (zaI cs xs).take i).length=i+1:=by rw[List.length_cons,List.length_take];omega
  by_cases hlt:i<cs.length
  ·obtain⟨v,hv⟩:∃t,cs[i]?=some t:=⟨_,getElem?_eq_getElem (by omega)⟩;obtain⟨⟨b,o,hba,hc⟩,hV⟩:=HC.out i v hv;subst hba;have hbz:=bUp HB.out HB2.out;have hcost:=hV.cost.q_ hbz;obtain⟨⟨z,⟨s0,x0,n0,c0,f0,y0,m0,d0,g0⟩,⟨i1,⟨s1,x1,n1,c1,f1,y1,m1,d1,g1⟩⟩,⟨i2,⟨s2,x2,n2,c2,f2,y2,m2,d2,g2⟩⟩⟩,hCi⟩:∃t,C i=t:=⟨_,rfl⟩;rw[hCi]at hc hcost
   replace hcost:Rn L wr s0 x0 n0 c0 f0 y0 m0 d0 g0 v.cost:=hcost;replace hc:=Cs.q_ hc hbz;obtain⟨q0,q1,q2,q3,q4,q5,q6,q7,q8,q9,q10,q11⟩:=hc.lc;obtain⟨r,hr⟩:∃t,xs[i]?=some t:=⟨_,getElem?_eq_getElem (by have:=HXL.out;omega)⟩;obtain⟨b',o',⟨ss,sx,sn,sc,sf,sy,sm,sd,sg⟩,hax,⟨p0,p1,p2⟩,hr'⟩:=(HX.out.q_ hbz) i r hr;subst hax;replace p0:wr.cell? ⟨b',o'+i*3,none⟩=some (.bool ss):=p0;replace p1:wr.cell? ⟨b',o'+i*3+1,none⟩=some (slice sx sn sc):=p1;replace p2:wr.cell? ⟨b',o'+i*3+2,none⟩=some (slice sy sm sd):=p2;replace hr':Rn L wr ss sx sn sc sf sy sm sd sg r:=hr';have HCI:Hid ((zaI cs xs).take (i+1)=(zaI cs xs).take i++[v.cost*r]):=by
    show _=_;rw[List.take_add_one]
    congr 1
    unfold zaI;rw[List.getElem?_zipWith,hv,hr];rfl
   have hbt:=zF wr (cells #[.string z,.bool s0,slice x0 n0 c0,slice y0 m0 d0,.int .i64 i1,.bool s1,slice x1 n1 c1,slice y1 m1 d1,.int .i64 i2,.bool s2,slice x2 n2 c2,slice y2 m2 d2] 59);obtain⟨-,a1,a2,a3⟩:=bk4 (zJ wr [.string z,.bool s0,slice x0 n0 c0,slice y0 m0 d0,.int .i64 i1,.bool s1,slice x1 n1 c1,slice y1 m1 d1,.int .i64 i2,.bool s2,slice x2 n2 c2,slice y2 m2 d2] 59);have i1':((i:Nat):Int)<((cs.length:Nat):Int):=by omega
   clear hCi hc hV hv hr;go_upto_region 8 with fail
   clear q0 q1 q2 q3 q4 q5 q6 q7 q8 q9 q10 q11;replace p0:=kCb hbt p0;replace p1:=kCb hbt p1;replace p2:=kCb hbt p2
   have HB3:=zP HB2 hbt;have HG3:=zk (HG2.out.q_ hbt);have R1:=zk (hcost.q_ hbt);have R2:=zk (hr'.q_ hbt)
   clear hbz hbt HB2 HG2 hcost hr';generalize hbx:wr.heap.size=bx at *;generalize wr.alloc (cells #[.string z,.bool s0,slice x0 n0 c0,slice y0 m0 d0,.int .i64 i1,.bool s1,slice x1 n1 c1,slice y1 m1 d1,.int .i64 i2,.bool s2,slice x2 n2 c2,slice y2 m2 d2] 59)=w5 at *;clear hbx;refine zaR (S:=(λw'=>w'.cell? ⟨bx,1,none⟩=some (.bool s0)/\w'.cell? ⟨bx,2,none⟩=some (slice x0 n0 c0)/\w'.cell? ⟨bx,3,none⟩=some (slice y0 m0 d0)/\w'.cell? ⟨b',o'+i*3,none⟩=some (.bool ss)/\w'.cell? ⟨b',o'+i*3+1,none⟩=some (slice sx sn sc)/\w'.cell? ⟨b',o'+i*3+2,none⟩=some (slice sy sm sd))) 7 (by kernel_rfl) ⟨kCd a1,kCd a2,kCd a3,kCd p0,kCd p1,kCd p2⟩ (λhHeld=>?_);refine skP 0 ?_;refine skP 1 ?_;refine tkP 2 ?_;simp only[zw,Act.put];refine skP 3 ?_;refine skP 4 ?_;refine skP 5 ?_;simp only[zw,Act.put];refine tkP 6 ?_;simp only[zw,Act.put];refine rdP 7 (λK hK=>?_);go_simp
   go_at_call 28
   refine(zdf (L:=L) (zgn R1.out) (zgn R2.out) (by omega)).mono ?_;rintro e w6 ⟨s6,x6,n6,c6,f6,y6,m6,d6,g6,rfl,hb6,hq6⟩
   (try go_wp2_with fail)
   refine hK.out _ _ (λh=>by cases h) (λ_=>?_);clear hK K;try simp only[zw,Act.put]
   refine rdP 8 (λK hK=>?_);go_simp;refine hK.out _ _ (λh=>by cases h) (λ_=>?_);clear hK K;try simp only[zw,Act.put]
   refine rdP 9 (λK hK=>?_);obtain⟨T,hrow,hT⟩:=(Gr.q_ HG3.out (Below.drew (Below.refl w5.heap.size w5))).q_ hb6;rw[hgl]at hrow
   refine zat w6 rfl (.tmp 28) (.tmp 36) 29 rfl w1.heap.size 24 56 3 (agg #[.bool false,slice none 0 0,slice none 0 0]) underlying29 zbg rfl (by decide) nz3 u7 (i+1) _ rfl hrow #[.bool s6,slice x6 n6 c6,slice y6 m6 d6] rfl rfl (zeM _ _ _ _ _ _ _) (zdy _ _ _ _ _ _ _) (by omega) (by decide) ?hz ?_
   case hz=>exact(HB3.out.drew.trans (hb6.mono HB3.out.drew.size)).size
   intro g8 cap8 w8 hr8 hk8 hb8 hg8;have HB8:Hid (Bl w1 w8):=hb8 w1 (HB3.out.drew.trans (hb6.mono HB3.out.drew.size)) (le_refl _);have HG8:Hid (Gr (2*L+1) w1.heap.size w8 (slice (some ⟨g8,0,none⟩) (i+1+1) cap8) (off :: (zaI cs xs).take (i+1))):=by
    have hp8:=zdo (p:=off :: (zaI cs xs).take i) hT (by rw[hgl];exact hr8) hk8 hq6;rw[hgl]at hp8
    rw[HCI.out];exact hp8
   clear hr8 hk8 hb8 hg8 hrow hT hb6 hq6 HG3 HB3 R1 R2;refine hK.out _ _ (λh=>by cases h) (λ_=>?_);clear hK K;simp only[List.getElem_toArray,List.getElem_cons_succ,List.getElem_cons_zero,Act.put,List.setIfInBounds_toArray,List.set_cons_zero,List.set_cons_succ];refine zbk (i:=10) (v:=?_) rfl (by kernel_rfl) (by kernel_rfl) (by kernel_rfl) (by kernel_rfl) (λ_ _ _ h=>h) (Or.inl ⟨by rfl,?_⟩) (λh=>by cases h) ?_;rotate_left
   (focus (intro w0 hSw;go_simp <;> with_reducible rfl))
   simp only[List.getElem_toArray,List.getElem_cons_succ,List.getElem_cons_zero,Act.put,List.setIfInBounds_toArray,List.set_cons_zero,List.set_cons_succ];refine dnP ?_;clear hHeld a1 a2 a3 p0 p1 p2;go_wp2;go_roundw
   case rel=>exact⟨i+1,by omega,by go_num,HB8.out,HG8.out⟩
   case measure=>simp[intOf];omega
  ·have i4:¬(((i:Nat):Int)<((cs.length:Nat):Int)):=by omega
   have e9:i=cs.length:=by omega
   obtain⟨va,vc,hvs,hvc⟩:=HG2.out.slice;rw[hgl]at hvs
   have HG4:=HG2.out;rw[hvs]at HG4
   replace HG4:=zk (show Rf (2*L+1) wr va (off :: zaI cs xs) by have:=HG4.rf;rw[List.take_of_length_le (by omega)]at this;exact this);subst hvs;have HLen:=zk (show(off :: zaI cs xs).length=i+1 by rw[List.length_cons];omega);have hi65:i+1<=65:=by omega
   replace HB:=zP HB HB2.out;replace OB:=zk (OB.out.q_ HB2.out)
   clear HG2 HB2 hgl hcl e9 HC HX BM;go_wp2_with fail
   refine(zje (L:=2*L+1) HG4.out HLen.out (by omega) (by omega)).mono ?_;rintro e w6 ⟨s6,x6,n6,c6,f6,y6,m6,d6,g6,rfl,hb6,hq6,hd6⟩;have HD6:=zk (hd6.base HB.out.size);replace HB:=zP HB hb6;replace OB:=zk (OB.out.q_ hb6)
   have HQ:=zk (show Rn (KV L) w6 s6 x6 n6 c6 f6 y6 m6 d6 g6 (zjT off cs xs)from hq6.mono (by unfold KV;have:(i+1)*(2*L+1+1)<=65*(2*L+1+1):=Nat.mul_le_mul_right _ hi65;omega));clear hb6 hq6 hd6 HG4 HLen;obtain⟨hz,z0,z1,z2,zf⟩:=OB.out;go_wp2;exact bodyPost_ret (v:=.tuple #[agg #[.bool s6,slice x6 n6 c6,slice y6 m6 d6],.int .i64 0]) (by simp[results,results11,go_sem,z0,z1,z2]) rfl ⟨below_st HB.out (by omega),.inr ⟨rfl,s6,x6,n6,c6,f6,y6,m6,d6,g6,rfl,OB.out.rn HQ.out,HD6.out.st3 ⟨hz,z0,z1,z2,zf⟩⟩⟩
end Go.Proofs.YtdagpgmehelfkaaGreat
