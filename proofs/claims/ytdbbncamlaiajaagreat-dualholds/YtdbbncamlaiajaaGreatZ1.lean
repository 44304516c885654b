/-
 Walks of the document's reference for nat: Cmp, Add, Sub on digits, and the calls DocAdd, DocSub, DocCmp. Walks of the document's reference for nat: Sub on digits, and the calls DocAdd, DocSub, DocCmp. Contracts of the library that lie ready, laid at this translation: math/bits, internal/strconv. math/bits.Div64: quotient and rest of a number of two limbs by a limb. math/bits.Div64: its contract. Walks of package nat's quotients by one limb, and of the greatest common divisor of two limbs. Walks of the document's reference for nat: Word, short. The walk of the document's reference for nat: Mul. Digits to the base 2^32 that can be read, with their number; the reference's Add, Sub, Mul on them. Numbers times 2^n, limb by limb and digit by digit; a list made with room behind it. No Go text is named here.
-/
import Derived.Test.YtdbbncamlaiajaaGreatZ0
import Derived.Shelf.Small.Bits
import Derived.Shelf.Strconv.Itoa0
import Derived.Shelf.Bits.Mul64
import Derived.Test.YtdbbncamlaiajaaGreatProg
import Derived.BigRegion
namespace Go.Proofs.YtdbbncamlaiajaaGreat
open Go.RowKit
theorem dcmp_step {f g:Nat→Int} {n k:Nat} (hf:Dg f n) (hg:Dg g n) (hk:k<n) (he:∀j,k<j→j<n→f j=g j) (hl:f k<g k):vd f n<vd g n:=by
 obtain ⟨d,rfl⟩:=Nat.exists_eq_add_of_le (show k+1≤n by omega);have e:vd (sh f (k+1)) d=vd (sh g (k+1)) d:=vd_congr (fun j hj=>he _ (by omega) (by omega));have a:=vd_lt (hf.mono (m:=k) (by omega));have b:=vd_nonneg (hg.mono (m:=k) (by omega))
 have hp:(f k+1)*pd k≤g k*pd k:=Int.mul_le_mul_of_nonneg_right (by omega) (Int.le_of_lt (pd_pos k));rw [Int.add_mul,Int.one_mul] at hp;rw [vd_split f (k+1) d,vd_split g (k+1) d,e,vd_succ f k,vd_succ g k];omega
theorem vd_cat1 (D:Nat→Int) (k:Nat) (x:Int):vd (cat D k (fun _=>x)) (k+1)=vd D k+x*pd k:=by
 rw [vd_succ,vd_congr (f:=cat D k (fun _=>x)) (g:=D) (fun j hj=>cat_in hj),cat_out (Nat.le_refl _)]
theorem dg_cat1 {D:Nat→Int} {k:Nat} {x:Int} (h:Dg D k) (hx:0≤x∧x<4294967296):Dg (cat D k (fun _=>x)) (k+1):=fun j hj=>by
 by_cases h1:j<k
 ·rw [cat_in h1];exact h j h1
 ·rw [cat_out (by omega)];exact hx
theorem dadd_limb {V x c p:Int}:V+((x+c)%4294967296)*p+((x+c)/4294967296)*(4294967296*p)=V+x*p+c*p:=by
 have e:x+c=4294967296*((x+c)/4294967296)+(x+c)%4294967296:=by omega
 grind
theorem dcarry_step {D F G:Nat→Int} {k:Nat} {cc x y:Int} (HV:vd D k+cc*pd k=vd F k+vd G k) (hx:F k=x) (hy:G k=y) :
  vd (cat D k (fun _=>(cc+x+y)%4294967296)) (k+1)+((cc+x+y)/4294967296)*pd (k+1)=vd F (k+1)+vd G (k+1):=by
 rw [vd_cat1,vd_succ,vd_succ,pd_succ,hx,hy];have:=dadd_limb (V:=vd D k) (x:=x+y) (c:=cc) (p:=pd k);have e:x+y+cc=cc+x+y:=by omega
 rw [e] at this;rw [this]
 grind
theorem dborrow_step {D F G:Nat→Int} {k:Nat} {cc x y v c':Int} (HV:vd D k-cc*pd k=vd F k-vd G k) (hx:F k=x) (hy:G k=y) (hv:v=x-(cc+y)+4294967296*c') :
  vd (cat D k (fun _=>v)) (k+1)-c'*pd (k+1)=vd F (k+1)-vd G (k+1):=by
 rw [vd_cat1,vd_succ,vd_succ,pd_succ,hx,hy,hv]
 grind
set_option maxHeartbeats 800000 in
theorem rcmp_c (ao bo:Option Addr) (n m ca cb:Nat) (f g:Nat→Int) (w:World) (hm:n≤140737488355328) (hm':m≤140737488355328)
  (hr:Rd .u64 w ao n f) (hs:Rd .u64 w bo m g) (hf:Dg f n) (hg:Dg g m) (ff:Fm f n) (fg:Fm g m) :
  Calls Tryz.prog 145 #[.slice ao n ca,.slice bo m cb] w fun e w'=>(∃q,w'=w.drewN q)∧∃c,e=.returned (.int .i64 c)∧Ord c (vd f n) (vd g m):=by
 have FF:=hid ff;have FG:=hid fg;have HF:=hid hf;have HG:=hid hg;clear ff fg hf hg;rcases Nat.lt_trichotomy n m with hlt | heq | hlt
 ·have h1:((n:Int) != m)=true:=by simp;omega
  have h2:decide ((n:Int)<m)=true:=by simp;omega
  have h3:vd f n<vd g m:=by
   apply Int.lt_of_not_ge;intro h
   have:=vd_len HG.out HF.out FG.out h;omega
  have H3:=hid h3;clear h3;go_enter Tryz.func145,Tryz.ntmps145;go_wp2;go_ret;exact ⟨⟨0,rfl⟩,-1,rfl,.inl ⟨rfl,H3.out⟩⟩
 ·subst heq;have h1:((n:Int) != n)=false:=by simp
  go_enter Tryz.func145,Tryz.ntmps145;go_wp2;go_loopw [5] (fun t wr=>∃i:Nat,i≤n∧t=.int .i64 ((i:Int)-1)∧Hid (∀j,i≤j→j<n→f j=g j)∧∃q,wr=w.drewN q) (fun t _=>((intOf t)+1).toNat)
  case atStart=>exact ⟨n,by omega,rfl,fun j h1 h2=>by omega,0,rfl⟩
  case round =>
   obtain ⟨i,hin,rfl,HE,q,rfl⟩:=hrel;by_cases hlt:0<i
   ·obtain ⟨b,o,rfl⟩:=hr.at (by omega);obtain ⟨b',o',rfl⟩:=hs.at (by omega);obtain ⟨x,hx⟩:∃x,f (i-1)=x:=⟨_,rfl⟩;obtain ⟨y,hy⟩:∃y,g (i-1)=y:=⟨_,rfl⟩;have hca:w.cell? ⟨b,o+(i-1),none⟩=some (.int .u64 x):=by rw [←hx];exact hr.cell (by omega)
    have hcb:w.cell? ⟨b',o'+(i-1),none⟩=some (.int .u64 y):=by rw [←hy];exact hs.cell (by omega)
    have HX:=hid hx;have HY:=hid hy;clear hx hy hr hs;rcases Int.lt_trichotomy x y with hl | hxy | hl
    ·have hd:decide (x<y)=true:=by simp [hl]
     go_wp2
     go_quiet (fail)
     go_wp2;go_ret;refine ⟨⟨_,by (repeat rw [World.drewN_drewN]) <;> rfl⟩,-1,rfl,.inl ⟨rfl,dcmp_step HF.out HG.out (k:=i-1) (by omega) (fun j h1 h2=>HE.out j (by omega) h2) (by rw [HX.out,HY.out];exact hl)⟩⟩
    ·subst hxy;have hd:decide (x<x)=false:=by simp
     go_wp2
     go_quiet (fail)
     go_wp2
     go_quiet (fail)
     go_wp2;go_roundw
     case rel =>
      refine ⟨i-1,by omega,by go_num,fun j h1 h2=>?_,_,by (repeat rw [World.drewN_drewN]) <;> rfl⟩;by_cases hj:j=i-1
      ·rw [hj];exact HX.out.trans HY.out.symm
      ·exact HE.out j (by omega) h2
     case measure=>simp [intOf];omega
    ·have hd:decide (x<y)=false:=by simp;omega
     have hd2:decide (y<x)=true:=by simp [hl]
     go_wp2
     go_quiet (fail)
     go_wp2
     go_quiet (fail)
     go_wp2;go_ret;refine ⟨⟨_,by (repeat rw [World.drewN_drewN]) <;> rfl⟩,1,rfl,.inr (.inr ⟨rfl,dcmp_step HG.out HF.out (k:=i-1) (by omega) (fun j h1 h2=>(HE.out j (by omega) h2).symm) (by rw [HX.out,HY.out];omega)⟩)⟩
   ·have hi:i=0:=by omega
    subst hi;go_wp2;go_ret;exact ⟨⟨_,rfl⟩,0,rfl,.inr (.inl ⟨rfl,vd_congr (fun j hj=>HE.out j (by omega) hj)⟩)⟩
 ·have h1:((n:Int) != m)=true:=by simp;omega
  have h2:decide ((n:Int)<m)=false:=by simp;omega
  have h3:vd g m<vd f n:=by
   apply Int.lt_of_not_ge;intro h
   have:=vd_len HF.out HG.out FF.out h;omega
  have H3:=hid h3;clear h3;go_enter Tryz.func145,Tryz.ntmps145;go_wp2;go_ret;exact ⟨⟨0,rfl⟩,1,rfl,.inr (.inr ⟨rfl,H3.out⟩)⟩
set_option maxRecDepth 100000 in
set_option maxHeartbeats 2000000 in
theorem raddO_c (ao bo:Option Addr) (n m ca cb:Nat) (f h:Nat→Int) (w:World) (hn:n≤1048576) (hm:m≤1048576) (hr:Rd .u64 w ao n f) (hs:Rd .u64 w bo m h) (hf:Dg f n) (hh:Dg h m) :
  Calls Tryz.prog 144 #[.slice ao n ca,.slice bo m cb] w fun e w'=>∃ao' k cap' D,e=.returned (.slice ao' k cap')∧Below w.heap.size w w'∧Rd .u64 w' ao' k D∧k≤n+m+1∧Dg D k∧Fm D k∧(∀a,ao'=some a→w.heap.size≤a.block)∧vd D k=vd f n+vd h m:=by
 obtain ⟨i0,hi,hz0,hz1,hz2⟩:=info_parts Tryz.infoU64;have RA0:=hid hr;have RB0:=hid hs;have DA0:=hid hf;have DB0:=hid hh;clear hr hs hf hh;by_cases hsw:n<m
 ·have RA:=RB0;have RB:=RA0;have DA:=DB0;have DB:=DA0;clear RA0 RB0 DA0 DB0;go_enter Tryz.func144,Tryz.ntmps144;go_wp2_with (at_make;refine wpList_make_own w rfl (.const (.int .i64 0)) (.tmp 18) 22 rfl w.heap.size 145 i0 (.int .u64 0) 1 Tryz.underlying22 hi hz0 hz1 .i64 .i64 ((m:Int)+1) (m+1) rfl rfl (by omega) (by rw [hz2];omega) (by unfold maxLen;omega) (Nat.le_refl _) ?_;intro w1 hown1 hgr1)
  have hb1:Below w.heap.size w w1:=(Below.refl _ _).grown hgr1 (Nat.le_refl _) (fun k h=>by cases h);have HO1:=hid (show Own .u64 145 w1 w.heap.size (.slice (some ⟨w.heap.size,0,none⟩) 0 (m+1)) 0 (fun _=>0) from hown1);clear hown1 hgr1;go_loopw [5,6,22] (fun v c t wr=>∃(k:Nat) (cc:Int) (D:Nat→Int),k≤m∧t=.int .i64 k∧c=.int .u64 cc∧0≤cc∧cc≤1∧Below w.heap.size w wr∧Hid (Own .u64 145 wr w.heap.size v k D)∧Hid (Dg D k)∧Hid (vd D k+cc*pd k=vd h k+vd (ext f n) k)) (fun _ _ t _=>m-(intOf t).toNat)
  case atStart=>exact ⟨0,0,fun _=>0,by omega,rfl,rfl,by omega,by omega,hb1,HO1.out,fun j hj=>by omega,by simp [Hid,vd,pd]⟩
  case round =>
   clear hb1 HO1;obtain ⟨k,cc,D,hk,rfl,rfl,c0,c1,hbel,HO,HDg,HV⟩:=hrel;by_cases hlt:k<m
   ·have hrA:=RA.out;obtain ⟨b,o,rfl⟩:=hrA.at (by omega);obtain ⟨x,hx⟩:∃x,h k=x:=⟨_,rfl⟩;have hcell:wr.cell? ⟨b,o+k,none⟩=some (.int .u64 x):=by rw [←hx];exact (hrA.below hbel (Nat.le_refl _)).cell hlt
    obtain ⟨x0,x1⟩:=DA.out k hlt;rw [hx] at x0 x1;have HX:=hid hx;clear hx hrA;by_cases hlt2:k<n
    ·have hrB:=RB.out;obtain ⟨b',o',rfl⟩:=hrB.at (by omega);obtain ⟨y,hy⟩:∃y,f k=y:=⟨_,rfl⟩;have hcelb:wr.cell? ⟨b',o'+k,none⟩=some (.int .u64 y):=by rw [←hy];exact (hrB.below hbel (Nat.le_refl _)).cell hlt2
     obtain ⟨y0,y1⟩:=DB.out k hlt2;rw [hy] at y0 y1;have HY:=hid (show ext f n k=y from (ext_in _ _ _ hlt2).trans hy);clear hy hrB;go_wp2_with (at_builtin;refine wpList_append_own_list .u64 _ rfl (.tmp 40) (.tmp 43) 22 rfl w.heap.size 145 8 Tryz.underlying22 Tryz.infoU64 _ k D rfl (Own.alloc HO.out _) wr.heap.size 0 1 1 (fun _=>(cc+x+y)%4294967296) rfl (rd_new1 wr _ _) ?c1 ?c2 ?c3 ?_)
     case c1=>unfold maxLen;omega
     case c2=>omega
     case c3=>have:=hbel.size;simp;omega
     intro v' w' hown hgr;have hbel2:Below w.heap.size w w':=(hbel.alloc hbel.size _).grown hgr (by have:=hbel.size;simp;omega) (fun k h=>(Own.ge HO.out k h));have HO2:=hid hown;clear hown hgr HO;go_wp2;go_roundw
     case rel=>exact ⟨k+1,_,_,by omega,by go_num,rfl,by omega,by omega,hbel2,HO2.out,dg_cat1 HDg.out (by omega),dcarry_step HV.out HX.out HY.out⟩
     case measure=>simp [intOf];omega
    ·have HY:=hid (show ext f n k=0 from ext_out _ _ _ (by omega));go_wp2_with (at_builtin;refine wpList_append_own_list .u64 _ rfl (.tmp 40) (.tmp 43) 22 rfl w.heap.size 145 8 Tryz.underlying22 Tryz.infoU64 _ k D rfl (Own.alloc HO.out _) wr.heap.size 0 1 1 (fun _=>(cc+x)%4294967296) rfl (rd_new1 wr _ _) ?c1 ?c2 ?c3 ?_)
     case c1=>unfold maxLen;omega
     case c2=>omega
     case c3=>have:=hbel.size;simp;omega
     intro v' w' hown hgr;have hbel2:Below w.heap.size w w':=(hbel.alloc hbel.size _).grown hgr (by have:=hbel.size;simp;omega) (fun k h=>(Own.ge HO.out k h));have HO2:=hid hown;clear hown hgr HO;go_wp2;go_roundw
     case rel=>exact ⟨k+1,_,_,by omega,by go_num,rfl,by omega,by omega,hbel2,HO2.out,dg_cat1 HDg.out (by omega),(by have:=dcarry_step HV.out HX.out HY.out;simpa [Hid] using this)⟩
     case measure=>simp [intOf];omega
   ·have hkn:k=m:=by omega
    subst hkn;go_wp2_with (at_builtin;refine wpList_append_own_list .u64 _ rfl (.tmp 48) (.tmp 50) 22 rfl w.heap.size 145 8 Tryz.underlying22 Tryz.infoU64 _ k D rfl (Own.alloc HO.out _) wr.heap.size 0 1 1 (fun _=>cc) rfl (rd_new1 wr _ _) ?c1 ?c2 ?c3 ?_)
    case c1=>unfold maxLen;omega
    case c2=>omega
    case c3=>have:=hbel.size;simp;omega
    intro v' w' hown hgr;have hbel2:Below w.heap.size w w':=(hbel.alloc hbel.size _).grown hgr (by have:=hbel.size;simp;omega) (fun k h=>(Own.ge HO.out k h));obtain ⟨ao',cap',hv,hcc,hnn,hml,hrd,hlt3⟩:=Own.shape hown;unfold maxLen at hml;subst hv;have HLT:=hid hlt3;clear hown hgr HO hlt3;go_wp2_with fail
    refine (low_c ao' (k+1) cap' (cat D k (fun _=>cc)) w' hcc hml hrd hnn).mono ?_;rintro e w2 ⟨rfl,m',hm1,hz,hfm,rfl⟩;have HZ:=hid hz;have HFM:=hid hfm;clear hz hfm;go_wp2;go_ret;refine ⟨ao',m',cap',_,rfl,hbel2,hrd.take hm1,by omega,(dg_cat1 HDg.out (by omega)).mono hm1,HFM.out,fun a ha=>(HLT.out a ha).1,?_⟩;rw [trim_vald hm1 HZ.out,vd_cat1,HV.out,vd_ext_list _ _ _ (by omega)];omega
 ·have RA:=RA0;have RB:=RB0;have DA:=DA0;have DB:=DB0;clear RA0 RB0 DA0 DB0;go_enter Tryz.func144,Tryz.ntmps144;go_wp2_with (at_make;refine wpList_make_own w rfl (.const (.int .i64 0)) (.tmp 18) 22 rfl w.heap.size 145 i0 (.int .u64 0) 1 Tryz.underlying22 hi hz0 hz1 .i64 .i64 ((n:Int)+1) (n+1) rfl rfl (by omega) (by rw [hz2];omega) (by unfold maxLen;omega) (Nat.le_refl _) ?_;intro w1 hown1 hgr1)
  have hb1:Below w.heap.size w w1:=(Below.refl _ _).grown hgr1 (Nat.le_refl _) (fun k h=>by cases h);have HO1:=hid (show Own .u64 145 w1 w.heap.size (.slice (some ⟨w.heap.size,0,none⟩) 0 (n+1)) 0 (fun _=>0) from hown1);clear hown1 hgr1;go_loopw [5,6,22] (fun v c t wr=>∃(k:Nat) (cc:Int) (D:Nat→Int),k≤n∧t=.int .i64 k∧c=.int .u64 cc∧0≤cc∧cc≤1∧Below w.heap.size w wr∧Hid (Own .u64 145 wr w.heap.size v k D)∧Hid (Dg D k)∧Hid (vd D k+cc*pd k=vd f k+vd (ext h m) k)) (fun _ _ t _=>n-(intOf t).toNat)
  case atStart=>exact ⟨0,0,fun _=>0,by omega,rfl,rfl,by omega,by omega,hb1,HO1.out,fun j hj=>by omega,by simp [Hid,vd,pd]⟩
  case round =>
   clear hb1 HO1;obtain ⟨k,cc,D,hk,rfl,rfl,c0,c1,hbel,HO,HDg,HV⟩:=hrel;by_cases hlt:k<n
   ·have hrA:=RA.out;obtain ⟨b,o,rfl⟩:=hrA.at (by omega);obtain ⟨x,hx⟩:∃x,f k=x:=⟨_,rfl⟩;have hcell:wr.cell? ⟨b,o+k,none⟩=some (.int .u64 x):=by rw [←hx];exact (hrA.below hbel (Nat.le_refl _)).cell hlt
    obtain ⟨x0,x1⟩:=DA.out k hlt;rw [hx] at x0 x1;have HX:=hid hx;clear hx hrA;by_cases hlt2:k<m
    ·have hrB:=RB.out;obtain ⟨b',o',rfl⟩:=hrB.at (by omega);obtain ⟨y,hy⟩:∃y,h k=y:=⟨_,rfl⟩;have hcelb:wr.cell? ⟨b',o'+k,none⟩=some (.int .u64 y):=by rw [←hy];exact (hrB.below hbel (Nat.le_refl _)).cell hlt2
     obtain ⟨y0,y1⟩:=DB.out k hlt2;rw [hy] at y0 y1;have HY:=hid (show ext h m k=y from (ext_in _ _ _ hlt2).trans hy);clear hy hrB;go_wp2_with (at_builtin;refine wpList_append_own_list .u64 _ rfl (.tmp 40) (.tmp 43) 22 rfl w.heap.size 145 8 Tryz.underlying22 Tryz.infoU64 _ k D rfl (Own.alloc HO.out _) wr.heap.size 0 1 1 (fun _=>(cc+x+y)%4294967296) rfl (rd_new1 wr _ _) ?c1 ?c2 ?c3 ?_)
     case c1=>unfold maxLen;omega
     case c2=>omega
     case c3=>have:=hbel.size;simp;omega
     intro v' w' hown hgr;have hbel2:Below w.heap.size w w':=(hbel.alloc hbel.size _).grown hgr (by have:=hbel.size;simp;omega) (fun k h=>(Own.ge HO.out k h));have HO2:=hid hown;clear hown hgr HO;go_wp2;go_roundw
     case rel=>exact ⟨k+1,_,_,by omega,by go_num,rfl,by omega,by omega,hbel2,HO2.out,dg_cat1 HDg.out (by omega),dcarry_step HV.out HX.out HY.out⟩
     case measure=>simp [intOf];omega
    ·have HY:=hid (show ext h m k=0 from ext_out _ _ _ (by omega));go_wp2_with (at_builtin;refine wpList_append_own_list .u64 _ rfl (.tmp 40) (.tmp 43) 22 rfl w.heap.size 145 8 Tryz.underlying22 Tryz.infoU64 _ k D rfl (Own.alloc HO.out _) wr.heap.size 0 1 1 (fun _=>(cc+x)%4294967296) rfl (rd_new1 wr _ _) ?c1 ?c2 ?c3 ?_)
     case c1=>unfold maxLen;omega
     case c2=>omega
     case c3=>have:=hbel.size;simp;omega
     intro v' w' hown hgr;have hbel2:Below w.heap.size w w':=(hbel.alloc hbel.size _).grown hgr (by have:=hbel.size;simp;omega) (fun k h=>(Own.ge HO.out k h));have HO2:=hid hown;clear hown hgr HO;go_wp2;go_roundw
     case rel=>exact ⟨k+1,_,_,by omega,by go_num,rfl,by omega,by omega,hbel2,HO2.out,dg_cat1 HDg.out (by omega),(by have:=dcarry_step HV.out HX.out HY.out;simpa [Hid] using this)⟩
     case measure=>simp [intOf];omega
   ·have hkn:k=n:=by omega
    subst hkn;go_wp2_with (at_builtin;refine wpList_append_own_list .u64 _ rfl (.tmp 48) (.tmp 50) 22 rfl w.heap.size 145 8 Tryz.underlying22 Tryz.infoU64 _ k D rfl (Own.alloc HO.out _) wr.heap.size 0 1 1 (fun _=>cc) rfl (rd_new1 wr _ _) ?c1 ?c2 ?c3 ?_)
    case c1=>unfold maxLen;omega
    case c2=>omega
    case c3=>have:=hbel.size;simp;omega
    intro v' w' hown hgr;have hbel2:Below w.heap.size w w':=(hbel.alloc hbel.size _).grown hgr (by have:=hbel.size;simp;omega) (fun k h=>(Own.ge HO.out k h));obtain ⟨ao',cap',hv,hcc,hnn,hml,hrd,hlt3⟩:=Own.shape hown;unfold maxLen at hml;subst hv;have HLT:=hid hlt3;clear hown hgr HO hlt3;go_wp2_with fail
    refine (low_c ao' (k+1) cap' (cat D k (fun _=>cc)) w' hcc hml hrd hnn).mono ?_;rintro e w2 ⟨rfl,m',hm1,hz,hfm,rfl⟩;have HZ:=hid hz;have HFM:=hid hfm;clear hz hfm;go_wp2;go_ret;refine ⟨ao',m',cap',_,rfl,hbel2,hrd.take hm1,by omega,(dg_cat1 HDg.out (by omega)).mono hm1,HFM.out,fun a ha=>(HLT.out a ha).1,?_⟩;rw [trim_vald hm1 HZ.out,vd_cat1,HV.out,vd_ext_list _ _ _ (by omega)]
theorem radd_c (ao bo:Option Addr) (n m ca cb:Nat) (f h:Nat→Int) (w:World) (hn:n≤1048576) (hm:m≤1048576) (hr:Rd .u64 w ao n f) (hs:Rd .u64 w bo m h) (hf:Dg f n) (hh:Dg h m) :
  Calls Tryz.prog 144 #[.slice ao n ca,.slice bo m cb] w fun e w'=>∃ao' k cap' D,e=.returned (.slice ao' k cap')∧Below w.heap.size w w'∧Rd .u64 w' ao' k D∧k≤n+m+1∧Dg D k∧Fm D k∧vd D k=vd f n+vd h m :=
 (raddO_c ao bo n m ca cb f h w hn hm hr hs hf hh).mono (fun _ _ ⟨a,k,c,D,h1,h2,h3,h4,h5,h6,_,h7⟩=>⟨a,k,c,D,h1,h2,h3,h4,h5,h6,h7⟩)
end Go.Proofs.YtdbbncamlaiajaaGreat
namespace Go.Proofs.YtdbbncamlaiajaaGreat
open Go.RowKit
set_option maxRecDepth 100000 in
set_option maxHeartbeats 2000000 in
theorem rsubO_c (ao bo:Option Addr) (n m ca cb:Nat) (f h:Nat→Int) (w:World) (hn:n≤1048576) (hm:m≤1048576) (hmn:m≤n) (hr:Rd .u64 w ao n f) (hs:Rd .u64 w bo m h) (hf:Dg f n) (hh:Dg h m) (hle:vd h m≤vd f n) :
  Calls Tryz.prog 146 #[.slice ao n ca,.slice bo m cb] w fun e w'=>∃ao' k cap' D,e=.returned (.slice ao' k cap')∧Below w.heap.size w w'∧Rd .u64 w' ao' k D∧k≤n∧Dg D k∧Fm D k∧(∀a,ao'=some a→w.heap.size≤a.block)∧vd D k=vd f n-vd h m:=by
 obtain ⟨i0,hi,hz0,hz1,hz2⟩:=info_parts Tryz.infoU64;have RA:=hid hr;have RB:=hid hs;have DA:=hid hf;have DB:=hid hh;have HLe:=hid hle;clear hr hs hf hh hle;go_enter Tryz.func146,Tryz.ntmps146;go_wp2_with (at_make;refine wpList_make_own w rfl (.const (.int .i64 0)) (.tmp 11) 22 rfl w.heap.size 145 i0 (.int .u64 0) 1 Tryz.underlying22 hi hz0 hz1 .i64 .i64 n n rfl rfl (by omega) (by rw [hz2];omega) (by unfold maxLen;omega) (Nat.le_refl _) ?_;intro w1 hown1 hgr1)
 have hb1:Below w.heap.size w w1:=(Below.refl _ _).grown hgr1 (Nat.le_refl _) (fun k h=>by cases h);have HO1:=hid (show Own .u64 145 w1 w.heap.size (.slice (some ⟨w.heap.size,0,none⟩) 0 n) 0 (fun _=>0) from hown1);clear hown1 hgr1;go_loopw [5,6,15] (fun v c t wr=>∃(k:Nat) (cc:Int) (D:Nat→Int),k≤n∧t=.int .i64 k∧c=.int .u64 cc∧0≤cc∧cc≤1∧Below w.heap.size w wr∧Hid (Own .u64 145 wr w.heap.size v k D)∧Hid (Dg D k)∧Hid (vd D k-cc*pd k=vd f k-vd (ext h m) k)) (fun _ _ t _=>n-(intOf t).toNat)
 case atStart=>exact ⟨0,0,fun _=>0,by omega,rfl,rfl,by omega,by omega,hb1,HO1.out,fun j hj=>by omega,by simp [Hid,vd,pd]⟩
 case round =>
  clear hb1 HO1;obtain ⟨k,cc,D,hk,rfl,rfl,c0,c1,hbel,HO,HDg,HV⟩:=hrel;by_cases hlt:k<n
  ·have hrA:=RA.out;obtain ⟨b,o,rfl⟩:=hrA.at (by omega);obtain ⟨x,hx⟩:∃x,f k=x:=⟨_,rfl⟩;have hcell:wr.cell? ⟨b,o+k,none⟩=some (.int .u64 x):=by rw [←hx];exact (hrA.below hbel (Nat.le_refl _)).cell hlt
   obtain ⟨x0,x1⟩:=DA.out k hlt;rw [hx] at x0 x1;have HX:=hid hx;clear hx hrA;by_cases hlt2:k<m
   ·have hrB:=RB.out;obtain ⟨b',o',rfl⟩:=hrB.at (by omega);obtain ⟨y,hy⟩:∃y,h k=y:=⟨_,rfl⟩;have hcelb:wr.cell? ⟨b',o'+k,none⟩=some (.int .u64 y):=by rw [←hy];exact (hrB.below hbel (Nat.le_refl _)).cell hlt2
    obtain ⟨y0,y1⟩:=DB.out k hlt2;rw [hy] at y0 y1;have HY:=hid (show ext h m k=y from (ext_in _ _ _ hlt2).trans hy);clear hy hrB;by_cases hxy:x<cc+y
    ·go_wp2_with (at_builtin;refine wpList_append_own_list .u64 _ rfl (.tmp 36) (.tmp 40) 22 rfl w.heap.size 145 8 Tryz.underlying22 Tryz.infoU64 _ k D rfl (Own.alloc HO.out _) wr.heap.size 0 1 1 (fun _=>x+4294967296-(cc+y)) rfl (rd_new1 wr _ _) ?c1 ?c2 ?c3 ?_)
     case c1=>unfold maxLen;omega
     case c2=>omega
     case c3=>have:=hbel.size;simp;omega
     intro v' w' hown hgr;have hbel2:Below w.heap.size w w':=(hbel.alloc hbel.size _).grown hgr (by have:=hbel.size;simp;omega) (fun k h=>(Own.ge HO.out k h));have HO2:=hid hown;clear hown hgr HO;go_wp2;go_roundw
     case rel=>exact ⟨k+1,1,_,by omega,by go_num,rfl,by omega,by omega,hbel2,HO2.out,dg_cat1 HDg.out (by omega),dborrow_step HV.out HX.out HY.out (by omega)⟩
     case measure=>simp [intOf];omega
    ·go_wp2_with (at_builtin;refine wpList_append_own_list .u64 _ rfl (.tmp 36) (.tmp 40) 22 rfl w.heap.size 145 8 Tryz.underlying22 Tryz.infoU64 _ k D rfl (Own.alloc HO.out _) wr.heap.size 0 1 1 (fun _=>x-(cc+y)) rfl (rd_new1 wr _ _) ?c1 ?c2 ?c3 ?_)
     case c1=>unfold maxLen;omega
     case c2=>omega
     case c3=>have:=hbel.size;simp;omega
     intro v' w' hown hgr;have hbel2:Below w.heap.size w w':=(hbel.alloc hbel.size _).grown hgr (by have:=hbel.size;simp;omega) (fun k h=>(Own.ge HO.out k h));have HO2:=hid hown;clear hown hgr HO;go_wp2;go_roundw
     case rel=>exact ⟨k+1,0,_,by omega,by go_num,rfl,by omega,by omega,hbel2,HO2.out,dg_cat1 HDg.out (by omega),dborrow_step HV.out HX.out HY.out (by omega)⟩
     case measure=>simp [intOf];omega
   ·have HY:=hid (show ext h m k=0 from ext_out _ _ _ (by omega));by_cases hxy:x<cc
    ·go_wp2_with (at_builtin;refine wpList_append_own_list .u64 _ rfl (.tmp 36) (.tmp 40) 22 rfl w.heap.size 145 8 Tryz.underlying22 Tryz.infoU64 _ k D rfl (Own.alloc HO.out _) wr.heap.size 0 1 1 (fun _=>x+4294967296-cc) rfl (rd_new1 wr _ _) ?c1 ?c2 ?c3 ?_)
     case c1=>unfold maxLen;omega
     case c2=>omega
     case c3=>have:=hbel.size;simp;omega
     intro v' w' hown hgr;have hbel2:Below w.heap.size w w':=(hbel.alloc hbel.size _).grown hgr (by have:=hbel.size;simp;omega) (fun k h=>(Own.ge HO.out k h));have HO2:=hid hown;clear hown hgr HO;go_wp2;go_roundw
     case rel=>exact ⟨k+1,1,_,by omega,by go_num,rfl,by omega,by omega,hbel2,HO2.out,dg_cat1 HDg.out (by omega),dborrow_step HV.out HX.out HY.out (by omega)⟩
     case measure=>simp [intOf];omega
    ·go_wp2_with (at_builtin;refine wpList_append_own_list .u64 _ rfl (.tmp 36) (.tmp 40) 22 rfl w.heap.size 145 8 Tryz.underlying22 Tryz.infoU64 _ k D rfl (Own.alloc HO.out _) wr.heap.size 0 1 1 (fun _=>x-cc) rfl (rd_new1 wr _ _) ?c1 ?c2 ?c3 ?_)
     case c1=>unfold maxLen;omega
     case c2=>omega
     case c3=>have:=hbel.size;simp;omega
     intro v' w' hown hgr;have hbel2:Below w.heap.size w w':=(hbel.alloc hbel.size _).grown hgr (by have:=hbel.size;simp;omega) (fun k h=>(Own.ge HO.out k h));have HO2:=hid hown;clear hown hgr HO;go_wp2;go_roundw
     case rel=>exact ⟨k+1,0,_,by omega,by go_num,rfl,by omega,by omega,hbel2,HO2.out,dg_cat1 HDg.out (by omega),dborrow_step HV.out HX.out HY.out (by omega)⟩
     case measure=>simp [intOf];omega
  ·have hkn:k=n:=by omega
   subst hkn;obtain ⟨ao',cap',hv,hcc,hnn,hml,hrd,hlt3⟩:=HO.out.shape;unfold maxLen at hml;subst hv;have HLT:=hid hlt3;clear HO hlt3;go_wp2_with fail
   refine (low_c ao' k cap' D wr hcc hml hrd hnn).mono ?_;rintro e w2 ⟨rfl,m',hm1,hz,hfm,rfl⟩;have HZ:=hid hz;have HFM:=hid hfm;clear hz hfm;go_wp2;go_ret;refine ⟨ao',m',cap',_,rfl,hbel,hrd.take hm1,by omega,HDg.out.mono hm1,HFM.out,fun a ha=>(HLT.out a ha).1,?_⟩;have hv:=HV.out;have h1:=vd_lt HDg.out;have h2:=HLe.out;rw [vd_ext_list _ _ _ hmn] at hv;rw [trim_vald hm1 HZ.out];by_cases hc:cc=0
   ·subst hc;simpa using hv
   ·obtain rfl:cc=1:=by omega
    omega
theorem rsub_c (ao bo:Option Addr) (n m ca cb:Nat) (f h:Nat→Int) (w:World) (hn:n≤1048576) (hm:m≤1048576) (hmn:m≤n) (hr:Rd .u64 w ao n f) (hs:Rd .u64 w bo m h) (hf:Dg f n) (hh:Dg h m) (hle:vd h m≤vd f n) :
  Calls Tryz.prog 146 #[.slice ao n ca,.slice bo m cb] w fun e w'=>∃ao' k cap' D,e=.returned (.slice ao' k cap')∧Below w.heap.size w w'∧Rd .u64 w' ao' k D∧k≤n∧Dg D k∧Fm D k∧vd D k=vd f n-vd h m :=
 (rsubO_c ao bo n m ca cb f h w hn hm hmn hr hs hf hh hle).mono (fun _ _ ⟨a,k,c,D,h1,h2,h3,h4,h5,h6,_,h7⟩=>⟨a,k,c,D,h1,h2,h3,h4,h5,h6,h7⟩)
end Go.Proofs.YtdbbncamlaiajaaGreat
namespace Go.Proofs
open Go.Shelf
def Tryz.lays134_ren:Go.Shelf.Ren:=⟨fun | 134=>191 | 129=>204 | n=>n,fun | 53=>145 | 3=>3 | 4=>4 | 46=>176 | 5=>5 | 9=>9 | n=>n,fun | n=>n⟩
theorem Tryz.lays134:Go.Proofs.Lays.n134 Tryz.prog Tryz.lays134_ren:={
 mixed:=by kernel_rfl
 f129:=Tryz.func204.trans (congrArg some (by kernel_rfl))
 f134:=Tryz.func191.trans (congrArg some (by kernel_rfl))
 t3:=Tryz.underlying3
 a3:=Tryz.isAgg3
 z3:=Tryz.sizeOf3
 v3:=Tryz.zeroValue3
 t4:=Tryz.underlying4
 a4:=Tryz.isAgg4
 z4:=Tryz.sizeOf4
 v4:=Tryz.zeroValue4
 t5:=Tryz.underlying5
 a5:=Tryz.isAgg5
 z5:=Tryz.sizeOf5
 v5:=Tryz.zeroValue5
 t9:=Tryz.underlying9
 a9:=Tryz.isAgg9
 z9:=Tryz.sizeOf9
 v9:=Tryz.zeroValue9
 t46:=Tryz.underlying176
 a46:=Tryz.isAgg176
 z46:=Tryz.sizeOf176
 v46:=Tryz.zeroValue176
 t53:=Tryz.underlying145
 a53:=Tryz.isAgg145
 z53:=Tryz.sizeOf145
 v53:=Tryz.zeroValue145 }
theorem Tryz.bits_LeadingZeros64 (x:Int) (w:World) (h0:0≤x) (h1:x≤18446744073709551615) :
  Calls Tryz.prog 191 #[.int .u64 x] w fun e w'=>e=.returned (.int .i64 (64-(Lib.bitLen x.toNat:Int)))∧w'=w:=Any.bits_LeadingZeros64 Tryz.lays134 x w h0 h1
def Tryz.lays264_ren:Go.Shelf.Ren:=⟨fun | 264=>211 | n=>n,fun | 53=>145 | 46=>176 | n=>n,fun | n=>n⟩
theorem Tryz.lays264:Go.Proofs.Lays.n264 Tryz.prog Tryz.lays264_ren:={
 mixed:=by kernel_rfl
 f264:=Tryz.func211.trans (congrArg some (by kernel_rfl))
 t46:=Tryz.underlying176
 a46:=Tryz.isAgg176
 z46:=Tryz.sizeOf176
 v46:=Tryz.zeroValue176
 t53:=Tryz.underlying145
 a53:=Tryz.isAgg145
 z53:=Tryz.sizeOf145
 v53:=Tryz.zeroValue145 }
open Go.RowKit Go.Lib in
theorem Tryz.bits_Mul64 (x y:Nat) (hx:x<18446744073709551616) (hy:y<18446744073709551616) (w:World) :
  Calls Tryz.prog 211 #[.int .u64 x,.int .u64 y] w fun e w'=>e=.returned (.tuple #[.int .u64 ((x*y/18446744073709551616:Nat):Int),.int .u64 ((x*y%18446744073709551616:Nat):Int)])∧w'=w:=Any.bits_Mul64 Tryz.lays264 x y hx hy w
end Go.Proofs
namespace Go.Proofs.YtdbbncamlaiajaaGreat
open Go.RowKit
structure Gs (U u1 Y y1 y0 q r:Int):Prop where
 q0:0≤q
 r0:0≤r
 eq:U=q*y1+r
 up:U*4294967296+u1<(q+1)*Y
theorem gs_start {U u1 Y y1 y0:Int} (hU0:0≤U) (hY:Y=y1*4294967296+y0) (h1:0<y1) (h0:0≤y0) (k1:u1<4294967296):Gs U u1 Y y1 y0 (U/y1) (U-U/y1*y1):=by
 have a:=Int.emod_nonneg U (Int.ne_of_gt h1);have b:=Int.emod_lt_of_pos U h1;have c:=Int.mul_ediv_add_emod U y1;have d:U/y1*y1=y1*(U/y1):=Int.mul_comm _ _;have e:0≤U/y1:=Int.ediv_nonneg hU0 (Int.le_of_lt h1);have f:0≤(U/y1+1)*y0:=Int.mul_nonneg (by omega) h0;have g:(U/y1+1)*Y=y1*(U/y1)*4294967296+y1*4294967296+(U/y1+1)*y0:=by rw [hY];grind
 refine ⟨e,by omega,by omega,?_⟩;rw [g];omega
theorem gs_q {U u1 Y y1 y0 q r:Int} (h:Gs U u1 Y y1 y0 q r) (hU:U<Y) (hY:Y=y1*4294967296+y0) (h1:2147483648≤y1) (h2:y0<4294967296):q≤4294967297:=by
 apply Int.le_of_lt_add_one;have:=h.eq;have:=h.r0
 have h3:q*y1<(4294967297+1)*y1:=by omega
 exact Int.lt_of_mul_lt_mul_right h3 (by omega)
theorem gs_pos {U u1 Y q:Int} (hT:0≤U*4294967296+u1) (hc:U*4294967296+u1<q*Y) (hY:0<Y):0<q:=by
 apply Int.lt_of_not_ge;intro h;have:q*Y≤0*Y:=Int.mul_le_mul_of_nonneg_right h (Int.le_of_lt hY);omega
theorem gs_big {U u1 Y q:Int} (hU:U<Y) (k1:u1<4294967296) (hY:0<Y) (hq:4294967296≤q):U*4294967296+u1<q*Y:=by
 have:4294967296*Y≤q*Y:=Int.mul_le_mul_of_nonneg_right hq (Int.le_of_lt hY);omega
theorem gs_mul {U u1 Y y1 y0 q r:Int} (h:Gs U u1 Y y1 y0 q r) (hY:Y=y1*4294967296+y0):q*Y=(U-r)*4294967296+q*y0:=by
 have:=h.eq;rw [hY,Int.mul_add,←Int.mul_assoc];have:q*y1=U-r:=by omega
 rw [this]
theorem gs_step {U u1 Y y1 y0 q r:Int} (h:Gs U u1 Y y1 y0 q r) (hc:U*4294967296+u1<q*Y) (hq:0<q) (h1:0≤y1):Gs U u1 Y y1 y0 (q-1) (r+y1):=by
 have:=h.eq;have:=h.r0
 refine ⟨by omega,by omega,?_,?_⟩
 ·rw [Int.sub_mul];omega
 ·have e:q-1+1=q:=by omega
  rw [e];exact hc
theorem gs_low {U u1 Y y1 y0 q r:Int} (h:Gs U u1 Y y1 y0 q r) (hY:Y=y1*4294967296+y0) (hc:q*y0≤4294967296*r+u1):q*Y≤U*4294967296+u1:=by
 rw [gs_mul h hY];omega
theorem gs_brk {U u1 Y y1 y0 q r:Int} (h:Gs U u1 Y y1 y0 q r) (hY:Y=y1*4294967296+y0) (hq:q≤4294967296) (hr:4294967296≤r) (h0:0≤y0) (h1:y0<4294967296) (k0:0≤u1):q*Y≤U*4294967296+u1:=by
 refine gs_low h hY ?_;have:q*y0≤4294967296*y0:=Int.mul_le_mul_of_nonneg_right hq h0;omega
theorem gs_rest (U u1 Y t:Int) (h1:t*Y≤U*4294967296+u1) (h2:U*4294967296+u1<(t+1)*Y) (hY:Y≤18446744073709551616) :
  IntKind.u64.wrap (IntKind.u64.wrap (IntKind.u64.wrap (U*4294967296)+u1)-IntKind.u64.wrap (t*Y))=U*4294967296+u1-t*Y∧0≤U*4294967296+u1-t*Y∧U*4294967296+u1-t*Y<Y:=by
 rw [Int.add_mul,Int.one_mul] at h2;refine ⟨?_,by omega,by omega⟩;simp only [IntKind.wrap_u64];generalize t*Y=X at *;omega
theorem gs_t {U u1 Y t:Int} (h1:t*Y≤U*4294967296+u1) (hU:U<Y) (k1:u1<4294967296) (hY:0<Y):t<4294967296:=by
 have:t*Y<4294967296*Y:=by omega
 exact Int.lt_of_mul_lt_mul_right this (Int.le_of_lt hY)
set_option maxRecDepth 100000 in
set_option maxHeartbeats 4000000 in
theorem div64_core (hi lo y s Y y1 y0 U L u1 u0:Int) (w:World) (h0:0<hi) (h1:hi<y) (_hy:y<18446744073709551616) (_l0:0≤lo) (_l1:lo<18446744073709551616) (s0:0≤s) (s1:s≤63)
  (hs:Calls Tryz.prog 191 #[.int .u64 y] w fun e w'=>e=.returned (.int .i64 s)∧w'=w)
  (hY:IntKind.u64.wrap (y*2^s.toNat)=Y) (hY1:Y/4294967296=y1) (hY0:bits BinOp.and .u64 Y 4294967295=y0)
  (hU:bits BinOp.or .u64 (IntKind.u64.wrap (hi*2^s.toNat)) (lo/2^(64-s).toNat)=U) (hL:IntKind.u64.wrap (lo*2^s.toNat)=L) (hL1:L/4294967296=u1) (hL0:bits BinOp.and .u64 L 4294967295=u0)
  (y1a:2147483648≤y1) (y1b:y1<4294967296) (y0a:0≤y0) (y0b:y0<4294967296) (u1a:0≤u1) (u1b:u1<4294967296) (u0a:0≤u0) (u0b:u0<4294967296) (Ua:0≤U) (Ub:U<y1*4294967296+y0) (hYY:Hid (Y=y1*4294967296+y0)) :
  Calls Tryz.prog 181 #[.int .u64 hi,.int .u64 lo,.int .u64 y] w fun e w'=>w'=w∧∃q1 q0 R,e=.returned (.tuple #[.int .u64 (q1*4294967296+q0),.int .u64 (R/2^s.toNat)])∧0≤R∧R<Y∧0≤q1∧q1<4294967296∧0≤q0∧q0<4294967296∧(U*4294967296+u1)*4294967296+u0=(q1*4294967296+q0)*Y+R:=by
 have HS:=hid hs;clear hs;obtain ⟨q,hq⟩:∃q,U/y1=q:=⟨_,rfl⟩;obtain ⟨p,hp⟩:∃p,q*y1=p:=⟨_,rfl⟩;have g:=gs_start Ua hYY.out (by omega) y0a u1b;rw [hq,hp] at g;have hq0:=g.q0;have hr0:=g.r0;have hqb:=gs_q g (by rw [hYY.out];exact Ub) hYY.out y1a y0b;have hr1:U-p<y1:=by
  have:=Int.emod_lt_of_pos U (show 0<y1 by omega);have:=Int.mul_ediv_add_emod U y1
  rw [hq,Int.mul_comm,hp] at this;omega
 have hpa:0≤p:=by rw [←hp];exact Int.mul_nonneg hq0 (by omega)
 have G:=hid g;clear g;have hyh:decide (y≤hi)=false:=by simp;omega
 have YP:Hid (0<Y):=by show _<_;rw [hYY.out];omega
 have hr2:U-p<4294967296:=by omega
 go_enter Tryz.func181,Tryz.ntmps181;go_wp2_with fail
 refine HS.out.mono ?_;rintro e w1 ⟨rfl,rfl⟩;go_wp2
 go_loop [15,16] (fun c d=>∃q r:Int,c=.int .u64 q∧d=.int .u64 r∧0≤q∧q≤4294967297∧0≤r∧r<4294967296∧Hid (Gs U u1 Y y1 y0 q r)) (fun c _=>(intOf c).toNat)
 case atStart=>exact ⟨U/y1,U-p,rfl,rfl,by rw [hq];exact hq0,by rw [hq];exact hqb,hr0,hr2,by rw [hq];exact G.out⟩
 case round =>
  clear G hr0 hr1 hr2 hpa hqb hq0 hp hq;obtain ⟨q,r,rfl,rfl,q0a,q0b,r0a,r0b,G⟩:=hrel;by_cases hbig:4294967296≤q
  ·have hc:=gs_big (q:=q) (by rw [hYY.out];exact Ub) u1b YP.out hbig;have G1:=hid (gs_step G.out hc (by omega) (by omega));clear hc;by_cases hbr1:4294967296≤r+y1
   ·obtain ⟨t,rfl⟩:∃t,q=t+1:=⟨q-1,by omega⟩;rw [show t+1-1=t by omega] at G1;have L1:=hid (gs_brk G1.out hYY.out (by omega) hbr1 y0a y0b u1a);obtain ⟨V,hV,hVa,hVb,HVd⟩:∃V,IntKind.u64.wrap (IntKind.u64.wrap (IntKind.u64.wrap (U*4294967296)+u1)-IntKind.u64.wrap (t*Y))=V∧0≤V∧V<Y∧Hid (V=U*4294967296+u1-t*Y):=⟨_,(gs_rest U u1 Y (t) L1.out G1.out.up (by rw [hYY.out];omega)).1,(gs_rest U u1 Y (t) L1.out G1.out.up (by rw [hYY.out];omega)).2.1,(gs_rest U u1 Y (t) L1.out G1.out.up (by rw [hYY.out];omega)).2.2,rfl⟩;have ht1:t<4294967296:=gs_t L1.out (by rw [hYY.out];exact Ub) u1b YP.out;have HVb:=hid hVb;rw [hYY.out] at hVb;obtain ⟨k,hk⟩:∃k,V/y1=k:=⟨_,rfl⟩;obtain ⟨p2,hp2⟩:∃p2,k*y1=p2:=⟨_,rfl⟩;have g:=gs_start hVa hYY.out (by omega) y0a u0b;rw [hk,hp2] at g;have hk0:=g.q0;have hr0:=g.r0;have hkb:=gs_q g HVb.out hYY.out y1a y0b;have hr1:V-p2<y1:=by
     have:=Int.emod_lt_of_pos V (show 0<y1 by omega);have:=Int.mul_ediv_add_emod V y1
     rw [hk,Int.mul_comm,hp2] at this;omega
    have hp2a:0≤p2:=by rw [←hp2];exact Int.mul_nonneg hk0 (by omega)
    have hr2:V-p2<4294967296:=by omega
    have GG:=hid g;clear g L1 G1;go_wp2
    go_loop [16,18] (fun d c=>∃q r:Int,c=.int .u64 q∧d=.int .u64 r∧0≤q∧q≤4294967297∧0≤r∧r<4294967296∧Hid (Gs V u0 Y y1 y0 q r)) (fun _ c=>(intOf c).toNat)
    case atStart=>exact ⟨k,V-p2,rfl,rfl,hk0,hkb,hr0,hr2,GG.out⟩
    case round =>
     clear GG hr0 hr1 hr2 hp2a hkb hk0 hp2 hk;obtain ⟨m,r2,rfl,rfl,m0a,m0b,r20a,r20b,G0⟩:=hrel;by_cases hbig2:4294967296≤m
     ·have hc:=gs_big (q:=m) HVb.out u0b YP.out hbig2;have G2:=hid (gs_step G0.out hc (by omega) (by omega));clear hc;by_cases hbr:4294967296≤r2+y1
      ·obtain ⟨t2,rfl⟩:∃t2,m=t2+1:=⟨m-1,by omega⟩;rw [show t2+1-1=t2 by omega] at G2;have L2:=hid (gs_brk G2.out hYY.out (by omega) hbr y0a y0b u0a);obtain ⟨R,hR,hRa,hRb,HRd⟩:∃R,IntKind.u64.wrap (IntKind.u64.wrap (IntKind.u64.wrap (V*4294967296)+u0)-IntKind.u64.wrap (t2*Y))=R∧0≤R∧R<Y∧Hid (R=V*4294967296+u0-t2*Y):=⟨_,(gs_rest V u0 Y (t2) L2.out G2.out.up (by rw [hYY.out];omega)).1,(gs_rest V u0 Y (t2) L2.out G2.out.up (by rw [hYY.out];omega)).2.1,(gs_rest V u0 Y (t2) L2.out G2.out.up (by rw [hYY.out];omega)).2.2,rfl⟩;have ht0:t2<4294967296:=gs_t L2.out (by have:=HVb.out;exact this) u0b YP.out;have RA:=hid (show 0≤R∧R<Y from ⟨hRa,hRb⟩);clear hRa hRb L2 G2;go_wp2
       go_ret2
       refine ⟨rfl,t,t2,R,rfl,RA.out.1,RA.out.2,by omega,by omega,by omega,by omega,?_⟩;have e1:=HVd.out;have e0:=HRd.out;rw [e0,e1];generalize Y=Yg
       grind
      ·go_wp2
       go_round
       case rel=>exact ⟨m-1,r2+y1,rfl,rfl,by omega,by omega,by omega,by omega,G2.out⟩
       case measure=>simp [intOf];omega
     ·obtain ⟨p3,hp3⟩:∃p3,m*y0=p3:=⟨_,rfl⟩;have hp3a:0≤p3:=by rw [←hp3];exact Int.mul_nonneg m0a y0a
      have hp3b:p3<18446744073709551616:=by
       rw [←hp3];have:=Int.mul_le_mul (show m≤4294967295 by omega) (show y0≤4294967295 by omega) y0a (by omega);omega
      by_cases hcd2:4294967296*r2+u0<p3
      ·have hc:V*4294967296+u0<m*Y:=by rw [gs_mul G0.out hYY.out,hp3];omega
       have hqp:=gs_pos (by omega) hc YP.out;have G2:=hid (gs_step G0.out hc hqp (by omega));clear hc;by_cases hbr:4294967296≤r2+y1
       ·obtain ⟨t2,rfl⟩:∃t2,m=t2+1:=⟨m-1,by omega⟩;rw [show t2+1-1=t2 by omega] at G2;have L2:=hid (gs_brk G2.out hYY.out (by omega) hbr y0a y0b u0a);obtain ⟨R,hR,hRa,hRb,HRd⟩:∃R,IntKind.u64.wrap (IntKind.u64.wrap (IntKind.u64.wrap (V*4294967296)+u0)-IntKind.u64.wrap (t2*Y))=R∧0≤R∧R<Y∧Hid (R=V*4294967296+u0-t2*Y):=⟨_,(gs_rest V u0 Y (t2) L2.out G2.out.up (by rw [hYY.out];omega)).1,(gs_rest V u0 Y (t2) L2.out G2.out.up (by rw [hYY.out];omega)).2.1,(gs_rest V u0 Y (t2) L2.out G2.out.up (by rw [hYY.out];omega)).2.2,rfl⟩;have ht0:t2<4294967296:=gs_t L2.out (by have:=HVb.out;exact this) u0b YP.out;have RA:=hid (show 0≤R∧R<Y from ⟨hRa,hRb⟩);clear hRa hRb L2 G2;go_wp2
        go_ret2
        refine ⟨rfl,t,t2,R,rfl,RA.out.1,RA.out.2,by omega,by omega,by omega,by omega,?_⟩;have e1:=HVd.out;have e0:=HRd.out;rw [e0,e1];generalize Y=Yg
        grind
       ·go_wp2
        go_round
        case rel=>exact ⟨m-1,r2+y1,rfl,rfl,by omega,by omega,by omega,by omega,G2.out⟩
        case measure=>simp [intOf];omega
      ·have L2:=hid (gs_low G0.out hYY.out (by rw [hp3];omega));have G2:=G0;obtain ⟨R,hR,hRa,hRb,HRd⟩:∃R,IntKind.u64.wrap (IntKind.u64.wrap (IntKind.u64.wrap (V*4294967296)+u0)-IntKind.u64.wrap (m*Y))=R∧0≤R∧R<Y∧Hid (R=V*4294967296+u0-m*Y):=⟨_,(gs_rest V u0 Y (m) L2.out G2.out.up (by rw [hYY.out];omega)).1,(gs_rest V u0 Y (m) L2.out G2.out.up (by rw [hYY.out];omega)).2.1,(gs_rest V u0 Y (m) L2.out G2.out.up (by rw [hYY.out];omega)).2.2,rfl⟩;have ht0:m<4294967296:=gs_t L2.out (by have:=HVb.out;exact this) u0b YP.out;have RA:=hid (show 0≤R∧R<Y from ⟨hRa,hRb⟩);clear hRa hRb L2 G2;go_wp2
       go_ret2
       refine ⟨rfl,t,m,R,rfl,RA.out.1,RA.out.2,by omega,by omega,by omega,by omega,?_⟩;have e1:=HVd.out;have e0:=HRd.out;rw [e0,e1];generalize Y=Yg
       grind
   ·go_wp2
    go_round
    case rel=>exact ⟨q-1,r+y1,rfl,rfl,by omega,by omega,by omega,by omega,G1.out⟩
    case measure=>simp [intOf];omega
  ·obtain ⟨p,hp⟩:∃p,q*y0=p:=⟨_,rfl⟩;have hpa:0≤p:=by rw [←hp];exact Int.mul_nonneg q0a y0a
   have hpb:p<18446744073709551616:=by
    rw [←hp];have:=Int.mul_le_mul (show q≤4294967295 by omega) (show y0≤4294967295 by omega) y0a (by omega);omega
   by_cases hcd:4294967296*r+u1<p
   ·have hc:U*4294967296+u1<q*Y:=by rw [gs_mul G.out hYY.out,hp];omega
    have hqp:=gs_pos (by omega) hc YP.out;have G1:=hid (gs_step G.out hc hqp (by omega));clear hc;by_cases hbr1:4294967296≤r+y1
    ·obtain ⟨t,rfl⟩:∃t,q=t+1:=⟨q-1,by omega⟩;rw [show t+1-1=t by omega] at G1;have L1:=hid (gs_brk G1.out hYY.out (by omega) hbr1 y0a y0b u1a);obtain ⟨V,hV,hVa,hVb,HVd⟩:∃V,IntKind.u64.wrap (IntKind.u64.wrap (IntKind.u64.wrap (U*4294967296)+u1)-IntKind.u64.wrap (t*Y))=V∧0≤V∧V<Y∧Hid (V=U*4294967296+u1-t*Y):=⟨_,(gs_rest U u1 Y (t) L1.out G1.out.up (by rw [hYY.out];omega)).1,(gs_rest U u1 Y (t) L1.out G1.out.up (by rw [hYY.out];omega)).2.1,(gs_rest U u1 Y (t) L1.out G1.out.up (by rw [hYY.out];omega)).2.2,rfl⟩;have ht1:t<4294967296:=gs_t L1.out (by rw [hYY.out];exact Ub) u1b YP.out;have HVb:=hid hVb;rw [hYY.out] at hVb;obtain ⟨k,hk⟩:∃k,V/y1=k:=⟨_,rfl⟩;obtain ⟨p2,hp2⟩:∃p2,k*y1=p2:=⟨_,rfl⟩;have g:=gs_start hVa hYY.out (by omega) y0a u0b;rw [hk,hp2] at g;have hk0:=g.q0;have hr0:=g.r0;have hkb:=gs_q g HVb.out hYY.out y1a y0b;have hr1:V-p2<y1:=by
      have:=Int.emod_lt_of_pos V (show 0<y1 by omega);have:=Int.mul_ediv_add_emod V y1
      rw [hk,Int.mul_comm,hp2] at this;omega
     have hp2a:0≤p2:=by rw [←hp2];exact Int.mul_nonneg hk0 (by omega)
     have hr2:V-p2<4294967296:=by omega
     have GG:=hid g;clear g L1 G1;go_wp2
     go_loop [16,18] (fun d c=>∃q r:Int,c=.int .u64 q∧d=.int .u64 r∧0≤q∧q≤4294967297∧0≤r∧r<4294967296∧Hid (Gs V u0 Y y1 y0 q r)) (fun _ c=>(intOf c).toNat)
     case atStart=>exact ⟨k,V-p2,rfl,rfl,hk0,hkb,hr0,hr2,GG.out⟩
     case round =>
      clear GG hr0 hr1 hr2 hp2a hkb hk0 hp2 hk;obtain ⟨m,r2,rfl,rfl,m0a,m0b,r20a,r20b,G0⟩:=hrel;by_cases hbig2:4294967296≤m
      ·have hc:=gs_big (q:=m) HVb.out u0b YP.out hbig2;have G2:=hid (gs_step G0.out hc (by omega) (by omega));clear hc;by_cases hbr:4294967296≤r2+y1
       ·obtain ⟨t2,rfl⟩:∃t2,m=t2+1:=⟨m-1,by omega⟩;rw [show t2+1-1=t2 by omega] at G2;have L2:=hid (gs_brk G2.out hYY.out (by omega) hbr y0a y0b u0a);obtain ⟨R,hR,hRa,hRb,HRd⟩:∃R,IntKind.u64.wrap (IntKind.u64.wrap (IntKind.u64.wrap (V*4294967296)+u0)-IntKind.u64.wrap (t2*Y))=R∧0≤R∧R<Y∧Hid (R=V*4294967296+u0-t2*Y):=⟨_,(gs_rest V u0 Y (t2) L2.out G2.out.up (by rw [hYY.out];omega)).1,(gs_rest V u0 Y (t2) L2.out G2.out.up (by rw [hYY.out];omega)).2.1,(gs_rest V u0 Y (t2) L2.out G2.out.up (by rw [hYY.out];omega)).2.2,rfl⟩;have ht0:t2<4294967296:=gs_t L2.out (by have:=HVb.out;exact this) u0b YP.out;have RA:=hid (show 0≤R∧R<Y from ⟨hRa,hRb⟩);clear hRa hRb L2 G2;go_wp2
        go_ret2
        refine ⟨rfl,t,t2,R,rfl,RA.out.1,RA.out.2,by omega,by omega,by omega,by omega,?_⟩;have e1:=HVd.out;have e0:=HRd.out;rw [e0,e1];generalize Y=Yg
        grind
       ·go_wp2
        go_round
        case rel=>exact ⟨m-1,r2+y1,rfl,rfl,by omega,by omega,by omega,by omega,G2.out⟩
        case measure=>simp [intOf];omega
      ·obtain ⟨p3,hp3⟩:∃p3,m*y0=p3:=⟨_,rfl⟩;have hp3a:0≤p3:=by rw [←hp3];exact Int.mul_nonneg m0a y0a
       have hp3b:p3<18446744073709551616:=by
        rw [←hp3];have:=Int.mul_le_mul (show m≤4294967295 by omega) (show y0≤4294967295 by omega) y0a (by omega);omega
       by_cases hcd2:4294967296*r2+u0<p3
       ·have hc:V*4294967296+u0<m*Y:=by rw [gs_mul G0.out hYY.out,hp3];omega
        have hqp:=gs_pos (by omega) hc YP.out;have G2:=hid (gs_step G0.out hc hqp (by omega));clear hc;by_cases hbr:4294967296≤r2+y1
        ·obtain ⟨t2,rfl⟩:∃t2,m=t2+1:=⟨m-1,by omega⟩;rw [show t2+1-1=t2 by omega] at G2;have L2:=hid (gs_brk G2.out hYY.out (by omega) hbr y0a y0b u0a);obtain ⟨R,hR,hRa,hRb,HRd⟩:∃R,IntKind.u64.wrap (IntKind.u64.wrap (IntKind.u64.wrap (V*4294967296)+u0)-IntKind.u64.wrap (t2*Y))=R∧0≤R∧R<Y∧Hid (R=V*4294967296+u0-t2*Y):=⟨_,(gs_rest V u0 Y (t2) L2.out G2.out.up (by rw [hYY.out];omega)).1,(gs_rest V u0 Y (t2) L2.out G2.out.up (by rw [hYY.out];omega)).2.1,(gs_rest V u0 Y (t2) L2.out G2.out.up (by rw [hYY.out];omega)).2.2,rfl⟩;have ht0:t2<4294967296:=gs_t L2.out (by have:=HVb.out;exact this) u0b YP.out;have RA:=hid (show 0≤R∧R<Y from ⟨hRa,hRb⟩);clear hRa hRb L2 G2;go_wp2
         go_ret2
         refine ⟨rfl,t,t2,R,rfl,RA.out.1,RA.out.2,by omega,by omega,by omega,by omega,?_⟩;have e1:=HVd.out;have e0:=HRd.out;rw [e0,e1];generalize Y=Yg
         grind
        ·go_wp2
         go_round
         case rel=>exact ⟨m-1,r2+y1,rfl,rfl,by omega,by omega,by omega,by omega,G2.out⟩
         case measure=>simp [intOf];omega
       ·have L2:=hid (gs_low G0.out hYY.out (by rw [hp3];omega));have G2:=G0;obtain ⟨R,hR,hRa,hRb,HRd⟩:∃R,IntKind.u64.wrap (IntKind.u64.wrap (IntKind.u64.wrap (V*4294967296)+u0)-IntKind.u64.wrap (m*Y))=R∧0≤R∧R<Y∧Hid (R=V*4294967296+u0-m*Y):=⟨_,(gs_rest V u0 Y (m) L2.out G2.out.up (by rw [hYY.out];omega)).1,(gs_rest V u0 Y (m) L2.out G2.out.up (by rw [hYY.out];omega)).2.1,(gs_rest V u0 Y (m) L2.out G2.out.up (by rw [hYY.out];omega)).2.2,rfl⟩;have ht0:m<4294967296:=gs_t L2.out (by have:=HVb.out;exact this) u0b YP.out;have RA:=hid (show 0≤R∧R<Y from ⟨hRa,hRb⟩);clear hRa hRb L2 G2;go_wp2
        go_ret2
        refine ⟨rfl,t,m,R,rfl,RA.out.1,RA.out.2,by omega,by omega,by omega,by omega,?_⟩;have e1:=HVd.out;have e0:=HRd.out;rw [e0,e1];generalize Y=Yg
        grind
    ·go_wp2
     go_round
     case rel=>exact ⟨q-1,r+y1,rfl,rfl,by omega,by omega,by omega,by omega,G1.out⟩
     case measure=>simp [intOf];omega
   ·have L1:=hid (gs_low G.out hYY.out (by rw [hp];omega));have G1:=G;obtain ⟨V,hV,hVa,hVb,HVd⟩:∃V,IntKind.u64.wrap (IntKind.u64.wrap (IntKind.u64.wrap (U*4294967296)+u1)-IntKind.u64.wrap (q*Y))=V∧0≤V∧V<Y∧Hid (V=U*4294967296+u1-q*Y):=⟨_,(gs_rest U u1 Y (q) L1.out G1.out.up (by rw [hYY.out];omega)).1,(gs_rest U u1 Y (q) L1.out G1.out.up (by rw [hYY.out];omega)).2.1,(gs_rest U u1 Y (q) L1.out G1.out.up (by rw [hYY.out];omega)).2.2,rfl⟩;have ht1:q<4294967296:=gs_t L1.out (by rw [hYY.out];exact Ub) u1b YP.out;have HVb:=hid hVb;rw [hYY.out] at hVb;obtain ⟨k,hk⟩:∃k,V/y1=k:=⟨_,rfl⟩;obtain ⟨p2,hp2⟩:∃p2,k*y1=p2:=⟨_,rfl⟩;have g:=gs_start hVa hYY.out (by omega) y0a u0b;rw [hk,hp2] at g;have hk0:=g.q0;have hr0:=g.r0;have hkb:=gs_q g HVb.out hYY.out y1a y0b;have hr1:V-p2<y1:=by
     have:=Int.emod_lt_of_pos V (show 0<y1 by omega);have:=Int.mul_ediv_add_emod V y1
     rw [hk,Int.mul_comm,hp2] at this;omega
    have hp2a:0≤p2:=by rw [←hp2];exact Int.mul_nonneg hk0 (by omega)
    have hr2:V-p2<4294967296:=by omega
    have GG:=hid g;clear g L1 G1;go_wp2
    go_loop [16,18] (fun d c=>∃q r:Int,c=.int .u64 q∧d=.int .u64 r∧0≤q∧q≤4294967297∧0≤r∧r<4294967296∧Hid (Gs V u0 Y y1 y0 q r)) (fun _ c=>(intOf c).toNat)
    case atStart=>exact ⟨k,V-p2,rfl,rfl,hk0,hkb,hr0,hr2,GG.out⟩
    case round =>
     clear GG hr0 hr1 hr2 hp2a hkb hk0 hp2 hk;obtain ⟨m,r2,rfl,rfl,m0a,m0b,r20a,r20b,G0⟩:=hrel;by_cases hbig2:4294967296≤m
     ·have hc:=gs_big (q:=m) HVb.out u0b YP.out hbig2;have G2:=hid (gs_step G0.out hc (by omega) (by omega));clear hc;by_cases hbr:4294967296≤r2+y1
      ·obtain ⟨t2,rfl⟩:∃t2,m=t2+1:=⟨m-1,by omega⟩;rw [show t2+1-1=t2 by omega] at G2;have L2:=hid (gs_brk G2.out hYY.out (by omega) hbr y0a y0b u0a);obtain ⟨R,hR,hRa,hRb,HRd⟩:∃R,IntKind.u64.wrap (IntKind.u64.wrap (IntKind.u64.wrap (V*4294967296)+u0)-IntKind.u64.wrap (t2*Y))=R∧0≤R∧R<Y∧Hid (R=V*4294967296+u0-t2*Y):=⟨_,(gs_rest V u0 Y (t2) L2.out G2.out.up (by rw [hYY.out];omega)).1,(gs_rest V u0 Y (t2) L2.out G2.out.up (by rw [hYY.out];omega)).2.1,(gs_rest V u0 Y (t2) L2.out G2.out.up (by rw [hYY.out];omega)).2.2,rfl⟩;have ht0:t2<4294967296:=gs_t L2.out (by have:=HVb.out;exact this) u0b YP.out;have RA:=hid (show 0≤R∧R<Y from ⟨hRa,hRb⟩);clear hRa hRb L2 G2;go_wp2
       go_ret2
       refine ⟨rfl,q,t2,R,rfl,RA.out.1,RA.out.2,by omega,by omega,by omega,by omega,?_⟩;have e1:=HVd.out;have e0:=HRd.out;rw [e0,e1];generalize Y=Yg
       grind
      ·go_wp2
       go_round
       case rel=>exact ⟨m-1,r2+y1,rfl,rfl,by omega,by omega,by omega,by omega,G2.out⟩
       case measure=>simp [intOf];omega
     ·obtain ⟨p3,hp3⟩:∃p3,m*y0=p3:=⟨_,rfl⟩;have hp3a:0≤p3:=by rw [←hp3];exact Int.mul_nonneg m0a y0a
      have hp3b:p3<18446744073709551616:=by
       rw [←hp3];have:=Int.mul_le_mul (show m≤4294967295 by omega) (show y0≤4294967295 by omega) y0a (by omega);omega
      by_cases hcd2:4294967296*r2+u0<p3
      ·have hc:V*4294967296+u0<m*Y:=by rw [gs_mul G0.out hYY.out,hp3];omega
       have hqp:=gs_pos (by omega) hc YP.out;have G2:=hid (gs_step G0.out hc hqp (by omega));clear hc;by_cases hbr:4294967296≤r2+y1
       ·obtain ⟨t2,rfl⟩:∃t2,m=t2+1:=⟨m-1,by omega⟩;rw [show t2+1-1=t2 by omega] at G2;have L2:=hid (gs_brk G2.out hYY.out (by omega) hbr y0a y0b u0a);obtain ⟨R,hR,hRa,hRb,HRd⟩:∃R,IntKind.u64.wrap (IntKind.u64.wrap (IntKind.u64.wrap (V*4294967296)+u0)-IntKind.u64.wrap (t2*Y))=R∧0≤R∧R<Y∧Hid (R=V*4294967296+u0-t2*Y):=⟨_,(gs_rest V u0 Y (t2) L2.out G2.out.up (by rw [hYY.out];omega)).1,(gs_rest V u0 Y (t2) L2.out G2.out.up (by rw [hYY.out];omega)).2.1,(gs_rest V u0 Y (t2) L2.out G2.out.up (by rw [hYY.out];omega)).2.2,rfl⟩;have ht0:t2<4294967296:=gs_t L2.out (by have:=HVb.out;exact this) u0b YP.out;have RA:=hid (show 0≤R∧R<Y from ⟨hRa,hRb⟩);clear hRa hRb L2 G2;go_wp2
        go_ret2
        refine ⟨rfl,q,t2,R,rfl,RA.out.1,RA.out.2,by omega,by omega,by omega,by omega,?_⟩;have e1:=HVd.out;have e0:=HRd.out;rw [e0,e1];generalize Y=Yg
        grind
       ·go_wp2
        go_round
        case rel=>exact ⟨m-1,r2+y1,rfl,rfl,by omega,by omega,by omega,by omega,G2.out⟩
        case measure=>simp [intOf];omega
      ·have L2:=hid (gs_low G0.out hYY.out (by rw [hp3];omega));have G2:=G0;obtain ⟨R,hR,hRa,hRb,HRd⟩:∃R,IntKind.u64.wrap (IntKind.u64.wrap (IntKind.u64.wrap (V*4294967296)+u0)-IntKind.u64.wrap (m*Y))=R∧0≤R∧R<Y∧Hid (R=V*4294967296+u0-m*Y):=⟨_,(gs_rest V u0 Y (m) L2.out G2.out.up (by rw [hYY.out];omega)).1,(gs_rest V u0 Y (m) L2.out G2.out.up (by rw [hYY.out];omega)).2.1,(gs_rest V u0 Y (m) L2.out G2.out.up (by rw [hYY.out];omega)).2.2,rfl⟩;have ht0:m<4294967296:=gs_t L2.out (by have:=HVb.out;exact this) u0b YP.out;have RA:=hid (show 0≤R∧R<Y from ⟨hRa,hRb⟩);clear hRa hRb L2 G2;go_wp2
       go_ret2
       refine ⟨rfl,q,m,R,rfl,RA.out.1,RA.out.2,by omega,by omega,by omega,by omega,?_⟩;have e1:=HVd.out;have e0:=HRd.out;rw [e0,e1];generalize Y=Yg
       grind
theorem wraps_u64 (n:Int) (h0:0≤n) (h1:n<2^64):IntKind.u64.wrap n=n:=by rw [IntKind.wrap_u64];omega
theorem bitLen_bounds : ∀ (b x : Nat), Lib.bitLen x = b → 0 < x → x < 18446744073709551616 → 1 ≤ b ∧ 2 ^ (b - 1) ≤ x ∧ x < 2 ^ b := by
  intro b
  induction b with
  | zero =>
    intro x h h0 h1
    rw [Lib.bitLen_half x (by omega) (by omega)] at h
    omega
  | succ b ih =>
    intro x h h0 h1
    rw [Lib.bitLen_half x (by omega) (by omega)] at h
    by_cases hx : x = 1
    · subst hx
      have : b = 0 := by have h2 : Lib.bitLen (1 / 2) = 0 := by decide +kernel
                         omega
      subst this
      simp
    · obtain ⟨a1, a2, a3⟩ := ih (x / 2) (by omega) (by omega) (by omega)
      obtain ⟨c, rfl⟩ : ∃ c, b = c + 1 := ⟨b - 1, by omega⟩
      simp only [Nat.add_sub_cancel, Nat.pow_succ] at a2 a3 ⊢
      omega
theorem div64_nums (hi lo y:Int) (b:Nat) (h0:0≤hi) (h1:hi<y) (l0:0≤lo) (l1:lo<18446744073709551616) (_b1:1≤b) (_b2:b≤64) (p q:Int) (hp:p=2^(64-b)) (hq:q=2^b) (hpq:p*q=18446744073709551616) (p0:0<p) (q0:0<q) (ya:q≤2*y) (yb:y<q) :
  ∃Y U L:Int,y*p=Y∧9223372036854775808≤Y∧Y<18446744073709551616∧bits BinOp.or .u64 (IntKind.u64.wrap (hi*p)) (lo/q)=U∧0≤U∧U<Y∧IntKind.u64.wrap (lo*p)=L∧0≤L∧L<18446744073709551616∧U*18446744073709551616+L=(hi*18446744073709551616+lo)*p:=by
 have eY:y*p<q*p:=(Int.mul_lt_mul_right p0).2 yb;have eY2:q*p≤2*y*p:=Int.mul_le_mul_of_nonneg_right ya (Int.le_of_lt p0);rw [Int.mul_comm q p,hpq] at eY eY2;have eH:hi*p<y*p:=(Int.mul_lt_mul_right p0).2 h1;have eH0:0≤hi*p:=Int.mul_nonneg h0 (Int.le_of_lt p0);have d0:0≤lo/q:=Int.ediv_nonneg l0 (Int.le_of_lt q0);have d1:lo/q<p:=by
  apply Int.ediv_lt_of_lt_mul q0;rw [hpq];exact l1
 have hw:IntKind.u64.wrap (hi*p)=hi*p:=by rw [IntKind.wrap_u64];omega
 have hor:bits BinOp.or .u64 (IntKind.u64.wrap (hi*p)) (lo/q)=hi*p+lo/q:=by
  rw [hw];refine bits_join .u64 64 (by decide) wraps_u64 (64-b) _ _ eH0 ?_ (by omega) d0 (by rw [←hp];exact d1) ?_
  ·rw [←hp];exact Int.mul_emod_left _ _
  ·have:p≤18446744073709551616:=by rw [←hpq];have:=Int.mul_le_mul_of_nonneg_left (show (1:Int)≤q by omega) (Int.le_of_lt p0);omega
   omega
 have e1:lo*p/18446744073709551616=lo/q:=by
  rw [←hpq,Int.mul_comm lo p];exact Int.mul_ediv_mul_of_pos _ _ p0
 have e2:=Int.mul_ediv_add_emod (lo*p) 18446744073709551616;rw [e1] at e2;have e3:(hi*18446744073709551616+lo)*p=hi*p*18446744073709551616+lo*p:=by rw [Int.add_mul];congr 1;rw [Int.mul_assoc,Int.mul_comm 18446744073709551616 p,←Int.mul_assoc]
 have e4:(hi*p+lo/q)*18446744073709551616+(lo*p)%18446744073709551616=(hi*18446744073709551616+lo)*p:=by rw [e3];omega
 refine ⟨y*p,hi*p+lo/q,(lo*p)%18446744073709551616,rfl,by rw [Int.mul_assoc] at eY2;omega,eY,hor,by omega,?_,IntKind.wrap_u64 _,by omega,by omega,e4⟩;have f1:(hi*18446744073709551616+lo)*p<y*18446744073709551616*p:=(Int.mul_lt_mul_right p0).2 (by omega);have f2:y*18446744073709551616*p=y*p*18446744073709551616:=by rw [Int.mul_assoc,Int.mul_comm 18446744073709551616 p,←Int.mul_assoc]
 omega
theorem qr_unique {X y q r:Int} (h:X=q*y+r) (h0:0≤r) (h1:r<y):X/y=q∧X%y=r:=by
 have hy:0<y:=by omega
 have e1:X/y=q:=by
  rw [h,Int.add_comm,Int.add_mul_ediv_right _ _ (by omega),Int.ediv_eq_zero_of_lt h0 h1];omega
 refine ⟨e1,?_⟩;have:=Int.mul_ediv_add_emod X y;rw [e1,Int.mul_comm] at this;omega
set_option maxHeartbeats 1000000 in
theorem div64_c (hi lo y:Int) (w:World) (h0:0≤hi) (h1:hi<y) (hy:y<18446744073709551616) (l0:0≤lo) (l1:lo<18446744073709551616) :
  Calls Tryz.prog 181 #[.int .u64 hi,.int .u64 lo,.int .u64 y] w fun e w'=>e=.returned (.tuple #[.int .u64 ((hi*18446744073709551616+lo)/y),.int .u64 ((hi*18446744073709551616+lo)%y)])∧∃n,w'=w.drewN n:=by
 by_cases hz:hi=0
 ·subst hz;have e0:0*18446744073709551616+lo=lo:=by omega
  rw [e0];have b0:0≤lo/y:=Int.ediv_nonneg l0 (by omega);have b1:lo/y≤lo:=Int.ediv_le_self y l0;have b2:=Int.emod_nonneg lo (show y≠0 by omega);have b3:=Int.emod_lt_of_pos lo (show 0<y by omega);go_enter Tryz.func181,Tryz.ntmps181;go_wp2
  go_quiet (fail)
  go_wp2
  go_ret2
  exact ⟨rfl,_,rfl⟩
 ·obtain ⟨yn,rfl⟩:=Int.eq_ofNat_of_zero_le (show 0≤y by omega);obtain ⟨b,hb⟩:∃b,Lib.bitLen yn=b:=⟨_,rfl⟩;obtain ⟨b1,b2,b3⟩:=bitLen_bounds b yn hb (by omega) (by omega);have b64:b≤64:=by rw [←hb];exact Lib.bitLen_le yn 64 (by omega) (by omega)
  have hls:=Tryz.bits_LeadingZeros64 (yn:Int) w (by omega) (by omega);rw [Int.toNat_natCast,hb] at hls;have hp64:(2:Int)^(64-b)*2^b=18446744073709551616:=by rw [←Int.pow_add,show 64-b+b=64 by omega];rfl
  have hya:(2:Int)^b≤2*(yn:Int):=by
   have:2^b=2^(b-1)*2:=by rw [←Nat.pow_succ,show (b-1).succ=b by omega]
   have h2:2^b≤2*yn:=by omega
   exact_mod_cast h2
  have hyb:(yn:Int)<2^b:=by exact_mod_cast b3
  obtain ⟨Y,U,L,e1,c1,c2,e2,c3,c4,e3,c5,c6,e4⟩:=div64_nums hi lo yn b h0 h1 l0 l1 b1 b64 (2^(64-b)) (2^b) rfl rfl hp64 (Int.pow_pos (by decide)) (Int.pow_pos (by decide)) hya hyb;have es:(64-(b:Int)).toNat=64-b:=by omega
  have eb:(64-(64-(b:Int))).toNat=b:=by omega
  have hand:∀z:Int,0≤z→z<18446744073709551616→bits BinOp.and .u64 z 4294967295=z%4294967296:=fun z z0 z1=>bits_mask .u64 64 (by decide) wraps_u64 32 (by decide) z z0 z1
  refine (div64_core hi lo yn (64-(b:Int)) Y (Y/4294967296) (Y%4294967296) U L (L/4294967296) (L%4294967296) w (by omega) h1 hy l0 l1 (by omega) (by omega) hls
   (by rw [es,e1,IntKind.wrap_u64];omega) rfl (hand Y (by omega) (by omega)) (by rw [es,eb];exact e2) (by rw [es];exact e3) rfl (hand L c5 c6) (by omega) (by omega) (by omega) (by omega) (by omega) (by omega) (by omega) (by omega) c3 (by omega) (show Y=_ by omega)).mono ?_
  rintro e w' ⟨rfl,q1,q0,R,rfl,r0,r1,_,_,_,_,hfin⟩;refine ⟨?_,0,rfl⟩;rw [es];have f1:(U*4294967296+L/4294967296)*4294967296+L%4294967296=U*18446744073709551616+L:=by omega
  rw [f1,e4,←e1] at hfin;have P0:(0:Int)<2^(64-b):=Int.pow_pos (by decide);generalize (2:Int)^(64-b)=P at *;have f2:R=(hi*18446744073709551616+lo-(q1*4294967296+q0)*yn)*P:=by
   rw [Int.sub_mul,Int.mul_assoc (q1*4294967296+q0)];omega
  have f3:R/P=hi*18446744073709551616+lo-(q1*4294967296+q0)*yn:=by rw [f2];exact Int.mul_ediv_cancel _ (by omega)
  have f4:0≤hi*18446744073709551616+lo-(q1*4294967296+q0)*yn:=by
   rw [←f3];exact Int.ediv_nonneg r0 (Int.le_of_lt P0)
  have f5:hi*18446744073709551616+lo-(q1*4294967296+q0)*yn<yn:=by
   have:(hi*18446744073709551616+lo-(q1*4294967296+q0)*yn)*P<yn*P:=by rw [←f2,e1];exact r1
   exact Int.lt_of_mul_lt_mul_right this (Int.le_of_lt P0)
  obtain ⟨g1,g2⟩:=qr_unique (X:=hi*18446744073709551616+lo) (y:=yn) (q:=q1*4294967296+q0) (r:=hi*18446744073709551616+lo-(q1*4294967296+q0)*yn) (by omega) f4 f5;rw [g1,g2,f3]
theorem lm_zero (n:Nat):Lm (fun _=>0) n:=fun _ _=>⟨Int.le_refl 0,(by decide:(0:Int)<18446744073709551616)⟩
theorem vf_cons (f:Nat→Int) (m i:Nat):vf (sh f m) (i+1)=f m+18446744073709551616*vf (sh f (m+1)) i:=by
 rw [Nat.add_comm i 1,vf_split (sh f m) 1 i,sh_sh];have e1:vf (sh f m) 1=f m:=by simp [vf,pw,sh]
 have e2:pw 1=18446744073709551616:=by simp [pw]
 rw [e1,e2];omega
theorem divw_step {f q q':Nat→Int} {k i:Nat} {r wd:Int} (HV:vf (sh f (k+1)) i=vf (sh q (k+1)) i*wd+r) (hq:∀j,k<j→q' j=q j) (hk:q' k=(r*18446744073709551616+f k)/wd) :
  vf (sh f k) (i+1)=vf (sh q' k) (i+1)*wd+(r*18446744073709551616+f k)%wd:=by
 have e1:vf (sh q' (k+1)) i=vf (sh q (k+1)) i:=vf_congr (fun j hj=>hq _ (by omega));rw [vf_cons,vf_cons,e1,HV,hk];have e2:=Int.mul_ediv_add_emod (r*18446744073709551616+f k) wd;generalize (r*18446744073709551616+f k)/wd=Q at *;generalize (r*18446744073709551616+f k)%wd=R at *
 grind
set_option maxRecDepth 100000 in
set_option maxHeartbeats 1000000 in
theorem divWord_c (ao:Option Addr) (n cap:Nat) (f:Nat→Int) (wd:Int) (w:World) (hn:n≤17592186044416) (hr:Rd .u64 w ao n f) (hf:Lm f n) (w0:0<wd) (w1:wd<18446744073709551616) :
  Calls Tryz.prog 183 #[.slice ao n cap,.int .u64 wd] w fun e w'=>∃ao' k cap' q r,e=.returned (.tuple #[.slice ao' k cap',.int .u64 r])∧Res n w w' ao' k cap' q∧0≤r∧r<wd∧vf f n=vf q k*wd+r:=by
 have HR:=hid hr;have HF:=hid hf;clear hr hf;go_enter Tryz.func183,Tryz.ntmps183;go_wp2_with (at_make;refine wpList_make_blk .u64 w rfl (.tmp 11) (.tmp 11) 22 rfl 145 8 Tryz.underlying22 Tryz.infoU64 .i64 .i64 n n n rfl rfl rfl rfl (by omega) (by unfold maxLen;omega) ?_;intro wa hba hbela)
 go_loopw [7,15] (fun c t wr=>∃(i:Nat) (r:Int) (q:Nat→Int),i≤n∧t=.int .i64 i∧c=.int .u64 r∧0≤r∧r<wd∧Below w.heap.size w wr∧Blk .u64 145 wr w.heap.size n q∧Hid (Lm q n)∧Hid (vf (sh f (n-i)) i=vf (sh q (n-i)) i*wd+r)) (fun _ t _=>n-(intOf t).toNat)
 case atStart=>exact ⟨0,0,fun _=>0,by omega,rfl,rfl,by omega,w0,hbela,hba,lm_zero n,by simp [Hid,vf]⟩
 case round =>
  clear hba hbela;obtain ⟨i,r,q,hi,rfl,rfl,r0,r1,hbel,hbl,HL,HV⟩:=hrel;by_cases hlt:i<n
  ·have hr:=HR.out;obtain ⟨b,o,rfl⟩:=hr.at (by omega);obtain ⟨k,hk⟩:∃k,k=n-1-i:=⟨_,rfl⟩;have hk1:n-i=k+1:=by omega
   have hk2:k<n:=by omega
   obtain ⟨x,hx⟩:∃x,f k=x:=⟨_,rfl⟩;have hcell:wr.cell? ⟨b,o+(n-1-i),none⟩=some (.int .u64 x):=by rw [←hk,←hx];exact (hr.below hbel (Nat.le_refl _)).cell hk2
   have hcelq:=hbl.cell (j:=n-1-i) (by omega);have hfz:=hbl.frozen (n-1-i);obtain ⟨x0,x1⟩:=HF.out k hk2;rw [hx] at x0 x1;have HX:=hid hx;have HK:=hid hk;have HK1:=hid hk1;clear hx hk hk1 hr;obtain ⟨Q,hQ⟩:∃Q,(r*18446744073709551616+x)/wd=Q:=⟨_,rfl⟩;obtain ⟨R,hR⟩:∃R,(r*18446744073709551616+x)%wd=R:=⟨_,rfl⟩;have c1:=fun w=>div64_c r x wd w r0 r1 w1 x0 x1
   have hR0:0≤R:=by rw [←hR];exact Int.emod_nonneg _ (by omega)
   have hR1:R<wd:=by rw [←hR];exact Int.emod_lt_of_pos _ w0
   have hQ0:0≤Q:=by rw [←hQ];exact Int.ediv_nonneg (by omega) (by omega)
   have hQ1:Q<18446744073709551616:=by
    rw [←hQ];apply Int.ediv_lt_of_lt_mul w0;have:(r+1)*18446744073709551616≤wd*18446744073709551616:=Int.mul_le_mul_of_nonneg_right (by omega) (by decide);rw [Int.mul_comm 18446744073709551616 wd];omega
   rw [hQ,hR] at c1;have C1:=hid c1;have HQ:=hid hQ;have HRR:=hid hR;clear c1 hQ hR;go_wp2_with fail
   refine (C1.out _).mono ?_;rintro e wx ⟨rfl,nq,rfl⟩;go_wp2;go_roundw
   case rel =>
    refine ⟨i+1,R,upd q (n-1-i) Q,by omega,by go_num,rfl,hR0,hR1,?_,?_,HL.out.upd ⟨hQ0,hQ1⟩,?_⟩
    ·exact (below_drewN hbel nq).setCell (Nat.le_refl _) _
    ·exact Blk.set (show Blk .u64 145 (wr.drewN nq) w.heap.size n q from hbl) _ _
    ·have e1:n-(i+1)=k:=by have:=HK1.out;omega
     have hv:=HV.out;rw [HK1.out] at hv;have:=divw_step (q':=upd q k Q) hv (fun j hj=>upd_other _ _ _ _ (by omega)) (by rw [upd_same,HX.out,HQ.out]);rw [HX.out,HRR.out] at this;rw [e1,←HK.out];exact this
   case measure=>simp [intOf];omega
  ·have hin:i=n:=by omega
   subst hin;have hv:vf f i=vf q i*wd+r:=by have:=HV.out;rwa [Nat.sub_self,sh_zero,sh_zero] at this
   have HV2:=hid hv;clear hv;go_wp2_with fail
   refine (trim_res w.heap.size i i q w wr hbel (Nat.le_refl _) hbl (Nat.le_refl _) (by omega) HL.out).mono ?_;rintro e w3 ⟨rfl,ao',k,cap',rfl,hres,hkn,hvt⟩;have HVT:=hid hvt;clear hvt;go_wp2
   go_ret2
   exact ⟨ao',k,cap',q,r,rfl,hres,r0,r1,by rw [HVT.out];exact HV2.out⟩
theorem modw_step {f:Nat→Int} {k i:Nat} {r wd:Int} (HV:vf (sh f (k+1)) i%wd=r):vf (sh f k) (i+1)%wd=(r*18446744073709551616+f k)%wd:=by
 rw [vf_cons,←HV,Int.add_comm (f k),Int.mul_comm];simp [Int.add_emod,Int.mul_emod]
set_option maxHeartbeats 1000000 in
theorem modWord_c (ao:Option Addr) (n cap:Nat) (f:Nat→Int) (wd:Int) (w:World) (hn:n≤17592186044416) (hr:Rd .u64 w ao n f) (hf:Lm f n) (w0:0<wd) (w1:wd<18446744073709551616) :
  Calls Tryz.prog 168 #[.slice ao n cap,.int .u64 wd] w fun e w'=>e=.returned (.int .u64 (vf f n%wd))∧∃q,w'=w.drewN q:=by
 have HR:=hid hr;have HF:=hid hf;clear hr hf;go_enter Tryz.func168,Tryz.ntmps168;go_wp2;go_loopw [5,9] (fun c t wr=>∃(i:Nat) (r:Int),i≤n∧t=.int .i64 i∧c=.int .u64 r∧0≤r∧r<wd∧(∃q,wr=w.drewN q)∧Hid (vf (sh f (n-i)) i%wd=r)) (fun _ t _=>n-(intOf t).toNat)
 case atStart=>exact ⟨0,0,by omega,rfl,rfl,by omega,w0,⟨0,rfl⟩,by simp [Hid,vf]⟩
 case round =>
  obtain ⟨i,r,hi,rfl,rfl,r0,r1,⟨q,rfl⟩,HV⟩:=hrel;by_cases hlt:i<n
  ·have hr:=HR.out;obtain ⟨b,o,rfl⟩:=hr.at (by omega);obtain ⟨k,hk⟩:∃k,k=n-1-i:=⟨_,rfl⟩;have hk1:n-i=k+1:=by omega
   have hk2:k<n:=by omega
   obtain ⟨x,hx⟩:∃x,f k=x:=⟨_,rfl⟩;have hcell:w.cell? ⟨b,o+(n-1-i),none⟩=some (.int .u64 x):=by rw [←hk,←hx];exact hr.cell hk2
   obtain ⟨x0,x1⟩:=HF.out k hk2;rw [hx] at x0 x1;have HX:=hid hx;have HK:=hid hk;have HK1:=hid hk1;clear hx hk hk1 hr;obtain ⟨R,hR⟩:∃R,(r*18446744073709551616+x)%wd=R:=⟨_,rfl⟩;have c1:=fun w=>div64_c r x wd w r0 r1 w1 x0 x1
   have hR0:0≤R:=by rw [←hR];exact Int.emod_nonneg _ (by omega)
   have hR1:R<wd:=by rw [←hR];exact Int.emod_lt_of_pos _ w0
   rw [hR] at c1;have C1:=hid c1;have HRR:=hid hR;clear c1 hR;go_wp2_with fail
   refine (C1.out _).mono ?_;rintro e wx ⟨rfl,nq,rfl⟩;go_wp2;go_roundw
   case rel =>
    refine ⟨i+1,R,by omega,by go_num,rfl,hR0,hR1,⟨_,by (repeat rw [World.drewN_drewN]) <;> rfl⟩,?_⟩;have e1:n-(i+1)=k:=by have:=HK1.out;omega
    have hv:=HV.out;rw [HK1.out] at hv;have:=modw_step (k:=k) (i:=i) (r:=r) hv;rw [HX.out,HRR.out] at this;rw [e1];exact this
   case measure=>simp [intOf];omega
  ·have hin:i=n:=by omega
   subst hin;have hv:vf f i%wd=r:=by have:=HV.out;rwa [Nat.sub_self,sh_zero] at this
   have HV2:=hid hv;clear hv;go_wp2;go_ret;exact ⟨by rw [HV2.out];rfl,q,rfl⟩
set_option maxHeartbeats 1000000 in
theorem gcdWord_c (a b:Nat) (w:World) (ha:a<18446744073709551616) (hb:b<18446744073709551616) :
  Calls Tryz.prog 167 #[.int .u64 a,.int .u64 b] w fun e w'=>e=.returned (.int .u64 (Nat.gcd a b:Nat))∧∃q,w'=w.drewN q:=by
 go_enter Tryz.func167,Tryz.ntmps167;go_wp2;go_loopw [0,1] (fun c d wr=>∃(x y:Nat),c=.int .u64 x∧d=.int .u64 y∧x<18446744073709551616∧y<18446744073709551616∧(∃q,wr=w.drewN q)∧Hid (Nat.gcd x y=Nat.gcd a b)) (fun _ d _=>(intOf d).toNat)
 case atStart=>exact ⟨a,b,rfl,rfl,ha,hb,⟨0,rfl⟩,rfl⟩
 case round =>
  obtain ⟨x,y,rfl,rfl,hx,hy,⟨q,rfl⟩,HV⟩:=hrel;by_cases h0:y=0
  ·subst h0;have hg:x=Nat.gcd a b:=by have:=HV.out;rwa [Nat.gcd_zero_right] at this
   have HG:=hid hg;clear hg;go_wp2;go_ret;exact ⟨by rw [←HG.out];rfl,q,rfl⟩
  ·have h1:((y:Int) != 0)=true:=by simp;omega
   have h2:(0:Int)<y:=by omega
   have h3:(x:Int)%y<y:=Int.emod_lt_of_pos _ h2;have h4:0≤(x:Int)%y:=Int.emod_nonneg _ (by omega);have h5:x%y<y:=Nat.mod_lt _ (by omega);have H5:=hid h5;clear h5;go_wp2
   go_quiet (fail)
   go_wp2;go_roundw
   case rel=>exact ⟨y,x%y,rfl,by go_num,hy,by have:=H5.out;omega,⟨_,by (repeat rw [World.drewN_drewN]) <;> rfl⟩,by have:=HV.out;rw [Nat.gcd_comm y,←Nat.gcd_rec y x,Nat.gcd_comm];exact this⟩
   case measure=>simp [intOf];exact H5.out
set_option maxRecDepth 100000 in
set_option maxHeartbeats 400000 in
theorem word_c (x:Int) (w:World) (x0:0≤x) (x1:x<4294967296) :
  Calls Tryz.prog 97 #[.int .u64 x] w fun e w'=>∃k,e=.returned (.slice (some ⟨w.heap.size,0,none⟩) k 2)∧Below w.heap.size w w'∧k≤1∧Rd .u64 w' (some ⟨w.heap.size,0,none⟩) k (fun _=>x)∧(k=0→x=0)∧Fm (fun _=>x) k:=by
 have hr:=rd_new2 w 145 x;have m1:x%4294967296=x:=by omega
 have m2:x/4294967296=0:=by omega
 rw [m1,m2] at hr;have HR:=hid hr;clear hr;go_enter Tryz.func97,Tryz.ntmps97;go_wp2_with fail
 refine (low_c (some ⟨w.heap.size,0,none⟩) 2 2 (two32 x) _ (by omega) (by omega) HR.out (fun h=>by cases h)).mono ?_;rintro e w1 ⟨rfl,k,hk,hz,hfm,rfl⟩;have hk1:k≤1:=by
  rcases hfm with h | h
  ·omega
  ·apply Nat.le_of_not_lt;intro h2
   obtain rfl:k=2:=by omega
   exact h (by simp [two32,m2])
 have hx0:k=0→x=0:=fun h=>by
  have:=hz 0 (by omega) (by omega);simp [two32,m1] at this;exact this
 have hr1:∀j,j<k→two32 x j=x:=by
  intro j hj;obtain rfl:j=0:=by omega
  simp [two32,m1]
 have hf1:Fm (fun _=>x) k:=by
  rcases hfm with h | h
  ·exact .inl h
  ·by_cases h0:k=0
   ·exact .inl h0
   ·right;rw [hr1 _ (by omega)] at h;exact h
 have HR1:=hid hr1;have HX0:=hid hx0;have HF1:=hid hf1
 clear hz hfm hr1 hx0 hf1;go_wp2;go_ret;exact ⟨k,rfl,(Below.refl _ _).alloc (Nat.le_refl _) _,hk1,(HR.out.take hk).congr HR1.out,HX0.out,HF1.out⟩
theorem vd_cons (f:Nat→Int) (m i:Nat):vd (sh f m) (i+1)=f m+4294967296*vd (sh f (m+1)) i:=by
 rw [Nat.add_comm i 1,vd_split (sh f m) 1 i,sh_sh];have e1:vd (sh f m) 1=f m:=by simp [vd,pd,sh]
 have e2:pd 1=4294967296:=by simp [pd]
 rw [e1,e2];omega
theorem short_step {f q q':Nat→Int} {k i:Nat} {r wd:Int} (HV:vd (sh f (k+1)) i=vd (sh q (k+1)) i*wd+r) (hq:∀j,k<j→q' j=q j) (hk:q' k=(r*4294967296+f k)/wd) :
  vd (sh f k) (i+1)=vd (sh q' k) (i+1)*wd+(r*4294967296+f k)%wd:=by
 have e1:vd (sh q' (k+1)) i=vd (sh q (k+1)) i:=vd_congr (fun j hj=>hq _ (by omega));rw [vd_cons,vd_cons,e1,HV,hk];have e2:=Int.mul_ediv_add_emod (r*4294967296+f k) wd;generalize (r*4294967296+f k)/wd=Q at *;generalize (r*4294967296+f k)%wd=R at *
 grind
set_option maxRecDepth 100000 in
set_option maxHeartbeats 1000000 in
theorem short_c (ao:Option Addr) (n cap:Nat) (f:Nat→Int) (wd:Int) (w:World) (hn:n≤1048576) (hr:Rd .u64 w ao n f) (hf:Dg f n) (w0:0<wd) (w1:wd<4294967296) :
  Calls Tryz.prog 152 #[.slice ao n cap,.int .u64 wd] w fun e w'=>∃a1 k1 c1 q a2 k2 c2 R,e=.returned (.tuple #[.slice a1 k1 c1,.slice a2 k2 c2])∧Below w.heap.size w w'∧k1≤n∧Rd .u64 w' a1 k1 q∧Dg q k1∧Fm q k1∧k2≤1∧Rd .u64 w' a2 k2 (fun _=>R)∧(k2=0→R=0)∧Fm (fun _=>R) k2∧0≤R∧R<wd∧vd f n=vd q k1*wd+R:=by
 have HR:=hid hr;have HF:=hid hf;clear hr hf;go_enter Tryz.func152,Tryz.ntmps152;go_wp2_with (at_make;refine wpList_make_blk .u64 w rfl (.tmp 10) (.tmp 10) 22 rfl 145 8 Tryz.underlying22 Tryz.infoU64 .i64 .i64 n n n rfl rfl rfl rfl (by omega) (by unfold maxLen;omega) ?_;intro wa hba hbela)
 go_loopw [7,8] (fun c t wr=>∃(i:Nat) (r:Int) (Q:Nat→Int),i≤n∧t=.int .i64 ((i:Int)-1)∧c=.int .u64 r∧0≤r∧r<wd∧Below w.heap.size w wr∧Blk .u64 145 wr w.heap.size n Q∧Hid (Dg Q n)∧Hid (vd (sh f i) (n-i)=vd (sh Q i) (n-i)*wd+r)) (fun _ t _=>(intOf t+1).toNat)
 case atStart=>exact ⟨n,0,fun _=>0,by omega,rfl,rfl,by omega,w0,hbela,hba,fun j _=>⟨Int.le_refl 0,show (0:Int)<4294967296 by decide⟩,by simp [Hid,vd]⟩
 case round =>
  clear hba hbela;obtain ⟨i,r,Q,hi,rfl,rfl,r0,r1,hbel,hbl,HL,HV⟩:=hrel;cases i with
  | zero =>
   go_wp2_with fail
   refine (low_c (some ⟨w.heap.size,0,none⟩) n n Q wr (Nat.le_refl _) (by omega) (hbl.rd0 (Nat.le_refl _)) (fun h=>by cases h)).mono ?_;rintro e w2 ⟨rfl,k1,hk1,hz,hfm,rfl⟩;have HZ:=hid hz;have HFM:=hid hfm
   clear hz hfm;go_wp2_with fail
   refine (word_c r _ r0 (by omega)).mono ?_;rintro e w3 ⟨k2,rfl,hbel3,hk2,hr2,hx2,hf2⟩;have HB3:=hid hbel3;have HR2:=hid hr2;have HX2:=hid hx2;have HF2:=hid hf2
   clear hbel3 hr2 hx2 hf2;go_wp2
   go_ret2
   have v:=HV.out;rw [sh_zero,sh_zero,Nat.sub_zero] at v;refine ⟨_,k1,n,Q,_,k2,2,r,rfl,hbel.trans (HB3.out.mono hbel.size),hk1,((hbl.rd0 (Nat.le_refl _)).take hk1).below HB3.out (Nat.le_refl _),HL.out.mono hk1,HFM.out,hk2,HR2.out,HX2.out,HF2.out,r0,r1,?_⟩;rw [trim_vald hk1 HZ.out];exact v
  | succ k =>
   have hr:=HR.out;obtain ⟨b,o,rfl⟩:=hr.at (by omega);obtain ⟨x,hx⟩:∃x,f k=x:=⟨_,rfl⟩;have hcell:wr.cell? ⟨b,o+k,none⟩=some (.int .u64 x):=by rw [←hx];exact (hr.below hbel (Nat.le_refl _)).cell (by omega)
   have hcelq:=hbl.cell (j:=k) (by omega);have hfz:=hbl.frozen k;obtain ⟨x0,x1⟩:=HF.out k (by omega);rw [hx] at x0 x1;obtain ⟨q,hq⟩:∃q,(r*4294967296+x)/wd=q:=⟨_,rfl⟩;obtain ⟨R,hR⟩:∃R,(r*4294967296+x)%wd=R:=⟨_,rfl⟩;have hR0:0≤R:=by rw [←hR];exact Int.emod_nonneg _ (by omega)
   have hR1:R<wd:=by rw [←hR];exact Int.emod_lt_of_pos _ w0
   have hq0:0≤q:=by rw [←hq];exact Int.ediv_nonneg (by omega) (by omega)
   have hq1:q<4294967296:=by
    rw [←hq];apply Int.ediv_lt_of_lt_mul w0;omega
   have hst:=short_step (q':=upd Q k q) (k:=k) (i:=n-(k+1)) HV.out (fun j hj=>upd_other _ _ _ _ (by omega)) (by rw [upd_same,hx,hq]);rw [hx,hR] at hst;have HX:=hid hx;have HSt:=hid hst
   clear hx hst hr;have hwd:¬(wd=0):=by omega
   have hwdb:(wd==0)=false:=by simp;omega
   go_wp2;go_roundw
   case rel =>
    refine ⟨k,R,upd Q k q,by omega,by go_num,(by rw [hR]),hR0,hR1,below_only hbel ((Only.refl _ _).setCell _ _ _) (Nat.le_refl _) hbel.size,hbl.set _ _,HL.out.upd ⟨hq0,hq1⟩,?_⟩;have e:n-k=n-(k+1)+1:=by omega
    show _=_;rw [e];exact HSt.out
   case measure=>simp [intOf]
theorem mul_digit {Q Q':Nat→Int} {i j:Nat} {C x y t:Int} {S H:Int} (HV:vd (sh Q i) j+C*pd j=S+x*H) (hk:∀k,k<j→Q' (i+k)=Q (i+k)) (hq:Q' (i+j)=t%4294967296) (ht:t=C+(Q (i+j)+x*y)) :
  vd (sh Q' i) (j+1)+(t/4294967296)*pd (j+1)=(S+Q (i+j)*pd j)+x*(H+y*pd j):=by
 rw [vd_succ,vd_congr (f:=sh Q' i) (g:=sh Q i) (n:=j) (fun k h=>hk k h),pd_succ];have e1:sh Q' i j=t%4294967296:=hq;rw [e1];have e2:t%4294967296=t-4294967296*(t/4294967296):=by omega
 rw [e2,ht];generalize (C+(Q (i+j)+x*y))/4294967296=u
 grind
theorem mul_row {Q0 Q Q':Nat→Int} {i m:Nat} {C x F H:Int} (h0:vd Q0 (i+m)=F*H) (HV:vd (sh Q i) m+C*pd m=vd (sh Q0 i) m+x*H) (he:∀k,k<i→Q k=Q0 k) (hk:∀k,k<i+m→Q' k=Q k) (hc:Q' (i+m)=C) :
  vd Q' (i+m+1)=(F+x*pd i)*H:=by
 rw [vd_succ,hc,vd_congr (f:=Q') (g:=Q) (n:=i+m) hk,vd_split,vd_congr (f:=Q) (g:=Q0) (n:=i) he,pd_add];rw [vd_split] at h0
 grind
set_option maxRecDepth 100000 in
set_option maxHeartbeats 2000000 in
theorem rmulD_c (ao bo:Option Addr) (n m ca cb:Nat) (f h:Nat→Int) (w:World) (hn:n≤1040000) (hm:m≤1040000) (hr:Rd .u64 w ao n f) (hs:Rd .u64 w bo m h) (hf:Dg f n) (hh:Dg h m) :
  Calls Tryz.prog 95 #[.slice ao n ca,.slice bo m cb] w fun e w'=>∃a1 k c1 q,e=.returned (.slice a1 k c1)∧Below w.heap.size w w'∧k≤n+m∧Rd .u64 w' a1 k q∧Dg q k∧Fm q k∧vd q k=vd f n*vd h m:=by
 have HR:=hid hr;have HS:=hid hs;have HF:=hid hf;have HH:=hid hh
 clear hr hs hf hh;go_enter Tryz.func95,Tryz.ntmps95;go_wp2_with (at_make;refine wpList_make_blk .u64 w rfl (.tmp 15) (.tmp 15) 22 rfl 145 8 Tryz.underlying22 Tryz.infoU64 .i64 .i64 ((n:Int)+(m:Int)) ((n:Int)+(m:Int)) (n+m) rfl rfl (by omega) (by omega) (by omega) (by unfold maxLen;omega) ?_;intro wa hba hbela)
 go_loopw [19] (fun t wr=>∃(i:Nat) (Q:Nat→Int),i≤n∧t=.int .i64 i∧Below w.heap.size w wr∧Blk .u64 145 wr w.heap.size (n+m) Q∧Hid (Dg Q (n+m))∧Hid (∀k,i+m≤k→k<n+m→Q k=0)∧Hid (vd Q (i+m)=vd f i*vd h m)) (fun t _=>n-(intOf t).toNat)
 case atStart=>exact ⟨0,fun _=>0,by omega,rfl,hbela,hba,fun j _=>⟨Int.le_refl 0,show (0:Int)<4294967296 by decide⟩,fun _ _ _=>rfl,hid (by rw [vd_zero (fun _ _=>rfl)];simp [vd])⟩
 case round =>
  clear hba hbela;obtain ⟨i,Q0,hi,rfl,hbel,hbl,HL,HZ,HV⟩:=hrel;by_cases hlt:i<n
  ·have hr:=HR.out;obtain ⟨b,o,rfl⟩:=hr.at (by omega);obtain ⟨x,hx⟩:∃x,f i=x:=⟨_,rfl⟩;have hcell:wr.cell? ⟨b,o+i,none⟩=some (.int .u64 x):=by rw [←hx];exact (hr.below hbel (Nat.le_refl _)).cell (by omega)
   obtain ⟨x0,x1⟩:=HF.out i (by omega);rw [hx] at x0 x1;have HX:=hid hx;have HBl:=hid hbl;have HBe:=hid hbel
   clear hx hr;go_wp2;go_loopw [8,26] (fun c t wr=>∃(j:Nat) (C:Int) (Q:Nat→Int),j≤m∧t=.int .i64 j∧c=.int .u64 C∧0≤C∧C<4294967296∧Below w.heap.size w wr∧Blk .u64 145 wr w.heap.size (n+m) Q∧Hid (Dg Q (n+m))∧Hid (∀k,k<i∨i+j≤k→Q k=Q0 k)∧Hid (vd (sh Q i) j+C*pd j=vd (sh Q0 i) j+x*vd h j)) (fun _ t _=>m-(intOf t).toNat)
   case atStart=>exact ⟨0,0,Q0,by omega,rfl,rfl,by omega,by omega,HBe.out,HBl.out,HL.out,fun _ _=>rfl,hid (by simp [vd])⟩
   case round =>
    clear hbel hbl hcell;obtain ⟨j,C,Q,hj,rfl,rfl,C0,C1,hbel,hbl,HD,HE,HW⟩:=hrel;by_cases hjm:j<m
    ·have hs:=HS.out;obtain ⟨b',o',rfl⟩:=hs.at (by omega);obtain ⟨y,hy⟩:∃y,h j=y:=⟨_,rfl⟩;obtain ⟨z,hz⟩:∃z,Q (i+j)=z:=⟨_,rfl⟩;rename_i wq;have hcy:=(hs.below hbel (Nat.le_refl _)).cell (j:=j) (by omega);rw [hy] at hcy;have hcz:=hbl.cell (j:=i+j) (by omega);rw [hz] at hcz;have hfz:=hbl.frozen (i+j);obtain ⟨y0,y1⟩:=HH.out j (by omega);rw [hy] at y0 y1;obtain ⟨z0,z1⟩:=HD.out (i+j) (by omega);rw [hz] at z0 z1;have hxy0:0≤x*y:=Int.mul_nonneg x0 y0;have hxy1:x*y≤4294967295*4294967295:=Int.mul_le_mul (by omega) (by omega) y0 (by omega);obtain ⟨P,hP⟩:∃P,x*y=P:=⟨_,rfl⟩;rw [hP] at hxy0 hxy1;obtain ⟨t,ht⟩:∃t,C+(z+P)=t:=⟨_,rfl⟩;have t0:0≤t:=by omega
     have t1:t<18446744073709551616:=by omega
     have ht2:t/4294967296<4294967296:=by omega
     have hst:=mul_digit (Q':=upd Q (i+j) (t%4294967296)) (t:=t) (y:=y) HW.out (fun k hk=>upd_other _ _ _ _ (by omega)) (upd_same _ _ _) (by rw [hz,hP,ht]);have HSt:=hid hst;have HY:=hid hy;have HZz:=hid hz
     clear hst hy hz hs;go_wp2;go_roundw
     case rel =>
      refine ⟨j+1,t/4294967296,upd Q (i+j) (t%4294967296),by omega,by go_num,?_,by omega,ht2,below_only hbel ((Only.refl _ _).setCell _ _ _) (Nat.le_refl _) hbel.size,hbl.set _ _,HD.out.upd ⟨by omega,by omega⟩,fun k hk=>?_,?_⟩
      ·first | rfl | (rw [ht]) | go_num
      ·rw [upd_other _ _ _ _ (by omega)];exact HE.out k (by omega)
      ·have e1:vd (sh Q0 i) (j+1)=vd (sh Q0 i) j+Q (i+j)*pd j:=by rw [vd_succ,HE.out (i+j) (by omega)];rfl
       have e2:vd h (j+1)=vd h j+y*pd j:=by rw [vd_succ,HY.out]
       show vd _ _+_=_;rw [e1,e2];exact HSt.out
     case measure=>simp [intOf];omega
    ·have hjm':j=m:=by omega
     subst hjm';have hcm:=hbl.cell (j:=i+j) (by omega);have hfz:=hbl.frozen (i+j);have hrow:=mul_row (Q':=upd Q (i+j) C) HV.out HW.out (fun k hk=>HE.out k (.inl hk)) (fun k hk=>upd_other _ _ _ _ (by omega)) (upd_same _ _ _);have HRow:=hid hrow;clear hrow;go_wp2;go_roundw
     case rel =>
      refine ⟨i+1,upd Q (i+j) C,by omega,by go_num,below_only hbel ((Only.refl _ _).setCell _ _ _) (Nat.le_refl _) hbel.size,hbl.set _ _,HD.out.upd ⟨C0,C1⟩,fun k h1 h2=>?_,?_⟩
      ·rw [upd_other _ _ _ _ (by omega),HE.out k (.inr (by omega))];exact HZ.out k (by omega) h2
      ·show vd _ _=_;rw [show i+1+j=i+j+1 by omega,vd_succ f i,HX.out];exact HRow.out
     case measure=>simp [intOf];omega
  ·have hin:i=n:=by omega
   subst hin;go_wp2_with fail
   refine (low_c (some ⟨w.heap.size,0,none⟩) (i+m) (i+m) Q0 wr (Nat.le_refl _) (by omega) (hbl.rd0 (Nat.le_refl _)) (fun h=>by cases h)).mono ?_;rintro e w2 ⟨rfl,k1,hk1,hz,hfm,rfl⟩;have HZ2:=hid hz;have HFM:=hid hfm
   clear hz hfm;go_wp2;go_ret;refine ⟨_,k1,_,Q0,rfl,hbel,hk1,(hbl.rd0 (Nat.le_refl _)).take hk1,HL.out.mono hk1,HFM.out,?_⟩;rw [trim_vald hk1 HZ2.out];exact HV.out
structure Dn (w:World) (x:Option Addr) (n:Nat) (d:Nat→Int) (V:Nat):Prop where
 rd:Rd .u64 w x n d
 dg:Dg d n
 fm:Fm d n
 val:vd d n=V
theorem Dn.below {w w' x n d V} (h:Dn w x n d V) (hb:Below w.heap.size w w'):Dn w' x n d V:=⟨h.rd.below hb (Nat.le_refl _),h.dg,h.fm,h.val⟩
theorem Dn.alloc {w x n d V} (h:Dn w x n d V) (o:Obj):Dn (w.alloc o) x n d V:=⟨h.rd.below ((Below.refl _ _).alloc (Nat.le_refl _) o) (Nat.le_refl _),h.dg,h.fm,h.val⟩
theorem Dn.next {w w' x n d V} {o:Obj} (h:Dn w x n d V) (hb:Below (w.alloc o).heap.size (w.alloc o) w'):Dn w' x n d V:=(h.alloc o).below hb
theorem Dn.drew {w x n d V} (h:Dn w x n d V):Dn w.drew x n d V:=⟨h.rd,h.dg,h.fm,h.val⟩
theorem Dn.pos {w x n d V} (h:Dn w x n d V) (hV:0<V):0<n:=by
 rcases Nat.eq_zero_or_pos n with h0 | h0
 ·subst h0;have:(0:Int)=V:=h.val;omega
 ·exact h0
theorem Dn.zero {w x d V} (h:Dn w x 0 d V):V=0:=by have:(0:Int)=V:=h.val;omega
theorem Dn.pos' {w x n d V} (h:Dn w x n d V) (hn:0<n):0<V:=by
 have h1:=vd_form_ge h.dg h.fm hn;have h2:=pd_pos (n-1);rw [h.val] at h1;omega
theorem dAdd_c {w x n c d A y m e g B} (ha:Dn w x n d A) (hb:Dn w y m g B) (hn:n≤1040000) (hm:m≤1040000) :
  Calls Tryz.prog 144 #[.slice x n c,.slice y m e] w fun e w'=>∃z k c' q,e=.returned (.slice z k c')∧Below w.heap.size w w'∧Hid (k≤n+m+1∧Dn w' z k q (A+B)) :=
 (radd_c x y n m c e d g w (by omega) (by omega) ha.rd hb.rd ha.dg hb.dg).mono (fun _ _ ⟨z,k,c',q,h1,h2,h3,h4,h5,h6,h7⟩=>⟨z,k,c',q,h1,h2,h4,h3,h5,h6,by rw [h7,ha.val,hb.val];omega⟩)
theorem dSub_c {w x n c d A y m e g B} (ha:Dn w x n d A) (hb:Dn w y m g B) (hn:n≤1040000) (hm:m≤1040000) (hle:B≤A) :
  Calls Tryz.prog 146 #[.slice x n c,.slice y m e] w fun e w'=>∃z k c' q,e=.returned (.slice z k c')∧Below w.heap.size w w'∧Hid (k≤n∧Dn w' z k q (A-B)) :=
 (rsub_c x y n m c e d g w (by omega) (by omega) (vd_len hb.dg ha.dg hb.fm (by rw [ha.val,hb.val];omega)) ha.rd hb.rd ha.dg hb.dg (by rw [ha.val,hb.val];omega)).mono (fun _ _ ⟨z,k,c',q,h1,h2,h3,h4,h5,h6,h7⟩=>⟨z,k,c',q,h1,h2,h4,h3,h5,h6,by rw [h7,ha.val,hb.val];omega⟩)
theorem dMul_c {w x n c d A y m e g B} (ha:Dn w x n d A) (hb:Dn w y m g B) (hn:n≤1040000) (hm:m≤1040000) :
  Calls Tryz.prog 95 #[.slice x n c,.slice y m e] w fun e w'=>∃z k c' q,e=.returned (.slice z k c')∧Below w.heap.size w w'∧Hid (k≤n+m∧Dn w' z k q (A*B)) :=
 (rmulD_c x y n m c e d g w hn hm ha.rd hb.rd ha.dg hb.dg).mono (fun _ _ ⟨z,k,c',q,h1,h2,h3,h4,h5,h6,h7⟩=>⟨z,k,c',q,h1,h2,h3,h4,h5,h6,by rw [h7,ha.val,hb.val];simp⟩)
theorem pd_pow (k:Nat):pd k=2^(32*k):=by
 induction k with
 | zero=>rfl
 | succ k ih=>rw [pd_succ,ih,show 32*(k+1)=32*k+32 by omega,Int.pow_add,Int.mul_comm];rfl
theorem limb_cut {x P Q:Int} (x0:0≤x) (x1:x<18446744073709551616) (hPQ:P*Q=18446744073709551616) (p0:0<P) (q0:0<Q) :
  (x*P)%18446744073709551616=(x%Q)*P∧0≤x/Q∧x/Q<P∧0≤(x%Q)*P∧(x%Q)*P≤18446744073709551616-P:=by
 have e1:(x*P)%18446744073709551616=(x%Q)*P:=by rw [←hPQ,Int.mul_comm x P,Int.mul_emod_mul_of_pos _ _ p0,Int.mul_comm]
 refine ⟨e1,Int.ediv_nonneg x0 (Int.le_of_lt q0),?_,Int.mul_nonneg (Int.emod_nonneg _ (by omega)) (Int.le_of_lt p0),?_⟩
 ·exact Int.ediv_lt_of_lt_mul q0 (by rw [hPQ];exact x1)
 ·have h1:=Int.emod_lt_of_pos x q0;have h2:(x%Q+1)*P≤Q*P:=Int.mul_le_mul_of_nonneg_right (by omega) (Int.le_of_lt p0);rw [Int.add_mul,Int.one_mul,Int.mul_comm Q P,hPQ] at h2;omega
theorem shl_step {F a:Nat→Int} {o k:Nat} {P Q x y:Int} (hv:vf (sh F o) (k+1)=vf a k*P) (hx:a k=x) (hy:F (o+k)=y) (hPQ:P*Q=18446744073709551616) :
  vf (sh (upd (upd F (o+k) (y+x%Q*P)) (o+k+1) (x/Q)) o) (k+1+1)=vf a (k+1)*P:=by
 have e1:vf (sh (upd (upd F (o+k) (y+x%Q*P)) (o+k+1) (x/Q)) o) k=vf (sh F o) k:=vf_congr (fun j hj=>by rw [sh_at,sh_at,upd_other _ _ _ _ (by omega),upd_other _ _ _ _ (by omega)]);have e2:sh (upd (upd F (o+k) (y+x%Q*P)) (o+k+1) (x/Q)) o k=y+x%Q*P:=by rw [sh_at,upd_other _ _ _ _ (by omega),upd_same]
 have e3:sh (upd (upd F (o+k) (y+x%Q*P)) (o+k+1) (x/Q)) o (k+1)=x/Q:=by rw [sh_at,←Nat.add_assoc,upd_same]
 rw [vf_succ,vf_succ,e1,e2,e3,vf_succ,pw_succ];rw [vf_succ,sh_at,hy] at hv;have e4:=Int.mul_ediv_add_emod x Q;rw [hx,←hPQ];have e5:x*pw k*P=(Q*(x/Q)+x%Q)*pw k*P:=by rw [e4]
 rw [Int.add_mul (vf a k),e5,←hv]
 grind
theorem vf_ahead {F:Nat→Int} {o n:Nat} (h:∀j,j<o→F j=0):vf F (o+n)=vf (sh F o) n*pw o:=by
 rw [vf_split,vf_zero h];omega
theorem dshl_step {D a:Nat→Int} {o k:Nat} {P x c:Int} (hv:vd D (o+k)+c*pd (o+k)=vd a k*(P*pd o)) (hx:a k=x) :
  vd (cat D (o+k) (fun _=>(c+x*P)%4294967296)) (o+k+1)+((c+x*P)/4294967296)*pd (o+k+1)=vd a (k+1)*(P*pd o):=by
 have e1:vd (cat D (o+k) (fun _=>(c+x*P)%4294967296)) (o+k)=vd D (o+k):=vd_congr (fun j hj=>cat_in hj);have e2:cat D (o+k) (fun _=>(c+x*P)%4294967296) (o+k)=(c+x*P)%4294967296:=cat_out (Nat.le_refl _);rw [vd_succ,e1,e2,pd_succ,vd_succ,hx];have e3:=Int.mul_ediv_add_emod (c+x*P) 4294967296;have e4:(c+x*P)*pd (o+k)=(4294967296*((c+x*P)/4294967296)+(c+x*P)%4294967296)*pd (o+k):=by rw [e3]
 rw [Int.add_mul (vd a k),←hv];have e5:x*pd k*(P*pd o)=x*P*pd (o+k):=by rw [pd_add];grind
 rw [e5]
 grind
theorem dshl_carry {P x c:Int} (c0:0≤c) (c1:c<P) (x0:0≤x) (x1:x<4294967296) (p0:0<P):0≤c+x*P∧c+x*P<4294967296*P∧(c+x*P)/4294967296<P∧0≤x*P∧x*P<4294967296*P:=by
 have h1:0≤x*P:=Int.mul_nonneg x0 (Int.le_of_lt p0);have h2:(x+1)*P≤4294967296*P:=Int.mul_le_mul_of_nonneg_right (by omega) (Int.le_of_lt p0);rw [Int.add_mul,Int.one_mul] at h2;refine ⟨by omega,by omega,?_,h1,by omega⟩;exact Int.ediv_lt_of_lt_mul (by decide) (by omega)
theorem wpList_make_two {P:Program} (k:IntKind) (w:World) {ops:Array Oper} {rest:List Oper} {o:Oper} {a:Act} {Q:Exit→Act→World→Prop}
  (hg:o.guard=none) (lo co:Operand) (t:TypeId) (hop:o.op=Op.makeSlice t lo co)
  (e:TypeId) (bytes:Nat) (h1:P.underlying t=some (.slice e)) (h2:(P.info? e).map (fun i=>(i.zero,i.size,i.bytes))=some (some (.int k 0),1,bytes))
  (kl kc:IntKind) (L C:Int) (l c:Nat) (hl:a.eval lo=.int kl L) (hc:a.eval co=.int kc C) (hL:L=(l:Int)) (hC:C=(c:Int)) (hlc:l≤c) (b2:bytes*c≤281474976710656) (b3:c≤maxLen)
  (hK:∀w',Blk k e w' w.heap.size c (fun _=>0)→Below w.heap.size w w'→wpList P ops Q rest (a.put o.dst (.slice (some ⟨w.heap.size,0,none⟩) l c)) w') :
  wpList P ops Q (o :: rest) a w:=by
 obtain ⟨i,hi,hz0,hz1,hz2⟩:=info_parts h2;subst hL;subst hC;refine wpList_plain hg fun K hK'=>?_
 have b2':(i.bytes:Int)*(c:Int)≤281474976710656:=by
  have h:((i.bytes*c:Nat):Int)≤281474976710656:=by rw [hz2];omega
  rwa [Int.natCast_mul] at h
 have hrun:=run_make (P:=P) w t e i (.int k 0) h1 hi hz0 kl kc (l:Int) (c:Int) (by omega) (by omega) b2' (by unfold maxLen at b3;omega);simp only [Int.toNat_natCast,hz1,Nat.mul_one] at hrun;unfold Oper.wp;simp [execOp,hop,hl,hc,hrun,Result.andThen];refine hK' _ _ (hK _ ⟨_,heap_alloc_new w _,size_madeCells _ _,fun j hj=>?_⟩ ((Below.refl _ _).alloc (Nat.le_refl _) _));have hm:(madeCells (Value.int k 0).cells c).toList=List.replicate c (.int k 0):=toList_madeCells_one _ _;have:(madeCells (Value.int k 0).cells c).toList[j]?=some (.int k 0):=by rw [hm,List.getElem?_replicate,if_pos hj]
 simpa using this
end Go.Proofs.YtdbbncamlaiajaaGreat
