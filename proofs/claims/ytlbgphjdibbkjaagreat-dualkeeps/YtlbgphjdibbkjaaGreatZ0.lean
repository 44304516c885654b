/-
 Walks.
-/
import Derived.WalkKit
import Derived.Laws.CopyOwn
import Derived.Test.YtlbgphjdibbkjaaGreatProg
import Derived.WalkSpells
import Derived.WalkLawsBesides
import Derived.Deep.QuietTactic
import Derived.BigQuiet
import Derived.Deep.Draws
import Derived.Shelf.Spec.BitsCarry
import Derived.BigRegion
import Derived.OwnWalk
import Derived.Laws.AppendOwnNone
import Derived.Shelf.Small.Bits
import Derived.Shelf.Strconv.Itoa0
import Derived.Shelf.Bits.Mul64
import Derived.Deep.RegionWith
import Derived.Deep.RegionHeld3
import Derived.Deep.CutRange
set_option maxRecDepth 100000
set_option maxHeartbeats 16000000
namespace Go.Proofs.YtlbgphjdibbkjaaGreat
open Value (slice)
open Ending (returned)
open Nat (le_refl zero_add sub_self)
open World (block_lt_of_cell?)
open Int (le_of_lt mul_nonneg add_mul mul_comm one_mul pow_pos)
open Go.Proofs.Tryz
open Go.RowKit
abbrev Bl (w w':World):Prop:=Below w.heap.size w w'
theorem zk {p} (h:p):Hid p:=h
theorem bUp {a b c} (h:Bl a b) (k:Bl b c):Bl a c:=h.trans (k.mono h.size)
theorem zJ {a b c} (h:Hid (Bl a b)) (k:Bl b c):Hid (Bl a c):=h.out.trans (k.mono h.out.size)
def Rd (k:IntKind) (w:World) (ao:Option Addr) (n:Nat) (f:Nat->Int):Prop :=
 ∀j,j<n->∃b o,ao=some ⟨b,o,none⟩/\w.cell? ⟨b,o+j,none⟩=some (.int k (f j))
def Blk (k:IntKind) (e:TypeId) (w:World) (g N:Nat) (f:Nat->Int):Prop :=
 ∃arr:Array Value,w.heap[g]?=some (.cells arr e (0,0))/\arr.size=N/\∀j,j<N->arr[j]?=some (.int k (f j))
structure Only (g:Nat) (w w':World):Prop where
 os:w'.os=w.os
 tape:w'.tape=w.tape
 output:w'.output=w.output
 size:w.heap.size<=w'.heap.size
 block:∀k,k<w.heap.size->k≠g->w'.heap[k]?=w.heap[k]?
def sh (f:Nat->Int) (o:Nat):Nat->Int:=λj=>f (o+j)
theorem zaS (f:Nat->Int) (o j:Nat):sh f o j=f (o+j):=rfl
theorem sh_zero (f:Nat->Int):sh f 0=f:=by funext j;rw[zaS,zero_add]
theorem zax (f:Nat->Int) (a b:Nat):sh (sh f a) b=sh f (a+b):=by funext j;rw[zaS,zaS,zaS,Nat.add_assoc]
def upd (f:Nat->Int) (i:Nat) (v:Int):Nat->Int:=λj=>if j=i then v else f j
theorem zac (f:Nat->Int) (i:Nat) (v:Int):upd f i v i=v:=by simp[upd]
theorem zE (f:Nat->Int) (i:Nat) (v:Int) (j:Nat) (h:j≠i):upd f i v j=f j:=by simp[upd,h]
def Off (ao:Option Addr) (g:Nat):Prop:=∀a,ao=some a->a.block≠g
def Und (ao:Option Addr) (B:Nat):Prop:=∀a,ao=some a->a.block<B
theorem Und.off {ao B g} (h:Und ao B) (hg:B<=g):Off ao g:=λa ha=>by have:=h a ha;omega
theorem zmh (B:Nat):Und none B:=λa h=>by cases h
theorem zmg {b o s B} (h:b<B):Und (some ⟨b,o,s⟩) B:=λa ha=>by cases ha;exact h
theorem zna (B:Nat):Off none B:=λa h=>by cases h
theorem off_some {b o s g} (h:b≠g):Off (some ⟨b,o,s⟩) g:=λa ha=>by cases ha;exact h
theorem Rd.cell {k w n f b o} (h:Rd k w (some ⟨b,o,none⟩) n f) {j} (hj:j<n):w.cell? ⟨b,o+j,none⟩=some (.int k (f j)):=by
 obtain⟨b',o',e,hc⟩:=h j hj;cases e;exact hc
theorem Rd.at {k w ao n f} (h:Rd k w ao n f) (hn:0<n):∃b o,ao=some ⟨b,o,none⟩:=by
 obtain⟨b,o,e,_⟩:=h 0 hn;exact⟨b,o,e⟩
theorem Rd.zero {k w ao f}:Rd k w ao 0 f:=λj hj=>by omega
theorem Rd.mk {k w n f b o} (h:∀j,j<n->w.cell? ⟨b,o+j,none⟩=some (.int k (f j))):Rd k w (some ⟨b,o,none⟩) n f:=λj hj=>⟨b,o,rfl,h j hj⟩
theorem Rd.congr {k w ao n f f'} (h:Rd k w ao n f) (he:∀j,j<n->f j=f' j):Rd k w ao n f':=λj hj=>by
 obtain⟨b,o,e,hc⟩:=h j hj;exact⟨b,o,e,by rw[hc,he j hj]⟩
theorem Rd.take {k w ao n f} (h:Rd k w ao n f) {m} (hm:m<=n):Rd k w ao m f:=λj hj=>h j (by omega)
theorem Rd.drop {k w n f b o} (h:Rd k w (some ⟨b,o,none⟩) n f) {i m} (hm:i+m<=n):Rd k w (some ⟨b,o+i,none⟩) m (sh f i):=λj hj =>
 ⟨b,o+i,rfl,by have:=h.cell (j:=i+j) (by omega);rw[<-Nat.add_assoc]at this;exact this⟩
theorem Rd.und {k w ao n f} (h:Rd k w ao n f) (hn:0<n):Und ao w.heap.size:=λa ha=>by
 obtain⟨b,o,e,hc⟩:=h 0 hn;rw[ha]at e;cases e
 exact block_lt_of_cell? w _ hc
theorem Rd.q_ {k w w' ao n f B} (h:Rd k w ao n f) (hb:Below B w w') (hB:w.heap.size<=B):Rd k w' ao n f:=λj hj=>by
 obtain⟨b,o,e,hc⟩:=h j hj;have:=block_lt_of_cell? w _ hc;exact⟨b,o,e,(hb.cell (p:=⟨b,o+j,none⟩) (by simp at this ⊢;omega)).trans hc⟩
theorem Rd.only {k w w' ao n f g} (h:Rd k w ao n f) (hb:Only g w w') (ho:Off ao g):Rd k w' ao n f:=λj hj=>by
 obtain⟨b,o,e,hc⟩:=h j hj;have hl:=block_lt_of_cell? w _ hc;exact⟨b,o,e,(World.cell?_of_block (hb.block b hl (by have:=ho _ e;simpa using this))).trans hc⟩
theorem Rd.drew {k w ao n f} (h:Rd k w ao n f):Rd k w.drew ao n f:=h
theorem Blk.cell {k e w g N f} (h:Blk k e w g N f) {j} (hj:j<N):w.cell? ⟨g,j,none⟩=some (.int k (f j)):=by
 obtain⟨arr,h1,h2,h3⟩:=h;simp[World.cell?,h1,h3 j hj]
theorem Blk.frozen {k e w g N f} (h:Blk k e w g N f) (j:Nat):w.frozen? ⟨g,j,none⟩=false:=by
 obtain⟨arr,h1,h2,h3⟩:=h;simp[World.frozen?,h1]
theorem Blk.lt {k e w g N f} (h:Blk k e w g N f):g<w.heap.size:=by
 obtain⟨arr,h1,h2,h3⟩:=h;exact(Array.getElem?_eq_some_iff.1 h1).1
theorem Blk.congr {k e w g N f f'} (h:Blk k e w g N f) (he:∀j,j<N->f j=f' j):Blk k e w g N f':=by
 obtain⟨arr,h1,h2,h3⟩:=h;exact⟨arr,h1,h2,λj hj=>by rw[h3 j hj,he j hj]⟩
theorem Blk.of {k e w w' g N f} (h:Blk k e w g N f) (he:w'.heap[g]?=w.heap[g]?):Blk k e w' g N f:=by
 obtain⟨arr,h1,h2,h3⟩:=h;exact⟨arr,he.trans h1,h2,h3⟩
theorem Blk.drew {k e w g N f} (h:Blk k e w g N f):Blk k e w.drew g N f:=h
theorem Blk.q_ {k e w w' g N f B} (h:Blk k e w g N f) (hb:Below B w w') (hg:g<B):Blk k e w' g N f:=h.of (hb.block g hg)
theorem Blk.only {k e w w' g g' N f} (h:Blk k e w g N f) (hb:Only g' w w') (hg:g≠g'):Blk k e w' g N f:=h.of (hb.block g h.lt hg)
theorem Blk.alloc {k e w g N f} (h:Blk k e w g N f) (o:Obj):Blk k e (w.alloc o) g N f:=h.of (Below.heap_alloc _ _ _ h.lt)
theorem Blk.set {k e w g N f} (h:Blk k e w g N f) (i:Nat) (v:Int):Blk k e (w.setCell ⟨g,i,none⟩ (.int k v)) g N (upd f i v):=by
 obtain⟨arr,h1,h2,h3⟩:=h;refine⟨arr.setIfInBounds i (.int k v),?_,by simpa using h2,λj hj=>?_⟩
 ·simp[World.setCell,Array.getElem?_modify,h1]
 ·by_cases hji:j=i
  ·subst hji;simp[upd,h2,hj]
  ·rw[Array.getElem?_setIfInBounds,if_neg (by omega),h3 j hj];simp[upd,hji]
theorem Blk.setOther {k e w g N f} (h:Blk k e w g N f) {a} (ha:g≠a.block) (v:Value):Blk k e (w.setCell a v) g N f:=h.of (Below.heap_setCell _ _ _ _ ha)
theorem Blk.rd0 {k e w g N f} (h:Blk k e w g N f) {n} (hn:n<=N):Rd k w (some ⟨g,0,none⟩) n f:=λj hj=>⟨g,0,rfl,by rw[zero_add];exact h.cell (by omega)⟩
theorem Only.refl (g:Nat) (w:World):Only g w w:=⟨rfl,rfl,rfl,le_refl _,λ_ _ _=>rfl⟩
theorem Only.trans {g a b c} (h:Only g a b) (k:Only g b c):Only g a c :=
 ⟨k.os.trans h.os,k.tape.trans h.tape,k.output.trans h.output,Nat.le_trans h.size k.size,λi hi hn=>(k.block i (Nat.lt_of_lt_of_le hi h.size) hn).trans (h.block i hi hn)⟩
theorem Only.drew {g a w} (h:Only g a w):Only g a w.drew:=⟨h.os,h.tape,h.output,h.size,h.block⟩
theorem Only.setCell {g a w} (h:Only g a w) (i:Nat) (s) (u:Value):Only g a (w.setCell ⟨g,i,s⟩ u) :=
 h.trans ⟨rfl,rfl,rfl,by simp[World.setCell],λk _ hn=>Below.heap_setCell _ _ _ _ hn⟩
theorem Only.alloc {g a w} (h:Only g a w) (o:Obj):Only g a (w.alloc o) :=
 h.trans ⟨rfl,rfl,rfl,by simp,λk hk _=>Below.heap_alloc _ _ _ hk⟩
theorem Only.of_below {g w w'} (h:Bl w w'):Only g w w':=⟨h.os,h.tape,h.output,h.size,λk hk _=>h.block k hk⟩
theorem Only.q_ {g B w w'} (h:Only g w w') (hB:B<=g) (hs:B<=w.heap.size):Below B w w':=⟨h.os,h.tape,h.output,h.size,λk hk=>h.block k (by omega) (by omega)⟩
theorem zV {g B w w' w''} (h:Below B w w') (h2:Only g w' w'') (hB:B<=g) (hs:B<=w'.heap.size):Below B w w'':=h.trans (h2.q_ hB hs)
def pw:Nat->Int|0=>1|n+1=>18446744073709551616*pw n
def vf (f:Nat->Int):Nat->Int|0=>0|n+1=>vf f n+f n*pw n
def Lm (f:Nat->Int) (n:Nat):Prop:=∀j,j<n->0<=f j/\f j<18446744073709551616
def Fm (f:Nat->Int) (n:Nat):Prop:=n=0∨f (n-1)≠0
def fmB (f:Nat->Int) (n:Nat):Bool:=decide (n=0) || !decide (f (n-1)=0)
theorem zcW (f:Nat->Int) (n:Nat):fmB f n=true ↔ Fm f n:=by simp[fmB,Fm]
theorem zab (n:Nat):0<pw n:=by induction n with|zero=>decide|succ n ih=>simp only[pw];omega
theorem zao (n:Nat):pw (n+1)=18446744073709551616*pw n:=rfl
theorem zbU (m n:Nat):pw (m+n)=pw m*pw n:=by
 induction n with
 | zero=>simp[pw]
 | succ n ih=>rw[<-Nat.add_assoc,zao,ih,zao];grind
theorem zI (f:Nat->Int) (n:Nat):vf f (n+1)=vf f n+f n*pw n:=rfl
theorem zN {f g n} (h:∀j,j<n->f j=g j):vf f n=vf g n:=by
 induction n with
 | zero=>rfl
 | succ n ih=>rw[zI,zI,ih (λj hj=>h j (by omega)),h n (by omega)]
theorem Lm.mono {f n m} (h:Lm f n) (hm:m<=n):Lm f m:=λj hj=>h j (by omega)
theorem Lm.upd {f n} (h:Lm f n) {i:Nat} {v:Int} (hv:0<=v/\v<18446744073709551616):Lm (upd f i v) n:=λj hj=>by
 by_cases hji:j=i
 ·subst hji;rw[zac];exact hv
 ·rw[zE _ _ _ _ hji];exact h j hj
theorem Lm.sh {f n} (h:Lm f n) {o m:Nat} (hm:o+m<=n):Lm (sh f o) m:=λj hj=>h (o+j) (by omega)
theorem zz {f n} (h:Lm f n):0<=vf f n:=by
 induction n with
 | zero=>simp[vf]
 | succ n ih =>
  have h1:=ih (h.mono (by omega));have h2:=mul_nonneg (h n (by omega)).1 (le_of_lt (zab n));rw[zI];omega
theorem zar {f n} (h:Lm f n):vf f n<pw n:=by
 induction n with
 | zero=>simp[vf,pw]
 | succ n ih =>
  have h1:=ih (h.mono (by omega));have h2:(f n+1)*pw n<=18446744073709551616*pw n:=Int.mul_le_mul_of_nonneg_right (by have:=(h n (by omega)).2;omega) (le_of_lt (zab n));rw[add_mul,one_mul]at h2
  rw[zI,zao];omega
theorem zM (f:Nat->Int) (m n:Nat):vf f (m+n)=vf f m+vf (sh f m) n*pw m:=by
 induction n with
 | zero=>simp[vf]
 | succ n ih=>rw[<-Nat.add_assoc,zI,ih,zI,zbU,zaS];grind
theorem zcK {f n} (h:∀j,j<n->f j=0):vf f n=0:=by
 induction n with
 | zero=>rfl
 | succ n ih=>rw[zI,ih (λj hj=>h j (by omega)),h n (by omega)];simp
theorem ziL {f m n} (hm:m<=n) (h:∀j,m<=j->j<n->f j=0):vf f n=vf f m:=by
 obtain⟨d,rfl⟩:=Nat.exists_eq_add_of_le hm;rw[zM,zcK (f:=sh f m) (λj hj=>h _ (by omega) (by omega))];simp
theorem zaI {f n} (h:Lm f n) (hf:Fm f n) (hn:0<n):pw (n-1)<=vf f n:=by
 obtain⟨m,rfl⟩:∃m,n=m+1:=⟨n-1,by omega⟩;have h0:=zz (h.mono (m:=m) (by omega));have h1:=h m (by omega);have h2:f m≠0:=by rcases hf with h|h;omega;simpa using h
 have h3:1*pw m<=f m*pw m:=Int.mul_le_mul_of_nonneg_right (by omega) (le_of_lt (zab m));rw[zI];simp at h3 ⊢;omega
theorem zaQ {m n} (h:m<=n):pw m<=pw n:=by
 induction n with
 | zero =>
  obtain rfl:m=0:=by omega
  exact Int.le_refl _
 | succ n ih =>
  by_cases hm:m=n+1
  ·subst hm;exact Int.le_refl _
  ·have:=ih (by omega);have:=zab n;rw[zao];omega
theorem zme {f m n} (h:Lm f n) (hm:m<=n):vf f m<=vf f n:=by
 obtain⟨d,rfl⟩:=Nat.exists_eq_add_of_le hm;have h1:=zz (h.sh (o:=m) (m:=d) (le_refl _));have h2:=mul_nonneg h1 (le_of_lt (zab m));rw[zM];omega
theorem zhx {f g n} (hf:Lm f n) (hg:Lm g n) (h:vf f n=vf g n):∀j,j<n->f j=g j:=by
 induction n with
 | zero=>intro j hj;omega
 | succ n ih =>
  have a1:=zz (hf.mono (m:=n) (by omega));have a2:=zar (hf.mono (m:=n) (by omega))
  have b1:=zz (hg.mono (m:=n) (by omega));have b2:=zar (hg.mono (m:=n) (by omega))
  rw[zI,zI]at h
  have hp:=zab n;have e:f n=g n:=by
   rcases Int.lt_trichotomy (f n) (g n)with hl|hl|hl
   ·have:(f n+1)*pw n<=g n*pw n:=Int.mul_le_mul_of_nonneg_right (by omega) (le_of_lt hp);rw[add_mul,one_mul]at this;omega
   ·exact hl
   ·have:(g n+1)*pw n<=f n*pw n:=Int.mul_le_mul_of_nonneg_right (by omega) (le_of_lt hp);rw[add_mul,one_mul]at this;omega
  have hr:=ih (hf.mono (by omega)) (hg.mono (by omega)) (by rw[e]at h;omega);intro j hj;by_cases hjn:j=n
  ·subst hjn;exact e
  ·exact hr j (by omega)
theorem zbT {f g n m} (hf:Lm f n) (hg:Lm g m) (ff:Fm f n) (h:vf f n<=vf g m):n<=m:=by
 apply Nat.le_of_not_lt;intro hlt;have h1:=zaI hf ff (by omega);have h2:=zar hg;have h3:=zaQ (m:=m) (n:=n-1) (by omega);omega
theorem zgt {f g n m} (hf:Lm f n) (hg:Lm g m) (ff:Fm f n) (fg:Fm g m) (h:vf f n=vf g m):n=m/\∀j,j<n->f j=g j:=by
 have e:n=m:=Nat.le_antisymm (zbT hf hg ff (by omega)) (zbT hg hf fg (by omega));subst e;exact⟨rfl,zhx hf hg h⟩
theorem zbY {f m n} (hm:m<=n) (hz:∀j,m<=j->j<n->f j=0):vf f m=vf f n:=(ziL hm hz).symm
def Ord (c a b:Int):Prop:=c=-1/\a<b∨c=0/\a=b∨c=1/\b<a
theorem zeI (b:Bool) (w:World):Calls prog 162 #[.bool b] w λe w'=>e=returned (.int .i64 (if b then -1 else 1))/\w'=w:=by
 cases b
 all_goals
  go_enter func162,ntmps162;go_wp2;go_ret;exact⟨rfl,rfl⟩
theorem zal (ao:Option Addr) (n cap:Nat) (f:Nat->Int) (w:World) (hm:n<=9223372036854775807) (hr:Rd .u64 w ao n f) :
  Calls prog 91 #[slice ao n cap] w λe w'=>e=returned (.bool (fmB f n))/\w'=w:=by
 by_cases h0:n=0
 ·subst h0;have e:fmB f 0=true:=by simp[fmB]
  go_enter func91,ntmps91;go_wp2;go_ret;exact⟨by rw[e];rfl,rfl⟩
 ·obtain⟨b,o,rfl⟩:=hr.at (by omega);obtain⟨x,hx⟩:∃x,f (n-1)=x:=⟨_,rfl⟩;have hc:w.cell? ⟨b,o+(n-1),none⟩=some (.int .u64 x):=by rw[<-hx];exact hr.cell (by omega)
  have h1:((n:Int)==0)=false:=by simp;omega
  have e:fmB f n=(x != 0):=by simp[fmB,h0,hx,bne];rfl
  have E:=zk e;clear hr hx e;go_enter func91,ntmps91;go_wp2;go_ret;exact⟨by rw[E.out];rfl,rfl⟩
theorem zdk (ao:Option Addr) (n cap:Nat) (f:Nat->Int) (w:World) (hc:n<=cap) (hm:cap<=140737488355328) (hr:Rd .u64 w ao n f) :
  Calls prog 153 #[slice ao n cap] w λe w'=>w'=w/\∃m,m<=n/\(∀j,m<=j->j<n->f j=0) /\
   (m=0/\e=returned (slice none 0 0)∨0<m/\f (m-1)≠0/\e=returned (slice ao m cap)):=by
 go_enter func153,ntmps153;go_wp2
 go_loop [3] (λt=>∃m:Nat,m<=n/\t=.int .i64 m/\Hid (∀j,m<=j->j<n->f j=0)) (λt=>(intOf t).toNat)
 case atStart=>exact⟨n,le_refl _,rfl,λj h1 h2=>by omega⟩
 case round =>
  obtain⟨m,hmn,rfl,HZ⟩:=hrel;by_cases h0:0<m
  ·obtain⟨b,o,rfl⟩:=hr.at (by omega);obtain⟨x,hx⟩:∃x,f (m-1)=x:=⟨_,rfl⟩;have hcell:w.cell? ⟨b,o+(m-1),none⟩=some (.int .u64 x):=by rw[<-hx];exact hr.cell (by omega)
   have HX:Hid (f (m-1)=x):=hx;clear hx hr;by_cases hx0:x=0
   ·subst hx0;go_wp2
    go_round
    case rel =>
     refine⟨m-1,by omega,by go_num,λj h1 h2=>?_⟩;by_cases hj:j=m-1
     ·rw[hj];exact HX.out
     ·exact HZ.out j (by omega) h2
    case measure=>simp[intOf];omega
   ·have hx1:(x==0)=false:=by simp[hx0]
    go_wp2;go_ret;exact⟨rfl,m,hmn,HZ.out,.inr ⟨h0,by rw[HX.out];exact hx0,rfl⟩⟩
  ·have h00:m=0:=by omega
   subst h00;go_wp2;go_ret;exact⟨rfl,0,hmn,HZ.out,.inl ⟨rfl,rfl⟩⟩
theorem ziu {f g n k} (hf:Lm f n) (hg:Lm g n) (hk:k<n) (he:∀j,k<j->j<n->f j=g j) (hl:f k<g k):vf f n<vf g n:=by
 obtain⟨d,rfl⟩:=Nat.exists_eq_add_of_le (show k+1<=n by omega);have e:vf (sh f (k+1)) d=vf (sh g (k+1)) d:=zN (λj hj=>he _ (by omega) (by omega));have a:=zar (hf.mono (m:=k) (by omega));have b:=zz (hg.mono (m:=k) (by omega))
 have hp:(f k+1)*pw k<=g k*pw k:=Int.mul_le_mul_of_nonneg_right (by omega) (le_of_lt (zab k));rw[add_mul,one_mul]at hp
 rw[zM f (k+1) d,zM g (k+1) d,e,zI f k,zI g k];omega
theorem ziv (ao bo:Option Addr) (n m ca cb:Nat) (f g:Nat->Int) (w:World) (hm:n<=140737488355328) (hm':m<=140737488355328)
  (hr:Rd .u64 w ao n f) (hs:Rd .u64 w bo m g) (hf:Lm f n) (hg:Lm g m) (ff:Fm f n) (fg:Fm g m) :
  Calls prog 147 #[slice ao n ca,slice bo m cb] w λe w'=>(∃q,w'=w.drewN q)/\∃c,e=returned (.int .i64 c)/\Ord c (vf f n) (vf g m):=by
 have FF:=zk ff;have FG:=zk fg;have HF:=zk hf;have HG:=zk hg;clear ff fg hf hg;rcases Nat.lt_trichotomy n m with hlt|heq|hlt
 ·have h1:((n:Int) != m)=true:=by simp;omega
  have h2:decide ((n:Int)<m)=true:=by simp;omega
  have h3:vf f n<vf g m:=by
   apply Int.lt_of_not_ge;intro h
   have:=zbT HG.out HF.out FG.out h;omega
  have H3:=zk h3;clear h3;go_enter func147,ntmps147;go_wp2_with(go_at_call 162;refine(zeI _ _).mono ?_;rintro e w' ⟨rfl,rfl⟩)
  go_ret;exact⟨⟨0,rfl⟩,-1,rfl,.inl ⟨rfl,H3.out⟩⟩
 ·subst heq;have h1:((n:Int) != n)=false:=by simp
  go_enter func147,ntmps147;go_wp2;go_loopw[20] (λt wr=>∃i:Nat,i<=n/\t=.int .i64 i/\Hid (∀j,n-i<=j->j<n->f j=g j)/\∃q,wr=w.drewN q) (λt _=>n-(intOf t).toNat)
  case atStart=>exact⟨0,by omega,rfl,λj h1 h2=>by omega,0,rfl⟩
  case round =>
   obtain⟨i,hin,rfl,HE,q,rfl⟩:=hrel;by_cases hlt:i<n
   ·obtain⟨b,o,rfl⟩:=hr.at (by omega);obtain⟨b',o',rfl⟩:=hs.at (by omega);obtain⟨x,hx⟩:∃x,f (n-1-i)=x:=⟨_,rfl⟩;obtain⟨y,hy⟩:∃y,g (n-1-i)=y:=⟨_,rfl⟩;have hca:w.cell? ⟨b,o+(n-1-i),none⟩=some (.int .u64 x):=by rw[<-hx];exact hr.cell (by omega)
    have hcb:w.cell? ⟨b',o'+(n-1-i),none⟩=some (.int .u64 y):=by rw[<-hy];exact hs.cell (by omega)
    have HX:Hid (f (n-1-i)=x):=hx;have HY:Hid (g (n-1-i)=y):=hy;clear hx hy hr hs;by_cases hxy:x=y
    ·subst hxy;have hne:(x != x)=false:=by simp
     go_wp2
     go_quiet (fail)
     go_wp2;go_roundw
     case rel =>
      refine⟨i+1,by omega,by go_num,λj h1 h2=>?_,_,rfl⟩;by_cases hj:j=n-1-i
      ·rw[hj];exact HX.out.trans HY.out.symm
      ·exact HE.out j (by omega) h2
     case measure=>simp[intOf];omega
    ·have hne:(x != y)=true:=by simp[hxy]
     by_cases hl:x<y
     ·have hd:decide (x<y)=true:=by simp[hl]
      go_wp2
      go_quiet (fail)
      go_wp2
      go_quiet ((go_at_call 162;exact(zeI _ _).mono (λ_ _ h=>⟨h.1,_,h.2⟩)))
      go_wp2;go_ret;refine⟨⟨_,by (repeat rw[World.drewN_drewN]) <;> rfl⟩,-1,rfl,.inl ⟨rfl,ziu HF.out HG.out (k:=n-1-i) (by omega) (λj h1 h2=>HE.out j (by omega) h2) (by rw[HX.out,HY.out];exact hl)⟩⟩
     ·have hd:decide (x<y)=false:=by simp;omega
      go_wp2
      go_quiet (fail)
      go_wp2
      go_quiet ((go_at_call 162;exact(zeI _ _).mono (λ_ _ h=>⟨h.1,_,h.2⟩)))
      go_wp2;go_ret;refine⟨⟨_,by (repeat rw[World.drewN_drewN]) <;> rfl⟩,1,rfl,.inr (.inr ⟨rfl,ziu HG.out HF.out (k:=n-1-i) (by omega) (λj h1 h2=>(HE.out j (by omega) h2).symm) (by rw[HX.out,HY.out];omega)⟩)⟩
   ·have hi:i=n:=by omega
    subst hi;go_wp2;go_ret;exact⟨⟨_,rfl⟩,0,rfl,.inr (.inl ⟨rfl,zN (λj hj=>HE.out j (by omega) hj)⟩)⟩
 ·have h1:((n:Int) != m)=true:=by simp;omega
  have h2:decide ((n:Int)<m)=false:=by simp;omega
  have h3:vf g m<vf f n:=by
   apply Int.lt_of_not_ge;intro h
   have:=zbT HF.out HG.out FF.out h;omega
  have H3:=zk h3;clear h3;go_enter func147,ntmps147;go_wp2_with(go_at_call 162;refine(zeI _ _).mono ?_;rintro e w' ⟨rfl,rfl⟩)
  go_ret;exact⟨⟨0,rfl⟩,1,rfl,.inr (.inr ⟨rfl,H3.out⟩)⟩
end Go.Proofs.YtlbgphjdibbkjaaGreat
namespace Go.Proofs.YtlbgphjdibbkjaaGreat
open Value (slice)
open Ending (returned)
open Nat (le_refl zero_add sub_self)
open World (block_lt_of_cell?)
open Int (le_of_lt mul_nonneg add_mul mul_comm one_mul pow_pos)
open Go.Proofs.Tryz
open Go.RowKit Go.Shelf
def bor (x y:Int):Int:=if x<y then 1 else 0
theorem zcn (x y:Int):0<=bor x y/\bor x y<=1:=by unfold bor;split <;> decide
theorem zoi (x y c:Int) (hx:0<=x) (hy:0<=y) (hc0:0<=c) (hc:c<=1) (w:World):(callFunc 193 #[.int .u64 x,.int .u64 y,.int .u64 c]).run prog w =
  .ok (.value (.tuple #[.int .u64 ((x+y+c)%18446744073709551616),.int .u64 ((x+y+c)/18446744073709551616)])) w:=by
 obtain⟨x,rfl⟩:=Int.eq_ofNat_of_zero_le hx;obtain⟨y,rfl⟩:=Int.eq_ofNat_of_zero_le hy;obtain⟨c,rfl⟩:=Int.eq_ofNat_of_zero_le hc0;rw[run_callFunc_extern func193 (by kernel_rfl) (by kernel_rfl) (by kernel_rfl) (e:=add64Entry) (by kernel_rfl),run_add64 x y c (by omega) (by omega) (by omega) (by omega)];simp only[Result.andThen]
theorem zqb (x y b:Int) (hx:0<=x) (hy:0<=y) (hy':y<18446744073709551616) (hb0:0<=b) (hb:b<=1) (w:World):(callFunc 187 #[.int .u64 x,.int .u64 y,.int .u64 b]).run prog w =
  .ok (.value (.tuple #[.int .u64 ((x-y-b)%18446744073709551616),.int .u64 (bor x (y+b))])) w:=by
 obtain⟨x,rfl⟩:=Int.eq_ofNat_of_zero_le hx;obtain⟨y,rfl⟩:=Int.eq_ofNat_of_zero_le hy;obtain⟨b,rfl⟩:=Int.eq_ofNat_of_zero_le hb0;have e1:(((x+18446744073709551616-y-b)%18446744073709551616:Nat):Int)=((x:Int)-y-b)%18446744073709551616:=by omega
 have e2:((if x<y+b then 1 else 0:Nat):Int)=bor (x:Int) (y+b):=by unfold bor;split <;> split <;> omega
 rw[run_callFunc_extern func187 (by kernel_rfl) (by kernel_rfl) (by kernel_rfl) (e:=sub64Entry) (by kernel_rfl),run_sub64 x y b (by omega),<-e1,<-e2];rfl
theorem add64_0 (x y:Int) (hx:0<=x) (hy:0<=y) (w:World):(callFunc 193 #[.int .u64 x,.int .u64 y,.int .u64 0]).run prog w =
  .ok (.value (.tuple #[.int .u64 ((x+y)%18446744073709551616),.int .u64 ((x+y)/18446744073709551616)])) w:=by
 simpa using zoi x y 0 hx hy (Int.le_refl 0) (by decide) w
theorem zgA (x y:Int) (hx:0<=x) (hy:0<=y) (hy':y<18446744073709551616) (w:World):(callFunc 187 #[.int .u64 x,.int .u64 y,.int .u64 0]).run prog w =
  .ok (.value (.tuple #[.int .u64 ((x-y)%18446744073709551616),.int .u64 (bor x y)])) w:=by
 simpa using zqb x y 0 hx hy hy' (Int.le_refl 0) (by decide) w
end Go.Proofs.YtlbgphjdibbkjaaGreat
namespace Go.Proofs.YtlbgphjdibbkjaaGreat
open Value (slice)
open Ending (returned)
open Nat (le_refl zero_add sub_self)
open World (block_lt_of_cell?)
open Int (le_of_lt mul_nonneg add_mul mul_comm one_mul pow_pos)
open Go.Proofs.Tryz
open Go.RowKit
theorem zog {V x c p:Int}:V+((x+c)%18446744073709551616)*p+((x+c)/18446744073709551616)*(18446744073709551616*p)=V+x*p+c*p:=by
 have e:x+c=18446744073709551616*((x+c)/18446744073709551616)+(x+c)%18446744073709551616:=by omega
 grind
theorem zcm {f f' o k cc w0 y G} (HV:vf (sh f' o) k+cc*pw k=vf (sh f o) k+vf G k+w0) (hE:f' (o+k)=f (o+k)) (hy:G k=y) :
  vf (sh (upd f' (o+k) ((f' (o+k)+y+cc)%18446744073709551616)) o) (k+1)+((f' (o+k)+y+cc)/18446744073709551616)*pw (k+1)=vf (sh f o) (k+1)+vf G (k+1)+w0:=by
 have e1:vf (sh (upd f' (o+k) ((f' (o+k)+y+cc)%18446744073709551616)) o) k=vf (sh f' o) k:=zN (λj hj=>zE _ _ _ _ (by omega));rw[zI,zI,zI,e1,zao,zaS,zaS,zac,hE,hy];have:=zog (V:=vf (sh f' o) k) (x:=f (o+k)+y) (c:=cc) (p:=pw k);rw[this]
 grind
theorem zlS (ao:Option Addr) (cap:Nat) (w0:Int) (w:World):Calls prog 189 #[slice ao 0 cap,.int .u64 w0] w λe w'=>e=returned (.tuple #[])/\w'=w:=by
 go_enter func189,ntmps189;go_wp2;refine wp_loop_rounds 1 ?_;rw[rounds_succ];go_wp2;exact bodyPost_end (v:=.tuple #[]) (results_none rfl _ _ _) rfl ⟨rfl,rfl⟩
theorem zgk (g o n cap N:Nat) (f:Nat->Int) (w0:Int) (w:World) (hb:Blk .u64 49 w g N f) (hf:Lm f N) (ho:o+n<=N) (hm:N<=140737488355328) (h0:0<=w0) (h1:w0<18446744073709551616)
  (hroom:vf (sh f o) n+w0<pw n) :
  Calls prog 189 #[slice (some ⟨g,o,none⟩) n cap,.int .u64 w0] w λe w'=>e=returned (.tuple #[])/\Only g w w' /\
   ∃f',Blk .u64 49 w' g N f'/\Lm f' N/\(∀j,j<o∨o+n<=j->f' j=f j)/\vf (sh f' o) n=vf (sh f o) n+w0:=by
 have HR:=zk hroom;clear hroom;go_enter func189,ntmps189;go_wp2;go_loopw[1,7] (λc t wr=>∃(k:Nat) (cc:Int) (f':Nat->Int),k<=n/\t=.int .i64 k/\c=.int .u64 cc/\0<=cc/\cc<18446744073709551616/\Only g w wr/\Blk .u64 49 wr g N f'/\Hid (Lm f' N)/\Hid (∀j,j<o∨o+k<=j->f' j=f j) /\
   Hid (vf (sh f' o) k+cc*pw k=vf (sh f o) k+vf (λ_=>0) k+w0)) (λ_ t _=>n-(intOf t).toNat)
 case atStart=>exact⟨0,w0,f,by omega,rfl,rfl,h0,h1,Only.refl _ _,hb,hf,λ_ _=>rfl,by simp[Hid,vf,pw]⟩
 case round =>
  obtain⟨k,cc,f',hk,rfl,rfl,c0,c1,hon,hbl,HL,HE,HV⟩:=hrel;have z0:∀i,vf (λ_=>0) i=0:=λi=>zcK (λ_ _=>rfl)
  have Z0:=zk z0;clear z0;by_cases hlt:k<n
  ·by_cases hc:cc=0
   ·subst hc;go_wp2;refine bodyPost_ret (v:=.tuple #[]) (results_none rfl _ _ _) rfl ⟨rfl,hon,f',hbl,HL.out,λj hj=>HE.out j (by omega),?_⟩;have hv:=HV.out;obtain⟨d,rfl⟩:=Nat.exists_eq_add_of_le (show k<=n by omega);rw[zM,zM (sh f o),zax,zax,zN (f:=sh f' (o+k)) (g:=sh f (o+k)) (λj hj=>HE.out _ (by omega))];rw[Z0.out]at hv
    omega
   ·have hc1:(cc==0)=false:=by simp[hc]
    obtain⟨x,hx⟩:∃x,f' (o+k)=x:=⟨_,rfl⟩;have hcell:wr.cell? ⟨g,o+k,none⟩=some (.int .u64 x):=by rw[<-hx];exact hbl.cell (by omega)
    have hfz:=hbl.frozen (o+k);have hx01:=HL.out (o+k) (by omega);rw[hx]at hx01
    obtain⟨x0,x1⟩:=hx01;have HX:=zk hx;clear hx;go_wp2_with(simp only[add64_0 x cc x0 c0])
    go_roundw
    case rel =>
     refine⟨k+1,_,upd f' (o+k) ((x+cc)%18446744073709551616),by omega,by go_num,rfl,by omega,by omega,hon.setCell _ _ _,hbl.set _ _,HL.out.upd (by omega),?_,?_⟩
     ·intro j hj;rw[zE _ _ _ _ (by omega)];exact HE.out j (by omega)
     ·have:=zcm (y:=0) HV.out (HE.out _ (by omega)) rfl;rw[HX.out]at this
      simpa[Hid]using this
    case measure=>simp[intOf];omega
  ·have hkn:k=n:=by omega
   subst hkn;go_wp2;refine bodyPost_end (v:=.tuple #[]) (results_none rfl _ _ _) rfl ⟨rfl,hon,f',hbl,HL.out,HE.out,?_⟩;have hv:=HV.out;rw[Z0.out]at hv
   have h1:=zz (HL.out.sh (o:=o) (m:=k) (by omega));have hp:=zab k;have hr:=HR.out;by_cases hc:cc=0
   ·subst hc;simpa using hv
   ·exfalso;have:1*pw k<=cc*pw k:=Int.mul_le_mul_of_nonneg_right (by omega) (le_of_lt hp);omega
theorem zeV (g o n cap N:Nat) (f:Nat->Int) (bo:Option Addr) (m cb:Nat) (h:Nat->Int) (w:World) (hb:Blk .u64 49 w g N f) (hf:Lm f N) (ho:o+n<=N) (hm:N<=140737488355328)
  (hr:Rd .u64 w bo m h) (hh:Lm h m) (hoff:0<m->Off bo g) (hmn:m<=n) (hcap:n<=cap) (hcm:cap<=140737488355328)
  (hroom:vf (sh f o) n+vf h m<pw n) :
  Calls prog 183 #[slice (some ⟨g,o,none⟩) n cap,slice bo m cb] w λe w'=>e=returned (.tuple #[])/\Only g w w' /\
   ∃f',Blk .u64 49 w' g N f'/\Lm f' N/\(∀j,j<o∨o+n<=j->f' j=f j)/\vf (sh f' o) n=vf (sh f o) n+vf h m:=by
 have HR:=zk hroom;have HH:=(show Hid (Lm h m)from hh);have HRd:=(show Hid (Rd .u64 w bo m h)from hr);clear hroom hh hr;go_enter func183,ntmps183;go_wp2;go_loopw[4,8] (λc t wr=>∃(k:Nat) (cc:Int) (f':Nat->Int),k<=m/\t=.int .i64 k/\c=.int .u64 cc/\0<=cc/\cc<=1/\Only g w wr/\Blk .u64 49 wr g N f'/\Hid (Lm f' N)/\Hid (∀j,j<o∨o+k<=j->f' j=f j) /\
   Hid (vf (sh f' o) k+cc*pw k=vf (sh f o) k+vf h k+0)) (λ_ t _=>m-(intOf t).toNat)
 case atStart=>exact⟨0,0,f,by omega,rfl,rfl,by omega,by omega,Only.refl _ _,hb,hf,λ_ _=>rfl,by simp[Hid,vf,pw]⟩
 case round =>
  obtain⟨k,cc,f',hk,rfl,rfl,c0,c1,hon,hbl,HL,HE,HV⟩:=hrel;by_cases hlt:k<m
  ·have hr:=HRd.out;obtain⟨b,ob,rfl⟩:=hr.at (by omega);obtain⟨x,hx⟩:∃x,f' (o+k)=x:=⟨_,rfl⟩;obtain⟨y,hy⟩:∃y,h k=y:=⟨_,rfl⟩;have hcell:wr.cell? ⟨g,o+k,none⟩=some (.int .u64 x):=by rw[<-hx];exact hbl.cell (by omega)
   have hcelb:wr.cell? ⟨b,ob+k,none⟩=some (.int .u64 y):=by rw[<-hy];exact(hr.only hon (hoff (by omega))).cell hlt
   have hfz:=hbl.frozen (o+k);have hx01:=HL.out (o+k) (by omega);have hy01:=HH.out k hlt;rw[hx]at hx01
   rw[hy]at hy01
   obtain⟨x0,x1⟩:=hx01;obtain⟨y0,y1⟩:=hy01;have HX:=zk hx;have HY:=zk hy;clear hx hy hr;have hadd:=λw=>zoi x y cc x0 y0 c0 c1 w
   go_wp2
   go_region
   all_goals
    go_wp2;go_roundw
    case rel =>
     refine⟨k+1,_,upd f' (o+k) ((x+y+cc)%18446744073709551616),by omega,by go_num,rfl,by omega,by omega,?_,?_,HL.out.upd (by omega),?_,?_⟩
     ·exact(hon.setCell _ _ _).drew
     ·exact(hbl.set _ _).drew
     ·intro j hj;rw[zE _ _ _ _ (by omega)];exact HE.out j (by omega)
     ·have:=zcm (y:=y) HV.out (HE.out _ (by omega)) HY.out;rw[HX.out]at this
      exact this
    case measure=>simp[intOf];omega
  ·have hkm:k=m:=by omega
   subst hkm;have hv:=HV.out;obtain⟨d,rfl⟩:=Nat.exists_eq_add_of_le hmn;have hsh:∀j,j<d->sh f' (o+k) j=sh f (o+k) j:=λj hj=>HE.out _ (by omega)
   have hroom:vf (sh f' (o+k)) d+cc<pw d:=by
    have h0:=zz (HL.out.sh (o:=o) (m:=k) (by omega));have h1:=HR.out;rw[zM,zax,<-zN hsh,zbU]at h1
    have hp:=zab k;apply Int.lt_of_mul_lt_mul_right (a:=pw k) _ (le_of_lt hp);rw[add_mul,mul_comm (pw d)];omega
   have hv2:=HV.out;have HS:=zk hsh;clear hv hv2 hsh;by_cases hd:d=0
   ·subst hd;have hc0:cc=0:=by simp[vf,pw]at hroom;omega
    by_cases hne:k=cap
    all_goals
     go_wp2_with(go_at_call 189;refine(zlS _ _ _ _).mono ?_;rintro e w' ⟨rfl,rfl⟩)
     refine bodyPost_end (v:=.tuple #[]) (results_none rfl _ _ _) rfl ⟨rfl,hon,f',hbl,HL.out,λj hj=>HE.out j (by omega),?_⟩;have hv:=HV.out;rw[hc0]at hv
     simpa using hv
   ·have hne:¬(k=cap):=by omega
    go_wp2_with fail
    refine(zgk g (o+k) d (cap-k) N f' cc wr hbl HL.out (by omega) hm c0 (by omega) hroom).mono ?_;rintro e w' ⟨rfl,hon2,f2,hb2,hl2,he2,hv2⟩;go_wp2;refine bodyPost_end (v:=.tuple #[]) (results_none rfl _ _ _) rfl ⟨rfl,hon.trans hon2,f2,hb2,hl2,λj hj=>(he2 j (by omega)).trans (HE.out j (by omega)),?_⟩;have hv:=HV.out;rw[zM,zM (sh f o),zax,zax,hv2,zN HS.out,zN (f:=sh f2 o) (g:=sh f' o) (λj hj=>he2 _ (by omega)),add_mul];omega
theorem zhB {x y c} (x0:0<=x) (x1:x<18446744073709551616) (y0:0<=y) (y1:y<18446744073709551616) (c0:0<=c) (c1:c<=1):(x-y-c)%18446744073709551616=x-y-c+18446744073709551616*bor x (y+c):=by
 unfold bor;split <;> omega
theorem zek {f f' o k cc y v c' G} (HV:vf (sh f' o) k-cc*pw k=vf (sh f o) k-vf G k) (hE:f' (o+k)=f (o+k)) (hy:G k=y) (hv:v=f' (o+k)-y-cc+18446744073709551616*c') :
  vf (sh (upd f' (o+k) v) o) (k+1)-c'*pw (k+1)=vf (sh f o) (k+1)-vf G (k+1):=by
 have e1:vf (sh (upd f' (o+k) v) o) k=vf (sh f' o) k:=zN (λj hj=>zE _ _ _ _ (by omega));rw[zI,zI,zI,e1,zao,zaS,zaS,zac,hv,hE,hy]
 grind
def ext (h:Nat->Int) (m:Nat):Nat->Int:=λj=>if j<m then h j else 0
theorem zap (h:Nat->Int) (m j:Nat) (hj:j<m):ext h m j=h j:=by simp[ext,hj]
theorem zav (h:Nat->Int) (m j:Nat) (hj:m<=j):ext h m j=0:=by simp[ext];omega
theorem zaJ (h:Nat->Int) (m n:Nat) (hn:m<=n):vf (ext h m) n=vf h m:=by
 rw[ziL hn (λj h1 _=>zav h m j h1)];exact zN (λj hj=>zap h m j hj)
theorem zdQ (g o n cap N:Nat) (f:Nat->Int) (bo:Option Addr) (m cb:Nat) (h:Nat->Int) (w:World) (hb:Blk .u64 49 w g N f) (hf:Lm f N) (ho:o+n<=N) (hm:N<=140737488355328)
  (hr:Rd .u64 w bo m h) (hh:Lm h m) (hoff:0<m->Off bo g) (hmn:m<=n) (hcap:n<=cap) (hcm:cap<=140737488355328)
  (hroom:vf h m<=vf (sh f o) n) :
  Calls prog 184 #[slice (some ⟨g,o,none⟩) n cap,slice bo m cb] w λe w'=>e=returned (.tuple #[])/\Only g w w' /\
   ∃f',Blk .u64 49 w' g N f'/\Lm f' N/\(∀j,j<o∨o+n<=j->f' j=f j)/\vf (sh f' o) n=vf (sh f o) n-vf h m:=by
 have HR:=zk hroom;have HH:=(show Hid (Lm h m)from hh);have HRd:=(show Hid (Rd .u64 w bo m h)from hr);clear hroom hh hr;go_enter func184,ntmps184;go_wp2;go_loopw[4,10] (λc t wr=>∃(k:Nat) (cc:Int) (f':Nat->Int),k<=m/\t=.int .i64 k/\c=.int .u64 cc/\0<=cc/\cc<=1/\Only g w wr/\Blk .u64 49 wr g N f'/\Hid (Lm f' N)/\Hid (∀j,j<o∨o+k<=j->f' j=f j) /\
   Hid (vf (sh f' o) k-cc*pw k=vf (sh f o) k-vf (ext h m) k)) (λ_ t _=>m-(intOf t).toNat)
 case atStart=>exact⟨0,0,f,by omega,rfl,rfl,by omega,by omega,Only.refl _ _,hb,hf,λ_ _=>rfl,by simp[Hid,vf,pw]⟩
 case round =>
  obtain⟨k,cc,f',hk,rfl,rfl,c0,c1,hon,hbl,HL,HE,HV⟩:=hrel;by_cases hlt:k<m
  ·have hr:=HRd.out;obtain⟨b,ob,rfl⟩:=hr.at (by omega);obtain⟨x,hx⟩:∃x,f' (o+k)=x:=⟨_,rfl⟩;obtain⟨y,hy⟩:∃y,h k=y:=⟨_,rfl⟩;have hcell:wr.cell? ⟨g,o+k,none⟩=some (.int .u64 x):=by rw[<-hx];exact hbl.cell (by omega)
   have hcelb:wr.cell? ⟨b,ob+k,none⟩=some (.int .u64 y):=by rw[<-hy];exact(hr.only hon (hoff (by omega))).cell hlt
   have hfz:=hbl.frozen (o+k);have hx01:=HL.out (o+k) (by omega);have hy01:=HH.out k hlt;rw[hx]at hx01
   rw[hy]at hy01
   obtain⟨x0,x1⟩:=hx01;obtain⟨y0,y1⟩:=hy01;have HX:=zk hx;have HY:=zk hy;clear hx hy hr;have hadd:=λw=>zqb x y cc x0 y0 y1 c0 c1 w
   go_wp2
   go_region
   all_goals
    go_wp2;go_roundw
    case rel =>
     refine⟨k+1,_,upd f' (o+k) ((x-y-cc)%18446744073709551616),by omega,by go_num,rfl,(zcn _ _).1,(zcn _ _).2,?_,?_,HL.out.upd (by omega),?_,?_⟩
     ·exact(hon.setCell _ _ _).drew
     ·exact(hbl.set _ _).drew
     ·intro j hj;rw[zE _ _ _ _ (by omega)];exact HE.out j (by omega)
     ·exact zek HV.out (HE.out _ (by omega)) ((zap h m k hlt).trans HY.out) (by rw[HX.out];exact zhB x0 x1 y0 y1 c0 c1)
    case measure=>simp[intOf];omega
  ·have hkm:k=m:=by omega
   subst hkm;obtain⟨d,rfl⟩:=Nat.exists_eq_add_of_le hmn;by_cases hd:d=0
   ·subst hd;have hfin:vf (sh f' o) k=vf (sh f o) k-vf h k:=by
     have hv:=HV.out;rw[zaJ h k k (le_refl _)]at hv
     have h0:=zar (HL.out.sh (o:=o) (m:=k) (by omega));have h1:=HR.out;by_cases hc:cc=0
     ·subst hc;simpa using hv
     ·obtain rfl:cc=1:=by omega
      simp at h1;omega
    have HFin:=zk hfin;clear hfin;by_cases hne:k=cap
    all_goals
     go_wp2;refine wp_loop_rounds 1 ?_;rw[rounds_succ];go_wp2;exact bodyPost_end (v:=.tuple #[]) (results_none rfl _ _ _) rfl ⟨rfl,hon,f',hbl,HL.out,λj hj=>HE.out j (by omega),HFin.out⟩
   ·have hne:¬(k=cap):=by omega
    obtain⟨w1,hw1⟩:∃w1,wr=w1:=⟨_,rfl⟩;subst hw1;go_wp2;go_loopw[4,36] (λc t wr=>∃(i:Nat) (cc:Int) (f':Nat->Int),i<=d/\t=.int .i64 i/\c=.int .u64 cc/\0<=cc/\cc<=1/\Only g w wr/\Blk .u64 49 wr g N f'/\Hid (Lm f' N)/\Hid (∀j,j<o∨o+(k+i)<=j->f' j=f j) /\
     Hid (vf (sh f' o) (k+i)-cc*pw (k+i)=vf (sh f o) (k+i)-vf (ext h k) (k+i))) (λ_ t _=>d-(intOf t).toNat)
    case atStart=>exact⟨0,cc,f',by omega,rfl,rfl,c0,c1,hon,hbl,HL.out,HE.out,HV.out⟩
    case round =>
     clear HV HE HL hbl hon c0 c1;obtain⟨i,cc,f',hi,rfl,rfl,c0,c1,hon,hbl,HL,HE,HV⟩:=hrel;by_cases hlt:i<d
     ·by_cases hc:cc=0
      ·subst hc;go_wp2;refine bodyPost_ret (v:=.tuple #[]) (results_none rfl _ _ _) rfl ⟨rfl,hon,f',hbl,HL.out,λj hj=>HE.out j (by omega),?_⟩;have hv:=HV.out;obtain⟨e,rfl⟩:=Nat.exists_eq_add_of_le (show i<=d by omega);rw[zaJ h k (k+i) (by omega)]at hv
       rw[<-Nat.add_assoc,zM,zM (sh f o),zax,zax,zN (f:=sh f' (o+(k+i))) (g:=sh f (o+(k+i))) (λj hj=>HE.out _ (by omega))];omega
      ·have hc1:(cc==0)=false:=by simp[hc]
       obtain⟨x,hx⟩:∃x,f' (o+k+i)=x:=⟨_,rfl⟩;have hcell:wr.cell? ⟨g,o+k+i,none⟩=some (.int .u64 x):=by rw[<-hx];exact hbl.cell (by omega)
       have hfz:=hbl.frozen (o+k+i);have hx01:=HL.out (o+k+i) (by omega);rw[hx]at hx01
       obtain⟨x0,x1⟩:=hx01;have HX:=zk hx;clear hx;go_wp2_with(simp only[zgA x cc x0 c0 (Int.lt_of_le_of_lt c1 (by decide))])
       go_roundw
       case rel =>
        refine⟨i+1,_,upd f' (o+k+i) ((x-cc)%18446744073709551616),by omega,by go_num,rfl,(zcn _ _).1,(zcn _ _).2,hon.setCell _ _ _,hbl.set _ _,HL.out.upd (by omega),?_,?_⟩
        ·intro j hj;rw[zE _ _ _ _ (by omega)];exact HE.out j (by omega)
        ·have e1:=zhB (y:=0) x0 x1 (by omega) (by omega) c0 c1;have:=zek (y:=0) (v:=(x-cc)%18446744073709551616) (c':=bor x cc) HV.out (HE.out _ (by omega)) (zav h k _ (by omega)) (by rw[<-Nat.add_assoc,HX.out];simpa using e1);rw[<-Nat.add_assoc]at this
         exact this
       case measure=>simp[intOf];omega
     ·have zk:i=d:=by omega
      subst zk;go_wp2;refine bodyPost_end (v:=.tuple #[]) (results_none rfl _ _ _) rfl ⟨rfl,hon,f',hbl,HL.out,HE.out,?_⟩;have hv:=HV.out;rw[zaJ h k (k+i) (by omega)]at hv
      have h0:=zar (HL.out.sh (o:=o) (m:=k+i) (by omega));have h1:=HR.out;by_cases hc:cc=0
      ·subst hc;simpa using hv
      ·obtain rfl:cc=1:=by omega
       omega
theorem addr_add (b o j:Nat):(⟨b,o,none⟩:Addr).add j=⟨b,o+j,none⟩:=by
 by_cases h:j=0
 ·subst h;simp[Addr.add]
 ·simp[Addr.add,h]
def lst (k:IntKind) (f:Nat->Int) (n:Nat):List Value:=(List.range n).map (λj=>Value.int k (f j))
theorem zS (k:IntKind) (f:Nat->Int) (n:Nat):(lst k f n).length=n:=by simp[lst]
theorem zbt (k:IntKind) (f:Nat->Int) (n j:Nat) (hj:j<n):(lst k f n)[j]?=some (.int k (f j)):=by simp[lst,hj]
theorem zcC {k f n j u} (h:(lst k f n)[j]?=some u):j<n/\u=.int k (f j):=by
 have hj:j<n:=by
  have:=(List.getElem?_eq_some_iff.1 h).1
  rwa[zS]at this
 rw[zbt k f n j hj]at h
 exact⟨hj,(Option.some.inj h).symm⟩
theorem zeN (k:IntKind) (f:Nat->Int) (n:Nat):∀u ∈ lst k f n,u.oneCell'=true:=by
 intro u hu;simp only[lst,List.mem_map]at hu;obtain⟨j,_,rfl⟩:=hu;rfl
theorem zlx {k f g n} (h:∀j,j<n->f j=g j):lst k f n=lst k g n:=by
 simp only[lst];refine List.map_congr_left (λj hj=>?_);rw[h j (List.mem_range.1 hj)]
def cat (f:Nat->Int) (n:Nat) (g:Nat->Int):Nat->Int:=λj=>if j<n then f j else g (j-n)
theorem zec {f g n j} (h:j<n):cat f n g j=f j:=by simp[cat,h]
theorem zda {f g n j} (h:n<=j):cat f n g j=g (j-n):=by simp[cat];omega
theorem lst_cat (k:IntKind) (f g:Nat->Int) (n m:Nat):lst k f n++lst k g m=lst k (cat f n g) (n+m):=by
 apply List.ext_getElem?;intro j;by_cases h1:j<n
 ·rw[List.getElem?_append_left (by rw[zS];exact h1),zbt _ _ _ _ h1,zbt _ _ _ _ (by omega),zec h1]
 ·by_cases h2:j<n+m
  ·rw[List.getElem?_append_right (by rw[zS];omega),zS,zbt _ _ _ _ (by omega),zbt _ _ _ _ h2,zda (by omega)]
  ·rw[List.getElem?_eq_none (by simp[zS];omega),List.getElem?_eq_none (by simp[zS];omega)]
def Own (k:IntKind) (e:TypeId) (w:World) (base:Nat) (v:Value) (n:Nat) (f:Nat->Int):Prop:=w.ownsRow base e 1 v n (lst k f n)
theorem zdG (k:IntKind) (e:TypeId) (w:World) (base:Nat) (f:Nat->Int):Own k e w base (slice none 0 0) 0 f:=World.ownsRow_nil _ _ _ _
theorem Own.shape {k e w base v n f} (h:Own k e w base v n f):∃ao cap,v=.slice ao n cap/\n<=cap/\(ao=none->cap=0)/\cap<=maxLen/\Rd k w ao n f/\(∀a,ao=some a->base<=a.block/\a.block<w.heap.size):=by
 obtain⟨h1,h2⟩:=h;rcases h2 with⟨rfl,rfl⟩|⟨g,cap,cur,rfl,hb,hg,hn,hm,hs,ht⟩
 ·exact⟨none,0,rfl,le_refl _,λ_=>rfl,by simp[maxLen],Rd.zero,λa ha=>by cases ha⟩
 ·refine⟨_,cap,rfl,hn,(λh=>by cases h),hm,Rd.mk (λj hj=>?_),λa ha=>?_⟩
  ·have e1:(lst k f n)[j]?=cur.toList[j]?:=by
    rw[<-ht,List.getElem?_take,if_pos (by omega)]
   rw[zbt k f n j hj]at e1
   rw[zero_add];simp[World.cell?,hg];simpa using e1.symm
  ·cases ha
   exact⟨hb,(Array.getElem?_eq_some_iff.1 hg).1⟩
theorem Own.q_ {k e w w' base v n f} (h:Own k e w base v n f) (hb:Bl w w'):Own k e w' base v n f :=
 World.ownsRow.kept h ⟨hb.os,hb.tape,hb.output,hb.size,λk hk _=>hb.block k hk⟩ (row:=none) (by
  cases hv:v.ownBlock with
  | none=>exact .inl rfl
  | some x=>exact .inr (by simp))
theorem Own.alloc {k e w base v n f} (h:Own k e w base v n f) (o:Obj):Own k e (w.alloc o) base v n f:=World.ownsRow.alloc h o
theorem Own.ge {k e w base v n f} (h:Own k e w base v n f):∀g,v.ownBlock=some g->base<=g:=λg hg=>(World.ownsRow.lt h g hg).1
theorem Own.congr {k e w base v n f g} (h:Own k e w base v n f) (he:∀j,j<n->f j=g j):Own k e w base v n g:=by
 unfold Own at h ⊢;rw[<-zlx he];exact h
theorem zdm {k e w g N f} (h:Blk k e w g N f) {base n} (hb:base<=g) (hn:n<=N) (hm:N<=maxLen):Own k e w base (slice (some ⟨g,0,none⟩) n N) n f:=by
 obtain⟨arr,h1,h2,h3⟩:=h;refine⟨by rw[zS];omega,.inr ⟨g,N,arr,rfl,hb,h1,hn,hm,by omega,?_⟩⟩;apply List.ext_getElem?;intro j;by_cases hj:j<n
 ·rw[List.getElem?_take,if_pos (by omega),zbt _ _ _ _ hj];simpa using h3 j (by omega)
 ·rw[List.getElem?_eq_none (by simp;omega),List.getElem?_eq_none (by rw[zS];omega)]
theorem zaG (w:World) (e:TypeId) (x:Int):Rd .u64 (w.alloc (.cells #[.int .u64 x] e)) (some ⟨w.heap.size,0,none⟩) 1 (λ_=>x) :=
 Rd.mk (λj hj=>by
  rw[zero_add,World.cell?_alloc_new];obtain rfl:j=0:=by omega
  rfl)
theorem zah {P} (k:IntKind) (w:World) {ops rest o a Q} (hg:o.guard=none) (l c:Operand) (t:TypeId) (hop:o.op=Op.makeSlice t l c) (e:TypeId) (bytes:Nat) (h1:P.underlying t=some (.slice e)) (h2:(P.info? e).map (λi=>(i.zero,i.size,i.bytes))=some (some (.int k 0),1,bytes)) (kl kc:IntKind) (L C:Int) (n:Nat) (hl:a.eval l=.int kl L) (hc:a.eval c=.int kc C) (hL:L=(n:Int)) (hC:C=(n:Int)) (b2:bytes*n<=281474976710656) (b3:n<=maxLen) (hK:∀w',Blk k e w' w.heap.size n (λ_=>0)->Bl w w'->wpList P ops Q rest (a.put o.dst (slice (some ⟨w.heap.size,0,none⟩) n n)) w') :
  wpList P ops Q (o :: rest) a w:=by
 obtain⟨i,hi,hz0,hz1,hz2⟩:=info_parts h2;refine wpList_make_full w hg l c t hop w.heap.size e i (.int k 0) 1 h1 hi hz0 hz1 kl kc L C n hl hc hL hC (by rw[hz2];exact b2) b3 (le_refl _) ?_;intro w' hown hgr;refine hK w' ?_ ((Below.refl _ _).grown hgr (le_refl _) (λk h=>by cases h));obtain⟨h1,h2⟩:=hown;have hm:(madeCells (Value.int k 0).cells (n*1)).toList=lst k (λ_=>0) n:=by
  show(madeCells #[Value.int k 0] (n*1)).toList=_;rw[toList_madeCells_one,Nat.mul_one];apply List.ext_getElem?;intro j;by_cases hj:j<n
  ·rw[zbt _ _ _ _ hj,List.getElem?_replicate,if_pos hj]
  ·rw[List.getElem?_eq_none (by simp;omega),List.getElem?_eq_none (by rw[zS];omega)]
 rcases h2 with⟨hv,_⟩|⟨g,cap,cur,hv,hb,hg,hn,hm2,hs,ht⟩
 ·cases hv
 ·cases hv
  refine⟨cur,hg,by omega,λj hj=>?_⟩;rw[hm]at ht
  have:cur.toList[j]?=(lst k (λ_=>0) n)[j]?:=by rw[<-ht,List.getElem?_take,if_pos (by omega)]
  rw[zbt _ _ _ _ hj]at this
  simpa using this
def put (f:Nat->Int) (off n:Nat) (h:Nat->Int):Nat->Int:=λj=>if off<=j/\j<off+n then h (j-off) else f j
theorem zmS {f h off n j} (h1:off<=j) (h2:j<off+n):put f off n h j=h (j-off):=by simp[put,h1,h2]
theorem zeH {f h off n j} (h1:j<off∨off+n<=j):put f off n h j=f j:=by
 unfold put;rw[if_neg (by omega)]
theorem ziT {k e w g N f off n h} (hb:Blk k e w g N f) (hfit:off+n<=N) {cur t fr} (hc:w.heap[g]?=some (.cells cur t fr)) :
  Blk k e (w.setRow g (cur.toList.take off++(lst k h n++cur.toList.drop (off+(lst k h n).length))).toArray) g N (put f off n h):=by
 obtain⟨arr,h1,h2,h3⟩:=hb;rw[h1]at hc
 obtain rfl:arr=cur:=by simpa using congrArg (λo=>match o with|some (Obj.cells c _ _)=>c|_=>#[]) hc
 refine⟨_,setRow_heap w g _ _ _ _ h1,by simp[zS,h2];omega,λj hj=>?_⟩;rw[List.getElem?_toArray];by_cases a1:j<off
 ·rw[List.getElem?_append_left (by simp;omega),List.getElem?_take,if_pos a1,zeH (.inl a1)];simpa using h3 j hj
 ·rw[List.getElem?_append_right (by simp;omega)];have e1:(List.take off arr.toList).length=off:=by simp;omega
  rw[e1];by_cases a2:j<off+n
  ·rw[List.getElem?_append_left (by rw[zS];omega),zbt _ _ _ _ (by omega),zmS (by omega) a2]
  ·rw[List.getElem?_append_right (by rw[zS];omega),zS,List.getElem?_drop,zeH (by omega)];have e2:off+n+(j-off-n)=j:=by omega
   rw[e2];simpa using h3 j hj
theorem zen {P} (k:IntKind) (w:World) {ops rest o a Q} (hgd:o.guard=none) (d s:Operand) (dT sT:TypeId) (ho:o.op=.call { callee:=.builtin .copy,args:=#[d,s],argTypes:=#[dT,sT] }) (e:TypeId) (hu:P.underlying dT=some (.slice e)) (hsz:(P.info? e).map (·.size)=some 1) (g off N:Nat) (f:Nat->Int) (sp:Option Addr) (dLen dCap sLen sCap n:Nat) (h:Nat->Int) (hd:a.eval d=slice (some ⟨g,off,none⟩) dLen dCap) (hs:a.eval s=slice sp sLen sCap) (hb:Blk k e w g N f) (hr:Rd k w sp sLen h) (hn:n=Nat.min sLen dLen) (hfit:off+n<=N) (hK:∀w',Blk k e w' g N (put f off n h)->Only g w w'->wpList P ops Q rest (a.put o.dst (goInt n)) w'):wpList P ops Q (o :: rest) a w:=by
 by_cases h0:n=0
 ·subst h0;refine wpList_copy_nothing hgd d s dT sT ho e hu hsz _ sp dLen dCap sLen sCap hd hs hn.symm ?_;exact hK w (hb.congr (λj _=>(zeH (by omega)).symm)) (Only.refl _ _)
 ·have hs1:Nat.min sLen dLen<=sLen:=Nat.min_le_left _ _;obtain⟨b,ob,rfl⟩:=hr.at (by omega);obtain⟨cur,hg,hcs,hcc⟩:=id hb;refine wpList_copy_own hgd d s dT sT ho e hu hsz g off dLen dCap ⟨b,ob,none⟩ sLen sCap hd hs cur e hg (lst k h n) (by rw[zS];exact hn) ?_ (by rw[zS];omega) (zeN k h n) ?_
  ·intro j v hv;obtain⟨hj,rfl⟩:=zcC hv;have:=hr.cell (j:=j) (by omega);rw[addr_add];exact this
  ·rw[zS];have:=hK _ (ziT (h:=h) hb hfit hg) ⟨rfl,rfl,rfl,by simp[World.setRow],λk _ hk=>setRow_other w g k _ hk⟩;rw[zS]at this
   exact this
theorem zD {P} (k:IntKind) (w:World) {ops rest o a Q} (hgd:o.guard=none) (s x:Operand) (t:TypeId) (ho:o.op=.call { callee:=.builtin .append,args:=#[s,x],argTypes:=#[t,t] }) (base:Nat) (e:TypeId) (bytes:Nat) (ht:P.underlying t=some (.slice e)) (h2:(P.info? e).map (λi=>(i.zero,i.size,i.bytes))=some (some (.int k 0),1,bytes)) (v:Value) (n:Nat) (f:Nat->Int) (hs:a.eval s=v) (hown:Own k e w base v n f) (b ob m c:Nat) (h:Nat->Int) (hx:a.eval x=slice (some ⟨b,ob,none⟩) m c) (hr:Rd k w (some ⟨b,ob,none⟩) m h) (h63:n+m<=maxLen) (hbytes:(n+m)*bytes<=140737488355328) (hbase:base<=w.heap.size) (hK:∀v' w',Own k e w' base v' (n+m) (cat f n h)->w.grownBy w' v.ownBlock->wpList P ops Q rest (a.put o.dst v') w'):wpList P ops Q (o :: rest) a w:=by
 obtain⟨i,hi,hz0,hz1,hz2⟩:=info_parts h2;refine wpList_append_own w hgd s x t ho base e i (.int k 0) 1 bytes ht hi hz0 hz1 hz2 rfl (by decide) v n (lst k f n) hs hown ⟨b,ob,none⟩ m c (lst k h m) hx (by rw[zS,Nat.mul_one]) ?_ (zeN k h m) h63 hbytes hbase ?_
 ·intro j u hu;obtain⟨hj,rfl⟩:=zcC hu;have:=hr.cell hj;rw[addr_add];exact this
 ·intro v' w' h1 h2 _;rw[lst_cat]at h1
  exact hK v' w' h1 h2
theorem zT:(prog.info? 49).map (λi=>(i.zero,i.size,i.bytes))=some (some (.int .u64 0),1,8):=by kernel_rfl
theorem Tryz.sizeU64:(prog.info? 49).map (·.size)=some 1:=by kernel_rfl
structure Res (C:Nat) (w w':World) (ao:Option Addr) (n cap:Nat) (f:Nat->Int):Prop where
 bel:Bl w w'
 own:(ao=none/\n=0/\cap=0)∨(∃g,ao=some ⟨g,0,none⟩/\w.heap.size<=g/\0<n/\n<=cap/\cap<=C/\Blk .u64 49 w' g cap f)
 lmc:Lm f cap
 fm:Fm f n
theorem Res.rd {C w w' ao n cap f} (h:Res C w w' ao n cap f):Rd .u64 w' ao n f:=by
 rcases h.own with⟨rfl,rfl,rfl⟩|⟨g,rfl,_,_,hn,_,hb⟩
 ·exact Rd.zero
 ·exact hb.rd0 hn
theorem Res.und {C w w' ao n cap f} (h:Res C w w' ao n cap f):Und ao w'.heap.size:=by
 rcases h.own with⟨rfl,rfl,rfl⟩|⟨g,rfl,_,_,hn,_,hb⟩
 ·exact zmh _
 ·exact zmg hb.lt
theorem Res.le {C w w' ao n cap f} (h:Res C w w' ao n cap f):n<=C:=by
 rcases h.own with⟨rfl,rfl,rfl⟩|⟨g',rfl,h1,_,hn,_,hb⟩ <;> omega
theorem Res.ncap {C w w' ao n cap f} (h:Res C w w' ao n cap f):n<=cap/\cap<=C:=by
 rcases h.own with⟨rfl,rfl,rfl⟩|⟨g',rfl,h1,_,hn,_,hb⟩ <;> omega
theorem Res.lm {C w w' ao n cap f} (h:Res C w w' ao n cap f):Lm f n:=h.lmc.mono h.ncap.1
theorem Res.nil {C w w'} (f:Nat->Int) (h:Bl w w'):Res C w w' none 0 0 f:=⟨h,.inl ⟨rfl,rfl,rfl⟩,λj hj=>by omega,.inl rfl⟩
theorem Res.mono {C C' w w' ao n cap f} (h:Res C w w' ao n cap f) (hC:C<=C'):Res C' w w' ao n cap f :=
 ⟨h.bel,h.own.imp id (λ⟨g,a,b,c,d,e,f⟩=>⟨g,a,b,c,d,by omega,f⟩),h.lmc,h.fm⟩
theorem Res.ahead {C w0 w w' ao n cap f} (h:Res C w w' ao n cap f) (hb:Bl w0 w):Res C w0 w' ao n cap f :=
 ⟨hb.trans (h.bel.mono hb.size),h.own.imp id (λ⟨g,a,b,c,d,e,f⟩=>⟨g,a,by have:=hb.size;omega,c,d,e,f⟩),h.lmc,h.fm⟩
theorem Res.later {C w w' w'' ao n cap f} (h:Res C w w' ao n cap f) (hb:Bl w' w''):Res C w w'' ao n cap f :=
 ⟨h.bel.trans (hb.mono h.bel.size),h.own.imp id (λ⟨g,a,b,c,d,e,f⟩=>⟨g,a,b,c,d,e,f.q_ hb f.lt⟩),h.lmc,h.fm⟩
theorem zH {B a w} (h:Below B a w) (q:Nat):Below B a (w.drewN q):=⟨h.os,h.tape,h.output,h.size,h.block⟩
theorem zfk (ao:Option Addr) (n cap m:Nat) (z:Int) (f:Nat->Int) (w:World) (hz:z=m) (hnm:n<=m) (hm:m<=17592186044416) (hr:Rd .u64 w ao n f) :
  Calls prog 164 #[slice ao n cap,.int .i64 z] w λe w'=>e=returned (slice (some ⟨w.heap.size,0,none⟩) m m)/\Bl w w'/\Blk .u64 49 w' w.heap.size m (ext f n):=by
 subst hz;go_enter func164,ntmps164;go_wp2_with(first|(at_make;refine zah .u64 w rfl (.tmp 6) (.tmp 6) 22 rfl 49 8 underlying22 zT .i64 .i64 m m m rfl rfl rfl rfl (by omega) (by unfold maxLen;omega) ?_;intro w1 hb1 hbel1)|(refine zen .u64 w1 rfl (.tmp 8) (.tmp 9) 22 22 rfl 49 underlying22 Tryz.sizeU64 w.heap.size 0 m (λ_=>0) ao m m n cap n f rfl rfl hb1 (hr.q_ hbel1 (le_refl _)) (Nat.min_eq_left hnm).symm (by omega) ?_;intro w2 hb2 hon2))
 go_ret;refine⟨rfl,zV hbel1 hon2 (le_refl _) hbel1.size,hb2.congr (λj hj=>?_)⟩;by_cases h:j<n
 ·rw[zmS (by omega) (by omega),zap _ _ _ h];rfl
 ·rw[zeH (by omega),zav _ _ _ (by omega)]
theorem zaV (g N n:Nat) (f:Nat->Int) (w0 w:World) (hbel:Bl w0 w) (hg:w0.heap.size<=g) (hb:Blk .u64 49 w g N f) (hn:n<=N) (hN:N<=140737488355328) (hf:Lm f N) :
  Calls prog 153 #[slice (some ⟨g,0,none⟩) n N] w λe w'=>w'=w/\∃ao' m cap',e=returned (slice ao' m cap')/\Res N w0 w ao' m cap' f/\m<=n/\vf f m=vf f n:=by
 refine(zdk _ n N f w hn hN (hb.rd0 hn)).mono ?_;rintro e w2 ⟨rfl,m,hmn,hz,he⟩;refine⟨rfl,?_⟩;have hv:vf f m=vf f n:=zbY hmn hz;rcases he with⟨rfl,rfl⟩|⟨hm0,hne,rfl⟩
 ·exact⟨none,0,0,rfl,Res.nil f hbel,hmn,hv⟩
 ·exact⟨_,m,N,rfl,⟨hbel,.inr ⟨g,rfl,hg,hm0,by omega,le_refl _,hb⟩,hf,.inr hne⟩,hmn,hv⟩
theorem zbv (ao:Option Addr) (n cap:Nat) (f:Nat->Int) (w:World) (hm:n<=17592186044416) (hr:Rd .u64 w ao n f) (hf:Lm f n) :
  Calls prog 149 #[slice ao n cap] w λe w'=>∃ao' m cap',e=returned (slice ao' m cap')/\Res n w w' ao' m cap' f/\m<=n/\vf f m=vf f n:=by
 have HF:=(show Hid (Lm f n)from hf);clear hf;go_enter func149,ntmps149;go_wp2_with fail
 refine(zfk ao n cap n _ f w rfl (le_refl _) hm hr).mono ?_;rintro e w1 ⟨rfl,hbel,hb⟩;go_wp2_with fail
 refine(zaV w.heap.size n n f w w1 hbel (le_refl _) (hb.congr (λj hj=>zap _ _ _ hj)) (le_refl _) (by omega) HF.out).mono ?_;rintro e w2 ⟨rfl,ao',m,cap',rfl,hres,hmn,hv⟩;have HV:=zk hv;clear hv;go_wp2;go_ret;exact⟨ao',m,cap',rfl,hres,hmn,HV.out⟩
theorem zbK (x:Int) (w:World) (x0:0<=x) (x1:x<18446744073709551616) :
  Calls prog 150 #[.int .u64 x] w λe w'=>∃ao' m cap' f,e=returned (slice ao' m cap')/\Res 1 w w' ao' m cap' f/\vf f m=x:=by
 have hb:Blk .u64 49 (w.alloc (.cells #[.int .u64 x] 49)) w.heap.size 1 (λ_=>x):=⟨#[.int .u64 x],heap_alloc_new w _,rfl,λj hj=>by have h0:j=0:=(by omega);subst h0;rfl⟩;go_enter func150,ntmps150;go_wp2_with fail
 refine(zaV w.heap.size 1 1 (λ_=>x) w _ ((Below.refl _ _).alloc (le_refl _) _) (le_refl _) hb (le_refl _) (by decide) (λj hj=>⟨x0,x1⟩)).mono ?_;rintro e w1 ⟨rfl,ao,m,cap,rfl,hres,hmn,hv⟩;go_wp2;go_ret;exact⟨ao,m,cap,_,rfl,hres,by rw[hv];simp[vf,pw]⟩
theorem zoh (ao bo:Option Addr) (n m ca cb:Nat) (f h:Nat->Int) (w:World) (hn:n<=8796093022208) (hm:m<=8796093022208) (hr:Rd .u64 w ao n f) (hs:Rd .u64 w bo m h) (hf:Lm f n) (hh:Lm h m) :
  Calls prog 169 #[slice ao n ca,slice bo m cb] w λe w'=>∃ao' k cap' f',e=returned (slice ao' k cap')/\Res (max n m+1) w w' ao' k cap' f'/\vf f' k=vf f n+vf h m:=by
 obtain⟨M,hM⟩:∃M,M=max n m:=⟨_,rfl⟩;rw[<-hM];have hnM:n<=M:=by omega
 have hmM:m<=M:=by omega
 have hM2:M<=8796093022208:=by omega
 have HM:=zk hM;clear hM;have HF:=(show Hid (Lm f n)from hf);have HH:=(show Hid (Lm h m)from hh);clear hf hh;have hl:Lm (ext f n) (M+1):=λj hj=>by
  by_cases hjn:j<n
  ·rw[zap _ _ _ hjn];exact HF.out j hjn
  ·rw[zav _ _ _ (by omega)];omega
 have hroom:vf (sh (ext f n) 0) (M+1)+vf h m<pw (M+1):=by
  rw[sh_zero,zaJ _ _ _ (by omega),zao];have h1:=zar HF.out;have h2:=zar HH.out;have h3:=zaQ hnM;have h4:=zaQ hmM;have h5:=zab M;omega
 have HL:=zk hl;have HRm:=zk hroom;clear hl hroom;by_cases hlt:n<m
 all_goals
  go_enter func169,ntmps169;go_wp2_with fail
  refine(zfk ao n ca (M+1) _ f w (by have:=HM.out;omega) (by omega) (by omega) hr).mono ?_;rintro e w1 ⟨rfl,hbel,hb⟩;go_wp2_with fail
  refine(zeV w.heap.size 0 (M+1) (M+1) (M+1) (ext f n) bo m cb h w1 hb HL.out (by omega) (by omega) (hs.q_ hbel (le_refl _)) HH.out ?off (by omega) (le_refl _) (by omega) HRm.out).mono ?_
  case off=>exact λhm0=>(hs.und hm0).off (le_refl _)
  rintro e w2 ⟨rfl,hon,f2,hb2,hl2,he2,hv2⟩;have HV2:=zk hv2;clear hv2;go_wp2_with fail
  refine(zaV w.heap.size (M+1) (M+1) f2 w w2 (zV hbel hon (le_refl _) hbel.size) (le_refl _) hb2 (le_refl _) (by omega) hl2).mono ?_;rintro e w3 ⟨rfl,ao,k,cap,rfl,hres,hkn,hv⟩;have HV3:=zk hv;clear hv;go_wp2;go_ret;refine⟨ao,k,cap,f2,rfl,hres,?_⟩;have a1:=HV2.out;have a2:=HV3.out;rw[sh_zero,sh_zero,zaJ _ _ _ (by omega)]at a1
  rw[a2,a1]
theorem zhC (bo:Option Addr) (cb:Nat) (w:World):Calls prog 184 #[slice none 0 0,slice bo 0 cb] w λe w'=>e=returned (.tuple #[])/\w'=w:=by
 go_enter func184,ntmps184;go_wp2;refine wp_loop_rounds 1 ?_;rw[rounds_succ];go_wp2;refine wp_loop_rounds 1 ?_;rw[rounds_succ];go_wp2;exact bodyPost_end (v:=.tuple #[]) (results_none rfl _ _ _) rfl ⟨rfl,rfl⟩
theorem zml (w:World):Calls prog 153 #[slice none 0 0] w λe w'=>e=returned (slice none 0 0)/\w'=w :=
 (zdk none 0 0 (λ_=>0) w (by omega) (by omega) Rd.zero).mono (λe w' ⟨h1,m,h2,_,h3⟩=>⟨by rcases h3 with h|h;exact h.2;omega,h1⟩)
theorem zrY (ao bo:Option Addr) (n m ca cb:Nat) (f h:Nat->Int) (w:World) (hn:n<=8796093022208) (hr:Rd .u64 w ao n f) (hs:Rd .u64 w bo m h) (hf:Lm f n) (hh:Lm h m) (fh:Fm h m) (hle:vf h m<=vf f n) :
  Calls prog 170 #[slice ao n ca,slice bo m cb] w λe w'=>∃ao' k cap' f',e=returned (slice ao' k cap')/\Res n w w' ao' k cap' f'/\vf f' k=vf f n-vf h m:=by
 have HF:=(show Hid (Lm f n)from hf);have HH:=(show Hid (Lm h m)from hh);have FH:=(show Hid (Fm h m)from fh);have HLe:=zk hle;clear hf hh fh hle;go_enter func170,ntmps170;go_wp2_with fail
 refine(zbv ao n ca f w (by omega) hr HF.out).mono ?_;rintro e w1 ⟨ao1,k,c1,rfl,hres,hkn,hv⟩;have HV:=zk hv;clear hv;have hmk:m<=k:=zbT HH.out hres.lm FH.out (by rw[HV.out];exact HLe.out);rcases hres.own with⟨rfl,rfl,rfl⟩|⟨g,rfl,hg,hk0,hkc,hcn,hb⟩
 ·obtain rfl:m=0:=by omega
  go_wp2_with fail
  refine(zhC _ _ _).mono ?_;rintro e w2 ⟨rfl,rfl⟩;go_wp2_with fail
  refine(zml _).mono ?_;rintro e w2 ⟨rfl,rfl⟩;go_wp2;go_ret;refine⟨none,0,0,f,rfl,Res.nil f hres.bel,?_⟩;rw[<-HV.out];simp[vf]
 ·have HRes:=zk hres;clear hres;go_wp2_with fail
  refine(zdQ g 0 k c1 c1 f bo m cb h w1 hb HRes.out.lmc (by omega) (by omega) (hs.q_ HRes.out.bel (le_refl _)) HH.out (λh0=>(hs.und h0).off hg) hmk hkc (by omega) (by rw[sh_zero,HV.out];exact HLe.out)).mono ?_;rintro e w2 ⟨rfl,hon,f2,hb2,hl2,he2,hv2⟩;have HV2:=zk hv2;clear hv2;go_wp2_with fail
  refine(zaV g c1 k f2 w w2 (zV HRes.out.bel hon hg HRes.out.bel.size) hg hb2 hkc (by omega) hl2).mono ?_;rintro e w3 ⟨rfl,ao,k',cap,rfl,hres,hkn',hv⟩;have HV3:=zk hv;clear hv;go_wp2;go_ret;refine⟨ao,k',cap,f2,rfl,hres.mono hcn,?_⟩;have a1:=HV2.out;rw[sh_zero,sh_zero,HV.out]at a1
  rw[HV3.out,a1]
end Go.Proofs.YtlbgphjdibbkjaaGreat
namespace Go.Proofs.YtlbgphjdibbkjaaGreat
open Value (slice)
open Ending (returned)
open Nat (le_refl zero_add sub_self)
open World (block_lt_of_cell?)
open Int (le_of_lt mul_nonneg add_mul mul_comm one_mul pow_pos)
open Go.Proofs.Tryz
open Go.RowKit
theorem zbm {f n} (h:fmB f n=true):Fm f n:=(zcW f n).1 h
theorem zbx {f n} (h:fmB f n=false):¬Fm f n:=λhf=>by rw[(zcW f n).2 hf]at h;cases h
theorem zsM (ao bo:Option Addr) (n m ca cb:Nat) (f h:Nat->Int) (w:World) (hn:n<=8796093022208) (hm:m<=8796093022208) (hr:Rd .u64 w ao n f) (hs:Rd .u64 w bo m h) (hf:Lm f n) (hh:Lm h m) :
  Calls prog 156 #[slice ao n ca,slice bo m cb] w λe w'=>∃ao' k cap' f' er,e=returned (.tuple #[slice ao' k cap',.int .i64 er])/\Res (max n m+1) w w' ao' k cap' f' /\
   (Fm f n/\Fm h m/\er=0/\vf f' k=vf f n+vf h m∨¬(Fm f n/\Fm h m)/\er=3/\k=0):=by
 have HF:=(show Hid (Lm f n)from hf);have HH:=(show Hid (Lm h m)from hh);clear hf hh;cases hfa:fmB f n
 ·have c1:=λw' hr'=>zal ao n ca f w' (by omega) hr'
  rw[hfa]at c1
  have HN:=zk (zbx hfa);have C1:=zk c1;clear c1 hfa;go_enter func156,ntmps156;go_wp2_with(go_at_call 91;refine(C1.out _ hr).mono ?_;rintro e w' ⟨rfl,rfl⟩)
  go_ret2
  exact⟨_,_,_,f,_,rfl,Res.nil f (Below.refl _ _),.inr ⟨λx=>HN.out x.1,rfl,rfl⟩⟩
 ·have c1:=λw' hr'=>zal ao n ca f w' (by omega) hr'
  rw[hfa]at c1
  have FA:=zk (zbm hfa);have C1:=zk c1;clear c1 hfa;cases hfb:fmB h m
  ·have c2:=λw' hr'=>zal bo m cb h w' (by omega) hr'
   rw[hfb]at c2
   have HN:=zk (zbx hfb);have C2:=zk c2;clear c2 hfb;go_enter func156,ntmps156;go_wp2_with fail
   refine(C1.out _ hr).mono ?_;rintro e w' ⟨rfl,rfl⟩;go_wp2_with fail
   refine(C2.out _ hs).mono ?_;rintro e w' ⟨rfl,rfl⟩;go_wp2
   go_ret2
   exact⟨_,_,_,f,_,rfl,Res.nil f (Below.refl _ _),.inr ⟨λx=>HN.out x.2,rfl,rfl⟩⟩
  ·have c2:=λw' hr'=>zal bo m cb h w' (by omega) hr'
   rw[hfb]at c2
   have FB:=zk (zbm hfb);have C2:=zk c2;clear c2 hfb;go_enter func156,ntmps156;go_wp2_with fail
   refine(C1.out _ hr).mono ?_;rintro e w' ⟨rfl,rfl⟩;go_wp2_with fail
   refine(C2.out _ hs).mono ?_;rintro e w' ⟨rfl,rfl⟩;go_wp2_with fail
   refine(zoh ao bo n m ca cb f h _ hn hm hr hs HF.out HH.out).mono ?_;rintro e w' ⟨ao',k,cap',f',rfl,hres,hv⟩;have HV:=zk hv;clear hv;go_wp2
   go_ret2
   exact⟨_,_,_,f',_,rfl,hres,.inl ⟨FA.out,FB.out,rfl,HV.out⟩⟩
theorem zor (ao bo:Option Addr) (n m ca cb:Nat) (f h:Nat->Int) (w:World) (hn:n<=8796093022208) (hm:m<=8796093022208) (hr:Rd .u64 w ao n f) (hs:Rd .u64 w bo m h) (hf:Lm f n) (hh:Lm h m) :
  Calls prog 157 #[slice ao n ca,slice bo m cb] w λe w'=>(∃q,w'=w.drewN q)/\∃c er,e=returned (.tuple #[.int .i64 c,.int .i64 er]) /\
   (Fm f n/\Fm h m/\er=0/\Ord c (vf f n) (vf h m)∨¬(Fm f n/\Fm h m)/\er=3/\c=0):=by
 have HF:=(show Hid (Lm f n)from hf);have HH:=(show Hid (Lm h m)from hh);clear hf hh;cases hfa:fmB f n
 ·have c1:=λw' hr'=>zal ao n ca f w' (by omega) hr'
  rw[hfa]at c1
  have HN:=zk (zbx hfa);have C1:=zk c1;clear c1 hfa;go_enter func157,ntmps157;go_wp2_with(go_at_call 91;refine(C1.out _ hr).mono ?_;rintro e w' ⟨rfl,rfl⟩)
  go_ret2
  exact⟨⟨0,rfl⟩,_,_,rfl,.inr ⟨λx=>HN.out x.1,rfl,rfl⟩⟩
 ·have c1:=λw' hr'=>zal ao n ca f w' (by omega) hr'
  rw[hfa]at c1
  have FA:=zk (zbm hfa);have C1:=zk c1;clear c1 hfa;cases hfb:fmB h m
  ·have c2:=λw' hr'=>zal bo m cb h w' (by omega) hr'
   rw[hfb]at c2
   have HN:=zk (zbx hfb);have C2:=zk c2;clear c2 hfb;go_enter func157,ntmps157;go_wp2_with fail
   refine(C1.out _ hr).mono ?_;rintro e w' ⟨rfl,rfl⟩;go_wp2_with fail
   refine(C2.out _ hs).mono ?_;rintro e w' ⟨rfl,rfl⟩;go_wp2
   go_ret2
   exact⟨⟨0,rfl⟩,_,_,rfl,.inr ⟨λx=>HN.out x.2,rfl,rfl⟩⟩
  ·have c2:=λw' hr'=>zal bo m cb h w' (by omega) hr'
   rw[hfb]at c2
   have FB:=zk (zbm hfb);have C2:=zk c2;clear c2 hfb;go_enter func157,ntmps157;go_wp2_with fail
   refine(C1.out _ hr).mono ?_;rintro e w' ⟨rfl,rfl⟩;go_wp2_with fail
   refine(C2.out _ hs).mono ?_;rintro e w' ⟨rfl,rfl⟩;go_wp2_with fail
   refine(ziv ao bo n m ca cb f h _ (by omega) (by omega) hr hs HF.out HH.out FA.out FB.out).mono ?_;rintro e w' ⟨⟨q,rfl⟩,c,rfl,ho⟩;have HO:=(show Hid (Ord c (vf f n) (vf h m))from ho);clear ho;go_wp2
   go_ret2
   exact⟨⟨q,rfl⟩,_,_,rfl,.inl ⟨FA.out,FB.out,rfl,HO.out⟩⟩
theorem zqp (ao bo:Option Addr) (n m ca cb:Nat) (f h:Nat->Int) (w:World) (hn:n<=8796093022208) (hm:m<=8796093022208) (hr:Rd .u64 w ao n f) (hs:Rd .u64 w bo m h) (hf:Lm f n) (hh:Lm h m) :
  Calls prog 158 #[slice ao n ca,slice bo m cb] w λe w'=>∃ao' k cap' f' er,e=returned (.tuple #[slice ao' k cap',.int .i64 er])/\Res n w w' ao' k cap' f' /\
   (Fm f n/\Fm h m/\vf h m<=vf f n/\er=0/\vf f' k=vf f n-vf h m∨Fm f n/\Fm h m/\vf f n<vf h m/\er=1/\k=0∨¬(Fm f n/\Fm h m)/\er=3/\k=0):=by
 have HF:=(show Hid (Lm f n)from hf);have HH:=(show Hid (Lm h m)from hh);clear hf hh;cases hfa:fmB f n
 ·have c1:=λw' hr'=>zal ao n ca f w' (by omega) hr'
  rw[hfa]at c1
  have HN:=zk (zbx hfa);have C1:=zk c1;clear c1 hfa;go_enter func158,ntmps158;go_wp2_with(go_at_call 91;refine(C1.out _ hr).mono ?_;rintro e w' ⟨rfl,rfl⟩)
  go_ret2
  exact⟨_,_,_,f,_,rfl,Res.nil f (Below.refl _ _),.inr (.inr ⟨λx=>HN.out x.1,rfl,rfl⟩)⟩
 ·have c1:=λw' hr'=>zal ao n ca f w' (by omega) hr'
  rw[hfa]at c1
  have FA:=zk (zbm hfa);have C1:=zk c1;clear c1 hfa;cases hfb:fmB h m
  ·have c2:=λw' hr'=>zal bo m cb h w' (by omega) hr'
   rw[hfb]at c2
   have HN:=zk (zbx hfb);have C2:=zk c2;clear c2 hfb;go_enter func158,ntmps158;go_wp2_with fail
   refine(C1.out _ hr).mono ?_;rintro e w' ⟨rfl,rfl⟩;go_wp2_with fail
   refine(C2.out _ hs).mono ?_;rintro e w' ⟨rfl,rfl⟩;go_wp2
   go_ret2
   exact⟨_,_,_,f,_,rfl,Res.nil f (Below.refl _ _),.inr (.inr ⟨λx=>HN.out x.2,rfl,rfl⟩)⟩
  ·have c2:=λw' hr'=>zal bo m cb h w' (by omega) hr'
   rw[hfb]at c2
   have FB:=zk (zbm hfb);have C2:=zk c2;clear c2 hfb;go_enter func158,ntmps158;go_wp2_with fail
   refine(C1.out _ hr).mono ?_;rintro e w' ⟨rfl,rfl⟩;go_wp2_with fail
   refine(C2.out _ hs).mono ?_;rintro e w' ⟨rfl,rfl⟩;go_wp2_with fail
   refine(ziv ao bo n m ca cb f h _ (by omega) (by omega) hr hs HF.out HH.out FA.out FB.out).mono ?_;rintro e w' ⟨⟨q,rfl⟩,c,rfl,ho⟩;by_cases hlt:vf f n<vf h m
   ·have hc:c=-1:=by unfold Ord at ho;omega
    subst hc;have HLt:=zk hlt;clear ho hlt;go_wp2
    go_ret2
    exact⟨_,_,_,f,_,rfl,Res.nil f (zH (Below.refl _ _) q),.inr (.inl ⟨FA.out,FB.out,HLt.out,rfl,rfl⟩)⟩
   ·have hc:0<=c:=by unfold Ord at ho;omega
    have hle:vf h m<=vf f n:=by omega
    have HLe:=zk hle;clear ho hlt hle;go_wp2_with fail
    refine(zrY ao bo n m ca cb f h _ hn (show Rd .u64 (World.drewN _ q) ao n f from hr) (show Rd .u64 (World.drewN _ q) bo m h from hs) HF.out HH.out FB.out HLe.out).mono ?_;rintro e w' ⟨ao',k,cap',f',rfl,hres,hv⟩;have HV:=zk hv;clear hv;go_wp2
    go_ret2
    exact⟨_,_,_,f',_,rfl,hres.ahead (zH (Below.refl _ _) q),.inl ⟨FA.out,FB.out,HLe.out,rfl,HV.out⟩⟩
end Go.Proofs.YtlbgphjdibbkjaaGreat
namespace Go.Proofs
open Go.Shelf
def Tryz.lays134_ren:Go.Shelf.Ren:=⟨λ|134=>175|129=>188|n=>n,λ|53=>49|3=>3|4=>4|46=>144|5=>5|9=>9|n=>n,λ|n=>n⟩
theorem Tryz.lays134:Go.Proofs.Lays.n134 prog Tryz.lays134_ren:={
 mixed:=by kernel_rfl
 f129:=func188.trans (congrArg some (by kernel_rfl))
 f134:=func175.trans (congrArg some (by kernel_rfl))
 t3:=underlying3
 a3:=Tryz.isAgg3
 z3:=Tryz.sizeOf3
 v3:=Tryz.zeroValue3
 t4:=underlying4
 a4:=Tryz.isAgg4
 z4:=Tryz.sizeOf4
 v4:=Tryz.zeroValue4
 t5:=underlying5
 a5:=Tryz.isAgg5
 z5:=Tryz.sizeOf5
 v5:=Tryz.zeroValue5
 t9:=underlying9
 a9:=Tryz.isAgg9
 z9:=Tryz.sizeOf9
 v9:=Tryz.zeroValue9
 t46:=underlying144
 a46:=Tryz.isAgg144
 z46:=Tryz.sizeOf144
 v46:=Tryz.zeroValue144
 t53:=underlying49
 a53:=Tryz.isAgg49
 z53:=Tryz.sizeOf49
 v53:=Tryz.zeroValue49 }
theorem Tryz.bits_LeadingZeros64 (x:Int) (w:World) (h0:0<=x) (h1:x<=18446744073709551615) :
  Calls prog 175 #[.int .u64 x] w λe w'=>e=.returned (.int .i64 (64-(Lib.bitLen x.toNat:Int)))/\w'=w:=Any.bits_LeadingZeros64 Tryz.lays134 x w h0 h1
def Tryz.lays264_ren:Go.Shelf.Ren:=⟨λ|264=>195|n=>n,λ|53=>49|46=>144|n=>n,λ|n=>n⟩
theorem Tryz.lays264:Go.Proofs.Lays.n264 prog Tryz.lays264_ren:={
 mixed:=by kernel_rfl
 f264:=func195.trans (congrArg some (by kernel_rfl))
 t46:=underlying144
 a46:=Tryz.isAgg144
 z46:=Tryz.sizeOf144
 v46:=Tryz.zeroValue144
 t53:=underlying49
 a53:=Tryz.isAgg49
 z53:=Tryz.sizeOf49
 v53:=Tryz.zeroValue49 }
open Go.RowKit Go.Lib in
theorem Tryz.bits_Mul64 (x y:Nat) (hx:x<18446744073709551616) (hy:y<18446744073709551616) (w:World) :
  Calls prog 195 #[.int .u64 x,.int .u64 y] w λe w'=>e=.returned (.tuple #[.int .u64 ((x*y/18446744073709551616:Nat):Int),.int .u64 ((x*y%18446744073709551616:Nat):Int)])/\w'=w:=Any.bits_Mul64 Tryz.lays264 x y hx hy w
end Go.Proofs
namespace Go.Proofs.YtlbgphjdibbkjaaGreat
open Value (slice)
open Ending (returned)
open Nat (le_refl zero_add sub_self)
open World (block_lt_of_cell?)
open Int (le_of_lt mul_nonneg add_mul mul_comm one_mul pow_pos)
open Go.Proofs.Tryz
open Go.RowKit
structure Gs (U u1 Y y1 y0 q r:Int):Prop where
 q0:0<=q
 r0:0<=r
 eq:U=q*y1+r
 up:U*4294967296+u1<(q+1)*Y
theorem zdK {U u1 Y y1 y0} (hU0:0<=U) (hY:Y=y1*4294967296+y0) (h1:0<y1) (h0:0<=y0) (k1:u1<4294967296):Gs U u1 Y y1 y0 (U/y1) (U-U/y1*y1):=by
 have a:=Int.emod_nonneg U (Int.ne_of_gt h1);have b:=Int.emod_lt_of_pos U h1;have c:=Int.mul_ediv_add_emod U y1;have d:U/y1*y1=y1*(U/y1):=mul_comm _ _;have e:0<=U/y1:=Int.ediv_nonneg hU0 (le_of_lt h1);have f:0<=(U/y1+1)*y0:=mul_nonneg (by omega) h0;have g:(U/y1+1)*Y=y1*(U/y1)*4294967296+y1*4294967296+(U/y1+1)*y0:=by rw[hY];grind
 refine⟨e,by omega,by omega,?_⟩;rw[g];omega
theorem zpG {U u1 Y y1 y0 q r} (h:Gs U u1 Y y1 y0 q r) (hU:U<Y) (hY:Y=y1*4294967296+y0) (h1:2147483648<=y1) (h2:y0<4294967296):q<=4294967297:=by
 apply Int.le_of_lt_add_one;have:=h.eq;have:=h.r0
 have h3:q*y1<(4294967297+1)*y1:=by omega
 exact Int.lt_of_mul_lt_mul_right h3 (by omega)
theorem zgY {U u1 Y q:Int} (hT:0<=U*4294967296+u1) (hc:U*4294967296+u1<q*Y) (hY:0<Y):0<q:=by
 apply Int.lt_of_not_ge;intro h;have:q*Y<=0*Y:=Int.mul_le_mul_of_nonneg_right h (le_of_lt hY);omega
theorem zgZ {U u1 Y q:Int} (hU:U<Y) (k1:u1<4294967296) (hY:0<Y) (hq:4294967296<=q):U*4294967296+u1<q*Y:=by
 have:4294967296*Y<=q*Y:=Int.mul_le_mul_of_nonneg_right hq (le_of_lt hY);omega
theorem zfu {U u1 Y y1 y0 q r} (h:Gs U u1 Y y1 y0 q r) (hY:Y=y1*4294967296+y0):q*Y=(U-r)*4294967296+q*y0:=by
 have:=h.eq;rw[hY,Int.mul_add,<-Int.mul_assoc];have:q*y1=U-r:=by omega
 rw[this]
theorem zbQ {U u1 Y y1 y0 q r} (h:Gs U u1 Y y1 y0 q r) (hc:U*4294967296+u1<q*Y) (hq:0<q) (h1:0<=y1):Gs U u1 Y y1 y0 (q-1) (r+y1):=by
 have:=h.eq;have:=h.r0
 refine⟨by omega,by omega,?_,?_⟩
 ·rw[Int.sub_mul];omega
 ·have e:q-1+1=q:=by omega
  rw[e];exact hc
theorem zfv {U u1 Y y1 y0 q r} (h:Gs U u1 Y y1 y0 q r) (hY:Y=y1*4294967296+y0) (hc:q*y0<=4294967296*r+u1):q*Y<=U*4294967296+u1:=by
 rw[zfu h hY];omega
theorem zcG {U u1 Y y1 y0 q r} (h:Gs U u1 Y y1 y0 q r) (hY:Y=y1*4294967296+y0) (hq:q<=4294967296) (hr:4294967296<=r) (h0:0<=y0) (h1:y0<4294967296) (k0:0<=u1):q*Y<=U*4294967296+u1:=by
 refine zfv h hY ?_;have:q*y0<=4294967296*y0:=Int.mul_le_mul_of_nonneg_right hq h0;omega
theorem zP (U u1 Y t:Int) (h1:t*Y<=U*4294967296+u1) (h2:U*4294967296+u1<(t+1)*Y) (hY:Y<=18446744073709551616) :
  IntKind.u64.wrap (IntKind.u64.wrap (IntKind.u64.wrap (U*4294967296)+u1)-IntKind.u64.wrap (t*Y))=U*4294967296+u1-t*Y/\0<=U*4294967296+u1-t*Y/\U*4294967296+u1-t*Y<Y:=by
 rw[add_mul,one_mul]at h2
 refine⟨?_,by omega,by omega⟩;simp only[IntKind.wrap_u64];generalize t*Y=X at *;omega
theorem zer {U u1 Y t:Int} (h1:t*Y<=U*4294967296+u1) (hU:U<Y) (k1:u1<4294967296) (hY:0<Y):t<4294967296:=by
 have:t*Y<4294967296*Y:=by omega
 exact Int.lt_of_mul_lt_mul_right this (le_of_lt hY)
theorem zjt (hi lo y s Y y1 y0 U L u1 u0:Int) (w:World) (h0:0<hi) (h1:hi<y) (_hy:y<18446744073709551616) (_l0:0<=lo) (_l1:lo<18446744073709551616) (s0:0<=s) (s1:s<=63)
  (hs:Calls prog 175 #[.int .u64 y] w λe w'=>e=returned (.int .i64 s)/\w'=w)
  (hY:IntKind.u64.wrap (y*2^s.toNat)=Y) (hY1:Y/4294967296=y1) (hY0:bits BinOp.and .u64 Y 4294967295=y0)
  (hU:bits BinOp.or .u64 (IntKind.u64.wrap (hi*2^s.toNat)) (lo/2^(64-s).toNat)=U) (hL:IntKind.u64.wrap (lo*2^s.toNat)=L) (hL1:L/4294967296=u1) (hL0:bits BinOp.and .u64 L 4294967295=u0)
  (y1a:2147483648<=y1) (y1b:y1<4294967296) (y0a:0<=y0) (y0b:y0<4294967296) (u1a:0<=u1) (u1b:u1<4294967296) (u0a:0<=u0) (u0b:u0<4294967296) (Ua:0<=U) (Ub:U<y1*4294967296+y0) (hYY:Hid (Y=y1*4294967296+y0)) :
  Calls prog 165 #[.int .u64 hi,.int .u64 lo,.int .u64 y] w λe w'=>w'=w/\∃q1 q0 R,e=returned (.tuple #[.int .u64 (q1*4294967296+q0),.int .u64 (R/2^s.toNat)])/\0<=R/\R<Y/\0<=q1/\q1<4294967296/\0<=q0/\q0<4294967296/\(U*4294967296+u1)*4294967296+u0=(q1*4294967296+q0)*Y+R:=by
 have HS:=zk hs;clear hs;obtain⟨q,hq⟩:∃q,U/y1=q:=⟨_,rfl⟩;obtain⟨p,hp⟩:∃p,q*y1=p:=⟨_,rfl⟩;have g:=zdK Ua hYY.out (by omega) y0a u1b;rw[hq,hp]at g
 have hq0:=g.q0;have hr0:=g.r0;have hqb:=zpG g (by rw[hYY.out];exact Ub) hYY.out y1a y0b;have hr1:U-p<y1:=by
  have:=Int.emod_lt_of_pos U (show 0<y1 by omega);have:=Int.mul_ediv_add_emod U y1
  rw[hq,mul_comm,hp]at this;omega
 have hpa:0<=p:=by rw[<-hp];exact mul_nonneg hq0 (by omega)
 have G:=zk g;clear g;have hyh:decide (y<=hi)=false:=by simp;omega
 have YP:Hid (0<Y):=by show _<_;rw[hYY.out];omega
 have hr2:U-p<4294967296:=by omega
 go_enter func165,ntmps165;go_wp2_with fail
 refine HS.out.mono ?_;rintro e w1 ⟨rfl,rfl⟩;go_wp2
 go_loop [15,16] (λc d=>∃q r:Int,c=.int .u64 q/\d=.int .u64 r/\0<=q/\q<=4294967297/\0<=r/\r<4294967296/\Hid (Gs U u1 Y y1 y0 q r)) (λc _=>(intOf c).toNat)
 case atStart=>exact⟨U/y1,U-p,rfl,rfl,by rw[hq];exact hq0,by rw[hq];exact hqb,hr0,hr2,by rw[hq];exact G.out⟩
 case round =>
  clear G hr0 hr1 hr2 hpa hqb hq0 hp hq;obtain⟨q,r,rfl,rfl,q0a,q0b,r0a,r0b,G⟩:=hrel;by_cases hbig:4294967296<=q
  ·have hc:=zgZ (q:=q) (by rw[hYY.out];exact Ub) u1b YP.out hbig;have G1:=zk (zbQ G.out hc (by omega) (by omega));clear hc;by_cases hbr1:4294967296<=r+y1
   ·obtain⟨t,rfl⟩:∃t,q=t+1:=⟨q-1,by omega⟩;rw[show t+1-1=t by omega]at G1
    have L1:=zk (zcG G1.out hYY.out (by omega) hbr1 y0a y0b u1a);obtain⟨V,hV,hVa,hVb,HVd⟩:∃V,IntKind.u64.wrap (IntKind.u64.wrap (IntKind.u64.wrap (U*4294967296)+u1)-IntKind.u64.wrap (t*Y))=V/\0<=V/\V<Y/\Hid (V=U*4294967296+u1-t*Y):=⟨_,(zP U u1 Y (t) L1.out G1.out.up (by rw[hYY.out];omega)).1,(zP U u1 Y (t) L1.out G1.out.up (by rw[hYY.out];omega)).2.1,(zP U u1 Y (t) L1.out G1.out.up (by rw[hYY.out];omega)).2.2,rfl⟩;have ht1:t<4294967296:=zer L1.out (by rw[hYY.out];exact Ub) u1b YP.out;have HVb:=zk hVb;rw[hYY.out]at hVb
    obtain⟨k,hk⟩:∃k,V/y1=k:=⟨_,rfl⟩;obtain⟨p2,hp2⟩:∃p2,k*y1=p2:=⟨_,rfl⟩;have g:=zdK hVa hYY.out (by omega) y0a u0b;rw[hk,hp2]at g
    have hk0:=g.q0;have hr0:=g.r0;have hkb:=zpG g HVb.out hYY.out y1a y0b;have hr1:V-p2<y1:=by
     have:=Int.emod_lt_of_pos V (show 0<y1 by omega);have:=Int.mul_ediv_add_emod V y1
     rw[hk,mul_comm,hp2]at this;omega
    have hp2a:0<=p2:=by rw[<-hp2];exact mul_nonneg hk0 (by omega)
    have hr2:V-p2<4294967296:=by omega
    have GG:=zk g;clear g L1 G1;go_wp2
    go_loop [16,18] (λd c=>∃q r:Int,c=.int .u64 q/\d=.int .u64 r/\0<=q/\q<=4294967297/\0<=r/\r<4294967296/\Hid (Gs V u0 Y y1 y0 q r)) (λ_ c=>(intOf c).toNat)
    case atStart=>exact⟨k,V-p2,rfl,rfl,hk0,hkb,hr0,hr2,GG.out⟩
    case round =>
     clear GG hr0 hr1 hr2 hp2a hkb hk0 hp2 hk;obtain⟨m,r2,rfl,rfl,m0a,m0b,r20a,r20b,G0⟩:=hrel;by_cases hbig2:4294967296<=m
     ·have hc:=zgZ (q:=m) HVb.out u0b YP.out hbig2;have G2:=zk (zbQ G0.out hc (by omega) (by omega));clear hc;by_cases hbr:4294967296<=r2+y1
      ·obtain⟨t2,rfl⟩:∃t2,m=t2+1:=⟨m-1,by omega⟩;rw[show t2+1-1=t2 by omega]at G2
       have L2:=zk (zcG G2.out hYY.out (by omega) hbr y0a y0b u0a);obtain⟨R,hR,hRa,hRb,HRd⟩:∃R,IntKind.u64.wrap (IntKind.u64.wrap (IntKind.u64.wrap (V*4294967296)+u0)-IntKind.u64.wrap (t2*Y))=R/\0<=R/\R<Y/\Hid (R=V*4294967296+u0-t2*Y):=⟨_,(zP V u0 Y (t2) L2.out G2.out.up (by rw[hYY.out];omega)).1,(zP V u0 Y (t2) L2.out G2.out.up (by rw[hYY.out];omega)).2.1,(zP V u0 Y (t2) L2.out G2.out.up (by rw[hYY.out];omega)).2.2,rfl⟩;have ht0:t2<4294967296:=zer L2.out (by have:=HVb.out;exact this) u0b YP.out;have RA:=zk (show 0<=R/\R<Y from⟨hRa,hRb⟩);clear hRa hRb L2 G2;go_wp2
       go_ret2
       refine⟨rfl,t,t2,R,rfl,RA.out.1,RA.out.2,by omega,by omega,by omega,by omega,?_⟩;have e1:=HVd.out;have e0:=HRd.out;rw[e0,e1];generalize Y=Yg
       grind
      ·go_wp2
       go_round
       case rel=>exact⟨m-1,r2+y1,rfl,rfl,by omega,by omega,by omega,by omega,G2.out⟩
       case measure=>simp[intOf];omega
     ·obtain⟨p3,hp3⟩:∃p3,m*y0=p3:=⟨_,rfl⟩;have hp3a:0<=p3:=by rw[<-hp3];exact mul_nonneg m0a y0a
      have hp3b:p3<18446744073709551616:=by
       rw[<-hp3];have:=Int.mul_le_mul (show m<=4294967295 by omega) (show y0<=4294967295 by omega) y0a (by omega);omega
      by_cases hcd2:4294967296*r2+u0<p3
      ·have hc:V*4294967296+u0<m*Y:=by rw[zfu G0.out hYY.out,hp3];omega
       have hqp:=zgY (by omega) hc YP.out;have G2:=zk (zbQ G0.out hc hqp (by omega));clear hc;by_cases hbr:4294967296<=r2+y1
       ·obtain⟨t2,rfl⟩:∃t2,m=t2+1:=⟨m-1,by omega⟩;rw[show t2+1-1=t2 by omega]at G2
        have L2:=zk (zcG G2.out hYY.out (by omega) hbr y0a y0b u0a);obtain⟨R,hR,hRa,hRb,HRd⟩:∃R,IntKind.u64.wrap (IntKind.u64.wrap (IntKind.u64.wrap (V*4294967296)+u0)-IntKind.u64.wrap (t2*Y))=R/\0<=R/\R<Y/\Hid (R=V*4294967296+u0-t2*Y):=⟨_,(zP V u0 Y (t2) L2.out G2.out.up (by rw[hYY.out];omega)).1,(zP V u0 Y (t2) L2.out G2.out.up (by rw[hYY.out];omega)).2.1,(zP V u0 Y (t2) L2.out G2.out.up (by rw[hYY.out];omega)).2.2,rfl⟩;have ht0:t2<4294967296:=zer L2.out (by have:=HVb.out;exact this) u0b YP.out;have RA:=zk (show 0<=R/\R<Y from⟨hRa,hRb⟩);clear hRa hRb L2 G2;go_wp2
        go_ret2
        refine⟨rfl,t,t2,R,rfl,RA.out.1,RA.out.2,by omega,by omega,by omega,by omega,?_⟩;have e1:=HVd.out;have e0:=HRd.out;rw[e0,e1];generalize Y=Yg
        grind
       ·go_wp2
        go_round
        case rel=>exact⟨m-1,r2+y1,rfl,rfl,by omega,by omega,by omega,by omega,G2.out⟩
        case measure=>simp[intOf];omega
      ·have L2:=zk (zfv G0.out hYY.out (by rw[hp3];omega));have G2:=G0;obtain⟨R,hR,hRa,hRb,HRd⟩:∃R,IntKind.u64.wrap (IntKind.u64.wrap (IntKind.u64.wrap (V*4294967296)+u0)-IntKind.u64.wrap (m*Y))=R/\0<=R/\R<Y/\Hid (R=V*4294967296+u0-m*Y):=⟨_,(zP V u0 Y (m) L2.out G2.out.up (by rw[hYY.out];omega)).1,(zP V u0 Y (m) L2.out G2.out.up (by rw[hYY.out];omega)).2.1,(zP V u0 Y (m) L2.out G2.out.up (by rw[hYY.out];omega)).2.2,rfl⟩;have ht0:m<4294967296:=zer L2.out (by have:=HVb.out;exact this) u0b YP.out;have RA:=zk (show 0<=R/\R<Y from⟨hRa,hRb⟩);clear hRa hRb L2 G2;go_wp2
       go_ret2
       refine⟨rfl,t,m,R,rfl,RA.out.1,RA.out.2,by omega,by omega,by omega,by omega,?_⟩;have e1:=HVd.out;have e0:=HRd.out;rw[e0,e1];generalize Y=Yg
       grind
   ·go_wp2
    go_round
    case rel=>exact⟨q-1,r+y1,rfl,rfl,by omega,by omega,by omega,by omega,G1.out⟩
    case measure=>simp[intOf];omega
  ·obtain⟨p,hp⟩:∃p,q*y0=p:=⟨_,rfl⟩;have hpa:0<=p:=by rw[<-hp];exact mul_nonneg q0a y0a
   have hpb:p<18446744073709551616:=by
    rw[<-hp];have:=Int.mul_le_mul (show q<=4294967295 by omega) (show y0<=4294967295 by omega) y0a (by omega);omega
   by_cases hcd:4294967296*r+u1<p
   ·have hc:U*4294967296+u1<q*Y:=by rw[zfu G.out hYY.out,hp];omega
    have hqp:=zgY (by omega) hc YP.out;have G1:=zk (zbQ G.out hc hqp (by omega));clear hc;by_cases hbr1:4294967296<=r+y1
    ·obtain⟨t,rfl⟩:∃t,q=t+1:=⟨q-1,by omega⟩;rw[show t+1-1=t by omega]at G1
     have L1:=zk (zcG G1.out hYY.out (by omega) hbr1 y0a y0b u1a);obtain⟨V,hV,hVa,hVb,HVd⟩:∃V,IntKind.u64.wrap (IntKind.u64.wrap (IntKind.u64.wrap (U*4294967296)+u1)-IntKind.u64.wrap (t*Y))=V/\0<=V/\V<Y/\Hid (V=U*4294967296+u1-t*Y):=⟨_,(zP U u1 Y (t) L1.out G1.out.up (by rw[hYY.out];omega)).1,(zP U u1 Y (t) L1.out G1.out.up (by rw[hYY.out];omega)).2.1,(zP U u1 Y (t) L1.out G1.out.up (by rw[hYY.out];omega)).2.2,rfl⟩;have ht1:t<4294967296:=zer L1.out (by rw[hYY.out];exact Ub) u1b YP.out;have HVb:=zk hVb;rw[hYY.out]at hVb
     obtain⟨k,hk⟩:∃k,V/y1=k:=⟨_,rfl⟩;obtain⟨p2,hp2⟩:∃p2,k*y1=p2:=⟨_,rfl⟩;have g:=zdK hVa hYY.out (by omega) y0a u0b;rw[hk,hp2]at g
     have hk0:=g.q0;have hr0:=g.r0;have hkb:=zpG g HVb.out hYY.out y1a y0b;have hr1:V-p2<y1:=by
      have:=Int.emod_lt_of_pos V (show 0<y1 by omega);have:=Int.mul_ediv_add_emod V y1
      rw[hk,mul_comm,hp2]at this;omega
     have hp2a:0<=p2:=by rw[<-hp2];exact mul_nonneg hk0 (by omega)
     have hr2:V-p2<4294967296:=by omega
     have GG:=zk g;clear g L1 G1;go_wp2
     go_loop [16,18] (λd c=>∃q r:Int,c=.int .u64 q/\d=.int .u64 r/\0<=q/\q<=4294967297/\0<=r/\r<4294967296/\Hid (Gs V u0 Y y1 y0 q r)) (λ_ c=>(intOf c).toNat)
     case atStart=>exact⟨k,V-p2,rfl,rfl,hk0,hkb,hr0,hr2,GG.out⟩
     case round =>
      clear GG hr0 hr1 hr2 hp2a hkb hk0 hp2 hk;obtain⟨m,r2,rfl,rfl,m0a,m0b,r20a,r20b,G0⟩:=hrel;by_cases hbig2:4294967296<=m
      ·have hc:=zgZ (q:=m) HVb.out u0b YP.out hbig2;have G2:=zk (zbQ G0.out hc (by omega) (by omega));clear hc;by_cases hbr:4294967296<=r2+y1
       ·obtain⟨t2,rfl⟩:∃t2,m=t2+1:=⟨m-1,by omega⟩;rw[show t2+1-1=t2 by omega]at G2
        have L2:=zk (zcG G2.out hYY.out (by omega) hbr y0a y0b u0a);obtain⟨R,hR,hRa,hRb,HRd⟩:∃R,IntKind.u64.wrap (IntKind.u64.wrap (IntKind.u64.wrap (V*4294967296)+u0)-IntKind.u64.wrap (t2*Y))=R/\0<=R/\R<Y/\Hid (R=V*4294967296+u0-t2*Y):=⟨_,(zP V u0 Y (t2) L2.out G2.out.up (by rw[hYY.out];omega)).1,(zP V u0 Y (t2) L2.out G2.out.up (by rw[hYY.out];omega)).2.1,(zP V u0 Y (t2) L2.out G2.out.up (by rw[hYY.out];omega)).2.2,rfl⟩;have ht0:t2<4294967296:=zer L2.out (by have:=HVb.out;exact this) u0b YP.out;have RA:=zk (show 0<=R/\R<Y from⟨hRa,hRb⟩);clear hRa hRb L2 G2;go_wp2
        go_ret2
        refine⟨rfl,t,t2,R,rfl,RA.out.1,RA.out.2,by omega,by omega,by omega,by omega,?_⟩;have e1:=HVd.out;have e0:=HRd.out;rw[e0,e1];generalize Y=Yg
        grind
       ·go_wp2
        go_round
        case rel=>exact⟨m-1,r2+y1,rfl,rfl,by omega,by omega,by omega,by omega,G2.out⟩
        case measure=>simp[intOf];omega
      ·obtain⟨p3,hp3⟩:∃p3,m*y0=p3:=⟨_,rfl⟩;have hp3a:0<=p3:=by rw[<-hp3];exact mul_nonneg m0a y0a
       have hp3b:p3<18446744073709551616:=by
        rw[<-hp3];have:=Int.mul_le_mul (show m<=4294967295 by omega) (show y0<=4294967295 by omega) y0a (by omega);omega
       by_cases hcd2:4294967296*r2+u0<p3
       ·have hc:V*4294967296+u0<m*Y:=by rw[zfu G0.out hYY.out,hp3];omega
        have hqp:=zgY (by omega) hc YP.out;have G2:=zk (zbQ G0.out hc hqp (by omega));clear hc;by_cases hbr:4294967296<=r2+y1
        ·obtain⟨t2,rfl⟩:∃t2,m=t2+1:=⟨m-1,by omega⟩;rw[show t2+1-1=t2 by omega]at G2
         have L2:=zk (zcG G2.out hYY.out (by omega) hbr y0a y0b u0a);obtain⟨R,hR,hRa,hRb,HRd⟩:∃R,IntKind.u64.wrap (IntKind.u64.wrap (IntKind.u64.wrap (V*4294967296)+u0)-IntKind.u64.wrap (t2*Y))=R/\0<=R/\R<Y/\Hid (R=V*4294967296+u0-t2*Y):=⟨_,(zP V u0 Y (t2) L2.out G2.out.up (by rw[hYY.out];omega)).1,(zP V u0 Y (t2) L2.out G2.out.up (by rw[hYY.out];omega)).2.1,(zP V u0 Y (t2) L2.out G2.out.up (by rw[hYY.out];omega)).2.2,rfl⟩;have ht0:t2<4294967296:=zer L2.out (by have:=HVb.out;exact this) u0b YP.out;have RA:=zk (show 0<=R/\R<Y from⟨hRa,hRb⟩);clear hRa hRb L2 G2;go_wp2
         go_ret2
         refine⟨rfl,t,t2,R,rfl,RA.out.1,RA.out.2,by omega,by omega,by omega,by omega,?_⟩;have e1:=HVd.out;have e0:=HRd.out;rw[e0,e1];generalize Y=Yg
         grind
        ·go_wp2
         go_round
         case rel=>exact⟨m-1,r2+y1,rfl,rfl,by omega,by omega,by omega,by omega,G2.out⟩
         case measure=>simp[intOf];omega
       ·have L2:=zk (zfv G0.out hYY.out (by rw[hp3];omega));have G2:=G0;obtain⟨R,hR,hRa,hRb,HRd⟩:∃R,IntKind.u64.wrap (IntKind.u64.wrap (IntKind.u64.wrap (V*4294967296)+u0)-IntKind.u64.wrap (m*Y))=R/\0<=R/\R<Y/\Hid (R=V*4294967296+u0-m*Y):=⟨_,(zP V u0 Y (m) L2.out G2.out.up (by rw[hYY.out];omega)).1,(zP V u0 Y (m) L2.out G2.out.up (by rw[hYY.out];omega)).2.1,(zP V u0 Y (m) L2.out G2.out.up (by rw[hYY.out];omega)).2.2,rfl⟩;have ht0:m<4294967296:=zer L2.out (by have:=HVb.out;exact this) u0b YP.out;have RA:=zk (show 0<=R/\R<Y from⟨hRa,hRb⟩);clear hRa hRb L2 G2;go_wp2
        go_ret2
        refine⟨rfl,t,m,R,rfl,RA.out.1,RA.out.2,by omega,by omega,by omega,by omega,?_⟩;have e1:=HVd.out;have e0:=HRd.out;rw[e0,e1];generalize Y=Yg
        grind
    ·go_wp2
     go_round
     case rel=>exact⟨q-1,r+y1,rfl,rfl,by omega,by omega,by omega,by omega,G1.out⟩
     case measure=>simp[intOf];omega
   ·have L1:=zk (zfv G.out hYY.out (by rw[hp];omega));have G1:=G;obtain⟨V,hV,hVa,hVb,HVd⟩:∃V,IntKind.u64.wrap (IntKind.u64.wrap (IntKind.u64.wrap (U*4294967296)+u1)-IntKind.u64.wrap (q*Y))=V/\0<=V/\V<Y/\Hid (V=U*4294967296+u1-q*Y):=⟨_,(zP U u1 Y (q) L1.out G1.out.up (by rw[hYY.out];omega)).1,(zP U u1 Y (q) L1.out G1.out.up (by rw[hYY.out];omega)).2.1,(zP U u1 Y (q) L1.out G1.out.up (by rw[hYY.out];omega)).2.2,rfl⟩;have ht1:q<4294967296:=zer L1.out (by rw[hYY.out];exact Ub) u1b YP.out;have HVb:=zk hVb;rw[hYY.out]at hVb
    obtain⟨k,hk⟩:∃k,V/y1=k:=⟨_,rfl⟩;obtain⟨p2,hp2⟩:∃p2,k*y1=p2:=⟨_,rfl⟩;have g:=zdK hVa hYY.out (by omega) y0a u0b;rw[hk,hp2]at g
    have hk0:=g.q0;have hr0:=g.r0;have hkb:=zpG g HVb.out hYY.out y1a y0b;have hr1:V-p2<y1:=by
     have:=Int.emod_lt_of_pos V (show 0<y1 by omega);have:=Int.mul_ediv_add_emod V y1
     rw[hk,mul_comm,hp2]at this;omega
    have hp2a:0<=p2:=by rw[<-hp2];exact mul_nonneg hk0 (by omega)
    have hr2:V-p2<4294967296:=by omega
    have GG:=zk g;clear g L1 G1;go_wp2
    go_loop [16,18] (λd c=>∃q r:Int,c=.int .u64 q/\d=.int .u64 r/\0<=q/\q<=4294967297/\0<=r/\r<4294967296/\Hid (Gs V u0 Y y1 y0 q r)) (λ_ c=>(intOf c).toNat)
    case atStart=>exact⟨k,V-p2,rfl,rfl,hk0,hkb,hr0,hr2,GG.out⟩
    case round =>
     clear GG hr0 hr1 hr2 hp2a hkb hk0 hp2 hk;obtain⟨m,r2,rfl,rfl,m0a,m0b,r20a,r20b,G0⟩:=hrel;by_cases hbig2:4294967296<=m
     ·have hc:=zgZ (q:=m) HVb.out u0b YP.out hbig2;have G2:=zk (zbQ G0.out hc (by omega) (by omega));clear hc;by_cases hbr:4294967296<=r2+y1
      ·obtain⟨t2,rfl⟩:∃t2,m=t2+1:=⟨m-1,by omega⟩;rw[show t2+1-1=t2 by omega]at G2
       have L2:=zk (zcG G2.out hYY.out (by omega) hbr y0a y0b u0a);obtain⟨R,hR,hRa,hRb,HRd⟩:∃R,IntKind.u64.wrap (IntKind.u64.wrap (IntKind.u64.wrap (V*4294967296)+u0)-IntKind.u64.wrap (t2*Y))=R/\0<=R/\R<Y/\Hid (R=V*4294967296+u0-t2*Y):=⟨_,(zP V u0 Y (t2) L2.out G2.out.up (by rw[hYY.out];omega)).1,(zP V u0 Y (t2) L2.out G2.out.up (by rw[hYY.out];omega)).2.1,(zP V u0 Y (t2) L2.out G2.out.up (by rw[hYY.out];omega)).2.2,rfl⟩;have ht0:t2<4294967296:=zer L2.out (by have:=HVb.out;exact this) u0b YP.out;have RA:=zk (show 0<=R/\R<Y from⟨hRa,hRb⟩);clear hRa hRb L2 G2;go_wp2
       go_ret2
       refine⟨rfl,q,t2,R,rfl,RA.out.1,RA.out.2,by omega,by omega,by omega,by omega,?_⟩;have e1:=HVd.out;have e0:=HRd.out;rw[e0,e1];generalize Y=Yg
       grind
      ·go_wp2
       go_round
       case rel=>exact⟨m-1,r2+y1,rfl,rfl,by omega,by omega,by omega,by omega,G2.out⟩
       case measure=>simp[intOf];omega
     ·obtain⟨p3,hp3⟩:∃p3,m*y0=p3:=⟨_,rfl⟩;have hp3a:0<=p3:=by rw[<-hp3];exact mul_nonneg m0a y0a
      have hp3b:p3<18446744073709551616:=by
       rw[<-hp3];have:=Int.mul_le_mul (show m<=4294967295 by omega) (show y0<=4294967295 by omega) y0a (by omega);omega
      by_cases hcd2:4294967296*r2+u0<p3
      ·have hc:V*4294967296+u0<m*Y:=by rw[zfu G0.out hYY.out,hp3];omega
       have hqp:=zgY (by omega) hc YP.out;have G2:=zk (zbQ G0.out hc hqp (by omega));clear hc;by_cases hbr:4294967296<=r2+y1
       ·obtain⟨t2,rfl⟩:∃t2,m=t2+1:=⟨m-1,by omega⟩;rw[show t2+1-1=t2 by omega]at G2
        have L2:=zk (zcG G2.out hYY.out (by omega) hbr y0a y0b u0a);obtain⟨R,hR,hRa,hRb,HRd⟩:∃R,IntKind.u64.wrap (IntKind.u64.wrap (IntKind.u64.wrap (V*4294967296)+u0)-IntKind.u64.wrap (t2*Y))=R/\0<=R/\R<Y/\Hid (R=V*4294967296+u0-t2*Y):=⟨_,(zP V u0 Y (t2) L2.out G2.out.up (by rw[hYY.out];omega)).1,(zP V u0 Y (t2) L2.out G2.out.up (by rw[hYY.out];omega)).2.1,(zP V u0 Y (t2) L2.out G2.out.up (by rw[hYY.out];omega)).2.2,rfl⟩;have ht0:t2<4294967296:=zer L2.out (by have:=HVb.out;exact this) u0b YP.out;have RA:=zk (show 0<=R/\R<Y from⟨hRa,hRb⟩);clear hRa hRb L2 G2;go_wp2
        go_ret2
        refine⟨rfl,q,t2,R,rfl,RA.out.1,RA.out.2,by omega,by omega,by omega,by omega,?_⟩;have e1:=HVd.out;have e0:=HRd.out;rw[e0,e1];generalize Y=Yg
        grind
       ·go_wp2
        go_round
        case rel=>exact⟨m-1,r2+y1,rfl,rfl,by omega,by omega,by omega,by omega,G2.out⟩
        case measure=>simp[intOf];omega
      ·have L2:=zk (zfv G0.out hYY.out (by rw[hp3];omega));have G2:=G0;obtain⟨R,hR,hRa,hRb,HRd⟩:∃R,IntKind.u64.wrap (IntKind.u64.wrap (IntKind.u64.wrap (V*4294967296)+u0)-IntKind.u64.wrap (m*Y))=R/\0<=R/\R<Y/\Hid (R=V*4294967296+u0-m*Y):=⟨_,(zP V u0 Y (m) L2.out G2.out.up (by rw[hYY.out];omega)).1,(zP V u0 Y (m) L2.out G2.out.up (by rw[hYY.out];omega)).2.1,(zP V u0 Y (m) L2.out G2.out.up (by rw[hYY.out];omega)).2.2,rfl⟩;have ht0:m<4294967296:=zer L2.out (by have:=HVb.out;exact this) u0b YP.out;have RA:=zk (show 0<=R/\R<Y from⟨hRa,hRb⟩);clear hRa hRb L2 G2;go_wp2
       go_ret2
       refine⟨rfl,q,m,R,rfl,RA.out.1,RA.out.2,by omega,by omega,by omega,by omega,?_⟩;have e1:=HVd.out;have e0:=HRd.out;rw[e0,e1];generalize Y=Yg
       grind
theorem zbX (n:Int) (h0:0<=n) (h1:n<2^64):IntKind.u64.wrap n=n:=by rw[IntKind.wrap_u64];omega
theorem zdf:∀(b x:Nat),Lib.bitLen x=b->0<x->x<18446744073709551616->1<=b/\2^(b-1)<=x/\x<2^b:=by
 intro b
 induction b with
 | zero =>
  intro x h h0 h1;rw[Lib.bitLen_half x (by omega) (by omega)]at h
  omega
 | succ b ih =>
  intro x h h0 h1;rw[Lib.bitLen_half x (by omega) (by omega)]at h
  by_cases hx:x=1
  ·subst hx;have:b=0:=by have h2:Lib.bitLen (1/2)=0:=(by decide +kernel);omega
   subst this;simp
  ·obtain⟨a1,a2,a3⟩:=ih (x/2) (by omega) (by omega) (by omega);obtain⟨c,rfl⟩:∃c,b=c+1:=⟨b-1,by omega⟩;simp only[Nat.add_sub_cancel,Nat.pow_succ]at a2 a3 ⊢;omega
theorem zjs (hi lo y:Int) (b:Nat) (h0:0<=hi) (h1:hi<y) (l0:0<=lo) (l1:lo<18446744073709551616) (_b1:1<=b) (_b2:b<=64) (p q:Int) (hp:p=2^(64-b)) (hq:q=2^b) (hpq:p*q=18446744073709551616) (p0:0<p) (q0:0<q) (ya:q<=2*y) (yb:y<q) :
  ∃Y U L:Int,y*p=Y/\9223372036854775808<=Y/\Y<18446744073709551616/\bits BinOp.or .u64 (IntKind.u64.wrap (hi*p)) (lo/q)=U/\0<=U/\U<Y/\IntKind.u64.wrap (lo*p)=L/\0<=L/\L<18446744073709551616/\U*18446744073709551616+L=(hi*18446744073709551616+lo)*p:=by
 have eY:y*p<q*p:=(Int.mul_lt_mul_right p0).2 yb;have eY2:q*p<=2*y*p:=Int.mul_le_mul_of_nonneg_right ya (le_of_lt p0);rw[mul_comm q p,hpq]at eY eY2
 have eH:hi*p<y*p:=(Int.mul_lt_mul_right p0).2 h1;have eH0:0<=hi*p:=mul_nonneg h0 (le_of_lt p0);have d0:0<=lo/q:=Int.ediv_nonneg l0 (le_of_lt q0);have d1:lo/q<p:=by
  apply Int.ediv_lt_of_lt_mul q0;rw[hpq];exact l1
 have hw:IntKind.u64.wrap (hi*p)=hi*p:=by rw[IntKind.wrap_u64];omega
 have hor:bits BinOp.or .u64 (IntKind.u64.wrap (hi*p)) (lo/q)=hi*p+lo/q:=by
  rw[hw];refine bits_join .u64 64 (by decide) zbX (64-b) _ _ eH0 ?_ (by omega) d0 (by rw[<-hp];exact d1) ?_
  ·rw[<-hp];exact Int.mul_emod_left _ _
  ·have:p<=18446744073709551616:=by rw[<-hpq];have:=Int.mul_le_mul_of_nonneg_left (show(1:Int)<=q by omega) (le_of_lt p0);omega
   omega
 have e1:lo*p/18446744073709551616=lo/q:=by
  rw[<-hpq,mul_comm lo p];exact Int.mul_ediv_mul_of_pos _ _ p0
 have e2:=Int.mul_ediv_add_emod (lo*p) 18446744073709551616;rw[e1]at e2
 have e3:(hi*18446744073709551616+lo)*p=hi*p*18446744073709551616+lo*p:=by rw[add_mul];congr 1;rw[Int.mul_assoc,mul_comm 18446744073709551616 p,<-Int.mul_assoc]
 have e4:(hi*p+lo/q)*18446744073709551616+(lo*p)%18446744073709551616=(hi*18446744073709551616+lo)*p:=by rw[e3];omega
 refine⟨y*p,hi*p+lo/q,(lo*p)%18446744073709551616,rfl,by rw[Int.mul_assoc]at eY2;omega,eY,hor,by omega,?_,IntKind.wrap_u64 _,by omega,by omega,e4⟩;have f1:(hi*18446744073709551616+lo)*p<y*18446744073709551616*p:=(Int.mul_lt_mul_right p0).2 (by omega);have f2:y*18446744073709551616*p=y*p*18446744073709551616:=by rw[Int.mul_assoc,mul_comm 18446744073709551616 p,<-Int.mul_assoc]
 omega
theorem zlq {X y q r:Int} (h:X=q*y+r) (h0:0<=r) (h1:r<y):X/y=q/\X%y=r:=by
 have hy:0<y:=by omega
 have e1:X/y=q:=by
  rw[h,Int.add_comm,Int.add_mul_ediv_right _ _ (by omega),Int.ediv_eq_zero_of_lt h0 h1];omega
 refine⟨e1,?_⟩;have:=Int.mul_ediv_add_emod X y;rw[e1,mul_comm]at this
 omega
theorem zhg (hi lo y:Int) (w:World) (h0:0<=hi) (h1:hi<y) (hy:y<18446744073709551616) (l0:0<=lo) (l1:lo<18446744073709551616) :
  Calls prog 165 #[.int .u64 hi,.int .u64 lo,.int .u64 y] w λe w'=>e=returned (.tuple #[.int .u64 ((hi*18446744073709551616+lo)/y),.int .u64 ((hi*18446744073709551616+lo)%y)])/\∃n,w'=w.drewN n:=by
 by_cases hz:hi=0
 ·subst hz;have e0:0*18446744073709551616+lo=lo:=by omega
  rw[e0];have b0:0<=lo/y:=Int.ediv_nonneg l0 (by omega);have b1:lo/y<=lo:=Int.ediv_le_self y l0;have b2:=Int.emod_nonneg lo (show y≠0 by omega);have b3:=Int.emod_lt_of_pos lo (show 0<y by omega);go_enter func165,ntmps165;go_wp2
  go_quiet (fail)
  go_wp2
  go_ret2
  exact⟨rfl,_,rfl⟩
 ·obtain⟨yn,rfl⟩:=Int.eq_ofNat_of_zero_le (show 0<=y by omega);obtain⟨b,hb⟩:∃b,Lib.bitLen yn=b:=⟨_,rfl⟩;obtain⟨b1,b2,b3⟩:=zdf b yn hb (by omega) (by omega);have b64:b<=64:=by rw[<-hb];exact Lib.bitLen_le yn 64 (by omega) (by omega)
  have hls:=Tryz.bits_LeadingZeros64 (yn:Int) w (by omega) (by omega);rw[Int.toNat_natCast,hb]at hls
  have hp64:(2:Int)^(64-b)*2^b=18446744073709551616:=by rw[<-Int.pow_add,show 64-b+b=64 by omega];rfl
  have hya:(2:Int)^b<=2*(yn:Int):=by
   have:2^b=2^(b-1)*2:=by rw[<-Nat.pow_succ,show(b-1).succ=b by omega]
   have h2:2^b<=2*yn:=by omega
   exact_mod_cast h2
  have hyb:(yn:Int)<2^b:=by exact_mod_cast b3
  obtain⟨Y,U,L,e1,c1,c2,e2,c3,c4,e3,c5,c6,e4⟩:=zjs hi lo yn b h0 h1 l0 l1 b1 b64 (2^(64-b)) (2^b) rfl rfl hp64 (pow_pos (by decide)) (pow_pos (by decide)) hya hyb;have es:(64-(b:Int)).toNat=64-b:=by omega
  have eb:(64-(64-(b:Int))).toNat=b:=by omega
  have hand:∀z:Int,0<=z->z<18446744073709551616->bits BinOp.and .u64 z 4294967295=z%4294967296:=λz z0 z1=>bits_mask .u64 64 (by decide) zbX 32 (by decide) z z0 z1
  refine(zjt hi lo yn (64-(b:Int)) Y (Y/4294967296) (Y%4294967296) U L (L/4294967296) (L%4294967296) w (by omega) h1 hy l0 l1 (by omega) (by omega) hls
   (by rw[es,e1,IntKind.wrap_u64];omega) rfl (hand Y (by omega) (by omega)) (by rw[es,eb];exact e2) (by rw[es];exact e3) rfl (hand L c5 c6) (by omega) (by omega) (by omega) (by omega) (by omega) (by omega) (by omega) (by omega) c3 (by omega) (show Y=_ by omega)).mono ?_
  rintro e w' ⟨rfl,q1,q0,R,rfl,r0,r1,_,_,_,_,hfin⟩;refine⟨?_,0,rfl⟩;rw[es];have f1:(U*4294967296+L/4294967296)*4294967296+L%4294967296=U*18446744073709551616+L:=by omega
  rw[f1,e4,<-e1]at hfin
  have P0:(0:Int)<2^(64-b):=pow_pos (by decide);generalize(2:Int)^(64-b)=P at *;have f2:R=(hi*18446744073709551616+lo-(q1*4294967296+q0)*yn)*P:=by
   rw[Int.sub_mul,Int.mul_assoc (q1*4294967296+q0)];omega
  have f3:R/P=hi*18446744073709551616+lo-(q1*4294967296+q0)*yn:=by rw[f2];exact Int.mul_ediv_cancel _ (by omega)
  have f4:0<=hi*18446744073709551616+lo-(q1*4294967296+q0)*yn:=by
   rw[<-f3];exact Int.ediv_nonneg r0 (le_of_lt P0)
  have f5:hi*18446744073709551616+lo-(q1*4294967296+q0)*yn<yn:=by
   have:(hi*18446744073709551616+lo-(q1*4294967296+q0)*yn)*P<yn*P:=by rw[<-f2,e1];exact r1
   exact Int.lt_of_mul_lt_mul_right this (le_of_lt P0)
  obtain⟨g1,g2⟩:=zlq (X:=hi*18446744073709551616+lo) (y:=yn) (q:=q1*4294967296+q0) (r:=hi*18446744073709551616+lo-(q1*4294967296+q0)*yn) (by omega) f4 f5;rw[g1,g2,f3]
theorem zgW (n:Nat):Lm (λ_=>0) n:=λ_ _=>⟨Int.le_refl 0,(by decide:(0:Int)<18446744073709551616)⟩
theorem zex (f:Nat->Int) (m i:Nat):vf (sh f m) (i+1)=f m+18446744073709551616*vf (sh f (m+1)) i:=by
 rw[Nat.add_comm i 1,zM (sh f m) 1 i,zax];have e1:vf (sh f m) 1=f m:=by simp[vf,pw,sh]
 have e2:pw 1=18446744073709551616:=by simp[pw]
 rw[e1,e2];omega
theorem zlI {f q q' k i r wd} (HV:vf (sh f (k+1)) i=vf (sh q (k+1)) i*wd+r) (hq:∀j,k<j->q' j=q j) (hk:q' k=(r*18446744073709551616+f k)/wd) :
  vf (sh f k) (i+1)=vf (sh q' k) (i+1)*wd+(r*18446744073709551616+f k)%wd:=by
 have e1:vf (sh q' (k+1)) i=vf (sh q (k+1)) i:=zN (λj hj=>hq _ (by omega));rw[zex,zex,e1,HV,hk];have e2:=Int.mul_ediv_add_emod (r*18446744073709551616+f k) wd;generalize(r*18446744073709551616+f k)/wd=Q at *;generalize(r*18446744073709551616+f k)%wd=R at *
 grind
theorem zlK (ao:Option Addr) (n cap:Nat) (f:Nat->Int) (wd:Int) (w:World) (hn:n<=17592186044416) (hr:Rd .u64 w ao n f) (hf:Lm f n) (w0:0<wd) (w1:wd<18446744073709551616) :
  Calls prog 167 #[slice ao n cap,.int .u64 wd] w λe w'=>∃ao' k cap' q r,e=returned (.tuple #[slice ao' k cap',.int .u64 r])/\Res n w w' ao' k cap' q/\0<=r/\r<wd/\vf f n=vf q k*wd+r:=by
 have HR:=zk hr;have HF:=zk hf;clear hr hf;go_enter func167,ntmps167;go_wp2_with(at_make;refine zah .u64 w rfl (.tmp 11) (.tmp 11) 22 rfl 49 8 underlying22 zT .i64 .i64 n n n rfl rfl rfl rfl (by omega) (by unfold maxLen;omega) ?_;intro wa hba hbela)
 go_loopw[7,15] (λc t wr=>∃(i:Nat) (r:Int) (q:Nat->Int),i<=n/\t=.int .i64 i/\c=.int .u64 r/\0<=r/\r<wd/\Bl w wr/\Blk .u64 49 wr w.heap.size n q/\Hid (Lm q n)/\Hid (vf (sh f (n-i)) i=vf (sh q (n-i)) i*wd+r)) (λ_ t _=>n-(intOf t).toNat)
 case atStart=>exact⟨0,0,λ_=>0,by omega,rfl,rfl,by omega,w0,hbela,hba,zgW n,by simp[Hid,vf]⟩
 case round =>
  clear hba hbela;obtain⟨i,r,q,hi,rfl,rfl,r0,r1,hbel,hbl,HL,HV⟩:=hrel;by_cases hlt:i<n
  ·have hr:=HR.out;obtain⟨b,o,rfl⟩:=hr.at (by omega);obtain⟨k,hk⟩:∃k,k=n-1-i:=⟨_,rfl⟩;have hk1:n-i=k+1:=by omega
   have hk2:k<n:=by omega
   obtain⟨x,hx⟩:∃x,f k=x:=⟨_,rfl⟩;have hcell:wr.cell? ⟨b,o+(n-1-i),none⟩=some (.int .u64 x):=by rw[<-hk,<-hx];exact(hr.q_ hbel (le_refl _)).cell hk2
   have hcelq:=hbl.cell (j:=n-1-i) (by omega);have hfz:=hbl.frozen (n-1-i);obtain⟨x0,x1⟩:=HF.out k hk2;rw[hx]at x0 x1
   have HX:=zk hx;have HK:=zk hk;have HK1:=zk hk1;clear hx hk hk1 hr;obtain⟨Q,hQ⟩:∃Q,(r*18446744073709551616+x)/wd=Q:=⟨_,rfl⟩;obtain⟨R,hR⟩:∃R,(r*18446744073709551616+x)%wd=R:=⟨_,rfl⟩;have c1:=λw=>zhg r x wd w r0 r1 w1 x0 x1
   have hR0:0<=R:=by rw[<-hR];exact Int.emod_nonneg _ (by omega)
   have hR1:R<wd:=by rw[<-hR];exact Int.emod_lt_of_pos _ w0
   have hQ0:0<=Q:=by rw[<-hQ];exact Int.ediv_nonneg (by omega) (by omega)
   have hQ1:Q<18446744073709551616:=by
    rw[<-hQ];apply Int.ediv_lt_of_lt_mul w0;have:(r+1)*18446744073709551616<=wd*18446744073709551616:=Int.mul_le_mul_of_nonneg_right (by omega) (by decide);rw[mul_comm 18446744073709551616 wd];omega
   rw[hQ,hR]at c1
   have C1:=zk c1;have HQ:=zk hQ;have HRR:=zk hR;clear c1 hQ hR;go_wp2_with fail
   refine(C1.out _).mono ?_;rintro e wx ⟨rfl,nq,rfl⟩;go_wp2;go_roundw
   case rel =>
    refine⟨i+1,R,upd q (n-1-i) Q,by omega,by go_num,rfl,hR0,hR1,?_,?_,HL.out.upd ⟨hQ0,hQ1⟩,?_⟩
    ·exact(zH hbel nq).setCell (le_refl _) _
    ·exact Blk.set (show Blk .u64 49 (wr.drewN nq) w.heap.size n q from hbl) _ _
    ·have e1:n-(i+1)=k:=by have:=HK1.out;omega
     have hv:=HV.out;rw[HK1.out]at hv
     have:=zlI (q':=upd q k Q) hv (λj hj=>zE _ _ _ _ (by omega)) (by rw[zac,HX.out,HQ.out]);rw[HX.out,HRR.out]at this
     rw[e1,<-HK.out];exact this
   case measure=>simp[intOf];omega
  ·have hin:i=n:=by omega
   subst hin;have hv:vf f i=vf q i*wd+r:=by have:=HV.out;rwa[sub_self,sh_zero,sh_zero]at this
   have HV2:=zk hv;clear hv;go_wp2_with fail
   refine(zaV w.heap.size i i q w wr hbel (le_refl _) hbl (le_refl _) (by omega) HL.out).mono ?_;rintro e w3 ⟨rfl,ao',k,cap',rfl,hres,hkn,hvt⟩;have HVT:=zk hvt;clear hvt;go_wp2
   go_ret2
   exact⟨ao',k,cap',q,r,rfl,hres,r0,r1,by rw[HVT.out];exact HV2.out⟩
theorem zlv {f k i r wd} (HV:vf (sh f (k+1)) i%wd=r):vf (sh f k) (i+1)%wd=(r*18446744073709551616+f k)%wd:=by
 rw[zex,<-HV,Int.add_comm (f k),mul_comm];simp[Int.add_emod,Int.mul_emod]
theorem zcT (ao:Option Addr) (n cap:Nat) (f:Nat->Int) (wd:Int) (w:World) (hn:n<=17592186044416) (hr:Rd .u64 w ao n f) (hf:Lm f n) (w0:0<wd) (w1:wd<18446744073709551616) :
  Calls prog 152 #[slice ao n cap,.int .u64 wd] w λe w'=>e=returned (.int .u64 (vf f n%wd))/\∃q,w'=w.drewN q:=by
 have HR:=zk hr;have HF:=zk hf;clear hr hf;go_enter func152,ntmps152;go_wp2;go_loopw[5,9] (λc t wr=>∃(i:Nat) (r:Int),i<=n/\t=.int .i64 i/\c=.int .u64 r/\0<=r/\r<wd/\(∃q,wr=w.drewN q)/\Hid (vf (sh f (n-i)) i%wd=r)) (λ_ t _=>n-(intOf t).toNat)
 case atStart=>exact⟨0,0,by omega,rfl,rfl,by omega,w0,⟨0,rfl⟩,by simp[Hid,vf]⟩
 case round =>
  obtain⟨i,r,hi,rfl,rfl,r0,r1,⟨q,rfl⟩,HV⟩:=hrel;by_cases hlt:i<n
  ·have hr:=HR.out;obtain⟨b,o,rfl⟩:=hr.at (by omega);obtain⟨k,hk⟩:∃k,k=n-1-i:=⟨_,rfl⟩;have hk1:n-i=k+1:=by omega
   have hk2:k<n:=by omega
   obtain⟨x,hx⟩:∃x,f k=x:=⟨_,rfl⟩;have hcell:w.cell? ⟨b,o+(n-1-i),none⟩=some (.int .u64 x):=by rw[<-hk,<-hx];exact hr.cell hk2
   obtain⟨x0,x1⟩:=HF.out k hk2;rw[hx]at x0 x1
   have HX:=zk hx;have HK:=zk hk;have HK1:=zk hk1;clear hx hk hk1 hr;obtain⟨R,hR⟩:∃R,(r*18446744073709551616+x)%wd=R:=⟨_,rfl⟩;have c1:=λw=>zhg r x wd w r0 r1 w1 x0 x1
   have hR0:0<=R:=by rw[<-hR];exact Int.emod_nonneg _ (by omega)
   have hR1:R<wd:=by rw[<-hR];exact Int.emod_lt_of_pos _ w0
   rw[hR]at c1
   have C1:=zk c1;have HRR:=zk hR;clear c1 hR;go_wp2_with fail
   refine(C1.out _).mono ?_;rintro e wx ⟨rfl,nq,rfl⟩;go_wp2;go_roundw
   case rel =>
    refine⟨i+1,R,by omega,by go_num,rfl,hR0,hR1,⟨_,by (repeat rw[World.drewN_drewN]) <;> rfl⟩,?_⟩;have e1:n-(i+1)=k:=by have:=HK1.out;omega
    have hv:=HV.out;rw[HK1.out]at hv
    have:=zlv (k:=k) (i:=i) (r:=r) hv;rw[HX.out,HRR.out]at this
    rw[e1];exact this
   case measure=>simp[intOf];omega
  ·have hin:i=n:=by omega
   subst hin;have hv:vf f i%wd=r:=by have:=HV.out;rwa[sub_self,sh_zero]at this
   have HV2:=zk hv;clear hv;go_wp2;go_ret;exact⟨by rw[HV2.out];rfl,q,rfl⟩
theorem zcV (a b:Nat) (w:World) (ha:a<18446744073709551616) (hb:b<18446744073709551616) :
  Calls prog 151 #[.int .u64 a,.int .u64 b] w λe w'=>e=returned (.int .u64 (Nat.gcd a b:Nat))/\∃q,w'=w.drewN q:=by
 go_enter func151,ntmps151;go_wp2;go_loopw[0,1] (λc d wr=>∃(x y:Nat),c=.int .u64 x/\d=.int .u64 y/\x<18446744073709551616/\y<18446744073709551616/\(∃q,wr=w.drewN q)/\Hid (Nat.gcd x y=Nat.gcd a b)) (λ_ d _=>(intOf d).toNat)
 case atStart=>exact⟨a,b,rfl,rfl,ha,hb,⟨0,rfl⟩,rfl⟩
 case round =>
  obtain⟨x,y,rfl,rfl,hx,hy,⟨q,rfl⟩,HV⟩:=hrel;by_cases h0:y=0
  ·subst h0;have hg:x=Nat.gcd a b:=by have:=HV.out;rwa[Nat.gcd_zero_right]at this
   have HG:=zk hg;clear hg;go_wp2;go_ret;exact⟨by rw[<-HG.out];rfl,q,rfl⟩
  ·have h1:((y:Int) != 0)=true:=by simp;omega
   have h2:(0:Int)<y:=by omega
   have h3:(x:Int)%y<y:=Int.emod_lt_of_pos _ h2;have h4:0<=(x:Int)%y:=Int.emod_nonneg _ (by omega);have h5:x%y<y:=Nat.mod_lt _ (by omega);have H5:=zk h5;clear h5;go_wp2
   go_quiet (fail)
   go_wp2;go_roundw
   case rel=>exact⟨y,x%y,rfl,by go_num,hy,by have:=H5.out;omega,⟨_,by (repeat rw[World.drewN_drewN]) <;> rfl⟩,by have:=HV.out;rw[Nat.gcd_comm y,<-Nat.gcd_rec y x,Nat.gcd_comm];exact this⟩
   case measure=>simp[intOf];exact H5.out
theorem zhU {x} (h0:0<=x) (h1:x<18446744073709551616) (n:Nat):Lm (λ_=>x) n:=λ_ _=>⟨h0,h1⟩
def zby (a b:Option Addr):Prop:=∀x y,a=some x->b=some y->x.block≠y.block
theorem zco (b:Option Addr):zby none b:=λ_ _ h=>by cases h
theorem Res.apart {C w w' a b n cap f B} (h:Res C w w' b n cap f) (ha:Und a B) (hB:B<=w.heap.size):zby a b:=by
 rcases h.own with⟨rfl,_,_⟩|⟨g,rfl,h1,_,_,_,_⟩
 ·exact λ_ _ _ h=>by cases h
 ·intro x y hx hy;cases hy
  have:=ha x hx;simp;omega
theorem zfO (ao bo:Option Addr) (n m ca cb:Nat) (f h:Nat->Int) (w:World) (hn:n<=8796093022208) (hm:m<=8796093022208) (hr:Rd .u64 w ao n f) (hs:Rd .u64 w bo m h) (hf:Lm f n) (hh:Lm h m) (ff:Fm f n) (fh:Fm h m) (hsm:m=1∨vf f n<vf h m) :
  Calls prog 155 #[slice ao n ca,slice bo m cb] w λe w'=>∃a1 k1 c1 q a2 k2 c2 r,e=returned (.tuple #[slice a1 k1 c1,slice a2 k2 c2])/\Res n w w' a1 k1 c1 q/\Res (n+1) w w' a2 k2 c2 r/\vf f n=vf q k1*vf h m+vf r k2/\0<=vf r k2/\vf r k2<vf h m/\zby a1 a2:=by
 have HF:=zk hf;have HH:=zk hh;have FF:=zk ff;have FH:=zk fh
 clear hf hh ff fh;have cc:=ziv ao bo n m ca cb f h w (by omega) (by omega) hr hs HF.out HH.out FF.out FH.out;have CC:=zk cc;clear cc;by_cases hlt:vf f n<vf h m
 ·have HLt:=zk hlt;clear hlt hsm;go_enter func155,ntmps155;go_wp2_with fail
  refine CC.out.mono ?_;rintro e w1 ⟨⟨q,rfl⟩,c,rfl,ho⟩;have hc:c=-1:=by have:=HLt.out;unfold Ord at ho;omega
  subst hc;clear ho;go_wp2_with fail
  refine(zbv ao n ca f _ (by omega) (show Rd .u64 (w.drewN q) ao n f from hr) HF.out).mono ?_;rintro e w2 ⟨a2,k2,c2,rfl,hres,hk,hv⟩;have HV:=zk hv;clear hv;go_wp2
  go_ret2
  have hb:=zH (Below.refl w.heap.size w) q;refine⟨none,0,0,f,a2,k2,c2,f,rfl,Res.nil f (hb.trans hres.bel),(hres.ahead hb).mono (by omega),?_,?_,?_,zco _⟩
  ·rw[HV.out];simp[vf]
  ·rw[HV.out];exact zz HF.out
  ·rw[HV.out];exact HLt.out
 ·obtain rfl:m=1:=by omega
  have hle:vf h 1<=vf f n:=by omega
  have HLe:=zk hle;clear hsm hlt hle;obtain⟨b,o,rfl⟩:=hs.at (by omega);obtain⟨x,hx⟩:∃x,h 0=x:=⟨_,rfl⟩;have hcell:w.cell? ⟨b,o,none⟩=some (.int .u64 x):=by rw[<-hx];exact hs.cell (j:=0) (by omega)
  have hx01:=HH.out 0 (by omega);have hx2:x≠0:=by rw[<-hx];rcases FH.out with h|h;omega;exact h
  rw[hx]at hx01
  obtain⟨x0,x1⟩:=hx01;have hv1:vf h 1=x:=by simp[vf,pw,hx]
  have HV1:=zk hv1;clear hv1 hx;go_enter func155,ntmps155;go_wp2_with fail
  refine CC.out.mono ?_;rintro e w1 ⟨⟨q,rfl⟩,c,rfl,ho⟩;have hc:0<=c:=by have:=HLe.out;unfold Ord at ho;omega
  clear ho;go_wp2_with fail
  refine(zlK ao n ca f x _ (by omega) (show Rd .u64 (w.drewN q) ao n f from hr) HF.out (by omega) x1).mono ?_;rintro e w2 ⟨a1,k1,c1,q1,r,rfl,hres,r0,r1,hv⟩;have HV:=zk hv;clear hv;go_wp2_with fail
  refine(zbK r w2 r0 (by omega)).mono ?_;rintro e w3 ⟨a2,k2,c2,q2,rfl,hres2,hv2⟩;have HV2:=zk hv2;clear hv2;go_wp2
  go_ret2
  have hb:=zH (Below.refl w.heap.size w) q;refine⟨a1,k1,c1,q1,a2,k2,c2,q2,rfl,(hres.later hres2.bel).ahead hb,((hres2.ahead hres.bel).ahead hb).mono (by omega),?_,?_,?_,hres2.apart hres.und (le_refl _)⟩
  ·rw[HV2.out,HV1.out];exact HV.out
  ·rw[HV2.out];exact r0
  ·rw[HV2.out,HV1.out];exact r1
theorem zgU (x y:Int) (w:World) (x0:0<=x) (x1:x<18446744073709551616) (y0:0<=y) (y1:y<18446744073709551616) :
  Calls prog 195 #[.int .u64 x,.int .u64 y] w λe w'=>e=returned (.tuple #[.int .u64 (x*y/18446744073709551616),.int .u64 (x*y%18446744073709551616)])/\w'=w:=by
 obtain⟨x,rfl⟩:=Int.eq_ofNat_of_zero_le x0;obtain⟨y,rfl⟩:=Int.eq_ofNat_of_zero_le y0;refine(Tryz.bits_Mul64 x y (by omega) (by omega) w).mono ?_;rintro e w' ⟨rfl,rfl⟩;exact⟨by simp,rfl⟩
theorem zbw {x y:Int} (x0:0<=x) (x1:x<18446744073709551616) (y0:0<=y) (y1:y<18446744073709551616):0<=x*y/\x*y<=340282366920938463426481119284349108225:=by
 refine⟨mul_nonneg x0 y0,?_⟩;have:=Int.mul_le_mul (show x<=18446744073709551615 by omega) (show y<=18446744073709551615 by omega) y0 (by omega);omega
theorem zdI (x y z:Int) (w:World) (x0:0<=x) (x1:x<18446744073709551616) (y0:0<=y) (y1:y<18446744073709551616) (z0:0<=z) (z1:z<18446744073709551616) :
  Calls prog 186 #[.int .u64 x,.int .u64 y,.int .u64 z] w λe w'=>e=returned (.tuple #[.int .u64 ((x*y+z)/18446744073709551616),.int .u64 ((x*y+z)%18446744073709551616)])/\w'=w:=by
 have c1:=zgU x y w x0 x1 y0 y1;have hb:=zbw x0 x1 y0 y1;generalize x*y=P at *;obtain⟨p0,p1⟩:=hb;obtain⟨h,hh⟩:∃h,P/18446744073709551616=h:=⟨_,rfl⟩;obtain⟨l,hl⟩:∃l,P%18446744073709551616=l:=⟨_,rfl⟩;rw[hh,hl]at c1
 have h0:0<=h:=by omega
 have h1:h<=18446744073709551614:=by omega
 have l0:0<=l:=by omega
 have l1:l<18446744073709551616:=by omega
 have e1:(P+z)/18446744073709551616=h+(l+z)/18446744073709551616:=by omega
 have e2:(P+z)%18446744073709551616=(l+z)%18446744073709551616:=by omega
 have C1:=zk c1;have E1:=zk e1;have E2:=zk e2
 clear c1 e1 e2 hh hl p0 p1;go_enter func186,ntmps186;go_wp2_with fail
 refine C1.out.mono ?_;rintro e w1 ⟨rfl,rfl⟩;go_wp2_with(simp only[add64_0 l z l0 z0])
 go_ret2
 exact⟨by rw[E1.out,E2.out];rfl,rfl⟩
theorem zhR {f f' G o k ov wd x h l dd c} (HV:vf (sh f' o) k+ov*pw k=vf (sh f o) k+vf G k*wd) (hE:f' (o+k)=f (o+k)) (hx:G k=x) (h1:x*wd+ov=h*18446744073709551616+l) (h2:f' (o+k)+l=c*18446744073709551616+dd) :
  vf (sh (upd f' (o+k) dd) o) (k+1)+(h+c)*pw (k+1)=vf (sh f o) (k+1)+vf G (k+1)*wd:=by
 have e1:vf (sh (upd f' (o+k) dd) o) k=vf (sh f' o) k:=zN (λj hj=>zE _ _ _ _ (by omega));rw[zI,zI,zI,e1,zao,zaS,zaS,zac,hx];rw[hE]at h2
 grind
theorem zjd (g o n cap N:Nat) (f:Nat->Int) (bo:Option Addr) (m cb:Nat) (h:Nat->Int) (wd:Int) (w:World) (hb:Blk .u64 49 w g N f) (hf:Lm f N) (ho:o+n<=N)
  (hr:Rd .u64 w bo m h) (hh:Lm h m) (hoff:0<m->Off bo g) (hmn:m<=n) (hcap:n<=cap) (hcm:cap<=140737488355328) (d0:0<=wd) (d1:wd<18446744073709551616) :
  Calls prog 190 #[slice (some ⟨g,o,none⟩) n cap,slice bo m cb,.int .u64 wd] w λe w'=>∃ov,e=returned (.int .u64 ov)/\0<=ov/\ov<18446744073709551616/\Only g w w' /\
   ∃f',Blk .u64 49 w' g N f'/\Lm f' N/\(∀j,j<o∨o+m<=j->f' j=f j)/\vf (sh f' o) m+ov*pw m=vf (sh f o) m+vf h m*wd:=by
 have HH:=zk hh;have HRd:=zk hr;clear hh hr;go_enter func190,ntmps190;go_wp2;go_loopw[7,18] (λc t wr=>∃(k:Nat) (ov:Int) (f':Nat->Int),k<=m/\t=.int .i64 k/\c=.int .u64 ov/\0<=ov/\ov<18446744073709551616/\Only g w wr/\Blk .u64 49 wr g N f'/\Hid (Lm f' N)/\Hid (∀j,j<o∨o+k<=j->f' j=f j) /\
   Hid (vf (sh f' o) k+ov*pw k=vf (sh f o) k+vf h k*wd)) (λ_ t _=>m-(intOf t).toNat)
 case atStart=>exact⟨0,0,f,by omega,rfl,rfl,by omega,by omega,Only.refl _ _,hb,hf,λ_ _=>rfl,by simp[Hid,vf,pw]⟩
 case round =>
  obtain⟨k,ov,f',hk,rfl,rfl,v0,v1,hon,hbl,HL,HE,HV⟩:=hrel;by_cases hlt:k<m
  ·have hr:=HRd.out;obtain⟨b,ob,rfl⟩:=hr.at (by omega);obtain⟨x,hx⟩:∃x,f' (o+k)=x:=⟨_,rfl⟩;obtain⟨y,hy⟩:∃y,h k=y:=⟨_,rfl⟩;have hcell:wr.cell? ⟨g,o+k,none⟩=some (.int .u64 x):=by rw[<-hx];exact hbl.cell (by omega)
   have hcelb:wr.cell? ⟨b,ob+k,none⟩=some (.int .u64 y):=by rw[<-hy];exact(hr.only hon (hoff (by omega))).cell hlt
   have hfz:=hbl.frozen (o+k);have hx01:=HL.out (o+k) (by omega);have hy01:=HH.out k hlt;rw[hx]at hx01
   rw[hy]at hy01
   obtain⟨x0,x1⟩:=hx01;obtain⟨y0,y1⟩:=hy01;have HX:=zk hx;have HY:=zk hy;clear hx hy hr;have c1:=λw=>zdI y wd ov w y0 y1 d0 d1 v0 v1
   have hbd:=zbw y0 y1 d0 d1;obtain⟨hi,hhi⟩:∃hi,(y*wd+ov)/18446744073709551616=hi:=⟨_,rfl⟩;obtain⟨l,hl⟩:∃l,(y*wd+ov)%18446744073709551616=l:=⟨_,rfl⟩;rw[hhi,hl]at c1
   have hP:y*wd+ov=hi*18446744073709551616+l:=by omega
   have i0:0<=hi:=by omega
   have l0:0<=l:=by omega
   have l1:l<18446744073709551616:=by omega
   have i1:hi+(x+l)/18446744073709551616<18446744073709551616:=by omega
   have C1:=zk c1;have HP:=zk hP
   clear c1 hP hbd hhi hl;go_wp2_with fail
   refine(C1.out _).mono ?_;rintro e wx ⟨rfl,rfl⟩;go_wp2_with(simp only[add64_0 x l x0 l0])
   go_roundw
   case rel =>
    refine⟨k+1,hi+(x+l)/18446744073709551616,upd f' (o+k) ((x+l)%18446744073709551616),by omega,by go_num,rfl,by omega,by omega,hon.setCell _ _ _,hbl.set _ _,HL.out.upd (by omega),?_,?_⟩
    ·intro j hj;rw[zE _ _ _ _ (by omega)];exact HE.out j (by omega)
    ·exact zhR HV.out (HE.out _ (by omega)) HY.out HP.out (by rw[HX.out];omega)
   case measure=>simp[intOf];omega
  ·have hkm:k=m:=by omega
   subst hkm;go_wp2;go_ret;exact⟨ov,rfl,v0,v1,hon,f',hbl,HL.out,HE.out,HV.out⟩
theorem zoM {f f1 f2 i n m ov V y} (h1:vf (sh f1 i) n+ov*pw n=vf (sh f i) n+V*y) (h2:vf (sh f2 (i+n)) m=vf (sh f1 (i+n)) m+ov) (e1:∀j,j<i+n->f2 j=f1 j) (e2:∀j,j<i∨i+n<=j->f1 j=f j) :
  vf f2 (i+(n+m))=vf f (i+(n+m))+V*y*pw i:=by
 rw[zM f2 i,zM f i,zM (sh f2 i) n,zM (sh f i) n,zax,zax];rw[zN (f:=f2) (g:=f) (n:=i) (λj hj=>(e1 j (by omega)).trans (e2 j (by omega)))];rw[zN (f:=sh f2 i) (g:=sh f1 i) (n:=n) (λj hj=>e1 _ (by omega)),h2];rw[zN (f:=sh f1 (i+n)) (g:=sh f (i+n)) (n:=m) (λj hj=>e2 _ (by omega))];have:vf (sh f1 i) n=vf (sh f i) n+V*y-ov*pw n:=by omega
 rw[this]
 grind
theorem zmB {f f1 i n r ov V y} (h1:vf (sh f1 i) n+ov*pw n=vf (sh f i) n+V*y) (e2:∀j,j<i∨i+n<=j->f1 j=f j) (hlt:vf f (i+(n+r))+V*y*pw i<pw (i+(n+r))) (hL:Lm f1 (i+n)) :
  vf (sh f1 (i+n)) r+ov<pw r:=by
 have a1:=zz (hL.mono (m:=i) (by omega));have a2:=zz (hL.sh (o:=i) (m:=n) (by omega));rw[zM f i,zM (sh f i) n,zax,zbU,zbU]at hlt
 rw[zN (f:=sh f1 (i+n)) (g:=sh f (i+n)) (n:=r) (λj hj=>e2 _ (by omega))];rw[zN (f:=f) (g:=f1) (n:=i) (λj hj=>(e2 j (by omega)).symm)]at hlt
 have e:vf (sh f i) n+V*y=vf (sh f1 i) n+ov*pw n:=h1.symm;have hp:=zab i;have hq:=zab n;have k1:(vf (sh f (i+n)) r+ov)*(pw n*pw i)<pw r*(pw n*pw i):=by
  have k2:0<=vf (sh f1 i) n*pw i:=mul_nonneg a2 (le_of_lt hp);have k3:(vf (sh f i) n+vf (sh f (i+n)) r*pw n)*pw i+V*y*pw i=vf (sh f1 i) n*pw i+(vf (sh f (i+n)) r+ov)*(pw n*pw i):=by
   have:vf (sh f i) n=vf (sh f1 i) n+ov*pw n-V*y:=by omega
   rw[this];grind
  have k4:pw i*(pw n*pw r)=pw r*(pw n*pw i):=by grind
  omega
 exact Int.lt_of_mul_lt_mul_right k1 (le_of_lt (Int.mul_pos hq hp))
theorem zof {A B C V y p s t:Int} (h1:A=B+V*y*p) (h2:B=C+V*s) (h3:t=s+y*p):A=C+V*t:=by
 rw[h1,h2,h3];grind
theorem zlQ {f' f1 o i n r D N ov V y} (HV1:vf (sh f1 (o+i)) n+ov*pw n=vf (sh f' (o+i)) n+V*y) (HE1:∀j,j<o+i∨o+i+n<=j->f1 j=f' j) (HRoom:vf (sh f' o) (i+(n+r))+V*y*pw i<pw (i+(n+r))) (HL1:Lm f1 N) (hN:o+D<=N) (hD:D=i+(n+r)) :
  vf (sh f1 (o+(i+n))) (D-(i+n))+ov<pw (D-(i+n)):=by
 have e:D-(i+n)=r:=by omega
 rw[e,<-zax];exact zmB (f:=sh f' o) (f1:=sh f1 o) (by rw[zax,zax];exact HV1) (λj hj=>HE1 _ (by omega)) HRoom (HL1.sh (by omega))
theorem zoe {f' f1 f2 o i n r D ov V y} (HV1:vf (sh f1 (o+i)) n+ov*pw n=vf (sh f' (o+i)) n+V*y) (HE1:∀j,j<o+i∨o+i+n<=j->f1 j=f' j) (hv2:vf (sh f2 (o+(i+n))) (D-(i+n))=vf (sh f1 (o+(i+n))) (D-(i+n))+ov) (he2:∀j,j<o+(i+n)->f2 j=f1 j) (hD:D=i+(n+r)) :
  vf (sh f2 o) D=vf (sh f' o) D+V*y*pw i:=by
 have e:D-(i+n)=r:=by omega
 rw[e]at hv2
 rw[hD];exact zoM (f:=sh f' o) (f1:=sh f1 o) (by rw[zax,zax];exact HV1) (by rw[zax,zax];exact hv2) (λj hj=>he2 _ (by omega)) (λj hj=>HE1 _ (by omega))
theorem zgl (g o cap N:Nat) (f:Nat->Int) (ao bo:Option Addr) (n m ca cb D:Nat) (fa fb:Nat->Int) (w:World) (hb:Blk .u64 49 w g N f) (hf:Lm f N) (ho:o+D<=N) (hD:n+m<=D) (hm:N<=140737488355328)
  (hra:Rd .u64 w ao n fa) (hrb:Rd .u64 w bo m fb) (ha:Lm fa n) (hbb:Lm fb m) (hoa:0<n->Off ao g) (hob:0<m->Off bo g) (hcap:D<=cap) (hcm:cap<=140737488355328) (hmn:m<=n)
  (hroom:vf (sh f o) D+vf fa n*vf fb m<pw D) :
  Calls prog 176 #[slice (some ⟨g,o,none⟩) D cap,slice ao n ca,slice bo m cb] w λe w'=>e=returned (.tuple #[])/\Only g w w' /\
   ∃f',Blk .u64 49 w' g N f'/\Lm f' N/\(∀j,j<o∨o+D<=j->f' j=f j)/\vf (sh f' o) D=vf (sh f o) D+vf fa n*vf fb m:=by
 have HA:=zk ha;have HB:=zk hbb;have RA:=zk hra;have RB:=zk hrb;have HR:=zk hroom
 clear ha hbb hra hrb hroom;go_enter func176,ntmps176;go_wp2;go_loopw[9] (λt wr=>∃(i:Nat) (f':Nat->Int),i<=m/\t=.int .i64 i/\Only g w wr/\Blk .u64 49 wr g N f'/\Hid (Lm f' N)/\Hid (∀j,j<o∨o+D<=j->f' j=f j) /\
   Hid (vf (sh f' o) D=vf (sh f o) D+vf fa n*vf fb i)) (λt _=>m-(intOf t).toNat)
 case atStart=>exact⟨0,f,by omega,rfl,Only.refl _ _,hb,hf,λ_ _=>rfl,by simp[Hid,vf]⟩
 case round =>
  obtain⟨i,f',hi,rfl,hon,hbl,HL,HE,HV⟩:=hrel;by_cases hlt:i<m
  ·have hn0:0<n:=by omega
   have hrb:=RB.out;obtain⟨b,ob,rfl⟩:=hrb.at (by omega);obtain⟨y,hy⟩:∃y,fb i=y:=⟨_,rfl⟩;have hcelb:wr.cell? ⟨b,ob+i,none⟩=some (.int .u64 y):=by rw[<-hy];exact(hrb.only hon (hob (by omega))).cell hlt
   have hy01:=HB.out i hlt;rw[hy]at hy01
   obtain⟨y0,y1⟩:=hy01;have HY:=zk hy;clear hy hrb;obtain⟨r,hr⟩:∃r,D=i+(n+r):=⟨D-(i+n),by omega⟩;have hle:vf fb (i+1)<=vf fb m:=zme HB.out (by omega);have hroom:vf (sh f' o) (i+(n+r))+vf fa n*y*pw i<pw (i+(n+r)):=by
    have h1:=HV.out;have h2:=HR.out;rw[hr]at h1 h2
    rw[h1];have h3:vf fa n*vf fb (i+1)<=vf fa n*vf fb m:=Int.mul_le_mul_of_nonneg_left hle (zz HA.out);rw[zI,HY.out,Int.mul_add,<-Int.mul_assoc]at h3
    omega
   have HRoom:=zk hroom;have HD:=zk hr;have hrn:D-(i+n)=r:=by omega
   have HDr:=zk hrn;clear hr hle hroom hrn;have HRA:=zk (RA.out.only hon (hoa hn0));have hne1:¬(i+n=cap):=by omega
   have hne3:¬(cap=i+n):=by omega
   have hne4:¬(cap=i):=by omega
   have hne5:¬(cap-(i+n)=0):=by omega
   have hne6:¬(cap-i=0):=by omega
   have hw1:IntKind.i64.wrap ((i:Int)+n)=(i:Int)+n:=by rw[IntKind.wrap_i64];omega
   have ht1:((i:Int)+n).toNat=i+n:=by omega
   have hne2:¬(i=cap):=by omega
   have hlt1:i+n<D:=by omega
   go_wp2_with fail
   go_region_with (first|(go_at_call 190;refine(zjd g (o+i) (D-i) (cap-i) N f' ao n ca fa y _ (by exact hbl) HL.out (by omega) (by exact HRA.out) HA.out hoa (by omega) (by omega) (by omega) y0 y1).mono ?_;rintro e w1 ⟨ov,rfl,v0,v1,hon1,f1,hb1,hl1,he1,hv1⟩;have HL1:=zk hl1;have HE1:=zk he1;have HV1:=zk hv1;clear hl1 he1 hv1)|(go_at_call 189;refine(zgk g (o+(i+n)) (D-(i+n)) (cap-(i+n)) N f1 ov _ (by exact hb1) HL1.out (by omega) hm v0 v1 (zlQ HV1.out HE1.out HRoom.out HL1.out ho HD.out)).mono ?_;rintro e w2 ⟨rfl,hon2,f2,hb2,hl2,he2,hv2⟩;have HL2:=zk hl2;have HE2:=zk he2;have HV2:=zk hv2;clear hl2 he2 hv2))
   all_goals
    go_wp2;go_roundw
    case rel =>
     refine⟨i+1,f2,by omega,by go_num,(hon.drew.trans hon1).trans hon2,hb2,HL2.out,λj hj=>?_,?_⟩
     ·exact(HE2.out j (by have:=HDr.out;have:=HD.out;omega)).trans ((HE1.out j (by omega)).trans (HE.out j hj))
     ·exact zof (zoe HV1.out HE1.out HV2.out (λj hj=>HE2.out j (.inl hj)) HD.out) HV.out (by rw[zI,HY.out])
    case measure=>simp[intOf];omega
  ·have him:i=m:=by omega
   subst him;go_wp2;exact bodyPost_end (v:=.tuple #[]) (results_none rfl _ _ _) rfl ⟨rfl,hon,f',hbl,HL.out,HE.out,HV.out⟩
def AddProd (n m:Nat):Prop:=∀(g o cap N:Nat) (f:Nat->Int) (ao bo:Option Addr) (ca cb D:Nat) (fa fb:Nat->Int) (w:World),Blk .u64 49 w g N f->Lm f N->o+D<=N->n+m<=D->N<=140737488355328 ->
  Rd .u64 w ao n fa->Rd .u64 w bo m fb->Lm fa n->Lm fb m->(0<n->Off ao g)->(0<m->Off bo g)->D<=cap->cap<=140737488355328->vf (sh f o) D+vf fa n*vf fb m<pw D ->
  Calls prog 166 #[slice (some ⟨g,o,none⟩) D cap,slice ao n ca,slice bo m cb] w λe w'=>e=returned (.tuple #[])/\Only g w w' /\
   ∃f',Blk .u64 49 w' g N f'/\Lm f' N/\(∀j,j<o∨o+D<=j->f' j=f j)/\vf (sh f' o) D=vf (sh f o) D+vf fa n*vf fb m
theorem zdh (n m:Nat) (h:n<40∨m<40):AddProd n m:=by
 intro g o cap N f ao bo ca cb D fa fb w hb hf ho hD hN hra hrb ha hbb hoa hob hcap hcm hroom;by_cases hsw:n<m
 ·have hmul:vf fa n*vf fb m=vf fb m*vf fa n:=mul_comm _ _;rw[hmul]at hroom ⊢
  have c:=zgl g o cap N f bo ao m n cb ca D fb fa w hb hf ho (by omega) hN hrb hra hbb ha hob hoa hcap hcm (by omega) hroom;have C:=zk c;clear c hroom hra hrb ha hbb hoa hob hmul hb hf;go_enter func166,ntmps166;go_wp2_with fail
  refine C.out.mono ?_;rintro e w' ⟨rfl,hrest⟩;have HRest:=zk hrest;clear hrest;go_wp2;exact bodyPost_end (v:=.tuple #[]) (results_none rfl _ _ _) rfl ⟨rfl,HRest.out⟩
 ·have c:=zgl g o cap N f ao bo n m ca cb D fa fb w hb hf ho (by omega) hN hra hrb ha hbb hoa hob hcap hcm (by omega) hroom;have C:=zk c;clear c hroom hra hrb ha hbb hoa hob hb hf;go_enter func166,ntmps166;go_wp2_with fail
  refine C.out.mono ?_;rintro e w' ⟨rfl,hrest⟩;have HRest:=zk hrest;clear hrest;go_wp2;exact bodyPost_end (v:=.tuple #[]) (results_none rfl _ _ _) rfl ⟨rfl,HRest.out⟩
theorem zpd {fa fb n m} (ha:Lm fa n) (hb:Lm fb m):vf fa n*vf fb m<pw (n+m):=by
 have a1:=zz ha;have a2:=zar ha;have b1:=zz hb;have b2:=zar hb
 rw[zbU];have h1:vf fa n*vf fb m<=vf fa n*pw m:=Int.mul_le_mul_of_nonneg_left (le_of_lt b2) a1;have h2:vf fa n*pw m<pw n*pw m:=(Int.mul_lt_mul_right (zab m)).2 a2;omega
def zbN (n m ca cb:Nat):Prop:=∀(g o cap N:Nat) (f:Nat->Int) (ao bo:Option Addr) (D:Nat) (fa fb:Nat->Int) (w:World),Blk .u64 49 w g N f->Lm f N->o+D<=N->n+m<=D->N<=140737488355328 ->
  Rd .u64 w ao n fa->Rd .u64 w bo m fb->Lm fa n->Lm fb m->(0<n->Off ao g)->(0<m->Off bo g)->D<=cap->cap<=140737488355328->vf (sh f o) D+vf fa n*vf fb m<pw D ->
  Calls prog 166 #[slice (some ⟨g,o,none⟩) D cap,slice ao n ca,slice bo m cb] w λe w'=>e=returned (.tuple #[])/\Only g w w' /\
   ∃f',Blk .u64 49 w' g N f'/\Lm f' N/\(∀j,j<o∨o+D<=j->f' j=f j)/\vf (sh f' o) D=vf (sh f o) D+vf fa n*vf fb m
theorem AddProd.at {n m} (h:AddProd n m) (ca cb:Nat):zbN n m ca cb:=λg o cap N f ao bo D fa fb w=>h g o cap N f ao bo ca cb D fa fb w
theorem zjj (n c:Nat) (z:Int) (w:World) (hn:n<=140737488355328) (hz:z=n) (hc:c=(n+1)/2):Calls prog 177 #[.int .i64 z] w λe w'=>e=returned (.int .i64 c)/\w'=w:=by
 subst hz;have h1:Int.tdiv ((n:Int)+1) 2=(c:Int):=by rw[Int.tdiv_eq_ediv_of_nonneg (by omega)];omega
 have h2:((n:Int)+1)/2=(c:Int):=by omega
 clear hc;go_enter func177,ntmps177;go_wp2;go_ret;exact⟨rfl,rfl⟩
theorem zcA {g a w} (h:Only g a w) (q:Nat):Only g a (w.drewN q):=⟨h.os,h.tape,h.output,h.size,h.block⟩
theorem zca {f' F o i D X V0 V} (hi:i<=D) (h0:vf (sh F o) D=V0) (he:∀j,j<o+i∨o+i+(D-i)<=j->f' j=F j) (hv:vf (sh f' (o+i)) (D-i)=vf (sh F (o+i)) (D-i)+X) (hV:V=V0+X*pw i):vf (sh f' o) D=V:=by
 obtain⟨d,rfl⟩:=Nat.exists_eq_add_of_le hi;rw[Nat.add_sub_cancel_left]at hv he
 rw[zM,zax]at h0 ⊢
 rw[hv,zN (f:=sh f' o) (g:=sh F o) (n:=i) (λj hj=>he _ (by omega)),hV,<-h0]
 grind
theorem zch {F o i D N X V0} (hi:i<=D) (hF:Lm F N) (hN:o+D<=N) (h0:vf (sh F o) D=V0) (hr:V0+X*pw i<pw D):vf (sh F (o+i)) (D-i)+X<pw (D-i):=by
 obtain⟨d,rfl⟩:=Nat.exists_eq_add_of_le hi;rw[Nat.add_sub_cancel_left];have a1:=zz (hF.sh (o:=o) (m:=i) (by omega));rw[zM,zax]at h0
 rw[zbU]at hr
 have hp:=zab i;have:(vf (sh F (o+i)) d+X)*pw i<pw d*pw i:=by rw[add_mul,mul_comm (pw d)];omega
 exact Int.lt_of_mul_lt_mul_right this (le_of_lt hp)
theorem zeX (fa:Nat->Int) (i n V:_):vf fa (i+n)*V=vf fa i*V+vf (sh fa i) n*V*pw i:=by rw[zM];grind
theorem zkj (g o cap N:Nat) (f:Nat->Int) (b ob:Nat) (bo:Option Addr) (n m ca cb D:Nat) (fa fb:Nat->Int) (w:World) (hb:Blk .u64 49 w g N f) (hf:Lm f N) (ho:o+D<=N) (hD:n+m<=D) (hN:N<=140737488355328)
  (hra:Rd .u64 w (some ⟨b,ob,none⟩) n fa) (hrb:Rd .u64 w bo m fb) (ha:Lm fa n) (hbb:Lm fb m) (hoa:b≠g) (hob:0<m->Off bo g) (hcap:D<=cap) (hcm:cap<=140737488355328) (hca:n<=ca) (hcam:ca<=9223372036854775807) (hm0:0<m)
  (hih:∀k c,k<=m->k<=c->c<=ca->zbN k m c cb) (hroom:vf (sh f o) D+vf fa n*vf fb m<pw D) :
  Calls prog 178 #[slice (some ⟨g,o,none⟩) D cap,slice (some ⟨b,ob,none⟩) n ca,slice bo m cb] w λe w'=>e=returned (.tuple #[])/\Only g w w' /\
   ∃f',Blk .u64 49 w' g N f'/\Lm f' N/\(∀j,j<o∨o+D<=j->f' j=f j)/\vf (sh f' o) D=vf (sh f o) D+vf fa n*vf fb m:=by
 have HRm:=zk hroom;have HB:=zk hb;have HF:=zk hf;have HRA:=zk hra;have HRB:=zk hrb;have HA:=zk ha;have HBB:=zk hbb;have HIH:=zk hih;have HOB:=zk hob
 clear hroom hb hf hra hrb ha hbb hih hob;go_enter func178,ntmps178;go_wp2;go_loopw[0,1] (λd a wr=>∃(i:Nat) (f':Nat->Int) (x:Option Addr) (c:Nat),i<=n/\d=slice (some ⟨g,o+i,none⟩) (D-i) (cap-i)/\a=slice x (n-i) c/\(i<n->x=some ⟨b,ob+i,none⟩/\c=ca-i)/\Only g w wr/\Hid (Blk .u64 49 wr g N f')/\Hid (Lm f' N)/\Hid (∀j,j<o∨o+D<=j->f' j=f j)/\Hid (vf (sh f' o) D=vf (sh f o) D+vf fa i*vf fb m)) (λ_ a _=>match a with|slice _ k _=>k|_=>0)
 case atStart=>exact⟨0,f,some ⟨b,ob,none⟩,ca,by omega,rfl,rfl,λ_=>⟨rfl,rfl⟩,Only.refl _ _,HB.out,HF.out,λ_ _=>rfl,by simp[Hid,vf]⟩
 case round =>
  obtain⟨i,f',x,c,hi,rfl,rfl,hx,hon,HBl,HL,HE,HV⟩:=hrel;by_cases hlt:i<n
  ·obtain⟨rfl,rfl⟩:=hx hlt;have hbl:=HBl.out;by_cases hsm:m<n-i
   ·have hr1:=zch (o:=o) (i:=i) (D:=D) (N:=N) (X:=vf (sh fa i) m*vf fb m) (by omega) HL.out ho HV.out (by
     have e1:=zeX fa i m (vf fb m);have e2:vf fa (i+m)*vf fb m<=vf fa n*vf fb m:=Int.mul_le_mul_of_nonneg_right (zme HA.out (by omega)) (zz HBB.out);have:=HRm.out;omega)
    have C:=zk (HIH.out m (ca-i) (le_refl _) (by omega) (by omega) g (o+i) (cap-i) N f' (some ⟨b,ob+i,none⟩) bo (D-i) (sh fa i) fb wr hbl HL.out (by omega) (by omega) hN ((HRA.out.only hon (off_some hoa)).drop (by omega)) (HRB.out.only hon (HOB.out hm0)) (HA.out.sh (by omega)) HBB.out (λ_=>off_some hoa) HOB.out (by omega) (by omega) hr1);clear hr1 hbl hx;have m1:(m:Int)<((n-i:Nat):Int):=by omega
    have m2:¬(m=ca-i):=by omega
    have m3:¬(m=cap-i):=by omega
    have hmin:min (m:Int) ((n-i:Nat):Int)=(m:Int):=by omega
    go_wp2_with fail
    refine C.out.mono ?_;rintro e w2 ⟨rfl,hon2,f2,hb2,hl2,he2,hv2⟩;have HB2:=zk hb2;have HL2:=zk hl2;have HE2:=zk he2;have HV2:=zk hv2
    clear hb2 hl2 he2 hv2 C;have q1:(m:Int)<=((n-i:Nat):Int):=by omega
    have q2:(m:Int)<=((D-i:Nat):Int):=by omega
    have q3:m<=n-i:=by omega
    have q4:m<=D-i:=by omega
    have m4:¬(ca-i=m):=by omega
    have m5:¬(cap-i=m):=by omega
    go_wp2
    go_quiet (fail)
    go_wp2;go_roundw
    case rel =>
     refine⟨i+m,f2,_,_,by omega,(by rw[<-Nat.add_assoc,<-Nat.sub_sub,<-Nat.sub_sub]),(by rw[<-Nat.sub_sub]),λ_=>⟨by rw[<-Nat.add_assoc],by rw[Nat.sub_sub]⟩,zcA (hon.trans hon2) _,HB2.out,HL2.out,λj hj=>(HE2.out j (by omega)).trans (HE.out j hj),?_⟩;have:=zca (by omega) HV.out HE2.out HV2.out rfl;show _=_;rw[this,zeX];omega
    case measure=>show n-i-m<n-i;omega
   ·have hr1:=zch (o:=o) (i:=i) (D:=D) (N:=N) (X:=vf (sh fa i) (n-i)*vf fb m) (by omega) HL.out ho HV.out (by
     have e1:=zeX fa i (n-i) (vf fb m);have e2:vf fa (i+(n-i))*vf fb m<=vf fa n*vf fb m:=Int.mul_le_mul_of_nonneg_right (zme HA.out (by omega)) (zz HBB.out);have:=HRm.out;omega)
    have C:=zk (HIH.out (n-i) (ca-i) (by omega) (by omega) (by omega) g (o+i) (cap-i) N f' (some ⟨b,ob+i,none⟩) bo (D-i) (sh fa i) fb wr hbl HL.out (by omega) (by omega) hN ((HRA.out.only hon (off_some hoa)).drop (by omega)) (HRB.out.only hon (HOB.out hm0)) (HA.out.sh (by omega)) HBB.out (λ_=>off_some hoa) HOB.out (by omega) (by omega) hr1);clear hr1 hbl hx;obtain⟨r,hr⟩:∃r,n-i=r:=⟨_,rfl⟩;have HRe:=zk hr;rw[hr]at C ⊢
    have hr0:0<r:=by omega
    have hrca:r<=ca-i:=by omega
    have hrD:r<D-i:=by omega
    have hrcap:r<cap-i:=by omega
    have hrm:r<=m:=by omega
    clear hr;have hmin:min (m:Int) (r:Int)=(r:Int):=by omega
    go_wp2_with fail
    refine C.out.mono ?_;rintro e w2 ⟨rfl,hon2,f2,hb2,hl2,he2,hv2⟩;have HB2:=zk hb2;have HL2:=zk hl2;have HE2:=zk he2;have HV2:=zk hv2
    clear hb2 hl2 he2 hv2 C;have q2:(r:Int)<=((D-i:Nat):Int):=by omega
    have q4:r<=D-i:=by omega
    have m3:¬(r=cap-i):=by omega
    have m5:¬(cap-i=r):=by omega
    have q5:(r:Int)<=(r:Int):=by omega
    by_cases hc:r=ca-i
    ·rw[<-hc];clear hc hrca;go_wp2
     go_quiet (fail)
     go_wp2;go_roundw
     case rel =>
      have hre:=HRe.out;refine⟨n,f2,_,_,by omega,(by rw[show n=i+r by omega,<-Nat.add_assoc,<-Nat.sub_sub,<-Nat.sub_sub]),(by rw[sub_self]),λh=>by omega,zcA (hon.trans hon2) _,HB2.out,HL2.out,λj hj=>(HE2.out j (by omega)).trans (HE.out j hj),?_⟩;have:=zca (by omega) HV.out HE2.out HV2.out rfl;show _=_;rw[this,show n=i+r by omega,zeX];omega
     case measure=>show _<_;simp;omega
    ·have hc2:¬(ca-i=r):=λh=>hc h.symm
     go_wp2
     go_quiet (fail)
     go_wp2;go_roundw
     case rel =>
      have hre:=HRe.out;refine⟨n,f2,_,_,by omega,(by rw[show n=i+r by omega,<-Nat.add_assoc,<-Nat.sub_sub,<-Nat.sub_sub]),(by rw[sub_self]),λh=>by omega,zcA (hon.trans hon2) _,HB2.out,HL2.out,λj hj=>(HE2.out j (by omega)).trans (HE.out j hj),?_⟩;have:=zca (by omega) HV.out HE2.out HV2.out rfl;show _=_;rw[this,show n=i+r by omega,zeX];omega
     case measure=>show _<_;simp;omega
  ·have hin:i=n:=by omega
   subst hin;go_wp2;refine bodyPost_end (v:=.tuple #[]) (results_none rfl _ _ _) rfl ⟨rfl,hon,f',HBl.out,HL.out,HE.out,HV.out⟩
theorem zcQ (ao bo:Option Addr) (n m ca cb:Nat) (fa fb:Nat->Int) (w:World) (hap:zbN n m ca cb) (hn:n<=4398046511104) (hm:m<=4398046511104) (hra:Rd .u64 w ao n fa) (hrb:Rd .u64 w bo m fb) (ha:Lm fa n) (hb:Lm fb m) :
  Calls prog 154 #[slice ao n ca,slice bo m cb] w λe w'=>e=returned (slice (some ⟨w.heap.size,0,none⟩) (n+m) (n+m))/\Bl w w' /\
   ∃f',Blk .u64 49 w' w.heap.size (n+m) f'/\Lm f' (n+m)/\vf f' (n+m)=vf fa n*vf fb m:=by
 have HP:=zk hap;have HA:=zk ha;have HB:=zk hb;have RA:=zk hra;have RB:=zk hrb
 clear hap ha hb hra hrb;go_enter func154,ntmps154;go_wp2_with(at_make;refine zah .u64 w rfl (.tmp 10) (.tmp 10) 22 rfl 49 8 underlying22 zT .i64 .i64 ((n:Int)+m) ((n:Int)+m) (n+m) rfl rfl (by omega) (by omega) (by omega) (by unfold maxLen;omega) ?_;intro w1 hb1 hbel1)
 have hz:vf (sh (λ_=>(0:Int)) 0) (n+m)=0:=zcK (λ_ _=>rfl);refine(HP.out w.heap.size 0 (n+m) (n+m) (λ_=>0) ao bo (n+m) fa fb w1 hb1 (zgW _) (by omega) (le_refl _) (by omega) (RA.out.q_ hbel1 (le_refl _)) (RB.out.q_ hbel1 (le_refl _)) HA.out HB.out (λh0=>(RA.out.und h0).off (le_refl _)) (λh0=>(RB.out.und h0).off (le_refl _)) (le_refl _) (by omega) (by rw[hz];have:=zpd HA.out HB.out;omega)).mono ?_;rintro e w2 ⟨rfl,hon,f2,hb2,hl2,he2,hv2⟩;rw[hz]at hv2
 have HV2:=zk hv2;clear hv2 hz;go_wp2;go_ret;exact⟨rfl,zV hbel1 hon (le_refl _) hbel1.size,f2,hb2,hl2,by have:=HV2.out;rw[sh_zero]at this;omega⟩
theorem zgx (g N n:Nat) (f:Nat->Int) (w:World) (hb:Blk .u64 49 w g N f) (hn:n<=N) (hN:N<=140737488355328) (hf:Lm f N) :
  Calls prog 153 #[slice (some ⟨g,0,none⟩) n N] w λe w'=>w'=w/\∃x k c,e=returned (slice x k c)/\(∀h,h≠g->Off x h)/\k<=n/\Rd .u64 w x k f/\Lm f k/\Fm f k/\vf f k=vf f n:=by
 refine(zdk _ n N f w hn hN (hb.rd0 hn)).mono ?_;rintro e w2 ⟨rfl,m,hmn,hz,he⟩;refine⟨rfl,?_⟩;have hv:vf f m=vf f n:=zbY hmn hz;rcases he with⟨rfl,rfl⟩|⟨hm0,hne,rfl⟩
 ·exact⟨none,0,0,rfl,λ_ _=>zna _,hmn,Rd.zero,λj hj=>by omega,.inl rfl,hv⟩
 ·exact⟨_,m,N,rfl,λ_ h=>off_some (Ne.symm h),hmn,hb.rd0 (by omega),hf.mono (by omega),.inr hne,hv⟩
theorem Res.kept {C w w' ao n cap f} (h:Res C w w' ao n cap f) {k x m q} (hr:Rd k w x m q):Rd k w' x m q:=hr.q_ h.bel (le_refl _)
theorem zeL {f k D} (hl:Lm f k) (hf:Fm f k) (h:vf f k<pw D):k<=D:=by
 apply Nat.le_of_not_lt;intro hlt
 have b1:=zaI hl hf (by omega);have b2:=zaQ (show D<=k-1 by omega);omega
theorem zqk (g o cap N:Nat) (f:Nat->Int) (b ob b' ob' n m ca cb D c:Nat) (fa fb:Nat->Int) (w:World) (hb:Blk .u64 49 w g N f) (hf:Lm f N) (ho:o+D<=N) (hD:n+m<=D) (hN:N<=140737488355328)
  (hra:Rd .u64 w (some ⟨b,ob,none⟩) n fa) (hrb:Rd .u64 w (some ⟨b',ob',none⟩) m fb) (ha:Lm fa n) (hbb:Lm fb m) (hcap:D<=cap) (hcm:cap<=140737488355328) (hca:n<=ca) (hcam:ca<=9223372036854775807) (hcb:m<=cb) (hcbm:cb<=9223372036854775807)
  (hc:c=(n+1)/2) (hcm1:c<m) (hmn:m<=n) (hm40:40<=m) (hn44:n<=2199023255552)
  (hih:∀k l x y,k+l<n+m->k<=x->l<=y->x<=9223372036854775807->y<=9223372036854775807->zbN k l x y) (hroom:vf (sh f o) D+vf fa n*vf fb m<pw D) :
  Calls prog 179 #[slice (some ⟨g,o,none⟩) D cap,slice (some ⟨b,ob,none⟩) n ca,slice (some ⟨b',ob',none⟩) m cb] w λe w'=>e=returned (.tuple #[])/\Only g w w' /\
   ∃f',Blk .u64 49 w' g N f'/\Lm f' N/\(∀j,j<o∨o+D<=j->f' j=f j)/\vf (sh f' o) D=vf (sh f o) D+vf fa n*vf fb m:=by
 have HRm:=zk hroom;have HB:=zk hb;have HF:=zk hf;have HRA:=zk hra;have HRB:=zk hrb;have HA:=zk ha;have HBB:=zk hbb;have HIH:=zk hih
 have CH:=zk (zjj n c n w (by omega) rfl hc);have hc1:c<n:=by omega
 have hc2:2*c<=n+1:=by omega
 have hc3:n<=2*c:=by omega
 clear hroom hb hf hra hrb ha hbb hih hc;have e1:(c:Int)<=(n:Int):=by omega
 have e2:(c:Int)<=(m:Int):=by omega
 have e3:(c:Int)<=(ca:Int):=by omega
 have e4:(c:Int)<=(cb:Int):=by omega
 have e5:¬(c=ca):=by omega
 have e6:¬(ca=c):=by omega
 have e7:¬(c=cb):=by omega
 have e8:¬(cb=c):=by omega
 have C1:=zk (λW h1 h2=>zcQ (some ⟨b,ob,none⟩) (some ⟨b',ob',none⟩) c c ca cb fa fb W (HIH.out c c ca cb (by omega) (by omega) (by omega) hcam hcbm) (by omega) (by omega) h1 h2 (HA.out.mono (by omega)) (HBB.out.mono (by omega)));go_enter func179,ntmps179;go_wp2_with fail
 refine CH.out.mono ?_;rintro e w' ⟨rfl,rfl⟩;go_upto_region 1 with fail
 go_cut [7]from 13 to 19 (λs wx=>s=slice (some ⟨w'.heap.size,0,none⟩) (c+c) (c+c)/\Bl w' wx/\∃fl,Blk .u64 49 wx w'.heap.size (c+c) fl/\Lm fl (c+c)/\vf fl (c+c)=vf fa c*vf fb c)
 case first =>
  go_region_with (go_at_call 154;refine(C1.out _ (by exact HRA.out.take (by omega)) (by exact HRB.out.take (by omega))).mono ?_;rintro e wl ⟨rfl,hbl,fl,hbl1,hll,hvl⟩;have HVl:=zk hvl;clear hvl)
  all_goals
   go_wp2_with fail
   go_meet
   exact⟨rfl,⟨hbl.os,hbl.tape,hbl.output,hbl.size,hbl.block⟩,fl,hbl1,hll,HVl.out⟩
 case rest =>
 rename World=>w1
 obtain⟨rfl,hbel1,fl,hbl1,hll,hvl⟩:=hcut;have HBl1:=zk hbl1;have HLl:=zk hll;have HVl:=zk hvl;have BE1:=zk hbel1
 have HRA1:=zk (HRA.out.q_ hbel1 (le_refl _));have HRB1:=zk (HRB.out.q_ hbel1 (le_refl _))
 clear hbl1 hll hvl C1 CH hbel1;have C2:=zk (λW h1 h2=>zcQ (some ⟨b,ob+c,none⟩) (some ⟨b',ob'+c,none⟩) (n-c) (m-c) (ca-c) (cb-c) (sh fa c) (sh fb c) W (HIH.out (n-c) (m-c) (ca-c) (cb-c) (by omega) (by omega) (by omega) (by omega) (by omega)) (by omega) (by omega) h1 h2 (HA.out.sh (by omega)) (HBB.out.sh (by omega)));go_upto_region 2 with fail
 go_cut [8]from 20 to 26 (λs wx=>s=slice (some ⟨w1.heap.size,0,none⟩) (n-c+(m-c)) (n-c+(m-c))/\Bl w1 wx/\∃fh,Blk .u64 49 wx w1.heap.size (n-c+(m-c)) fh/\Lm fh (n-c+(m-c))/\vf fh (n-c+(m-c))=vf (sh fa c) (n-c)*vf (sh fb c) (m-c))
 case first =>
  go_region_with (go_at_call 154;refine(C2.out _ (by exact HRA1.out.drop (by omega)) (by exact HRB1.out.drop (by omega))).mono ?_;rintro e wh ⟨rfl,hbh,fh,hbh1,hlh,hvh⟩;have HVh:=zk hvh;clear hvh)
  all_goals
   go_wp2_with fail
   go_meet
   exact⟨rfl,⟨hbh.os,hbh.tape,hbh.output,hbh.size,hbh.block⟩,fh,hbh1,hlh,HVh.out⟩
 case rest =>
 rename World=>w2
 obtain⟨rfl,hbel2,fh,hbh1,hlh,hvh⟩:=hcut;have HBh2:=zk hbh1;have HLh:=zk hlh;have HVh:=zk hvh;have BE2:=zk hbel2
 have HRA2:=zk (HRA1.out.q_ hbel2 (le_refl _));have HRB2:=zk (HRB1.out.q_ hbel2 (le_refl _))
 have HBl2:=zk (HBl1.out.q_ hbel2 (HBl1.out.lt));have BE12:=zJ BE1 hbel2;have zz1:=BE1.out.size;have zl1:=HBl1.out.lt;have zh2:=HBh2.out.lt;clear hbh1 hlh hvh C2 hbel2 HRA1 HRB1 HBl1;have C3:=zk (λW h1 h2=>zoh (some ⟨b,ob,none⟩) (some ⟨b,ob+c,none⟩) c (n-c) ca (ca-c) fa (sh fa c) W (by omega) (by omega) h1 h2 (HA.out.mono (by omega)) (HA.out.sh (by omega)));have C4:=zk (λW h1 h2=>zoh (some ⟨b',ob',none⟩) (some ⟨b',ob'+c,none⟩) c (m-c) cb (cb-c) fb (sh fb c) W (by omega) (by omega) h1 h2 (HBB.out.mono (by omega)) (HBB.out.sh (by omega)));have hbb':b=b'∨b≠b':=by omega
 go_upto_region 3 with fail
 go_cut [9]from 27 to 41 (λs wx=>∃G K fm,s=slice (some ⟨G,0,none⟩) K K/\w2.heap.size<=G/\Bl w2 wx/\K<=4398046511104/\Blk .u64 49 wx G K fm/\Lm fm K/\vf fm K=(vf fa c+vf (sh fa c) (n-c))*(vf fb c+vf (sh fb c) (m-c)))
 case first =>
  go_region_with (first|(go_at_call_of 169 ca;refine(C3.out _ (by exact HRA2.out.take (by omega)) (by exact HRA2.out.drop (by omega))).mono ?_;rintro e wa ⟨xa,ka,da,va,rfl,hresa,hvva⟩;have HResA:=zk hresa;have HVa:=zk hvva;clear hresa hvva)|(go_at_call_of 169 cb;refine(C4.out _ ((HResA.out.kept (by exact HRB2.out)).take (by omega)) ((HResA.out.kept (by exact HRB2.out)).drop (by omega))).mono ?_;rintro e wb ⟨xb,kb,db,vb,rfl,hresb,hvvb⟩;have HResB:=zk hresb;have HVb:=zk hvvb;clear hresb hvvb)|(go_at_call 154;refine(zcQ xa xb ka kb da db va vb _ (HIH.out ka kb da db (by have:=HResA.out.le;have:=HResB.out.le;omega) HResA.out.ncap.1 HResB.out.ncap.1 (by have:=HResA.out.ncap;omega) (by have:=HResB.out.ncap;omega)) (by have:=HResA.out.le;omega) (by have:=HResB.out.le;omega) (HResB.out.kept (by exact HResA.out.rd)) (by exact HResB.out.rd) HResA.out.lm HResB.out.lm).mono ?_;rintro e wm ⟨rfl,hbm,fm,hbm1,hlm,hvm⟩;have HVm:=zk hvm;clear hvm))
  all_goals
   go_wp2_with fail
   go_meet
   have A:=HResA.out.bel;have BA:Bl w2 wa:=⟨A.os,A.tape,A.output,A.size,A.block⟩;have BB:=HResB.out.bel;have y1:=BA.size;have y2:=BB.size;refine⟨wb.heap.size,ka+kb,fm,rfl,by omega,BA.trans ((BB.mono y1).trans (hbm.mono (by omega))),by have:=HResA.out.le;have:=HResB.out.le;omega,hbm1,hlm,?_⟩;rw[HVm.out,HVa.out,HVb.out]
 case rest =>
 rename World=>w3
 obtain⟨G,K,fm,rfl,hG,hbel3,hK,hbm3,hlm,hvm⟩:=hcut;have zz2:=BE2.out.size;have zG:=hbm3.lt;obtain⟨A0,hA0⟩:∃A0,vf fa c=A0:=⟨_,rfl⟩;obtain⟨A1,hA1⟩:∃A1,vf (sh fa c) (n-c)=A1:=⟨_,rfl⟩;obtain⟨B0,hB0⟩:∃B0,vf fb c=B0:=⟨_,rfl⟩;obtain⟨B1,hB1⟩:∃B1,vf (sh fb c) (m-c)=B1:=⟨_,rfl⟩;have pA0:0<=A0:=by rw[<-hA0];exact zz (HA.out.mono (by omega))
 have pA1:0<=A1:=by rw[<-hA1];exact zz (HA.out.sh (by omega))
 have pB0:0<=B0:=by rw[<-hB0];exact zz (HBB.out.mono (by omega))
 have pB1:0<=B1:=by rw[<-hB1];exact zz (HBB.out.sh (by omega))
 have hAn:vf fa n=A0+A1*pw c:=by rw[<-hA0,<-hA1,<-zM,show c+(n-c)=n by omega]
 have hBn:vf fb m=B0+B1*pw c:=by rw[<-hB0,<-hB1,<-zM,show c+(m-c)=m by omega]
 have hvl:=HVl.out;have hvh:=HVh.out;rw[hA0,hB0]at hvl
 rw[hA1,hB1]at hvh
 rw[hA0,hA1,hB0,hB1]at hvm
 have p00:0<=A0*B0:=mul_nonneg pA0 pB0;have p11:0<=A1*B1:=mul_nonneg pA1 pB1;have p01:0<=A0*B1:=mul_nonneg pA0 pB1;have p10:0<=A1*B0:=mul_nonneg pA1 pB0;have hmid:(A0+A1)*(B0+B1)=A0*B0+A1*B1+(A0*B1+A1*B0):=by grind
 rw[hmid]at hvm
 have hroom:=HRm.out;rw[hAn,hBn]at hroom
 have hall:vf (sh f o) D+(A0+A1*pw c)*(B0+B1*pw c)=vf (sh f o) D+A0*B0+A1*B1*pw (2*c)+(A0*B1+A1*B0)*pw c:=by
  rw[show 2*c=c+c by omega,zbU];grind
 rw[hall]at hroom
 generalize hL00:A0*B0=L00 at *;generalize hL11:A1*B1=L11 at *;generalize hLm:A0*B1+A1*B0=Lm' at *;have pm:0<=Lm':=by omega
 clear hmid hA0 hA1 hB0 hB1 pA0 pA1 pB0 pB1 hL00 hL11 hLm p01 p10 C3 C4 HRA2 HRB2 HRA HRB HVl HVh HRm;have ROOM:=zk hroom;have HVl:=zk hvl;have HVh:=zk hvh;have HVm:=zk hvm;have HAll:=zk hall;have HAn:=zk hAn;have HBn:=zk hBn;have HLm3:=zk hlm;have HBm3:=zk hbm3
 have HBl3:=zk (HBl2.out.q_ hbel3 HBl2.out.lt);have HBh3:=zk (HBh2.out.q_ hbel3 HBh2.out.lt);have BE3:=zk (BE12.out.trans (hbel3.mono (by omega)));have HB3:=zk (HB.out.q_ BE3.out HB.out.lt);have gG:=HB.out.lt;clear hroom hvl hvh hvm hall hAn hBn hlm hbm3 hbel3 HBl2 HBh2 HB;generalize hgl:w'.heap.size=gl at *;generalize hgh:w1.heap.size=gh at *;go_wp2_with fail
 refine(zgx gl (c+c) (c+c) fl w3 HBl3.out (le_refl _) (by omega) HLl.out).mono ?_;rintro e wt ⟨rfl,x1,k1,d1,rfl,hoff1,hk1,hr1,hl1,hf1,hv1⟩;have HV1:=zk hv1;have HL1:=zk hl1;have HF1:=zk hf1;have HR1:=zk hr1;have HO1:=zk hoff1
 have hkK:k1<=K:=zbT hl1 HLm3.out hf1 (by rw[hv1,HVl.out,HVm.out];omega);clear hv1 hl1 hf1 hr1 hoff1;go_wp2_with fail
 refine(zdQ G 0 K K K fm x1 k1 d1 fl _ HBm3.out HLm3.out (by omega) (by omega) HR1.out HL1.out (λ_=>HO1.out G (by omega)) hkK (le_refl _) (by omega) (by rw[sh_zero,HV1.out,HVl.out,HVm.out];omega)).mono ?_;rintro e w4 ⟨rfl,hon4,fm1,hb4,hl4,_,hv4⟩;rw[sh_zero,sh_zero,HV1.out,HVl.out,HVm.out]at hv4
 have HBm4:=zk hb4;have HLm4:=zk hl4;have HVm4:=zk hv4;have ON4:=zk hon4
 have HBl4:=zk (HBl3.out.only hon4 (by omega));have HBh4:=zk (HBh3.out.only hon4 (by omega));have HB4:=zk (HB3.out.only hon4 (by omega))
 clear hb4 hl4 hv4 hon4 HR1 HL1 HF1 HO1 HV1 HBl3 HBh3 HB3 HBm3 HLm3 HVm hkK hk1;go_wp2_with fail
 refine(zgx gh (n-c+(m-c)) (n-c+(m-c)) fh w4 HBh4.out (le_refl _) (by omega) HLh.out).mono ?_;rintro e wt ⟨rfl,x2,k2,d2,rfl,hoff1,hk1,hr1,hl1,hf1,hv1⟩;have HV1:=zk hv1;have HL1:=zk hl1;have HF1:=zk hf1;have HR1:=zk hr1;have HO1:=zk hoff1
 have hkK:k2<=K:=zbT hl1 HLm4.out hf1 (by rw[hv1,HVh.out,HVm4.out];omega);clear hv1 hl1 hf1 hr1 hoff1;go_wp2_with fail
 refine(zdQ G 0 K K K fm1 x2 k2 d2 fh _ HBm4.out HLm4.out (by omega) (by omega) HR1.out HL1.out (λ_=>HO1.out G (by omega)) hkK (le_refl _) (by omega) (by rw[sh_zero,HV1.out,HVh.out,HVm4.out];omega)).mono ?_;rintro e w5 ⟨rfl,hon5,fm2,hb5,hl5,_,hv5⟩;rw[sh_zero,sh_zero,HV1.out,HVh.out,HVm4.out]at hv5
 have HBm5:=zk hb5;have HLm5:=zk hl5;have HVm5:=zk (show vf fm2 K=Lm' by omega);have ON5:=zk (ON4.out.trans hon5)
 have HBl5:=zk (HBl4.out.only hon5 (by omega));have HBh5:=zk (HBh4.out.only hon5 (by omega));have HB5:=zk (HB4.out.only hon5 (by omega))
 clear hb5 hl5 hv5 hon5 HR1 HL1 HF1 HO1 HV1 HBl4 HBh4 HB4 HBm4 HLm4 HVm4 hkK hk1 ON4;have p2c:=zab (2*c);have pc:=zab c;have q11:0<=L11*pw (2*c):=mul_nonneg p11 (le_of_lt p2c);have qmm:0<=Lm'*pw c:=mul_nonneg pm (le_of_lt pc);have Q11:=zk q11;have QM:=zk qmm
 clear q11 qmm p2c pc;go_wp2_with fail
 refine(zeV g o D cap N f (some ⟨gl,0,none⟩) (c+c) (c+c) fl w5 HB5.out HF.out ho hN (HBl5.out.rd0 (le_refl _)) HLl.out (λ_=>off_some (by omega)) (by omega) hcap hcm (by rw[HVl.out];have:=ROOM.out;have:=Q11.out;have:=QM.out;omega)).mono ?_;rintro e w6 ⟨rfl,hon6,f6,hb6,hl6,he6,hv6⟩;rw[HVl.out]at hv6
 have HB6:=zk hb6;have HL6:=zk hl6;have HE6:=zk he6;have HV6:=zk hv6;have ON6:=zk hon6
 have HBh6:=zk (HBh5.out.only hon6 (by omega));have HBm6:=zk (HBm5.out.only hon6 (by omega))
 clear hb6 hl6 he6 hv6 hon6 HBh5 HBm5 HBl5 HB5;have r1:¬(2*c=cap):=by omega
 have r2:¬(cap=2*c):=by omega
 have r3:(2*(c:Int))<=(D:Int):=by omega
 have r4:(2*(c:Int)).toNat=2*c:=by omega
 have hroom7:=zch (o:=o) (i:=2*c) (D:=D) (N:=N) (X:=L11) (by omega) HL6.out ho HV6.out (by have:=ROOM.out;have:=QM.out;omega);have R7:=zk hroom7;clear hroom7;go_wp2_with fail
 refine(zeV g (o+2*c) (D-2*c) (cap-2*c) N f6 (some ⟨gh,0,none⟩) (n-c+(m-c)) (n-c+(m-c)) fh w6 HB6.out HL6.out (by omega) hN (HBh6.out.rd0 (le_refl _)) HLh.out (λ_=>off_some (by omega)) (by omega) (by omega) (by omega) (by rw[HVh.out];exact R7.out)).mono ?_;rintro e w7 ⟨rfl,hon7,f7,hb7,hl7,he7,hv7⟩;rw[HVh.out]at hv7
 have hv7':=zca (V:=vf (sh f o) D+L00+L11*pw (2*c)) (by omega) HV6.out he7 hv7 rfl;have hroom8:=zch (o:=o) (i:=c) (D:=D) (N:=N) (X:=Lm') (by omega) hl7 ho hv7' (by have:=ROOM.out;omega);have lo8:=zz (hl7.sh (o:=o+c) (m:=D-c) (by omega));have R8:=zk hroom8;have HB7:=zk hb7;have HL7:=zk hl7;have HV7:=zk hv7';have ON7:=zk (ON6.out.trans hon7)
 have HE7:=zk (show ∀j,j<o∨o+D<=j->f7 j=f j from λj hj=>(he7 j (by omega)).trans (HE6.out j hj));have LO8:=zk lo8;have HBm7:=zk (HBm6.out.only hon7 (by omega));clear hroom8 hb7 hl7 hv7 hv7' he7 hon7 lo8 HB6 HL6 HE6 HV6 ON6 HBh6 HBm6 R7;have r5:¬(c=cap):=by omega
 have r6:¬(cap=c):=by omega
 have r7:(c:Int)<=(D:Int):=by omega
 go_wp2_with fail
 go_region_with (first|(go_at_call 153;refine(zgx G K K fm2 _ (by exact HBm7.out) (le_refl _) (by omega) HLm5.out).mono ?_;rintro e wt ⟨rfl,x3,k3,d3,rfl,hoff3,hk3,hr3,hl3,hf3,hv3⟩;have HV3:=zk hv3;have HL3:=zk hl3;have HF3:=zk hf3;have HR3:=zk hr3;have HO3:=zk hoff3;clear hv3 hl3 hf3 hr3 hoff3)|(go_at_call 183;refine(zeV g (o+c) (D-c) (cap-c) N f7 x3 k3 d3 fm2 _ (by exact HB7.out) HL7.out (by omega) hN (by exact HR3.out) HL3.out (λ_=>HO3.out g (by omega)) (by exact zeL HL3.out HF3.out (by rw[HV3.out,HVm5.out];have:=R8.out;have:=LO8.out;omega)) (by omega) (by omega) (by rw[HV3.out,HVm5.out];exact R8.out)).mono ?_;rintro e w8 ⟨rfl,hon8,f8,hb8,hl8,he8,hv8⟩;have HB8:=zk hb8;have HL8:=zk hl8;have HE8:=zk he8;have HV8:=zk hv8;clear hb8 hl8 he8 hv8))
 all_goals
  go_wp2;have B5:Below gl w' w5:=zV BE3.out ON5.out (by omega) (by have:=BE3.out.size;omega);rw[<-hgl]at B5
  have O7:=(Only.of_below (g:=g) B5).trans ON7.out;have O8:Only g w7 w8:=⟨hon8.os,hon8.tape,hon8.output,hon8.size,hon8.block⟩;have hv8:=HV8.out;rw[HV3.out,HVm5.out]at hv8
  have hfin:=zca (V:=vf (sh f o) D+L00+L11*pw (2*c)+Lm'*pw c) (by omega) HV7.out HE8.out hv8 rfl;refine bodyPost_end (v:=.tuple #[]) (results_none rfl _ _ _) rfl ⟨rfl,O7.trans O8,f8,HB8.out,HL8.out,λj hj=>(HE8.out j (by omega)).trans (HE7.out j hj),?_⟩;rw[hfin,HAn.out,HBn.out,HAll.out]
theorem ziA (n m ca cb:Nat) (hn:n<=2199023255552) (hm:m<=2199023255552) (hca:n<=ca) (hcb:m<=cb) (hcam:ca<=9223372036854775807) (hcbm:cb<=9223372036854775807) (hn40:40<=n) (hm40:40<=m)
  (hih:∀k l x y,k+l<n+m->k<=x->l<=y->x<=9223372036854775807->y<=9223372036854775807->zbN k l x y):zbN n m ca cb:=by
 intro g o cap N f ao bo D fa fb w hb hf ho hD hN hra hrb ha hbb hoa hob hcap hcm hroom;by_cases hsw:n<m
 ·have hmul:vf fa n*vf fb m=vf fb m*vf fa n:=mul_comm _ _;rw[hmul]at hroom ⊢
  obtain⟨ba,oa,rfl⟩:=hrb.at (by omega);obtain⟨bb,obb,rfl⟩:=hra.at (by omega);have hne_a:ba≠g:=hob (by omega) _ rfl;have hne_b:bb≠g:=hoa (by omega) _ rfl;obtain⟨c,hc⟩:∃c,c=(m+1)/2:=⟨_,rfl⟩;have CH:=zk (zjj m c m w (by omega) rfl hc);by_cases hcut:n<=c
  ·have C:=zk (zkj g o cap N f ba oa (some ⟨bb,obb,none⟩) m n cb ca D fb fa w hb hf ho (by omega) hN hrb hra hbb ha (hne_a) hoa hcap hcm hcb hcbm (by omega) (λk x h1 h2 h3=>hih k n x ca (by omega) h2 hca (by omega) hcam) hroom);clear hroom hra hrb ha hbb hoa hob hb hf hih hc hne_a hne_b hmul;go_enter func166,ntmps166;go_wp2_with fail
   refine CH.out.mono ?_;rintro e w' ⟨rfl,rfl⟩;go_wp2_with fail
   refine C.out.mono ?_;rintro e w' ⟨rfl,hrest⟩;have HRest:=zk hrest;clear hrest;go_wp2;exact bodyPost_end (v:=.tuple #[]) (results_none rfl _ _ _) rfl ⟨rfl,HRest.out⟩
  ·have C:=zk (zqk g o cap N f ba oa bb obb m n cb ca D c fb fa w hb hf ho (by omega) hN hrb hra hbb ha hcap hcm hcb hcbm hca hcam hc (by omega) (by omega) (by omega) (by omega) (λk l x y h=>hih k l x y (by omega)) hroom);clear hroom hra hrb ha hbb hoa hob hb hf hih hc hne_a hne_b hmul;go_enter func166,ntmps166;go_wp2_with fail
   refine CH.out.mono ?_;rintro e w' ⟨rfl,rfl⟩;go_wp2_with fail
   refine C.out.mono ?_;rintro e w' ⟨rfl,hrest⟩;have HRest:=zk hrest;clear hrest;go_wp2;exact bodyPost_end (v:=.tuple #[]) (results_none rfl _ _ _) rfl ⟨rfl,HRest.out⟩
 ·skip
  obtain⟨ba,oa,rfl⟩:=hra.at (by omega);obtain⟨bb,obb,rfl⟩:=hrb.at (by omega);have hne_a:ba≠g:=hoa (by omega) _ rfl;have hne_b:bb≠g:=hob (by omega) _ rfl;obtain⟨c,hc⟩:∃c,c=(n+1)/2:=⟨_,rfl⟩;have CH:=zk (zjj n c n w (by omega) rfl hc);by_cases hcut:m<=c
  ·have C:=zk (zkj g o cap N f ba oa (some ⟨bb,obb,none⟩) n m ca cb D fa fb w hb hf ho (by omega) hN hra hrb ha hbb (hne_a) hob hcap hcm hca hcam (by omega) (λk x h1 h2 h3=>hih k m x cb (by omega) h2 hcb (by omega) hcbm) hroom);clear hroom hra hrb ha hbb hoa hob hb hf hih hc hne_a hne_b;go_enter func166,ntmps166;go_wp2_with fail
   refine CH.out.mono ?_;rintro e w' ⟨rfl,rfl⟩;go_wp2_with fail
   refine C.out.mono ?_;rintro e w' ⟨rfl,hrest⟩;have HRest:=zk hrest;clear hrest;go_wp2;exact bodyPost_end (v:=.tuple #[]) (results_none rfl _ _ _) rfl ⟨rfl,HRest.out⟩
  ·have C:=zk (zqk g o cap N f ba oa bb obb n m ca cb D c fa fb w hb hf ho (by omega) hN hra hrb ha hbb hcap hcm hca hcam hcb hcbm hc (by omega) (by omega) (by omega) (by omega) (λk l x y h=>hih k l x y (by omega)) hroom);clear hroom hra hrb ha hbb hoa hob hb hf hih hc hne_a hne_b;go_enter func166,ntmps166;go_wp2_with fail
   refine CH.out.mono ?_;rintro e w' ⟨rfl,rfl⟩;go_wp2_with fail
   refine C.out.mono ?_;rintro e w' ⟨rfl,hrest⟩;have HRest:=zk hrest;clear hrest;go_wp2;exact bodyPost_end (v:=.tuple #[]) (results_none rfl _ _ _) rfl ⟨rfl,HRest.out⟩
theorem ziB (s:Nat):∀n m ca cb,n+m<=s->s<=2199023255552->n<=ca->m<=cb->ca<=9223372036854775807->cb<=9223372036854775807->zbN n m ca cb:=by
 induction s with
 | zero=>intro n m ca cb h _ _ _ _ _;exact(zdh n m (by omega)).at ca cb
 | succ s ih =>
  intro n m ca cb h hs h1 h2 h3 h4;by_cases hsm:n<40∨m<40
  ·exact(zdh n m hsm).at ca cb
  ·exact ziA n m ca cb (by omega) (by omega) h1 h2 h3 h4 (by omega) (by omega) (λk l x y hk=>ih k l x y (by omega) (by omega))
theorem zsn (ao bo:Option Addr) (n m ca cb:Nat) (fa fb:Nat->Int) (w:World) (hn:n<=1099511627776) (hm:m<=1099511627776) (hca:n<=ca) (hcb:m<=cb) (hcam:ca<=9223372036854775807) (hcbm:cb<=9223372036854775807) (hra:Rd .u64 w ao n fa) (hrb:Rd .u64 w bo m fb) (ha:Lm fa n) (hb:Lm fb m) :
  Calls prog 141 #[slice ao n ca,slice bo m cb] w λe w'=>∃ao' k cap' f',e=returned (slice ao' k cap')/\Res (n+m) w w' ao' k cap' f'/\vf f' k=vf fa n*vf fb m:=by
 have c:=zcQ ao bo n m ca cb fa fb w (ziB (n+m) n m ca cb (le_refl _) (by omega) hca hcb hcam hcbm) (by omega) (by omega) hra hrb ha hb;have C:=zk c;clear c ha hb hra hrb;go_enter func141,ntmps141;go_wp2_with fail
 refine C.out.mono ?_;rintro e w1 ⟨rfl,hbel,f1,hb1,hl1,hv1⟩;have HV1:=zk hv1;clear hv1;go_wp2_with fail
 refine(zaV w.heap.size (n+m) (n+m) f1 w w1 hbel (le_refl _) hb1 (le_refl _) (by omega) hl1).mono ?_;rintro e w2 ⟨rfl,ao',k,cap',rfl,hres,hkn,hv⟩;have HV:=zk hv;clear hv;go_wp2;go_ret;exact⟨ao',k,cap',f1,rfl,hres,by rw[HV.out];exact HV1.out⟩
theorem zlR (g o n cap N:Nat) (f:Nat->Int) (w0:Int) (w:World) (hb:Blk .u64 49 w g N f) (hf:Lm f N) (ho:o+n<=N) (hm:N<=140737488355328) (h0:0<=w0) (h1:w0<18446744073709551616) :
  Calls prog 189 #[slice (some ⟨g,o,none⟩) n cap,.int .u64 w0] w λe w'=>e=returned (.tuple #[])/\Only g w w' /\
   ∃f' c,Blk .u64 49 w' g N f'/\Lm f' N/\(∀j,j<o∨o+n<=j->f' j=f j)/\0<=c/\vf (sh f' o) n+c*pw n=vf (sh f o) n+w0:=by
 go_enter func189,ntmps189;go_wp2;go_loopw[1,7] (λc t wr=>∃(k:Nat) (cc:Int) (f':Nat->Int),k<=n/\t=.int .i64 k/\c=.int .u64 cc/\0<=cc/\cc<18446744073709551616/\Only g w wr/\Blk .u64 49 wr g N f'/\Hid (Lm f' N)/\Hid (∀j,j<o∨o+k<=j->f' j=f j) /\
   Hid (vf (sh f' o) k+cc*pw k=vf (sh f o) k+vf (λ_=>0) k+w0)) (λ_ t _=>n-(intOf t).toNat)
 case atStart=>exact⟨0,w0,f,by omega,rfl,rfl,h0,h1,Only.refl _ _,hb,hf,λ_ _=>rfl,by simp[Hid,vf,pw]⟩
 case round =>
  obtain⟨k,cc,f',hk,rfl,rfl,c0,c1,hon,hbl,HL,HE,HV⟩:=hrel;have z0:∀i,vf (λ_=>0) i=0:=λi=>zcK (λ_ _=>rfl)
  have Z0:=zk z0;clear z0;by_cases hlt:k<n
  ·by_cases hc:cc=0
   ·subst hc;go_wp2;refine bodyPost_ret (v:=.tuple #[]) (results_none rfl _ _ _) rfl ⟨rfl,hon,f',0,hbl,HL.out,λj hj=>HE.out j (by omega),by omega,?_⟩;have hv:=HV.out;obtain⟨d,rfl⟩:=Nat.exists_eq_add_of_le (show k<=n by omega);rw[zM,zM (sh f o),zax,zax,zN (f:=sh f' (o+k)) (g:=sh f (o+k)) (λj hj=>HE.out _ (by omega))];rw[Z0.out]at hv
    omega
   ·have hc1:(cc==0)=false:=by simp[hc]
    obtain⟨x,hx⟩:∃x,f' (o+k)=x:=⟨_,rfl⟩;have hcell:wr.cell? ⟨g,o+k,none⟩=some (.int .u64 x):=by rw[<-hx];exact hbl.cell (by omega)
    have hfz:=hbl.frozen (o+k);have hx01:=HL.out (o+k) (by omega);rw[hx]at hx01
    obtain⟨x0,x1⟩:=hx01;have HX:=zk hx;clear hx;go_wp2_with(simp only[add64_0 x cc x0 c0])
    go_roundw
    case rel =>
     refine⟨k+1,_,upd f' (o+k) ((x+cc)%18446744073709551616),by omega,by go_num,rfl,by omega,by omega,hon.setCell _ _ _,hbl.set _ _,HL.out.upd (by omega),?_,?_⟩
     ·intro j hj;rw[zE _ _ _ _ (by omega)];exact HE.out j (by omega)
     ·have:=zcm (y:=0) HV.out (HE.out _ (by omega)) rfl;rw[HX.out]at this
      simpa[Hid]using this
    case measure=>simp[intOf];omega
  ·have hkn:k=n:=by omega
   subst hkn;go_wp2;refine bodyPost_end (v:=.tuple #[]) (results_none rfl _ _ _) rfl ⟨rfl,hon,f',cc,hbl,HL.out,HE.out,c0,?_⟩;have hv:=HV.out;rw[Z0.out]at hv
   omega
theorem zpV (g o n cap N:Nat) (f:Nat->Int) (bo:Option Addr) (m cb:Nat) (h:Nat->Int) (w:World) (hb:Blk .u64 49 w g N f) (hf:Lm f N) (ho:o+n<=N) (hm:N<=140737488355328)
  (hr:Rd .u64 w bo m h) (hh:Lm h m) (hoff:0<m->Off bo g) (hmn:m<n) (hcap:n<=cap) (hcm:cap<=140737488355328) :
  Calls prog 183 #[slice (some ⟨g,o,none⟩) n cap,slice bo m cb] w λe w'=>e=returned (.tuple #[])/\Only g w w' /\
   ∃f' c,Blk .u64 49 w' g N f'/\Lm f' N/\(∀j,j<o∨o+n<=j->f' j=f j)/\0<=c/\vf (sh f' o) n+c*pw n=vf (sh f o) n+vf h m:=by
 have HH:=(show Hid (Lm h m)from hh);have HRd:=(show Hid (Rd .u64 w bo m h)from hr);clear hh hr;go_enter func183,ntmps183;go_wp2;go_loopw[4,8] (λc t wr=>∃(k:Nat) (cc:Int) (f':Nat->Int),k<=m/\t=.int .i64 k/\c=.int .u64 cc/\0<=cc/\cc<=1/\Only g w wr/\Blk .u64 49 wr g N f'/\Hid (Lm f' N)/\Hid (∀j,j<o∨o+k<=j->f' j=f j) /\
   Hid (vf (sh f' o) k+cc*pw k=vf (sh f o) k+vf h k+0)) (λ_ t _=>m-(intOf t).toNat)
 case atStart=>exact⟨0,0,f,by omega,rfl,rfl,by omega,by omega,Only.refl _ _,hb,hf,λ_ _=>rfl,by simp[Hid,vf,pw]⟩
 case round =>
  obtain⟨k,cc,f',hk,rfl,rfl,c0,c1,hon,hbl,HL,HE,HV⟩:=hrel;by_cases hlt:k<m
  ·have hr:=HRd.out;obtain⟨b,ob,rfl⟩:=hr.at (by omega);obtain⟨x,hx⟩:∃x,f' (o+k)=x:=⟨_,rfl⟩;obtain⟨y,hy⟩:∃y,h k=y:=⟨_,rfl⟩;have hcell:wr.cell? ⟨g,o+k,none⟩=some (.int .u64 x):=by rw[<-hx];exact hbl.cell (by omega)
   have hcelb:wr.cell? ⟨b,ob+k,none⟩=some (.int .u64 y):=by rw[<-hy];exact(hr.only hon (hoff (by omega))).cell hlt
   have hfz:=hbl.frozen (o+k);have hx01:=HL.out (o+k) (by omega);have hy01:=HH.out k hlt;rw[hx]at hx01
   rw[hy]at hy01
   obtain⟨x0,x1⟩:=hx01;obtain⟨y0,y1⟩:=hy01;have HX:=zk hx;have HY:=zk hy;clear hx hy hr;have hadd:=λw=>zoi x y cc x0 y0 c0 c1 w
   go_wp2
   go_region
   all_goals
    go_wp2;go_roundw
    case rel =>
     refine⟨k+1,_,upd f' (o+k) ((x+y+cc)%18446744073709551616),by omega,by go_num,rfl,by omega,by omega,?_,?_,HL.out.upd (by omega),?_,?_⟩
     ·exact(hon.setCell _ _ _).drew
     ·exact(hbl.set _ _).drew
     ·intro j hj;rw[zE _ _ _ _ (by omega)];exact HE.out j (by omega)
     ·have:=zcm (y:=y) HV.out (HE.out _ (by omega)) HY.out;rw[HX.out]at this
      exact this
    case measure=>simp[intOf];omega
  ·have hkm:k=m:=by omega
   subst hkm;obtain⟨d,rfl⟩:=Nat.exists_eq_add_of_le (Nat.le_of_lt hmn);have HS:=zk (show ∀j,j<d->sh f' (o+k) j=sh f (o+k) j from λj hj=>HE.out _ (by omega));have hne:¬(k=cap):=by omega
   go_wp2_with fail
   refine(zlR g (o+k) d (cap-k) N f' cc wr hbl HL.out (by omega) hm c0 (by omega)).mono ?_;rintro e w' ⟨rfl,hon2,f2,c2,hb2,hl2,he2,hc2,hv2⟩;have HV2:=zk hv2;clear hv2;go_wp2;refine bodyPost_end (v:=.tuple #[]) (results_none rfl _ _ _) rfl ⟨rfl,hon.trans hon2,f2,c2,hb2,hl2,λj hj=>(he2 j (by omega)).trans (HE.out j (by omega)),hc2,?_⟩;have hv:=HV.out;have hv2:=HV2.out;rw[zM,zM (sh f o),zax,zax,zbU,zN (f:=sh f2 o) (g:=sh f' o) (n:=k) (λj hj=>he2 _ (by omega))];rw[zN HS.out]at hv2
   have e1:(vf (sh f2 (o+k)) d+c2*pw d)*pw k=(vf (sh f (o+k)) d+cc)*pw k:=by rw[hv2]
   rw[add_mul,add_mul,Int.mul_assoc c2,mul_comm (pw d)]at e1
   omega
theorem zhQ {f f' G o k ov wd x y hi l d b} (HV:vf (sh f' o) k+vf G k*wd=vf (sh f o) k+ov*pw k) (hE:f' (o+k)=f (o+k)) (hx:f' (o+k)=x) (hy:G k=y) (h1:y*wd+ov=hi*18446744073709551616+l) (h2:d=x-l+b*18446744073709551616) :
  vf (sh (upd f' (o+k) d) o) (k+1)+vf G (k+1)*wd=vf (sh f o) (k+1)+(hi+b)*pw (k+1):=by
 have e1:vf (sh (upd f' (o+k) d) o) k=vf (sh f' o) k:=zN (λj hj=>zE _ _ _ _ (by omega));rw[zI,zI,zI,e1,zao,zaS,zaS,zac,hy,<-hE,hx,h2]
 grind
theorem zgT (g o n cap N:Nat) (f:Nat->Int) (bo:Option Addr) (m cb:Nat) (h:Nat->Int) (wd:Int) (w:World) (hb:Blk .u64 49 w g N f) (hf:Lm f N) (ho:o+n<=N)
  (hr:Rd .u64 w bo m h) (hh:Lm h m) (hoff:0<m->Off bo g) (hmn:m<=n) (hcap:n<=cap) (hcm:cap<=140737488355328) (d0:0<=wd) (d1:wd<18446744073709551616) :
  Calls prog 192 #[slice (some ⟨g,o,none⟩) n cap,slice bo m cb,.int .u64 wd] w λe w'=>∃ov,e=returned (.int .u64 ov)/\0<=ov/\ov<18446744073709551616/\Only g w w' /\
   ∃f',Blk .u64 49 w' g N f'/\Lm f' N/\(∀j,j<o∨o+m<=j->f' j=f j)/\vf (sh f' o) m+vf h m*wd=vf (sh f o) m+ov*pw m:=by
 have HH:=zk hh;have HRd:=zk hr;clear hh hr;go_enter func192,ntmps192;go_wp2;go_loopw[7,18] (λc t wr=>∃(k:Nat) (ov:Int) (f':Nat->Int),k<=m/\t=.int .i64 k/\c=.int .u64 ov/\0<=ov/\ov<18446744073709551616/\Only g w wr/\Blk .u64 49 wr g N f'/\Hid (Lm f' N)/\Hid (∀j,j<o∨o+k<=j->f' j=f j) /\
   Hid (vf (sh f' o) k+vf h k*wd=vf (sh f o) k+ov*pw k)) (λ_ t _=>m-(intOf t).toNat)
 case atStart=>exact⟨0,0,f,by omega,rfl,rfl,by omega,by omega,Only.refl _ _,hb,hf,λ_ _=>rfl,by simp[Hid,vf,pw]⟩
 case round =>
  obtain⟨k,ov,f',hk,rfl,rfl,v0,v1,hon,hbl,HL,HE,HV⟩:=hrel;by_cases hlt:k<m
  ·have hr:=HRd.out;obtain⟨b,ob,rfl⟩:=hr.at (by omega);obtain⟨x,hx⟩:∃x,f' (o+k)=x:=⟨_,rfl⟩;obtain⟨y,hy⟩:∃y,h k=y:=⟨_,rfl⟩;have hcell:wr.cell? ⟨g,o+k,none⟩=some (.int .u64 x):=by rw[<-hx];exact hbl.cell (by omega)
   have hcelb:wr.cell? ⟨b,ob+k,none⟩=some (.int .u64 y):=by rw[<-hy];exact(hr.only hon (hoff (by omega))).cell hlt
   have hfz:=hbl.frozen (o+k);have hx01:=HL.out (o+k) (by omega);have hy01:=HH.out k hlt;rw[hx]at hx01
   rw[hy]at hy01
   obtain⟨x0,x1⟩:=hx01;obtain⟨y0,y1⟩:=hy01;have HX:=zk hx;have HY:=zk hy;clear hx hy hr;have c1:=λw=>zdI y wd ov w y0 y1 d0 d1 v0 v1
   have hbd:=zbw y0 y1 d0 d1;obtain⟨hi,hhi⟩:∃hi,(y*wd+ov)/18446744073709551616=hi:=⟨_,rfl⟩;obtain⟨l,hl⟩:∃l,(y*wd+ov)%18446744073709551616=l:=⟨_,rfl⟩;rw[hhi,hl]at c1
   have hP:y*wd+ov=hi*18446744073709551616+l:=by omega
   have i0:0<=hi:=by omega
   have i1:hi+bor x l<18446744073709551616:=by have:=zcn x l;unfold bor;split <;> omega
   have l0:0<=l:=by omega
   have l1:l<18446744073709551616:=by omega
   obtain⟨bb,hbb⟩:∃bb,bor x l=bb:=⟨_,rfl⟩;have bb0:0<=bb:=by rw[<-hbb];exact(zcn _ _).1
   have bb1:bb<=1:=by rw[<-hbb];exact(zcn _ _).2
   have hd:(x-l)%18446744073709551616=x-l+bb*18446744073709551616:=by
    rw[<-hbb];unfold bor;split <;> omega
   have hsub:=λw=>zgA x l x0 l0 l1 w
   simp only[hbb]at hsub;obtain⟨dd,hdd⟩:∃dd,(x-l)%18446744073709551616=dd:=⟨_,rfl⟩;rw[hdd]at hd
   rw[hbb]at i1
   simp only[hdd]at hsub;have dd0:0<=dd/\dd<18446744073709551616:=by omega
   have C1:=zk c1;have HP:=zk hP;have HD:=zk hd
   clear c1 hP hbd hhi hl hd hdd hbb;go_wp2_with fail
   refine(C1.out _).mono ?_;rintro e wx ⟨rfl,rfl⟩;go_wp2;go_roundw
   case rel =>
    refine⟨k+1,hi+bb,upd f' (o+k) dd,by omega,by go_num,rfl,by omega,by omega,hon.setCell _ _ _,hbl.set _ _,HL.out.upd dd0,?_,?_⟩
    ·intro j hj;rw[zE _ _ _ _ (by omega)];exact HE.out j (by omega)
    ·exact zhQ HV.out (HE.out _ (by omega)) HX.out HY.out HP.out HD.out
   case measure=>simp[intOf];omega
  ·have hkm:k=m:=by omega
   subst hkm;go_wp2;go_ret;exact⟨ov,rfl,v0,v1,hon,f',hbl,HL.out,HE.out,HV.out⟩
structure Gk (X u0 v1 v0 t r:Int):Prop where
 eq:t*v1+r=X
 up:t=18446744073709551615∨X*18446744073709551616+u0<(t+1)*(v1*18446744073709551616+v0)
theorem znA {X u0 v1 v0 t r} (h:Gk X u0 v1 v0 t r):t*(v1*18446744073709551616+v0)=(X-r)*18446744073709551616+t*v0:=by
 have:=h.eq;have e:t*v1=X-r:=by omega
 rw[Int.mul_add,<-Int.mul_assoc,e]
theorem zjk {X u0 v1 v0 t r} (h:Gk X u0 v1 v0 t r) (hl:t*v0<=r*18446744073709551616+u0):t*(v1*18446744073709551616+v0)<=X*18446744073709551616+u0:=by
 rw[znA h];omega
theorem znC {X u0 v1 v0 t r} (h:Gk X u0 v1 v0 t r) (t1:t<18446744073709551616) (v00:0<=v0) (v01:v0<18446744073709551616) (u00:0<=u0) (hr:18446744073709551616<=r):t*(v1*18446744073709551616+v0)<=X*18446744073709551616+u0:=by
 refine zjk h ?_;have:t*v0<=18446744073709551616*v0:=Int.mul_le_mul_of_nonneg_right (by omega) v00;omega
theorem znz {u0 v0 t r:Int} (r0:0<=r) (u00:0<=u0) (v00:0<=v0) (hl:r*18446744073709551616+u0<t*v0):0<t:=by
 apply Int.lt_of_not_ge;intro h;have:t*v0<=0*v0:=Int.mul_le_mul_of_nonneg_right h v00;omega
theorem zkw {X u0 v1 v0 t r} (h:Gk X u0 v1 v0 (t+1) r) (hl:r*18446744073709551616+u0<(t+1)*v0):Gk X u0 v1 v0 t (r+v1):=by
 refine⟨?_,.inr ?_⟩
 ·have:=h.eq;rw[add_mul]at this;omega
 ·rw[znA h];omega
theorem znB {u2 u1 u0 v1 v0} (a0:0<=u2) (a1:u2<v1) (b0:0<=u1) (b1:u1<18446744073709551616) (_c0:0<=u0) (c1:u0<18446744073709551616) (d0:0<=v0) :
  Gk (u2*18446744073709551616+u1) u0 v1 v0 ((u2*18446744073709551616+u1)/v1) ((u2*18446744073709551616+u1)%v1)/\0<=(u2*18446744073709551616+u1)/v1/\(u2*18446744073709551616+u1)/v1<18446744073709551616/\0<=(u2*18446744073709551616+u1)%v1/\(u2*18446744073709551616+u1)%v1<v1:=by
 have hv:0<v1:=by omega
 obtain⟨X,hX⟩:∃X,u2*18446744073709551616+u1=X:=⟨_,rfl⟩;rw[hX];have e1:=Int.mul_ediv_add_emod X v1;have e2:=Int.emod_nonneg X (show v1≠0 by omega);have e3:=Int.emod_lt_of_pos X hv;have e4:0<=X/v1:=Int.ediv_nonneg (by omega) (by omega);have e5:X/v1<18446744073709551616:=Int.ediv_lt_of_lt_mul hv (by
  have:u2+1<=v1:=by omega
  have:=Int.mul_le_mul_of_nonneg_left this (show(0:Int)<=18446744073709551616 by decide);omega)
 refine⟨⟨by rw[mul_comm];exact e1,.inr ?_⟩,e4,e5,e2,e3⟩;have e6:(X/v1+1)*v1=v1*(X/v1)+v1:=by rw[add_mul,mul_comm];omega
 have e7:0<=(X/v1+1)*v0:=mul_nonneg (by omega) d0;rw[Int.mul_add,<-Int.mul_assoc,e6];omega
theorem zpE (u2 u1 u0 v1 v0:Int) (w:World) (a0:0<=u2) (a1:u2<=v1) (b0:0<=u1) (b1:u1<18446744073709551616) (c0:0<=u0) (c1:u0<18446744073709551616) (d0:0<=v0) (d1:v0<18446744073709551616) (e0:0<v1) (e1:v1<18446744073709551616) :
  Calls prog 191 #[.int .u64 u2,.int .u64 u1,.int .u64 u0,.int .u64 v1,.int .u64 v0] w λe w'=>(∃q,w'=w.drewN q)/\∃t,e=returned (.int .u64 t)/\0<=t/\t<18446744073709551616 /\
   t*(v1*18446744073709551616+v0)<=(u2*18446744073709551616+u1)*18446744073709551616+u0/\(t=18446744073709551615∨(u2*18446744073709551616+u1)*18446744073709551616+u0<(t+1)*(v1*18446744073709551616+v0)):=by
 by_cases hlt:u2<v1
 ·obtain⟨g1,g2,g3,g4,g5⟩:=znB (u0:=u0) (v0:=v0) a0 hlt b0 b1 c0 c1 d0;have CD:=zk (zhg u2 u1 v1 w a0 hlt e1 b0 b1);obtain⟨X,hX⟩:∃X,u2*18446744073709551616+u1=X:=⟨_,rfl⟩;rw[hX]at g1 g2 g3 g4 g5 CD ⊢
  obtain⟨t0,ht0⟩:∃t0,X/v1=t0:=⟨_,rfl⟩;obtain⟨r0,hr0⟩:∃r0,X%v1=r0:=⟨_,rfl⟩;rw[ht0,hr0]at g1 CD
  rw[ht0]at g2 g3
  rw[hr0]at g4 g5
  have G:=zk g1;clear g1 hX ht0 hr0;go_enter func191,ntmps191;go_wp2_with fail
  refine CD.out.mono ?_;rintro e w1 ⟨rfl,q,rfl⟩;go_wp2
  go_loop [11,12,13] (λc d e=>∃t r k:Int,c=.int .u64 t/\d=.int .u64 r/\e=.int .u64 k/\0<=t/\t<18446744073709551616/\0<=r/\r<18446744073709551616/\0<=k/\k<=1/\Hid (Gk X u0 v1 v0 t (r+k*18446744073709551616))) (λc _ _=>(intOf c).toNat)
  case atStart=>exact⟨t0,r0,0,rfl,rfl,rfl,g2,g3,g4,by omega,by omega,by omega,by have:=G.out;simpa[Hid]using this⟩
  case round =>
   clear G g2 g3 g4 g5;obtain⟨t,r,k,rfl,rfl,rfl,t0a,t0b,r0a,r0b,k0,k1,G⟩:=hrel;by_cases hk:k=0
   ·subst hk;have G2:=G.out;rw[show r+0*18446744073709551616=r by omega]at G2
    have GG:=zk G2;clear G2 G;have c1:=λW=>zgU t v0 W t0a t0b d0 d1
    have hbd:=zbw t0a t0b d0 d1;obtain⟨P,hP⟩:∃P,t*v0=P:=⟨_,rfl⟩;rw[hP]at c1 hbd
    obtain⟨hi,hhi⟩:∃hi,P/18446744073709551616=hi:=⟨_,rfl⟩;obtain⟨lo,hlo⟩:∃lo,P%18446744073709551616=lo:=⟨_,rfl⟩;rw[hhi,hlo]at c1
    have hPP:P=hi*18446744073709551616+lo:=by omega
    have i0:0<=hi:=by omega
    have i1:hi<18446744073709551616:=by omega
    have l0:0<=lo:=by omega
    have l1:lo<18446744073709551616:=by omega
    have C1:=zk c1;have HP:=zk hP;have HPP:=zk hPP
    clear c1 hP hPP hhi hlo hbd;by_cases hfit:P<=r*18446744073709551616+u0
    ·have FIT:=zk (zjk GG.out (by rw[HP.out];exact hfit));have UP:=zk GG.out.up;by_cases hhr:hi<r
     ·clear hfit;go_wp2_with fail
      refine(C1.out _).mono ?_;rintro e wx ⟨rfl,rfl⟩;go_wp2;go_ret;exact⟨⟨q,rfl⟩,t,rfl,t0a,t0b,FIT.out,UP.out⟩
     ·have hhe:hi=r:=by have:=HPP.out;omega
      have hlu:lo<=u0:=by have:=HPP.out;omega
      subst hhe;clear hfit;have hee:(hi==hi)=true:=by simp
      go_wp2_with fail
      refine(C1.out _).mono ?_;rintro e wx ⟨rfl,rfl⟩;go_wp2;go_ret;exact⟨⟨q,rfl⟩,t,rfl,t0a,t0b,FIT.out,UP.out⟩
    ·have hgt:r*18446744073709551616+u0<t*v0:=by rw[HP.out];omega
     have htp:=znz r0a c0 d0 hgt;obtain⟨s,rfl⟩:∃s,t=s+1:=⟨t-1,by omega⟩;have G1:=zk (zkw GG.out hgt);clear GG hgt;have G3:Hid (Gk X u0 v1 v0 s ((r+v1)%18446744073709551616+(r+v1)/18446744073709551616*18446744073709551616)):=by
      show Gk _ _ _ _ _ _;have:(r+v1)%18446744073709551616+(r+v1)/18446744073709551616*18446744073709551616=r+v1:=by omega
      rw[this];exact G1.out
     clear G1;have hs:s+1-1=s:=by omega
     by_cases hhr:r<hi
     ·have hne:(hi==r)=false:=by simp;omega
      clear hfit;go_wp2_with fail
      refine(C1.out _).mono ?_;rintro e wx ⟨rfl,rfl⟩;go_wp2_with(simp only[add64_0 r v1 r0a (le_of_lt e0)])
      go_round
      case rel=>exact⟨s,_,_,by go_num,rfl,rfl,by omega,by omega,by omega,by omega,by omega,by omega,G3.out⟩
      case measure=>simp[intOf];omega
     ·have hhe:hi=r:=by have:=HPP.out;omega
      have hlu:¬lo<=u0:=by have:=HPP.out;omega
      subst hhe;clear hfit;have hee:(hi==hi)=true:=by simp
      go_wp2_with fail
      refine(C1.out _).mono ?_;rintro e wx ⟨rfl,rfl⟩;go_wp2_with(simp only[add64_0 hi v1 r0a (le_of_lt e0)])
      go_round
      case rel=>exact⟨s,_,_,by go_num,rfl,rfl,by omega,by omega,by omega,by omega,by omega,by omega,G3.out⟩
      case measure=>simp[intOf];omega
   ·have hk1:k=1:=by omega
    subst hk1;have BIG:=zk (znC G.out t0b d0 d1 c0 (by omega));have UP:=zk G.out.up;go_wp2;go_ret;exact⟨⟨q,rfl⟩,t,rfl,t0a,t0b,BIG.out,UP.out⟩
 ·obtain rfl:u2=v1:=by omega
  obtain⟨X,hX⟩:∃X,u2*18446744073709551616+u1=X:=⟨_,rfl⟩;rw[hX];have G:Hid (Gk X u0 u2 v0 18446744073709551615 ((u1+u2)%18446744073709551616+(u1+u2)/18446744073709551616*18446744073709551616)):=by
   show Gk _ _ _ _ _ _;exact⟨by omega,.inl rfl⟩
  clear hX;go_enter func191,ntmps191;go_wp2_with(simp only[add64_0 u1 u2 b0 a0])
  go_loop [11,12,13] (λc d e=>∃t r k:Int,c=.int .u64 t/\d=.int .u64 r/\e=.int .u64 k/\0<=t/\t<18446744073709551616/\0<=r/\r<18446744073709551616/\0<=k/\k<=1/\Hid (Gk X u0 u2 v0 t (r+k*18446744073709551616))) (λc _ _=>(intOf c).toNat)
  case atStart=>exact⟨18446744073709551615,_,_,rfl,rfl,rfl,by omega,by omega,by omega,by omega,by omega,by omega,G.out⟩
  case round =>
   clear G;obtain⟨t,r,k,rfl,rfl,rfl,t0a,t0b,r0a,r0b,k0,k1,G⟩:=hrel;by_cases hk:k=0
   ·subst hk;have G2:=G.out;rw[show r+0*18446744073709551616=r by omega]at G2
    have GG:=zk G2;clear G2 G;have c1:=λW=>zgU t v0 W t0a t0b d0 d1
    have hbd:=zbw t0a t0b d0 d1;obtain⟨P,hP⟩:∃P,t*v0=P:=⟨_,rfl⟩;rw[hP]at c1 hbd
    obtain⟨hi,hhi⟩:∃hi,P/18446744073709551616=hi:=⟨_,rfl⟩;obtain⟨lo,hlo⟩:∃lo,P%18446744073709551616=lo:=⟨_,rfl⟩;rw[hhi,hlo]at c1
    have hPP:P=hi*18446744073709551616+lo:=by omega
    have i0:0<=hi:=by omega
    have i1:hi<18446744073709551616:=by omega
    have l0:0<=lo:=by omega
    have l1:lo<18446744073709551616:=by omega
    have C1:=zk c1;have HP:=zk hP;have HPP:=zk hPP
    clear c1 hP hPP hhi hlo hbd;by_cases hfit:P<=r*18446744073709551616+u0
    ·have FIT:=zk (zjk GG.out (by rw[HP.out];exact hfit));have UP:=zk GG.out.up;by_cases hhr:hi<r
     ·clear hfit;go_wp2_with fail
      refine(C1.out _).mono ?_;rintro e wx ⟨rfl,rfl⟩;go_wp2;go_ret;exact⟨⟨0,rfl⟩,t,rfl,t0a,t0b,FIT.out,UP.out⟩
     ·have hhe:hi=r:=by have:=HPP.out;omega
      have hlu:lo<=u0:=by have:=HPP.out;omega
      subst hhe;clear hfit;have hee:(hi==hi)=true:=by simp
      go_wp2_with fail
      refine(C1.out _).mono ?_;rintro e wx ⟨rfl,rfl⟩;go_wp2;go_ret;exact⟨⟨0,rfl⟩,t,rfl,t0a,t0b,FIT.out,UP.out⟩
    ·have hgt:r*18446744073709551616+u0<t*v0:=by rw[HP.out];omega
     have htp:=znz r0a c0 d0 hgt;obtain⟨s,rfl⟩:∃s,t=s+1:=⟨t-1,by omega⟩;have G1:=zk (zkw GG.out hgt);clear GG hgt;have G3:Hid (Gk X u0 u2 v0 s ((r+u2)%18446744073709551616+(r+u2)/18446744073709551616*18446744073709551616)):=by
      show Gk _ _ _ _ _ _;have:(r+u2)%18446744073709551616+(r+u2)/18446744073709551616*18446744073709551616=r+u2:=by omega
      rw[this];exact G1.out
     clear G1;have hs:s+1-1=s:=by omega
     by_cases hhr:r<hi
     ·have hne:(hi==r)=false:=by simp;omega
      clear hfit;go_wp2_with fail
      refine(C1.out _).mono ?_;rintro e wx ⟨rfl,rfl⟩;go_wp2_with(simp only[add64_0 r u2 r0a (le_of_lt e0)])
      go_round
      case rel=>exact⟨s,_,_,by go_num,rfl,rfl,by omega,by omega,by omega,by omega,by omega,by omega,G3.out⟩
      case measure=>simp[intOf];omega
     ·have hhe:hi=r:=by have:=HPP.out;omega
      have hlu:¬lo<=u0:=by have:=HPP.out;omega
      subst hhe;clear hfit;have hee:(hi==hi)=true:=by simp
      go_wp2_with fail
      refine(C1.out _).mono ?_;rintro e wx ⟨rfl,rfl⟩;go_wp2_with(simp only[add64_0 hi u2 r0a (le_of_lt e0)])
      go_round
      case rel=>exact⟨s,_,_,by go_num,rfl,rfl,by omega,by omega,by omega,by omega,by omega,by omega,G3.out⟩
      case measure=>simp[intOf];omega
   ·have hk1:k=1:=by omega
    subst hk1;have BIG:=zk (znC G.out t0b d0 d1 c0 (by omega));have UP:=zk G.out.up;go_wp2;go_ret;exact⟨⟨0,rfl⟩,t,rfl,t0a,t0b,BIG.out,UP.out⟩
def gq (T V:Int):Int:=if T/V<=18446744073709551615 then T/V else 18446744073709551615
theorem gq_of {T V t} (hV:0<V) (t1:t<18446744073709551616) (h1:t*V<=T) (h2:t=18446744073709551615∨T<(t+1)*V):t=gq T V:=by
 have e1:=Int.mul_ediv_add_emod T V;have e2:=Int.emod_nonneg T (show V≠0 by omega);have e3:=Int.emod_lt_of_pos T hV;have le:t<=T/V:=(Int.le_ediv_iff_mul_le hV).2 h1;unfold gq;rcases h2 with rfl|h2
 ·split <;> omega
 ·have:T/V<t+1:=(Int.ediv_lt_iff_lt_mul hV).2 h2;rw[if_pos (by omega)];omega
theorem zpD (u2 u1 u0 v1 v0:Int) (w:World) (a0:0<=u2) (a1:u2<=v1) (b0:0<=u1) (b1:u1<18446744073709551616) (c0:0<=u0) (c1:u0<18446744073709551616) (d0:0<=v0) (d1:v0<18446744073709551616) (e0:0<v1) (e1:v1<18446744073709551616) :
  Calls prog 191 #[.int .u64 u2,.int .u64 u1,.int .u64 u0,.int .u64 v1,.int .u64 v0] w λe w'=>e=returned (.int .u64 (gq ((u2*18446744073709551616+u1)*18446744073709551616+u0) (v1*18446744073709551616+v0)))/\∃q,w'=w.drewN q:=by
 refine(zpE u2 u1 u0 v1 v0 w a0 a1 b0 b1 c0 c1 d0 d1 e0 e1).mono ?_;rintro e w' ⟨hq,t,rfl,t0,t1,h1,h2⟩;refine⟨?_,hq⟩;rw[<-gq_of (by omega) t1 h1 h2]
theorem zsw {T V} (hT:0<=T) (hV:0<V):0<=gq T V/\gq T V<18446744073709551616/\gq T V*V<=T/\(gq T V=18446744073709551615∨T<(gq T V+1)*V):=by
 have e1:=Int.mul_ediv_add_emod T V;have e2:=Int.emod_nonneg T (show V≠0 by omega);have e3:=Int.emod_lt_of_pos T hV;have e4:0<=T/V:=Int.ediv_nonneg hT (by omega);have e5:T/V*V=V*(T/V):=mul_comm _ _;unfold gq
 split
 ·exact⟨e4,by omega,by omega,.inr (by rw[add_mul];omega)⟩
 ·refine⟨by decide,by decide,?_,.inl rfl⟩;have:18446744073709551615*V<=T/V*V:=Int.mul_le_mul_of_nonneg_right (by omega) (by omega);omega
theorem zrX (f:Nat->Int) (m:Nat):vf f (m+2)=vf f m+(f (m+1)*18446744073709551616+f m)*pw m:=by
 rw[zI,zI,zao];grind
theorem zsW (f:Nat->Int) (m:Nat):vf f (m+2+1)=vf f m+((f (m+2)*18446744073709551616+f (m+1))*18446744073709551616+f m)*pw m:=by
 rw[zI,zI,zI,zao (m+1),zao m];grind
theorem zlJ {lu lv T V2 t p U V:Int} (hU:U=lu+T*p) (hV:V=lv+V2*p) (a0:0<=lu) (a1:lu<p) (b0:0<=lv) (b1:lv<p) (hUV:U<V*18446744073709551616) (hV2:18446744073709551616<=V2) (t0:0<=t) (t1:t<18446744073709551616) (h1:t*V2<=T) (h2:t=18446744073709551615∨T<(t+1)*V2) :
  U<(t+1)*V/\(t-1)*V<=U:=by
 have hp:0<p:=by omega
 constructor
 ·rcases h2 with rfl|h2
  ·omega
  ·have e1:(T+1)*p<=(t+1)*V2*p:=Int.mul_le_mul_of_nonneg_right (by omega) (le_of_lt hp);have e2:0<=(t+1)*lv:=mul_nonneg (by omega) b0;rw[hV,Int.mul_add,<-Int.mul_assoc,hU];rw[add_mul,one_mul]at e1
   omega
 ·have hT:0<=T:=Int.le_trans (mul_nonneg t0 (by omega)) h1;have hTp:0<=T*p:=mul_nonneg hT (le_of_lt hp);by_cases h0:t=0
  ·subst h0;have:0<=V2*p:=mul_nonneg (by omega) (le_of_lt hp);omega
  ·have e1:(t-1)*V<=(t-1)*((V2+1)*p):=Int.mul_le_mul_of_nonneg_left (by rw[add_mul,one_mul];omega) (by omega);have e2:(t-1)*(V2+1)=t*V2+t-V2-1:=by grind
   have e3:(t-1)*(V2+1)*p<=T*p:=Int.mul_le_mul_of_nonneg_right (by rw[e2];omega) (le_of_lt hp);rw[<-Int.mul_assoc]at e1
   omega
theorem zdn {g a w} (h:Only g a w) (q:Nat):Only g a (w.drewN q):=⟨h.os,h.tape,h.output,h.size,h.block⟩
structure ztm (g o n N:Nat) (f:Nat->Int) (w w':World) (V t:Int):Prop where
 t0:0<=t
 t1:t<18446744073709551616
 only:Only g w w'
 res:∃f',Blk .u64 49 w' g N f'/\Lm f' N/\(∀j,j<o∨o+(n+1)<=j->f' j=f j)/\vf (sh f' o) (n+1)=vf (sh f o) (n+1)-t*V/\vf (sh f' o) (n+1)<V
theorem zlg (g o n cap N:Nat) (f:Nat->Int) (b ob cb:Nat) (h:Nat->Int) (w:World) (hb:Blk .u64 49 w g N f) (hf:Lm f N) (ho:o+(n+1)<=N) (hN:N<=17592186044416) (hcap:n+1<=cap) (hcm:cap<=17592186044416)
  (hr:Rd .u64 w (some ⟨b,ob,none⟩) n h) (hh:Lm h n) (hoff:b≠g) (hn2:2<=n) (htop:9223372036854775808<=h (n-1)) (hUV:vf (sh f o) (n+1)<vf h n*18446744073709551616) :
  Calls prog 181 #[slice (some ⟨g,o,none⟩) (n+1) cap,slice (some ⟨b,ob,none⟩) n cb] w λe w'=>∃t,e=returned (.int .u64 t)/\ztm g o n N f w w' (vf h n) t:=by
 obtain⟨m,rfl⟩:∃m,n=m+2:=⟨n-2,by omega⟩;obtain⟨x2,hx2⟩:∃x,f (o+(m+2))=x:=⟨_,rfl⟩;obtain⟨x1,hx1⟩:∃x,f (o+(m+1))=x:=⟨_,rfl⟩;obtain⟨x0,hx0⟩:∃x,f (o+m)=x:=⟨_,rfl⟩;obtain⟨y1,hy1⟩:∃x,h (m+1)=x:=⟨_,rfl⟩;obtain⟨y0,hy0⟩:∃x,h m=x:=⟨_,rfl⟩;have hcx2:w.cell? ⟨g,o+(m+2),none⟩=some (.int .u64 x2):=by rw[<-hx2];exact hb.cell (by omega)
 have hcx1:w.cell? ⟨g,o+(m+1),none⟩=some (.int .u64 x1):=by rw[<-hx1];exact hb.cell (by omega)
 have hcx0:w.cell? ⟨g,o+m,none⟩=some (.int .u64 x0):=by rw[<-hx0];exact hb.cell (by omega)
 have hcy1:w.cell? ⟨b,ob+(m+1),none⟩=some (.int .u64 y1):=by rw[<-hy1];exact hr.cell (by omega)
 have hcy0:w.cell? ⟨b,ob+m,none⟩=some (.int .u64 y0):=by rw[<-hy0];exact hr.cell (by omega)
 have bx2:=hf (o+(m+2)) (by omega);have bx1:=hf (o+(m+1)) (by omega);have bx0:=hf (o+m) (by omega);have by1:=hh (m+1) (by omega);have by0:=hh m (by omega);rw[hx2]at bx2;rw[hx1]at bx1;rw[hx0]at bx0;rw[hy1]at by1;rw[hy0]at by0
 have htop':9223372036854775808<=y1:=by rw[<-hy1];exact htop
 have hU:=zsW (sh f o) m;have hV:=zrX h m;simp only[zaS]at hU;rw[hx2,hx1,hx0]at hU
 rw[hy1,hy0]at hV
 have lu0:=zz (hf.sh (o:=o) (m:=m) (by omega));have lu1:=zar (hf.sh (o:=o) (m:=m) (by omega));have lv0:=zz (hh.mono (m:=m) (by omega));have lv1:=zar (hh.mono (m:=m) (by omega));have hV0:=zz hh;have hV1:=zar hh;have hx2y1:x2<=y1:=by
  apply Int.le_of_lt_add_one;have p0:=zab m;have e1:((x2*18446744073709551616+x1)*18446744073709551616+x0)*pw m<((y1+1)*18446744073709551616*18446744073709551616)*pw m:=by
   have a2:(y1*18446744073709551616+y0+1)*pw m<=((y1+1)*18446744073709551616)*pw m:=Int.mul_le_mul_of_nonneg_right (by omega) (le_of_lt p0);rw[add_mul _ 1,one_mul]at a2
   have a3:((y1+1)*18446744073709551616*18446744073709551616)*pw m=((y1+1)*18446744073709551616)*pw m*18446744073709551616:=by grind
   rw[a3];omega
  have e2:=Int.lt_of_mul_lt_mul_right e1 (le_of_lt p0);omega
 obtain⟨T,hT⟩:∃T,(x2*18446744073709551616+x1)*18446744073709551616+x0=T:=⟨_,rfl⟩;obtain⟨V2,hV2⟩:∃V2,y1*18446744073709551616+y0=V2:=⟨_,rfl⟩;have cg:=λW=>zpD x2 x1 x0 y1 y0 W bx2.1 hx2y1 bx1.1 bx1.2 bx0.1 bx0.2 by0.1 by0.2 (by omega) by1.2
 have hgi:=zsw (T:=T) (V:=V2) (by omega) (by omega);rw[hT]at hU cg
 rw[hV2]at hV cg
 obtain⟨t,ht⟩:∃t,gq T V2=t:=⟨_,rfl⟩;rw[ht]at cg hgi
 obtain⟨t0,t1,ht1,ht2⟩:=hgi;have hrange:=zlJ hU hV lu0 lu1 lv0 lv1 hUV (by omega) t0 t1 ht1 ht2;have CG:=zk cg;have RNG:=zk hrange;have HB:=zk hb;have HF:=zk hf;have HR:=zk hr;have HH:=zk hh;have HX2:=zk hx2
 have hfz:=hb.frozen (o+(m+2));have BV0:=zk hV0;have BV1:=zk hV1
 clear cg hrange hb hf hr hh hT hV2 ht ht1 ht2 hU hV lu0 lu1 lv0 lv1 hUV hx2 hx1 hx0 hy1 hy0 htop hV0 hV1;have i1:((m+2:Nat):Int)<((m+2+1:Nat):Int):=by omega
 obtain⟨bx2a,bx2b⟩:=bx2;go_enter func181,ntmps181;go_wp2
 go_quiet ((go_at_call 191;exact(CG.out _).mono (λ_ _ h=>⟨h.1,(by obtain⟨q,hq⟩:=h.2;exact⟨_,by rw[hq,World.drewN_drewN]⟩)⟩)))
 go_wp2_with fail
 refine(zgT g o (m+2+1) cap N f (some ⟨b,ob,none⟩) (m+2) cb h t (w.drewN _) HB.out HF.out ho HR.out HH.out (λ_=>off_some hoff) (by omega) hcap (by omega) t0 t1).mono ?_;rintro e w1 ⟨ov,rfl,v0,v1,hon1,f1,hb1,hl1,he1,hv1⟩;have HV1:=zk hv1;have hx2':f1 (o+(m+2))=x2:=(he1 _ (by omega)).trans HX2.out;have hcx2':w1.cell? ⟨g,o+(m+2),none⟩=some (.int .u64 x2):=by rw[<-hx2'];exact hb1.cell (by omega)
 have hfz1:=hb1.frozen (o+(m+2));have HX2':=zk hx2';have HE1:=zk he1;have HL1:=zk hl1;have HB1:=zk hb1
 clear hv1 hx2' he1 hl1 hb1 hcx2 hcx1 hcx0 hcy1 hcy0 hfz;have n1:=zz (HL1.out.sh (o:=o) (m:=m+2) (by omega));have n2:=zar (HL1.out.sh (o:=o) (m:=m+2) (by omega));have N1:=zk n1;have N2:=zk n2
 clear n1 n2;have hUe:vf (sh f o) (m+2+1)=vf (sh f o) (m+2)+x2*pw (m+2):=by rw[zI,zaS,HX2.out]
 have hmain:vf (sh f1 o) (m+2)+(x2-ov)*pw (m+2)=vf (sh f o) (m+2+1)-t*vf h (m+2):=by
  have:=HV1.out;rw[hUe,Int.sub_mul,mul_comm t];omega
 have HMain:=zk hmain;have U0:=zk (zz (HF.out.sh (o:=o) (m:=m+2+1) (by omega)));have PW:=zk (zab (m+2));have hupd:∀z,vf (sh (upd f1 (o+(m+2)) z) o) (m+2+1)=vf (sh f1 o) (m+2)+z*pw (m+2):=λz=>by
  rw[zI,zaS,zac,zN (f:=sh (upd f1 (o+(m+2)) z) o) (g:=sh f1 o) (λj hj=>zE _ _ _ _ (by omega))]
 have HUpd:=zk hupd;clear hUe hmain hupd CG;by_cases hs:x2<ov
 ·have hneg:vf (sh f o) (m+2+1)-t*vf h (m+2)<0:=by
   rw[<-HMain.out];have:=N2.out;have e:(x2-ov)*pw (m+2)<=(-1)*pw (m+2):=Int.mul_le_mul_of_nonneg_right (by omega) (le_of_lt PW.out);omega
  have ht:0<t:=by
   apply Int.lt_of_not_ge;intro h0;obtain rfl:t=0:=by omega
   have:=U0.out;omega
  obtain⟨s,rfl⟩:∃s,t=s+1:=⟨t-1,by omega⟩;have hs1:s+1-1=s:=by omega
  have hw:IntKind.u64.wrap (x2-ov)=x2-ov+18446744073709551616:=by rw[IntKind.wrap_u64];omega
  have hsb:decide (x2<ov)=true:=by simp[hs]
  have hw2:IntKind.u64.wrap (s+1-1)=s:=by rw[IntKind.wrap_u64];omega
  have HNeg:=zk hneg;clear hneg;go_wp2_with fail
  refine(zpV g o (m+2+1) cap N _ (some ⟨b,ob,none⟩) (m+2) cb h _ (HB1.out.set _ _) (HL1.out.upd (by omega)) ho (by omega) ((HR.out.only (zdn (Only.refl g w) _) (off_some hoff)).only (hon1.trans ((Only.refl _ _).setCell _ _ _)) (off_some hoff)) HH.out (λ_=>off_some hoff) (by omega) hcap (by omega)).mono ?_;rintro e w2 ⟨rfl,hon2,f3,c,hb3,hl3,he3,hc0,hv3⟩;have HV3:=zk hv3;have HB3:=zk hb3;have HL3:=zk hl3;have HE3:=zk he3
  clear hv3 hb3 hl3 he3;go_wp2;go_ret;have r1:=RNG.out;have r2:=HNeg.out;have a1:=HV3.out;rw[HUpd.out,add_mul (x2-ov),<-Int.add_assoc,HMain.out,<-zao (m+2)]at a1
  rw[show s+1-1=s by omega]at r1
  have a2:=zz (HL3.out.sh (o:=o) (m:=m+2+1) (by omega));have a3:=zar (HL3.out.sh (o:=o) (m:=m+2+1) (by omega));have a4:(s+1)*vf h (m+2)=s*vf h (m+2)+vf h (m+2):=by rw[add_mul,one_mul]
  have a5:(s+1+1)*vf h (m+2)=s*vf h (m+2)+vf h (m+2)+vf h (m+2):=by rw[add_mul,add_mul,one_mul]
  have a6:pw (m+2)<pw (m+2+1):=by have:=zab (m+2);rw[zao (m+2)];omega
  have a7:=BV1.out;have a8:=zab (m+2+1);have hc1:c=1:=by
   have hc2:c<2:=by
    apply Int.lt_of_not_ge;intro hc
    have:2*pw (m+2+1)<=c*pw (m+2+1):=Int.mul_le_mul_of_nonneg_right hc (le_of_lt a8);omega
   have hc3:c≠0:=by
    rintro rfl;omega
   omega
  subst hc1;refine⟨s,rfl,by omega,by omega,((zdn (Only.refl g w) _).trans hon1).trans (((Only.refl _ _).setCell _ _ _).trans hon2),f3,HB3.out,HL3.out,λj hj=>?_,by omega,by omega⟩;rw[HE3.out j hj,zE _ _ _ _ (by omega),HE1.out j (by omega)]
 ·have hw:IntKind.u64.wrap (x2-ov)=x2-ov:=by rw[IntKind.wrap_u64];omega
  have hsb:decide (x2<ov)=false:=by simp;omega
  go_wp2;go_ret;have r1:=RNG.out;have a0:=HMain.out;have a1:=HUpd.out (x2-ov);have a4:(t+1)*vf h (m+2)=t*vf h (m+2)+vf h (m+2):=by rw[add_mul,one_mul]
  refine⟨t,rfl,t0,t1,((zdn (Only.refl g w) _).trans hon1).trans ((Only.refl _ _).setCell _ _ _),upd f1 (o+(m+2)) (x2-ov),HB1.out.set _ _,HL1.out.upd (by omega),λj hj=>?_,by omega,by omega⟩;rw[zE _ _ _ _ (by omega),HE1.out j (by omega)]
def pd:Nat->Int|0=>1|n+1=>4294967296*pd n
def vd (f:Nat->Int):Nat->Int|0=>0|n+1=>vd f n+f n*pd n
def Dg (f:Nat->Int) (n:Nat):Prop:=∀j,j<n->0<=f j/\f j<4294967296
theorem zbI (n:Nat):0<pd n:=by induction n with|zero=>decide|succ n ih=>simp only[pd];omega
theorem zau (n:Nat):pd (n+1)=4294967296*pd n:=rfl
theorem ziY (m n:Nat):pd (m+n)=pd m*pd n:=by
 induction n with
 | zero=>simp[pd]
 | succ n ih=>rw[<-Nat.add_assoc,zau,ih,zau];grind
theorem zQ (f:Nat->Int) (n:Nat):vd f (n+1)=vd f n+f n*pd n:=rfl
theorem zaw {f g n} (h:∀j,j<n->f j=g j):vd f n=vd g n:=by
 induction n with
 | zero=>rfl
 | succ n ih=>rw[zQ,zQ,ih (λj hj=>h j (by omega)),h n (by omega)]
theorem Dg.mono {f n m} (h:Dg f n) (hm:m<=n):Dg f m:=λj hj=>h j (by omega)
theorem Dg.upd {f n} (h:Dg f n) {i:Nat} {v:Int} (hv:0<=v/\v<4294967296):Dg (upd f i v) n:=λj hj=>by
 by_cases hji:j=i
 ·subst hji;rw[zac];exact hv
 ·rw[zE _ _ _ _ hji];exact h j hj
theorem zbd {f n} (h:Dg f n):0<=vd f n:=by
 induction n with
 | zero=>simp[vd]
 | succ n ih =>
  have h1:=ih (h.mono (by omega));have h2:=mul_nonneg (h n (by omega)).1 (le_of_lt (zbI n));rw[zQ];omega
theorem zcr {f n} (h:Dg f n):vd f n<pd n:=by
 induction n with
 | zero=>simp[vd,pd]
 | succ n ih =>
  have h1:=ih (h.mono (by omega));have h2:(f n+1)*pd n<=4294967296*pd n:=Int.mul_le_mul_of_nonneg_right (by have:=(h n (by omega)).2;omega) (le_of_lt (zbI n));rw[add_mul,one_mul]at h2
  rw[zQ,zau];omega
theorem zaU (f:Nat->Int) (m n:Nat):vd f (m+n)=vd f m+vd (sh f m) n*pd m:=by
 induction n with
 | zero=>simp[vd]
 | succ n ih=>rw[<-Nat.add_assoc,zQ,ih,zQ,ziY,zaS];grind
theorem zey {f n} (h:∀j,j<n->f j=0):vd f n=0:=by
 induction n with
 | zero=>rfl
 | succ n ih=>rw[zQ,ih (λj hj=>h j (by omega)),h n (by omega)];simp
theorem ziM {f m n} (hm:m<=n) (h:∀j,m<=j->j<n->f j=0):vd f n=vd f m:=by
 obtain⟨d,rfl⟩:=Nat.exists_eq_add_of_le hm;rw[zaU,zey (f:=sh f m) (λj hj=>h _ (by omega) (by omega))];simp
theorem zcd {f n} (h:Dg f n) (hf:Fm f n) (hn:0<n):pd (n-1)<=vd f n:=by
 obtain⟨m,rfl⟩:∃m,n=m+1:=⟨n-1,by omega⟩;have h0:=zbd (h.mono (m:=m) (by omega));have h1:=h m (by omega);have h2:f m≠0:=by rcases hf with h|h;omega;simpa using h
 have h3:1*pd m<=f m*pd m:=Int.mul_le_mul_of_nonneg_right (by omega) (le_of_lt (zbI m));rw[zQ];simp at h3 ⊢;omega
theorem zdF {m n} (h:m<=n):pd m<=pd n:=by
 induction n with
 | zero =>
  obtain rfl:m=0:=by omega
  exact Int.le_refl _
 | succ n ih =>
  by_cases hm:m=n+1
  ·subst hm;exact Int.le_refl _
  ·have:=ih (by omega);have:=zbI n;rw[zau];omega
theorem zhy {f g n} (hf:Dg f n) (hg:Dg g n) (h:vd f n=vd g n):∀j,j<n->f j=g j:=by
 induction n with
 | zero=>intro j hj;omega
 | succ n ih =>
  have a1:=zbd (hf.mono (m:=n) (by omega));have a2:=zcr (hf.mono (m:=n) (by omega))
  have b1:=zbd (hg.mono (m:=n) (by omega));have b2:=zcr (hg.mono (m:=n) (by omega))
  rw[zQ,zQ]at h
  have hp:=zbI n;have e:f n=g n:=by
   rcases Int.lt_trichotomy (f n) (g n)with hl|hl|hl
   ·have:(f n+1)*pd n<=g n*pd n:=Int.mul_le_mul_of_nonneg_right (by omega) (le_of_lt hp);rw[add_mul,one_mul]at this;omega
   ·exact hl
   ·have:(g n+1)*pd n<=f n*pd n:=Int.mul_le_mul_of_nonneg_right (by omega) (le_of_lt hp);rw[add_mul,one_mul]at this;omega
  have hr:=ih (hf.mono (by omega)) (hg.mono (by omega)) (by rw[e]at h;omega);intro j hj;by_cases hjn:j=n
  ·subst hjn;exact e
  ·exact hr j (by omega)
theorem zdj {f g n m} (hf:Dg f n) (hg:Dg g m) (ff:Fm f n) (h:vd f n<=vd g m):n<=m:=by
 apply Nat.le_of_not_lt;intro hlt;have h1:=zcd hf ff (by omega);have h2:=zcr hg;have h3:=zdF (m:=m) (n:=n-1) (by omega);omega
theorem zqH {f g n m} (hf:Dg f n) (hg:Dg g m) (ff:Fm f n) (fg:Fm g m) (h:vd f n=vd g m):n=m/\∀j,j<n->f j=g j:=by
 have e:n=m:=Nat.le_antisymm (zdj hf hg ff (by omega)) (zdj hg hf fg (by omega));subst e;exact⟨rfl,zhy hf hg h⟩
theorem zaO {f m n} (hm:m<=n) (hz:∀j,m<=j->j<n->f j=0):vd f m=vd f n:=(ziM hm hz).symm
theorem zdU (k:Nat):pd k=2^(32*k):=by
 induction k with
 | zero=>rfl
 | succ k ih=>rw[zau,ih,show 32*(k+1)=32*k+32 by omega,Int.pow_add,mul_comm];rfl
theorem zhV {x P Q:Int} (x0:0<=x) (x1:x<18446744073709551616) (hPQ:P*Q=18446744073709551616) (p0:0<P) (q0:0<Q) :
  (x*P)%18446744073709551616=(x%Q)*P/\0<=x/Q/\x/Q<P/\0<=(x%Q)*P/\(x%Q)*P<=18446744073709551616-P:=by
 have e1:(x*P)%18446744073709551616=(x%Q)*P:=by rw[<-hPQ,mul_comm x P,Int.mul_emod_mul_of_pos _ _ p0,mul_comm]
 refine⟨e1,Int.ediv_nonneg x0 (le_of_lt q0),?_,mul_nonneg (Int.emod_nonneg _ (by omega)) (le_of_lt p0),?_⟩
 ·exact Int.ediv_lt_of_lt_mul q0 (by rw[hPQ];exact x1)
 ·have h1:=Int.emod_lt_of_pos x q0;have h2:(x%Q+1)*P<=Q*P:=Int.mul_le_mul_of_nonneg_right (by omega) (le_of_lt p0);rw[add_mul,one_mul,mul_comm Q P,hPQ]at h2
  omega
theorem zmu {F a o k P Q x y} (hv:vf (sh F o) (k+1)=vf a k*P) (hx:a k=x) (hy:F (o+k)=y) (hPQ:P*Q=18446744073709551616) :
  vf (sh (upd (upd F (o+k) (y+x%Q*P)) (o+k+1) (x/Q)) o) (k+1+1)=vf a (k+1)*P:=by
 have e1:vf (sh (upd (upd F (o+k) (y+x%Q*P)) (o+k+1) (x/Q)) o) k=vf (sh F o) k:=zN (λj hj=>by rw[zaS,zaS,zE _ _ _ _ (by omega),zE _ _ _ _ (by omega)]);have e2:sh (upd (upd F (o+k) (y+x%Q*P)) (o+k+1) (x/Q)) o k=y+x%Q*P:=by rw[zaS,zE _ _ _ _ (by omega),zac]
 have e3:sh (upd (upd F (o+k) (y+x%Q*P)) (o+k+1) (x/Q)) o (k+1)=x/Q:=by rw[zaS,<-Nat.add_assoc,zac]
 rw[zI,zI,e1,e2,e3,zI,zao];rw[zI,zaS,hy]at hv
 have e4:=Int.mul_ediv_add_emod x Q;rw[hx,<-hPQ];have e5:x*pw k*P=(Q*(x/Q)+x%Q)*pw k*P:=by rw[e4]
 rw[add_mul (vf a k),e5,<-hv]
 grind
theorem zmf {F o n} (h:∀j,j<o->F j=0):vf F (o+n)=vf (sh F o) n*pw o:=by
 rw[zM,zcK h];omega
theorem zlH {D a o k P x c} (hv:vd D (o+k)+c*pd (o+k)=vd a k*(P*pd o)) (hx:a k=x) :
  vd (cat D (o+k) (λ_=>(c+x*P)%4294967296)) (o+k+1)+((c+x*P)/4294967296)*pd (o+k+1)=vd a (k+1)*(P*pd o):=by
 have e1:vd (cat D (o+k) (λ_=>(c+x*P)%4294967296)) (o+k)=vd D (o+k):=zaw (λj hj=>zec hj);have e2:cat D (o+k) (λ_=>(c+x*P)%4294967296) (o+k)=(c+x*P)%4294967296:=zda (le_refl _);rw[zQ,e1,e2,zau,zQ,hx];have e3:=Int.mul_ediv_add_emod (c+x*P) 4294967296;have e4:(c+x*P)*pd (o+k)=(4294967296*((c+x*P)/4294967296)+(c+x*P)%4294967296)*pd (o+k):=by rw[e3]
 rw[add_mul (vd a k),<-hv];have e5:x*pd k*(P*pd o)=x*P*pd (o+k):=by rw[ziY];grind
 rw[e5]
 grind
theorem zjo {P x c:Int} (c0:0<=c) (c1:c<P) (x0:0<=x) (x1:x<4294967296) (p0:0<P):0<=c+x*P/\c+x*P<4294967296*P/\(c+x*P)/4294967296<P/\0<=x*P/\x*P<4294967296*P:=by
 have h1:0<=x*P:=mul_nonneg x0 (le_of_lt p0);have h2:(x+1)*P<=4294967296*P:=Int.mul_le_mul_of_nonneg_right (by omega) (le_of_lt p0);rw[add_mul,one_mul]at h2
 refine⟨by omega,by omega,?_,h1,by omega⟩;exact Int.ediv_lt_of_lt_mul (by decide) (by omega)
theorem zem {P} (k:IntKind) (w:World) {ops rest o a Q} (hg:o.guard=none) (lo co:Operand) (t:TypeId) (hop:o.op=Op.makeSlice t lo co) (e:TypeId) (bytes:Nat) (h1:P.underlying t=some (.slice e)) (h2:(P.info? e).map (λi=>(i.zero,i.size,i.bytes))=some (some (.int k 0),1,bytes)) (kl kc:IntKind) (L C:Int) (l c:Nat) (hl:a.eval lo=.int kl L) (hc:a.eval co=.int kc C) (hL:L=(l:Int)) (hC:C=(c:Int)) (hlc:l<=c) (b2:bytes*c<=281474976710656) (b3:c<=maxLen) (hK:∀w',Blk k e w' w.heap.size c (λ_=>0)->Bl w w'->wpList P ops Q rest (a.put o.dst (slice (some ⟨w.heap.size,0,none⟩) l c)) w') :
  wpList P ops Q (o :: rest) a w:=by
 obtain⟨i,hi,hz0,hz1,hz2⟩:=info_parts h2;subst hL;subst hC;refine wpList_plain hg λK hK'=>?_
 have b2':(i.bytes:Int)*(c:Int)<=281474976710656:=by
  have h:((i.bytes*c:Nat):Int)<=281474976710656:=by rw[hz2];omega
  rwa[Int.natCast_mul]at h
 have hrun:=run_make (P:=P) w t e i (.int k 0) h1 hi hz0 kl kc (l:Int) (c:Int) (by omega) (by omega) b2' (by unfold maxLen at b3;omega);simp only[Int.toNat_natCast,hz1,Nat.mul_one]at hrun;unfold Oper.wp;simp[execOp,hop,hl,hc,hrun,Result.andThen];refine hK' _ _ (hK _ ⟨_,heap_alloc_new w _,size_madeCells _ _,λj hj=>?_⟩ ((Below.refl _ _).alloc (le_refl _) _));have hm:(madeCells (Value.int k 0).cells c).toList=List.replicate c (.int k 0):=toList_madeCells_one _ _;have:(madeCells (Value.int k 0).cells c).toList[j]?=some (.int k 0):=by rw[hm,List.getElem?_replicate,if_pos hj]
 simpa using this
theorem zfV (x y:Int):bits BinOp.or .u64 x y=bits BinOp.or .u64 y x:=by simp only[bits];rw[BitVec.or_comm]
theorem zmv (x y s:Int) (x0:0<=x) (x1:x<18446744073709551616) (s0:0<=s) (s1:s<=63) (y0:0<=y) (y1:y<2^s.toNat) :
  ∃L Z H,IntKind.u64.wrap (x*2^s.toNat)=L/\0<=L/\L<18446744073709551616/\bits BinOp.or .u64 y L=Z/\0<=Z/\Z<18446744073709551616/\x/2^(64-s).toNat=H/\0<=H/\H<18446744073709551616/\Hid (H<2^s.toNat)/\Hid (Z=y+x%2^(64-s).toNat*2^s.toNat):=by
 have hPQ:(2:Int)^s.toNat*2^(64-s).toNat=18446744073709551616:=by rw[<-Int.pow_add,show s.toNat+(64-s).toNat=64 by omega];rfl
 have p0:(0:Int)<2^s.toNat:=pow_pos (by decide);have q0:(0:Int)<2^(64-s).toNat:=pow_pos (by decide);obtain⟨c1,c2,c3,c4,c5⟩:=zhV x0 x1 hPQ p0 q0;have hP:(2:Int)^s.toNat<=18446744073709551616:=by
  rw[<-hPQ];have:=Int.mul_le_mul_of_nonneg_left (show(1:Int)<=2^(64-s).toNat by omega) (le_of_lt p0);omega
 have hL:IntKind.u64.wrap (x*2^s.toNat)=x%2^(64-s).toNat*2^s.toNat:=by rw[IntKind.wrap_u64,c1]
 refine⟨_,_,_,hL,c4,by omega,?_,?_,?_,rfl,c2,by omega,c3,rfl⟩
 ·rw[zfV y,bits_join .u64 64 (by decide) zbX s.toNat _ _ c4 (Int.mul_emod_left _ _) (by omega) y0 y1 (by omega),Int.add_comm]
 ·omega
 ·omega
theorem zqc (ao:Option Addr) (n cap skip:Nat) (z s:Int) (f:Nat->Int) (w:World) (hn:n<=8796093022208) (hk:skip<=1048576) (s0:0<=s) (s1:s<=63) (hz:z=64*skip+s) (hr:Rd .u64 w ao n f) (hf:Lm f n) :
  Calls prog 180 #[slice ao n cap,.int .i64 z] w λe w'=>∃ao' m cap' f',e=returned (slice ao' m cap')/\Res (skip+n+1) w w' ao' m cap' f'/\vf f' m=vf f n*2^s.toNat*pw skip:=by
 have HF:=zk hf;have HRd:=zk hr;clear hf hr;have z0:0<=z:=by omega
 have z1:z<=67108927:=by omega
 have h1:z/64=(skip:Int):=by omega
 have h2:z%64=s:=by omega
 have h3:Int.tdiv z 64=(skip:Int):=by rw[Int.tdiv_eq_ediv_of_nonneg z0];exact h1
 have h4:Int.tmod z 64=s:=by rw[Int.tmod_eq_emod_of_nonneg z0];exact h2
 clear hz;go_enter func180,ntmps180;go_wp2_with(at_make;refine zah .u64 w rfl (.tmp 17) (.tmp 17) 22 rfl 49 8 underlying22 zT .i64 .i64 _ _ (skip+n+1) rfl rfl (by omega) (by omega) (by omega) (by unfold maxLen;omega) ?_;intro w1 hb1 hbel1)
 go_loopw[21] (λt wr=>∃(k:Nat) (F:Nat->Int),k<=n/\t=.int .i64 k/\Bl w wr/\Blk .u64 49 wr w.heap.size (skip+n+1) F/\Hid (Lm F (skip+n+1))/\Hid (∀j,j<skip∨skip+k<j->F j=0)/\Hid (F (skip+k)<2^s.toNat)/\Hid (vf (sh F skip) (k+1)=vf f k*2^s.toNat)) (λt _=>n-(intOf t).toNat)
 case atStart=>exact⟨0,λ_=>0,by omega,rfl,hbel1,hb1,λj hj=>⟨Int.le_refl 0,show(0:Int)<18446744073709551616 by decide⟩,λj hj=>rfl,pow_pos (by decide),by simp[Hid,vf,sh]⟩
 case round =>
  clear hb1 hbel1;obtain⟨k,F,hkn,rfl,hbel,hbl,HL,HZ,HT,HV⟩:=hrel;by_cases hlt:k<n
  ·have hr:=HRd.out;obtain⟨b,ob,rfl⟩:=hr.at (by omega);obtain⟨y,hy⟩:∃y,F (skip+k)=y:=⟨_,rfl⟩;obtain⟨x,hx⟩:∃x,f k=x:=⟨_,rfl⟩;have hcell:wr.cell? ⟨w.heap.size,skip+k,none⟩=some (.int .u64 y):=by rw[<-hy];exact hbl.cell (by omega)
   have hcelb:wr.cell? ⟨b,ob+k,none⟩=some (.int .u64 x):=by rw[<-hx];exact(hr.q_ hbel (le_refl _)).cell hlt
   have hbw:b<w.heap.size:=block_lt_of_cell? w _ (hr.cell hlt);have hfz:=hbl.frozen (skip+k);have hfz2:=hbl.frozen (skip+k+1);obtain⟨y0,y1⟩:=HL.out (skip+k) (by omega);obtain⟨x0,x1⟩:=HF.out k hlt;rw[hx]at x0 x1
   rw[hy]at y0 y1
   obtain⟨L,Z,H,eL,L0,L1,eZ,Z0,Z1,eH,H0,H1,HH,HZ2⟩:=zmv x y s x0 x1 s0 s1 y0 (by rw[<-hy];exact HT.out);have HX:=zk hx;have HY:=zk hy;clear hx hy hr;have hcelb2:∀(v:Value),(wr.setCell ⟨w.heap.size,skip+k,none⟩ v).cell? ⟨b,ob+k,none⟩=some (.int .u64 x):=λv=>by
    rw[World.cell?_of_block (Below.heap_setCell _ _ _ _ (by simp;omega))];exact hcelb
   have hcelb3:∀(v:Value),(wr.setCell ⟨w.heap.size,skip+k,none⟩ v).drew.cell? ⟨b,ob+k,none⟩=some (.int .u64 x):=hcelb2;have hcell2:wr.cell? ⟨w.heap.size,skip+k+1,none⟩=some (.int .u64 0):=by rw[<-HZ.out (skip+k+1) (by omega)];exact hbl.cell (by omega)
   go_wp2
   go_region
   all_goals
    go_wp2;go_roundw
    case rel =>
     refine⟨k+1,_,by omega,by go_num,?_,((hbl.set (skip+k) Z).set (skip+k+1) H),?_,?_,?_,?_⟩
     ·exact zV hbel ((((Only.refl _ _).setCell _ _ _).setCell _ _ _).drew) (le_refl _) hbel.size
     ·exact(HL.out.upd ⟨Z0,Z1⟩).upd ⟨H0,H1⟩
     ·intro j hj;rw[zE _ _ _ _ (by omega),zE _ _ _ _ (by omega)];exact HZ.out j (by omega)
     ·show _<_;rw[<-Nat.add_assoc,zac];exact HH.out
     ·have:=zmu (Q:=2^(64-s).toNat) HV.out HX.out HY.out (by rw[<-Int.pow_add,show s.toNat+(64-s).toNat=64 by omega];rfl);rw[<-HZ2.out,eH]at this
      exact this
    case measure=>simp[intOf];omega
  ·have hkn2:k=n:=by omega
   subst hkn2;go_wp2_with fail
   refine(zaV w.heap.size (skip+k+1) (skip+k+1) F w wr hbel (le_refl _) hbl (le_refl _) (by omega) HL.out).mono ?_;rintro e w3 ⟨rfl,ao2,m,cap2,rfl,hres,hmn,hv⟩;have HV3:=zk hv;clear hv;go_wp2;go_ret;refine⟨ao2,m,cap2,F,rfl,hres,?_⟩;rw[HV3.out,Nat.add_assoc,zmf (λj hj=>HZ.out j (.inl hj)),HV.out]
end Go.Proofs.YtlbgphjdibbkjaaGreat
