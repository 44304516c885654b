/-
 A drawn region walked by hand: one operation is taken (tkO), or left out by its guard (skO); what both want is shown by the way. Plain words on memory: what a slice of numbers reads as, a block of the call's own, and what a call may have turned. No Go text is named here. Walks of package nat's smallest functions: Form, order, cmp, trim, padded, clone, fromWord: what each call answers and what it does to memory. math/bits.Add64 and Sub64, at this translation's numbers, over whole numbers. Walks of package nat's sums and differences in place: addWord, addTo, subFrom. Walks of package nat's difference in place (subFrom) and of the lists it makes: padded, clone, fromWord. The kit's laws on make, copy and append, said in the words of the text Mem. No Go text is named here. Walks of package nat's lists and sums: padded, clone, fromWord, add, sub. Walks of package nat's calls Add, Sub, Cmp. The same words for digits to the base 2^32. Walks of the document's reference for nat: Form, Twin, Same, Low, two, light. Walks of the document's reference for nat: Twin, From, To.
-/
import Derived.Deep.RegionHeld3
import Derived.Test.YtdbbncamlaiajaaGreatProg
import Derived.WalkKit
import Derived.Laws.CopyOwn
import Derived.WalkSpells
import Derived.WalkLawsBesides
import Derived.Deep.QuietTactic
import Derived.BigQuiet
import Derived.Deep.Draws
import Derived.Shelf.Spec.BitsCarry
import Derived.BigRegion
import Derived.OwnWalk
import Derived.Laws.AppendOwnNone
namespace Go.Proofs.YtdbbncamlaiajaaGreat
open Go
theorem tkO {P:Program} {md:Region.Mode} {ops:Array Oper} {Q:Exit→Act→World→Prop} {S:World→Prop} {oi:Oper} {v:Value} {fuel:Nat} {listed:Array Bool} {a:Act} {w:World}
  (i:Nat) (h:wpAnyH P md ops Q S fuel (listed.setIfInBounds i true) (a.put oi.dst v) w) (hi:ops[i]?=some oi:=by exact rfl)
  (hy:YieldsIf P ops S oi v a:=by (refine Or.inl ⟨by rfl,?_⟩;intro w0 hSw;(try dsimp only at hSw);go_simp <;> with_reducible rfl))
  (hs:Region.noSelect ops=true:=by kernel_rfl) (hf:Region.free md ops listed i=true:=by kernel_rfl) (hr:(Region.ready md ops listed).contains i=true:=by kernel_rfl)
  (hQ:∀c a w,Q (.panic c) (a.put oi.dst v) w→Q (.panic c) a w:=by exact (fun _ _ _ h=>h)) (hS:S w:=by assumption):wpAnyH P md ops Q S (fuel+1) listed a w :=
 wpAnyH_take hi hs hf hr hQ hy hS h
theorem skO {P:Program} {md:Region.Mode} {ops:Array Oper} {Q:Exit→Act→World→Prop} {S:World→Prop} {oi:Oper} {fuel:Nat} {listed:Array Bool} {a:Act} {w:World}
  (i:Nat) (h:wpAnyH P md ops Q S fuel (listed.setIfInBounds i true) (a.put oi.dst undef) w) (hi:ops[i]?=some oi:=by exact rfl)
  (hy:YieldsIf P ops S oi undef a:=by exact Or.inr ⟨by rfl,rfl⟩)
  (hs:Region.noSelect ops=true:=by kernel_rfl) (hf:Region.free md ops listed i=true:=by kernel_rfl) (hr:(Region.ready md ops listed).contains i=true:=by kernel_rfl)
  (hQ:∀c a w,Q (.panic c) (a.put oi.dst undef) w→Q (.panic c) a w:=by exact (fun _ _ _ h=>h)) (hS:S w:=by assumption):wpAnyH P md ops Q S (fuel+1) listed a w :=
 wpAnyH_take hi hs hf hr hQ hy hS h
theorem lay_:(∀{α:Type} {xs:List α} {i:Nat} (h:i<xs.toArray.size),xs.toArray[i]=xs[i]'(by simpa using h)) ∧
  (∀{α:Type} {a:α} {l:List α} {i:Nat} (h:i+1<(a :: l).length),(a :: l)[i+1]=l[i]'(Nat.lt_of_succ_lt_succ h)) ∧
  (∀{α:Type} {a:α} {l:List α} (h:0<(a :: l).length),(a :: l)[0]=a) ∧
  (∀{α:Type} {l:List α} {i:Nat} {a:α},l.toArray.setIfInBounds i a=(l.set i a).toArray) ∧
  (∀{α:Type} {x:α} {xs:List α} {b:α},(x :: xs).set 0 b=b :: xs) ∧
  (∀{α:Type} {x:α} {xs:List α} {i:Nat} {b:α},(x :: xs).set (i+1) b=x :: xs.set i b) :=
 ⟨fun _=>rfl,fun _=>rfl,fun _=>rfl,by simp,fun {_ _ _ _}=>rfl,fun {_ _ _ _ _}=>rfl⟩
end Go.Proofs.YtdbbncamlaiajaaGreat
namespace Go.Proofs.YtdbbncamlaiajaaGreat
open Go.RowKit
theorem hid {p:Prop} (h:p):Hid p:=h
def Rd (k:IntKind) (w:World) (ao:Option Addr) (n:Nat) (f:Nat→Int):Prop :=
 ∀j,j<n→∃b o,ao=some ⟨b,o,none⟩∧w.cell? ⟨b,o+j,none⟩=some (.int k (f j))
def Blk (k:IntKind) (e:TypeId) (w:World) (g N:Nat) (f:Nat→Int):Prop :=
 ∃arr:Array Value,w.heap[g]?=some (.cells arr e (0,0))∧arr.size=N∧∀j,j<N→arr[j]?=some (.int k (f j))
structure Only (g:Nat) (w w':World):Prop where
 os:w'.os=w.os
 tape:w'.tape=w.tape
 output:w'.output=w.output
 size:w.heap.size≤w'.heap.size
 block:∀k,k<w.heap.size→k≠g→w'.heap[k]?=w.heap[k]?
def sh (f:Nat→Int) (o:Nat):Nat→Int:=fun j=>f (o+j)
theorem sh_at (f:Nat→Int) (o j:Nat):sh f o j=f (o+j):=rfl
theorem sh_zero (f:Nat→Int):sh f 0=f:=by funext j;rw [sh_at,Nat.zero_add]
theorem sh_sh (f:Nat→Int) (a b:Nat):sh (sh f a) b=sh f (a+b):=by funext j;rw [sh_at,sh_at,sh_at,Nat.add_assoc]
def upd (f:Nat→Int) (i:Nat) (v:Int):Nat→Int:=fun j=>if j=i then v else f j
theorem upd_same (f:Nat→Int) (i:Nat) (v:Int):upd f i v i=v:=by simp [upd]
theorem upd_other (f:Nat→Int) (i:Nat) (v:Int) (j:Nat) (h:j≠i):upd f i v j=f j:=by simp [upd,h]
def Off (ao:Option Addr) (g:Nat):Prop:=∀a,ao=some a→a.block≠g
def Und (ao:Option Addr) (B:Nat):Prop:=∀a,ao=some a→a.block<B
theorem Und.off {ao:Option Addr} {B g:Nat} (h:Und ao B) (hg:B≤g):Off ao g:=fun a ha=>by have:=h a ha;omega
theorem Und.mono {ao:Option Addr} {B B':Nat} (h:Und ao B) (hB:B≤B'):Und ao B':=fun a ha=>by have:=h a ha;omega
theorem und_none (B:Nat):Und none B:=fun a h=>by cases h
theorem und_some {b o:Nat} {s} {B:Nat} (h:b<B):Und (some ⟨b,o,s⟩) B:=fun a ha=>by cases ha;exact h
theorem off_none (B:Nat):Off none B:=fun a h=>by cases h
theorem off_some {b o:Nat} {s} {g:Nat} (h:b≠g):Off (some ⟨b,o,s⟩) g:=fun a ha=>by cases ha;exact h
theorem Rd.cell {k w n f b o} (h:Rd k w (some ⟨b,o,none⟩) n f) {j:Nat} (hj:j<n):w.cell? ⟨b,o+j,none⟩=some (.int k (f j)):=by
 obtain ⟨b',o',e,hc⟩:=h j hj;cases e;exact hc
theorem Rd.at {k w ao n f} (h:Rd k w ao n f) (hn:0<n):∃b o,ao=some ⟨b,o,none⟩:=by
 obtain ⟨b,o,e,_⟩:=h 0 hn;exact ⟨b,o,e⟩
theorem Rd.zero {k w ao f}:Rd k w ao 0 f:=fun j hj=>by omega
theorem Rd.mk {k w n f b o} (h:∀j,j<n→w.cell? ⟨b,o+j,none⟩=some (.int k (f j))):Rd k w (some ⟨b,o,none⟩) n f:=fun j hj=>⟨b,o,rfl,h j hj⟩
theorem Rd.congr {k w ao n f f'} (h:Rd k w ao n f) (he:∀j,j<n→f j=f' j):Rd k w ao n f':=fun j hj=>by
 obtain ⟨b,o,e,hc⟩:=h j hj;exact ⟨b,o,e,by rw [hc,he j hj]⟩
theorem Rd.take {k w ao n f} (h:Rd k w ao n f) {m:Nat} (hm:m≤n):Rd k w ao m f:=fun j hj=>h j (by omega)
theorem Rd.drop {k w n f b o} (h:Rd k w (some ⟨b,o,none⟩) n f) {i m:Nat} (hm:i+m≤n):Rd k w (some ⟨b,o+i,none⟩) m (sh f i):=fun j hj =>
 ⟨b,o+i,rfl,by have:=h.cell (j:=i+j) (by omega);rw [←Nat.add_assoc] at this;exact this⟩
theorem Rd.und {k w ao n f} (h:Rd k w ao n f) (hn:0<n):Und ao w.heap.size:=fun a ha=>by
 obtain ⟨b,o,e,hc⟩:=h 0 hn;rw [ha] at e;cases e
 exact World.block_lt_of_cell? w _ hc
theorem Rd.below {k w w' ao n f} {B:Nat} (h:Rd k w ao n f) (hb:Below B w w') (hB:w.heap.size≤B):Rd k w' ao n f:=fun j hj=>by
 obtain ⟨b,o,e,hc⟩:=h j hj;have:=World.block_lt_of_cell? w _ hc;exact ⟨b,o,e,(hb.cell (p:=⟨b,o+j,none⟩) (by simp at this ⊢;omega)).trans hc⟩
theorem Rd.only {k w w' ao n f} {g:Nat} (h:Rd k w ao n f) (hb:Only g w w') (ho:Off ao g):Rd k w' ao n f:=fun j hj=>by
 obtain ⟨b,o,e,hc⟩:=h j hj;have hl:=World.block_lt_of_cell? w _ hc;exact ⟨b,o,e,(World.cell?_of_block (hb.block b hl (by have:=ho _ e;simpa using this))).trans hc⟩
theorem Rd.drew {k w ao n f} (h:Rd k w ao n f):Rd k w.drew ao n f:=h
theorem Blk.cell {k e w g N f} (h:Blk k e w g N f) {j:Nat} (hj:j<N):w.cell? ⟨g,j,none⟩=some (.int k (f j)):=by
 obtain ⟨arr,h1,h2,h3⟩:=h;simp [World.cell?,h1,h3 j hj]
theorem Blk.frozen {k e w g N f} (h:Blk k e w g N f) (j:Nat):w.frozen? ⟨g,j,none⟩=false:=by
 obtain ⟨arr,h1,h2,h3⟩:=h;simp [World.frozen?,h1]
theorem Blk.lt {k e w g N f} (h:Blk k e w g N f):g<w.heap.size:=by
 obtain ⟨arr,h1,h2,h3⟩:=h;exact (Array.getElem?_eq_some_iff.1 h1).1
theorem Blk.congr {k e w g N f f'} (h:Blk k e w g N f) (he:∀j,j<N→f j=f' j):Blk k e w g N f':=by
 obtain ⟨arr,h1,h2,h3⟩:=h;exact ⟨arr,h1,h2,fun j hj=>by rw [h3 j hj,he j hj]⟩
theorem Blk.of {k e w w' g N f} (h:Blk k e w g N f) (he:w'.heap[g]?=w.heap[g]?):Blk k e w' g N f:=by
 obtain ⟨arr,h1,h2,h3⟩:=h;exact ⟨arr,he.trans h1,h2,h3⟩
theorem Blk.drew {k e w g N f} (h:Blk k e w g N f):Blk k e w.drew g N f:=h
theorem Blk.below {k e w w' g N f} {B:Nat} (h:Blk k e w g N f) (hb:Below B w w') (hg:g<B):Blk k e w' g N f:=h.of (hb.block g hg)
theorem Blk.only {k e w w' g g' N f} (h:Blk k e w g N f) (hb:Only g' w w') (hg:g≠g'):Blk k e w' g N f:=h.of (hb.block g h.lt hg)
theorem Blk.alloc {k e w g N f} (h:Blk k e w g N f) (o:Obj):Blk k e (w.alloc o) g N f:=h.of (Below.heap_alloc _ _ _ h.lt)
theorem Blk.set {k e w g N f} (h:Blk k e w g N f) (i:Nat) (v:Int):Blk k e (w.setCell ⟨g,i,none⟩ (.int k v)) g N (upd f i v):=by
 obtain ⟨arr,h1,h2,h3⟩:=h;refine ⟨arr.setIfInBounds i (.int k v),?_,by simpa using h2,fun j hj=>?_⟩
 ·simp [World.setCell,Array.getElem?_modify,h1]
 ·by_cases hji:j=i
  ·subst hji;simp [upd,h2,hj]
  ·rw [Array.getElem?_setIfInBounds,if_neg (by omega),h3 j hj];simp [upd,hji]
theorem Blk.setOther {k e w g N f} (h:Blk k e w g N f) {a:Addr} (ha:g≠a.block) (v:Value):Blk k e (w.setCell a v) g N f:=h.of (Below.heap_setCell _ _ _ _ ha)
theorem Blk.rd {k e w g N f} (h:Blk k e w g N f) {o n:Nat} (hn:o+n≤N):Rd k w (some ⟨g,o,none⟩) n (sh f o):=fun j hj=>⟨g,o,rfl,h.cell (by omega)⟩
theorem Blk.rd0 {k e w g N f} (h:Blk k e w g N f) {n:Nat} (hn:n≤N):Rd k w (some ⟨g,0,none⟩) n f:=fun j hj=>⟨g,0,rfl,by rw [Nat.zero_add];exact h.cell (by omega)⟩
theorem Only.refl (g:Nat) (w:World):Only g w w:=⟨rfl,rfl,rfl,Nat.le_refl _,fun _ _ _=>rfl⟩
theorem Only.trans {g:Nat} {a b c:World} (h:Only g a b) (k:Only g b c):Only g a c :=
 ⟨k.os.trans h.os,k.tape.trans h.tape,k.output.trans h.output,Nat.le_trans h.size k.size,fun i hi hn=>(k.block i (Nat.lt_of_lt_of_le hi h.size) hn).trans (h.block i hi hn)⟩
theorem Only.drew {g:Nat} {a w:World} (h:Only g a w):Only g a w.drew:=⟨h.os,h.tape,h.output,h.size,h.block⟩
theorem Only.setCell {g:Nat} {a w:World} (h:Only g a w) (i:Nat) (s) (u:Value):Only g a (w.setCell ⟨g,i,s⟩ u) :=
 h.trans ⟨rfl,rfl,rfl,by simp [World.setCell],fun k _ hn=>Below.heap_setCell _ _ _ _ hn⟩
theorem Only.alloc {g:Nat} {a w:World} (h:Only g a w) (o:Obj):Only g a (w.alloc o) :=
 h.trans ⟨rfl,rfl,rfl,by simp,fun k hk _=>Below.heap_alloc _ _ _ hk⟩
theorem Only.of_below {g:Nat} {w w':World} (h:Below w.heap.size w w'):Only g w w':=⟨h.os,h.tape,h.output,h.size,fun k hk _=>h.block k hk⟩
theorem Only.below {g B:Nat} {w w':World} (h:Only g w w') (hB:B≤g) (hs:B≤w.heap.size):Below B w w':=⟨h.os,h.tape,h.output,h.size,fun k hk=>h.block k (by omega) (by omega)⟩
theorem below_only {g B:Nat} {w w' w'':World} (h:Below B w w') (h2:Only g w' w'') (hB:B≤g) (hs:B≤w'.heap.size):Below B w w'':=h.trans (h2.below hB hs)
def pw:Nat→Int | 0=>1 | n+1=>18446744073709551616*pw n
def vf (f:Nat→Int):Nat→Int | 0=>0 | n+1=>vf f n+f n*pw n
def Lm (f:Nat→Int) (n:Nat):Prop:=∀j,j<n→0≤f j∧f j<18446744073709551616
def Fm (f:Nat→Int) (n:Nat):Prop:=n=0∨f (n-1)≠0
def fmB (f:Nat→Int) (n:Nat):Bool:=decide (n=0) || !decide (f (n-1)=0)
theorem fmB_iff (f:Nat→Int) (n:Nat):fmB f n=true ↔ Fm f n:=by simp [fmB,Fm]
theorem pw_pos (n:Nat):0<pw n:=by induction n with | zero=>decide | succ n ih=>simp only [pw];omega
theorem pw_succ (n:Nat):pw (n+1)=18446744073709551616*pw n:=rfl
theorem pw_add (m n:Nat):pw (m+n)=pw m*pw n:=by
 induction n with
 | zero=>simp [pw]
 | succ n ih=>rw [←Nat.add_assoc,pw_succ,ih,pw_succ];grind
theorem vf_succ (f:Nat→Int) (n:Nat):vf f (n+1)=vf f n+f n*pw n:=rfl
theorem vf_congr {f g:Nat→Int} {n:Nat} (h:∀j,j<n→f j=g j):vf f n=vf g n:=by
 induction n with
 | zero=>rfl
 | succ n ih=>rw [vf_succ,vf_succ,ih (fun j hj=>h j (by omega)),h n (by omega)]
theorem Lm.mono {f n m} (h:Lm f n) (hm:m≤n):Lm f m:=fun j hj=>h j (by omega)
theorem Lm.congr {f g:Nat→Int} {n:Nat} (h:Lm f n) (he:∀j,j<n→f j=g j):Lm g n:=fun j hj=>by rw [←he j hj];exact h j hj
theorem Lm.upd {f n} (h:Lm f n) {i:Nat} {v:Int} (hv:0≤v∧v<18446744073709551616):Lm (upd f i v) n:=fun j hj=>by
 by_cases hji:j=i
 ·subst hji;rw [upd_same];exact hv
 ·rw [upd_other _ _ _ _ hji];exact h j hj
theorem Lm.sh {f n} (h:Lm f n) {o m:Nat} (hm:o+m≤n):Lm (sh f o) m:=fun j hj=>h (o+j) (by omega)
theorem vf_nonneg {f:Nat→Int} {n:Nat} (h:Lm f n):0≤vf f n:=by
 induction n with
 | zero=>simp [vf]
 | succ n ih =>
  have h1:=ih (h.mono (by omega));have h2:=Int.mul_nonneg (h n (by omega)).1 (Int.le_of_lt (pw_pos n));rw [vf_succ];omega
theorem vf_lt {f:Nat→Int} {n:Nat} (h:Lm f n):vf f n<pw n:=by
 induction n with
 | zero=>simp [vf,pw]
 | succ n ih =>
  have h1:=ih (h.mono (by omega));have h2:(f n+1)*pw n≤18446744073709551616*pw n:=Int.mul_le_mul_of_nonneg_right (by have:=(h n (by omega)).2;omega) (Int.le_of_lt (pw_pos n));rw [Int.add_mul,Int.one_mul] at h2;rw [vf_succ,pw_succ];omega
theorem vf_split (f:Nat→Int) (m n:Nat):vf f (m+n)=vf f m+vf (sh f m) n*pw m:=by
 induction n with
 | zero=>simp [vf]
 | succ n ih=>rw [←Nat.add_assoc,vf_succ,ih,vf_succ,pw_add,sh_at];grind
theorem vf_zero {f:Nat→Int} {n:Nat} (h:∀j,j<n→f j=0):vf f n=0:=by
 induction n with
 | zero=>rfl
 | succ n ih=>rw [vf_succ,ih (fun j hj=>h j (by omega)),h n (by omega)];simp
theorem vf_ext {f:Nat→Int} {m n:Nat} (hm:m≤n) (h:∀j,m≤j→j<n→f j=0):vf f n=vf f m:=by
 obtain ⟨d,rfl⟩:=Nat.exists_eq_add_of_le hm;rw [vf_split,vf_zero (f:=sh f m) (fun j hj=>h _ (by omega) (by omega))];simp
theorem vf_form_ge {f:Nat→Int} {n:Nat} (h:Lm f n) (hf:Fm f n) (hn:0<n):pw (n-1)≤vf f n:=by
 obtain ⟨m,rfl⟩:∃m,n=m+1:=⟨n-1,by omega⟩;have h0:=vf_nonneg (h.mono (m:=m) (by omega));have h1:=h m (by omega);have h2:f m≠0:=by rcases hf with h | h;omega;simpa using h
 have h3:1*pw m≤f m*pw m:=Int.mul_le_mul_of_nonneg_right (by omega) (Int.le_of_lt (pw_pos m));rw [vf_succ];simp at h3 ⊢;omega
theorem pw_mono {m n : Nat} (h : m ≤ n) : pw m ≤ pw n := by
  induction n with
  | zero => obtain rfl : m = 0 := by omega
            exact Int.le_refl _
  | succ n ih =>
    by_cases hm : m = n + 1
    · subst hm; exact Int.le_refl _
    · have := ih (by omega); have := pw_pos n; rw [pw_succ]; omega
theorem vf_le {f:Nat→Int} {m n:Nat} (h:Lm f n) (hm:m≤n):vf f m≤vf f n:=by
 obtain ⟨d,rfl⟩:=Nat.exists_eq_add_of_le hm;have h1:=vf_nonneg (h.sh (o:=m) (m:=d) (Nat.le_refl _));have h2:=Int.mul_nonneg h1 (Int.le_of_lt (pw_pos m));rw [vf_split];omega
theorem vf_inj_same {f g:Nat→Int} {n:Nat} (hf:Lm f n) (hg:Lm g n) (h:vf f n=vf g n):∀j,j<n→f j=g j:=by
 induction n with
 | zero=>intro j hj;omega
 | succ n ih =>
  have a1:=vf_nonneg (hf.mono (m:=n) (by omega));have a2:=vf_lt (hf.mono (m:=n) (by omega))
  have b1:=vf_nonneg (hg.mono (m:=n) (by omega));have b2:=vf_lt (hg.mono (m:=n) (by omega))
  rw [vf_succ,vf_succ] at h;have hp:=pw_pos n;have e:f n=g n:=by
   rcases Int.lt_trichotomy (f n) (g n) with hl | hl | hl
   ·have:(f n+1)*pw n≤g n*pw n:=Int.mul_le_mul_of_nonneg_right (by omega) (Int.le_of_lt hp);rw [Int.add_mul,Int.one_mul] at this;omega
   ·exact hl
   ·have:(g n+1)*pw n≤f n*pw n:=Int.mul_le_mul_of_nonneg_right (by omega) (Int.le_of_lt hp);rw [Int.add_mul,Int.one_mul] at this;omega
  have hr:=ih (hf.mono (by omega)) (hg.mono (by omega)) (by rw [e] at h;omega);intro j hj;by_cases hjn:j=n
  ·subst hjn;exact e
  ·exact hr j (by omega)
theorem vf_len {f g:Nat→Int} {n m:Nat} (hf:Lm f n) (hg:Lm g m) (ff:Fm f n) (h:vf f n≤vf g m):n≤m:=by
 apply Nat.le_of_not_lt;intro hlt;have h1:=vf_form_ge hf ff (by omega);have h2:=vf_lt hg;have h3:=pw_mono (m:=m) (n:=n-1) (by omega);omega
theorem vf_inj {f g:Nat→Int} {n m:Nat} (hf:Lm f n) (hg:Lm g m) (ff:Fm f n) (fg:Fm g m) (h:vf f n=vf g m):n=m∧∀j,j<n→f j=g j:=by
 have e:n=m:=Nat.le_antisymm (vf_len hf hg ff (by omega)) (vf_len hg hf fg (by omega));subst e;exact ⟨rfl,vf_inj_same hf hg h⟩
theorem trim_val {f:Nat→Int} {m n:Nat} (hm:m≤n) (hz:∀j,m≤j→j<n→f j=0):vf f m=vf f n:=(vf_ext hm hz).symm
def Ord (c a b:Int):Prop:=c=-1∧a<b∨c=0∧a=b∨c=1∧b<a
theorem order_c (b:Bool) (w:World):Calls Tryz.prog 178 #[.bool b] w fun e w'=>e=.returned (.int .i64 (if b then -1 else 1))∧w'=w:=by
 cases b
 all_goals
  go_enter Tryz.func178,Tryz.ntmps178;go_wp2;go_ret;exact ⟨rfl,rfl⟩
set_option maxHeartbeats 400000 in
theorem form_c (ao:Option Addr) (n cap:Nat) (f:Nat→Int) (w:World) (hm:n≤9223372036854775807) (hr:Rd .u64 w ao n f) :
  Calls Tryz.prog 103 #[.slice ao n cap] w fun e w'=>e=.returned (.bool (fmB f n))∧w'=w:=by
 by_cases h0:n=0
 ·subst h0;have e:fmB f 0=true:=by simp [fmB]
  go_enter Tryz.func103,Tryz.ntmps103;go_wp2;go_ret;exact ⟨by rw [e];rfl,rfl⟩
 ·obtain ⟨b,o,rfl⟩:=hr.at (by omega);obtain ⟨x,hx⟩:∃x,f (n-1)=x:=⟨_,rfl⟩;have hc:w.cell? ⟨b,o+(n-1),none⟩=some (.int .u64 x):=by rw [←hx];exact hr.cell (by omega)
  have h1:((n:Int)==0)=false:=by simp;omega
  have e:fmB f n=(x != 0):=by simp [fmB,h0,hx,bne];rfl
  have E:=hid e;clear hr hx e;go_enter Tryz.func103,Tryz.ntmps103;go_wp2;go_ret;exact ⟨by rw [E.out];rfl,rfl⟩
set_option maxHeartbeats 400000 in
theorem trim_c (ao:Option Addr) (n cap:Nat) (f:Nat→Int) (w:World) (hc:n≤cap) (hm:cap≤140737488355328) (hr:Rd .u64 w ao n f) :
  Calls Tryz.prog 169 #[.slice ao n cap] w fun e w'=>w'=w∧∃m,m≤n∧(∀j,m≤j→j<n→f j=0) ∧
   (m=0∧e=.returned (.slice none 0 0)∨0<m∧f (m-1)≠0∧e=.returned (.slice ao m cap)):=by
 go_enter Tryz.func169,Tryz.ntmps169;go_wp2
 go_loop [3] (fun t=>∃m:Nat,m≤n∧t=.int .i64 m∧Hid (∀j,m≤j→j<n→f j=0)) (fun t=>(intOf t).toNat)
 case atStart=>exact ⟨n,Nat.le_refl _,rfl,fun j h1 h2=>by omega⟩
 case round =>
  obtain ⟨m,hmn,rfl,HZ⟩:=hrel;by_cases h0:0<m
  ·obtain ⟨b,o,rfl⟩:=hr.at (by omega);obtain ⟨x,hx⟩:∃x,f (m-1)=x:=⟨_,rfl⟩;have hcell:w.cell? ⟨b,o+(m-1),none⟩=some (.int .u64 x):=by rw [←hx];exact hr.cell (by omega)
   have HX:Hid (f (m-1)=x):=hx;clear hx hr;by_cases hx0:x=0
   ·subst hx0;go_wp2
    go_round
    case rel =>
     refine ⟨m-1,by omega,by go_num,fun j h1 h2=>?_⟩;by_cases hj:j=m-1
     ·rw [hj];exact HX.out
     ·exact HZ.out j (by omega) h2
    case measure=>simp [intOf];omega
   ·have hx1:(x==0)=false:=by simp [hx0]
    go_wp2;go_ret;exact ⟨rfl,m,hmn,HZ.out,.inr ⟨h0,by rw [HX.out];exact hx0,rfl⟩⟩
  ·have h00:m=0:=by omega
   subst h00;go_wp2;go_ret;exact ⟨rfl,0,hmn,HZ.out,.inl ⟨rfl,rfl⟩⟩
theorem cmp_step {f g:Nat→Int} {n k:Nat} (hf:Lm f n) (hg:Lm g n) (hk:k<n) (he:∀j,k<j→j<n→f j=g j) (hl:f k<g k):vf f n<vf g n:=by
 obtain ⟨d,rfl⟩:=Nat.exists_eq_add_of_le (show k+1≤n by omega);have e:vf (sh f (k+1)) d=vf (sh g (k+1)) d:=vf_congr (fun j hj=>he _ (by omega) (by omega));have a:=vf_lt (hf.mono (m:=k) (by omega));have b:=vf_nonneg (hg.mono (m:=k) (by omega))
 have hp:(f k+1)*pw k≤g k*pw k:=Int.mul_le_mul_of_nonneg_right (by omega) (Int.le_of_lt (pw_pos k));rw [Int.add_mul,Int.one_mul] at hp;rw [vf_split f (k+1) d,vf_split g (k+1) d,e,vf_succ f k,vf_succ g k];omega
set_option maxHeartbeats 800000 in
theorem cmp_c (ao bo:Option Addr) (n m ca cb:Nat) (f g:Nat→Int) (w:World) (hm:n≤140737488355328) (hm':m≤140737488355328)
  (hr:Rd .u64 w ao n f) (hs:Rd .u64 w bo m g) (hf:Lm f n) (hg:Lm g m) (ff:Fm f n) (fg:Fm g m) :
  Calls Tryz.prog 163 #[.slice ao n ca,.slice bo m cb] w fun e w'=>(∃q,w'=w.drewN q)∧∃c,e=.returned (.int .i64 c)∧Ord c (vf f n) (vf g m):=by
 have FF:=hid ff;have FG:=hid fg;have HF:=hid hf;have HG:=hid hg;clear ff fg hf hg;rcases Nat.lt_trichotomy n m with hlt | heq | hlt
 ·have h1:((n:Int) != m)=true:=by simp;omega
  have h2:decide ((n:Int)<m)=true:=by simp;omega
  have h3:vf f n<vf g m:=by
   apply Int.lt_of_not_ge;intro h
   have:=vf_len HG.out HF.out FG.out h;omega
  have H3:=hid h3;clear h3;go_enter Tryz.func163,Tryz.ntmps163;go_wp2_with (go_at_call 178;refine (order_c _ _).mono ?_;rintro e w' ⟨rfl,rfl⟩)
  go_ret;exact ⟨⟨0,rfl⟩,-1,rfl,.inl ⟨rfl,H3.out⟩⟩
 ·subst heq;have h1:((n:Int) != n)=false:=by simp
  go_enter Tryz.func163,Tryz.ntmps163;go_wp2;go_loopw [20] (fun t wr=>∃i:Nat,i≤n∧t=.int .i64 i∧Hid (∀j,n-i≤j→j<n→f j=g j)∧∃q,wr=w.drewN q) (fun t _=>n-(intOf t).toNat)
  case atStart=>exact ⟨0,by omega,rfl,fun j h1 h2=>by omega,0,rfl⟩
  case round =>
   obtain ⟨i,hin,rfl,HE,q,rfl⟩:=hrel;by_cases hlt:i<n
   ·obtain ⟨b,o,rfl⟩:=hr.at (by omega);obtain ⟨b',o',rfl⟩:=hs.at (by omega);obtain ⟨x,hx⟩:∃x,f (n-1-i)=x:=⟨_,rfl⟩;obtain ⟨y,hy⟩:∃y,g (n-1-i)=y:=⟨_,rfl⟩;have hca:w.cell? ⟨b,o+(n-1-i),none⟩=some (.int .u64 x):=by rw [←hx];exact hr.cell (by omega)
    have hcb:w.cell? ⟨b',o'+(n-1-i),none⟩=some (.int .u64 y):=by rw [←hy];exact hs.cell (by omega)
    have HX:Hid (f (n-1-i)=x):=hx;have HY:Hid (g (n-1-i)=y):=hy;clear hx hy hr hs;by_cases hxy:x=y
    ·subst hxy;have hne:(x != x)=false:=by simp
     go_wp2
     go_quiet (fail)
     go_wp2;go_roundw
     case rel =>
      refine ⟨i+1,by omega,by go_num,fun j h1 h2=>?_,_,rfl⟩;by_cases hj:j=n-1-i
      ·rw [hj];exact HX.out.trans HY.out.symm
      ·exact HE.out j (by omega) h2
     case measure=>simp [intOf];omega
    ·have hne:(x != y)=true:=by simp [hxy]
     by_cases hl:x<y
     ·have hd:decide (x<y)=true:=by simp [hl]
      go_wp2
      go_quiet (fail)
      go_wp2
      go_quiet ((go_at_call 178;exact (order_c _ _).mono (fun _ _ h=>⟨h.1,_,h.2⟩)))
      go_wp2;go_ret;refine ⟨⟨_,by (repeat rw [World.drewN_drewN]) <;> rfl⟩,-1,rfl,.inl ⟨rfl,cmp_step HF.out HG.out (k:=n-1-i) (by omega) (fun j h1 h2=>HE.out j (by omega) h2) (by rw [HX.out,HY.out];exact hl)⟩⟩
     ·have hd:decide (x<y)=false:=by simp;omega
      go_wp2
      go_quiet (fail)
      go_wp2
      go_quiet ((go_at_call 178;exact (order_c _ _).mono (fun _ _ h=>⟨h.1,_,h.2⟩)))
      go_wp2;go_ret;refine ⟨⟨_,by (repeat rw [World.drewN_drewN]) <;> rfl⟩,1,rfl,.inr (.inr ⟨rfl,cmp_step HG.out HF.out (k:=n-1-i) (by omega) (fun j h1 h2=>(HE.out j (by omega) h2).symm) (by rw [HX.out,HY.out];omega)⟩)⟩
   ·have hi:i=n:=by omega
    subst hi;go_wp2;go_ret;exact ⟨⟨_,rfl⟩,0,rfl,.inr (.inl ⟨rfl,vf_congr (fun j hj=>HE.out j (by omega) hj)⟩)⟩
 ·have h1:((n:Int) != m)=true:=by simp;omega
  have h2:decide ((n:Int)<m)=false:=by simp;omega
  have h3:vf g m<vf f n:=by
   apply Int.lt_of_not_ge;intro h
   have:=vf_len HF.out HG.out FF.out h;omega
  have H3:=hid h3;clear h3;go_enter Tryz.func163,Tryz.ntmps163;go_wp2_with (go_at_call 178;refine (order_c _ _).mono ?_;rintro e w' ⟨rfl,rfl⟩)
  go_ret;exact ⟨⟨0,rfl⟩,1,rfl,.inr (.inr ⟨rfl,H3.out⟩)⟩
end Go.Proofs.YtdbbncamlaiajaaGreat
namespace Go.Proofs.YtdbbncamlaiajaaGreat
open Go.RowKit Go.Shelf
def bor (x y:Int):Int:=if x<y then 1 else 0
theorem bor_01 (x y:Int):0≤bor x y∧bor x y≤1:=by unfold bor;split <;> decide
theorem add64 (x y c:Int) (hx:0≤x) (hy:0≤y) (hc0:0≤c) (hc:c≤1) (w:World):(callFunc 209 #[.int .u64 x,.int .u64 y,.int .u64 c]).run Tryz.prog w =
  .ok (.value (.tuple #[.int .u64 ((x+y+c)%18446744073709551616),.int .u64 ((x+y+c)/18446744073709551616)])) w:=by
 obtain ⟨x,rfl⟩:=Int.eq_ofNat_of_zero_le hx;obtain ⟨y,rfl⟩:=Int.eq_ofNat_of_zero_le hy;obtain ⟨c,rfl⟩:=Int.eq_ofNat_of_zero_le hc0;rw [run_callFunc_extern Tryz.func209 (by kernel_rfl) (by kernel_rfl) (by kernel_rfl) (e:=add64Entry) (by kernel_rfl),run_add64 x y c (by omega) (by omega) (by omega) (by omega)];simp only [Result.andThen]
theorem sub64 (x y b:Int) (hx:0≤x) (hy:0≤y) (hy':y<18446744073709551616) (hb0:0≤b) (hb:b≤1) (w:World):(callFunc 203 #[.int .u64 x,.int .u64 y,.int .u64 b]).run Tryz.prog w =
  .ok (.value (.tuple #[.int .u64 ((x-y-b)%18446744073709551616),.int .u64 (bor x (y+b))])) w:=by
 obtain ⟨x,rfl⟩:=Int.eq_ofNat_of_zero_le hx;obtain ⟨y,rfl⟩:=Int.eq_ofNat_of_zero_le hy;obtain ⟨b,rfl⟩:=Int.eq_ofNat_of_zero_le hb0;have e1:(((x+18446744073709551616-y-b)%18446744073709551616:Nat):Int)=((x:Int)-y-b)%18446744073709551616:=by omega
 have e2:((if x<y+b then 1 else 0:Nat):Int)=bor (x:Int) (y+b):=by unfold bor;split <;> split <;> omega
 rw [run_callFunc_extern Tryz.func203 (by kernel_rfl) (by kernel_rfl) (by kernel_rfl) (e:=sub64Entry) (by kernel_rfl),run_sub64 x y b (by omega),←e1,←e2];rfl
theorem add64_0 (x y:Int) (hx:0≤x) (hy:0≤y) (w:World):(callFunc 209 #[.int .u64 x,.int .u64 y,.int .u64 0]).run Tryz.prog w =
  .ok (.value (.tuple #[.int .u64 ((x+y)%18446744073709551616),.int .u64 ((x+y)/18446744073709551616)])) w:=by
 simpa using add64 x y 0 hx hy (Int.le_refl 0) (by decide) w
theorem sub64_0 (x y:Int) (hx:0≤x) (hy:0≤y) (hy':y<18446744073709551616) (w:World):(callFunc 203 #[.int .u64 x,.int .u64 y,.int .u64 0]).run Tryz.prog w =
  .ok (.value (.tuple #[.int .u64 ((x-y)%18446744073709551616),.int .u64 (bor x y)])) w:=by
 simpa using sub64 x y 0 hx hy hy' (Int.le_refl 0) (by decide) w
end Go.Proofs.YtdbbncamlaiajaaGreat
namespace Go.Proofs.YtdbbncamlaiajaaGreat
open Go.RowKit
theorem add_limb {V x c p:Int}:V+((x+c)%18446744073709551616)*p+((x+c)/18446744073709551616)*(18446744073709551616*p)=V+x*p+c*p:=by
 have e:x+c=18446744073709551616*((x+c)/18446744073709551616)+(x+c)%18446744073709551616:=by omega
 grind
theorem carry_step {f f':Nat→Int} {o k:Nat} {cc w0 y:Int} {G:Nat→Int} (HV:vf (sh f' o) k+cc*pw k=vf (sh f o) k+vf G k+w0) (hE:f' (o+k)=f (o+k)) (hy:G k=y) :
  vf (sh (upd f' (o+k) ((f' (o+k)+y+cc)%18446744073709551616)) o) (k+1)+((f' (o+k)+y+cc)/18446744073709551616)*pw (k+1)=vf (sh f o) (k+1)+vf G (k+1)+w0:=by
 have e1:vf (sh (upd f' (o+k) ((f' (o+k)+y+cc)%18446744073709551616)) o) k=vf (sh f' o) k:=vf_congr (fun j hj=>upd_other _ _ _ _ (by omega));rw [vf_succ,vf_succ,vf_succ,e1,pw_succ,sh_at,sh_at,upd_same,hE,hy];have:=add_limb (V:=vf (sh f' o) k) (x:=f (o+k)+y) (c:=cc) (p:=pw k);rw [this]
 grind
theorem addWord_0 (ao:Option Addr) (cap:Nat) (w0:Int) (w:World):Calls Tryz.prog 205 #[.slice ao 0 cap,.int .u64 w0] w fun e w'=>e=.returned (.tuple #[])∧w'=w:=by
 go_enter Tryz.func205,Tryz.ntmps205;go_wp2;refine wp_loop_rounds 1 ?_;rw [rounds_succ];go_wp2;exact bodyPost_end (v:=.tuple #[]) (results_none rfl _ _ _) rfl ⟨rfl,rfl⟩
set_option maxHeartbeats 800000 in
theorem addWord_c (g o n cap N:Nat) (f:Nat→Int) (w0:Int) (w:World) (hb:Blk .u64 145 w g N f) (hf:Lm f N) (ho:o+n≤N) (hm:N≤140737488355328) (h0:0≤w0) (h1:w0<18446744073709551616)
  (hroom:vf (sh f o) n+w0<pw n) :
  Calls Tryz.prog 205 #[.slice (some ⟨g,o,none⟩) n cap,.int .u64 w0] w fun e w'=>e=.returned (.tuple #[])∧Only g w w' ∧
   ∃f',Blk .u64 145 w' g N f'∧Lm f' N∧(∀j,j<o∨o+n≤j→f' j=f j)∧vf (sh f' o) n=vf (sh f o) n+w0:=by
 have HR:=hid hroom;clear hroom;go_enter Tryz.func205,Tryz.ntmps205;go_wp2;go_loopw [1,7] (fun c t wr=>∃(k:Nat) (cc:Int) (f':Nat→Int),k≤n∧t=.int .i64 k∧c=.int .u64 cc∧0≤cc∧cc<18446744073709551616∧Only g w wr∧Blk .u64 145 wr g N f'∧Hid (Lm f' N)∧Hid (∀j,j<o∨o+k≤j→f' j=f j) ∧
   Hid (vf (sh f' o) k+cc*pw k=vf (sh f o) k+vf (fun _=>0) k+w0)) (fun _ t _=>n-(intOf t).toNat)
 case atStart=>exact ⟨0,w0,f,by omega,rfl,rfl,h0,h1,Only.refl _ _,hb,hf,fun _ _=>rfl,by simp [Hid,vf,pw]⟩
 case round =>
  obtain ⟨k,cc,f',hk,rfl,rfl,c0,c1,hon,hbl,HL,HE,HV⟩:=hrel;have z0:∀i,vf (fun _=>0) i=0:=fun i=>vf_zero (fun _ _=>rfl)
  have Z0:=hid z0;clear z0;by_cases hlt:k<n
  ·by_cases hc:cc=0
   ·subst hc;go_wp2;refine bodyPost_ret (v:=.tuple #[]) (results_none rfl _ _ _) rfl ⟨rfl,hon,f',hbl,HL.out,fun j hj=>HE.out j (by omega),?_⟩;have hv:=HV.out;obtain ⟨d,rfl⟩:=Nat.exists_eq_add_of_le (show k≤n by omega);rw [vf_split,vf_split (sh f o),sh_sh,sh_sh,vf_congr (f:=sh f' (o+k)) (g:=sh f (o+k)) (fun j hj=>HE.out _ (by omega))];rw [Z0.out] at hv;omega
   ·have hc1:(cc==0)=false:=by simp [hc]
    obtain ⟨x,hx⟩:∃x,f' (o+k)=x:=⟨_,rfl⟩;have hcell:wr.cell? ⟨g,o+k,none⟩=some (.int .u64 x):=by rw [←hx];exact hbl.cell (by omega)
    have hfz:=hbl.frozen (o+k);have hx01:=HL.out (o+k) (by omega);rw [hx] at hx01;obtain ⟨x0,x1⟩:=hx01;have HX:=hid hx;clear hx;go_wp2_with (simp only [add64_0 x cc x0 c0])
    go_roundw
    case rel =>
     refine ⟨k+1,_,upd f' (o+k) ((x+cc)%18446744073709551616),by omega,by go_num,rfl,by omega,by omega,hon.setCell _ _ _,hbl.set _ _,HL.out.upd (by omega),?_,?_⟩
     ·intro j hj;rw [upd_other _ _ _ _ (by omega)];exact HE.out j (by omega)
     ·have:=carry_step (y:=0) HV.out (HE.out _ (by omega)) rfl;rw [HX.out] at this;simpa [Hid] using this
    case measure=>simp [intOf];omega
  ·have hkn:k=n:=by omega
   subst hkn;go_wp2;refine bodyPost_end (v:=.tuple #[]) (results_none rfl _ _ _) rfl ⟨rfl,hon,f',hbl,HL.out,HE.out,?_⟩;have hv:=HV.out;rw [Z0.out] at hv;have h1:=vf_nonneg (HL.out.sh (o:=o) (m:=k) (by omega));have hp:=pw_pos k;have hr:=HR.out;by_cases hc:cc=0
   ·subst hc;simpa using hv
   ·exfalso;have:1*pw k≤cc*pw k:=Int.mul_le_mul_of_nonneg_right (by omega) (Int.le_of_lt hp);omega
set_option maxHeartbeats 1000000 in
theorem addTo_c (g o n cap N:Nat) (f:Nat→Int) (bo:Option Addr) (m cb:Nat) (h:Nat→Int) (w:World) (hb:Blk .u64 145 w g N f) (hf:Lm f N) (ho:o+n≤N) (hm:N≤140737488355328)
  (hr:Rd .u64 w bo m h) (hh:Lm h m) (hoff:0<m→Off bo g) (hmn:m≤n) (hcap:n≤cap) (hcm:cap≤140737488355328)
  (hroom:vf (sh f o) n+vf h m<pw n) :
  Calls Tryz.prog 199 #[.slice (some ⟨g,o,none⟩) n cap,.slice bo m cb] w fun e w'=>e=.returned (.tuple #[])∧Only g w w' ∧
   ∃f',Blk .u64 145 w' g N f'∧Lm f' N∧(∀j,j<o∨o+n≤j→f' j=f j)∧vf (sh f' o) n=vf (sh f o) n+vf h m:=by
 have HR:=hid hroom;have HH:=(show Hid (Lm h m) from hh);have HRd:=(show Hid (Rd .u64 w bo m h) from hr);clear hroom hh hr;go_enter Tryz.func199,Tryz.ntmps199;go_wp2;go_loopw [4,8] (fun c t wr=>∃(k:Nat) (cc:Int) (f':Nat→Int),k≤m∧t=.int .i64 k∧c=.int .u64 cc∧0≤cc∧cc≤1∧Only g w wr∧Blk .u64 145 wr g N f'∧Hid (Lm f' N)∧Hid (∀j,j<o∨o+k≤j→f' j=f j) ∧
   Hid (vf (sh f' o) k+cc*pw k=vf (sh f o) k+vf h k+0)) (fun _ t _=>m-(intOf t).toNat)
 case atStart=>exact ⟨0,0,f,by omega,rfl,rfl,by omega,by omega,Only.refl _ _,hb,hf,fun _ _=>rfl,by simp [Hid,vf,pw]⟩
 case round =>
  obtain ⟨k,cc,f',hk,rfl,rfl,c0,c1,hon,hbl,HL,HE,HV⟩:=hrel;by_cases hlt:k<m
  ·have hr:=HRd.out;obtain ⟨b,ob,rfl⟩:=hr.at (by omega);obtain ⟨x,hx⟩:∃x,f' (o+k)=x:=⟨_,rfl⟩;obtain ⟨y,hy⟩:∃y,h k=y:=⟨_,rfl⟩;have hcell:wr.cell? ⟨g,o+k,none⟩=some (.int .u64 x):=by rw [←hx];exact hbl.cell (by omega)
   have hcelb:wr.cell? ⟨b,ob+k,none⟩=some (.int .u64 y):=by rw [←hy];exact (hr.only hon (hoff (by omega))).cell hlt
   have hfz:=hbl.frozen (o+k);have hx01:=HL.out (o+k) (by omega);have hy01:=HH.out k hlt;rw [hx] at hx01;rw [hy] at hy01;obtain ⟨x0,x1⟩:=hx01;obtain ⟨y0,y1⟩:=hy01;have HX:=hid hx;have HY:=hid hy;clear hx hy hr;have hadd:=fun w=>add64 x y cc x0 y0 c0 c1 w
   go_wp2
   go_region
   all_goals
    go_wp2;go_roundw
    case rel =>
     refine ⟨k+1,_,upd f' (o+k) ((x+y+cc)%18446744073709551616),by omega,by go_num,rfl,by omega,by omega,?_,?_,HL.out.upd (by omega),?_,?_⟩
     ·exact (hon.setCell _ _ _).drew
     ·exact (hbl.set _ _).drew
     ·intro j hj;rw [upd_other _ _ _ _ (by omega)];exact HE.out j (by omega)
     ·have:=carry_step (y:=y) HV.out (HE.out _ (by omega)) HY.out;rw [HX.out] at this;exact this
    case measure=>simp [intOf];omega
  ·have hkm:k=m:=by omega
   subst hkm;have hv:=HV.out;obtain ⟨d,rfl⟩:=Nat.exists_eq_add_of_le hmn;have hsh:∀j,j<d→sh f' (o+k) j=sh f (o+k) j:=fun j hj=>HE.out _ (by omega)
   have hroom:vf (sh f' (o+k)) d+cc<pw d:=by
    have h0:=vf_nonneg (HL.out.sh (o:=o) (m:=k) (by omega));have h1:=HR.out;rw [vf_split,sh_sh,←vf_congr hsh,pw_add] at h1;have hp:=pw_pos k;apply Int.lt_of_mul_lt_mul_right (a:=pw k) _ (Int.le_of_lt hp);rw [Int.add_mul,Int.mul_comm (pw d)];omega
   have hv2:=HV.out;have HS:=hid hsh;clear hv hv2 hsh;by_cases hd:d=0
   ·subst hd;have hc0:cc=0:=by simp [vf,pw] at hroom;omega
    by_cases hne:k=cap
    all_goals
     go_wp2_with (go_at_call 205;refine (addWord_0 _ _ _ _).mono ?_;rintro e w' ⟨rfl,rfl⟩)
     refine bodyPost_end (v:=.tuple #[]) (results_none rfl _ _ _) rfl ⟨rfl,hon,f',hbl,HL.out,fun j hj=>HE.out j (by omega),?_⟩;have hv:=HV.out;rw [hc0] at hv;simpa using hv
   ·have hne:¬(k=cap):=by omega
    go_wp2_with fail
    refine (addWord_c g (o+k) d (cap-k) N f' cc wr hbl HL.out (by omega) hm c0 (by omega) hroom).mono ?_;rintro e w' ⟨rfl,hon2,f2,hb2,hl2,he2,hv2⟩;go_wp2;refine bodyPost_end (v:=.tuple #[]) (results_none rfl _ _ _) rfl ⟨rfl,hon.trans hon2,f2,hb2,hl2,fun j hj=>(he2 j (by omega)).trans (HE.out j (by omega)),?_⟩;have hv:=HV.out;rw [vf_split,vf_split (sh f o),sh_sh,sh_sh,hv2,vf_congr HS.out,vf_congr (f:=sh f2 o) (g:=sh f' o) (fun j hj=>he2 _ (by omega)),Int.add_mul];omega
theorem sub_limb {x y c:Int} (x0:0≤x) (x1:x<18446744073709551616) (y0:0≤y) (y1:y<18446744073709551616) (c0:0≤c) (c1:c≤1):(x-y-c)%18446744073709551616=x-y-c+18446744073709551616*bor x (y+c):=by
 unfold bor;split <;> omega
theorem borrow_step {f f':Nat→Int} {o k:Nat} {cc y v c':Int} {G:Nat→Int} (HV:vf (sh f' o) k-cc*pw k=vf (sh f o) k-vf G k) (hE:f' (o+k)=f (o+k)) (hy:G k=y) (hv:v=f' (o+k)-y-cc+18446744073709551616*c') :
  vf (sh (upd f' (o+k) v) o) (k+1)-c'*pw (k+1)=vf (sh f o) (k+1)-vf G (k+1):=by
 have e1:vf (sh (upd f' (o+k) v) o) k=vf (sh f' o) k:=vf_congr (fun j hj=>upd_other _ _ _ _ (by omega));rw [vf_succ,vf_succ,vf_succ,e1,pw_succ,sh_at,sh_at,upd_same,hv,hE,hy]
 grind
def ext (h:Nat→Int) (m:Nat):Nat→Int:=fun j=>if j<m then h j else 0
theorem ext_in (h:Nat→Int) (m j:Nat) (hj:j<m):ext h m j=h j:=by simp [ext,hj]
theorem ext_out (h:Nat→Int) (m j:Nat) (hj:m≤j):ext h m j=0:=by simp [ext];omega
theorem vf_ext_list (h:Nat→Int) (m n:Nat) (hn:m≤n):vf (ext h m) n=vf h m:=by
 rw [vf_ext hn (fun j h1 _=>ext_out h m j h1)];exact vf_congr (fun j hj=>ext_in h m j hj)
set_option maxHeartbeats 1600000 in
theorem subFrom_c (g o n cap N:Nat) (f:Nat→Int) (bo:Option Addr) (m cb:Nat) (h:Nat→Int) (w:World) (hb:Blk .u64 145 w g N f) (hf:Lm f N) (ho:o+n≤N) (hm:N≤140737488355328)
  (hr:Rd .u64 w bo m h) (hh:Lm h m) (hoff:0<m→Off bo g) (hmn:m≤n) (hcap:n≤cap) (hcm:cap≤140737488355328)
  (hroom:vf h m≤vf (sh f o) n) :
  Calls Tryz.prog 200 #[.slice (some ⟨g,o,none⟩) n cap,.slice bo m cb] w fun e w'=>e=.returned (.tuple #[])∧Only g w w' ∧
   ∃f',Blk .u64 145 w' g N f'∧Lm f' N∧(∀j,j<o∨o+n≤j→f' j=f j)∧vf (sh f' o) n=vf (sh f o) n-vf h m:=by
 have HR:=hid hroom;have HH:=(show Hid (Lm h m) from hh);have HRd:=(show Hid (Rd .u64 w bo m h) from hr);clear hroom hh hr;go_enter Tryz.func200,Tryz.ntmps200;go_wp2;go_loopw [4,10] (fun c t wr=>∃(k:Nat) (cc:Int) (f':Nat→Int),k≤m∧t=.int .i64 k∧c=.int .u64 cc∧0≤cc∧cc≤1∧Only g w wr∧Blk .u64 145 wr g N f'∧Hid (Lm f' N)∧Hid (∀j,j<o∨o+k≤j→f' j=f j) ∧
   Hid (vf (sh f' o) k-cc*pw k=vf (sh f o) k-vf (ext h m) k)) (fun _ t _=>m-(intOf t).toNat)
 case atStart=>exact ⟨0,0,f,by omega,rfl,rfl,by omega,by omega,Only.refl _ _,hb,hf,fun _ _=>rfl,by simp [Hid,vf,pw]⟩
 case round =>
  obtain ⟨k,cc,f',hk,rfl,rfl,c0,c1,hon,hbl,HL,HE,HV⟩:=hrel;by_cases hlt:k<m
  ·have hr:=HRd.out;obtain ⟨b,ob,rfl⟩:=hr.at (by omega);obtain ⟨x,hx⟩:∃x,f' (o+k)=x:=⟨_,rfl⟩;obtain ⟨y,hy⟩:∃y,h k=y:=⟨_,rfl⟩;have hcell:wr.cell? ⟨g,o+k,none⟩=some (.int .u64 x):=by rw [←hx];exact hbl.cell (by omega)
   have hcelb:wr.cell? ⟨b,ob+k,none⟩=some (.int .u64 y):=by rw [←hy];exact (hr.only hon (hoff (by omega))).cell hlt
   have hfz:=hbl.frozen (o+k);have hx01:=HL.out (o+k) (by omega);have hy01:=HH.out k hlt;rw [hx] at hx01;rw [hy] at hy01;obtain ⟨x0,x1⟩:=hx01;obtain ⟨y0,y1⟩:=hy01;have HX:=hid hx;have HY:=hid hy;clear hx hy hr;have hadd:=fun w=>sub64 x y cc x0 y0 y1 c0 c1 w
   go_wp2
   go_region
   all_goals
    go_wp2;go_roundw
    case rel =>
     refine ⟨k+1,_,upd f' (o+k) ((x-y-cc)%18446744073709551616),by omega,by go_num,rfl,(bor_01 _ _).1,(bor_01 _ _).2,?_,?_,HL.out.upd (by omega),?_,?_⟩
     ·exact (hon.setCell _ _ _).drew
     ·exact (hbl.set _ _).drew
     ·intro j hj;rw [upd_other _ _ _ _ (by omega)];exact HE.out j (by omega)
     ·exact borrow_step HV.out (HE.out _ (by omega)) ((ext_in h m k hlt).trans HY.out) (by rw [HX.out];exact sub_limb x0 x1 y0 y1 c0 c1)
    case measure=>simp [intOf];omega
  ·have hkm:k=m:=by omega
   subst hkm;obtain ⟨d,rfl⟩:=Nat.exists_eq_add_of_le hmn;by_cases hd:d=0
   ·subst hd;have hfin:vf (sh f' o) k=vf (sh f o) k-vf h k:=by
     have hv:=HV.out;rw [vf_ext_list h k k (Nat.le_refl _)] at hv;have h0:=vf_lt (HL.out.sh (o:=o) (m:=k) (by omega));have h1:=HR.out;by_cases hc:cc=0
     ·subst hc;simpa using hv
     ·obtain rfl:cc=1:=by omega
      simp at h1;omega
    have HFin:=hid hfin;clear hfin;by_cases hne:k=cap
    all_goals
     go_wp2;refine wp_loop_rounds 1 ?_;rw [rounds_succ];go_wp2;exact bodyPost_end (v:=.tuple #[]) (results_none rfl _ _ _) rfl ⟨rfl,hon,f',hbl,HL.out,fun j hj=>HE.out j (by omega),HFin.out⟩
   ·have hne:¬(k=cap):=by omega
    obtain ⟨w1,hw1⟩:∃w1,wr=w1:=⟨_,rfl⟩;subst hw1;go_wp2;go_loopw [4,36] (fun c t wr=>∃(i:Nat) (cc:Int) (f':Nat→Int),i≤d∧t=.int .i64 i∧c=.int .u64 cc∧0≤cc∧cc≤1∧Only g w wr∧Blk .u64 145 wr g N f'∧Hid (Lm f' N)∧Hid (∀j,j<o∨o+(k+i)≤j→f' j=f j) ∧
     Hid (vf (sh f' o) (k+i)-cc*pw (k+i)=vf (sh f o) (k+i)-vf (ext h k) (k+i))) (fun _ t _=>d-(intOf t).toNat)
    case atStart=>exact ⟨0,cc,f',by omega,rfl,rfl,c0,c1,hon,hbl,HL.out,HE.out,HV.out⟩
    case round =>
     clear HV HE HL hbl hon c0 c1;obtain ⟨i,cc,f',hi,rfl,rfl,c0,c1,hon,hbl,HL,HE,HV⟩:=hrel;by_cases hlt:i<d
     ·by_cases hc:cc=0
      ·subst hc;go_wp2;refine bodyPost_ret (v:=.tuple #[]) (results_none rfl _ _ _) rfl ⟨rfl,hon,f',hbl,HL.out,fun j hj=>HE.out j (by omega),?_⟩;have hv:=HV.out;obtain ⟨e,rfl⟩:=Nat.exists_eq_add_of_le (show i≤d by omega);rw [vf_ext_list h k (k+i) (by omega)] at hv;rw [←Nat.add_assoc,vf_split,vf_split (sh f o),sh_sh,sh_sh,vf_congr (f:=sh f' (o+(k+i))) (g:=sh f (o+(k+i))) (fun j hj=>HE.out _ (by omega))];omega
      ·have hc1:(cc==0)=false:=by simp [hc]
       obtain ⟨x,hx⟩:∃x,f' (o+k+i)=x:=⟨_,rfl⟩;have hcell:wr.cell? ⟨g,o+k+i,none⟩=some (.int .u64 x):=by rw [←hx];exact hbl.cell (by omega)
       have hfz:=hbl.frozen (o+k+i);have hx01:=HL.out (o+k+i) (by omega);rw [hx] at hx01;obtain ⟨x0,x1⟩:=hx01;have HX:=hid hx;clear hx;go_wp2_with (simp only [sub64_0 x cc x0 c0 (Int.lt_of_le_of_lt c1 (by decide))])
       go_roundw
       case rel =>
        refine ⟨i+1,_,upd f' (o+k+i) ((x-cc)%18446744073709551616),by omega,by go_num,rfl,(bor_01 _ _).1,(bor_01 _ _).2,hon.setCell _ _ _,hbl.set _ _,HL.out.upd (by omega),?_,?_⟩
        ·intro j hj;rw [upd_other _ _ _ _ (by omega)];exact HE.out j (by omega)
        ·have e1:=sub_limb (y:=0) x0 x1 (by omega) (by omega) c0 c1;have:=borrow_step (y:=0) (v:=(x-cc)%18446744073709551616) (c':=bor x cc) HV.out (HE.out _ (by omega)) (ext_out h k _ (by omega)) (by rw [←Nat.add_assoc,HX.out];simpa using e1);rw [←Nat.add_assoc] at this;exact this
       case measure=>simp [intOf];omega
     ·have hid:i=d:=by omega
      subst hid;go_wp2;refine bodyPost_end (v:=.tuple #[]) (results_none rfl _ _ _) rfl ⟨rfl,hon,f',hbl,HL.out,HE.out,?_⟩;have hv:=HV.out;rw [vf_ext_list h k (k+i) (by omega)] at hv;have h0:=vf_lt (HL.out.sh (o:=o) (m:=k+i) (by omega));have h1:=HR.out;by_cases hc:cc=0
      ·subst hc;simpa using hv
      ·obtain rfl:cc=1:=by omega
       omega
theorem addr_add (b o j:Nat):(⟨b,o,none⟩:Addr).add j=⟨b,o+j,none⟩:=by
 by_cases h:j=0
 ·subst h;simp [Addr.add]
 ·simp [Addr.add,h]
def lst (k:IntKind) (f:Nat→Int) (n:Nat):List Value:=(List.range n).map (fun j=>Value.int k (f j))
theorem lst_length (k:IntKind) (f:Nat→Int) (n:Nat):(lst k f n).length=n:=by simp [lst]
theorem lst_get (k:IntKind) (f:Nat→Int) (n j:Nat) (hj:j<n):(lst k f n)[j]?=some (.int k (f j)):=by simp [lst,hj]
theorem lst_getE {k:IntKind} {f:Nat→Int} {n j:Nat} {u:Value} (h:(lst k f n)[j]?=some u):j<n∧u=.int k (f j):=by
 have hj:j<n:=by
  have:=(List.getElem?_eq_some_iff.1 h).1
  rwa [lst_length] at this
 rw [lst_get k f n j hj] at h;exact ⟨hj,(Option.some.inj h).symm⟩
theorem lst_one (k:IntKind) (f:Nat→Int) (n:Nat):∀u ∈ lst k f n,u.oneCell'=true:=by
 intro u hu;simp only [lst,List.mem_map] at hu;obtain ⟨j,_,rfl⟩:=hu;rfl
theorem lst_congr {k:IntKind} {f g:Nat→Int} {n:Nat} (h:∀j,j<n→f j=g j):lst k f n=lst k g n:=by
 simp only [lst];refine List.map_congr_left (fun j hj=>?_);rw [h j (List.mem_range.1 hj)]
def cat (f:Nat→Int) (n:Nat) (g:Nat→Int):Nat→Int:=fun j=>if j<n then f j else g (j-n)
theorem cat_in {f g:Nat→Int} {n j:Nat} (h:j<n):cat f n g j=f j:=by simp [cat,h]
theorem cat_out {f g:Nat→Int} {n j:Nat} (h:n≤j):cat f n g j=g (j-n):=by simp [cat];omega
theorem lst_cat (k:IntKind) (f g:Nat→Int) (n m:Nat):lst k f n++lst k g m=lst k (cat f n g) (n+m):=by
 apply List.ext_getElem?;intro j;by_cases h1:j<n
 ·rw [List.getElem?_append_left (by rw [lst_length];exact h1),lst_get _ _ _ _ h1,lst_get _ _ _ _ (by omega),cat_in h1]
 ·by_cases h2:j<n+m
  ·rw [List.getElem?_append_right (by rw [lst_length];omega),lst_length,lst_get _ _ _ _ (by omega),lst_get _ _ _ _ h2,cat_out (by omega)]
  ·rw [List.getElem?_eq_none (by simp [lst_length];omega),List.getElem?_eq_none (by simp [lst_length];omega)]
def Own (k:IntKind) (e:TypeId) (w:World) (base:Nat) (v:Value) (n:Nat) (f:Nat→Int):Prop:=w.ownsRow base e 1 v n (lst k f n)
theorem own_nil (k:IntKind) (e:TypeId) (w:World) (base:Nat) (f:Nat→Int):Own k e w base (.slice none 0 0) 0 f:=World.ownsRow_nil _ _ _ _
theorem Own.shape {k e w base v n f} (h:Own k e w base v n f):∃ao cap,v=.slice ao n cap∧n≤cap∧(ao=none→cap=0)∧cap≤maxLen∧Rd k w ao n f∧(∀a,ao=some a→base≤a.block∧a.block<w.heap.size):=by
 obtain ⟨h1,h2⟩:=h;rcases h2 with ⟨rfl,rfl⟩ | ⟨g,cap,cur,rfl,hb,hg,hn,hm,hs,ht⟩
 ·exact ⟨none,0,rfl,Nat.le_refl _,fun _=>rfl,by simp [maxLen],Rd.zero,fun a ha=>by cases ha⟩
 ·refine ⟨_,cap,rfl,hn,(fun h=>by cases h),hm,Rd.mk (fun j hj=>?_),fun a ha=>?_⟩
  ·have e1:(lst k f n)[j]?=cur.toList[j]?:=by
    rw [←ht,List.getElem?_take,if_pos (by omega)]
   rw [lst_get k f n j hj] at e1;rw [Nat.zero_add];simp [World.cell?,hg];simpa using e1.symm
  ·cases ha
   exact ⟨hb,(Array.getElem?_eq_some_iff.1 hg).1⟩
theorem Own.below {k e w w' base v n f} (h:Own k e w base v n f) (hb:Below w.heap.size w w'):Own k e w' base v n f :=
 World.ownsRow.kept h ⟨hb.os,hb.tape,hb.output,hb.size,fun k hk _=>hb.block k hk⟩ (row:=none) (by
  cases hv:v.ownBlock with
  | none=>exact .inl rfl
  | some x=>exact .inr (by simp))
theorem Own.alloc {k e w base v n f} (h:Own k e w base v n f) (o:Obj):Own k e (w.alloc o) base v n f:=World.ownsRow.alloc h o
theorem Own.ge {k e w base v n f} (h:Own k e w base v n f):∀g,v.ownBlock=some g→base≤g:=fun g hg=>(World.ownsRow.lt h g hg).1
theorem Own.congr {k e w base v n f g} (h:Own k e w base v n f) (he:∀j,j<n→f j=g j):Own k e w base v n g:=by
 unfold Own at h ⊢;rw [←lst_congr he];exact h
theorem own_of_blk {k e w g N f} (h:Blk k e w g N f) {base n:Nat} (hb:base≤g) (hn:n≤N) (hm:N≤maxLen):Own k e w base (.slice (some ⟨g,0,none⟩) n N) n f:=by
 obtain ⟨arr,h1,h2,h3⟩:=h;refine ⟨by rw [lst_length];omega,.inr ⟨g,N,arr,rfl,hb,h1,hn,hm,by omega,?_⟩⟩;apply List.ext_getElem?;intro j;by_cases hj:j<n
 ·rw [List.getElem?_take,if_pos (by omega),lst_get _ _ _ _ hj];simpa using h3 j (by omega)
 ·rw [List.getElem?_eq_none (by simp;omega),List.getElem?_eq_none (by rw [lst_length];omega)]
theorem rd_new1 (w:World) (e:TypeId) (x:Int):Rd .u64 (w.alloc (.cells #[.int .u64 x] e)) (some ⟨w.heap.size,0,none⟩) 1 (fun _=>x) :=
 Rd.mk (fun j hj=>by
  rw [Nat.zero_add,World.cell?_alloc_new];obtain rfl:j=0:=by omega
  rfl)
theorem wpList_make_blk {P:Program} (k:IntKind) (w:World) {ops:Array Oper} {rest:List Oper} {o:Oper} {a:Act} {Q:Exit→Act→World→Prop}
  (hg:o.guard=none) (l c:Operand) (t:TypeId) (hop:o.op=Op.makeSlice t l c)
  (e:TypeId) (bytes:Nat) (h1:P.underlying t=some (.slice e)) (h2:(P.info? e).map (fun i=>(i.zero,i.size,i.bytes))=some (some (.int k 0),1,bytes))
  (kl kc:IntKind) (L C:Int) (n:Nat) (hl:a.eval l=.int kl L) (hc:a.eval c=.int kc C) (hL:L=(n:Int)) (hC:C=(n:Int)) (b2:bytes*n≤281474976710656) (b3:n≤maxLen)
  (hK:∀w',Blk k e w' w.heap.size n (fun _=>0)→Below w.heap.size w w'→wpList P ops Q rest (a.put o.dst (.slice (some ⟨w.heap.size,0,none⟩) n n)) w') :
  wpList P ops Q (o :: rest) a w:=by
 obtain ⟨i,hi,hz0,hz1,hz2⟩:=info_parts h2;refine wpList_make_full w hg l c t hop w.heap.size e i (.int k 0) 1 h1 hi hz0 hz1 kl kc L C n hl hc hL hC (by rw [hz2];exact b2) b3 (Nat.le_refl _) ?_;intro w' hown hgr;refine hK w' ?_ ((Below.refl _ _).grown hgr (Nat.le_refl _) (fun k h=>by cases h));obtain ⟨h1,h2⟩:=hown;have hm:(madeCells (Value.int k 0).cells (n*1)).toList=lst k (fun _=>0) n:=by
  show (madeCells #[Value.int k 0] (n*1)).toList=_;rw [toList_madeCells_one,Nat.mul_one];apply List.ext_getElem?;intro j;by_cases hj:j<n
  ·rw [lst_get _ _ _ _ hj,List.getElem?_replicate,if_pos hj]
  ·rw [List.getElem?_eq_none (by simp;omega),List.getElem?_eq_none (by rw [lst_length];omega)]
 rcases h2 with ⟨hv,_⟩ | ⟨g,cap,cur,hv,hb,hg,hn,hm2,hs,ht⟩
 ·cases hv
 ·cases hv
  refine ⟨cur,hg,by omega,fun j hj=>?_⟩;rw [hm] at ht;have:cur.toList[j]?=(lst k (fun _=>0) n)[j]?:=by rw [←ht,List.getElem?_take,if_pos (by omega)]
  rw [lst_get _ _ _ _ hj] at this;simpa using this
def put (f:Nat→Int) (off n:Nat) (h:Nat→Int):Nat→Int:=fun j=>if off≤j∧j<off+n then h (j-off) else f j
theorem put_in {f h:Nat→Int} {off n j:Nat} (h1:off≤j) (h2:j<off+n):put f off n h j=h (j-off):=by simp [put,h1,h2]
theorem put_out {f h:Nat→Int} {off n j:Nat} (h1:j<off∨off+n≤j):put f off n h j=f j:=by
 unfold put;rw [if_neg (by omega)]
theorem setRow_blk {k e w g N f off n h} (hb:Blk k e w g N f) (hfit:off+n≤N) {cur:Array Value} {t fr} (hc:w.heap[g]?=some (.cells cur t fr)) :
  Blk k e (w.setRow g (cur.toList.take off++(lst k h n++cur.toList.drop (off+(lst k h n).length))).toArray) g N (put f off n h):=by
 obtain ⟨arr,h1,h2,h3⟩:=hb;rw [h1] at hc;obtain rfl:arr=cur:=by simpa using congrArg (fun o=>match o with | some (Obj.cells c _ _)=>c | _=>#[]) hc
 refine ⟨_,setRow_heap w g _ _ _ _ h1,by simp [lst_length,h2];omega,fun j hj=>?_⟩;rw [List.getElem?_toArray];by_cases a1:j<off
 ·rw [List.getElem?_append_left (by simp;omega),List.getElem?_take,if_pos a1,put_out (.inl a1)];simpa using h3 j hj
 ·rw [List.getElem?_append_right (by simp;omega)];have e1:(List.take off arr.toList).length=off:=by simp;omega
  rw [e1];by_cases a2:j<off+n
  ·rw [List.getElem?_append_left (by rw [lst_length];omega),lst_get _ _ _ _ (by omega),put_in (by omega) a2]
  ·rw [List.getElem?_append_right (by rw [lst_length];omega),lst_length,List.getElem?_drop,put_out (by omega)];have e2:off+n+(j-off-n)=j:=by omega
   rw [e2];simpa using h3 j hj
theorem wpList_copy_blk {P:Program} (k:IntKind) (w:World) {ops:Array Oper} {rest:List Oper} {o:Oper} {a:Act} {Q:Exit→Act→World→Prop} (hgd:o.guard=none) (d s:Operand) (dT sT:TypeId)
  (ho:o.op=.call { callee:=.builtin .copy,args:=#[d,s],argTypes:=#[dT,sT] }) (e:TypeId) (hu:P.underlying dT=some (.slice e)) (hsz:(P.info? e).map (·.size)=some 1)
  (g off N:Nat) (f:Nat→Int) (sp:Option Addr) (dLen dCap sLen sCap n:Nat) (h:Nat→Int) (hd:a.eval d=.slice (some ⟨g,off,none⟩) dLen dCap) (hs:a.eval s=.slice sp sLen sCap)
  (hb:Blk k e w g N f) (hr:Rd k w sp sLen h) (hn:n=Nat.min sLen dLen) (hfit:off+n≤N)
  (hK:∀w',Blk k e w' g N (put f off n h)→Only g w w'→wpList P ops Q rest (a.put o.dst (goInt n)) w'):wpList P ops Q (o :: rest) a w:=by
 by_cases h0:n=0
 ·subst h0;refine wpList_copy_nothing hgd d s dT sT ho e hu hsz _ sp dLen dCap sLen sCap hd hs hn.symm ?_;exact hK w (hb.congr (fun j _=>(put_out (by omega)).symm)) (Only.refl _ _)
 ·have hs1:Nat.min sLen dLen≤sLen:=Nat.min_le_left _ _;obtain ⟨b,ob,rfl⟩:=hr.at (by omega);obtain ⟨cur,hg,hcs,hcc⟩:=id hb;refine wpList_copy_own hgd d s dT sT ho e hu hsz g off dLen dCap ⟨b,ob,none⟩ sLen sCap hd hs cur e hg (lst k h n) (by rw [lst_length];exact hn) ?_ (by rw [lst_length];omega) (lst_one k h n) ?_
  ·intro j v hv;obtain ⟨hj,rfl⟩:=lst_getE hv;have:=hr.cell (j:=j) (by omega);rw [addr_add];exact this
  ·rw [lst_length];have:=hK _ (setRow_blk (h:=h) hb hfit hg) ⟨rfl,rfl,rfl,by simp [World.setRow],fun k _ hk=>setRow_other w g k _ hk⟩;rw [lst_length] at this;exact this
theorem wpList_append_own_list {P:Program} (k:IntKind) (w:World) {ops:Array Oper} {rest:List Oper} {o:Oper} {a:Act} {Q:Exit→Act→World→Prop} (hgd:o.guard=none) (s x:Operand) (t:TypeId)
  (ho:o.op=.call { callee:=.builtin .append,args:=#[s,x],argTypes:=#[t,t] })
  (base:Nat) (e:TypeId) (bytes:Nat) (ht:P.underlying t=some (.slice e)) (h2:(P.info? e).map (fun i=>(i.zero,i.size,i.bytes))=some (some (.int k 0),1,bytes))
  (v:Value) (n:Nat) (f:Nat→Int) (hs:a.eval s=v) (hown:Own k e w base v n f)
  (b ob m c:Nat) (h:Nat→Int) (hx:a.eval x=.slice (some ⟨b,ob,none⟩) m c) (hr:Rd k w (some ⟨b,ob,none⟩) m h)
  (h63:n+m≤maxLen) (hbytes:(n+m)*bytes≤140737488355328) (hbase:base≤w.heap.size)
  (hK:∀v' w',Own k e w' base v' (n+m) (cat f n h)→w.grownBy w' v.ownBlock→wpList P ops Q rest (a.put o.dst v') w'):wpList P ops Q (o :: rest) a w:=by
 obtain ⟨i,hi,hz0,hz1,hz2⟩:=info_parts h2;refine wpList_append_own w hgd s x t ho base e i (.int k 0) 1 bytes ht hi hz0 hz1 hz2 rfl (by decide) v n (lst k f n) hs hown ⟨b,ob,none⟩ m c (lst k h m) hx (by rw [lst_length,Nat.mul_one]) ?_ (lst_one k h m) h63 hbytes hbase ?_
 ·intro j u hu;obtain ⟨hj,rfl⟩:=lst_getE hu;have:=hr.cell hj;rw [addr_add];exact this
 ·intro v' w' h1 h2 _;rw [lst_cat] at h1;exact hK v' w' h1 h2
theorem Tryz.infoU64:(Tryz.prog.info? 145).map (fun i=>(i.zero,i.size,i.bytes))=some (some (.int .u64 0),1,8):=by kernel_rfl
theorem Tryz.sizeU64:(Tryz.prog.info? 145).map (·.size)=some 1:=by kernel_rfl
structure Res (C:Nat) (w w':World) (ao:Option Addr) (n cap:Nat) (f:Nat→Int):Prop where
 bel:Below w.heap.size w w'
 own:(ao=none∧n=0∧cap=0)∨(∃g,ao=some ⟨g,0,none⟩∧w.heap.size≤g∧0<n∧n≤cap∧cap≤C∧Blk .u64 145 w' g cap f)
 lmc:Lm f cap
 fm:Fm f n
theorem Res.rd {C w w' ao n cap f} (h:Res C w w' ao n cap f):Rd .u64 w' ao n f:=by
 rcases h.own with ⟨rfl,rfl,rfl⟩ | ⟨g,rfl,_,_,hn,_,hb⟩
 ·exact Rd.zero
 ·exact hb.rd0 hn
theorem Res.und {C w w' ao n cap f} (h:Res C w w' ao n cap f):Und ao w'.heap.size:=by
 rcases h.own with ⟨rfl,rfl,rfl⟩ | ⟨g,rfl,_,_,hn,_,hb⟩
 ·exact und_none _
 ·exact und_some hb.lt
theorem Res.off {C w w' ao n cap f} (h:Res C w w' ao n cap f) {g:Nat} (hg:g<w.heap.size):Off ao g:=by
 rcases h.own with ⟨rfl,rfl,rfl⟩ | ⟨g',rfl,h1,_,hn,_,hb⟩
 ·exact off_none _
 ·exact off_some (by omega)
theorem Res.le {C w w' ao n cap f} (h:Res C w w' ao n cap f):n≤C:=by
 rcases h.own with ⟨rfl,rfl,rfl⟩ | ⟨g',rfl,h1,_,hn,_,hb⟩ <;> omega
theorem Res.ncap {C w w' ao n cap f} (h:Res C w w' ao n cap f):n≤cap∧cap≤C:=by
 rcases h.own with ⟨rfl,rfl,rfl⟩ | ⟨g',rfl,h1,_,hn,_,hb⟩ <;> omega
theorem Res.lm {C w w' ao n cap f} (h:Res C w w' ao n cap f):Lm f n:=h.lmc.mono h.ncap.1
theorem Res.nil {C:Nat} {w w':World} (f:Nat→Int) (h:Below w.heap.size w w'):Res C w w' none 0 0 f:=⟨h,.inl ⟨rfl,rfl,rfl⟩,fun j hj=>by omega,.inl rfl⟩
theorem Res.mono {C C' w w' ao n cap f} (h:Res C w w' ao n cap f) (hC:C≤C'):Res C' w w' ao n cap f :=
 ⟨h.bel,h.own.imp id (fun ⟨g,a,b,c,d,e,f⟩=>⟨g,a,b,c,d,by omega,f⟩),h.lmc,h.fm⟩
theorem Res.ahead {C w0 w w' ao n cap f} (h:Res C w w' ao n cap f) (hb:Below w0.heap.size w0 w):Res C w0 w' ao n cap f :=
 ⟨hb.trans (h.bel.mono hb.size),h.own.imp id (fun ⟨g,a,b,c,d,e,f⟩=>⟨g,a,by have:=hb.size;omega,c,d,e,f⟩),h.lmc,h.fm⟩
theorem Res.later {C w w' w'' ao n cap f} (h:Res C w w' ao n cap f) (hb:Below w'.heap.size w' w''):Res C w w'' ao n cap f :=
 ⟨h.bel.trans (hb.mono h.bel.size),h.own.imp id (fun ⟨g,a,b,c,d,e,f⟩=>⟨g,a,b,c,d,e,f.below hb f.lt⟩),h.lmc,h.fm⟩
theorem below_drewN {B:Nat} {a w:World} (h:Below B a w) (q:Nat):Below B a (w.drewN q):=⟨h.os,h.tape,h.output,h.size,h.block⟩
set_option maxRecDepth 100000 in
set_option maxHeartbeats 400000 in
theorem padded_c (ao:Option Addr) (n cap m:Nat) (z:Int) (f:Nat→Int) (w:World) (hz:z=m) (hnm:n≤m) (hm:m≤17592186044416) (hr:Rd .u64 w ao n f) :
  Calls Tryz.prog 180 #[.slice ao n cap,.int .i64 z] w fun e w'=>e=.returned (.slice (some ⟨w.heap.size,0,none⟩) m m)∧Below w.heap.size w w'∧Blk .u64 145 w' w.heap.size m (ext f n):=by
 subst hz;go_enter Tryz.func180,Tryz.ntmps180;go_wp2_with (first | (at_make;refine wpList_make_blk .u64 w rfl (.tmp 6) (.tmp 6) 22 rfl 145 8 Tryz.underlying22 Tryz.infoU64 .i64 .i64 m m m rfl rfl rfl rfl (by omega) (by unfold maxLen;omega) ?_;intro w1 hb1 hbel1) | (refine wpList_copy_blk .u64 w1 rfl (.tmp 8) (.tmp 9) 22 22 rfl 145 Tryz.underlying22 Tryz.sizeU64 w.heap.size 0 m (fun _=>0) ao m m n cap n f rfl rfl hb1 (hr.below hbel1 (Nat.le_refl _)) (Nat.min_eq_left hnm).symm (by omega) ?_;intro w2 hb2 hon2))
 go_ret;refine ⟨rfl,below_only hbel1 hon2 (Nat.le_refl _) hbel1.size,hb2.congr (fun j hj=>?_)⟩;by_cases h:j<n
 ·rw [put_in (by omega) (by omega),ext_in _ _ _ h];rfl
 ·rw [put_out (by omega),ext_out _ _ _ (by omega)]
theorem trim_res (g N n:Nat) (f:Nat→Int) (w0 w:World) (hbel:Below w0.heap.size w0 w) (hg:w0.heap.size≤g) (hb:Blk .u64 145 w g N f) (hn:n≤N) (hN:N≤140737488355328) (hf:Lm f N) :
  Calls Tryz.prog 169 #[.slice (some ⟨g,0,none⟩) n N] w fun e w'=>w'=w∧∃ao' m cap',e=.returned (.slice ao' m cap')∧Res N w0 w ao' m cap' f∧m≤n∧vf f m=vf f n:=by
 refine (trim_c _ n N f w hn hN (hb.rd0 hn)).mono ?_;rintro e w2 ⟨rfl,m,hmn,hz,he⟩;refine ⟨rfl,?_⟩;have hv:vf f m=vf f n:=trim_val hmn hz;rcases he with ⟨rfl,rfl⟩ | ⟨hm0,hne,rfl⟩
 ·exact ⟨none,0,0,rfl,Res.nil f hbel,hmn,hv⟩
 ·exact ⟨_,m,N,rfl,⟨hbel,.inr ⟨g,rfl,hg,hm0,by omega,Nat.le_refl _,hb⟩,hf,.inr hne⟩,hmn,hv⟩
set_option maxHeartbeats 400000 in
theorem clone_c (ao:Option Addr) (n cap:Nat) (f:Nat→Int) (w:World) (hm:n≤17592186044416) (hr:Rd .u64 w ao n f) (hf:Lm f n) :
  Calls Tryz.prog 165 #[.slice ao n cap] w fun e w'=>∃ao' m cap',e=.returned (.slice ao' m cap')∧Res n w w' ao' m cap' f∧m≤n∧vf f m=vf f n:=by
 have HF:=(show Hid (Lm f n) from hf);clear hf;go_enter Tryz.func165,Tryz.ntmps165;go_wp2_with fail
 refine (padded_c ao n cap n _ f w rfl (Nat.le_refl _) hm hr).mono ?_;rintro e w1 ⟨rfl,hbel,hb⟩;go_wp2_with fail
 refine (trim_res w.heap.size n n f w w1 hbel (Nat.le_refl _) (hb.congr (fun j hj=>ext_in _ _ _ hj)) (Nat.le_refl _) (by omega) HF.out).mono ?_;rintro e w2 ⟨rfl,ao',m,cap',rfl,hres,hmn,hv⟩;have HV:=hid hv;clear hv;go_wp2;go_ret;exact ⟨ao',m,cap',rfl,hres,hmn,HV.out⟩
set_option maxHeartbeats 400000 in
theorem fromWord_c (x : Int) (w : World) (x0 : 0 ≤ x) (x1 : x < 18446744073709551616) :
    Calls Tryz.prog 166 #[.int .u64 x] w fun e w' => ∃ ao' m cap' f, e = .returned (.slice ao' m cap') ∧ Res 1 w w' ao' m cap' f ∧ vf f m = x := by
  have hb : Blk .u64 145 (w.alloc (.cells #[.int .u64 x] 145)) w.heap.size 1 (fun _ => x) := ⟨#[.int .u64 x], heap_alloc_new w _, rfl, fun j hj => by have h0 : j = 0 := (by omega); subst h0; rfl⟩
  go_enter Tryz.func166, Tryz.ntmps166
  go_wp2_with fail
  refine (trim_res w.heap.size 1 1 (fun _ => x) w _ ((Below.refl _ _).alloc (Nat.le_refl _) _) (Nat.le_refl _) hb (Nat.le_refl _) (by decide) (fun j hj => ⟨x0, x1⟩)).mono ?_
  rintro e w1 ⟨rfl, ao, m, cap, rfl, hres, hmn, hv⟩
  go_wp2
  go_ret
  exact ⟨ao, m, cap, _, rfl, hres, by rw [hv]; simp [vf, pw]⟩
set_option maxHeartbeats 800000 in
theorem add_c (ao bo:Option Addr) (n m ca cb:Nat) (f h:Nat→Int) (w:World) (hn:n≤8796093022208) (hm:m≤8796093022208) (hr:Rd .u64 w ao n f) (hs:Rd .u64 w bo m h) (hf:Lm f n) (hh:Lm h m) :
  Calls Tryz.prog 185 #[.slice ao n ca,.slice bo m cb] w fun e w'=>∃ao' k cap' f',e=.returned (.slice ao' k cap')∧Res (max n m+1) w w' ao' k cap' f'∧vf f' k=vf f n+vf h m:=by
 obtain ⟨M,hM⟩:∃M,M=max n m:=⟨_,rfl⟩;rw [←hM];have hnM:n≤M:=by omega
 have hmM:m≤M:=by omega
 have hM2:M≤8796093022208:=by omega
 have HM:=hid hM;clear hM;have HF:=(show Hid (Lm f n) from hf);have HH:=(show Hid (Lm h m) from hh);clear hf hh;have hl:Lm (ext f n) (M+1):=fun j hj=>by
  by_cases hjn:j<n
  ·rw [ext_in _ _ _ hjn];exact HF.out j hjn
  ·rw [ext_out _ _ _ (by omega)];omega
 have hroom:vf (sh (ext f n) 0) (M+1)+vf h m<pw (M+1):=by
  rw [sh_zero,vf_ext_list _ _ _ (by omega),pw_succ];have h1:=vf_lt HF.out;have h2:=vf_lt HH.out;have h3:=pw_mono hnM;have h4:=pw_mono hmM;have h5:=pw_pos M;omega
 have HL:=hid hl;have HRm:=hid hroom;clear hl hroom;by_cases hlt:n<m
 all_goals
  go_enter Tryz.func185,Tryz.ntmps185;go_wp2_with fail
  refine (padded_c ao n ca (M+1) _ f w (by have:=HM.out;omega) (by omega) (by omega) hr).mono ?_;rintro e w1 ⟨rfl,hbel,hb⟩;go_wp2_with fail
  refine (addTo_c w.heap.size 0 (M+1) (M+1) (M+1) (ext f n) bo m cb h w1 hb HL.out (by omega) (by omega) (hs.below hbel (Nat.le_refl _)) HH.out ?off (by omega) (Nat.le_refl _) (by omega) HRm.out).mono ?_
  case off=>exact fun hm0=>(hs.und hm0).off (Nat.le_refl _)
  rintro e w2 ⟨rfl,hon,f2,hb2,hl2,he2,hv2⟩;have HV2:=hid hv2;clear hv2;go_wp2_with fail
  refine (trim_res w.heap.size (M+1) (M+1) f2 w w2 (below_only hbel hon (Nat.le_refl _) hbel.size) (Nat.le_refl _) hb2 (Nat.le_refl _) (by omega) hl2).mono ?_;rintro e w3 ⟨rfl,ao,k,cap,rfl,hres,hkn,hv⟩;have HV3:=hid hv;clear hv;go_wp2;go_ret;refine ⟨ao,k,cap,f2,rfl,hres,?_⟩;have a1:=HV2.out;have a2:=HV3.out;rw [sh_zero,sh_zero,vf_ext_list _ _ _ (by omega)] at a1;rw [a2,a1]
theorem subFrom_nil (bo:Option Addr) (cb:Nat) (w:World):Calls Tryz.prog 200 #[.slice none 0 0,.slice bo 0 cb] w fun e w'=>e=.returned (.tuple #[])∧w'=w:=by
 go_enter Tryz.func200,Tryz.ntmps200;go_wp2;refine wp_loop_rounds 1 ?_;rw [rounds_succ];go_wp2;refine wp_loop_rounds 1 ?_;rw [rounds_succ];go_wp2;exact bodyPost_end (v:=.tuple #[]) (results_none rfl _ _ _) rfl ⟨rfl,rfl⟩
theorem trim_nil (w:World):Calls Tryz.prog 169 #[.slice none 0 0] w fun e w'=>e=.returned (.slice none 0 0)∧w'=w :=
 (trim_c none 0 0 (fun _=>0) w (by omega) (by omega) Rd.zero).mono (fun e w' ⟨h1,m,h2,_,h3⟩=>⟨by rcases h3 with h | h;exact h.2;omega,h1⟩)
set_option maxHeartbeats 800000 in
theorem sub_c (ao bo:Option Addr) (n m ca cb:Nat) (f h:Nat→Int) (w:World) (hn:n≤8796093022208) (hr:Rd .u64 w ao n f) (hs:Rd .u64 w bo m h) (hf:Lm f n) (hh:Lm h m) (fh:Fm h m) (hle:vf h m≤vf f n) :
  Calls Tryz.prog 186 #[.slice ao n ca,.slice bo m cb] w fun e w'=>∃ao' k cap' f',e=.returned (.slice ao' k cap')∧Res n w w' ao' k cap' f'∧vf f' k=vf f n-vf h m:=by
 have HF:=(show Hid (Lm f n) from hf);have HH:=(show Hid (Lm h m) from hh);have FH:=(show Hid (Fm h m) from fh);have HLe:=hid hle;clear hf hh fh hle;go_enter Tryz.func186,Tryz.ntmps186;go_wp2_with fail
 refine (clone_c ao n ca f w (by omega) hr HF.out).mono ?_;rintro e w1 ⟨ao1,k,c1,rfl,hres,hkn,hv⟩;have HV:=hid hv;clear hv;have hmk:m≤k:=vf_len HH.out hres.lm FH.out (by rw [HV.out];exact HLe.out);rcases hres.own with ⟨rfl,rfl,rfl⟩ | ⟨g,rfl,hg,hk0,hkc,hcn,hb⟩
 ·obtain rfl:m=0:=by omega
  go_wp2_with fail
  refine (subFrom_nil _ _ _).mono ?_;rintro e w2 ⟨rfl,rfl⟩;go_wp2_with fail
  refine (trim_nil _).mono ?_;rintro e w2 ⟨rfl,rfl⟩;go_wp2;go_ret;refine ⟨none,0,0,f,rfl,Res.nil f hres.bel,?_⟩;rw [←HV.out];simp [vf]
 ·have HRes:=hid hres;clear hres;go_wp2_with fail
  refine (subFrom_c g 0 k c1 c1 f bo m cb h w1 hb HRes.out.lmc (by omega) (by omega) (hs.below HRes.out.bel (Nat.le_refl _)) HH.out (fun h0=>(hs.und h0).off hg) hmk hkc (by omega) (by rw [sh_zero,HV.out];exact HLe.out)).mono ?_;rintro e w2 ⟨rfl,hon,f2,hb2,hl2,he2,hv2⟩;have HV2:=hid hv2;clear hv2;go_wp2_with fail
  refine (trim_res g c1 k f2 w w2 (below_only HRes.out.bel hon hg HRes.out.bel.size) hg hb2 hkc (by omega) hl2).mono ?_;rintro e w3 ⟨rfl,ao,k',cap,rfl,hres,hkn',hv⟩;have HV3:=hid hv;clear hv;go_wp2;go_ret;refine ⟨ao,k',cap,f2,rfl,hres.mono hcn,?_⟩;have a1:=HV2.out;rw [sh_zero,sh_zero,HV.out] at a1;rw [HV3.out,a1]
theorem fm_of {f:Nat→Int} {n:Nat} (h:fmB f n=true):Fm f n:=(fmB_iff f n).1 h
theorem nfm_of {f:Nat→Int} {n:Nat} (h:fmB f n=false):¬Fm f n:=fun hf=>by rw [(fmB_iff f n).2 hf] at h;cases h
set_option maxHeartbeats 800000 in
theorem Add_c (ao bo:Option Addr) (n m ca cb:Nat) (f h:Nat→Int) (w:World) (hn:n≤8796093022208) (hm:m≤8796093022208) (hr:Rd .u64 w ao n f) (hs:Rd .u64 w bo m h) (hf:Lm f n) (hh:Lm h m) :
  Calls Tryz.prog 172 #[.slice ao n ca,.slice bo m cb] w fun e w'=>∃ao' k cap' f' er,e=.returned (.tuple #[.slice ao' k cap',.int .i64 er])∧Res (max n m+1) w w' ao' k cap' f' ∧
   (Fm f n∧Fm h m∧er=0∧vf f' k=vf f n+vf h m∨¬(Fm f n∧Fm h m)∧er=3∧k=0):=by
 have HF:=(show Hid (Lm f n) from hf);have HH:=(show Hid (Lm h m) from hh);clear hf hh;cases hfa:fmB f n
 ·have c1:=fun w' hr'=>form_c ao n ca f w' (by omega) hr'
  rw [hfa] at c1;have HN:=hid (nfm_of hfa);have C1:=hid c1;clear c1 hfa;go_enter Tryz.func172,Tryz.ntmps172;go_wp2_with (go_at_call 103;refine (C1.out _ hr).mono ?_;rintro e w' ⟨rfl,rfl⟩)
  go_ret2
  exact ⟨_,_,_,f,_,rfl,Res.nil f (Below.refl _ _),.inr ⟨fun x=>HN.out x.1,rfl,rfl⟩⟩
 ·have c1:=fun w' hr'=>form_c ao n ca f w' (by omega) hr'
  rw [hfa] at c1;have FA:=hid (fm_of hfa);have C1:=hid c1;clear c1 hfa;cases hfb:fmB h m
  ·have c2:=fun w' hr'=>form_c bo m cb h w' (by omega) hr'
   rw [hfb] at c2;have HN:=hid (nfm_of hfb);have C2:=hid c2;clear c2 hfb;go_enter Tryz.func172,Tryz.ntmps172;go_wp2_with fail
   refine (C1.out _ hr).mono ?_;rintro e w' ⟨rfl,rfl⟩;go_wp2_with fail
   refine (C2.out _ hs).mono ?_;rintro e w' ⟨rfl,rfl⟩;go_wp2
   go_ret2
   exact ⟨_,_,_,f,_,rfl,Res.nil f (Below.refl _ _),.inr ⟨fun x=>HN.out x.2,rfl,rfl⟩⟩
  ·have c2:=fun w' hr'=>form_c bo m cb h w' (by omega) hr'
   rw [hfb] at c2;have FB:=hid (fm_of hfb);have C2:=hid c2;clear c2 hfb;go_enter Tryz.func172,Tryz.ntmps172;go_wp2_with fail
   refine (C1.out _ hr).mono ?_;rintro e w' ⟨rfl,rfl⟩;go_wp2_with fail
   refine (C2.out _ hs).mono ?_;rintro e w' ⟨rfl,rfl⟩;go_wp2_with fail
   refine (add_c ao bo n m ca cb f h _ hn hm hr hs HF.out HH.out).mono ?_;rintro e w' ⟨ao',k,cap',f',rfl,hres,hv⟩;have HV:=hid hv;clear hv;go_wp2
   go_ret2
   exact ⟨_,_,_,f',_,rfl,hres,.inl ⟨FA.out,FB.out,rfl,HV.out⟩⟩
set_option maxHeartbeats 800000 in
theorem Cmp_c (ao bo:Option Addr) (n m ca cb:Nat) (f h:Nat→Int) (w:World) (hn:n≤8796093022208) (hm:m≤8796093022208) (hr:Rd .u64 w ao n f) (hs:Rd .u64 w bo m h) (hf:Lm f n) (hh:Lm h m) :
  Calls Tryz.prog 173 #[.slice ao n ca,.slice bo m cb] w fun e w'=>(∃q,w'=w.drewN q)∧∃c er,e=.returned (.tuple #[.int .i64 c,.int .i64 er]) ∧
   (Fm f n∧Fm h m∧er=0∧Ord c (vf f n) (vf h m)∨¬(Fm f n∧Fm h m)∧er=3∧c=0):=by
 have HF:=(show Hid (Lm f n) from hf);have HH:=(show Hid (Lm h m) from hh);clear hf hh;cases hfa:fmB f n
 ·have c1:=fun w' hr'=>form_c ao n ca f w' (by omega) hr'
  rw [hfa] at c1;have HN:=hid (nfm_of hfa);have C1:=hid c1;clear c1 hfa;go_enter Tryz.func173,Tryz.ntmps173;go_wp2_with (go_at_call 103;refine (C1.out _ hr).mono ?_;rintro e w' ⟨rfl,rfl⟩)
  go_ret2
  exact ⟨⟨0,rfl⟩,_,_,rfl,.inr ⟨fun x=>HN.out x.1,rfl,rfl⟩⟩
 ·have c1:=fun w' hr'=>form_c ao n ca f w' (by omega) hr'
  rw [hfa] at c1;have FA:=hid (fm_of hfa);have C1:=hid c1;clear c1 hfa;cases hfb:fmB h m
  ·have c2:=fun w' hr'=>form_c bo m cb h w' (by omega) hr'
   rw [hfb] at c2;have HN:=hid (nfm_of hfb);have C2:=hid c2;clear c2 hfb;go_enter Tryz.func173,Tryz.ntmps173;go_wp2_with fail
   refine (C1.out _ hr).mono ?_;rintro e w' ⟨rfl,rfl⟩;go_wp2_with fail
   refine (C2.out _ hs).mono ?_;rintro e w' ⟨rfl,rfl⟩;go_wp2
   go_ret2
   exact ⟨⟨0,rfl⟩,_,_,rfl,.inr ⟨fun x=>HN.out x.2,rfl,rfl⟩⟩
  ·have c2:=fun w' hr'=>form_c bo m cb h w' (by omega) hr'
   rw [hfb] at c2;have FB:=hid (fm_of hfb);have C2:=hid c2;clear c2 hfb;go_enter Tryz.func173,Tryz.ntmps173;go_wp2_with fail
   refine (C1.out _ hr).mono ?_;rintro e w' ⟨rfl,rfl⟩;go_wp2_with fail
   refine (C2.out _ hs).mono ?_;rintro e w' ⟨rfl,rfl⟩;go_wp2_with fail
   refine (cmp_c ao bo n m ca cb f h _ (by omega) (by omega) hr hs HF.out HH.out FA.out FB.out).mono ?_;rintro e w' ⟨⟨q,rfl⟩,c,rfl,ho⟩;have HO:=(show Hid (Ord c (vf f n) (vf h m)) from ho);clear ho;go_wp2
   go_ret2
   exact ⟨⟨q,rfl⟩,_,_,rfl,.inl ⟨FA.out,FB.out,rfl,HO.out⟩⟩
set_option maxHeartbeats 800000 in
theorem Sub_c (ao bo:Option Addr) (n m ca cb:Nat) (f h:Nat→Int) (w:World) (hn:n≤8796093022208) (hm:m≤8796093022208) (hr:Rd .u64 w ao n f) (hs:Rd .u64 w bo m h) (hf:Lm f n) (hh:Lm h m) :
  Calls Tryz.prog 174 #[.slice ao n ca,.slice bo m cb] w fun e w'=>∃ao' k cap' f' er,e=.returned (.tuple #[.slice ao' k cap',.int .i64 er])∧Res n w w' ao' k cap' f' ∧
   (Fm f n∧Fm h m∧vf h m≤vf f n∧er=0∧vf f' k=vf f n-vf h m∨Fm f n∧Fm h m∧vf f n<vf h m∧er=1∧k=0∨¬(Fm f n∧Fm h m)∧er=3∧k=0):=by
 have HF:=(show Hid (Lm f n) from hf);have HH:=(show Hid (Lm h m) from hh);clear hf hh;cases hfa:fmB f n
 ·have c1:=fun w' hr'=>form_c ao n ca f w' (by omega) hr'
  rw [hfa] at c1;have HN:=hid (nfm_of hfa);have C1:=hid c1;clear c1 hfa;go_enter Tryz.func174,Tryz.ntmps174;go_wp2_with (go_at_call 103;refine (C1.out _ hr).mono ?_;rintro e w' ⟨rfl,rfl⟩)
  go_ret2
  exact ⟨_,_,_,f,_,rfl,Res.nil f (Below.refl _ _),.inr (.inr ⟨fun x=>HN.out x.1,rfl,rfl⟩)⟩
 ·have c1:=fun w' hr'=>form_c ao n ca f w' (by omega) hr'
  rw [hfa] at c1;have FA:=hid (fm_of hfa);have C1:=hid c1;clear c1 hfa;cases hfb:fmB h m
  ·have c2:=fun w' hr'=>form_c bo m cb h w' (by omega) hr'
   rw [hfb] at c2;have HN:=hid (nfm_of hfb);have C2:=hid c2;clear c2 hfb;go_enter Tryz.func174,Tryz.ntmps174;go_wp2_with fail
   refine (C1.out _ hr).mono ?_;rintro e w' ⟨rfl,rfl⟩;go_wp2_with fail
   refine (C2.out _ hs).mono ?_;rintro e w' ⟨rfl,rfl⟩;go_wp2
   go_ret2
   exact ⟨_,_,_,f,_,rfl,Res.nil f (Below.refl _ _),.inr (.inr ⟨fun x=>HN.out x.2,rfl,rfl⟩)⟩
  ·have c2:=fun w' hr'=>form_c bo m cb h w' (by omega) hr'
   rw [hfb] at c2;have FB:=hid (fm_of hfb);have C2:=hid c2;clear c2 hfb;go_enter Tryz.func174,Tryz.ntmps174;go_wp2_with fail
   refine (C1.out _ hr).mono ?_;rintro e w' ⟨rfl,rfl⟩;go_wp2_with fail
   refine (C2.out _ hs).mono ?_;rintro e w' ⟨rfl,rfl⟩;go_wp2_with fail
   refine (cmp_c ao bo n m ca cb f h _ (by omega) (by omega) hr hs HF.out HH.out FA.out FB.out).mono ?_;rintro e w' ⟨⟨q,rfl⟩,c,rfl,ho⟩;by_cases hlt:vf f n<vf h m
   ·have hc:c=-1:=by unfold Ord at ho;omega
    subst hc;have HLt:=hid hlt;clear ho hlt;go_wp2
    go_ret2
    exact ⟨_,_,_,f,_,rfl,Res.nil f (below_drewN (Below.refl _ _) q),.inr (.inl ⟨FA.out,FB.out,HLt.out,rfl,rfl⟩)⟩
   ·have hc:0≤c:=by unfold Ord at ho;omega
    have hle:vf h m≤vf f n:=by omega
    have HLe:=hid hle;clear ho hlt hle;go_wp2_with fail
    refine (sub_c ao bo n m ca cb f h _ hn (show Rd .u64 (World.drewN _ q) ao n f from hr) (show Rd .u64 (World.drewN _ q) bo m h from hs) HF.out HH.out FB.out HLe.out).mono ?_;rintro e w' ⟨ao',k,cap',f',rfl,hres,hv⟩;have HV:=hid hv;clear hv;go_wp2
    go_ret2
    exact ⟨_,_,_,f',_,rfl,hres.ahead (below_drewN (Below.refl _ _) q),.inl ⟨FA.out,FB.out,HLe.out,rfl,HV.out⟩⟩
def pd:Nat→Int | 0=>1 | n+1=>4294967296*pd n
def vd (f:Nat→Int):Nat→Int | 0=>0 | n+1=>vd f n+f n*pd n
def Dg (f:Nat→Int) (n:Nat):Prop:=∀j,j<n→0≤f j∧f j<4294967296
theorem pd_pos (n:Nat):0<pd n:=by induction n with | zero=>decide | succ n ih=>simp only [pd];omega
theorem pd_succ (n:Nat):pd (n+1)=4294967296*pd n:=rfl
theorem pd_add (m n:Nat):pd (m+n)=pd m*pd n:=by
 induction n with
 | zero=>simp [pd]
 | succ n ih=>rw [←Nat.add_assoc,pd_succ,ih,pd_succ];grind
theorem vd_succ (f:Nat→Int) (n:Nat):vd f (n+1)=vd f n+f n*pd n:=rfl
theorem vd_congr {f g:Nat→Int} {n:Nat} (h:∀j,j<n→f j=g j):vd f n=vd g n:=by
 induction n with
 | zero=>rfl
 | succ n ih=>rw [vd_succ,vd_succ,ih (fun j hj=>h j (by omega)),h n (by omega)]
theorem Dg.mono {f n m} (h:Dg f n) (hm:m≤n):Dg f m:=fun j hj=>h j (by omega)
theorem Dg.congr {f g:Nat→Int} {n:Nat} (h:Dg f n) (he:∀j,j<n→f j=g j):Dg g n:=fun j hj=>by rw [←he j hj];exact h j hj
theorem Dg.upd {f n} (h:Dg f n) {i:Nat} {v:Int} (hv:0≤v∧v<4294967296):Dg (upd f i v) n:=fun j hj=>by
 by_cases hji:j=i
 ·subst hji;rw [upd_same];exact hv
 ·rw [upd_other _ _ _ _ hji];exact h j hj
theorem Dg.sh {f n} (h:Dg f n) {o m:Nat} (hm:o+m≤n):Dg (sh f o) m:=fun j hj=>h (o+j) (by omega)
theorem vd_nonneg {f:Nat→Int} {n:Nat} (h:Dg f n):0≤vd f n:=by
 induction n with
 | zero=>simp [vd]
 | succ n ih =>
  have h1:=ih (h.mono (by omega));have h2:=Int.mul_nonneg (h n (by omega)).1 (Int.le_of_lt (pd_pos n));rw [vd_succ];omega
theorem vd_lt {f:Nat→Int} {n:Nat} (h:Dg f n):vd f n<pd n:=by
 induction n with
 | zero=>simp [vd,pd]
 | succ n ih =>
  have h1:=ih (h.mono (by omega));have h2:(f n+1)*pd n≤4294967296*pd n:=Int.mul_le_mul_of_nonneg_right (by have:=(h n (by omega)).2;omega) (Int.le_of_lt (pd_pos n));rw [Int.add_mul,Int.one_mul] at h2;rw [vd_succ,pd_succ];omega
theorem vd_split (f:Nat→Int) (m n:Nat):vd f (m+n)=vd f m+vd (sh f m) n*pd m:=by
 induction n with
 | zero=>simp [vd]
 | succ n ih=>rw [←Nat.add_assoc,vd_succ,ih,vd_succ,pd_add,sh_at];grind
theorem vd_zero {f:Nat→Int} {n:Nat} (h:∀j,j<n→f j=0):vd f n=0:=by
 induction n with
 | zero=>rfl
 | succ n ih=>rw [vd_succ,ih (fun j hj=>h j (by omega)),h n (by omega)];simp
theorem vd_ext {f:Nat→Int} {m n:Nat} (hm:m≤n) (h:∀j,m≤j→j<n→f j=0):vd f n=vd f m:=by
 obtain ⟨d,rfl⟩:=Nat.exists_eq_add_of_le hm;rw [vd_split,vd_zero (f:=sh f m) (fun j hj=>h _ (by omega) (by omega))];simp
theorem vd_form_ge {f:Nat→Int} {n:Nat} (h:Dg f n) (hf:Fm f n) (hn:0<n):pd (n-1)≤vd f n:=by
 obtain ⟨m,rfl⟩:∃m,n=m+1:=⟨n-1,by omega⟩;have h0:=vd_nonneg (h.mono (m:=m) (by omega));have h1:=h m (by omega);have h2:f m≠0:=by rcases hf with h | h;omega;simpa using h
 have h3:1*pd m≤f m*pd m:=Int.mul_le_mul_of_nonneg_right (by omega) (Int.le_of_lt (pd_pos m));rw [vd_succ];simp at h3 ⊢;omega
theorem pd_mono {m n : Nat} (h : m ≤ n) : pd m ≤ pd n := by
  induction n with
  | zero => obtain rfl : m = 0 := by omega
            exact Int.le_refl _
  | succ n ih =>
    by_cases hm : m = n + 1
    · subst hm; exact Int.le_refl _
    · have := ih (by omega); have := pd_pos n; rw [pd_succ]; omega
theorem vd_inj_same {f g:Nat→Int} {n:Nat} (hf:Dg f n) (hg:Dg g n) (h:vd f n=vd g n):∀j,j<n→f j=g j:=by
 induction n with
 | zero=>intro j hj;omega
 | succ n ih =>
  have a1:=vd_nonneg (hf.mono (m:=n) (by omega));have a2:=vd_lt (hf.mono (m:=n) (by omega))
  have b1:=vd_nonneg (hg.mono (m:=n) (by omega));have b2:=vd_lt (hg.mono (m:=n) (by omega))
  rw [vd_succ,vd_succ] at h;have hp:=pd_pos n;have e:f n=g n:=by
   rcases Int.lt_trichotomy (f n) (g n) with hl | hl | hl
   ·have:(f n+1)*pd n≤g n*pd n:=Int.mul_le_mul_of_nonneg_right (by omega) (Int.le_of_lt hp);rw [Int.add_mul,Int.one_mul] at this;omega
   ·exact hl
   ·have:(g n+1)*pd n≤f n*pd n:=Int.mul_le_mul_of_nonneg_right (by omega) (Int.le_of_lt hp);rw [Int.add_mul,Int.one_mul] at this;omega
  have hr:=ih (hf.mono (by omega)) (hg.mono (by omega)) (by rw [e] at h;omega);intro j hj;by_cases hjn:j=n
  ·subst hjn;exact e
  ·exact hr j (by omega)
theorem vd_len {f g:Nat→Int} {n m:Nat} (hf:Dg f n) (hg:Dg g m) (ff:Fm f n) (h:vd f n≤vd g m):n≤m:=by
 apply Nat.le_of_not_lt;intro hlt;have h1:=vd_form_ge hf ff (by omega);have h2:=vd_lt hg;have h3:=pd_mono (m:=m) (n:=n-1) (by omega);omega
theorem vd_inj {f g:Nat→Int} {n m:Nat} (hf:Dg f n) (hg:Dg g m) (ff:Fm f n) (fg:Fm g m) (h:vd f n=vd g m):n=m∧∀j,j<n→f j=g j:=by
 have e:n=m:=Nat.le_antisymm (vd_len hf hg ff (by omega)) (vd_len hg hf fg (by omega));subst e;exact ⟨rfl,vd_inj_same hf hg h⟩
theorem trim_vald {f:Nat→Int} {m n:Nat} (hm:m≤n) (hz:∀j,m≤j→j<n→f j=0):vd f m=vd f n:=(vd_ext hm hz).symm
set_option maxHeartbeats 400000 in
theorem rform_c (ao:Option Addr) (n cap:Nat) (f:Nat→Int) (w:World) (hm:n≤9223372036854775807) (hr:Rd .u64 w ao n f) :
  Calls Tryz.prog 123 #[.slice ao n cap] w fun e w'=>e=.returned (.bool (fmB f n))∧w'=w:=by
 by_cases h0:n=0
 ·subst h0;have e:fmB f 0=true:=by simp [fmB]
  go_enter Tryz.func123,Tryz.ntmps123;go_wp2;go_ret;exact ⟨by rw [e];rfl,rfl⟩
 ·obtain ⟨b,o,rfl⟩:=hr.at (by omega);obtain ⟨x,hx⟩:∃x,f (n-1)=x:=⟨_,rfl⟩;have hc:w.cell? ⟨b,o+(n-1),none⟩=some (.int .u64 x):=by rw [←hx];exact hr.cell (by omega)
  have h1:((n:Int)==0)=false:=by simp;omega
  have e:fmB f n=(x != 0):=by simp [fmB,h0,hx,bne];rfl
  have E:=hid e;clear hr hx e;go_enter Tryz.func123,Tryz.ntmps123;go_wp2;go_ret;exact ⟨by rw [E.out];rfl,rfl⟩
set_option maxHeartbeats 400000 in
theorem low_c (ao:Option Addr) (n cap:Nat) (f:Nat→Int) (w:World) (hc:n≤cap) (hm:cap≤9223372036854775807) (hr:Rd .u64 w ao n f) (hnil:ao=none→cap=0) :
  Calls Tryz.prog 132 #[.slice ao n cap] w fun e w'=>w'=w∧∃m,m≤n∧(∀j,m≤j→j<n→f j=0)∧Fm f m∧e=.returned (.slice ao m cap):=by
 go_enter Tryz.func132,Tryz.ntmps132;go_wp2
 go_loop [3] (fun t=>∃m:Nat,m≤n∧t=.int .i64 m∧Hid (∀j,m≤j→j<n→f j=0)) (fun t=>(intOf t).toNat)
 case atStart=>exact ⟨n,Nat.le_refl _,rfl,fun j h1 h2=>by omega⟩
 case round =>
  obtain ⟨m,hmn,rfl,HZ⟩:=hrel;by_cases h0:0<m
  ·obtain ⟨b,o,rfl⟩:=hr.at (by omega);obtain ⟨x,hx⟩:∃x,f (m-1)=x:=⟨_,rfl⟩;have hcell:w.cell? ⟨b,o+(m-1),none⟩=some (.int .u64 x):=by rw [←hx];exact hr.cell (by omega)
   have HX:Hid (f (m-1)=x):=hx;clear hx hr;by_cases hx0:x=0
   ·subst hx0;go_wp2
    go_round
    case rel =>
     refine ⟨m-1,by omega,by go_num,fun j h1 h2=>?_⟩;by_cases hj:j=m-1
     ·rw [hj];exact HX.out
     ·exact HZ.out j (by omega) h2
    case measure=>simp [intOf];omega
   ·have hx1:(x==0)=false:=by simp [hx0]
    go_wp2;go_ret;exact ⟨rfl,m,hmn,HZ.out,.inr (by rw [HX.out];exact hx0),rfl⟩
  ·have h00:m=0:=by omega
   subst h00;cases ao with
   | none =>
    obtain rfl:cap=0:=hnil rfl;go_wp2;go_ret;exact ⟨rfl,0,hmn,HZ.out,.inl rfl,rfl⟩
   | some ad =>
    clear hnil;go_wp2;go_ret;exact ⟨rfl,0,hmn,HZ.out,.inl rfl,rfl⟩
def Alk (n m:Nat) (f g:Nat→Int):Prop:=n=m∧∀j,j<n→f j=g j
set_option maxHeartbeats 800000 in
theorem same_c (ao bo:Option Addr) (n m ca cb:Nat) (f g:Nat→Int) (w:World) (hm:n≤140737488355328) (hm':m≤140737488355328) (hr:Rd .u64 w ao n f) (hs:Rd .u64 w bo m g) :
  Calls Tryz.prog 57 #[.slice ao n ca,.slice bo m cb] w fun e w'=>(∃q,w'=w.drewN q)∧∃b,e=.returned (.bool b)∧(b=true ↔ Alk n m f g):=by
 by_cases hnm:n=m
 ·subst hnm;have h1:((n:Int) != n)=false:=by simp
  go_enter Tryz.func57,Tryz.ntmps57;go_wp2;go_loopw [13] (fun t wr=>∃i:Nat,i≤n∧t=.int .i64 i∧Hid (∀j,j<i→f j=g j)∧∃q,wr=w.drewN q) (fun t _=>n-(intOf t).toNat)
  case atStart=>exact ⟨0,by omega,rfl,fun j h1=>by omega,0,rfl⟩
  case round =>
   obtain ⟨i,hin,rfl,HE,q,rfl⟩:=hrel;by_cases hlt:i<n
   ·obtain ⟨b,o,rfl⟩:=hr.at (by omega);obtain ⟨b',o',rfl⟩:=hs.at (by omega);obtain ⟨x,hx⟩:∃x,f i=x:=⟨_,rfl⟩;obtain ⟨y,hy⟩:∃y,g i=y:=⟨_,rfl⟩;have hca:w.cell? ⟨b,o+i,none⟩=some (.int .u64 x):=by rw [←hx];exact hr.cell (by omega)
    have hcb:w.cell? ⟨b',o'+i,none⟩=some (.int .u64 y):=by rw [←hy];exact hs.cell (by omega)
    have HX:Hid (f i=x):=hx;have HY:Hid (g i=y):=hy;clear hx hy hr hs;by_cases hxy:x=y
    ·subst hxy;have hne:(x != x)=false:=by simp
     go_wp2
     go_quiet (fail)
     go_wp2;go_roundw
     case rel =>
      refine ⟨i+1,by omega,by go_num,fun j h1=>?_,_,rfl⟩;by_cases hj:j=i
      ·rw [hj];exact HX.out.trans HY.out.symm
      ·exact HE.out j (by omega)
     case measure=>simp [intOf];omega
    ·have hne:(x != y)=true:=by simp [hxy]
     go_wp2
     go_quiet (fail)
     go_wp2;go_ret;refine ⟨⟨_,by (repeat rw [World.drewN_drewN]) <;> rfl⟩,false,rfl,⟨fun h=>(by cases h),fun h=>?_⟩⟩;have:=h.2 i hlt;rw [HX.out,HY.out] at this;exact absurd this hxy
   ·have hi:i=n:=by omega
    subst hi;go_wp2;go_ret;exact ⟨⟨_,rfl⟩,true,rfl,⟨fun _=>⟨rfl,HE.out⟩,fun _=>rfl⟩⟩
 ·have h1:((n:Int) != m)=true:=by simp;omega
  go_enter Tryz.func57,Tryz.ntmps57;go_wp2;go_ret;exact ⟨⟨0,rfl⟩,false,rfl,⟨fun h=>(by cases h),fun h=>absurd h.1 hnm⟩⟩
set_option maxRecDepth 100000 in
set_option maxHeartbeats 400000 in
theorem twin_c (ao:Option Addr) (n cap:Nat) (f:Nat→Int) (w:World) (hn:n≤17592186044416) (hr:Rd .u64 w ao n f) (hnil:ao=none→n=0∧cap=0) :
  Calls Tryz.prog 69 #[.slice ao n cap] w fun e w'=>∃ao' cap',e=.returned (.slice ao' n cap')∧Below w.heap.size w w'∧Rd .u64 w' ao' n f∧Own .u64 145 w' w.heap.size (.slice ao' n cap') n f:=by
 cases ao with
 | none =>
  obtain ⟨rfl,rfl⟩:=hnil rfl;go_enter Tryz.func69,Tryz.ntmps69;obtain ⟨i0,hi,hz0,hz1,hz2⟩:=info_parts Tryz.infoU64;go_wp2_with (at_builtin;refine wpList_append_own_none rfl (.tmp 4) (.tmp 5) 22 rfl w.heap.size 145 i0 1 Tryz.underlying22 hi (.slice none 0 0) 0 [] rfl (World.ownsRow_nil _ _ _ _) rfl ?_)
  go_ret;exact ⟨none,0,rfl,Below.refl _ _,Rd.zero,own_nil _ _ _ _ _⟩
 | some ad =>
  clear hnil;have HR:=hid hr;clear hr;go_enter Tryz.func69,Tryz.ntmps69;obtain ⟨i0,hi,hz0,hz1,hz2⟩:=info_parts Tryz.infoU64;go_wp2_with (at_builtin;refine wpList_append_own w rfl (.tmp 4) (.tmp 5) 22 rfl w.heap.size 145 i0 (.int .u64 0) 1 8 Tryz.underlying22 hi hz0 hz1 hz2 rfl (by decide) (.slice none 0 0) 0 [] rfl (World.ownsRow_nil _ _ _ _) ad n cap (lst .u64 f n) rfl (by rw [lst_length,Nat.mul_one]) ?c1 (lst_one _ _ _) ?c2 ?c3 (Nat.le_refl _) ?_)
  case c1 =>
   intro j u hu;obtain ⟨hj,rfl⟩:=lst_getE hu;obtain ⟨b,o,e,hc⟩:=HR.out j hj;cases e
   rw [addr_add];exact hc
  case c2=>unfold maxLen;omega
  case c3=>omega
  intro v' w' hown hgr _;have hown':Own .u64 145 w' w.heap.size v' n f:=hown;have hbel:Below w.heap.size w w':=(Below.refl _ _).grown hgr (Nat.le_refl _) (fun k h=>by simp [Value.ownBlock] at h);have hs:=hown'.shape;obtain ⟨ao',cap',hv,hcc,hnn,hml,hrd,hlt⟩:=hs;rw [hv] at hown' ⊢;clear hown hgr hv;have HO:=hid hown';clear hown';go_wp2;go_ret;exact ⟨ao',cap',rfl,hbel,hrd,HO.out⟩
def two32 (x:Int):Nat→Int:=fun j=>if j=0 then x%4294967296 else x/4294967296
def dig (f:Nat→Int):Nat→Int:=fun j=>if j%2=0 then f (j/2)%4294967296 else f (j/2)/4294967296
theorem dig_cat (f:Nat→Int) (k:Nat):∀j,j<2*k+2→cat (dig f) (2*k) (two32 (f k)) j=dig f j:=by
 intro j hj;by_cases h:j<2*k
 ·exact cat_in h
 ·rw [cat_out (by omega)];by_cases h2:j=2*k
  ·subst h2;have e1:2*k-2*k=0:=by omega
   have e2:2*k/2=k:=by omega
   have e3:2*k%2=0:=by omega
   simp [two32,dig]
  ·obtain rfl:j=2*k+1:=by omega
   have e1:2*k+1-2*k=1:=by omega
   have e2:(2*k+1)/2=k:=by omega
   have e3:(2*k+1)%2=1:=by omega
   simp [two32,dig,e1,e2,e3]
theorem pd_two (k:Nat):pd (2*k)=pw k:=by
 induction k with
 | zero=>rfl
 | succ k ih =>
  have e:2*(k+1)=2*k+1+1:=by omega
  rw [e,pd_succ,pd_succ,pw_succ,ih];omega
theorem dig_lm {f:Nat→Int} {n:Nat} (h:Lm f n):Dg (dig f) (2*n):=by
 intro j hj;have:=h (j/2) (by omega);unfold dig
 split <;> omega
theorem dig_val (f:Nat→Int) (n:Nat):vd (dig f) (2*n)=vf f n:=by
 induction n with
 | zero=>rfl
 | succ k ih =>
  have e:2*(k+1)=2*k+1+1:=by omega
  have e2:(2*k+1)/2=k:=by omega
  have e3:(2*k+1)%2=1:=by omega
  have e4:2*k/2=k:=by omega
  have e5:2*k%2=0:=by omega
  have a1:dig f (2*k)=f k%4294967296:=by simp [dig]
  have a2:dig f (2*k+1)=f k/4294967296:=by simp [dig,e2,e3]
  rw [e,vd_succ,vd_succ,ih,vf_succ,pd_succ,pd_two,a1,a2];have e6:f k=4294967296*(f k/4294967296)+f k%4294967296:=by omega
  have e7:f k*pw k=(4294967296*(f k/4294967296)+f k%4294967296)*pw k:=by rw [←e6]
  rw [e7]
  grind
theorem rd_new2 (w:World) (e:TypeId) (x:Int):Rd .u64 (w.alloc (.cells #[.int .u64 (x%4294967296),.int .u64 (x/4294967296)] e)) (some ⟨w.heap.size,0,none⟩) 2 (two32 x) :=
 Rd.mk (fun j hj=>by
  rw [Nat.zero_add,World.cell?_alloc_new];rcases (show j=0∨j=1 by omega) with rfl | rfl <;> simp [two32])
set_option maxRecDepth 100000 in
set_option maxHeartbeats 1000000 in
theorem fromNew_c (ao:Option Addr) (n cap:Nat) (f:Nat→Int) (w:World) (hn:n≤1048576) (hr:Rd .u64 w ao n f) (hf:Lm f n) :
  Calls Tryz.prog 113 #[.slice ao n cap] w fun e w'=>∃ao' m cap',e=.returned (.slice ao' m cap')∧(∀a,ao'=some a→w.heap.size≤a.block)∧m≤cap'∧cap'≤9223372036854775807∧Below w.heap.size w w'∧Rd .u64 w' ao' m (dig f)∧m≤2*n∧(ao'=none→m=0)∧Dg (dig f) m∧Fm (dig f) m∧vd (dig f) m=vf f n:=by
 have HR:=hid hr;have HF:=hid hf;clear hr hf;obtain ⟨i0,hi,hz0,hz1,hz2⟩:=info_parts Tryz.infoU64;go_enter Tryz.func113,Tryz.ntmps113;go_wp2_with (at_make;refine wpList_make_own w rfl (.const (.int .i64 0)) (.tmp 8) 22 rfl w.heap.size 145 i0 (.int .u64 0) 1 Tryz.underlying22 hi hz0 hz1 .i64 .i64 (2*(n:Int)) (2*n) rfl rfl (by omega) (by rw [hz2];omega) (by unfold maxLen;omega) (Nat.le_refl _) ?_;intro w1 hown1 hgr1)
 have hb1:Below w.heap.size w w1:=(Below.refl _ _).grown hgr1 (Nat.le_refl _) (fun k h=>by cases h);have ho1:Own .u64 145 w1 w.heap.size (.slice (some ⟨w.heap.size,0,none⟩) 0 (2*n)) 0 (dig f):=hown1;clear hown1 hgr1;have HO1:=hid ho1;clear ho1;go_loopw [3,12] (fun v t wr=>∃k:Nat,k≤n∧t=.int .i64 k∧Below w.heap.size w wr∧Hid (Own .u64 145 wr w.heap.size v (2*k) (dig f))) (fun _ t _=>n-(intOf t).toNat)
 case atStart=>exact ⟨0,by omega,rfl,hb1,HO1.out⟩
 case round =>
  clear hb1 HO1;obtain ⟨k,hk,rfl,hbel,HO⟩:=hrel;by_cases hlt:k<n
  ·have hr:=HR.out;obtain ⟨b,o,rfl⟩:=hr.at (by omega);obtain ⟨x,hx⟩:∃x,f k=x:=⟨_,rfl⟩;have hcell:wr.cell? ⟨b,o+k,none⟩=some (.int .u64 x):=by rw [←hx];exact (hr.below hbel (Nat.le_refl _)).cell hlt
   obtain ⟨x0,x1⟩:=HF.out k hlt;rw [hx] at x0 x1;have HX:=hid hx;clear hx hr;go_wp2_with (at_builtin;refine wpList_append_own_list .u64 _ rfl (.tmp 16) (.tmp 21) 22 rfl w.heap.size 145 8 Tryz.underlying22 Tryz.infoU64 _ (2*k) (dig f) rfl (Own.alloc HO.out _) wr.heap.size 0 2 2 (two32 x) rfl (rd_new2 wr _ x) ?c1 ?c2 ?c3 ?_)
   case c1=>unfold maxLen;omega
   case c2=>omega
   case c3=>have:=hbel.size;simp;omega
   intro v' w' hown hgr;have hown2:Own .u64 145 w' w.heap.size v' (2*(k+1)) (dig f):=(show Own .u64 145 w' w.heap.size v' (2*k+2) _ from hown).congr (fun j hj=>by rw [←HX.out];exact dig_cat f k j hj);have hbel2:Below w.heap.size w w':=(hbel.alloc hbel.size _).grown hgr (by have:=hbel.size;simp;omega) (fun k h=>(Own.ge HO.out k h));have HO2:=hid hown2;clear hown hgr hown2 HO;go_wp2;go_roundw
   case rel=>exact ⟨k+1,by omega,by go_num,hbel2,HO2.out⟩
   case measure=>simp [intOf];omega
  ·have hkn:k=n:=by omega
   subst hkn;obtain ⟨ao',cap',hv,hcc,hnn,hml,hrd,hlt2⟩:=HO.out.shape;unfold maxLen at hml;subst hv;have HNew:=hid (fun a ha=>(hlt2 a ha).1);clear HO hlt2;go_wp2_with fail
   refine (low_c ao' (2*k) cap' (dig f) wr hcc hml hrd hnn).mono ?_;rintro e w2 ⟨rfl,m,hm,hz,hfm,rfl⟩;have HZ:=hid hz;have HFM:=hid hfm;clear hz hfm;go_wp2;go_ret;refine ⟨ao',m,cap',rfl,HNew.out,by omega,hml,hbel,hrd.take hm,hm,fun h=>?_,(dig_lm HF.out).mono hm,HFM.out,?_⟩
   ·have:=hnn h;omega
   ·rw [trim_vald hm HZ.out];exact dig_val f k
theorem from_c (ao:Option Addr) (n cap:Nat) (f:Nat→Int) (w:World) (hn:n≤1048576) (hr:Rd .u64 w ao n f) (hf:Lm f n) :
  Calls Tryz.prog 113 #[.slice ao n cap] w fun e w'=>∃ao' m cap',e=.returned (.slice ao' m cap')∧Below w.heap.size w w'∧Rd .u64 w' ao' m (dig f)∧m≤2*n∧(ao'=none→m=0)∧Dg (dig f) m∧Fm (dig f) m∧vd (dig f) m=vf f n :=
 (fromNew_c ao n cap f w hn hr hf).mono (fun _ _ ⟨a,m,c,h1,_,_,_,h2⟩=>⟨a,m,c,h1,h2⟩)
def lim (d:Nat→Int) (n:Nat):Nat→Int:=fun j=>ext d n (2*j)+4294967296*ext d n (2*j+1)
theorem ext_dg {d:Nat→Int} {n:Nat} (h:Dg d n) (j:Nat):0≤ext d n j∧ext d n j<4294967296:=by
 by_cases hj:j<n
 ·rw [ext_in _ _ _ hj];exact h j hj
 ·rw [ext_out _ _ _ (by omega)];omega
theorem lim_lm {d:Nat→Int} {n:Nat} (h:Dg d n) (k:Nat):Lm (lim d n) k:=fun j _=>by
 have a:=ext_dg h (2*j);have b:=ext_dg h (2*j+1)
 unfold lim;omega
theorem lim_val (d:Nat→Int) (n k:Nat):vf (lim d n) k=vd (ext d n) (2*k):=by
 induction k with
 | zero=>rfl
 | succ k ih =>
  have e:2*(k+1)=2*k+1+1:=by omega
  rw [e,vd_succ,vd_succ,←ih,vf_succ,pd_succ,pd_two,lim];grind
theorem vd_ext_list (h:Nat→Int) (m n:Nat) (hn:m≤n):vd (ext h m) n=vd h m:=by
 rw [vd_ext hn (fun j h1 _=>ext_out h m j h1)];exact vd_congr (fun j hj=>ext_in h m j hj)
theorem lim_fm {d:Nat→Int} {n k:Nat} (h:Dg d n) (hf:Fm d n) (h1:n≤2*k) (h2:2*k≤n+1):Fm (lim d n) k:=by
 by_cases h0:n=0
 ·left;omega
 ·right
  have hd:d (n-1)≠0:=by rcases hf with h | h;omega;exact h
  have a:=ext_dg h (2*(k-1));have b:=ext_dg h (2*(k-1)+1)
  unfold lim;rcases (show n-1=2*(k-1)∨n-1=2*(k-1)+1 by omega) with e | e
  ·have:=ext_in d n (2*(k-1)) (by omega);rw [←e] at this a ⊢;omega
  ·have:=ext_in d n (2*(k-1)+1) (by omega);rw [←e] at this b ⊢;omega
theorem cat_one {f:Nat→Int} {k:Nat} {x:Int} (h:f k=x):∀j,j<k+1→cat f k (fun _=>x) j=f j:=by
 intro j hj;by_cases h1:j<k
 ·exact cat_in h1
 ·obtain rfl:j=k:=by omega
  rw [cat_out (Nat.le_refl _),h]
set_option maxRecDepth 100000 in
set_option maxHeartbeats 1000000 in
theorem toOwn_c (ao:Option Addr) (n cap:Nat) (d:Nat→Int) (w:World) (hn:n≤1048576) (hr:Rd .u64 w ao n d) (hd:Dg d n) (hfm:Fm d n) :
  Calls Tryz.prog 92 #[.slice ao n cap] w fun e w'=>∃ao' m cap' f,e=.returned (.slice ao' m cap')∧Own .u64 145 w' w.heap.size (.slice ao' m cap') m f∧Below w.heap.size w w'∧Rd .u64 w' ao' m f∧m≤n∧Lm f m∧Fm f m∧vf f m=vd d n:=by
 have HR:=hid hr;have HD:=hid hd;have HFM:=hid hfm;clear hr hd hfm;go_enter Tryz.func92,Tryz.ntmps92;go_wp2;go_loopw [3,4] (fun v t wr=>∃k:Nat,2*k≤n+1∧t=.int .i64 (2*k)∧Below w.heap.size w wr∧Hid (Own .u64 145 wr w.heap.size v k (lim d n))) (fun _ t _=>n+2-(intOf t).toNat)
 case atStart=>exact ⟨0,by omega,rfl,Below.refl _ _,own_nil _ _ _ _ _⟩
 case round =>
  obtain ⟨k,hk,rfl,hbel,HO⟩:=hrel;by_cases hlt:2*k<n
  ·have hr:=HR.out;obtain ⟨b,o,rfl⟩:=hr.at (by omega);obtain ⟨x,hx⟩:∃x,d (2*k)=x:=⟨_,rfl⟩;have hcell:wr.cell? ⟨b,o+2*k,none⟩=some (.int .u64 x):=by rw [←hx];exact (hr.below hbel (Nat.le_refl _)).cell hlt
   obtain ⟨x0,x1⟩:=HD.out (2*k) hlt;rw [hx] at x0 x1;have HX:=hid hx;clear hx;by_cases hlt2:2*k+1<n
   ·obtain ⟨y,hy⟩:∃y,d (2*k+1)=y:=⟨_,rfl⟩;have hcell2:wr.cell? ⟨b,o+(2*k+1),none⟩=some (.int .u64 y):=by rw [←hy];exact (hr.below hbel (Nat.le_refl _)).cell hlt2
    obtain ⟨y0,y1⟩:=HD.out (2*k+1) hlt2;rw [hy] at y0 y1;have HY:=hid hy;clear hy hr;have hl:lim d n k=x+y*4294967296:=by unfold lim;rw [ext_in _ _ _ hlt,ext_in _ _ _ hlt2,HX.out,HY.out];omega
    have HLm:=hid hl;clear hl;go_wp2_with (at_builtin;refine wpList_append_own_list .u64 _ rfl (.tmp 29) (.tmp 31) 22 rfl w.heap.size 145 8 Tryz.underlying22 Tryz.infoU64 _ k (lim d n) rfl (Own.alloc HO.out _) wr.heap.size 0 1 1 (fun _=>x+y*4294967296) rfl (rd_new1 wr _ _) ?c1 ?c2 ?c3 ?_)
    case c1=>unfold maxLen;omega
    case c2=>omega
    case c3=>have:=hbel.size;simp;omega
    intro v' w' hown hgr;have hown2:Own .u64 145 w' w.heap.size v' (k+1) (lim d n):=Own.congr hown (cat_one HLm.out);have hbel2:Below w.heap.size w w':=(hbel.alloc hbel.size _).grown hgr (by have:=hbel.size;simp;omega) (fun k h=>(Own.ge HO.out k h));have HO2:=hid hown2;clear hown hgr hown2 HO;go_wp2;go_roundw
    case rel=>exact ⟨k+1,by omega,by go_num,hbel2,HO2.out⟩
    case measure=>simp [intOf];omega
   ·have hl:lim d n k=x:=by unfold lim;rw [ext_in _ _ _ hlt,ext_out _ _ _ (by omega),HX.out];omega
    have HLm:=hid hl;clear hl hr;go_wp2_with (at_builtin;refine wpList_append_own_list .u64 _ rfl (.tmp 29) (.tmp 31) 22 rfl w.heap.size 145 8 Tryz.underlying22 Tryz.infoU64 _ k (lim d n) rfl (Own.alloc HO.out _) wr.heap.size 0 1 1 (fun _=>x) rfl (rd_new1 wr _ _) ?c1 ?c2 ?c3 ?_)
    case c1=>unfold maxLen;omega
    case c2=>omega
    case c3=>have:=hbel.size;simp;omega
    intro v' w' hown hgr;have hown2:Own .u64 145 w' w.heap.size v' (k+1) (lim d n):=Own.congr hown (cat_one HLm.out);have hbel2:Below w.heap.size w w':=(hbel.alloc hbel.size _).grown hgr (by have:=hbel.size;simp;omega) (fun k h=>(Own.ge HO.out k h));have HO2:=hid hown2;clear hown hgr hown2 HO;go_wp2;go_roundw
    case rel=>exact ⟨k+1,by omega,by go_num,hbel2,HO2.out⟩
    case measure=>simp [intOf];omega
  ·obtain ⟨ao',cap',hv,hcc,hnn,hml,hrd,hlt2⟩:=HO.out.shape;subst hv;clear hlt2;go_wp2;go_ret;exact ⟨ao',k,cap',_,rfl,HO.out,hbel,hrd,by omega,lim_lm HD.out k,lim_fm HD.out HFM.out (by omega) hk,by rw [lim_val,vd_ext_list _ _ _ (by omega)]⟩
end Go.Proofs.YtdbbncamlaiajaaGreat
