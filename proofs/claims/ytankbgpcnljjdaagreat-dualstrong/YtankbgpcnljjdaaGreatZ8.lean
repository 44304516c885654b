/-
 Between lists in memory and their values; rows of numbers that are made and written; the walk of package vec's call Dense, whatever it is handed. The walk of package vec's call Dense, whatever it is handed. Package vec's call Dot where it answers an error. Package vec's calls on lists in form, by their values; lists that are put together by their terms. append to a row of structs in a region that draws its order. No Go text is named here. The walk of package model's names (written by makers/f5.py). The walk of package model's allBelow (written by makers/f6.py). The walk of package model's Check, whatever it is handed (written by makers/f7.py). The walks of slices.Index of texts, of package model's place, Col and Row (written by makers/f8.py). Walks of the document's reference for ext: Twin, From, To, Num, Low, High, Same, Form, Cmp, Max, Min. Walks of ext: allForm, Cmp, Max, Min, whatever they are handed. The number that a number in memory is; the walk of package model's above. Lists of places in memory; the walk of package model's Crossed (written by makers/f10.py). The walks of slices.Equal of limbs, and of package model's sameRat, sameExt, sameTerm. The walks of package model's sameExt, sameTerm, sameCol, sameRow, and of slices.EqualFunc with them (written by makers/f12.py). The walks of slices.EqualFunc of terms, columns and rows, and of package model's sameRow (written by makers/f13.py). The walks of Least, of package model and of the reference. The walks of package model's Least and Equal (written by makers/f14.py). The walks of the reference's Name, bounds and Least (written by makers/f16.py). The statements' looks at how long the numbers of lists are (light, Lights).
-/
import Derived.Test.YtankbgpcnljjdaaGreatZ7
import Derived.Test.YtankbgpcnljjdaaGreatZ6
import Derived.BigQuiet
import Derived.Test.YtankbgpcnljjdaaGreatZ0
import Derived.Deep.RegionHeld3
namespace Go.Proofs.YtankbgpcnljjdaaGreat
open Go.RowKit
theorem Tryz.infoRat:(Tryz.prog.info? 24).map (fun i=>(i.zero,i.size,i.bytes))=some (some (.agg #[.bool false,.slice none 0 0,.slice none 0 0]),3,56):=by kernel_rfl
theorem Rn.nm {L w q} {t:Nm} (h:Rn L w t.s t.x t.n t.c t.f t.y t.m t.d t.g q) (hL:L≤65536):NmR w t∧nfB t=true :=
 ⟨⟨h.rw,Nat.le_trans h.ln hL,Nat.le_trans h.ld hL⟩,h.rf⟩
theorem tfr_of {col:Nat→Int} {T:Nat→Nm}:∀{r i:Nat} {last:Int},(∀j,i≤j→j<i+r→nfB (T j)=true∧0<(T j).n)→(∀j,i≤j→j+1<i+r→col j<col (j+1))→(0<r→last<col i)→tfr col T r i last=true:=by
 intro r
 induction r with
 | zero=>intro i last _ _ _;rfl
 | succ r ih =>
  intro i last h1 h2 h3;simp only [tfr,Bool.and_eq_true,decide_eq_true_eq];exact ⟨h3 (by omega),(h1 i (by omega) (by omega)).1,(h1 i (by omega) (by omega)).2,ih (fun j a b=>h1 j (by omega) (by omega)) (fun j a b=>h2 j (by omega) (by omega)) (fun h=>h2 i (by omega) (by omega))⟩
theorem afr_of {X:Nat→Nm}:∀{r i:Nat},(∀j,i≤j→j<i+r→nfB (X j)=true)→afr X r i=true:=by
 intro r
 induction r with
 | zero=>intro i _;rfl
 | succ r ih =>
  intro i h;simp only [afr,Bool.and_eq_true];exact ⟨h i (by omega) (by omega),ih (fun j a b=>h j (by omega) (by omega))⟩
theorem rOf0_c (W:World):Calls Tryz.prog 58 #[.int .i64 0] W fun e w'=>RatAns 4 W w' e 0:=by
 have h:=rOf_c (w:=W) (z:=0) (by decide) (by decide);simpa using h
theorem Tf.mono {L L' w ao v} (h:Tf L w ao v) (hL:L≤L'):Tf L' w ao v:=fun j a q hj=>by
 obtain ⟨b,o,t,e,h1,h2⟩:=h j a q hj;exact ⟨b,o,t,e,h1,h2.mono hL⟩
theorem Rf.mono {L L' w ao p} (h:Rf L w ao p) (hL:L≤L'):Rf L' w ao p:=fun j q hj=>by
 obtain ⟨b,o,t,e,h1,h2⟩:=h j q hj;exact ⟨b,o,t,e,h1,h2.mono hL⟩
def rcell (t:Nm):List Value:=[.bool t.s,.slice t.x t.n t.c,.slice t.y t.m t.d]
def rcells (l:List Nm):List Value:=l.flatMap rcell
theorem rcells_get {l:List Nm} {j:Nat} {t:Nm} (h:l[j]?=some t) (i:Nat) (hi:i<3):(rcells l)[j*3+i]?=(rcell t)[i]?:=by
 induction l generalizing j with
 | nil=>simp at h
 | cons u l ih =>
  have e:rcells (u :: l)=rcell u++rcells l:=by simp [rcells]
  rw [e];cases j with
  | zero =>
   simp at h;subst h
   rw [Nat.zero_mul,Nat.zero_add,List.getElem?_append_left (by show i<3;exact hi)]
  | succ j =>
   rw [List.getElem?_append_right (by show 3≤_;omega),show (j+1)*3+i-(rcell u).length=j*3+i by show (j+1)*3+i-3=_;omega];exact ih (by simpa using h)
theorem step_append_G {P:Program} (w:World) {ops:Array Oper} {o:Oper} {a:Act} {K:Act→World→Prop} {Q:Exit→Act→World→Prop} {E:Prop} (hgd:o.guard=none) (s x:Operand) (t:TypeId)
  (ho:o.op=.call { callee:=.builtin .append,args:=#[s,x],argTypes:=#[t,t] })
  (base:Nat) (e:TypeId) (i:TypeInfo) (z:Value) (size bytes:Nat) (ht:P.underlying t=some (.slice e)) (hi:P.info? e=some i) (hz:i.zero=some z)
  (hsize:i.size=size) (hby:i.bytes=bytes) (hzs:z.cells.size=size) (hsz:0<size) (hzu:NoU z.cells)
  (v:Value) (n:Nat) (xs:List Value) (hs:a.eval s=v) (hown:RowG e size base w v n xs)
  (ad:Addr) (m c:Nat) (news:List Value) (hx:a.eval x=.slice (some ad) m c) (hl:news.length=m*size) (hnews:∀j u,news[j]?=some u→w.cell? (ad.add j)=some u) (h1:∀u ∈ news,u.oneCell'=true) (hnu:∀u ∈ news,∀z,u≠.int .u64 z)
  (hm0:0<m) (h63:n+m≤maxLen) (hbytes:(n+m)*bytes≤140737488355328) (hbase:base≤w.heap.size)
  (hK:∀g cap' w',RowG e size base w' (.slice (some ⟨g,0,none⟩) (n+m) cap') (n+m) (xs++news)→w.grownBy w' v.ownBlock→Kp w w'→K (a.put o.dst (.slice (some ⟨g,0,none⟩) (n+m) cap')) w'):if Region.wanted o (yielded ops a.tmps)=true then Oper.wp P o a w K Q else E:=by
 subst hsize;subst hby
 obtain ⟨v',w',hrun,h1',h2',h3'⟩:=run_append_own (P:=P) w base t o.type e i z i.size i.bytes ht hi hz rfl rfl hzs hsz v n xs hown.owns ad m c news hl hnews h1 h63 hbytes hbase;have hlen:(xs++news).length=(n+m)*i.size:=by rw [List.length_append,hown.1,hl,Nat.add_mul]
 have hzc:∀k,NoU (Builtin.zeroCells z.cells k):=by
  intro k j y hj;simp only [Builtin.zeroCells] at hj;have hm:=Array.mem_of_getElem? hj;obtain ⟨q,_,he⟩:=Array.mem_map.1 hm;have hlt:q%z.cells.size<z.cells.size:=Nat.mod_lt _ (by omega);rw [getElem!_pos z.cells (q%z.cells.size) hlt] at he;exact hzu (q%z.cells.size) y (by rw [Array.getElem?_eq_getElem hlt,he])
 have hnu':NoU news.toArray:=nou_list hnu;have hw:∃g cap' cur',v'=.slice (some ⟨g,0,none⟩) (n+m) cap'∧base≤g∧w'.heap[g]?=some (.cells cur' e (0,0))∧n+m≤cap'∧cap'≤maxLen∧cur'.size=cap'*i.size∧cur'.toList.take ((n+m)*i.size)=xs++news∧NoU cur'∧Kp w w':=by
  have hsm:n+m≤9223372036854775807:=by unfold maxLen at h63;omega
  rcases h1'.2 with ⟨hv0,hn0⟩ | ⟨g',cap',cur',hv',hb',hg',hn',hc',hs',ht'⟩
  ·omega
  ·refine ⟨g',cap',cur',hv',hb',hg',hn',hc',hs',ht',?_⟩;rcases hown.2 with ⟨rfl,rfl⟩ | ⟨g,cap,cur,rfl,hbg,hg,hnc,hcm,hcs,htake,hnuc⟩
   ·have hx0:xs=[]:=List.eq_nil_of_length_eq_zero (by simpa using hown.1);subst hx0;have e1:=run_append_nil (P:=P) w t o.type e i z ht hi hz ad m c news hl hnews hm0 (by omega) (by rw [Nat.zero_add] at hbytes;omega);rw [e1] at hrun;injection hrun with e2 e3;subst e3;rw [hv'] at e2;injection e2 with e4;injection e4 with e5;injection e5 with e6;subst e6;have e7:=heap_alloc_new w.drew (.cells (news.toArray++Builtin.zeroCells z.cells (grownCap w m 0 e-m)) e);rw [show w.heap.size=w.drew.heap.size from rfl,e7] at hg';injection hg' with e8;injection e8 with e9;rw [←e9];exact ⟨nou_append hnu' (hzc _),(Kp.refl w).drew.alloc _⟩
   ·by_cases hroom:n+m≤cap
    ·have e1:=run_append_room (P:=P) w t o.type e i ht hi g n cap cur hg ad m c news hl hnews h1 hroom (by rw [hl,hcs,←Nat.add_mul];exact Nat.mul_le_mul_right _ hroom);rw [e1] at hrun;injection hrun with e2 e3;rw [hv'] at e2;injection e2 with e4;injection e4 with e5;injection e5 with e6;subst e6;have e7:w'.heap[g]?=some (.cells (cur.toList.take (n*i.size)++news++cur.toList.drop (n*i.size+news.length)).toArray e (0,0)):=by rw [←e3];exact setRow_heap w g cur _ e _ hg
     rw [e7] at hg';injection hg' with e8;injection e8 with e9;rw [←e9];refine ⟨nou_list ?_,h2'.os,h2'.tape,h2'.output,h2'.size,fun k hk=>?_⟩
     ·intro u hu;rcases List.mem_append.1 hu with hu | hu
      ·rcases List.mem_append.1 hu with hu | hu
       ·exact nou_mem hnuc u (List.mem_of_mem_take hu)
       ·exact hnu u hu
      ·exact nou_mem hnuc u (List.mem_of_mem_drop hu)
     ·by_cases hkg:k=g
      ·subst hkg;exact .inr ⟨cur,e,(0,0),hg,hnuc⟩
      ·exact .inl (h2'.block k hk (fun e=>hkg (by simpa [Value.ownBlock] using e)))
    ·have holds:∀j u,xs[j]?=some u→w.cell? ((⟨g,0,none⟩:Addr).add j)=some u:=World.ownsRow.cells hown.owns (g:=g) rfl;have e1:=run_append_grow (P:=P) w t o.type e i z ht hi hz ⟨g,0,none⟩ n cap xs hown.1 holds ad m c news hl hnews (by omega) (by omega) (growslice_fits (by omega) hbytes);rw [e1] at hrun;injection hrun with e2 e3;subst e3;rw [hv'] at e2;injection e2 with e4;injection e4 with e5;injection e5 with e6;subst e6;have e7:=heap_alloc_new w.drew (.cells (xs.toArray++news.toArray++Builtin.zeroCells z.cells (grownCap w (n+m) cap e-(n+m))) e);rw [show w.heap.size=w.drew.heap.size from rfl,e7] at hg';injection hg' with e8;injection e8 with e9;rw [←e9];refine ⟨nou_append (nou_append (nou_list ?_) hnu') (hzc _),(Kp.refl w).drew.alloc _⟩;intro u hu;rw [←htake] at hu;exact nou_mem hnuc u (List.mem_of_mem_take hu)
 obtain ⟨g,cap',cur',rfl,a1,a2,a3,a4,a5,a6,a7,a8⟩:=hw;have hwt:Region.wanted o (yielded ops a.tmps)=true:=by simp [Region.wanted,hgd]
 rw [if_pos hwt];unfold Oper.wp execOp;simp only [ho,resolve,invoke,builtin,Sem.run_bind,Sem.run_pure,Result.andThen_ok,List.map_toArray,List.map_cons,List.map_nil,hs,hx,hrun];exact hK g cap' w' ⟨hlen,.inr ⟨g,cap',cur',rfl,a1,a2,a3,a4,a5,a6,a7⟩⟩ h2' a8
theorem step_append_one {P:Program} (w0:World) {ops:Array Oper} {o:Oper} {a:Act} {K:Act→World→Prop} {Q:Exit→Act→World→Prop} {E:Prop} (hgd:o.guard=none) (s x:Operand) (t:TypeId)
  (ho:o.op=.call { callee:=.builtin .append,args:=#[s,x],argTypes:=#[t,t] })
  (base:Nat) (e:TypeId) (bytes sz:Nat) (z:Value) (ht:P.underlying t=some (.slice e)) (hi:(P.info? e).map (fun i=>(i.zero,i.size,i.bytes))=some (some z,sz,bytes)) (hzs:z.cells.size=sz) (hsz:0<sz) (hzu:NoU z.cells)
  (v:Value) (n:Nat) (xs:List Value) (hs:a.eval s=v) (hown:RowG e sz base w0 v n xs) (c:Array Value) (hx:a.eval x=.slice (some ⟨w0.heap.size,0,none⟩) 1 1) (hc:c.size=sz) (h1:∀u ∈ c.toList,u.oneCell'=true) (hnu:∀u ∈ c.toList,∀q,u≠.int .u64 q) (hn:n≤1000000) (hby:bytes≤1000) (hbase:base≤w0.heap.size)
  (hK:∀g cap' w',RowG e sz base w' (.slice (some ⟨g,0,none⟩) (n+1) cap') (n+1) (xs++c.toList)→Kp w0 w'→(∀b0:World,Below b0.heap.size b0 w0→b0.heap.size≤base→Below b0.heap.size b0 w')→(∀k,k<w0.heap.size→v.ownBlock≠some k→w'.heap[k]?=w0.heap[k]?)→K (a.put o.dst (.slice (some ⟨g,0,none⟩) (n+1) cap')) w'):if Region.wanted o (yielded ops a.tmps)=true then Oper.wp P o a (w0.alloc (.cells c e)) K Q else E:=by
 obtain ⟨i,hi,hz0,hz1,hz2⟩:=info_parts hi;have hal:=below_alloc (Below.refl w0.heap.size w0) (.cells c e);have hblk:=heap_alloc_new w0 (.cells c e);have hrow:=hown.below hal;refine step_append_G (w0.alloc (.cells c e)) hgd s x t ho base e i z sz bytes ht hi hz0 hz1 hz2 hzs hsz hzu v n xs hs hrow ⟨w0.heap.size,0,none⟩ 1 1 c.toList hx (by simp [hc]) (fun j u hu=>?_) h1 hnu (by decide) (by unfold maxLen;omega) ?_ (by simp;omega) ?_
 ·rw [addr_add,Nat.zero_add];simp only [World.cell?,hblk];simpa using hu
 ·have:(n+1)*bytes≤1000001*1000:=Nat.mul_le_mul (by omega) hby;omega
 ·intro g cap' w' hr hgr hkp;refine hK g cap' w' hr ((Kp.of_below hal).trans hkp) (fun b0 hb hle=>?_) (fun k hk hne=>(hgr.block k (by simp;omega) (fun e=>hne e.symm)).trans (hal.block k hk));have h2:Below b0.heap.size b0 (w0.alloc (.cells c e)):=hb.trans (hal.mono hb.size);exact h2.grown hgr (by have:=hb.size;simp;omega) (fun k hk=>by have:=(hrow.lt k hk).1;omega)
theorem wpList_append_one {P:Program} (w0:World) {ops:Array Oper} {rest:List Oper} {o:Oper} {a:Act} {Q:Exit→Act→World→Prop} (hgd:o.guard=none) (s x:Operand) (t:TypeId)
  (ho:o.op=.call { callee:=.builtin .append,args:=#[s,x],argTypes:=#[t,t] })
  (base:Nat) (e:TypeId) (bytes sz:Nat) (z:Value) (ht:P.underlying t=some (.slice e)) (hi:(P.info? e).map (fun i=>(i.zero,i.size,i.bytes))=some (some z,sz,bytes)) (hzs:z.cells.size=sz) (hsz:0<sz) (hzu:NoU z.cells)
  (v:Value) (n:Nat) (xs:List Value) (hs:a.eval s=v) (hown:RowG e sz base w0 v n xs) (c:Array Value) (hx:a.eval x=.slice (some ⟨w0.heap.size,0,none⟩) 1 1) (hc:c.size=sz) (h1:∀u ∈ c.toList,u.oneCell'=true) (hnu:∀u ∈ c.toList,∀q,u≠.int .u64 q) (hn:n≤1000000) (hby:bytes≤1000) (hbase:base≤w0.heap.size)
  (hK:∀g cap' w',RowG e sz base w' (.slice (some ⟨g,0,none⟩) (n+1) cap') (n+1) (xs++c.toList)→Kp w0 w'→(∀b0:World,Below b0.heap.size b0 w0→b0.heap.size≤base→Below b0.heap.size b0 w')→(∀k,k<w0.heap.size→v.ownBlock≠some k→w'.heap[k]?=w0.heap[k]?)→wpList P ops Q rest (a.put o.dst (.slice (some ⟨g,0,none⟩) (n+1) cap')) w'):wpList P ops Q (o :: rest) a (w0.alloc (.cells c e)):=by
 obtain ⟨i,hi,hz0,hz1,hz2⟩:=info_parts hi;have hal:=below_alloc (Below.refl w0.heap.size w0) (.cells c e);have hblk:=heap_alloc_new w0 (.cells c e);have hrow:=hown.below hal;refine wpList_append_G (w0.alloc (.cells c e)) hgd s x t ho base e i z sz bytes ht hi hz0 hz1 hz2 hzs hsz hzu v n xs hs hrow ⟨w0.heap.size,0,none⟩ 1 1 c.toList hx (by simp [hc]) (fun j u hu=>?_) h1 hnu (by decide) (by unfold maxLen;omega) ?_ (by simp;omega) ?_
 ·rw [addr_add,Nat.zero_add];simp only [World.cell?,hblk];simpa using hu
 ·have:(n+1)*bytes≤1000001*1000:=Nat.mul_le_mul (by omega) hby;omega
 ·intro g cap' w' hr hgr hkp;refine hK g cap' w' hr ((Kp.of_below hal).trans hkp) (fun b0 hb hle=>?_) (fun k hk hne=>(hgr.block k (by simp;omega) (fun e=>hne e.symm)).trans (hal.block k hk));have h2:Below b0.heap.size b0 (w0.alloc (.cells c e)):=hb.trans (hal.mono hb.size);exact h2.grown hgr (by have:=hb.size;simp;omega) (fun k hk=>by have:=(hrow.lt k hk).1;omega)
theorem one4 (z:Int) (s:Bool) (x:Option Addr) (n c:Nat) (y:Option Addr) (m d:Nat):∀u ∈ (#[Value.int .i64 z,.bool s,.slice x n c,.slice y m d]:Array Value).toList,u.oneCell'=true:=by
 intro u hu;simp at hu;rcases hu with rfl | rfl | rfl | rfl <;> rfl
theorem not4 (z:Int) (s:Bool) (x:Option Addr) (n c:Nat) (y:Option Addr) (m d:Nat):∀u ∈ (#[Value.int .i64 z,.bool s,.slice x n c,.slice y m d]:Array Value).toList,∀q,u≠.int .u64 q:=by
 intro u hu q;simp at hu;rcases hu with rfl | rfl | rfl | rfl <;> simp
theorem one3 (s:Bool) (x:Option Addr) (n c:Nat) (y:Option Addr) (m d:Nat):∀u ∈ (#[Value.bool s,.slice x n c,.slice y m d]:Array Value).toList,u.oneCell'=true:=by
 intro u hu;simp at hu;rcases hu with rfl | rfl | rfl <;> rfl
theorem not3 (s:Bool) (x:Option Addr) (n c:Nat) (y:Option Addr) (m d:Nat):∀u ∈ (#[Value.bool s,.slice x n c,.slice y m d]:Array Value).toList,∀q,u≠.int .u64 q:=by
 intro u hu q;simp at hu;rcases hu with rfl | rfl | rfl <;> simp
theorem nz4:NoU (Value.agg #[.int .i64 0,.bool false,.slice none 0 0,.slice none 0 0]).cells:=nou_list (l:=[Value.int .i64 0,.bool false,.slice none 0 0,.slice none 0 0]) (not4 0 false none 0 0 none 0 0)
theorem nz3:NoU (Value.agg #[.bool false,.slice none 0 0,.slice none 0 0]).cells:=nou_list (l:=[Value.bool false,.slice none 0 0,.slice none 0 0]) (not3 false none 0 0 none 0 0)
theorem RowG.drew {e sz base w v n xs} (h:RowG e sz base w v n xs):RowG e sz base w.drew v n xs:=h
theorem Rw.kp {w w' x n c f y m d g} (h:Rw w x n c f y m d g) (hk:Kp w w'):Rw w' x n c f y m d g:=⟨h.rx.kp hk,h.lx,h.cx,h.nx,h.ry.kp hk,h.ly,h.cy,h.ny⟩
def tls (i:Nat) (col:Nat→Int) (T:Nat→Nm):List (Int × Nm):=(List.range i).map (fun j=>(col j,T j))
def putN (T:Nat→Nm) (i:Nat) (t:Nm):Nat→Nm:=fun j=>if j=i then t else T j
theorem putN_at (T:Nat→Nm) (i:Nat) (t:Nm):putN T i t i=t:=by simp [putN]
theorem putN_ne {T:Nat→Nm} {i j:Nat} {t:Nm} (h:j≠i):putN T i t j=T j:=by simp [putN,h]
theorem tls_put (i:Nat) (col:Nat→Int) (T:Nat→Nm) (t:Nm):tcells (tls (i+1) col (putN T i t))=tcells (tls i col T)++tcell (col i) t:=by
 have e:tls (i+1) col (putN T i t)=tls i col T++[(col i,t)]:=by
  unfold tls;rw [List.range_succ,List.map_append,List.map_singleton,putN_at]
  congr 1
  apply List.map_congr_left;intro j hj;rw [putN_ne (by have:=List.mem_range.1 hj;omega)]
 rw [e,tcells_append]
theorem tls_get {i j:Nat} {col:Nat→Int} {T:Nat→Nm} (h:j<i):(tls i col T)[j]?=some (col j,T j):=by simp [tls,h]
def rls (i:Nat) (T:Nat→Nm):List Nm:=(List.range i).map T
theorem rls_put (i:Nat) (T:Nat→Nm) (t:Nm):rcells (rls (i+1) (putN T i t))=rcells (rls i T)++rcell t:=by
 have e:rls (i+1) (putN T i t)=rls i T++[t]:=by
  unfold rls;rw [List.range_succ,List.map_append,List.map_singleton,putN_at]
  congr 1
  apply List.map_congr_left;intro j hj;rw [putN_ne (by have:=List.mem_range.1 hj;omega)]
 rw [e];simp [rcells]
theorem rls_get {i j:Nat} {T:Nat→Nm} (h:j<i):(rls i T)[j]?=some (T j):=by simp [rls,h]
theorem rowg_c4 {e:TypeId} {base i:Nat} {w:World} {ao:Option Addr} {cap:Nat} {col:Nat→Int} {T:Nat→Nm} (h:RowG e 4 base w (.slice ao i cap) i (tcells (tls i col T))) {j:Nat} (hj:j<i):∃b,ao=some ⟨b,0,none⟩∧C4 w b (0+j*4) (.int .i64 (col j)) (.bool (T j).s) (.slice (T j).x (T j).n (T j).c) (.slice (T j).y (T j).m (T j).d):=by
 rcases h.2 with ⟨hv,h0⟩ | ⟨g,cap',cur,hv,_⟩
 ·omega
 ·cases hv
  have hc:∀q,q<4→w.cell? ⟨g,0+j*4+q,none⟩=(tcell (col j) (T j))[q]?:=fun q hq=>by
   rw [Nat.zero_add];have e1:=tcells_get (tls_get (col:=col) (T:=T) hj) q hq;obtain ⟨u,hu⟩:∃u,(tcell (col j) (T j))[q]?=some u:=⟨_,List.getElem?_eq_getElem (by show q<4;exact hq)⟩;rw [hu] at e1 ⊢;exact h.cells e1
  exact ⟨g,rfl,⟨hc 0 (by decide),hc 1 (by decide),hc 2 (by decide),hc 3 (by decide)⟩⟩
theorem rowg_c3 {e:TypeId} {base i:Nat} {w:World} {ao:Option Addr} {cap:Nat} {T:Nat→Nm} (h:RowG e 3 base w (.slice ao i cap) i (rcells (rls i T))) {j:Nat} (hj:j<i):∃b,ao=some ⟨b,0,none⟩∧C3 w b (0+j*3) (.bool (T j).s) (.slice (T j).x (T j).n (T j).c) (.slice (T j).y (T j).m (T j).d):=by
 rcases h.2 with ⟨hv,h0⟩ | ⟨g,cap',cur,hv,_⟩
 ·omega
 ·cases hv
  have hc:∀q,q<3→w.cell? ⟨g,0+j*3+q,none⟩=(rcell (T j))[q]?:=fun q hq=>by
   rw [Nat.zero_add];have e1:=rcells_get (rls_get (T:=T) hj) q hq;obtain ⟨u,hu⟩:∃u,(rcell (T j))[q]?=some u:=⟨_,List.getElem?_eq_getElem (by show q<3;exact hq)⟩;rw [hu] at e1 ⊢;exact h.cells e1
  exact ⟨g,rfl,⟨hc 0 (by decide),hc 1 (by decide),hc 2 (by decide)⟩⟩
theorem Tryz.infoStr:(Tryz.prog.info? 9).map (fun i=>(i.zero,i.size,i.bytes))=some (some (.string .empty),1,16):=by kernel_rfl
theorem one1 (s:ByteArray):∀u ∈ (#[Value.string s]:Array Value).toList,u.oneCell'=true:=by
 intro u hu;simp at hu;subst hu;rfl
theorem not1 (s:ByteArray):∀u ∈ (#[Value.string s]:Array Value).toList,∀q,u≠.int .u64 q:=by
 intro u hu q;simp at hu;subst hu;simp
theorem nz1:NoU (Value.string .empty).cells:=nou_list (l:=[Value.string .empty]) (not1 .empty)
def sls (S:Nat→ByteArray) (i:Nat):List Value:=(List.range i).map fun j=>Value.string (S j)
theorem sls_succ (S:Nat→ByteArray) (i:Nat):sls S (i+1)=sls S i++[.string (S i)]:=by
 unfold sls;rw [List.range_succ,List.map_append,List.map_singleton]
theorem rowg_sl {e:TypeId} {base i:Nat} {w:World} {ao:Option Addr} {cap:Nat} {S:Nat→ByteArray} (h:RowG e 1 base w (.slice ao i cap) i (sls S i)) (hs:∀j,j<i→(S j).size≤9223372036854775807):Sl w ao i S:=fun j hj=>by
 rcases h.2 with ⟨hv,h0⟩ | ⟨g,cap',cur,hv,_⟩
 ·omega
 ·cases hv
  refine ⟨g,0,rfl,?_,hs j hj⟩;rw [Nat.zero_add];exact h.cells (by simp [sls,hj])
def NmsAns (w w':World) (e:Ending) (M:Mo):Prop:=∃xa xc ya yc,e=.returned (.tuple #[.slice xa M.ck xc,.slice ya M.rk yc])∧Below w.heap.size w w'∧Sl w' xa M.ck (fun j=>(M.C j).nm)∧Sl w' ya M.rk (fun j=>(M.R j).nm)
set_option maxRecDepth 100000 in
set_option maxHeartbeats 4000000 in
theorem names_c {w:World} {M:Mo} (h:MoR w M) (hc64:M.ck≤1000) (hr64:M.rk≤1000):Calls Tryz.prog 47 #[M.val] w fun r w'=>NmsAns w w' r M:=by
 obtain ⟨⟨s,x,n,c,f,y,m,d,g⟩,ca,ck,cc,C,ra,rk,rc,R⟩:=M;obtain ⟨ho,hC,hR,hck,hrk⟩:=h;replace hck:ck≤1000:=hc64;replace hrk:rk≤1000:=hr64;have HC:Hid (Cls w ca ck C):=hC;have HRL:Hid (Rls w ra rk R):=hR;have HCN:=hid (show ∀j,j<ck→(C j).nm.size≤9223372036854775807 from fun j hj=>by obtain ⟨_,_,_,_,h2⟩:=hC j hj;exact h2.nm);have HRN:=hid (show ∀j,j<rk→(R j).nm.size≤9223372036854775807 from fun j hj=>by obtain ⟨_,_,_,_,h2⟩:=hR j hj;exact h2.nm);clear ho hC hR hc64 hr64;show Calls Tryz.prog 47 #[.agg #[.bool s,.slice x n c,.slice y m d,.slice ca ck cc,.slice ra rk rc]] w _;go_enter Tryz.func47,Tryz.ntmps47;go_wp2_with fail
 have HB1:=hid (below_alloc (Below.refl w.heap.size w) (.cells #[.bool s,.slice x n c,.slice y m d,.slice ca ck cc,.slice ra rk rc] 28));have HK4:=hid (show (w.alloc (.cells #[.bool s,.slice x n c,.slice y m d,.slice ca ck cc,.slice ra rk rc] 28)).cell? ⟨w.heap.size,4,none⟩=some (.slice ra rk rc) from by simp [go_sem]);obtain ⟨w1,hw1⟩:∃z,w.alloc (.cells #[.bool s,.slice x n c,.slice y m d,.slice ca ck cc,.slice ra rk rc] 28)=z:=⟨_,rfl⟩;rw [hw1] at HB1 HK4 ⊢;clear hw1;go_loopw [2,11] (fun ov t wr=>∃(i:Nat),i≤ck∧t=.int .i64 i∧Hid (Below w1.heap.size w1 wr)∧Hid (RowG 9 1 w1.heap.size wr ov i (sls (fun j=>(C j).nm) i))) (fun _ t _=>ck-(intOf t).toNat)
 case atStart=>exact ⟨0,by omega,rfl,Below.refl _ _,rowG_nil _ _ _ _⟩
 case round =>
  obtain ⟨i,hi,rfl,HB,HRow⟩:=hrel;by_cases hlt:i<ck
  ·obtain ⟨b,o,rfl,hc,hn⟩:=(HC.out.below (HB1.out.trans (HB.out.mono HB1.out.size))) i hlt;obtain ⟨⟨z,⟨s0,x0,n0,c0,f0,y0,m0,d0,g0⟩,⟨i1,⟨s1,x1,n1,c1,f1,y1,m1,d1,g1⟩⟩,⟨i2,⟨s2,x2,n2,c2,f2,y2,m2,d2,g2⟩⟩⟩,hCi⟩:∃t,C i=t:=⟨_,rfl⟩;rw [hCi] at hc;have q0:wr.cell? ⟨b,o+i*12,none⟩=some (.string z):=hc 0 _ rfl;have q1:wr.cell? ⟨b,o+i*12+1,none⟩=some (.bool s0):=hc 1 _ rfl;have q2:wr.cell? ⟨b,o+i*12+2,none⟩=some (.slice x0 n0 c0):=hc 2 _ rfl;have q3:wr.cell? ⟨b,o+i*12+3,none⟩=some (.slice y0 m0 d0):=hc 3 _ rfl;have q4:wr.cell? ⟨b,o+i*12+4,none⟩=some (.int .i64 i1):=hc 4 _ rfl;have q5:wr.cell? ⟨b,o+i*12+5,none⟩=some (.bool s1):=hc 5 _ rfl;have q6:wr.cell? ⟨b,o+i*12+6,none⟩=some (.slice x1 n1 c1):=hc 6 _ rfl;have q7:wr.cell? ⟨b,o+i*12+7,none⟩=some (.slice y1 m1 d1):=hc 7 _ rfl;have q8:wr.cell? ⟨b,o+i*12+8,none⟩=some (.int .i64 i2):=hc 8 _ rfl;have q9:wr.cell? ⟨b,o+i*12+9,none⟩=some (.bool s2):=hc 9 _ rfl;have q10:wr.cell? ⟨b,o+i*12+10,none⟩=some (.slice x2 n2 c2):=hc 10 _ rfl;have q11:wr.cell? ⟨b,o+i*12+11,none⟩=some (.slice y2 m2 d2):=hc 11 _ rfl;have HZ:=hid (show (C i).nm=z from by rw [hCi]);have i1':((i:Nat):Int)<((ck:Nat):Int):=by omega
   have hb5:=below_alloc (Below.refl wr.heap.size wr) (.cells #[.string z,.bool s0,.slice x0 n0 c0,.slice y0 m0 d0,.int .i64 i1,.bool s1,.slice x1 n1 c1,.slice y1 m1 d1,.int .i64 i2,.bool s2,.slice x2 n2 c2,.slice y2 m2 d2] 58);have HRow5:=hid (HRow.out.below hb5);have HB5:=hid (HB.out.trans (hb5.mono HB.out.size))
   have k0:(wr.alloc (.cells #[.string z,.bool s0,.slice x0 n0 c0,.slice y0 m0 d0,.int .i64 i1,.bool s1,.slice x1 n1 c1,.slice y1 m1 d1,.int .i64 i2,.bool s2,.slice x2 n2 c2,.slice y2 m2 d2] 58)).cell? ⟨wr.heap.size,0,none⟩=some (.string z):=by simp [go_sem]
   clear hCi hc hn hb5;go_upto_region 4 with fail
   clear q0 q1 q2 q3 q4 q5 q6 q7 q8 q9 q10 q11 HB HRow;generalize wr.alloc (.cells #[.string z,.bool s0,.slice x0 n0 c0,.slice y0 m0 d0,.int .i64 i1,.bool s1,.slice x1 n1 c1,.slice y1 m1 d1,.int .i64 i2,.bool s2,.slice x2 n2 c2,.slice y2 m2 d2] 58)=w6 at *;have hsz:=HB5.out.size;go_wp2_with (at_builtin;go_must (refine wpList_append_one w6 rfl (.tmp 15) (.tmp 18) 95 rfl w1.heap.size 9 16 1 (.string .empty) Tryz.underlying95 Tryz.infoStr rfl (by decide) nz1 u2 i (sls (fun j=>(C j).nm) i) rfl HRow5.out #[.string z] rfl rfl (one1 _) (not1 _) ?p1 (by decide) hsz ?_))
   case p1=>omega
   intro g8 cap8 w8 hr8 hk8 hb8 hg8;have HB8:=hid (hb8 w1 HB5.out (Nat.le_refl _));have HR8:Hid (RowG 9 1 w1.heap.size w8 (.slice (some ⟨g8,0,none⟩) (i+1) cap8) (i+1) (sls (fun j=>(C j).nm) (i+1))):=by
    show RowG _ _ _ _ _ _ _;rw [sls_succ,HZ.out];exact hr8
   clear hr8 hk8 hb8 hg8 HRow5 HB5 hsz k0;go_wp2;go_roundw
   case rel=>exact ⟨i+1,by omega,by go_num,HB8.out,HR8.out⟩
   case measure=>simp [intOf];omega
  ·have e1:i=ck:=by omega
   have i2:¬(((i:Nat):Int)<((ck:Nat):Int)):=by omega
   rw [e1] at HRow;obtain ⟨xa,xc,rfl⟩:=HRow.out.slice;have k4:=kCb HB.out HK4.out;have HB5:=hid (HB1.out.trans (HB.out.mono HB1.out.size));have HSX:=hid (rowg_sl HRow.out HCN.out);clear e1 HB HC HK4 HB1 HRow;generalize wr=wa at *;go_wp2_with fail
   go_loopw [3,24] (fun ov t wr=>∃(i:Nat),i≤rk∧t=.int .i64 i∧Hid (Below wa.heap.size wa wr)∧Hid (RowG 9 1 wa.heap.size wr ov i (sls (fun j=>(R j).nm) i))) (fun _ t _=>rk-(intOf t).toNat)
   case atStart=>exact ⟨0,by omega,rfl,Below.refl _ _,rowG_nil _ _ _ _⟩
   case round =>
    obtain ⟨i,hi,rfl,HB,HRow⟩:=hrel;by_cases hlt:i<rk
    ·obtain ⟨b,o,rfl,hc,hn⟩:=(HRL.out.below (HB5.out.trans (HB.out.mono HB5.out.size))) i hlt;obtain ⟨⟨z,⟨i1,⟨s1,x1,n1,c1,f1,y1,m1,d1,g1⟩⟩,⟨i2,⟨s2,x2,n2,c2,f2,y2,m2,d2,g2⟩⟩,ta,tk,tc,tcol,tt⟩,hCi⟩:∃t,R i=t:=⟨_,rfl⟩;rw [hCi] at hc;have q0:wr.cell? ⟨b,o+i*10,none⟩=some (.string z):=hc 0 _ rfl;have q1:wr.cell? ⟨b,o+i*10+1,none⟩=some (.int .i64 i1):=hc 1 _ rfl;have q2:wr.cell? ⟨b,o+i*10+2,none⟩=some (.bool s1):=hc 2 _ rfl;have q3:wr.cell? ⟨b,o+i*10+3,none⟩=some (.slice x1 n1 c1):=hc 3 _ rfl;have q4:wr.cell? ⟨b,o+i*10+4,none⟩=some (.slice y1 m1 d1):=hc 4 _ rfl;have q5:wr.cell? ⟨b,o+i*10+5,none⟩=some (.int .i64 i2):=hc 5 _ rfl;have q6:wr.cell? ⟨b,o+i*10+6,none⟩=some (.bool s2):=hc 6 _ rfl;have q7:wr.cell? ⟨b,o+i*10+7,none⟩=some (.slice x2 n2 c2):=hc 7 _ rfl;have q8:wr.cell? ⟨b,o+i*10+8,none⟩=some (.slice y2 m2 d2):=hc 8 _ rfl;have q9:wr.cell? ⟨b,o+i*10+9,none⟩=some (.slice ta tk tc):=hc 9 _ rfl;have HZ:=hid (show (R i).nm=z from by rw [hCi]);have i1':((i:Nat):Int)<((rk:Nat):Int):=by omega
     have hb5:=below_alloc (Below.refl wr.heap.size wr) (.cells #[.string z,.int .i64 i1,.bool s1,.slice x1 n1 c1,.slice y1 m1 d1,.int .i64 i2,.bool s2,.slice x2 n2 c2,.slice y2 m2 d2,.slice ta tk tc] 61);have HRow5:=hid (HRow.out.below hb5);have HB6:=hid (HB.out.trans (hb5.mono HB.out.size))
     have k0:(wr.alloc (.cells #[.string z,.int .i64 i1,.bool s1,.slice x1 n1 c1,.slice y1 m1 d1,.int .i64 i2,.bool s2,.slice x2 n2 c2,.slice y2 m2 d2,.slice ta tk tc] 61)).cell? ⟨wr.heap.size,0,none⟩=some (.string z):=by simp [go_sem]
     clear hCi hc hn hb5;go_upto_region 9 with fail
     clear q0 q1 q2 q3 q4 q5 q6 q7 q8 q9 HB HRow;generalize wr.alloc (.cells #[.string z,.int .i64 i1,.bool s1,.slice x1 n1 c1,.slice y1 m1 d1,.int .i64 i2,.bool s2,.slice x2 n2 c2,.slice y2 m2 d2,.slice ta tk tc] 61)=w6 at *;have hsz:=HB6.out.size;go_wp2_with (at_builtin;go_must (refine wpList_append_one w6 rfl (.tmp 28) (.tmp 31) 95 rfl wa.heap.size 9 16 1 (.string .empty) Tryz.underlying95 Tryz.infoStr rfl (by decide) nz1 u3 i (sls (fun j=>(R j).nm) i) rfl HRow5.out #[.string z] rfl rfl (one1 _) (not1 _) ?p1 (by decide) hsz ?_))
     case p1=>omega
     intro g8 cap8 w8 hr8 hk8 hb8 hg8;have HB8:=hid (hb8 wa HB6.out (Nat.le_refl _));have HR8:Hid (RowG 9 1 wa.heap.size w8 (.slice (some ⟨g8,0,none⟩) (i+1) cap8) (i+1) (sls (fun j=>(R j).nm) (i+1))):=by
      show RowG _ _ _ _ _ _ _;rw [sls_succ,HZ.out];exact hr8
     clear hr8 hk8 hb8 hg8 HRow5 HB6 hsz k0;go_wp2;go_roundw
     case rel=>exact ⟨i+1,by omega,by go_num,HB8.out,HR8.out⟩
     case measure=>simp [intOf];omega
    ·have e1:i=rk:=by omega
     have i2:¬(((i:Nat):Int)<((rk:Nat):Int)):=by omega
     rw [e1] at HRow;obtain ⟨ya,yc,rfl⟩:=HRow.out.slice;have HB6:=hid (HB5.out.trans (HB.out.mono HB5.out.size));have HSY:=hid (rowg_sl HRow.out HRN.out);have HSX2:=hid (HSX.out.below HB.out);clear e1 HB HRow HSX;go_wp2
     go_ret2
     exact ⟨xa,xc,ya,yc,rfl,HB6.out,HSX2.out,HSY.out⟩
def lastB (k:Nat) (r:Lr):Bool:=decide (r.tk=0) || decide (r.col (r.tk-1)<(k:Int))
def alB (k:Nat) (R:Nat→Lr):Nat→Nat→Bool
 | 0,_=>true
 | r+1,i=>lastB k (R i) && alB k R r (i+1)
set_option maxRecDepth 100000 in
set_option maxHeartbeats 4000000 in
theorem mBelow_c {w:World} {M:Mo} (h:MoR w M):Calls Tryz.prog 51 #[M.val] w fun r w'=>r=.returned (.bool (alB M.ck M.R M.rk 0))∧Below w.heap.size w w':=by
 obtain ⟨⟨s,x,n,c,f,y,m,d,g⟩,ca,ck,cc,C,ra,rk,rc,R⟩:=M;obtain ⟨ho,hC,hR,hck,hrk⟩:=h;replace hck:ck≤1048576:=hck;replace hrk:rk≤1048576:=hrk;have HRL:Hid (Rls w ra rk R):=hR;clear ho hC hR;show Calls Tryz.prog 51 #[.agg #[.bool s,.slice x n c,.slice y m d,.slice ca ck cc,.slice ra rk rc]] w fun r w'=>r=.returned (.bool (alB ck R rk 0))∧Below w.heap.size w w'
 obtain ⟨ans,hans⟩:∃z,alB ck R rk 0=z:=⟨_,rfl⟩;rw [hans];have HF:=hid hans;clear hans;go_enter Tryz.func51,Tryz.ntmps51;go_wp2_with fail
 have HB1:=hid (below_alloc (Below.refl w.heap.size w) (.cells #[.bool s,.slice x n c,.slice y m d,.slice ca ck cc,.slice ra rk rc] 28));have HK3:=hid (show (w.alloc (.cells #[.bool s,.slice x n c,.slice y m d,.slice ca ck cc,.slice ra rk rc] 28)).cell? ⟨w.heap.size,3,none⟩=some (.slice ca ck cc) from by simp [go_sem]);obtain ⟨w1,hw1⟩:∃z,w.alloc (.cells #[.bool s,.slice x n c,.slice y m d,.slice ca ck cc,.slice ra rk rc] 28)=z:=⟨_,rfl⟩;rw [hw1] at HB1 HK3 ⊢;clear hw1;go_loopw [9] (fun t wr=>∃(i:Nat),i≤rk∧t=.int .i64 i∧Hid (Below w1.heap.size w1 wr)∧Hid (ans=alB ck R (rk-i) i)) (fun t _=>rk-(intOf t).toNat)
 case atStart=>exact ⟨0,by omega,rfl,Below.refl _ _,HF.out.symm⟩
 case round =>
  obtain ⟨i,hi,rfl,HB,HI⟩:=hrel;by_cases hlt:i<rk
  ·obtain ⟨b,o,rfl,hc,hn⟩:=(HRL.out.below (HB1.out.trans (HB.out.mono HB1.out.size))) i hlt;obtain ⟨r,hr⟩:∃r,rk-i=r+1:=⟨rk-i-1,by omega⟩;have hT:ans=(lastB ck (R i) && alB ck R r (i+1)):=by rw [HI.out,hr];rfl
   have hr2:rk-(i+1)=r:=by omega
   obtain ⟨⟨z,⟨i1,⟨s1,x1,n1,c1,f1,y1,m1,d1,g1⟩⟩,⟨i2,⟨s2,x2,n2,c2,f2,y2,m2,d2,g2⟩⟩,ta,tk,tc,tcol,tt⟩,hCi⟩:∃t,R i=t:=⟨_,rfl⟩;rw [hCi] at hc hT hn;have hTl:Tl wr ta tk tcol tt:=hn.tl;have htk:tk≤1048576:=hn.tk;have q0:wr.cell? ⟨b,o+i*10,none⟩=some (.string z):=hc 0 _ rfl;have q1:wr.cell? ⟨b,o+i*10+1,none⟩=some (.int .i64 i1):=hc 1 _ rfl;have q2:wr.cell? ⟨b,o+i*10+2,none⟩=some (.bool s1):=hc 2 _ rfl;have q3:wr.cell? ⟨b,o+i*10+3,none⟩=some (.slice x1 n1 c1):=hc 3 _ rfl;have q4:wr.cell? ⟨b,o+i*10+4,none⟩=some (.slice y1 m1 d1):=hc 4 _ rfl;have q5:wr.cell? ⟨b,o+i*10+5,none⟩=some (.int .i64 i2):=hc 5 _ rfl;have q6:wr.cell? ⟨b,o+i*10+6,none⟩=some (.bool s2):=hc 6 _ rfl;have q7:wr.cell? ⟨b,o+i*10+7,none⟩=some (.slice x2 n2 c2):=hc 7 _ rfl;have q8:wr.cell? ⟨b,o+i*10+8,none⟩=some (.slice y2 m2 d2):=hc 8 _ rfl;have q9:wr.cell? ⟨b,o+i*10+9,none⟩=some (.slice ta tk tc):=hc 9 _ rfl;have HT:=hid hT;have HR:=hid hr2
   have i1':((i:Nat):Int)<((rk:Nat):Int):=by omega
   have hb5:=below_alloc (Below.refl wr.heap.size wr) (.cells #[.string z,.int .i64 i1,.bool s1,.slice x1 n1 c1,.slice y1 m1 d1,.int .i64 i2,.bool s2,.slice x2 n2 c2,.slice y2 m2 d2,.slice ta tk tc] 61);have HB5:=hid (HB.out.trans (hb5.mono HB.out.size));have HTL:=hid (hTl.below hb5);have k9:(wr.alloc (.cells #[.string z,.int .i64 i1,.bool s1,.slice x1 n1 c1,.slice y1 m1 d1,.int .i64 i2,.bool s2,.slice x2 n2 c2,.slice y2 m2 d2,.slice ta tk tc] 61)).cell? ⟨wr.heap.size,9,none⟩=some (.slice ta tk tc):=by simp [go_sem]
   have k3:=kCb HB5.out HK3.out;clear hCi hc hn hb5 hT hr2 hr hTl;go_upto_region 4 with fail
   clear q0 q1 q2 q3 q4 q5 q6 q7 q8 q9 HB HI;generalize wr.alloc (.cells #[.string z,.int .i64 i1,.bool s1,.slice x1 n1 c1,.slice y1 m1 d1,.int .i64 i2,.bool s2,.slice x2 n2 c2,.slice y2 m2 d2,.slice ta tk tc] 61)=w6 at *;rcases Nat.eq_zero_or_pos tk with h0 | h0
   ·subst h0;have HL:=hid (show lastB ck ⟨z,⟨i1,⟨s1,x1,n1,c1,f1,y1,m1,d1,g1⟩⟩,⟨i2,⟨s2,x2,n2,c2,f2,y2,m2,d2,g2⟩⟩,ta,0,tc,tcol,tt⟩=true from by simp [lastB]);go_upto_region 5 with fail
    have k9':w6.drew.cell? ⟨wr.heap.size,9,none⟩=some (.slice ta 0 tc):=k9;have k3':w6.drew.cell? ⟨w.heap.size,3,none⟩=some (.slice ca ck cc):=k3
    go_quiet (fail)
    go_wp2;go_roundw
    case rel =>
     refine ⟨i+1,by omega,by go_num,⟨HB5.out.os,HB5.out.tape,HB5.out.output,HB5.out.size,HB5.out.block⟩,?_⟩;show _=_;rw [HT.out,HL.out,HR.out];rfl
    case measure=>simp [intOf];omega
   ·obtain ⟨j,rfl⟩:∃j,tk=j+1:=⟨tk-1,by omega⟩;obtain ⟨tb,tq,rfl,⟨t0,_,_,_⟩,_⟩:=HTL.out j (by omega);obtain ⟨v,hv⟩:∃v,tcol j=v:=⟨_,rfl⟩;rw [hv] at t0;have hg0:decide ((((j+1:Nat):Int)) > 0)=true:=by simp
    have hsub:((j+1:Nat):Int)-1=((j:Nat):Int):=by omega
    by_cases hvk:v<(ck:Int)
    ·have HL:=hid (show lastB ck ⟨z,⟨i1,⟨s1,x1,n1,c1,f1,y1,m1,d1,g1⟩⟩,⟨i2,⟨s2,x2,n2,c2,f2,y2,m2,d2,g2⟩⟩,some ⟨tb,tq,none⟩,j+1,tc,tcol,tt⟩=true from by simp [lastB,hv,hvk]);have hd:decide (v ≥ (ck:Int))=false:=by simp;omega
     go_upto_region 5 with fail
     have k9':w6.drew.cell? ⟨wr.heap.size,9,none⟩=some (.slice (some ⟨tb,tq,none⟩) (j+1) tc):=k9;have k3':w6.drew.cell? ⟨w.heap.size,3,none⟩=some (.slice ca ck cc):=k3;have t0':w6.drew.cell? ⟨tb,tq+j*4,none⟩=some (.int .i64 v):=t0
     go_quiet (fail)
     go_wp2;go_roundw
     case rel =>
      refine ⟨i+1,by omega,by go_num,⟨HB5.out.os,HB5.out.tape,HB5.out.output,HB5.out.size,HB5.out.block⟩,?_⟩;show _=_;rw [HT.out,HL.out,HR.out];rfl
     case measure=>simp [intOf];omega
    ·have HL:=hid (show lastB ck ⟨z,⟨i1,⟨s1,x1,n1,c1,f1,y1,m1,d1,g1⟩⟩,⟨i2,⟨s2,x2,n2,c2,f2,y2,m2,d2,g2⟩⟩,some ⟨tb,tq,none⟩,j+1,tc,tcol,tt⟩=false from by simp [lastB,hv];omega);have hd:decide (v ≥ (ck:Int))=true:=by simp;omega
     go_upto_region 5 with fail
     have k9':w6.drew.cell? ⟨wr.heap.size,9,none⟩=some (.slice (some ⟨tb,tq,none⟩) (j+1) tc):=k9;have k3':w6.drew.cell? ⟨w.heap.size,3,none⟩=some (.slice ca ck cc):=k3;have t0':w6.drew.cell? ⟨tb,tq+j*4,none⟩=some (.int .i64 v):=t0
     go_quiet (fail)
     go_wp2;go_ret;have HB7:=HB1.out.trans (HB5.out.mono HB1.out.size);refine ⟨?_,⟨HB7.os,HB7.tape,HB7.output,HB7.size,HB7.block⟩⟩;rw [HT.out,HL.out];rfl
  ·have e1:i=rk:=by omega
   have HE:Hid (ans=true):=by show _=_;rw [HI.out,e1,Nat.sub_self];rfl
   have i2:¬(((i:Nat):Int)<((rk:Nat):Int)):=by omega
   have HB5:=hid (HB1.out.trans (HB.out.mono HB1.out.size));clear e1 HI HB;go_wp2;go_ret;refine ⟨?_,HB5.out⟩;rw [HE.out];rfl
def chkV (l t1 t2 t3 t4 t5 t6:Bool):Int:=if l then 2 else if !t1 then 3 else if !(t2 && t3) then 5 else if t4 || t5 then 6 else if !t6 then 7 else 0
def chkE (M:Mo):Int:=chkV (decide (64<M.ck) || decide (64<M.rk)) (moF M) (nms (fun j=>(M.C j).nm) M.ck 0) (nms (fun j=>(M.R j).nm) M.rk 0) (twr (fun j=>(M.C j).nm) M.ck 0) (twr (fun j=>(M.R j).nm) M.rk 0) (alB M.ck M.R M.rk 0)
set_option maxRecDepth 100000 in
set_option maxHeartbeats 4000000 in
theorem check_c {w:World} {M:Mo} (h:MoR w M):Calls Tryz.prog 23 #[M.val] w fun r w'=>r=.returned (.int .i64 (chkE M))∧Below w.heap.size w w':=by
 have hck:=h.ck;have hrk:=h.rk
 have CN:=hid (fun w' (hw:Below w.heap.size w w') (h1:M.ck≤1000) (h2:M.rk≤1000)=>names_c (w:=w') (h.below hw) h1 h2);have CI:=hid (fun w' (hw:Below w.heap.size w w')=>inForm_c (w:=w') (h.below hw));have CL:=hid (fun w' (hw:Below w.heap.size w w')=>mBelow_c (w:=w') (h.below hw));obtain ⟨t1,ht1⟩:∃z,moF M=z:=⟨_,rfl⟩;obtain ⟨S,hS⟩:∃S:Nat→ByteArray,(fun j=>(M.C j).nm)=S:=⟨_,rfl⟩;obtain ⟨Z,hZ⟩:∃S:Nat→ByteArray,(fun j=>(M.R j).nm)=S:=⟨_,rfl⟩;obtain ⟨t2,ht2⟩:∃z,nms S M.ck 0=z:=⟨_,rfl⟩;obtain ⟨t3,ht3⟩:∃z,nms Z M.rk 0=z:=⟨_,rfl⟩;obtain ⟨t4,ht4⟩:∃z,twr S M.ck 0=z:=⟨_,rfl⟩;obtain ⟨t5,ht5⟩:∃z,twr Z M.rk 0=z:=⟨_,rfl⟩;obtain ⟨t6,ht6⟩:∃z,alB M.ck M.R M.rk 0=z:=⟨_,rfl⟩;obtain ⟨ans,hans⟩:∃z,chkE M=z:=⟨_,rfl⟩;have hA:ans=chkV (decide (64<M.ck) || decide (64<M.rk)) t1 t2 t3 t4 t5 t6:=by rw [←hans,chkE,hS,hZ,ht1,ht2,ht3,ht4,ht5,ht6]
 rw [hans];unfold NmsAns at CN;rw [ht1] at CI;rw [ht6] at CL;rw [hS,hZ] at CN;clear hans ht1 ht6 hS hZ h;obtain ⟨⟨s,x,n,c,f,y,m,d,g⟩,ca,ck,cc,C,ra,rk,rc,R⟩:=M;replace hck:ck≤1048576:=hck;replace hrk:rk≤1048576:=hrk;have HA:Hid (ans=chkV (decide (64<ck) || decide (64<rk)) t1 t2 t3 t4 t5 t6):=hA;have H2:Hid (nms S ck 0=t2):=ht2;have H3:Hid (nms Z rk 0=t3):=ht3;have H4:Hid (twr S ck 0=t4):=ht4;have H5:Hid (twr Z rk 0=t5):=ht5;replace CN:Hid (∀w',Below w.heap.size w w'→ck≤1000→rk≤1000→Calls Tryz.prog 47 #[.agg #[.bool s,.slice x n c,.slice y m d,.slice ca ck cc,.slice ra rk rc]] w' fun e w2=>∃xa xc ya yc,e=.returned (.tuple #[.slice xa ck xc,.slice ya rk yc])∧Below w'.heap.size w' w2∧Sl w2 xa ck S∧Sl w2 ya rk Z):=CN;replace CI:Hid (∀w',Below w.heap.size w w'→Calls Tryz.prog 48 #[.agg #[.bool s,.slice x n c,.slice y m d,.slice ca ck cc,.slice ra rk rc]] w' fun e w2=>e=.returned (.bool t1)∧Below w'.heap.size w' w2):=CI;replace CL:Hid (∀w',Below w.heap.size w w'→Calls Tryz.prog 51 #[.agg #[.bool s,.slice x n c,.slice y m d,.slice ca ck cc,.slice ra rk rc]] w' fun e w2=>e=.returned (.bool t6)∧Below w'.heap.size w' w2):=CL;clear hA ht2 ht3 ht4 ht5;show Calls Tryz.prog 23 #[.agg #[.bool s,.slice x n c,.slice y m d,.slice ca ck cc,.slice ra rk rc]] w _;by_cases h1:64<ck
 ·have HV:Hid (ans=2):=by show _=_;rw [HA.out];simp [chkV,h1]
  have e1:(ck:Int) > 64:=by omega
  clear HA h1;go_enter Tryz.func23,Tryz.ntmps23;go_wp2;go_ret;refine ⟨?_,below_alloc (Below.refl _ _) _⟩;rw [HV.out];rfl
 by_cases h2:64<rk
 ·have HV:Hid (ans=2):=by show _=_;rw [HA.out];simp [chkV,h2]
  have e1:¬(ck:Int) > 64:=by omega
  have e2:(rk:Int) > 64:=by omega
  clear HA h1 h2;go_enter Tryz.func23,Tryz.ntmps23;go_wp2;go_ret;refine ⟨?_,below_alloc (Below.refl _ _) _⟩;rw [HV.out];rfl
 have HV:Hid (ans=chkV false t1 t2 t3 t4 t5 t6):=by show _=_;rw [HA.out];simp [h1,h2]
 have e1:¬(ck:Int) > 64:=by omega
 have e2:¬(rk:Int) > 64:=by omega
 have l1:ck≤1000:=by omega
 have l2:rk≤1000:=by omega
 clear HA h1 h2;go_enter Tryz.func23,Tryz.ntmps23;go_wp2_with fail
 have HB:=hid (below_alloc (Below.refl w.heap.size w) (.cells #[.bool s,.slice x n c,.slice y m d,.slice ca ck cc,.slice ra rk rc] 28));refine (CN.out _ HB.out l1 l2).mono ?_;rintro r w1 ⟨xa,xc,ya,yc,rfl,hb1,hSX,hSY⟩;have k0:=kCb hb1 (a:=⟨w.heap.size,0,none⟩) (v:=.bool s) (by simp [go_sem]);have k1:=kCb hb1 (a:=⟨w.heap.size,1,none⟩) (v:=.slice x n c) (by simp [go_sem]);have k2:=kCb hb1 (a:=⟨w.heap.size,2,none⟩) (v:=.slice y m d) (by simp [go_sem]);have k3:=kCb hb1 (a:=⟨w.heap.size,3,none⟩) (v:=.slice ca ck cc) (by simp [go_sem]);have k4:=kCb hb1 (a:=⟨w.heap.size,4,none⟩) (v:=.slice ra rk rc) (by simp [go_sem]);have HX:=hid hSX;have HY:=hid hSY
 have HB1:=hid (HB.out.trans (hb1.mono HB.out.size));clear hb1 HB CN hSX hSY;go_wp2_with fail
 refine (CI.out _ HB1.out).mono ?_;rintro r w2 ⟨rfl,hb2⟩;replace HX:=hid (HX.out.below hb2);replace HY:=hid (HY.out.below hb2)
 replace k0:=kCb hb2 k0;replace k1:=kCb hb2 k1;replace k2:=kCb hb2 k2;replace k3:=kCb hb2 k3;replace k4:=kCb hb2 k4
 have HB2:=hid (HB1.out.trans (hb2.mono HB1.out.size));clear hb2 HB1 CI;cases t1
 ·go_wp2;go_ret;refine ⟨?_,HB2.out⟩;rw [HV.out];rfl
 have CA:=hid (allNames_c (cap:=xc) HX.out (by omega));rw [H2.out] at CA;go_wp2_with fail
 refine CA.out.mono ?_;rintro r w2' ⟨rfl,rfl⟩;cases t2
 ·go_wp2;go_ret;refine ⟨?_,HB2.out⟩;rw [HV.out];rfl
 have CA2:=hid (allNames_c (cap:=yc) HY.out (by omega));rw [H3.out] at CA2;go_wp2_with fail
 refine CA2.out.mono ?_;rintro r w2' ⟨rfl,rfl⟩;cases t3
 ·go_wp2;go_ret;refine ⟨?_,HB2.out⟩;rw [HV.out];rfl
 have CT:=hid (anyTwice_c (cap:=xc) HX.out (by omega));rw [H4.out] at CT;go_wp2_with fail
 refine CT.out.mono ?_;rintro r w3 ⟨rfl,hb3⟩;replace HY:=hid (HY.out.below hb3);replace k0:=kCb hb3 k0;replace k1:=kCb hb3 k1;replace k2:=kCb hb3 k2;replace k3:=kCb hb3 k3;replace k4:=kCb hb3 k4
 have HB3:=hid (HB2.out.trans (hb3.mono HB2.out.size));clear hb3 HX CA CA2 CT;cases t4
 case true =>
  go_wp2;go_ret;refine ⟨?_,HB3.out⟩;rw [HV.out];rfl
 have CT:=hid (anyTwice_c (cap:=yc) HY.out (by omega));rw [H5.out] at CT;go_wp2_with fail
 refine CT.out.mono ?_;rintro r w4 ⟨rfl,hb4⟩;replace k0:=kCb hb4 k0;replace k1:=kCb hb4 k1;replace k2:=kCb hb4 k2;replace k3:=kCb hb4 k3;replace k4:=kCb hb4 k4
 have HB4:=hid (HB3.out.trans (hb4.mono HB3.out.size));clear hb4 HY CT HB2 HB3;cases t5
 case true =>
  go_wp2;go_ret;refine ⟨?_,HB4.out⟩;rw [HV.out];rfl
 go_wp2_with fail
 refine (CL.out _ HB4.out).mono ?_;rintro r w5 ⟨rfl,hb5⟩;have HB5:=hid (HB4.out.trans (hb5.mono HB4.out.size));clear hb5 HB4 k0 k1 k2 k3 k4;cases t6
 ·go_wp2;go_ret;refine ⟨?_,HB5.out⟩;rw [HV.out];rfl
 ·go_wp2;go_ret;refine ⟨?_,HB5.out⟩;rw [HV.out];rfl
set_option maxRecDepth 100000 in
set_option maxHeartbeats 4000000 in
theorem checkL_c {w:World} {M:Mo} (h:64<M.ck∨64<M.rk):Calls Tryz.prog 23 #[M.val] w fun r w'=>r=.returned (.int .i64 2)∧Below w.heap.size w w':=by
 obtain ⟨⟨s,x,n,c,f,y,m,d,g⟩,ca,ck,cc,C,ra,rk,rc,R⟩:=M;replace h:64<ck∨64<rk:=h;show Calls Tryz.prog 23 #[.agg #[.bool s,.slice x n c,.slice y m d,.slice ca ck cc,.slice ra rk rc]] w _;by_cases h1:64<ck
 ·have e1:(ck:Int) > 64:=by omega
  clear h1 h;go_enter Tryz.func23,Tryz.ntmps23;go_wp2;go_ret;exact ⟨rfl,below_alloc (Below.refl _ _) _⟩
 ·have e1:¬(ck:Int) > 64:=by omega
  have e2:(rk:Int) > 64:=by omega
  clear h1 h;go_enter Tryz.func23,Tryz.ntmps23;go_wp2;go_ret;exact ⟨rfl,below_alloc (Below.refl _ _) _⟩
def MoW (w:World) (M:Mo):Prop:=M.ck≤64→M.rk≤64→MoR w M
theorem MoW.below {w w' M} (h:MoW w M) (hb:Below w.heap.size w w'):MoW w' M:=fun h1 h2=>(h h1 h2).below hb
theorem check_w {w:World} {M:Mo} (h:MoW w M):Calls Tryz.prog 23 #[M.val] w fun r w'=>r=.returned (.int .i64 (chkE M))∧Below w.heap.size w w':=by
 by_cases h1:64<M.ck∨64<M.rk
 ·have e:chkE M=2:=by
   have:(decide (64<M.ck) || decide (64<M.rk))=true:=by simpa using h1
   rw [chkE,this];rfl
  rw [e];exact checkL_c h1
 ·exact check_c (h (by omega) (by omega))
theorem chkE_ok {M:Mo} (h:chkE M=0):M.ck≤64∧M.rk≤64∧moF M=true∧nms (fun j=>(M.C j).nm) M.ck 0=true∧nms (fun j=>(M.R j).nm) M.rk 0=true∧twr (fun j=>(M.C j).nm) M.ck 0=false∧twr (fun j=>(M.R j).nm) M.rk 0=false∧alB M.ck M.R M.rk 0=true:=by
 unfold chkE chkV at h
 split at h
 ·cases h
 ·rename_i h0
  split at h
  ·cases h
  ·rename_i h1
   split at h
   ·cases h
   ·rename_i h2
    split at h
    ·cases h
    ·rename_i h3
     split at h
     ·cases h
     ·rename_i h4;simp at h0 h1 h2 h3 h4;exact ⟨h0.1,h0.2,h1,h2.1,h2.2,h3.1,h3.2,h4⟩
def idx (S:Nat→ByteArray) (z:ByteArray):Nat→Nat→Int
 | 0,_=>-1
 | r+1,i=>if z=S i then (i:Int) else idx S z r (i+1)
def plc (p:Int):Int × Int:=if p<0 then (0,9) else (p,0)
def atRow (M:Mo) (z:ByteArray):Int × Int:=if chkE M=0 then plc (idx (fun j=>(M.R j).nm) z M.rk 0) else (0,chkE M)
def atCol (M:Mo) (z:ByteArray):Int × Int:=if chkE M=0 then plc (idx (fun j=>(M.C j).nm) z M.ck 0) else (0,chkE M)
structure Fn (w:World) (i:Int) (s:Bool) (x:Option Addr) (n:Nat) (d:Nat→Int) (y:Option Addr) (m:Nat) (g:Nat→Int) (q:Rat):Prop where
 qn:Qn w s x n d y m g q
 inf:i=0∨(i=-1∨i=1)∧q=0
theorem Fn.below {w w' i s x n d y m g q} (h:Fn w i s x n d y m g q) (hb:Below w.heap.size w w'):Fn w' i s x n d y m g q:=⟨h.qn.below hb,h.inf⟩
theorem Fn.alloc {w i s x n d y m g q} (h:Fn w i s x n d y m g q) (o:Obj):Fn (w.alloc o) i s x n d y m g q:=⟨h.qn.alloc o,h.inf⟩
set_option maxRecDepth 100000 in
set_option maxHeartbeats 4000000 in
theorem xTwin_c {w:World} {i:Int} {s:Bool} {x:Option Addr} {n c:Nat} {f:Nat→Int} {y:Option Addr} {m d:Nat} {g:Nat→Int} (h:Rw w x n c f y m d g) (hn:n≤17592186044416) (hm:m≤17592186044416) :
  Calls Tryz.prog 29 #[.agg #[.int .i64 i,.bool s,.slice x n c,.slice y m d]] w fun e w'=>∃z c' z2 c2,e=.returned (.agg #[.int .i64 i,.bool s,.slice z n c',.slice z2 m c2])∧Below w.heap.size w w'∧Rw w' z n c' f z2 m c2 g:=by
 have h1:=(bx4_at w (.int .i64 i) (.bool s) (.slice x n c) (.slice y m d) 41).alloc (.cells #[.int .i64 0,.bool false,.slice none 0 0,.slice none 0 0] 41);have h2:=ob4_new (w.alloc (.cells #[.int .i64 i,.bool s,.slice x n c,.slice y m d] 41)) 41;rw [size_alloc1] at h2;have h3:=below_alloc (below_alloc (Below.refl w.heap.size w) (.cells #[.int .i64 i,.bool s,.slice x n c,.slice y m d] 41)) (.cells #[.int .i64 0,.bool false,.slice none 0 0,.slice none 0 0] 41);have h4:=h.below h3;clear h;go_enter Tryz.func29,Tryz.ntmps29;go_wp2_with fail
 generalize (w.alloc (.cells #[.int .i64 i,.bool s,.slice x n c,.slice y m d] 41)).alloc (.cells #[.int .i64 0,.bool false,.slice none 0 0,.slice none 0 0] 41)=w1 at *;have HN:=hid h4;have OB:=hid h2;have HW:=hid h3
 obtain ⟨z,x0,x1,x2,x3⟩:=h1;obtain ⟨hz,z0,z1,z2,z3,zf⟩:=h2;clear h3 h4;have C1:Hid (∀W,Below w1.heap.size w1 W→Calls Tryz.prog 28 #[.agg #[.bool s,.slice x n c,.slice y m d]] W fun e w'=>∃z c' z2 c2,e=.returned (.agg #[.bool s,.slice z n c',.slice z2 m c2])∧Below W.heap.size W w'∧Hid (Rw w' z n c' f z2 m c2 g)):=fun W hW=>qTwin_c (HN.out.below hW) hn hm
 go_region_held3 (fun w'=>w'.cell? ⟨w.heap.size,0,none⟩=some (.int .i64 i)∧w'.cell? ⟨w.heap.size,1,none⟩=some (.bool s)∧w'.cell? ⟨w.heap.size,2,none⟩=some (.slice x n c)∧w'.cell? ⟨w.heap.size,3,none⟩=some (.slice y m d)∧(w'.cell? ⟨w.heap.size+1,0,none⟩).isSome=true∧(w'.cell? ⟨w.heap.size+1,1,none⟩).isSome=true∧(w'.cell? ⟨w.heap.size+1,2,none⟩).isSome=true∧(w'.cell? ⟨w.heap.size+1,3,none⟩).isSome=true∧w'.frozen? ⟨w.heap.size+1,0,none⟩=false∧w'.frozen? ⟨w.heap.size+1,1,none⟩=false∧w'.frozen? ⟨w.heap.size+1,2,none⟩=false∧w'.frozen? ⟨w.heap.size+1,3,none⟩=false)
  (refine ⟨?_,?_,?_,?_,?_,?_,?_,?_,?_,?_,?_,?_⟩ <;> repeat (with_reducible first | assumption | exact zf _ | exact tf _ | exact kI0 z0 | exact kI0 z1 | exact kI0 z2 | exact kI0 z3 | exact kI0 t0 | exact kI0 t1 | exact kI0 t2 | exact kI0 t3 | refine kCd ?_ | refine kId ?_ | refine kFd ?_ | refine kCs (by simp only [ne_eq];omega) ?_ | refine kIs ?_ | refine kFs ?_ | refine kCb (by assumption) ?_ | refine kIb (by assumption) ?_))
  (first | (go_at_call 28;with_reducible refine (C1.out _ belB).mono ?_;rintro e v5 ⟨z5,c5,y5,d5,rfl,hb5,H5⟩;have Tt:Ob4 v5 (w.heap.size+1):=(by repeat (with_reducible first | exact OB.out | refine Ob4.drew ?_ | refine kO4b (by assumption) ?_));obtain ⟨_,t0,t1,t2,t3,tf⟩:=id Tt))
 all_goals
  have hb:Below w1.heap.size w1 v5:=belB;go_wp2;exact bodyPost_ret (v:=.agg #[.int .i64 i,.bool s,.slice z5 n c5,.slice y5 m d5]) (by simp [results,Tryz.results29,go_sem,t0,t1,t2,t3]) rfl ⟨z5,c5,y5,d5,rfl,below_st4 (HW.out.trans (hb.mono HW.out.size)) (by omega),Tt.rw H5.out⟩
set_option maxRecDepth 100000 in
set_option maxHeartbeats 4000000 in
theorem xTo_c {w:World} {i:Int} {s:Bool} {x:Option Addr} {n c:Nat} {f:Nat→Int} {y:Option Addr} {m d:Nat} {g:Nat→Int} {q:Rat} (h:Fn w i s x n f y m g q) (hn:n≤4096) (hm:m≤4096) :
  Calls Tryz.prog 41 #[.agg #[.int .i64 i,.bool s,.slice x n c,.slice y m d]] w fun e w'=>∃z k c' f z2 k2 c2 f2,e=.returned (.agg #[.int .i64 i,.bool s,.slice z k c',.slice z2 k2 c2])∧Below w.heap.size w w'∧Hid (En (n+m) w' i s z k c' f z2 k2 c2 f2 q):=by
 have h1:=(bx4_at w (.int .i64 i) (.bool s) (.slice x n c) (.slice y m d) 89).alloc (.cells #[.int .i64 0,.bool false,.slice none 0 0,.slice none 0 0] 41);have h2:=ob4_new (w.alloc (.cells #[.int .i64 i,.bool s,.slice x n c,.slice y m d] 89)) 41;rw [size_alloc1] at h2;have h3:=below_alloc (below_alloc (Below.refl w.heap.size w) (.cells #[.int .i64 i,.bool s,.slice x n c,.slice y m d] 89)) (.cells #[.int .i64 0,.bool false,.slice none 0 0,.slice none 0 0] 41);have h4:=h.below h3;clear h;go_enter Tryz.func41,Tryz.ntmps41;go_wp2_with fail
 generalize (w.alloc (.cells #[.int .i64 i,.bool s,.slice x n c,.slice y m d] 89)).alloc (.cells #[.int .i64 0,.bool false,.slice none 0 0,.slice none 0 0] 41)=w1 at *;have HN:=hid h4;have OB:=hid h2;have HW:=hid h3
 obtain ⟨z,x0,x1,x2,x3⟩:=h1;obtain ⟨hz,z0,z1,z2,z3,zf⟩:=h2;clear h3 h4;have C1:Hid (∀W,Below w1.heap.size w1 W→Calls Tryz.prog 43 #[.agg #[.bool s,.slice x n c,.slice y m d]] W fun e w'=>∃z k c' f z2 k2 c2 f2,e=.returned (.agg #[.bool s,.slice z k c',.slice z2 k2 c2])∧Below W.heap.size W w'∧Hid (Rn (n+m) w' s z k c' f z2 k2 c2 f2 q)):=fun W hW=>qToR_c (HN.out.below hW).qn (Nat.le_trans hn (by decide)) (Nat.le_trans hm (by decide))
 go_region_held3 (fun w'=>w'.cell? ⟨w.heap.size,0,none⟩=some (.int .i64 i)∧w'.cell? ⟨w.heap.size,1,none⟩=some (.bool s)∧w'.cell? ⟨w.heap.size,2,none⟩=some (.slice x n c)∧w'.cell? ⟨w.heap.size,3,none⟩=some (.slice y m d)∧(w'.cell? ⟨w.heap.size+1,0,none⟩).isSome=true∧(w'.cell? ⟨w.heap.size+1,1,none⟩).isSome=true∧(w'.cell? ⟨w.heap.size+1,2,none⟩).isSome=true∧(w'.cell? ⟨w.heap.size+1,3,none⟩).isSome=true∧w'.frozen? ⟨w.heap.size+1,0,none⟩=false∧w'.frozen? ⟨w.heap.size+1,1,none⟩=false∧w'.frozen? ⟨w.heap.size+1,2,none⟩=false∧w'.frozen? ⟨w.heap.size+1,3,none⟩=false)
  (refine ⟨?_,?_,?_,?_,?_,?_,?_,?_,?_,?_,?_,?_⟩ <;> repeat (with_reducible first | assumption | exact zf _ | exact tf _ | exact kI0 z0 | exact kI0 z1 | exact kI0 z2 | exact kI0 z3 | exact kI0 t0 | exact kI0 t1 | exact kI0 t2 | exact kI0 t3 | refine kCd ?_ | refine kId ?_ | refine kFd ?_ | refine kCs (by simp only [ne_eq];omega) ?_ | refine kIs ?_ | refine kFs ?_ | refine kCb (by assumption) ?_ | refine kIb (by assumption) ?_))
  (first | (go_at_call 43;with_reducible refine (C1.out _ belB).mono ?_;rintro e v5 ⟨z5,k5,c5,f5,y5,m5,d5,g5,rfl,hb5,H5⟩;have Tt:Ob4 v5 (w.heap.size+1):=(by repeat (with_reducible first | exact OB.out | refine Ob4.drew ?_ | refine kO4b (by assumption) ?_));obtain ⟨_,t0,t1,t2,t3,tf⟩:=id Tt))
 all_goals
  have hb:Below w1.heap.size w1 v5:=belB;go_wp2;exact bodyPost_ret (v:=.agg #[.int .i64 i,.bool s,.slice z5 k5 c5,.slice y5 m5 d5]) (by simp [results,Tryz.results41,go_sem,t0,t1,t2,t3]) rfl ⟨z5,k5,c5,f5,y5,m5,d5,g5,rfl,below_st4 (HW.out.trans (hb.mono HW.out.size)) (by omega),⟨Tt.rn H5.out,HN.out.inf⟩⟩
set_option maxRecDepth 100000 in
set_option maxHeartbeats 4000000 in
theorem qZero4_c {w:World}:Calls Tryz.prog 66 #[] w fun e w'=>∃s x n c d y m c' g,e=.returned (.agg #[.bool s,.slice x n c,.slice y m c'])∧Below w.heap.size w w'∧Hid (n≤2∧m≤2∧Qn w' s x n d y m g 0):=by
 have h2:=ob_new w 87;have h3:=below_alloc (Below.refl w.heap.size w) (.cells #[.bool false,.slice none 0 0,.slice none 0 0] 87);go_enter Tryz.func66,Tryz.ntmps66;go_wp2_with fail
 generalize w.alloc (.cells #[.bool false,.slice none 0 0,.slice none 0 0] 87)=w1 at *;have OB:=hid h2;have HW:=hid h3
 clear h2 h3;refine (qInt_c (z:=0) (by decide) (by decide)).mono ?_;rintro e w2 ⟨s2,x2,n2,c2,d2,y2,m2,e2,g2,rfl,hb,hl1,hl2,hq⟩;have HB:=hid (HW.out.trans (hb.mono HW.out.size));have OB2:=hid (OB.out.below hb);have HQ:=hid hq
 clear hb hq;obtain ⟨hz,z0,z1,z2,zf⟩:=OB2.out;go_wp2;exact bodyPost_ret (v:=.agg #[.bool s2,.slice x2 n2 c2,.slice y2 m2 e2]) (by simp [results,Tryz.results66,go_sem,z0,z1,z2]) rfl ⟨s2,x2,n2,c2,d2,y2,m2,e2,g2,rfl,below_st HB.out (Nat.le_refl _),hl1,hl2,OB2.out.qn HQ.out⟩
set_option maxRecDepth 100000 in
set_option maxHeartbeats 4000000 in
theorem xLow_c {w:World}:Calls Tryz.prog 42 #[] w fun e w'=>∃s x n c d y m c' g,e=.returned (.agg #[.int .i64 (-1),.bool s,.slice x n c,.slice y m c'])∧Below w.heap.size w w'∧Hid (n≤2∧m≤2∧Fn w' (-1) s x n d y m g 0):=by
 have h2:=ob4_new w 89;have h3:=below_alloc (Below.refl w.heap.size w) (.cells #[.int .i64 0,.bool false,.slice none 0 0,.slice none 0 0] 89);go_enter Tryz.func42,Tryz.ntmps42;go_wp2_with fail
 generalize w.alloc (.cells #[.int .i64 0,.bool false,.slice none 0 0,.slice none 0 0] 89)=w1 at *;have OB:=hid h2;have HW:=hid h3
 clear h2 h3;refine qZero4_c.mono ?_;rintro e w2 ⟨s2,x2,n2,c2,d2,y2,m2,e2,g2,rfl,hb,H2⟩;have HB:=hid (HW.out.trans (hb.mono HW.out.size));have OB2:=hid (OB.out.below hb)
 clear hb;obtain ⟨hz,z0,z1,z2,z3,zf⟩:=OB2.out;go_wp2;exact bodyPost_ret (v:=.agg #[.int .i64 (-1),.bool s2,.slice x2 n2 c2,.slice y2 m2 e2]) (by simp [results,Tryz.results42,go_sem,z0,z1,z2,z3]) rfl ⟨s2,x2,n2,c2,d2,y2,m2,e2,g2,rfl,below_st4 HB.out (Nat.le_refl _),H2.out.1,H2.out.2.1,⟨OB2.out.qn H2.out.2.2,.inr ⟨by decide,rfl⟩⟩⟩
set_option maxRecDepth 100000 in
set_option maxHeartbeats 4000000 in
theorem xSame_of {w:World} {i:Int} {s1:Bool} {x1:Option Addr} {n1 c1:Nat} {y1:Option Addr} {m1 d1:Nat} {s2:Bool} {x2:Option Addr} {n2 c2:Nat} {y2:Option Addr} {m2 d2:Nat} (hS:∀W,Below w.heap.size w W→Calls Tryz.prog 19 #[.agg #[.bool s1,.slice x1 n1 c1,.slice y1 m1 d1],.agg #[.bool s2,.slice x2 n2 c2,.slice y2 m2 d2]] W fun e w'=>e=.returned (.bool true)∧Below W.heap.size W w') :
  Calls Tryz.prog 13 #[.agg #[.int .i64 i,.bool s1,.slice x1 n1 c1,.slice y1 m1 d1],.agg #[.int .i64 i,.bool s2,.slice x2 n2 c2,.slice y2 m2 d2]] w fun e w'=>e=.returned (.bool true)∧Below w.heap.size w w':=by
 have h1:=(bx4_at w (.int .i64 i) (.bool s1) (.slice x1 n1 c1) (.slice y1 m1 d1) 41).alloc (.cells #[.int .i64 i,.bool s2,.slice x2 n2 c2,.slice y2 m2 d2] 41);have h2:=bx4_at (w.alloc (.cells #[.int .i64 i,.bool s1,.slice x1 n1 c1,.slice y1 m1 d1] 41)) (.int .i64 i) (.bool s2) (.slice x2 n2 c2) (.slice y2 m2 d2) 41;rw [size_alloc1] at h2;have h3:=below_alloc (below_alloc (Below.refl w.heap.size w) (.cells #[.int .i64 i,.bool s1,.slice x1 n1 c1,.slice y1 m1 d1] 41)) (.cells #[.int .i64 i,.bool s2,.slice x2 n2 c2,.slice y2 m2 d2] 41);have HS:=hid (hS _ h3);have hii:(i==i)=true:=by simp
 clear hS;go_enter Tryz.func13,Tryz.ntmps13;go_upto_region 1 with fail
 generalize (w.alloc (.cells #[.int .i64 i,.bool s1,.slice x1 n1 c1,.slice y1 m1 d1] 41)).alloc (.cells #[.int .i64 i,.bool s2,.slice x2 n2 c2,.slice y2 m2 d2] 41)=w1 at *;have HW:=hid h3;obtain ⟨za,a0,a1,a2,a3⟩:=h1;obtain ⟨zb,b0,b1,b2,b3⟩:=h2;clear h3;go_wp2_with fail
 refine HS.out.mono ?_;rintro e w2 ⟨rfl,hb⟩;have HB:=hid (HW.out.trans (hb.mono HW.out.size));clear hb;go_wp2;go_ret;exact ⟨rfl,HB.out⟩
structure Li2 (w:World) (B:Nat) (a0 a1 a2 a3 b0 b1 b2 b3:Value):Prop where
 z:B<w.heap.size
 x0:w.cell? ⟨B,0,none⟩=some a0
 x1:w.cell? ⟨B,1,none⟩=some a1
 x2:w.cell? ⟨B,2,none⟩=some a2
 x3:w.cell? ⟨B,3,none⟩=some a3
 y0:w.cell? ⟨B,4,none⟩=some b0
 y1:w.cell? ⟨B,5,none⟩=some b1
 y2:w.cell? ⟨B,6,none⟩=some b2
 y3:w.cell? ⟨B,7,none⟩=some b3
theorem Li2.below {w w' B a0 a1 a2 a3 b0 b1 b2 b3} (h:Li2 w B a0 a1 a2 a3 b0 b1 b2 b3) (hb:Below w.heap.size w w'):Li2 w' B a0 a1 a2 a3 b0 b1 b2 b3:=⟨Nat.lt_of_lt_of_le h.z hb.size,kCb hb h.x0,kCb hb h.x1,kCb hb h.x2,kCb hb h.x3,kCb hb h.y0,kCb hb h.y1,kCb hb h.y2,kCb hb h.y3⟩
theorem li2_at (w:World) (a0 a1 a2 a3 b0 b1 b2 b3:Value) (t:TypeId):Li2 (w.alloc (.cells #[a0,a1,a2,a3,b0,b1,b2,b3] t)) w.heap.size a0 a1 a2 a3 b0 b1 b2 b3:=⟨by simp,by simp [go_sem],by simp [go_sem],by simp [go_sem],by simp [go_sem],by simp [go_sem],by simp [go_sem],by simp [go_sem],by simp [go_sem]⟩
set_option maxRecDepth 100000 in
set_option maxHeartbeats 4000000 in
theorem allForm2_c {w:World} {i1:Int} {s1:Bool} {x1:Option Addr} {n1 c1:Nat} {f1:Nat→Int} {y1:Option Addr} {m1 d1:Nat} {g1:Nat→Int} {i2:Int} {s2:Bool} {x2:Option Addr} {n2 c2:Nat} {f2:Nat→Int} {y2:Option Addr} {m2 d2:Nat} {g2:Nat→Int} {B:Nat} (hB:Li2 w B (.int .i64 i1) (.bool s1) (.slice x1 n1 c1) (.slice y1 m1 d1) (.int .i64 i2) (.bool s2) (.slice x2 n2 c2) (.slice y2 m2 d2)) (h1:Rw w x1 n1 c1 f1 y1 m1 d1 g1) (h2:Rw w x2 n2 c2 f2 y2 m2 d2 g2) (hn1:n1≤4096) (hm1:m1≤4096) (hn2:n2≤4096) (hm2:m2≤4096) :
  Calls Tryz.prog 80 #[.slice (some ⟨B,0,none⟩) 2 2] w fun e w'=>e=.returned (.bool (efB i1 s1 f1 n1 g1 m1 && efB i2 s2 f2 n2 g2 m2))∧Below w.heap.size w w':=by
 have HB:=hid hB;have HR1:=hid h1;have HR2:=hid h2
 obtain ⟨p,hp⟩:∃p,efB i1 s1 f1 n1 g1 m1=p:=⟨_,rfl⟩;obtain ⟨q,hq⟩:∃p,efB i2 s2 f2 n2 g2 m2=p:=⟨_,rfl⟩;have HP:=hid hp;have HQ:=hid hq
 rw [hp,hq];clear hB h1 h2 hp hq;go_enter Tryz.func80,Tryz.ntmps80;go_wp2;go_loopw [7] (fun t wr=>∃k:Nat,k≤2∧t=.int .i64 k∧Hid (Below w.heap.size w wr∧(0<k→p=true)∧(1<k→q=true))) (fun t _=>2-(intOf t).toNat)
 case atStart=>exact ⟨0,by omega,rfl,Below.refl _ _,fun h=>by omega,fun h=>by omega⟩
 case round =>
  obtain ⟨k,hk,rfl,HI⟩:=hrel;have HBr:=hid HI.out.1;rcases (show k=0∨k=1∨k=2 by omega) with rfl | rfl | rfl
  ·obtain ⟨z,e0,e1,e2,e3,_,_,_,_⟩:=HB.out.below HBr.out;have c1:=eForm_c (i:=i1) (s:=s1) ((HR1.out.below HBr.out).alloc (.cells #[.int .i64 i1,.bool s1,.slice x1 n1 c1,.slice y1 m1 d1] 41)) hn1 hm1;rw [HP.out] at c1;have C1:=hid c1;clear c1;cases p
   ·go_wp2_with fail
    refine C1.out.mono ?_;rintro e w2 ⟨rfl,hb⟩;have HW:=hid ((below_alloc HBr.out _).trans (hb.mono (below_alloc HBr.out _).size));clear hb;go_wp2;go_ret;exact ⟨rfl,HW.out⟩
   ·go_wp2_with fail
    refine C1.out.mono ?_;rintro e w2 ⟨rfl,hb⟩;have HW:=hid ((below_alloc HBr.out _).trans (hb.mono (below_alloc HBr.out _).size));clear hb;go_wp2;go_roundw
    case rel=>exact ⟨1,by omega,by go_num,HW.out,by simp,by simp⟩
    case measure=>simp [intOf]
  ·obtain ⟨z,_,_,_,_,e0,e1,e2,e3⟩:=HB.out.below HBr.out;have hpt:=HI.out.2.1 (by omega);subst hpt;have c1:=eForm_c (i:=i2) (s:=s2) ((HR2.out.below HBr.out).alloc (.cells #[.int .i64 i2,.bool s2,.slice x2 n2 c2,.slice y2 m2 d2] 41)) hn2 hm2;rw [HQ.out] at c1;have C1:=hid c1;clear c1;cases q
   ·go_wp2_with fail
    refine C1.out.mono ?_;rintro e w2 ⟨rfl,hb⟩;have HW:=hid ((below_alloc HBr.out _).trans (hb.mono (below_alloc HBr.out _).size));clear hb;go_wp2;go_ret;exact ⟨rfl,HW.out⟩
   ·go_wp2_with fail
    refine C1.out.mono ?_;rintro e w2 ⟨rfl,hb⟩;have HW:=hid ((below_alloc HBr.out _).trans (hb.mono (below_alloc HBr.out _).size));clear hb;go_wp2;go_roundw
    case rel=>exact ⟨2,by omega,by go_num,HW.out,by simp,by simp⟩
    case measure=>simp [intOf]
  ·have hpt:=HI.out.2.1 (by omega);have hqt:=HI.out.2.2 (by omega);subst hpt hqt;go_wp2;go_ret;exact ⟨rfl,HBr.out⟩
def OC (p:Bool) (i:Int) (a:Rat) (j:Int) (b:Rat) (r er:Int):Prop:=p=false∧er=3∧r=0∨p=true∧er=0∧EOrd r i a j b
def nq (t:Nm):Rat:=mkRat (wv t.s t.f t.n) (wv false t.g t.m).toNat
theorem Rn.nq {L w q} {t:Nm} (h:Rn L w t.s t.x t.n t.c t.f t.y t.m t.d t.g q):nq t=q:=by
 unfold Go.Proofs.YtankbgpcnljjdaaGreat.nq;rw [h.num.val,h.den.val,Int.toNat_natCast,Rat.mkRat_self]
def abvB (a b:Ex):Bool:=decide (b.i<a.i) || (decide (a.i=b.i) && decide (nq b.v<nq a.v))
theorem NmS.en {w:World} {e:Ex} (h:NmS w e.v) (hf:exF e=true) (hn:e.v.n≤100) (hm:e.v.m≤100):En 100 w e.i e.v.s e.v.x e.v.n e.v.c e.v.f e.v.y e.v.m e.v.d e.v.g (nq e.v):=by
 obtain ⟨q,hq⟩:=h.1.en hf hn hm;rw [hq.rn.nq];exact hq
theorem Tryz.infoInt:(Tryz.prog.info? 3).map (fun i=>(i.zero,i.size,i.bytes))=some (some (.int .i64 0),1,8):=by kernel_rfl
theorem onei (s:Int):∀u ∈ (#[Value.int .i64 s]:Array Value).toList,u.oneCell'=true:=by
 intro u hu;simp at hu;subst hu;rfl
theorem noti (s:Int):∀u ∈ (#[Value.int .i64 s]:Array Value).toList,∀q,u≠.int .u64 q:=by
 intro u hu q;simp at hu;subst hu;simp
theorem nzi:NoU (Value.int .i64 0).cells:=nou_list (l:=[Value.int .i64 0]) (noti 0)
def Il (w:World) (ao:Option Addr) (l:List Int):Prop:=∀j v,l[j]?=some v→∃b o,ao=some ⟨b,o,none⟩∧w.cell? ⟨b,o+j,none⟩=some (.int .i64 v)
theorem Il.below {w w' ao l} (h:Il w ao l) (hb:Below w.heap.size w w'):Il w' ao l:=fun j v e=>by
 obtain ⟨b,o,e1,h1⟩:=h j v e;exact ⟨b,o,e1,kCb hb h1⟩
def ils (l:List Int):List Value:=l.map (Value.int .i64)
theorem rowg_il {e:TypeId} {base:Nat} {w:World} {ao:Option Addr} {cap:Nat} {l:List Int} (h:RowG e 1 base w (.slice ao l.length cap) l.length (ils l)):Il w ao l:=fun j v hj=>by
 have hlt:j<l.length:=(List.getElem?_eq_some_iff.1 hj).1;rcases h.2 with ⟨hv,h0⟩ | ⟨g,cap',cur,hv,_⟩
 ·omega
 ·cases hv
  refine ⟨g,0,rfl,?_⟩;rw [Nat.zero_add];exact h.cells (by simp [ils,hj])
def crl (B:Nat→Bool):Nat→List Int
 | 0=>[]
 | i+1=>crl B i++(if B i then [(i:Int)] else [])
theorem crl_len (B:Nat→Bool):∀i,(crl B i).length≤i
 | 0=>Nat.le_refl _
 | i+1=>by
  have:=crl_len B i;unfold crl;rw [List.length_append]
  split <;> simp <;> omega
theorem crl_yes {B:Nat→Bool} {i:Nat} (h:B i=true):crl B (i+1)=crl B i++[(i:Int)]:=by simp [crl,h]
theorem crl_no {B:Nat→Bool} {i:Nat} (h:B i=false):crl B (i+1)=crl B i:=by simp [crl,h]
def ccB (C:Nat→Lc) (j:Nat):Bool:=abvB (C j).lo (C j).hi
def rcB (R:Nat→Lr) (j:Nat):Bool:=abvB (R j).lo (R j).hi
theorem clsB_at {C:Nat→Lc}:∀{r i:Nat},clsB C r i=true→∀j,i≤j→j<i+r→nfB (C j).cost=true∧abB (C j).lo (C j).hi=true
 | 0,i,_,j,h1,h2=>by omega
 | r+1,i,h,j,h1,h2=>by
  simp only [clsB,Bool.and_eq_true] at h;by_cases e:j=i
  ·subst e;exact ⟨h.1,h.2.1⟩
  ·exact clsB_at h.2.2 j (by omega) (by omega)
theorem rlsB_at {R:Nat→Lr}:∀{r i:Nat},rlsB R r i=true→∀j,i≤j→j<i+r→abB (R j).lo (R j).hi=true∧tfB (R j).tk (R j).col (R j).T=true
 | 0,i,_,j,h1,h2=>by omega
 | r+1,i,h,j,h1,h2=>by
  simp only [rlsB,Bool.and_eq_true] at h;by_cases e:j=i
  ·subst e;exact ⟨h.1,h.2.1⟩
  ·exact rlsB_at h.2.2 j (by omega) (by omega)
theorem abB_ok {a b:Ex} (h:abB a b=true):exF a=true∧exF b=true∧a.i≠1∧b.i ≠ -1:=by
 simp only [abB,Bool.and_eq_true,decide_eq_true_eq] at h;exact ⟨h.1,h.2.1,h.2.2.1,h.2.2.2⟩
def eqs (f g:Nat→Int):Nat→Nat→Bool
 | 0,_=>true
 | r+1,i=>decide (f i=g i) && eqs f g r (i+1)
def eqlB (n m:Nat) (f g:Nat→Int):Bool:=decide (n=m) && eqs f g n 0
def sqB (a b:Nm):Bool:=decide (a.s=b.s) && (eqlB a.n b.n a.f b.f && eqlB a.m b.m a.g b.g)
set_option maxRecDepth 100000 in
set_option maxHeartbeats 2000000 in
theorem equalU_c {w:World} {x y:Option Addr} {n m c d:Nat} {f g:Nat→Int} (hx:Rd .u64 w x n f) (hy:Rd .u64 w y m g) (hn:n≤1048576) (hm:m≤1048576) :
  Calls Tryz.prog 53 #[.slice x n c,.slice y m d] w fun e w'=>e=.returned (.bool (eqlB n m f g))∧Below w.heap.size w w':=by
 have HX:=hid hx;have HY:=hid hy
 clear hx hy;by_cases hnm:n=m
 case neg =>
  have HE:=hid (show eqlB n m f g=false from by simp [eqlB,hnm]);have e1:((n:Int) != (m:Int))=true:=by simp;omega
  clear hnm;go_enter Tryz.func53,Tryz.ntmps53;go_wp2;go_ret;refine ⟨?_,Below.refl _ _⟩;rw [HE.out];rfl
 subst hnm;have HE:=hid (show eqlB n n f g=eqs f g n 0 from by simp [eqlB]);have e1:((n:Int) != (n:Int))=false:=by simp
 go_enter Tryz.func53,Tryz.ntmps53;go_wp2_with fail
 go_loopw [13] (fun t wr=>∃(i:Nat),i≤n∧t=.int .i64 i∧Hid (Below w.heap.size w wr)∧Hid (eqlB n n f g=eqs f g (n-i) i)) (fun t _=>n-(intOf t).toNat)
 case atStart=>exact ⟨0,by omega,rfl,Below.refl _ _,HE.out⟩
 case round =>
  obtain ⟨i,hi,rfl,HB,HI⟩:=hrel;by_cases hlt:i<n
  ·obtain ⟨b,o,rfl,hc⟩:=(HX.out.below HB.out (Nat.le_refl _)) i hlt;obtain ⟨b2,o2,rfl,hc2⟩:=(HY.out.below HB.out (Nat.le_refl _)) i hlt;obtain ⟨r,hr⟩:∃r,n-i=r+1:=⟨n-i-1,by omega⟩;have hT:eqlB n n f g=(decide (f i=g i) && eqs f g r (i+1)):=by rw [HI.out,hr];rfl
   have hr2:n-(i+1)=r:=by omega
   obtain ⟨u,hu⟩:∃u,f i=u:=⟨_,rfl⟩;obtain ⟨v,hv⟩:∃v,g i=v:=⟨_,rfl⟩;rw [hu,hv] at hT;rw [hu] at hc;rw [hv] at hc2;have HT:=hid hT;have HR:=hid hr2
   have i1:((i:Nat):Int)<((n:Nat):Int):=by omega
   clear hT hr2 hr hu hv;by_cases huv:u=v
   ·subst huv;have e2:(u != u)=false:=by simp
    go_upto_region 6 with fail
    have k1:wr.drew.cell? ⟨b,o+i,none⟩=some (.int .u64 u):=hc;have k2:wr.drew.cell? ⟨b2,o2+i,none⟩=some (.int .u64 u):=hc2
    go_quiet (fail)
    go_wp2;go_roundw
    case rel =>
     refine ⟨i+1,by omega,by go_num,(below_drewN HB.out _),?_⟩;show _=_;rw [HT.out,HR.out];simp
    case measure=>simp [intOf];omega
   ·have e2:(u != v)=true:=by simp [huv]
    go_upto_region 6 with fail
    have k1:wr.drew.cell? ⟨b,o+i,none⟩=some (.int .u64 u):=hc;have k2:wr.drew.cell? ⟨b2,o2+i,none⟩=some (.int .u64 v):=hc2
    go_quiet (fail)
    go_wp2;go_ret;refine ⟨?_,(below_drewN HB.out _)⟩;rw [HT.out];simp [huv]
  ·have e1:i=n:=by omega
   have HE:Hid (eqlB n n f g=true):=by show _=_;rw [HI.out,e1,Nat.sub_self];rfl
   have i2:¬(((i:Nat):Int)<((n:Nat):Int)):=by omega
   clear e1 HI;go_wp2;go_ret;refine ⟨?_,HB.out⟩;rw [HE.out];rfl
def Lc.val (c:Lc):Value:=.agg c.vs.toArray
def eqf {α:Type} (e:α→α→Bool) (X Y:Nat→α):Nat→Nat→Bool
 | 0,_=>true
 | r+1,i=>e (X i) (Y i) && eqf e X Y r (i+1)
def eqfB {α:Type} (e:α→α→Bool) (n m:Nat) (X Y:Nat→α):Bool:=decide (n=m) && eqf e X Y n 0
def Ex.vs (e:Ex):List Value:=[.int .i64 e.i,.bool e.v.s,.slice e.v.x e.v.n e.v.c,.slice e.v.y e.v.m e.v.d]
def Lr.val (c:Lr):Value:=.agg c.vs.toArray
def lstep (l e:Int):Int:=if l=0∨e≠0∧e<l then e else l
def lsf (E:Nat→Int):Nat→Int
 | 0=>0
 | i+1=>lstep (lsf E i) (E i)
def El (w:World) (ao:Option Addr) (k:Nat) (E:Nat→Int):Prop:=∀j,j<k→∃b o,ao=some ⟨b,o,none⟩∧w.cell? ⟨b,o+j,none⟩=some (.int .i64 (E j))
set_option maxRecDepth 100000 in
set_option maxHeartbeats 2000000 in
theorem least_c {w:World} {ao:Option Addr} {k cap:Nat} {E:Nat→Int} (h:El w ao k E) (hk:k≤1048576) :
  Calls Tryz.prog 36 #[.slice ao k cap] w fun e w'=>e=.returned (.int .i64 (lsf E k))∧w'=w:=by
 have H:=hid h;clear h;go_enter Tryz.func36,Tryz.ntmps36;go_wp2_with fail
 go_loopw [3,8] (fun l t wr=>∃(i:Nat) (v:Int),i≤k∧t=.int .i64 i∧l=.int .i64 v∧wr=w∧Hid (lsf E i=v)) (fun _ t _=>k-(intOf t).toNat)
 case atStart=>exact ⟨0,0,by omega,rfl,rfl,rfl,rfl⟩
 case round =>
  obtain ⟨i,v,hi,rfl,rfl,rfl,HI⟩:=hrel;by_cases hlt:i<k
  ·obtain ⟨b,o,rfl,hc⟩:=H.out i hlt;obtain ⟨e,he⟩:∃e,E i=e:=⟨_,rfl⟩;have hT:lsf E (i+1)=lstep v e:=by show lstep (lsf E i) (E i)=_;rw [HI.out,he]
   rw [he] at hc;have i1:((i:Nat):Int)<((k:Nat):Int):=by omega
   clear he;by_cases h0:v=0
   ·subst h0;have HT:=hid (show lsf E (i+1)=e from by rw [hT];simp [lstep]);clear hT;go_wp2;go_roundw
    case rel=>exact ⟨i+1,e,by omega,by go_num,rfl,trivial,HT.out⟩
    case measure=>simp [intOf];omega
   ·have e0:(v==0)=false:=by simpa using h0
    by_cases h1:e=0
    ·subst h1;have HT:=hid (show lsf E (i+1)=v from by rw [hT];simp [lstep,h0]);clear hT;go_wp2;go_roundw
     case rel=>exact ⟨i+1,v,by omega,by go_num,rfl,trivial,HT.out⟩
     case measure=>simp [intOf];omega
    ·have e2:(e != 0)=true:=by simp [h1]
     by_cases h2:e<v
     ·have HT:=hid (show lsf E (i+1)=e from by rw [hT];simp [lstep,h1,h2]);clear hT;go_wp2;go_roundw
      case rel=>exact ⟨i+1,e,by omega,by go_num,rfl,trivial,HT.out⟩
      case measure=>simp [intOf];omega
     ·have HT:=hid (show lsf E (i+1)=v from by rw [hT];simp [lstep,h0,h2]);clear hT;go_wp2;go_roundw
      case rel=>exact ⟨i+1,v,by omega,by go_num,rfl,trivial,HT.out⟩
      case measure=>simp [intOf];omega
  ·have e1:i=k:=by omega
   have i2:¬(((i:Nat):Int)<((k:Nat):Int)):=by omega
   rw [e1] at HI;clear e1;go_wp2;go_ret;refine ⟨?_,rfl⟩;rw [HI.out];rfl
def two (a b:Int) (j:Nat):Int:=if j=0 then a else b
theorem two_el {w:World} {a b:Int} {t:TypeId}:El (w.alloc (.cells #[.int .i64 a,.int .i64 b] t)) (some ⟨w.heap.size,0,none⟩) 2 (two a b):=fun j hj=>by
 refine ⟨_,0,rfl,?_⟩
 match j,hj with
 | 0,_=>simp [go_sem,two]
 | 1,_=>simp [go_sem,two]
theorem two_zero {a b:Int} (h:lsf (two a b) 2=0):a=0∧b=0:=by
 have h':lstep (lstep 0 a) b=0:=h;have e:lstep 0 a=a:=by simp [lstep]
 rw [e] at h';unfold lstep at h'
 split at h' <;> omega
theorem rLightK_c (K:Nat) (s:Bool) (x y:Option Addr) (n c m d:Nat) (w:World) :
  Calls Tryz.prog 21 #[.agg #[.bool s,.slice x n c,.slice y m d],.int .i64 K] w fun e w'=>e=.returned (.bool (lg n m K))∧Below w.heap.size w w':=by
 by_cases h1:n≤K
 ·have d1:decide ((n:Int)≤(K:Int))=true:=by simp;omega
  by_cases h2:m≤K
  ·have d2:decide ((m:Int)≤(K:Int))=true:=by simp;omega
   rw [show lg n m K=true by simp [lg,h1,h2]];go_enter Tryz.func21,Tryz.ntmps21;go_wp2;go_ret;exact ⟨rfl,below_alloc (Below.refl _ _) _⟩
  ·have d2:decide ((m:Int)≤(K:Int))=false:=by simp;omega
   rw [show lg n m K=false by simp [lg,h2]];go_enter Tryz.func21,Tryz.ntmps21;go_wp2;go_ret;exact ⟨rfl,below_alloc (Below.refl _ _) _⟩
 ·have d1:decide ((n:Int)≤(K:Int))=false:=by simp;omega
  rw [show lg n m K=false by simp [lg,h1]];go_enter Tryz.func21,Tryz.ntmps21;go_wp2;go_ret;exact ⟨rfl,below_alloc (Below.refl _ _) _⟩
def Tr (w:World) (ao:Option Addr) (k:Nat) (col:Nat→Int) (T:Nat→Nm):Prop :=
 ∀j,j<k→∃b o,ao=some ⟨b,o,none⟩∧C4 w b (o+j*4) (.int .i64 (col j)) (.bool (T j).s) (.slice (T j).x (T j).n (T j).c) (.slice (T j).y (T j).m (T j).d)∧Rw w (T j).x (T j).n (T j).c (T j).f (T j).y (T j).m (T j).d (T j).g
def Rr (w:World) (ao:Option Addr) (k:Nat) (X:Nat→Nm):Prop :=
 ∀j,j<k→∃b o,ao=some ⟨b,o,none⟩∧C3 w b (o+j*3) (.bool (X j).s) (.slice (X j).x (X j).n (X j).c) (.slice (X j).y (X j).m (X j).d)∧Rw w (X j).x (X j).n (X j).c (X j).f (X j).y (X j).m (X j).d (X j).g
theorem Tr.below {w w' ao k col T} (h:Tr w ao k col T) (hb:Below w.heap.size w w'):Tr w' ao k col T:=fun j hj=>by
 obtain ⟨b,o,e,h1,h2⟩:=h j hj;exact ⟨b,o,e,h1.below hb,h2.below hb⟩
theorem Rr.below {w w' ao k X} (h:Rr w ao k X) (hb:Below w.heap.size w w'):Rr w' ao k X:=fun j hj=>by
 obtain ⟨b,o,e,h1,h2⟩:=h j hj;exact ⟨b,o,e,h1.below hb,h2.below hb⟩
def nlg (K:Nat) (X:Nat→Nm):Nat→Nat→Bool
 | 0,_=>true
 | r+1,i=>lg (X i).n (X i).m K && nlg K X r (i+1)
theorem nlg_all {K:Nat} {X:Nat→Nm}:∀{r i:Nat},nlg K X r i=true→∀j,i≤j→j<i+r→(X j).n≤K∧(X j).m≤K:=by
 intro r
 induction r with
 | zero=>intro i _ j h1 h2;omega
 | succ r ih =>
  intro i h j hj hj2;simp only [nlg,lg,Bool.and_eq_true,decide_eq_true_eq] at h;by_cases e:j=i
  ·subst e;exact h.1
  ·exact ih h.2 j (by omega) (by omega)
theorem Tr.tl {w ao k col T} {K:Nat} (h:Tr w ao k col T) (hl:nlg K T k 0=true) (hK:K≤65536):Tl w ao k col T:=fun j hj=>by
 obtain ⟨b,o,e,h1,h2⟩:=h j hj;obtain ⟨h3,h4⟩:=nlg_all hl j (by omega) (by omega);exact ⟨b,o,e,h1,h2,by omega,by omega⟩
theorem Rr.rl {w ao k X} {K:Nat} (h:Rr w ao k X) (hl:nlg K X k 0=true) (hK:K≤65536):Rl w ao k X:=fun j hj=>by
 obtain ⟨b,o,e,h1,h2⟩:=h j hj;obtain ⟨h3,h4⟩:=nlg_all hl j (by omega) (by omega);exact ⟨b,o,e,h1,h2,by omega,by omega⟩
set_option maxRecDepth 100000 in
set_option maxHeartbeats 4000000 in
theorem rLights_c {w:World} {ao:Option Addr} {k cap:Nat} {X:Nat→Nm} (K:Nat) (h:Rr w ao k X) (hk:k≤9223372036854775807) :
  Calls Tryz.prog 22 #[.slice ao k cap,.int .i64 K] w fun e w'=>e=.returned (.bool (decide (k≤300) && nlg K X k 0))∧Below w.heap.size w w':=by
 have H:=hid h;clear h;by_cases h300:k≤300
 ·have i0:¬((300:Int)<((k:Nat):Int)):=by omega
  rw [show (decide (k≤300) && nlg K X k 0)=nlg K X k 0 by simp [h300]];go_enter Tryz.func22,Tryz.ntmps22;go_wp2_with fail
  go_loopw [12] (fun t wr=>∃(i:Nat),i≤k∧t=.int .i64 i∧Hid (Below w.heap.size w wr)∧Hid (nlg K X k 0=nlg K X (k-i) i)) (fun t _=>k-(intOf t).toNat)
  case atStart=>exact ⟨0,by omega,rfl,Below.refl _ _,rfl⟩
  case round =>
   obtain ⟨i,hi,rfl,HB,HT⟩:=hrel;by_cases hlt:i<k
   ·obtain ⟨b,o,rfl,hc,hn⟩:=(H.out.below HB.out) i hlt;obtain ⟨r,hr⟩:∃r,k-i=r+1:=⟨k-i-1,by omega⟩;have hT:nlg K X k 0=(lg (X i).n (X i).m K && nlg K X r (i+1)):=by rw [HT.out,hr];rfl
    have hr2:k-(i+1)=r:=by omega
    obtain ⟨⟨s,x,n,c,f,y,m,d,g⟩,hTi⟩:∃t,X i=t:=⟨_,rfl⟩;rw [hTi] at hc hn hT;obtain ⟨x0,x1,x2⟩:=hc;replace x0:wr.cell? ⟨b,o+i*3,none⟩=some (.bool s):=x0;replace x1:wr.cell? ⟨b,o+i*3+1,none⟩=some (.slice x n c):=x1;replace x2:wr.cell? ⟨b,o+i*3+2,none⟩=some (.slice y m d):=x2;have HTi:=hid hT;have HR2:=hid hr2
    have i1:((i:Nat):Int)<((k:Nat):Int):=by omega
    clear hT hr2 hTi hr hn;go_wp2_with fail
    refine (rLightK_c K s x y n c m d _).mono ?_;rintro e w1 ⟨rfl,hb1⟩;obtain ⟨_,_,_,_,hb2⟩:=box3 hb1;have HB2:=hid (HB.out.trans (hb2.mono HB.out.size));clear hb1 hb2;cases hf:lg n m K
    ·have HF:=hid hf;clear hf;go_wp2;go_ret;refine ⟨?_,HB2.out⟩;rw [HTi.out];show _=Ending.returned (.bool (lg n m K && _));rw [HF.out];rfl
    ·have HF:=hid hf;clear hf;go_wp2;go_roundw
     case rel =>
      refine ⟨i+1,by omega,by go_num,HB2.out,?_⟩;show _=_;rw [HTi.out,HR2.out];show (lg n m K && _)=_;rw [HF.out];rfl
     case measure=>simp [intOf];omega
   ·have e1:i=k:=by omega
    have HTe:Hid (nlg K X k 0=true):=by
     show _=_;rw [HT.out,e1,Nat.sub_self];rfl
    have i2:¬(((i:Nat):Int)<((k:Nat):Int)):=by omega
    clear e1 HT;go_wp2;go_ret;refine ⟨?_,HB.out⟩;rw [HTe.out];rfl
 ·have i0:(300:Int)<((k:Nat):Int):=by omega
  rw [show (decide (k≤300) && nlg K X k 0)=false by simp [h300]];go_enter Tryz.func22,Tryz.ntmps22;go_wp2;go_ret;exact ⟨rfl,Below.refl _ _⟩
end Go.Proofs.YtankbgpcnljjdaaGreat
