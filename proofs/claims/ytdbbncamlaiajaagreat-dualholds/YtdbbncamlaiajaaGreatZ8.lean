/-
 Names: the walks of package model's isLetter, isDigit, IsName, allNames. A map from texts to numbers in memory (F2 is written by makers/f2.py out of Z2); the walk of package model's anyTwice. Models in memory: columns, rows; the walk of package model's areBounds. Columns, rows and models in memory; the walk of package model's inForm (written by makers/f4.py). Lists of rational numbers in memory; the walks of package vec's allForm, allBelow, plus and times. Rows of structs that a call makes by append, none of whose cells is a limb: what stays when they are written. No Go text is named here. The walk of package vec's putter (gather's own function). Lists of terms in form, as values; the walk of package vec's merge. The walks of package vec's gather and of the call Plus, on lists in form. Lists of terms in form have values; the walk of package vec's call Plus, whatever it is handed. The walks of package vec's calls Scale and Sparse, whatever they are handed. The walk of package vec's call Sparse, whatever it is handed. How long rational numbers are, by their values: sums and products. The call Dot of package vec, on lists in form whose columns lie below the number of the numbers. Package vec's call At. Lists of terms and lists of numbers, as values: sums, products with numbers, there and back. No Go text is named here. Between lists in memory and their values; rows of numbers that are made and written; the walk of package vec's call Dense, whatever it is handed. The walk of package vec's call Dense, whatever it is handed. Package vec's call Dot where it answers an error. Package vec's calls on lists in form, by their values; lists that are put together by their terms. append to a row of structs in a region that draws its order. No Go text is named here.
-/
import Derived.Test.YtdbbncamlaiajaaGreatZ4
import Derived.WalkKit
import Derived.MapKept
import Derived.ChangeMaps5
import Derived.Test.YtdbbncamlaiajaaGreatZ7
import Derived.BigQuiet
import Derived.Deep.RegionHeld3
import Derived.Test.YtdbbncamlaiajaaGreatZ6
namespace Go.Proofs.YtdbbncamlaiajaaGreat
open Go.RowKit
def lett (b:Int):Bool:=decide (97≤b) && decide (b≤122)
def digt (b:Int):Bool:=decide (48≤b) && decide (b≤57)
def nchr (b:Int):Bool:=lett b || (digt b || decide (b=95))
def bt (s:ByteArray) (k:Nat):Int:=if h:k<s.size then ((s[k]'h).toNat:Int) else 0
def nchs (s:ByteArray):Nat→Nat→Bool
 | 0,_=>true
 | r+1,i=>nchr (bt s i) && nchs s r (i+1)
def isNm (s:ByteArray):Bool:=decide (1≤s.size) && (decide (s.size≤16) && (lett (bt s 0) && nchs s s.size 0))
theorem isLetter_c {w:World} {b:Int}:Calls Tryz.prog 135 #[.int .u8 b] w fun e w'=>e=.returned (.bool (lett b))∧w'=w:=by
 by_cases h1:97≤b
 ·by_cases h2:b≤122
  ·have HL:Hid (lett b=true):=by show _=_;simp [lett,h1,h2]
   go_enter Tryz.func135,Tryz.ntmps135;go_wp2;go_ret;refine ⟨?_,rfl⟩;rw [HL.out];rfl
  ·have HL:Hid (lett b=false):=by show _=_;simp [lett,h2]
   go_enter Tryz.func135,Tryz.ntmps135;go_wp2;go_ret;refine ⟨?_,rfl⟩;rw [HL.out];rfl
 ·have HL:Hid (lett b=false):=by show _=_;simp [lett,h1]
  go_enter Tryz.func135,Tryz.ntmps135;go_wp2;go_ret;refine ⟨?_,rfl⟩;rw [HL.out];rfl
theorem isDigit_c {w:World} {b:Int}:Calls Tryz.prog 136 #[.int .u8 b] w fun e w'=>e=.returned (.bool (digt b))∧w'=w:=by
 by_cases h1:48≤b
 ·by_cases h2:b≤57
  ·have HL:Hid (digt b=true):=by show _=_;simp [digt,h1,h2]
   go_enter Tryz.func136,Tryz.ntmps136;go_wp2;go_ret;refine ⟨?_,rfl⟩;rw [HL.out];rfl
  ·have HL:Hid (digt b=false):=by show _=_;simp [digt,h2]
   go_enter Tryz.func136,Tryz.ntmps136;go_wp2;go_ret;refine ⟨?_,rfl⟩;rw [HL.out];rfl
 ·have HL:Hid (digt b=false):=by show _=_;simp [digt,h1]
  go_enter Tryz.func136,Tryz.ntmps136;go_wp2;go_ret;refine ⟨?_,rfl⟩;rw [HL.out];rfl
set_option maxRecDepth 100000 in
set_option maxHeartbeats 2000000 in
theorem isName_c {w:World} {s:ByteArray} (hs:s.size≤9223372036854775807):Calls Tryz.prog 100 #[.string s] w fun e w'=>e=.returned (.bool (isNm s))∧w'=w:=by
 by_cases h1:1≤s.size
 case neg =>
  have HL:Hid (isNm s=false):=by show _=_;simp [isNm,h1]
  have e0:(s.size:Int)<1:=by omega
  clear h1;go_enter Tryz.func100,Tryz.ntmps100;go_wp2;go_ret;refine ⟨?_,rfl⟩;rw [HL.out];rfl
 by_cases h2:s.size≤16
 case neg =>
  have HL:Hid (isNm s=false):=by show _=_;simp [isNm,h2]
  have e0:¬(s.size:Int)<1:=by omega
  have e1:(s.size:Int) > 16:=by omega
  clear h1 h2;go_enter Tryz.func100,Tryz.ntmps100;go_wp2;go_ret;refine ⟨?_,rfl⟩;rw [HL.out];rfl
 have h0:0<s.size:=by omega
 obtain ⟨x,hx⟩:∃x:Int,((s[0]'h0).toNat:Int)=x:=⟨_,rfl⟩;have hb0:bt s 0=x:=by rw [←hx];simp [bt,h0]
 have e0:¬(s.size:Int)<1:=by omega
 have e1:¬(s.size:Int) > 16:=by omega
 cases hl:lett x
 ·have HL:Hid (isNm s=false):=by show _=_;simp [isNm,hb0,hl]
  have C:Hid (∀w,Calls Tryz.prog 135 #[.int .u8 x] w fun e w'=>e=.returned (.bool false)∧w'=w):=fun w=>hl ▸ isLetter_c
  clear h1 h2 hb0 hl;go_enter Tryz.func100,Tryz.ntmps100;go_wp2_with fail
  refine (C.out _).mono ?_;rintro e w1 ⟨rfl,rfl⟩;go_wp2;go_ret;refine ⟨?_,rfl⟩;rw [HL.out];rfl
 ·have HL:Hid (isNm s=nchs s s.size 0):=by show _=_;simp [isNm,hb0,hl,h1,h2]
  have C:Hid (∀w,Calls Tryz.prog 135 #[.int .u8 x] w fun e w'=>e=.returned (.bool true)∧w'=w):=fun w=>hl ▸ isLetter_c
  clear h1 h2 hb0 hl;go_enter Tryz.func100,Tryz.ntmps100;go_wp2_with fail
  refine (C.out _).mono ?_;rintro e w1 ⟨rfl,rfl⟩;go_wp2_with fail
  go_loopw [20] (fun t wr=>∃(i:Nat),i≤s.size∧t=.int .i64 i∧wr=w1∧Hid (isNm s=nchs s (s.size-i) i)) (fun t _=>s.size-(intOf t).toNat)
  case atStart=>exact ⟨0,by omega,rfl,rfl,HL.out⟩
  case round =>
   obtain ⟨i,hi,rfl,rfl,HI⟩:=hrel;by_cases hlt:i<s.size
   ·obtain ⟨z,hz⟩:∃z:Int,((s[i]'hlt).toNat:Int)=z:=⟨_,rfl⟩;have hbi:bt s i=z:=by rw [←hz];simp [bt,hlt]
    obtain ⟨r,hr⟩:∃r,s.size-i=r+1:=⟨s.size-i-1,by omega⟩;have hT:isNm s=(nchr z && nchs s r (i+1)):=by rw [HI.out,hr];show (nchr (bt s i) && _)=_;rw [hbi]
    have hr2:s.size-(i+1)=r:=by omega
    have HT:=hid hT;have HR:=hid hr2
    have i1:((i:Nat):Int)<((s.size:Nat):Int):=by omega
    have LC:=hid (fun w=>isLetter_c (w:=w) (b:=z));have DC:=hid (fun w=>isDigit_c (w:=w) (b:=z));clear hT hr2 hr hbi;cases hl:lett z
    ·have LC2:=LC;rw [hl] at LC2
     clear LC;cases hd:digt z
     ·have DC2:=DC;rw [hd] at DC2
      clear DC;by_cases h95:z=95
      ·have HN:Hid (nchr z=true):=by show _=_;simp [nchr,h95]
       subst h95;clear hl hd;go_wp2_with fail
       refine (LC2.out _).mono ?_;rintro e w2 ⟨rfl,rfl⟩;go_wp2_with fail
       refine (DC2.out _).mono ?_;rintro e w3 ⟨rfl,rfl⟩;go_wp2;go_roundw
       case rel =>
        refine ⟨i+1,by omega,by go_num,trivial,?_⟩;show _=_;rw [HT.out,HN.out,HR.out];rfl
       case measure=>simp [intOf];omega
      ·have HN:Hid (nchr z=false):=by show _=_;simp [nchr,hl,hd,h95]
       clear hl hd;go_wp2_with fail
       refine (LC2.out _).mono ?_;rintro e w2 ⟨rfl,rfl⟩;go_wp2_with fail
       refine (DC2.out _).mono ?_;rintro e w3 ⟨rfl,rfl⟩;go_wp2;go_ret;refine ⟨?_,rfl⟩;rw [HT.out,HN.out];rfl
     ·have DC2:=DC;rw [hd] at DC2
      have HN:Hid (nchr z=true):=by show _=_;simp [nchr,hl,hd]
      clear DC hl hd;go_wp2_with fail
      refine (LC2.out _).mono ?_;rintro e w2 ⟨rfl,rfl⟩;go_wp2_with fail
      refine (DC2.out _).mono ?_;rintro e w3 ⟨rfl,rfl⟩;go_wp2;go_roundw
      case rel =>
       refine ⟨i+1,by omega,by go_num,trivial,?_⟩;show _=_;rw [HT.out,HN.out,HR.out];rfl
      case measure=>simp [intOf];omega
    ·have LC2:=LC;rw [hl] at LC2
     have HN:Hid (nchr z=true):=by show _=_;simp [nchr,hl]
     clear LC hl;go_wp2_with fail
     refine (LC2.out _).mono ?_;rintro e w2 ⟨rfl,rfl⟩;go_wp2;go_roundw
     case rel =>
      refine ⟨i+1,by omega,by go_num,trivial,?_⟩;show _=_;rw [HT.out,HN.out,HR.out];rfl
     case measure=>simp [intOf];omega
   ·have e1:i=s.size:=by omega
    have HE:Hid (isNm s=true):=by show _=_;rw [HI.out,e1,Nat.sub_self];rfl
    have i2:¬(((i:Nat):Int)<((s.size:Nat):Int)):=by omega
    clear e1 HI;go_wp2;go_ret;refine ⟨?_,rfl⟩;rw [HE.out];rfl
def Sl (w:World) (ao:Option Addr) (k:Nat) (S:Nat→ByteArray):Prop :=
 ∀j,j<k→∃b o,ao=some ⟨b,o,none⟩∧w.cell? ⟨b,o+j,none⟩=some (.string (S j))∧(S j).size≤9223372036854775807
theorem Sl.below {w w' ao k S} (h:Sl w ao k S) (hb:Below w.heap.size w w'):Sl w' ao k S:=fun j hj=>by
 obtain ⟨b,o,e,h1,h2⟩:=h j hj;exact ⟨b,o,e,(hb.cell (World.block_lt_of_cell? w _ h1)).trans h1,h2⟩
def nms (S:Nat→ByteArray):Nat→Nat→Bool
 | 0,_=>true
 | r+1,i=>isNm (S i) && nms S r (i+1)
set_option maxRecDepth 100000 in
set_option maxHeartbeats 2000000 in
theorem allNames_c {w:World} {ao:Option Addr} {k cap:Nat} {S:Nat→ByteArray} (h:Sl w ao k S) (hk:k≤1048576) :
  Calls Tryz.prog 60 #[.slice ao k cap] w fun e w'=>e=.returned (.bool (nms S k 0))∧w'=w:=by
 have H:=hid h;clear h;go_enter Tryz.func60,Tryz.ntmps60;go_wp2_with fail
 go_loopw [7] (fun t wr=>∃(i:Nat),i≤k∧t=.int .i64 i∧wr=w∧Hid (nms S k 0=nms S (k-i) i)) (fun t _=>k-(intOf t).toNat)
 case atStart=>exact ⟨0,by omega,rfl,rfl,rfl⟩
 case round =>
  obtain ⟨i,hi,rfl,rfl,HI⟩:=hrel;by_cases hlt:i<k
  ·obtain ⟨b,o,rfl,hc,hz⟩:=H.out i hlt;obtain ⟨r,hr⟩:∃r,k-i=r+1:=⟨k-i-1,by omega⟩;have hT:nms S k 0=(isNm (S i) && nms S r (i+1)):=by rw [HI.out,hr];rfl
   have hr2:k-(i+1)=r:=by omega
   obtain ⟨z,hzz⟩:∃z,S i=z:=⟨_,rfl⟩;rw [hzz] at hT hc hz;have HT:=hid hT;have HR:=hid hr2
   have i1:((i:Nat):Int)<((k:Nat):Int):=by omega
   have NC:=hid (fun w=>isName_c (w:=w) hz);clear hT hr2 hr hzz hz;cases hl:isNm z
   ·have NC2:=NC;rw [hl] at NC2
    have HN:=hid hl;clear NC hl;go_wp2_with fail
    refine (NC2.out _).mono ?_;rintro e w2 ⟨rfl,rfl⟩;go_wp2;go_ret;refine ⟨?_,rfl⟩;rw [HT.out,HN.out];rfl
   ·have NC2:=NC;rw [hl] at NC2
    have HN:=hid hl;clear NC hl;go_wp2_with fail
    refine (NC2.out _).mono ?_;rintro e w2 ⟨rfl,rfl⟩;go_wp2;go_roundw
    case rel =>
     refine ⟨i+1,by omega,by go_num,trivial,?_⟩;show _=_;rw [HT.out,HN.out,HR.out];rfl
    case measure=>simp [intOf];omega
  ·have e1:i=k:=by omega
   have HE:Hid (nms S k 0=true):=by show _=_;rw [HI.out,e1,Nat.sub_self];rfl
   have i2:¬(((i:Nat):Int)<((k:Nat):Int)):=by omega
   clear e1 HI;go_wp2;go_ret;refine ⟨?_,rfl⟩;rw [HE.out];rfl
end Go.Proofs.YtdbbncamlaiajaaGreat
namespace Go.Proofs.YtdbbncamlaiajaaGreat
open Go.RowKit Go.MapKept Go.ChangeMaps
def Ens (es:Array MapEntry) (R:ByteArray→Int→Prop):Prop :=
 (∀x ∈ es.toList,∃k v,x.key=.string k∧x.val=.int .i64 v)∧∀k v,R k v ↔ ∃x ∈ es.toList,x.key=.string k∧x.val=.int .i64 v
def Ms (w:World) (b:Nat) (R:ByteArray→Int→Prop):Prop :=
 ∃es clock,w.heap[b]?=some (.map es clock)∧Stamped es clock∧Ens es R
theorem Ms.of {w w' b R} (h:Ms w b R) (e:w'.heap[b]?=w.heap[b]?):Ms w' b R:=by
 obtain ⟨es,c,h1,h2⟩:=h;exact ⟨es,c,e.trans h1,h2⟩
theorem Ms.lt {w b R} (h:Ms w b R):b<w.heap.size:=by
 obtain ⟨es,c,h1,_⟩:=h;exact (Array.getElem?_eq_some_iff.1 h1).1
theorem Ms.congr {w b R R'} (h:Ms w b R) (e:∀k v,R' k v ↔ R k v):Ms w b R':=by
 obtain ⟨es,c,h1,h2,h3,h4⟩:=h;exact ⟨es,c,h1,h2,h3,fun k v=>(e k v).trans (h4 k v)⟩
theorem Ens.key {es R} (h:Ens es R):∀x ∈ es.toList,IsKey .string x.key:=fun x hx=>by
 obtain ⟨k,v,e,_⟩:=h.1 x hx;rw [e];trivial
theorem nds_same {l:List MapEntry} (hn:(l.map (·.key)).Nodup) {x y:MapEntry} (hx:x ∈ l) (hy:y ∈ l) (e:x.key=y.key):x=y:=by
 induction l with
 | nil=>cases hx
 | cons a r ih =>
  simp only [List.map_cons,List.nodup_cons,List.mem_map,not_exists,not_and] at hn;rcases List.mem_cons.1 hx with h1 | h1 <;> rcases List.mem_cons.1 hy with h2 | h2
  ·rw [h1,h2]
  ·subst h1;exact absurd e.symm (hn.1 y h2)
  ·subst h2;exact absurd e (hn.1 x h1)
  ·exact ih hn.2 h1 h2
theorem Ms.fun {w b R} (h:Ms w b R) {k:ByteArray} {u v:Int} (hu:R k u) (hv:R k v):u=v:=by
 obtain ⟨es,c,_,hs,he⟩:=h;obtain ⟨x,hx,x1,x2⟩:=(he.2 k u).1 hu;obtain ⟨y,hy,y1,y2⟩:=(he.2 k v).1 hv;have:=nds_same hs.2.2 hx hy (x1.trans y1.symm);subst this;rw [x2] at y2;simpa using y2
theorem Ms.find {es:Array MapEntry} {R:ByteArray→Int→Prop} (he:Ens es R) (k:ByteArray) :
  (Instr.findNow .string (.string k) es.toList 0=some none∧(∀x ∈ es.toList,x.key≠.string k)∧∀v,¬R k v)∨∃j x v,Instr.findNow .string (.string k) es.toList 0=some (some (j,.int .i64 v))∧es[j]?=some x∧x ∈ es.toList∧x.key=.string k∧x.val=.int .i64 v∧R k v:=by
 rcases findNow_spec (d:=.string) (k:=.string k) trivial es.toList 0 he.key with ⟨h1,h2⟩ | ⟨j,x,h1,h2,h3⟩
 ·exact .inl ⟨h1,h2,fun v hv=>by
   obtain ⟨x,hx,x1,_⟩:=(he.2 k v).1 hv;exact h2 x hx x1⟩
 ·have hx:x ∈ es.toList:=List.mem_of_getElem? h2;obtain ⟨k',v,e1,e2⟩:=he.1 x hx;refine .inr ⟨j,x,v,?_,by simpa using h2,hx,h3,e2,(he.2 k v).2 ⟨x,hx,h3,e2⟩⟩;rw [h1,e2];simp
variable {P:Program} {t kt et:TypeId} {w:World} {b:Nat} {R:ByteArray→Int→Prop} {k:ByteArray} {v:Int}
theorem Ms.look (h:Ms w b R) (hm:P.underlying t=some (.map kt et)) (hd:P.underlying kt=some .string) (hv:R k v) (ok:Bool) :
  (Instr.lookup t (.map (some b)) (.string k) ok).run P w=.ok (if ok then .tuple #[.int .i64 v,.bool true] else .int .i64 v) w:=by
 have hf:=h;obtain ⟨es,c,hb,hs,he⟩:=h;rcases Ms.find he k with ⟨_,_,h3⟩ | ⟨j,x,v',h1,_,_,_,_,hr⟩
 ·exact absurd hv (h3 v)
 ·have e:=hf.fun hr hv
  subst e;simp [Instr.lookup,run_underlying hm,MapKept.run_getObj_map hb,run_checkKey hd (show IsKey .string (.string k) from trivial),run_findKey hd h1,Result.andThen]
theorem Ms.miss (h:Ms w b R) (hm:P.underlying t=some (.map kt et)) (hd:P.underlying kt=some .string) (hz:(zeroValue et).run P w=.ok (.int .i64 0) w) (hv:∀v,¬R k v) (ok:Bool) :
  (Instr.lookup t (.map (some b)) (.string k) ok).run P w=.ok (if ok then .tuple #[.int .i64 0,.bool false] else .int .i64 0) w:=by
 obtain ⟨es,c,hb,hs,he⟩:=h;rcases Ms.find he k with ⟨h1,_,_⟩ | ⟨j,x,v',h1,_,_,_,_,hr⟩
 ·simp [Instr.lookup,run_underlying hm,MapKept.run_getObj_map hb,run_checkKey hd (show IsKey .string (.string k) from trivial),run_findKey hd h1,hz,Result.andThen]
 ·exact absurd hr (hv v')
def putS (R:ByteArray→Int→Prop) (k:ByteArray) (v:Int):ByteArray→Int→Prop:=fun k' v'=>(k'=k∧v'=v)∨(k'≠k∧R k' v')
structure Ons (b:Nat) (w w':World):Prop where
 os:w'.os=w.os
 tape:w'.tape=w.tape
 output:w'.output=w.output
 size:w'.heap.size=w.heap.size
 block:∀k,k≠b→w'.heap[k]?=w.heap[k]?
theorem ons_setBlock (w:World) (b:Nat) (o:Obj):Ons b w (setBlock w b o) :=
 ⟨rfl,rfl,rfl,by simp [setBlock],fun k hk=>by simp [setBlock,Ne.symm hk]⟩
theorem mems_modify {es:Array MapEntry} {j:Nat} {x:MapEntry} {f:MapEntry→MapEntry} (hj:es[j]?=some x) (hn:es.toList.Nodup) (y:MapEntry):y ∈ (es.modify j f).toList ↔ y=f x∨(y ∈ es.toList∧y≠x):=by
 have hl:es.toList[j]?=some x:=by simpa using hj
 constructor
 ·intro hy;obtain ⟨i,hi⟩:=List.getElem?_of_mem hy;simp only [Array.getElem?_toList,Array.getElem?_modify] at hi;by_cases e:j=i
  ·subst e;simp [hj] at hi;exact .inl hi.symm
  ·simp [e] at hi;refine .inr ⟨List.mem_of_getElem? (by simpa using hi),fun e2=>?_⟩;subst e2;have hlt:j<es.toList.length:=(List.getElem?_eq_some_iff.1 hl).1;exact e ((List.getElem?_inj hlt hn).1 (by rw [hl];simpa using hi.symm))
 ·rintro (rfl | ⟨hy,hne⟩)
  ·refine List.mem_of_getElem? (i:=j) ?_;simp [hj]
  ·obtain ⟨i,hi⟩:=List.getElem?_of_mem hy;refine List.mem_of_getElem? (i:=i) ?_;have:j≠i:=fun e=>by subst e;rw [hl] at hi;cases hi;exact hne rfl
   simp only [Array.getElem?_toList,Array.getElem?_modify,this,if_false];simpa using hi
theorem nds_of {es:Array MapEntry} {c:Nat} (hs:Stamped es c):es.toList.Nodup:=List.Pairwise.of_map (fun x:MapEntry=>x.key) (fun a b h e=>h (by rw [e])) hs.2.2
theorem ens_modify {es:Array MapEntry} {c:Nat} (hs:Stamped es c) (he:Ens es R) {j:Nat} {x:MapEntry} (hj:es[j]?=some x) (hk:x.key=.string k) (f:MapEntry→MapEntry) (f1:(f x).key=x.key) (f2:(f x).val=.int .i64 v) (f3:(f x).born=x.born) :
  Stamped (es.modify j f) c∧Ens (es.modify j f) (putS R k v):=by
 have hx:x ∈ es.toList:=List.mem_of_getElem? (i:=j) (by simpa using hj);have hn:=nds_of hs;have e0:es.modify j f=es.modify j (fun _=>f x):=by
  apply Array.ext_getElem?;intro i;simp only [Array.getElem?_modify];by_cases e:j=i
  ·subst e;simp [hj]
  ·simp [e]
 refine ⟨?_,?_,fun k' v'=>?_⟩
 ·rw [e0];have hb:(es.modify j (fun _=>f x)).toList.map (·.born)=es.toList.map (·.born):=by
   apply List.ext_getElem?;intro i;simp only [List.getElem?_map,Array.getElem?_toList,Array.getElem?_modify];by_cases e:j=i
   ·subst e;simp [hj,f3]
   ·simp [e]
  have hk':=modify_keys (es:=es) j (fun _=>f x) (fun e he'=>by rw [hj] at he';cases he';exact f1);refine ⟨fun y hy=>?_,hb ▸ hs.2.1,hk' ▸ hs.2.2⟩;have:y.born ∈ es.toList.map (·.born):=hb ▸ List.mem_map_of_mem hy;obtain ⟨z,hz,e⟩:=List.mem_map.1 this;rw [←e];exact hs.1 z hz
 ·intro y hy;rcases (mems_modify hj hn y).1 hy with rfl | ⟨h1,_⟩
  ·exact ⟨k,v,f1.trans hk,f2⟩
  ·exact he.1 y h1
 ·constructor
  ·rintro (⟨rfl,rfl⟩ | ⟨hne,hr⟩)
   ·exact ⟨f x,(mems_modify hj hn _).2 (.inl rfl),f1.trans hk,f2⟩
   ·obtain ⟨y,hy,y1,y2⟩:=(he.2 k' v').1 hr;refine ⟨y,(mems_modify hj hn _).2 (.inr ⟨hy,fun e=>?_⟩),y1,y2⟩;subst e;rw [hk] at y1;simp at y1;exact hne y1.symm
  ·rintro ⟨y,hy,y1,y2⟩;rcases (mems_modify hj hn y).1 hy with rfl | ⟨h1,h2⟩
   ·rw [f1,hk] at y1;rw [f2] at y2
    simp at y1 y2;exact .inl ⟨y1.symm,y2.symm⟩
   ·refine .inr ⟨fun e=>?_,(he.2 k' v').2 ⟨y,h1,y1,y2⟩⟩;subst e;exact h2 (nds_same hs.2.2 h1 hx (y1.trans hk.symm))
theorem Ms.update (h:Ms w b R) (hm:P.underlying t=some (.map kt et)) (hd:P.underlying kt=some .string) (k:ByteArray) (v:Int) :
  ∃w',(Instr.mapUpdate t (.map (some b)) (.string k) (.int .i64 v)).run P w=.ok () w'∧Ms w' b (putS R k v)∧Ons b w w':=by
 obtain ⟨es,c,hb,hs,he⟩:=h;have hK:IsKey .string (.string k):=trivial;rcases Ms.find he k with ⟨h1,h2,h3⟩ | ⟨j,x,v',h1,hj,hx,hk,_,hr⟩
 ·refine ⟨setBlock w b (.map (es.push ⟨.string k,.int .i64 v,c⟩) (c+1)),?_,⟨_,_,heap_setBlock_same hb _,stamped_push hs h2,?_,fun k' u=>?_⟩,ons_setBlock _ _ _⟩
  ·simp [Instr.mapUpdate,run_underlying hm,MapKept.run_getObj_map hb,run_checkKey hd hK,run_findKey hd h1,run_setObj_map _ hb,Result.andThen,setBlock]
  ·intro y hy;simp only [Array.toList_push,List.mem_append,List.mem_singleton] at hy;rcases hy with hy | rfl
   ·exact he.1 y hy
   ·exact ⟨_,_,rfl,rfl⟩
  ·simp only [Array.toList_push,List.mem_append,List.mem_singleton];constructor
   ·rintro (⟨rfl,rfl⟩ | ⟨_,hr⟩)
    ·exact ⟨_,.inr rfl,rfl,rfl⟩
    ·obtain ⟨y,hy,y1,y2⟩:=(he.2 k' u).1 hr;exact ⟨y,.inl hy,y1,y2⟩
   ·rintro ⟨y,hy | rfl,y1,y2⟩
    ·refine .inr ⟨fun e=>?_,(he.2 k' u).2 ⟨y,hy,y1,y2⟩⟩;subst e;exact h2 y hy y1
    ·simp at y1 y2;exact .inl ⟨y1.symm,y2.symm⟩
 ·have hm':=ens_modify (k:=k) (v:=v) hs he hj hk (fun e=>{ e with key:=.string k,val:=.int .i64 v }) hk.symm rfl rfl;refine ⟨setBlock w b (.map (es.modify j fun e=>{ e with key:=.string k,val:=.int .i64 v }) c),?_,⟨_,_,heap_setBlock_same hb _,hm'.1,hm'.2⟩,ons_setBlock _ _ _⟩;simp [Instr.mapUpdate,run_underlying hm,MapKept.run_getObj_map hb,run_checkKey hd hK,run_findKey hd h1,hj,hk,run_keyThatStays hK,run_setObj_map _ hb,Result.andThen,setBlock]
theorem ms_made (w:World):Ms (w.alloc (.map #[] 0)) w.heap.size (fun _ _=>False) :=
 ⟨#[],0,(MapKept.heap_alloc w _).1,stamped_empty 0,by simp,fun k v=>by simp⟩
def sawB (S:Nat→ByteArray) (i:Nat):Bool:=(List.range i).any fun j=>decide (S j=S i)
def twr (S:Nat→ByteArray):Nat→Nat→Bool
 | 0,_=>false
 | r+1,i=>sawB S i || twr S r (i+1)
def sawQ (S:Nat→ByteArray) (i:Nat):ByteArray→Int→Prop:=fun k v=>v=1∧∃j,j<i∧S j=k
theorem sawB_iff (S:Nat→ByteArray) (i:Nat):sawB S i=true ↔ ∃j,j<i∧S j=S i:=by
 simp [sawB]
theorem zeroS (w:World):(zeroValue 3).run Tryz.prog w=.ok (.int .i64 0) w:=by kernel_rfl
set_option maxRecDepth 100000 in
set_option maxHeartbeats 2000000 in
theorem anyTwice_c {w:World} {ao:Option Addr} {k cap:Nat} {S:Nat→ByteArray} (h:Sl w ao k S) (hk:k≤1048576) :
  Calls Tryz.prog 61 #[.slice ao k cap] w fun e w'=>e=.returned (.bool (twr S k 0))∧Below w.heap.size w w':=by
 have H:=hid h;clear h;have hmm:∀W,(Instr.makeMap 155 (some (.int .i64 (k:Int)))).run Tryz.prog W=.ok (.map (some W.heap.size)) (W.alloc (.map #[] 0)):=fun W=>by simp [Instr.makeMap,run_underlying Tryz.underlying155,asInt,asIntOf,Result.andThen]
 go_enter Tryz.func61,Tryz.ntmps61;go_wp2_with fail
 go_loopw [11] (fun t wr=>∃(i:Nat),i≤k∧t=.int .i64 i∧Hid (Below w.heap.size w wr)∧Hid (Ms wr w.heap.size (sawQ S i))∧Hid (twr S k 0=twr S (k-i) i)) (fun t _=>k-(intOf t).toNat)
 case atStart=>exact ⟨0,by omega,rfl,below_alloc (Below.refl _ _) _,(ms_made w).congr (fun k v=>by simp [sawQ]),rfl⟩
 case round =>
  obtain ⟨i,hi,rfl,HB,HM,HI⟩:=hrel;by_cases hlt:i<k
  ·obtain ⟨b,o,rfl,hc,hz⟩:=(H.out.below HB.out) i hlt;obtain ⟨r,hr⟩:∃r,k-i=r+1:=⟨k-i-1,by omega⟩;have hT:twr S k 0=(sawB S i || twr S r (i+1)):=by rw [HI.out,hr];rfl
   have hr2:k-(i+1)=r:=by omega
   have hS:=sawB_iff S i;obtain ⟨z,hzz⟩:∃z,S i=z:=⟨_,rfl⟩;rw [hzz] at hc;have HT:=hid hT;have HR:=hid hr2;have HZZ:=hid hzz
   have i1:((i:Nat):Int)<((k:Nat):Int):=by omega
   cases hl:sawB S i
   ·rw [hl] at hS;have hno:∀v,¬sawQ S i z v:=fun v hv=>by
     obtain ⟨_,j,hj,e⟩:=hv;exact absurd (hS.2 ⟨j,hj,e.trans hzz.symm⟩) (by simp)
    have e1:=HM.out.miss (P:=Tryz.prog) (t:=155) Tryz.underlying155 Tryz.underlying9 (zeroS wr) (k:=z) hno false;obtain ⟨w2,e2,M2,O2⟩:=HM.out.update (P:=Tryz.prog) (t:=155) Tryz.underlying155 Tryz.underlying9 z 1;have e3:=M2.look (P:=Tryz.prog) (t:=155) Tryz.underlying155 Tryz.underlying9 (k:=z) (v:=1) (Or.inl ⟨rfl,rfl⟩) false;have HB2:Hid (Below w.heap.size w w2):=⟨O2.os.trans HB.out.os,O2.tape.trans HB.out.tape,O2.output.trans HB.out.output,by have:=HB.out.size;have:=O2.size;omega,fun j hj=>(O2.block j (by omega)).trans (HB.out.block j hj)⟩;have HM2:Hid (Ms w2 w.heap.size (sawQ S (i+1))):=M2.congr fun k' v'=>by
     constructor
     ·rintro ⟨rfl,j,hj,rfl⟩;by_cases e:S j=z
      ·exact .inl ⟨e,rfl⟩
      ·refine .inr ⟨e,rfl,j,?_,rfl⟩;rcases Nat.lt_or_ge j i with h | h
       ·exact h
       ·exact absurd (by rw [show j=i by omega];exact hzz) e
     ·rintro (⟨rfl,rfl⟩ | ⟨_,rfl,j,hj,rfl⟩)
      ·exact ⟨rfl,i,by omega,hzz⟩
      ·exact ⟨rfl,j,by omega,rfl⟩
    have HL:=hid hl;clear hT hr2 hr hz hno hS hl M2 O2 hzz;go_wp2;go_roundw
    case rel =>
     refine ⟨i+1,by omega,by go_num,HB2.out,HM2.out,?_⟩;show _=_;rw [HT.out,HL.out,HR.out];rfl
    case measure=>simp [intOf];omega
   ·rw [hl] at hS;have hyes:sawQ S i z 1:=by
     obtain ⟨j,hj,e⟩:=hS.1 rfl;exact ⟨rfl,j,hj,e.trans hzz⟩
    have e1:=HM.out.look (P:=Tryz.prog) (t:=155) Tryz.underlying155 Tryz.underlying9 (k:=z) hyes false;obtain ⟨w2,e2,M2,O2⟩:=HM.out.update (P:=Tryz.prog) (t:=155) Tryz.underlying155 Tryz.underlying9 z 2;have e3:=M2.look (P:=Tryz.prog) (t:=155) Tryz.underlying155 Tryz.underlying9 (k:=z) (v:=2) (Or.inl ⟨rfl,rfl⟩) false;have HB2:Hid (Below w.heap.size w w2):=⟨O2.os.trans HB.out.os,O2.tape.trans HB.out.tape,O2.output.trans HB.out.output,by have:=HB.out.size;have:=O2.size;omega,fun j hj=>(O2.block j (by omega)).trans (HB.out.block j hj)⟩;have HL:=hid hl;clear hT hr2 hr hz hyes hS hl M2 O2 hzz;go_wp2;go_ret;refine ⟨?_,HB2.out⟩;rw [HT.out,HL.out];rfl
  ·have e1:i=k:=by omega
   have HE:Hid (twr S k 0=false):=by show _=_;rw [HI.out,e1,Nat.sub_self];rfl
   have i2:¬(((i:Nat):Int)<((k:Nat):Int)):=by omega
   clear e1 HI;go_wp2;go_ret;refine ⟨?_,HB.out⟩;rw [HE.out];rfl
end Go.Proofs.YtdbbncamlaiajaaGreat
namespace Go.Proofs.YtdbbncamlaiajaaGreat
open Go.RowKit
structure Ex where
 i:Int
 v:Nm
def NmS (w:World) (t:Nm):Prop:=Rw w t.x t.n t.c t.f t.y t.m t.d t.g∧t.n≤65536∧t.m≤65536
theorem NmS.below {w w' t} (h:NmS w t) (hb:Below w.heap.size w w'):NmS w' t:=⟨h.1.below hb,h.2⟩
theorem NmS.alloc {w t} (h:NmS w t) (o:Obj):NmS (w.alloc o) t:=h.below (below_alloc (Below.refl _ _) o)
def exF (e:Ex):Bool:=efB e.i e.v.s e.v.f e.v.n e.v.g e.v.m
def abB (a b:Ex):Bool:=exF a && (exF b && (decide (a.i≠1) && decide (b.i ≠ -1)))
def Nm.val (t:Nm):Value:=.agg #[.bool t.s,.slice t.x t.n t.c,.slice t.y t.m t.d]
def Ex.val (e:Ex):Value:=.agg #[.int .i64 e.i,.bool e.v.s,.slice e.v.x e.v.n e.v.c,.slice e.v.y e.v.m e.v.d]
theorem eForm_x {w:World} {e:Ex} (h:NmS w e.v):Calls Tryz.prog 133 #[e.val] w fun r w'=>r=.returned (.bool (exF e))∧Below w.heap.size w w' :=
 eForm_b (i:=e.i) (s:=e.v.s) h.1 h.2.1 h.2.2
set_option maxRecDepth 100000 in
set_option maxHeartbeats 2000000 in
theorem areBounds_c {w:World} {a b:Ex} (ha:NmS w a.v) (hb:NmS w b.v):Calls Tryz.prog 98 #[a.val,b.val] w fun r w'=>r=.returned (.bool (abB a b))∧Below w.heap.size w w':=by
 have CA:=hid (fun w' (hw:Below w.heap.size w w')=>eForm_x (w:=w') (ha.below hw));have CB:=hid (fun w' (hw:Below w.heap.size w w')=>eForm_x (w:=w') (hb.below hw));obtain ⟨fa,hfa⟩:∃x,exF a=x:=⟨_,rfl⟩;obtain ⟨fb,hfb⟩:∃x,exF b=x:=⟨_,rfl⟩;have hR:abB a b=(fa && (fb && (decide (a.i≠1) && decide (b.i ≠ -1)))):=by simp only [abB,hfa,hfb]
 rw [hfa] at CA;rw [hfb] at CB;have HR:=hid hR;clear hR hfa hfb ha hb;obtain ⟨i,⟨s,x,n,c,f,y,m,d,g⟩⟩:=a;obtain ⟨j,⟨s2,x2,n2,c2,f2,y2,m2,d2,g2⟩⟩:=b;replace CA:Hid (∀w' (hw:Below w.heap.size w w'),Calls Tryz.prog 133 #[.agg #[.int .i64 i,.bool s,.slice x n c,.slice y m d]] w' fun r w2=>r=.returned (.bool fa)∧Below w'.heap.size w' w2):=CA;replace CB:Hid (∀w' (hw:Below w.heap.size w w'),Calls Tryz.prog 133 #[.agg #[.int .i64 j,.bool s2,.slice x2 n2 c2,.slice y2 m2 d2]] w' fun r w2=>r=.returned (.bool fb)∧Below w'.heap.size w' w2):=CB;replace HR:Hid (abB ⟨i,⟨s,x,n,c,f,y,m,d,g⟩⟩ ⟨j,⟨s2,x2,n2,c2,f2,y2,m2,d2,g2⟩⟩=(fa && (fb && (decide (i≠1) && decide (j ≠ -1))))):=HR;show Calls Tryz.prog 98 #[.agg #[.int .i64 i,.bool s,.slice x n c,.slice y m d],.agg #[.int .i64 j,.bool s2,.slice x2 n2 c2,.slice y2 m2 d2]] w _;go_enter Tryz.func98,Tryz.ntmps98;go_wp2_with fail
 have HB0:=hid (below_alloc (below_alloc (Below.refl w.heap.size w) (.cells #[.int .i64 i,.bool s,.slice x n c,.slice y m d] 42)) (.cells #[.int .i64 j,.bool s2,.slice x2 n2 c2,.slice y2 m2 d2] 42));refine (CA.out _ HB0.out).mono ?_;rintro r w1 ⟨rfl,hb1⟩;have x0:=kCb hb1 (a:=⟨w.heap.size,0,none⟩) (v:=.int .i64 i) (by simp [go_sem]);have b1:=bx4_new hb1;obtain ⟨_,y0,y1,y2',y3⟩:=b1;replace y0:w1.cell? ⟨w.heap.size+1,0,none⟩=some (.int .i64 j):=by simpa using y0
 replace y1:w1.cell? ⟨w.heap.size+1,1,none⟩=some (.bool s2):=by simpa using y1
 replace y2':w1.cell? ⟨w.heap.size+1,2,none⟩=some (.slice x2 n2 c2):=by simpa using y2'
 replace y3:w1.cell? ⟨w.heap.size+1,3,none⟩=some (.slice y2 m2 d2):=by simpa using y3
 have HB1:=hid (HB0.out.trans (hb1.mono HB0.out.size));clear hb1 HB0;cases fa
 ·go_wp2;go_ret;refine ⟨?_,HB1.out⟩;rw [HR.out];rfl
 ·go_wp2_with fail
  refine (CB.out _ HB1.out).mono ?_;rintro r w2 ⟨rfl,hb2⟩;have z0:=kCb hb2 x0;have u0:=kCb hb2 y0;have HB2:=hid (HB1.out.trans (hb2.mono HB1.out.size));clear hb2 HB1 x0 y0 y1 y2' y3;cases fb
  ·go_wp2;go_ret;refine ⟨?_,HB2.out⟩;rw [HR.out];rfl
  ·by_cases h1:i=1
   ·subst h1;go_wp2;go_ret;refine ⟨?_,HB2.out⟩;rw [HR.out];rfl
   ·have HI:=hid (show decide (i≠1)=true from by simp [h1]);by_cases h2:j=-1
    ·subst h2;go_wp2;go_ret;refine ⟨?_,HB2.out⟩;rw [HR.out,HI.out];rfl
    ·have HJ:=hid (show decide (j ≠ -1)=true from by simp [h2]);go_wp2;go_ret;refine ⟨?_,HB2.out⟩;rw [HR.out,HI.out,HJ.out];simp [h1,h2]
def Cs (w:World) (b o:Nat) (vs:List Value):Prop:=∀j v,vs[j]?=some v→w.cell? ⟨b,o+j,none⟩=some v
theorem Cs.below {w w' b o vs} (h:Cs w b o vs) (hb:Below w.heap.size w w'):Cs w' b o vs:=fun j v e=>kCb hb (h j v e)
structure Lc where
 nm:ByteArray
 cost:Nm
 lo:Ex
 hi:Ex
structure Lr where
 nm:ByteArray
 lo:Ex
 hi:Ex
 ta:Option Addr
 tk:Nat
 tc:Nat
 col:Nat→Int
 T:Nat→Nm
def Lc.vs (c:Lc):List Value:=[.string c.nm,.bool c.cost.s,.slice c.cost.x c.cost.n c.cost.c,.slice c.cost.y c.cost.m c.cost.d,.int .i64 c.lo.i,.bool c.lo.v.s,.slice c.lo.v.x c.lo.v.n c.lo.v.c,.slice c.lo.v.y c.lo.v.m c.lo.v.d,.int .i64 c.hi.i,.bool c.hi.v.s,.slice c.hi.v.x c.hi.v.n c.hi.v.c,.slice c.hi.v.y c.hi.v.m c.hi.v.d]
def Lr.vs (r:Lr):List Value:=[.string r.nm,.int .i64 r.lo.i,.bool r.lo.v.s,.slice r.lo.v.x r.lo.v.n r.lo.v.c,.slice r.lo.v.y r.lo.v.m r.lo.v.d,.int .i64 r.hi.i,.bool r.hi.v.s,.slice r.hi.v.x r.hi.v.n r.hi.v.c,.slice r.hi.v.y r.hi.v.m r.hi.v.d,.slice r.ta r.tk r.tc]
structure LcR (w:World) (c:Lc):Prop where
 cost:NmS w c.cost
 lo:NmS w c.lo.v
 hi:NmS w c.hi.v
 nm:c.nm.size≤9223372036854775807
structure LrR (w:World) (r:Lr):Prop where
 lo:NmS w r.lo.v
 hi:NmS w r.hi.v
 tl:Tl w r.ta r.tk r.col r.T
 tk:r.tk≤1048576
 nm:r.nm.size≤9223372036854775807
theorem LcR.below {w w' c} (h:LcR w c) (hb:Below w.heap.size w w'):LcR w' c:=⟨h.cost.below hb,h.lo.below hb,h.hi.below hb,h.nm⟩
theorem LrR.below {w w' c} (h:LrR w c) (hb:Below w.heap.size w w'):LrR w' c:=⟨h.lo.below hb,h.hi.below hb,h.tl.below hb,h.tk,h.nm⟩
def Cls (w:World) (ao:Option Addr) (k:Nat) (C:Nat→Lc):Prop:=∀j,j<k→∃b o,ao=some ⟨b,o,none⟩∧Cs w b (o+j*12) (C j).vs∧LcR w (C j)
def Rls (w:World) (ao:Option Addr) (k:Nat) (R:Nat→Lr):Prop:=∀j,j<k→∃b o,ao=some ⟨b,o,none⟩∧Cs w b (o+j*10) (R j).vs∧LrR w (R j)
theorem Cls.below {w w' ao k C} (h:Cls w ao k C) (hb:Below w.heap.size w w'):Cls w' ao k C:=fun j hj=>by
 obtain ⟨b,o,e,h1,h2⟩:=h j hj;exact ⟨b,o,e,h1.below hb,h2.below hb⟩
theorem Rls.below {w w' ao k R} (h:Rls w ao k R) (hb:Below w.heap.size w w'):Rls w' ao k R:=fun j hj=>by
 obtain ⟨b,o,e,h1,h2⟩:=h j hj;exact ⟨b,o,e,h1.below hb,h2.below hb⟩
structure Mo where
 off:Nm
 ca:Option Addr
 ck:Nat
 cc:Nat
 C:Nat→Lc
 ra:Option Addr
 rk:Nat
 rc:Nat
 R:Nat→Lr
def Mo.val (M:Mo):Value:=.agg #[.bool M.off.s,.slice M.off.x M.off.n M.off.c,.slice M.off.y M.off.m M.off.d,.slice M.ca M.ck M.cc,.slice M.ra M.rk M.rc]
structure MoR (w:World) (M:Mo):Prop where
 off:NmS w M.off
 cls:Cls w M.ca M.ck M.C
 rls:Rls w M.ra M.rk M.R
 ck:M.ck≤1048576
 rk:M.rk≤1048576
theorem MoR.below {w w' M} (h:MoR w M) (hb:Below w.heap.size w w'):MoR w' M:=⟨h.off.below hb,h.cls.below hb,h.rls.below hb,h.ck,h.rk⟩
def clsB (C:Nat→Lc):Nat→Nat→Bool
 | 0,_=>true
 | r+1,i=>nfB (C i).cost && (abB (C i).lo (C i).hi && clsB C r (i+1))
def rlsB (R:Nat→Lr):Nat→Nat→Bool
 | 0,_=>true
 | r+1,i=>abB (R i).lo (R i).hi && (tfB (R i).tk (R i).col (R i).T && rlsB R r (i+1))
def moF (M:Mo):Bool:=nfB M.off && (clsB M.C M.ck 0 && rlsB M.R M.rk 0)
theorem rForm_x {w:World} {t:Nm} (h:NmS w t):Calls Tryz.prog 63 #[t.val] w fun r w'=>r=.returned (.bool (nfB t))∧Below w.heap.size w w' :=
 rForm_c (s:=t.s) h.1 (by have:=h.2.1;omega) (by have:=h.2.2;omega)
set_option maxRecDepth 100000 in
set_option maxHeartbeats 4000000 in
theorem inForm_c {w:World} {M:Mo} (h:MoR w M):Calls Tryz.prog 59 #[M.val] w fun r w'=>r=.returned (.bool (moF M))∧Below w.heap.size w w':=by
 obtain ⟨⟨s,x,n,c,f,y,m,d,g⟩,ca,ck,cc,C,ra,rk,rc,R⟩:=M;obtain ⟨ho,hC,hR,hck,hrk⟩:=h;replace hck:ck≤1048576:=hck;replace hrk:rk≤1048576:=hrk;have HC:Hid (Cls w ca ck C):=hC;have HRL:Hid (Rls w ra rk R):=hR;have CF:=hid (fun w' (hw:Below w.heap.size w w')=>rForm_x (w:=w') (ho.below hw));obtain ⟨fo,hfo⟩:∃z,nfB ⟨s,x,n,c,f,y,m,d,g⟩=z:=⟨_,rfl⟩;rw [hfo] at CF;replace CF:Hid (∀w' (hw:Below w.heap.size w w'),Calls Tryz.prog 63 #[.agg #[.bool s,.slice x n c,.slice y m d]] w' fun r w2=>r=.returned (.bool fo)∧Below w'.heap.size w' w2):=CF;obtain ⟨ans,hans⟩:∃z,moF ⟨⟨s,x,n,c,f,y,m,d,g⟩,ca,ck,cc,C,ra,rk,rc,R⟩=z:=⟨_,rfl⟩;rw [hans];have hF:ans=(fo && (clsB C ck 0 && rlsB R rk 0)):=by rw [←hans,←hfo];rfl
 have HF:=hid hF;clear hF hans hfo ho hC hR;show Calls Tryz.prog 59 #[.agg #[.bool s,.slice x n c,.slice y m d,.slice ca ck cc,.slice ra rk rc]] w _;go_enter Tryz.func59,Tryz.ntmps59;go_wp2_with fail
 have HB0:=hid (below_alloc (Below.refl w.heap.size w) (.cells #[.bool s,.slice x n c,.slice y m d,.slice ca ck cc,.slice ra rk rc] 28));refine (CF.out _ HB0.out).mono ?_;rintro r w1 ⟨rfl,hb1⟩;have k3:=kCb hb1 (a:=⟨w.heap.size,3,none⟩) (v:=.slice ca ck cc) (by simp [go_sem]);have k4:=kCb hb1 (a:=⟨w.heap.size,4,none⟩) (v:=.slice ra rk rc) (by simp [go_sem]);have HB1:=hid (HB0.out.trans (hb1.mono HB0.out.size));clear hb1 HB0 CF;cases fo
 ·go_wp2;go_ret;refine ⟨?_,HB1.out⟩;rw [HF.out];rfl
 have HK4:=hid k4;clear k4;go_wp2_with fail
 go_loopw [14] (fun t wr=>∃(i:Nat),i≤ck∧t=.int .i64 i∧Hid (Below w1.heap.size w1 wr)∧Hid (ans=(clsB C (ck-i) i && rlsB R rk 0))) (fun t _=>ck-(intOf t).toNat)
 case atStart=>exact ⟨0,by omega,rfl,Below.refl _ _,by show _=_;rw [HF.out];rfl⟩
 case round =>
  obtain ⟨i,hi,rfl,HB,HI⟩:=hrel;by_cases hlt:i<ck
  ·obtain ⟨b,o,rfl,hc,hn⟩:=(HC.out.below (HB1.out.trans (HB.out.mono HB1.out.size))) i hlt;obtain ⟨r,hr⟩:∃r,ck-i=r+1:=⟨ck-i-1,by omega⟩;obtain ⟨⟨z,⟨s0,x0,n0,c0,f0,y0,m0,d0,g0⟩,⟨i1,⟨s1,x1,n1,c1,f1,y1,m1,d1,g1⟩⟩,⟨i2,⟨s2,x2,n2,c2,f2,y2,m2,d2,g2⟩⟩⟩,hCi⟩:∃t,C i=t:=⟨_,rfl⟩;obtain ⟨t1,ht1⟩:∃t,nfB (C i).cost=t:=⟨_,rfl⟩;obtain ⟨t2,ht2⟩:∃t,abB (C i).lo (C i).hi=t:=⟨_,rfl⟩;have hT:ans=((t1 && (t2 && clsB C r (i+1))) && rlsB R rk 0):=by rw [HI.out,hr,←ht1,←ht2];rfl
   have hr2:ck-(i+1)=r:=by omega
   have C1:=hid (fun w' (hw:Below wr.heap.size wr w')=>rForm_x (w:=w') (hn.cost.below hw));have C2:=hid (fun w' (hw:Below wr.heap.size wr w')=>areBounds_c (w:=w') (hn.lo.below hw) (hn.hi.below hw));rw [ht1] at C1;rw [ht2] at C2;rw [hCi] at hc C1 C2;replace C1:Hid (∀w' (hw:Below wr.heap.size wr w'),Calls Tryz.prog 63 #[.agg #[.bool s0,.slice x0 n0 c0,.slice y0 m0 d0]] w' fun r w2=>r=.returned (.bool t1)∧Below w'.heap.size w' w2):=C1;replace C2:Hid (∀w' (hw:Below wr.heap.size wr w'),Calls Tryz.prog 98 #[.agg #[.int .i64 i1,.bool s1,.slice x1 n1 c1,.slice y1 m1 d1],.agg #[.int .i64 i2,.bool s2,.slice x2 n2 c2,.slice y2 m2 d2]] w' fun r w2=>r=.returned (.bool t2)∧Below w'.heap.size w' w2):=C2;have q0:wr.cell? ⟨b,o+i*12,none⟩=some (.string z):=hc 0 _ rfl;have q1:wr.cell? ⟨b,o+i*12+1,none⟩=some (.bool s0):=hc 1 _ rfl;have q2:wr.cell? ⟨b,o+i*12+2,none⟩=some (.slice x0 n0 c0):=hc 2 _ rfl;have q3:wr.cell? ⟨b,o+i*12+3,none⟩=some (.slice y0 m0 d0):=hc 3 _ rfl;have q4:wr.cell? ⟨b,o+i*12+4,none⟩=some (.int .i64 i1):=hc 4 _ rfl;have q5:wr.cell? ⟨b,o+i*12+5,none⟩=some (.bool s1):=hc 5 _ rfl;have q6:wr.cell? ⟨b,o+i*12+6,none⟩=some (.slice x1 n1 c1):=hc 6 _ rfl;have q7:wr.cell? ⟨b,o+i*12+7,none⟩=some (.slice y1 m1 d1):=hc 7 _ rfl;have q8:wr.cell? ⟨b,o+i*12+8,none⟩=some (.int .i64 i2):=hc 8 _ rfl;have q9:wr.cell? ⟨b,o+i*12+9,none⟩=some (.bool s2):=hc 9 _ rfl;have q10:wr.cell? ⟨b,o+i*12+10,none⟩=some (.slice x2 n2 c2):=hc 10 _ rfl;have q11:wr.cell? ⟨b,o+i*12+11,none⟩=some (.slice y2 m2 d2):=hc 11 _ rfl;have HT:=hid hT;have HR:=hid hr2
   have i1':((i:Nat):Int)<((ck:Nat):Int):=by omega
   clear hT hr2 hr hCi ht1 ht2 hc hn;go_wp2_with fail
   have HB2:=hid (below_alloc (Below.refl wr.heap.size wr) (.cells #[.string z,.bool s0,.slice x0 n0 c0,.slice y0 m0 d0,.int .i64 i1,.bool s1,.slice x1 n1 c1,.slice y1 m1 d1,.int .i64 i2,.bool s2,.slice x2 n2 c2,.slice y2 m2 d2] 65));refine (C1.out _ HB2.out).mono ?_;rintro r w2 ⟨rfl,hb2⟩;have u4:=kCb hb2 (a:=⟨wr.heap.size,4,none⟩) (v:=.int .i64 i1) (by simp [go_sem]);have u5:=kCb hb2 (a:=⟨wr.heap.size,5,none⟩) (v:=.bool s1) (by simp [go_sem]);have u6:=kCb hb2 (a:=⟨wr.heap.size,6,none⟩) (v:=.slice x1 n1 c1) (by simp [go_sem]);have u7:=kCb hb2 (a:=⟨wr.heap.size,7,none⟩) (v:=.slice y1 m1 d1) (by simp [go_sem]);have u8:=kCb hb2 (a:=⟨wr.heap.size,8,none⟩) (v:=.int .i64 i2) (by simp [go_sem]);have u9:=kCb hb2 (a:=⟨wr.heap.size,9,none⟩) (v:=.bool s2) (by simp [go_sem]);have u10:=kCb hb2 (a:=⟨wr.heap.size,10,none⟩) (v:=.slice x2 n2 c2) (by simp [go_sem]);have u11:=kCb hb2 (a:=⟨wr.heap.size,11,none⟩) (v:=.slice y2 m2 d2) (by simp [go_sem]);have HB3:=hid (HB2.out.trans (hb2.mono HB2.out.size));clear hb2 HB2 C1;cases t1
   ·go_wp2;go_ret;refine ⟨?_,HB1.out.trans ((HB.out.trans (HB3.out.mono HB.out.size)).mono HB1.out.size)⟩;rw [HT.out];rfl
   ·go_wp2_with fail
    refine (C2.out _ HB3.out).mono ?_;rintro r w3 ⟨rfl,hb3⟩;have HB4:=hid (HB.out.trans ((HB3.out.trans (hb3.mono HB3.out.size)).mono HB.out.size));clear hb3 HB3 C2;cases t2
    ·go_wp2;go_ret;refine ⟨?_,HB1.out.trans (HB4.out.mono HB1.out.size)⟩;rw [HT.out];rfl
    ·go_wp2;go_roundw
     case rel =>
      refine ⟨i+1,by omega,by go_num,HB4.out,?_⟩;show _=_;rw [HT.out,HR.out];rfl
     case measure=>simp [intOf];omega
  ·have e1:i=ck:=by omega
   have HE:Hid (ans=rlsB R rk 0):=by show _=_;rw [HI.out,e1,Nat.sub_self];rfl
   have i2:¬(((i:Nat):Int)<((ck:Nat):Int)):=by omega
   have k4:=kCb HB.out HK4.out;have HB5:=hid (HB1.out.trans (HB.out.mono HB1.out.size));clear e1 HI HB HC HK4 HB1 k3;generalize wr=wa at *;go_wp2_with fail
   go_loopw [34] (fun t wr'=>∃(i:Nat),i≤rk∧t=.int .i64 i∧Hid (Below wa.heap.size wa wr')∧Hid (ans=rlsB R (rk-i) i)) (fun t _=>rk-(intOf t).toNat)
   case atStart=>exact ⟨0,by omega,rfl,Below.refl _ _,by show _=_;rw [HE.out];rfl⟩
   case round =>
    obtain ⟨i,hi,rfl,HB,HI⟩:=hrel;by_cases hlt:i<rk
    ·obtain ⟨b,o,rfl,hc,hn⟩:=(HRL.out.below (HB5.out.trans (HB.out.mono HB5.out.size))) i hlt;obtain ⟨r,hr⟩:∃r,rk-i=r+1:=⟨rk-i-1,by omega⟩;obtain ⟨⟨z,⟨i1,⟨s1,x1,n1,c1,f1,y1,m1,d1,g1⟩⟩,⟨i2,⟨s2,x2,n2,c2,f2,y2,m2,d2,g2⟩⟩,ta,tk,tc,tcol,tt⟩,hCi⟩:∃t,R i=t:=⟨_,rfl⟩;obtain ⟨t1,ht1⟩:∃t,abB (R i).lo (R i).hi=t:=⟨_,rfl⟩;obtain ⟨t2,ht2⟩:∃t,tfB (R i).tk (R i).col (R i).T=t:=⟨_,rfl⟩;have hT:ans=(t1 && (t2 && rlsB R r (i+1))):=by rw [HI.out,hr,←ht1,←ht2];rfl
     have hr2:rk-(i+1)=r:=by omega
     have C1:=hid (fun w' (hw:Below wr.heap.size wr w')=>areBounds_c (w:=w') (hn.lo.below hw) (hn.hi.below hw));have C2:=hid (fun w' (hw:Below wr.heap.size wr w')=>vForm_c (w:=w') (cap:=(R i).tc) (hn.tl.below hw) hn.tk);rw [ht1] at C1;rw [ht2] at C2;rw [hCi] at hc C1 C2;replace C1:Hid (∀w' (hw:Below wr.heap.size wr w'),Calls Tryz.prog 98 #[.agg #[.int .i64 i1,.bool s1,.slice x1 n1 c1,.slice y1 m1 d1],.agg #[.int .i64 i2,.bool s2,.slice x2 n2 c2,.slice y2 m2 d2]] w' fun r w2=>r=.returned (.bool t1)∧Below w'.heap.size w' w2):=C1;replace C2:Hid (∀w' (hw:Below wr.heap.size wr w'),Calls Tryz.prog 99 #[.slice ta tk tc] w' fun r w2=>r=.returned (.bool t2)∧Below w'.heap.size w' w2):=C2;have q0:wr.cell? ⟨b,o+i*10,none⟩=some (.string z):=hc 0 _ rfl;have q1:wr.cell? ⟨b,o+i*10+1,none⟩=some (.int .i64 i1):=hc 1 _ rfl;have q2:wr.cell? ⟨b,o+i*10+2,none⟩=some (.bool s1):=hc 2 _ rfl;have q3:wr.cell? ⟨b,o+i*10+3,none⟩=some (.slice x1 n1 c1):=hc 3 _ rfl;have q4:wr.cell? ⟨b,o+i*10+4,none⟩=some (.slice y1 m1 d1):=hc 4 _ rfl;have q5:wr.cell? ⟨b,o+i*10+5,none⟩=some (.int .i64 i2):=hc 5 _ rfl;have q6:wr.cell? ⟨b,o+i*10+6,none⟩=some (.bool s2):=hc 6 _ rfl;have q7:wr.cell? ⟨b,o+i*10+7,none⟩=some (.slice x2 n2 c2):=hc 7 _ rfl;have q8:wr.cell? ⟨b,o+i*10+8,none⟩=some (.slice y2 m2 d2):=hc 8 _ rfl;have q9:wr.cell? ⟨b,o+i*10+9,none⟩=some (.slice ta tk tc):=hc 9 _ rfl;have HT:=hid hT;have HR:=hid hr2
     have i1':((i:Nat):Int)<((rk:Nat):Int):=by omega
     clear hT hr2 hr hCi ht1 ht2 hc hn;go_wp2_with fail
     have HB2:=hid (below_alloc (Below.refl wr.heap.size wr) (.cells #[.string z,.int .i64 i1,.bool s1,.slice x1 n1 c1,.slice y1 m1 d1,.int .i64 i2,.bool s2,.slice x2 n2 c2,.slice y2 m2 d2,.slice ta tk tc] 68));refine (C1.out _ HB2.out).mono ?_;rintro r w2 ⟨rfl,hb2⟩;have u9:=kCb hb2 (a:=⟨wr.heap.size,9,none⟩) (v:=.slice ta tk tc) (by simp [go_sem]);have HB3:=hid (HB2.out.trans (hb2.mono HB2.out.size));clear hb2 HB2 C1;cases t1
     ·go_wp2;go_ret;refine ⟨?_,HB5.out.trans ((HB.out.trans (HB3.out.mono HB.out.size)).mono HB5.out.size)⟩;rw [HT.out];rfl
     ·go_wp2_with fail
      refine (C2.out _ HB3.out).mono ?_;rintro r w3 ⟨rfl,hb3⟩;have HB4:=hid (HB.out.trans ((HB3.out.trans (hb3.mono HB3.out.size)).mono HB.out.size));clear hb3 HB3 C2;cases t2
      ·go_wp2;go_ret;refine ⟨?_,HB5.out.trans (HB4.out.mono HB5.out.size)⟩;rw [HT.out];rfl
      ·go_wp2;go_roundw
       case rel =>
        refine ⟨i+1,by omega,by go_num,HB4.out,?_⟩;show _=_;rw [HT.out,HR.out];rfl
       case measure=>simp [intOf];omega
    ·have e1:i=rk:=by omega
     have HE2:Hid (ans=true):=by show _=_;rw [HI.out,e1,Nat.sub_self];rfl
     have i2:¬(((i:Nat):Int)<((rk:Nat):Int)):=by omega
     have HB6:=hid (HB5.out.trans (HB.out.mono HB5.out.size));clear e1 HI HB;go_wp2;go_ret;refine ⟨?_,HB6.out⟩;rw [HE2.out];rfl
structure C3 (w:World) (b o:Nat) (a0 a1 a2:Value):Prop where
 x0:w.cell? ⟨b,o,none⟩=some a0
 x1:w.cell? ⟨b,o+1,none⟩=some a1
 x2:w.cell? ⟨b,o+2,none⟩=some a2
theorem C3.below {w w' b o a0 a1 a2} (h:C3 w b o a0 a1 a2) (hb:Below w.heap.size w w'):C3 w' b o a0 a1 a2:=⟨kCb hb h.x0,kCb hb h.x1,kCb hb h.x2⟩
def Rl (w:World) (ao:Option Addr) (k:Nat) (X:Nat→Nm):Prop :=
 ∀j,j<k→∃b o,ao=some ⟨b,o,none⟩∧C3 w b (o+j*3) (.bool (X j).s) (.slice (X j).x (X j).n (X j).c) (.slice (X j).y (X j).m (X j).d)∧NmR w (X j)
theorem Rl.below {w w' ao k X} (h:Rl w ao k X) (hb:Below w.heap.size w w'):Rl w' ao k X:=fun j hj=>by
 obtain ⟨b,o,e,h1,h2⟩:=h j hj;exact ⟨b,o,e,h1.below hb,h2.below hb⟩
def afr (X:Nat→Nm):Nat→Nat→Bool
 | 0,_=>true
 | r+1,i=>nfB (X i) && afr X r (i+1)
def afB (k:Nat) (X:Nat→Nm):Bool:=afr X k 0
theorem box3 {w w1:World} {a0 a1 a2:Value} {t:TypeId} (hb:Below (w.alloc (.cells #[a0,a1,a2] t)).heap.size (w.alloc (.cells #[a0,a1,a2] t)) w1):w.heap.size<w1.heap.size∧w1.cell? ⟨w.heap.size,0,none⟩=some a0∧w1.cell? ⟨w.heap.size,1,none⟩=some a1∧w1.cell? ⟨w.heap.size,2,none⟩=some a2∧Below w.heap.size w w1:=by
 have hz:=hb.size;simp at hz;exact ⟨by omega,kCb hb (by simp [go_sem]),kCb hb (by simp [go_sem]),kCb hb (by simp [go_sem]),(below_alloc (Below.refl _ w) _).trans (hb.mono (by simp))⟩
def NoU (cur:Array Value):Prop:=∀(i:Nat) (z:Int),cur[i]?≠some (Value.int .u64 z)
structure Kp (w w':World):Prop where
 os:w'.os=w.os
 tape:w'.tape=w.tape
 output:w'.output=w.output
 size:w.heap.size≤w'.heap.size
 block:∀k,k<w.heap.size→w'.heap[k]?=w.heap[k]?∨∃cur t fr,w.heap[k]?=some (.cells cur t fr)∧NoU cur
theorem Kp.refl (w:World):Kp w w:=⟨rfl,rfl,rfl,Nat.le_refl _,fun _ _=>.inl rfl⟩
theorem Kp.trans {a b c:World} (h:Kp a b) (k:Kp b c):Kp a c :=
 ⟨k.os.trans h.os,k.tape.trans h.tape,k.output.trans h.output,Nat.le_trans h.size k.size,fun i hi=>by
  rcases h.block i hi with e | e
  ·rcases k.block i (Nat.lt_of_lt_of_le hi h.size) with e2 | ⟨cur,t,fr,e2,e3⟩
   ·exact .inl (e2.trans e)
   ·exact .inr ⟨cur,t,fr,e.symm.trans e2,e3⟩
  ·exact .inr e⟩
theorem Kp.of_below {w w':World} (h:Below w.heap.size w w'):Kp w w':=⟨h.os,h.tape,h.output,h.size,fun k hk=>.inl (h.block k hk)⟩
theorem Kp.drew {a w:World} (h:Kp a w):Kp a w.drew:=⟨h.os,h.tape,h.output,h.size,h.block⟩
theorem Kp.drewN {a w:World} (h:Kp a w) (q:Nat):Kp a (w.drewN q):=⟨h.os,h.tape,h.output,h.size,h.block⟩
theorem Kp.alloc {a w:World} (h:Kp a w) (o:Obj):Kp a (w.alloc o):=h.trans (Kp.of_below (below_alloc (Below.refl _ _) o))
theorem Kp.set {a w:World} (h:Kp a w) {x:Addr} {cur:Array Value} {t:TypeId} {fr:Nat × Nat} (hx:w.heap[x.block]?=some (.cells cur t fr)) (hu:NoU cur) (u:Value):Kp a (w.setCell x u) :=
 h.trans ⟨rfl,rfl,rfl,by simp [World.setCell],fun k _=>by
  by_cases e:k=x.block
  ·subst e;exact .inr ⟨cur,t,fr,hx,hu⟩
  ·exact .inl (Below.heap_setCell _ _ _ _ e)⟩
theorem Rd.kp {w w' ao n f} (h:Rd .u64 w ao n f) (hk:Kp w w'):Rd .u64 w' ao n f:=fun j hj=>by
 obtain ⟨b,o,e,hc⟩:=h j hj;refine ⟨b,o,e,?_⟩;have hl:=World.block_lt_of_cell? w _ hc;rcases hk.block b hl with h1 | ⟨cur,t,fr,h1,h2⟩
 ·exact (World.cell?_of_block (a:=⟨b,o+j,none⟩) h1).trans hc
 ·exfalso;simp [World.cell?,h1] at hc;exact h2 _ _ hc
theorem Wn.kp {w w' s x n c f v} (h:Wn w s x n c f v) (hk:Kp w w'):Wn w' s x n c f v:=⟨h.rd.kp hk,h.lm,h.wf,h.cap,h.nil,h.val⟩
theorem Rn.kp {L w w' s x n c f y m d g q} (h:Rn L w s x n c f y m d g q) (hk:Kp w w'):Rn L w' s x n c f y m d g q:=⟨h.num.kp hk,h.den.kp hk,h.ln,h.ld⟩
def RowG (e:TypeId) (sz base:Nat) (w:World) (v:Value) (n:Nat) (xs:List Value):Prop :=
 xs.length=n*sz∧((v=.slice none 0 0∧n=0)∨∃g cap cur,v=.slice (some ⟨g,0,none⟩) n cap∧base≤g∧w.heap[g]?=some (.cells cur e (0,0))∧n≤cap∧cap≤maxLen∧cur.size=cap*sz∧cur.toList.take (n*sz)=xs∧NoU cur)
theorem rowG_nil (e:TypeId) (sz base:Nat) (w:World):RowG e sz base w (.slice none 0 0) 0 []:=⟨by simp,.inl ⟨rfl,rfl⟩⟩
theorem RowG.owns {e sz base w v n xs} (h:RowG e sz base w v n xs):w.ownsRow base e sz v n xs:=by
 obtain ⟨h1,h2⟩:=h;refine ⟨h1,?_⟩;rcases h2 with h2 | ⟨g,cap,cur,a,b,c,d,e1,f,g1,_⟩
 ·exact .inl h2
 ·exact .inr ⟨g,cap,cur,a,b,c,d,e1,f,g1⟩
theorem RowG.of {e sz base w w' v n xs} (h:RowG e sz base w v n xs) (hh:∀g,v.ownBlock=some g→w'.heap[g]?=w.heap[g]?):RowG e sz base w' v n xs:=by
 obtain ⟨h1,h2⟩:=h;refine ⟨h1,?_⟩;rcases h2 with h2 | ⟨g,cap,cur,rfl,b,c,d,e1,f,g1,k⟩
 ·exact .inl h2
 ·exact .inr ⟨g,cap,cur,rfl,b,(hh g rfl).trans c,d,e1,f,g1,k⟩
theorem RowG.lt {e sz base w v n xs} (h:RowG e sz base w v n xs):∀g,v.ownBlock=some g→base≤g∧g<w.heap.size:=by
 intro g0 hg0;rcases h.2 with ⟨rfl,_⟩ | ⟨g,cap,cur,rfl,b,c,_⟩
 ·cases hg0
 ·have:g=g0:=by simpa [Value.ownBlock] using hg0
  subst this;exact ⟨b,(Array.getElem?_eq_some_iff.1 c).1⟩
theorem RowG.below {e sz base w w' v n xs} (h:RowG e sz base w v n xs) (hb:Below w.heap.size w w'):RowG e sz base w' v n xs:=h.of (fun g hg=>hb.block g (h.lt g hg).2)
theorem RowG.cells {e sz base w n xs g cap} (h:RowG e sz base w (.slice (some ⟨g,0,none⟩) n cap) n xs) {j:Nat} {u:Value} (hu:xs[j]?=some u):w.cell? ⟨g,j,none⟩=some u:=by
 obtain ⟨h1,h2⟩:=h;rcases h2 with ⟨h2,_⟩ | ⟨g',cap',cur,hv,b,c,d,e1,f,g1,k⟩
 ·cases h2
 ·cases hv
  have:cur.toList[j]?=some u:=by
   rw [←g1] at hu;rw [List.getElem?_take] at hu
   split at hu
   ·exact hu
   ·cases hu
  simp [World.cell?,c];simpa using this
theorem nou_append {a b:Array Value} (ha:NoU a) (hb:NoU b):NoU (a++b):=fun i z h=>by
 rw [Array.getElem?_append] at h
 split at h
 ·exact ha _ _ h
 ·exact hb _ _ h
theorem nou_list {l:List Value} (h:∀u ∈ l,∀z,u≠.int .u64 z):NoU l.toArray:=fun i z he=>by
 rw [List.getElem?_toArray] at he;exact h _ (List.mem_of_getElem? he) z rfl
theorem nou_mem {a:Array Value} (h:NoU a):∀u ∈ a.toList,∀z,u≠.int .u64 z:=fun u hu z e=>by
 obtain ⟨i,hi⟩:=List.getElem?_of_mem hu;subst e;exact h i z (by simpa using hi)
theorem wpList_append_G {P:Program} (w:World) {ops:Array Oper} {rest:List Oper} {o:Oper} {a:Act} {Q:Exit→Act→World→Prop} (hgd:o.guard=none) (s x:Operand) (t:TypeId)
  (ho:o.op=.call { callee:=.builtin .append,args:=#[s,x],argTypes:=#[t,t] })
  (base:Nat) (e:TypeId) (i:TypeInfo) (z:Value) (size bytes:Nat) (ht:P.underlying t=some (.slice e)) (hi:P.info? e=some i) (hz:i.zero=some z)
  (hsize:i.size=size) (hby:i.bytes=bytes) (hzs:z.cells.size=size) (hsz:0<size) (hzu:NoU z.cells)
  (v:Value) (n:Nat) (xs:List Value) (hs:a.eval s=v) (hown:RowG e size base w v n xs)
  (ad:Addr) (m c:Nat) (news:List Value) (hx:a.eval x=.slice (some ad) m c) (hl:news.length=m*size) (hnews:∀j u,news[j]?=some u→w.cell? (ad.add j)=some u) (h1:∀u ∈ news,u.oneCell'=true) (hnu:∀u ∈ news,∀z,u≠.int .u64 z)
  (hm0:0<m) (h63:n+m≤maxLen) (hbytes:(n+m)*bytes≤140737488355328) (hbase:base≤w.heap.size)
  (hK:∀g cap' w',RowG e size base w' (.slice (some ⟨g,0,none⟩) (n+m) cap') (n+m) (xs++news)→w.grownBy w' v.ownBlock→Kp w w'→wpList P ops Q rest (a.put o.dst (.slice (some ⟨g,0,none⟩) (n+m) cap')) w'):wpList P ops Q (o :: rest) a w:=by
 subst hsize;subst hby
 obtain ⟨v',w',hrun,h1',h2',h3'⟩:=run_append_own (P:=P) w base t o.type e i z i.size i.bytes ht hi hz rfl rfl hzs hsz v n xs hown.owns ad m c news hl hnews h1 h63 hbytes hbase;have hlen:(xs++news).length=(n+m)*i.size:=by rw [List.length_append,hown.1,hl,Nat.add_mul]
 have hzc:∀k,NoU (Builtin.zeroCells z.cells k):=by
  intro k j y hj;simp only [Builtin.zeroCells] at hj;have hm:=Array.mem_of_getElem? hj;obtain ⟨q,_,he⟩:=Array.mem_map.1 hm;have hlt:q%z.cells.size<z.cells.size:=Nat.mod_lt _ (by omega);rw [getElem!_pos z.cells (q%z.cells.size) hlt] at he;exact hzu (q%z.cells.size) y (by rw [Array.getElem?_eq_getElem hlt,he])
 have hnu':NoU news.toArray:=nou_list hnu;have hw:∃g cap' cur',v'=.slice (some ⟨g,0,none⟩) (n+m) cap'∧base≤g∧w'.heap[g]?=some (.cells cur' e (0,0))∧n+m≤cap'∧cap'≤maxLen∧cur'.size=cap'*i.size∧cur'.toList.take ((n+m)*i.size)=xs++news∧NoU cur'∧Kp w w':=by
  have hsm:n+m≤9223372036854775807:=by unfold maxLen at h63;omega
  rcases h1'.2 with ⟨hv0,hn0⟩ | ⟨g',cap',cur',hv',hb',hg',hn',hc',hs',ht'⟩
  ·omega
  ·refine ⟨g',cap',cur',hv',hb',hg',hn',hc',hs',ht',?_⟩;rcases hown.2 with ⟨rfl,rfl⟩ | ⟨g,cap,cur,rfl,hbg,hg,hnc,hcm,hcs,htake,hnuc⟩
   ·have hx0:xs=[]:=List.eq_nil_of_length_eq_zero (by simpa using hown.1);subst hx0;have e1:=run_append_nil (P:=P) w t o.type e i z ht hi hz ad m c news hl hnews hm0 (by omega) (by rw [Nat.zero_add] at hbytes;omega);rw [e1] at hrun;injection hrun with e2 e3;subst e3;rw [hv'] at e2;injection e2 with e4;injection e4 with e5;injection e5 with e6;subst e6;have e7:=heap_alloc_new w.drew (.cells (news.toArray++Builtin.zeroCells z.cells (grownCap w m 0 e-m)) e);rw [show w.heap.size=w.drew.heap.size from rfl,e7] at hg';injection hg' with e8;injection e8 with e9;rw [←e9];exact ⟨nou_append hnu' (hzc _),(Kp.refl w).drew.alloc _⟩
   ·by_cases hroom:n+m≤cap
    ·have e1:=run_append_room (P:=P) w t o.type e i ht hi g n cap cur hg ad m c news hl hnews h1 hroom (by rw [hl,hcs,←Nat.add_mul];exact Nat.mul_le_mul_right _ hroom);rw [e1] at hrun;injection hrun with e2 e3;rw [hv'] at e2;injection e2 with e4;injection e4 with e5;injection e5 with e6;subst e6;have e7:w'.heap[g]?=some (.cells (cur.toList.take (n*i.size)++news++cur.toList.drop (n*i.size+news.length)).toArray e (0,0)):=by rw [←e3];exact setRow_heap w g cur _ e _ hg
     rw [e7] at hg';injection hg' with e8;injection e8 with e9;rw [←e9];refine ⟨nou_list ?_,h2'.os,h2'.tape,h2'.output,h2'.size,fun k hk=>?_⟩
     ·intro u hu;rcases List.mem_append.1 hu with hu | hu
      ·rcases List.mem_append.1 hu with hu | hu
       ·exact nou_mem hnuc u (List.mem_of_mem_take hu)
       ·exact hnu u hu
      ·exact nou_mem hnuc u (List.mem_of_mem_drop hu)
     ·by_cases hkg:k=g
      ·subst hkg;exact .inr ⟨cur,e,(0,0),hg,hnuc⟩
      ·exact .inl (h2'.block k hk (fun e=>hkg (by simpa [Value.ownBlock] using e)))
    ·have holds:∀j u,xs[j]?=some u→w.cell? ((⟨g,0,none⟩:Addr).add j)=some u:=World.ownsRow.cells hown.owns (g:=g) rfl;have e1:=run_append_grow (P:=P) w t o.type e i z ht hi hz ⟨g,0,none⟩ n cap xs hown.1 holds ad m c news hl hnews (by omega) (by omega) (growslice_fits (by omega) hbytes);rw [e1] at hrun;injection hrun with e2 e3;subst e3;rw [hv'] at e2;injection e2 with e4;injection e4 with e5;injection e5 with e6;subst e6;have e7:=heap_alloc_new w.drew (.cells (xs.toArray++news.toArray++Builtin.zeroCells z.cells (grownCap w (n+m) cap e-(n+m))) e);rw [show w.heap.size=w.drew.heap.size from rfl,e7] at hg';injection hg' with e8;injection e8 with e9;rw [←e9];refine ⟨nou_append (nou_append (nou_list ?_) hnu') (hzc _),(Kp.refl w).drew.alloc _⟩;intro u hu;rw [←htake] at hu;exact nou_mem hnuc u (List.mem_of_mem_take hu)
 obtain ⟨g,cap',cur',rfl,a1,a2,a3,a4,a5,a6,a7,a8⟩:=hw;refine wpList_plain hgd fun _ hK'=>?_
 unfold Oper.wp execOp;simp only [ho,resolve,invoke,builtin,Sem.run_bind,Sem.run_pure,Result.andThen_ok,List.map_toArray,List.map_cons,List.map_nil,hs,hx,hrun];exact hK' _ _ (hK g cap' w' ⟨hlen,.inr ⟨g,cap',cur',rfl,a1,a2,a3,a4,a5,a6,a7⟩⟩ h2' a8)
theorem Tryz.infoTerm:(Tryz.prog.info? 70).map (fun i=>(i.zero,i.size,i.bytes))=some (some (.agg #[.int .i64 0,.bool false,.slice none 0 0,.slice none 0 0]),4,64):=by kernel_rfl
def tcell (z:Int) (t:Nm):List Value:=[.int .i64 z,.bool t.s,.slice t.x t.n t.c,.slice t.y t.m t.d]
def tcells (l:List (Int × Nm)):List Value:=l.flatMap (fun p=>tcell p.1 p.2)
theorem tcells_append (l:List (Int × Nm)) (z:Int) (t:Nm):tcells (l++[(z,t)])=tcells l++tcell z t:=by simp [tcells]
theorem RowG.slice {e sz base w v n xs} (h:RowG e sz base w v n xs):∃ao cap,v=.slice ao n cap:=by
 rcases h.2 with ⟨rfl,rfl⟩ | ⟨g,cap,cur,rfl,_⟩
 ·exact ⟨none,0,rfl⟩
 ·exact ⟨_,cap,rfl⟩
def Tf (L:Nat) (w:World) (ao:Option Addr) (v:List (Int × Rat)):Prop :=
 ∀(j:Nat) (a:Int) (q:Rat),v[j]?=some (a,q)→∃b o,∃t:Nm,ao=some ⟨b,o,none⟩∧C4 w b (o+j*4) (.int .i64 a) (.bool t.s) (.slice t.x t.n t.c) (.slice t.y t.m t.d)∧Rn L w t.s t.x t.n t.c t.f t.y t.m t.d t.g q
theorem Tf.below {L w w' ao v} (h:Tf L w ao v) (hb:Below w.heap.size w w'):Tf L w' ao v:=fun j a q hj=>by
 obtain ⟨b,o,t,e,h1,h2⟩:=h j a q hj;exact ⟨b,o,t,e,h1.below hb,h2.below hb⟩
theorem Tf.nil (L:Nat) (w:World) (ao:Option Addr):Tf L w ao []:=fun j a q h=>by simp at h
def nz (a:Int) (q:Rat):List (Int × Rat):=if q=0 then [] else [(a,q)]
theorem tcells_get {l:List (Int × Nm)} {j:Nat} {z:Int} {t:Nm} (h:l[j]?=some (z,t)) (i:Nat) (hi:i<4):(tcells l)[j*4+i]?=(tcell z t)[i]?:=by
 induction l generalizing j with
 | nil=>simp at h
 | cons p l ih =>
  have e1:tcells (p :: l)=tcell p.1 p.2++tcells l:=rfl;have e2:(tcell p.1 p.2).length=4:=rfl;cases j with
  | zero =>
   simp at h;subst h;rw [e1,List.getElem?_append_left (by rw [e2];omega),Nat.zero_mul,Nat.zero_add]
  | succ j =>
   rw [e1,List.getElem?_append_right (by rw [e2];omega),e2,show (j+1)*4+i-4=j*4+i by omega];exact ih (by simpa using h)
theorem tfr_all {col:Nat→Int} {T:Nat→Nm}:∀{r i:Nat} {last:Int},tfr col T r i last=true→(∀j,i≤j→j<i+r→last<col j∧nfB (T j)=true∧0<(T j).n)∧∀j k,i≤j→j<k→k<i+r→col j<col k:=by
 intro r
 induction r with
 | zero=>intro i last _;exact ⟨fun j h1 h2=>by omega,fun j k h1 h2 h3=>by omega⟩
 | succ r ih =>
  intro i last h;simp only [tfr,Bool.and_eq_true,decide_eq_true_eq] at h;obtain ⟨h1,h2,h3,h4⟩:=h;obtain ⟨k1,k2⟩:=ih h4;constructor
  ·intro j hj hj2;by_cases e:j=i
   ·subst e;exact ⟨h1,h2,h3⟩
   ·obtain ⟨a,b,c⟩:=k1 j (by omega) (by omega);exact ⟨by omega,b,c⟩
  ·intro j k hj hjk hk;by_cases e:j=i
   ·subst e;exact (k1 k (by omega) (by omega)).1
   ·exact k2 j k (by omega) hjk (by omega)
theorem Nm.rn {w:World} {t:Nm} {L:Nat} (h:NmR w t) (hf:nfB t=true) (hn:t.n≤L) (hm:t.m≤L):∃q,Rn L w t.s t.x t.n t.c t.f t.y t.m t.d t.g q:=h.1.rn hf hn hm
def Rf (L:Nat) (w:World) (ao:Option Addr) (p:List Rat):Prop :=
 ∀(j:Nat) (q:Rat),p[j]?=some q→∃b o,∃t:Nm,ao=some ⟨b,o,none⟩∧C3 w b (o+j*3) (.bool t.s) (.slice t.x t.n t.c) (.slice t.y t.m t.d)∧Rn L w t.s t.x t.n t.c t.f t.y t.m t.d t.g q
theorem Rf.below {L w w' ao p} (h:Rf L w ao p) (hb:Below w.heap.size w w'):Rf L w' ao p:=fun j q hj=>by
 obtain ⟨b,o,t,e,h1,h2⟩:=h j q hj;exact ⟨b,o,t,e,h1.below hb,h2.below hb⟩
theorem afr_all {X:Nat→Nm}:∀{r i:Nat},afr X r i=true→∀j,i≤j→j<i+r→nfB (X j)=true:=by
 intro r
 induction r with
 | zero=>intro i _ j h1 h2;omega
 | succ r ih =>
  intro i h j hj hj2;simp only [afr,Bool.and_eq_true] at h;by_cases e:j=i
  ·subst e;exact h.1
  ·exact ih h.2 j (by omega) (by omega)
theorem Wn.lt_pw {w s x n c f v} (h:Wn w s x n c f v):((v.natAbs:Nat):Int)<pw n:=by
 have hm:=h.mag;have h1:=vf_lt hm.lm;have h3:vf f n=((v.natAbs:Nat):Int):=hm.val;omega
theorem Wn.len_pw {w s x n c f v} {K:Nat} (h:Wn w s x n c f v) (hv:((v.natAbs:Nat):Int)<pw K):n≤K:=by
 have hm:=h.mag;have h3:vf f n=((v.natAbs:Nat):Int):=hm.val;by_cases hn:n≤K
 ·exact hn
 ·have h1:=vf_form_ge hm.lm (fm_of_wfB hm.wf) (by omega);have h2:=pw_mono (show K≤n-1 by omega);omega
theorem norm_le (N:Int) (D:Nat) (h:D≠0):(Rat.normalize N D h).num.natAbs≤N.natAbs∧(Rat.normalize N D h).den≤D:=by
 rw [Rat.normalize_eq];exact ⟨Int.natAbs_ediv_le_natAbs _ _,Nat.div_le_self _ _⟩
def Lo (K:Nat) (q:Rat):Prop:=((q.num.natAbs:Nat):Int)<pw K∧((q.den:Nat):Int)<pw K
theorem Lo.mono {K L q} (h:Lo K q) (hk:K≤L):Lo L q:=⟨Int.lt_of_lt_of_le h.1 (pw_mono hk),Int.lt_of_lt_of_le h.2 (pw_mono hk)⟩
theorem Rn.lo {L w s x n c f y m d g q} {K:Nat} (h:Rn L w s x n c f y m d g q) (hn:n≤K) (hm:m≤K):Lo K q :=
 ⟨Int.lt_of_lt_of_le h.num.lt_pw (pw_mono hn),Int.lt_of_lt_of_le (by have:=h.den.lt_pw;simpa using this) (pw_mono hm)⟩
theorem Rn.cut {L w s x n c f y m d g q} {K:Nat} (h:Rn L w s x n c f y m d g q) (hq:Lo K q):Rn K w s x n c f y m d g q :=
 ⟨h.num,h.den,h.num.len_pw hq.1,h.den.len_pw (by simpa using hq.2)⟩
theorem mul_pw {a b:Nat} {K L:Nat} (h1:(a:Int)<pw K) (h2:(b:Int)<pw L):((a*b:Nat):Int)≤pw (K+L):=by
 rw [pw_add,Int.natCast_mul];exact Int.mul_le_mul (by omega) (by omega) (by omega) (by have:=pw_pos K;omega)
theorem pw_twice (K:Nat):2*pw K<pw (K+1):=by
 have:=pw_pos K;simp only [pw];omega
theorem lo_mul {K L:Nat} {a b:Rat} (ha:Lo K a) (hb:Lo L b):Lo (K+L+1) (a*b):=by
 rw [Rat.mul_def];obtain ⟨h1,h2⟩:=norm_le (a.num*b.num) (a.den*b.den) (Nat.mul_ne_zero a.den_nz b.den_nz);have e1:=mul_pw ha.1 hb.1;have e2:=mul_pw ha.2 hb.2;rw [Int.natAbs_mul] at h1;have p:=pw_twice (K+L);have p0:=pw_pos (K+L);constructor <;> omega
theorem lo_add {K L:Nat} {a b:Rat} (ha:Lo K a) (hb:Lo L b):Lo (K+L+1) (a+b):=by
 rw [Rat.add_def];obtain ⟨h1,h2⟩:=norm_le (a.num*b.den+b.num*a.den) (a.den*b.den) (Nat.mul_ne_zero a.den_nz b.den_nz);have e1:=mul_pw ha.1 hb.2;have e2:=mul_pw ha.2 hb.1;have e3:=mul_pw ha.2 hb.2;have h3:=Int.natAbs_add_le (a.num*b.den) (b.num*a.den);rw [Int.natAbs_mul,Int.natAbs_mul,Int.natAbs_natCast,Int.natAbs_natCast,Nat.mul_comm b.num.natAbs] at h3;have p:=pw_twice (K+L);have p0:=pw_pos (K+L);constructor <;> omega
theorem lo_neg {K:Nat} {a:Rat} (ha:Lo K a):Lo K (-a):=by
 unfold Lo at *;rw [Rat.neg_num,Rat.neg_den,Int.natAbs_neg];exact ha
def dsum (p:List Rat):List (Int × Rat)→Rat→Rat
 | [],acc=>acc
 | (a,q) :: v,acc=>dsum p v (acc+q*p.getD a.toNat 0)
structure Sx (w:World) (B:Nat) (s:Bool) (x:Option Addr) (n c:Nat) (y:Option Addr) (m d:Nat):Prop where
 z:B<w.heap.size
 x0:w.cell? ⟨B,0,none⟩=some (.bool s)
 x1:w.cell? ⟨B,1,none⟩=some (.slice x n c)
 x2:w.cell? ⟨B,2,none⟩=some (.slice y m d)
 fz:∀o,w.frozen? ⟨B,o,none⟩=false
theorem Sx.below {w w' B s x n c y m d} (h:Sx w B s x n c y m d) (hb:Below w.heap.size w w'):Sx w' B s x n c y m d:=by
 obtain ⟨_,h2⟩:=bcell hb;exact ⟨Nat.lt_of_lt_of_le h.z hb.size,kCb hb h.x0,kCb hb h.x1,kCb hb h.x2,fun o=>(h2 _ _ h.z).trans (h.fz o)⟩
theorem Sx.rd {w B s x n c y m d u0 u1 u2 a k h} (S:Sx w B s x n c y m d) (hx:Rd .u64 w a k h):Rd .u64 (((w.setCell ⟨B,0,none⟩ u0).setCell ⟨B,1,none⟩ u1).setCell ⟨B,2,none⟩ u2) a k h :=
 rd_setne (cell_off (by decide) (cell_off (by decide) S.x2)) (fun i h=>by cases h) (rd_setne (cell_off (by decide) S.x1) (fun i h=>by cases h) (rd_setne S.x0 (fun i h=>by cases h) hx))
theorem Sx.rn {w B s x n c y m d u0 u1 u2 L s1 x1 n1 c1 f1 y1 m1 d1 g1 q} (S:Sx w B s x n c y m d) (h:Rn L w s1 x1 n1 c1 f1 y1 m1 d1 g1 q):Rn L (((w.setCell ⟨B,0,none⟩ u0).setCell ⟨B,1,none⟩ u1).setCell ⟨B,2,none⟩ u2) s1 x1 n1 c1 f1 y1 m1 d1 g1 q :=
 ⟨⟨S.rd h.num.rd,h.num.lm,h.num.wf,h.num.cap,h.num.nil,h.num.val⟩,⟨S.rd h.den.rd,h.den.lm,h.den.wf,h.den.cap,h.den.nil,h.den.val⟩,h.ln,h.ld⟩
theorem Sx.st {w B s x n c y m d s1 x1 n1 c1 y1 m1 d1} (S:Sx w B s x n c y m d):Sx (((w.setCell ⟨B,0,none⟩ (.bool s1)).setCell ⟨B,1,none⟩ (.slice x1 n1 c1)).setCell ⟨B,2,none⟩ (.slice y1 m1 d1)) B s1 x1 n1 c1 y1 m1 d1:=by
 have e0:=kI0 S.x0;have e1:=kI0 S.x1;have e2:=kI0 S.x2
 exact ⟨by simpa [World.setCell] using S.z,kCo (by decide) (kCo (by decide) (kCe e0)),kCo (by decide) (kCe (kIs e1)),kCe (kIs (kIs e2)),fun o=>kFs (kFs (kFs (S.fz o)))⟩
theorem Ob.far3 {w A B u0 u1 u2} (h:Ob w A) (hAB:B≠A):Ob (((w.setCell ⟨B,0,none⟩ u0).setCell ⟨B,1,none⟩ u1).setCell ⟨B,2,none⟩ u2) A :=
 ⟨by simpa [World.setCell] using h.z,kCs hAB (kCs hAB (kCs hAB h.z0)),kCs hAB (kCs hAB (kCs hAB h.z1)),kCs hAB (kCs hAB (kCs hAB h.z2)),fun o=>kFs (kFs (kFs (h.zf o)))⟩
theorem Sx.drew {w B s x n c y m d} (h:Sx w B s x n c y m d):Sx w.drew B s x n c y m d:=⟨h.z,h.x0,h.x1,h.x2,h.fz⟩
structure Rd1 (K:Nat) (w wy:World) (B:Nat) (s:Bool) (x:Option Addr) (n c:Nat) (f:Nat→Int) (y:Option Addr) (m d:Nat) (g:Nat→Int) (q:Rat):Prop where
 bel:Below w.heap.size w wy
 sx:Sx wy B s x n c y m d
 ob:Ob wy w.heap.size
 rn:Rn K wy s x n c f y m d g q
theorem rd1_mk {K B w w6 s x n c y m d s1 x1 n1 c1 f1 y1 m1 d1 g1 q} (hb:Below w.heap.size w w6) (S:Sx w6 B s x n c y m d) (O:Ob w6 w.heap.size) (h:Rn K w6 s1 x1 n1 c1 f1 y1 m1 d1 g1 q) (hB:w.heap.size<B):Rd1 K w (((w6.setCell ⟨B,0,none⟩ (.bool s1)).setCell ⟨B,1,none⟩ (.slice x1 n1 c1)).setCell ⟨B,2,none⟩ (.slice y1 m1 d1)) B s1 x1 n1 c1 f1 y1 m1 d1 g1 q :=
 ⟨below_st hb (by omega),S.st,O.far3 (by omega),S.rn h⟩
theorem Rd1.drew {K B w w6 s x n c f y m d g q} (h:Rd1 K w w6 B s x n c f y m d g q):Rd1 K w w6.drew B s x n c f y m d g q:=⟨h.bel.drew,h.sx.drew,h.ob.drew,⟨⟨h.rn.num.rd,h.rn.num.lm,h.rn.num.wf,h.rn.num.cap,h.rn.num.nil,h.rn.num.val⟩,⟨h.rn.den.rd,h.rn.den.lm,h.rn.den.wf,h.rn.den.cap,h.rn.den.nil,h.rn.den.val⟩,h.rn.ln,h.rn.ld⟩⟩
theorem Tryz.infoRat:(Tryz.prog.info? 24).map (fun i=>(i.zero,i.size,i.bytes))=some (some (.agg #[.bool false,.slice none 0 0,.slice none 0 0]),3,56):=by kernel_rfl
theorem Rn.nm {L w q} {t:Nm} (h:Rn L w t.s t.x t.n t.c t.f t.y t.m t.d t.g q) (hL:L≤65536):NmR w t∧nfB t=true :=
 ⟨⟨h.rw,Nat.le_trans h.ln hL,Nat.le_trans h.ld hL⟩,h.rf⟩
theorem tfr_of {col:Nat→Int} {T:Nat→Nm}:∀{r i:Nat} {last:Int},(∀j,i≤j→j<i+r→nfB (T j)=true∧0<(T j).n)→(∀j,i≤j→j+1<i+r→col j<col (j+1))→(0<r→last<col i)→tfr col T r i last=true:=by
 intro r
 induction r with
 | zero=>intro i last _ _ _;rfl
 | succ r ih =>
  intro i last h1 h2 h3;simp only [tfr,Bool.and_eq_true,decide_eq_true_eq];exact ⟨h3 (by omega),(h1 i (by omega) (by omega)).1,(h1 i (by omega) (by omega)).2,ih (fun j a b=>h1 j (by omega) (by omega)) (fun j a b=>h2 j (by omega) (by omega)) (fun h=>h2 i (by omega) (by omega))⟩
theorem afr_of {X:Nat→Nm}:∀{r i:Nat},(∀j,i≤j→j<i+r→nfB (X j)=true)→afr X r i=true:=by
 intro r
 induction r with
 | zero=>intro i _;rfl
 | succ r ih =>
  intro i h;simp only [afr,Bool.and_eq_true];exact ⟨h i (by omega) (by omega),ih (fun j a b=>h j (by omega) (by omega))⟩
structure Rk (w:World) (B n:Nat):Prop where
 z:B<w.heap.size
 has:∀o,o<n*3→∃u,w.cell? ⟨B,o,none⟩=some u∧∀i,u≠Value.int .u64 i
 fz:∀o,w.frozen? ⟨B,o,none⟩=false
theorem Rk.below {w w' B n} (h:Rk w B n) (hb:Below w.heap.size w w'):Rk w' B n:=by
 obtain ⟨_,h2⟩:=bcell hb;exact ⟨Nat.lt_of_lt_of_le h.z hb.size,fun o ho=>by obtain ⟨u,h3,h4⟩:=h.has o ho;exact ⟨u,kCb hb h3,h4⟩,fun o=>(h2 _ _ h.z).trans (h.fz o)⟩
theorem Rk.drew {w B n} (h:Rk w B n):Rk w.drew B n:=⟨h.z,h.has,h.fz⟩
theorem Rk.set {w B n o u} (h:Rk w B n) (hu:∀i,u≠Value.int .u64 i):Rk (w.setCell ⟨B,o,none⟩ u) B n :=
 ⟨by simpa [World.setCell] using h.z,fun o' ho'=>by
  obtain ⟨u',h1,h2⟩:=h.has o' ho';by_cases e:o=o'
  ·subst e;exact ⟨u,kCe (kI0 h1),hu⟩
  ·exact ⟨u',kCo e h1,h2⟩,fun o'=>kFs (h.fz o')⟩
theorem Rk.rd {w B n o u a k f} (h:Rk w B n) (ho:o<n*3) (hx:Rd .u64 w a k f):Rd .u64 (w.setCell ⟨B,o,none⟩ u) a k f:=by
 obtain ⟨u',h1,h2⟩:=h.has o ho;exact rd_setne h1 h2 hx
theorem Rk.rn {w B n o u L s x k c f y m d g q} (h:Rk w B n) (ho:o<n*3) (hx:Rn L w s x k c f y m d g q):Rn L (w.setCell ⟨B,o,none⟩ u) s x k c f y m d g q :=
 ⟨⟨h.rd ho hx.num.rd,hx.num.lm,hx.num.wf,hx.num.cap,hx.num.nil,hx.num.val⟩,⟨h.rd ho hx.den.rd,hx.den.lm,hx.den.wf,hx.den.cap,hx.den.nil,hx.den.val⟩,hx.ln,hx.ld⟩
theorem below_at {w0 w:World} {B o:Nat} {u0 u1 u2:Value} (hw:Below w0.heap.size w0 w) (hB:w0.heap.size≤B) :
  Below w0.heap.size w0 (((w.setCell ⟨B,o,none⟩ u0).setCell ⟨B,o+1,none⟩ u1).setCell ⟨B,o+2,none⟩ u2) :=
 below_turned hw hw.size ((((Turned.refl w0.heap.size (B+1) w).set (x:=⟨B,o,none⟩) hB (by simp) _).set (x:=⟨B,o+1,none⟩) hB (by simp) _).set (x:=⟨B,o+2,none⟩) hB (by simp) _) (Nat.le_refl _)
theorem rOf0_c (W:World):Calls Tryz.prog 67 #[.int .i64 0] W fun e w'=>RatAns 4 W w' e 0:=by
 have h:=rOf_c (w:=W) (z:=0) (by decide) (by decide);simpa using h
theorem Tf.mono {L L' w ao v} (h:Tf L w ao v) (hL:L≤L'):Tf L' w ao v:=fun j a q hj=>by
 obtain ⟨b,o,t,e,h1,h2⟩:=h j a q hj;exact ⟨b,o,t,e,h1,h2.mono hL⟩
theorem Rf.mono {L L' w ao p} (h:Rf L w ao p) (hL:L≤L'):Rf L' w ao p:=fun j q hj=>by
 obtain ⟨b,o,t,e,h1,h2⟩:=h j q hj;exact ⟨b,o,t,e,h1,h2.mono hL⟩
def rcell (t:Nm):List Value:=[.bool t.s,.slice t.x t.n t.c,.slice t.y t.m t.d]
def rcells (l:List Nm):List Value:=l.flatMap rcell
theorem rcells_get {l:List Nm} {j:Nat} {t:Nm} (h:l[j]?=some t) (i:Nat) (hi:i<3):(rcells l)[j*3+i]?=(rcell t)[i]?:=by
 induction l generalizing j with
 | nil=>simp at h
 | cons u l ih =>
  have e:rcells (u :: l)=rcell u++rcells l:=by simp [rcells]
  rw [e];cases j with
  | zero =>
   simp at h;subst h
   rw [Nat.zero_mul,Nat.zero_add,List.getElem?_append_left (by show i<3;exact hi)]
  | succ j =>
   rw [List.getElem?_append_right (by show 3≤_;omega),show (j+1)*3+i-(rcell u).length=j*3+i by show (j+1)*3+i-3=_;omega];exact ih (by simpa using h)
theorem step_append_G {P:Program} (w:World) {ops:Array Oper} {o:Oper} {a:Act} {K:Act→World→Prop} {Q:Exit→Act→World→Prop} {E:Prop} (hgd:o.guard=none) (s x:Operand) (t:TypeId)
  (ho:o.op=.call { callee:=.builtin .append,args:=#[s,x],argTypes:=#[t,t] })
  (base:Nat) (e:TypeId) (i:TypeInfo) (z:Value) (size bytes:Nat) (ht:P.underlying t=some (.slice e)) (hi:P.info? e=some i) (hz:i.zero=some z)
  (hsize:i.size=size) (hby:i.bytes=bytes) (hzs:z.cells.size=size) (hsz:0<size) (hzu:NoU z.cells)
  (v:Value) (n:Nat) (xs:List Value) (hs:a.eval s=v) (hown:RowG e size base w v n xs)
  (ad:Addr) (m c:Nat) (news:List Value) (hx:a.eval x=.slice (some ad) m c) (hl:news.length=m*size) (hnews:∀j u,news[j]?=some u→w.cell? (ad.add j)=some u) (h1:∀u ∈ news,u.oneCell'=true) (hnu:∀u ∈ news,∀z,u≠.int .u64 z)
  (hm0:0<m) (h63:n+m≤maxLen) (hbytes:(n+m)*bytes≤140737488355328) (hbase:base≤w.heap.size)
  (hK:∀g cap' w',RowG e size base w' (.slice (some ⟨g,0,none⟩) (n+m) cap') (n+m) (xs++news)→w.grownBy w' v.ownBlock→Kp w w'→K (a.put o.dst (.slice (some ⟨g,0,none⟩) (n+m) cap')) w'):if Region.wanted o (yielded ops a.tmps)=true then Oper.wp P o a w K Q else E:=by
 subst hsize;subst hby
 obtain ⟨v',w',hrun,h1',h2',h3'⟩:=run_append_own (P:=P) w base t o.type e i z i.size i.bytes ht hi hz rfl rfl hzs hsz v n xs hown.owns ad m c news hl hnews h1 h63 hbytes hbase;have hlen:(xs++news).length=(n+m)*i.size:=by rw [List.length_append,hown.1,hl,Nat.add_mul]
 have hzc:∀k,NoU (Builtin.zeroCells z.cells k):=by
  intro k j y hj;simp only [Builtin.zeroCells] at hj;have hm:=Array.mem_of_getElem? hj;obtain ⟨q,_,he⟩:=Array.mem_map.1 hm;have hlt:q%z.cells.size<z.cells.size:=Nat.mod_lt _ (by omega);rw [getElem!_pos z.cells (q%z.cells.size) hlt] at he;exact hzu (q%z.cells.size) y (by rw [Array.getElem?_eq_getElem hlt,he])
 have hnu':NoU news.toArray:=nou_list hnu;have hw:∃g cap' cur',v'=.slice (some ⟨g,0,none⟩) (n+m) cap'∧base≤g∧w'.heap[g]?=some (.cells cur' e (0,0))∧n+m≤cap'∧cap'≤maxLen∧cur'.size=cap'*i.size∧cur'.toList.take ((n+m)*i.size)=xs++news∧NoU cur'∧Kp w w':=by
  have hsm:n+m≤9223372036854775807:=by unfold maxLen at h63;omega
  rcases h1'.2 with ⟨hv0,hn0⟩ | ⟨g',cap',cur',hv',hb',hg',hn',hc',hs',ht'⟩
  ·omega
  ·refine ⟨g',cap',cur',hv',hb',hg',hn',hc',hs',ht',?_⟩;rcases hown.2 with ⟨rfl,rfl⟩ | ⟨g,cap,cur,rfl,hbg,hg,hnc,hcm,hcs,htake,hnuc⟩
   ·have hx0:xs=[]:=List.eq_nil_of_length_eq_zero (by simpa using hown.1);subst hx0;have e1:=run_append_nil (P:=P) w t o.type e i z ht hi hz ad m c news hl hnews hm0 (by omega) (by rw [Nat.zero_add] at hbytes;omega);rw [e1] at hrun;injection hrun with e2 e3;subst e3;rw [hv'] at e2;injection e2 with e4;injection e4 with e5;injection e5 with e6;subst e6;have e7:=heap_alloc_new w.drew (.cells (news.toArray++Builtin.zeroCells z.cells (grownCap w m 0 e-m)) e);rw [show w.heap.size=w.drew.heap.size from rfl,e7] at hg';injection hg' with e8;injection e8 with e9;rw [←e9];exact ⟨nou_append hnu' (hzc _),(Kp.refl w).drew.alloc _⟩
   ·by_cases hroom:n+m≤cap
    ·have e1:=run_append_room (P:=P) w t o.type e i ht hi g n cap cur hg ad m c news hl hnews h1 hroom (by rw [hl,hcs,←Nat.add_mul];exact Nat.mul_le_mul_right _ hroom);rw [e1] at hrun;injection hrun with e2 e3;rw [hv'] at e2;injection e2 with e4;injection e4 with e5;injection e5 with e6;subst e6;have e7:w'.heap[g]?=some (.cells (cur.toList.take (n*i.size)++news++cur.toList.drop (n*i.size+news.length)).toArray e (0,0)):=by rw [←e3];exact setRow_heap w g cur _ e _ hg
     rw [e7] at hg';injection hg' with e8;injection e8 with e9;rw [←e9];refine ⟨nou_list ?_,h2'.os,h2'.tape,h2'.output,h2'.size,fun k hk=>?_⟩
     ·intro u hu;rcases List.mem_append.1 hu with hu | hu
      ·rcases List.mem_append.1 hu with hu | hu
       ·exact nou_mem hnuc u (List.mem_of_mem_take hu)
       ·exact hnu u hu
      ·exact nou_mem hnuc u (List.mem_of_mem_drop hu)
     ·by_cases hkg:k=g
      ·subst hkg;exact .inr ⟨cur,e,(0,0),hg,hnuc⟩
      ·exact .inl (h2'.block k hk (fun e=>hkg (by simpa [Value.ownBlock] using e)))
    ·have holds:∀j u,xs[j]?=some u→w.cell? ((⟨g,0,none⟩:Addr).add j)=some u:=World.ownsRow.cells hown.owns (g:=g) rfl;have e1:=run_append_grow (P:=P) w t o.type e i z ht hi hz ⟨g,0,none⟩ n cap xs hown.1 holds ad m c news hl hnews (by omega) (by omega) (growslice_fits (by omega) hbytes);rw [e1] at hrun;injection hrun with e2 e3;subst e3;rw [hv'] at e2;injection e2 with e4;injection e4 with e5;injection e5 with e6;subst e6;have e7:=heap_alloc_new w.drew (.cells (xs.toArray++news.toArray++Builtin.zeroCells z.cells (grownCap w (n+m) cap e-(n+m))) e);rw [show w.heap.size=w.drew.heap.size from rfl,e7] at hg';injection hg' with e8;injection e8 with e9;rw [←e9];refine ⟨nou_append (nou_append (nou_list ?_) hnu') (hzc _),(Kp.refl w).drew.alloc _⟩;intro u hu;rw [←htake] at hu;exact nou_mem hnuc u (List.mem_of_mem_take hu)
 obtain ⟨g,cap',cur',rfl,a1,a2,a3,a4,a5,a6,a7,a8⟩:=hw;have hwt:Region.wanted o (yielded ops a.tmps)=true:=by simp [Region.wanted,hgd]
 rw [if_pos hwt];unfold Oper.wp execOp;simp only [ho,resolve,invoke,builtin,Sem.run_bind,Sem.run_pure,Result.andThen_ok,List.map_toArray,List.map_cons,List.map_nil,hs,hx,hrun];exact hK g cap' w' ⟨hlen,.inr ⟨g,cap',cur',rfl,a1,a2,a3,a4,a5,a6,a7⟩⟩ h2' a8
theorem step_append_one {P:Program} (w0:World) {ops:Array Oper} {o:Oper} {a:Act} {K:Act→World→Prop} {Q:Exit→Act→World→Prop} {E:Prop} (hgd:o.guard=none) (s x:Operand) (t:TypeId)
  (ho:o.op=.call { callee:=.builtin .append,args:=#[s,x],argTypes:=#[t,t] })
  (base:Nat) (e:TypeId) (bytes sz:Nat) (z:Value) (ht:P.underlying t=some (.slice e)) (hi:(P.info? e).map (fun i=>(i.zero,i.size,i.bytes))=some (some z,sz,bytes)) (hzs:z.cells.size=sz) (hsz:0<sz) (hzu:NoU z.cells)
  (v:Value) (n:Nat) (xs:List Value) (hs:a.eval s=v) (hown:RowG e sz base w0 v n xs) (c:Array Value) (hx:a.eval x=.slice (some ⟨w0.heap.size,0,none⟩) 1 1) (hc:c.size=sz) (h1:∀u ∈ c.toList,u.oneCell'=true) (hnu:∀u ∈ c.toList,∀q,u≠.int .u64 q) (hn:n≤1000000) (hby:bytes≤1000) (hbase:base≤w0.heap.size)
  (hK:∀g cap' w',RowG e sz base w' (.slice (some ⟨g,0,none⟩) (n+1) cap') (n+1) (xs++c.toList)→Kp w0 w'→(∀b0:World,Below b0.heap.size b0 w0→b0.heap.size≤base→Below b0.heap.size b0 w')→(∀k,k<w0.heap.size→v.ownBlock≠some k→w'.heap[k]?=w0.heap[k]?)→K (a.put o.dst (.slice (some ⟨g,0,none⟩) (n+1) cap')) w'):if Region.wanted o (yielded ops a.tmps)=true then Oper.wp P o a (w0.alloc (.cells c e)) K Q else E:=by
 obtain ⟨i,hi,hz0,hz1,hz2⟩:=info_parts hi;have hal:=below_alloc (Below.refl w0.heap.size w0) (.cells c e);have hblk:=heap_alloc_new w0 (.cells c e);have hrow:=hown.below hal;refine step_append_G (w0.alloc (.cells c e)) hgd s x t ho base e i z sz bytes ht hi hz0 hz1 hz2 hzs hsz hzu v n xs hs hrow ⟨w0.heap.size,0,none⟩ 1 1 c.toList hx (by simp [hc]) (fun j u hu=>?_) h1 hnu (by decide) (by unfold maxLen;omega) ?_ (by simp;omega) ?_
 ·rw [addr_add,Nat.zero_add];simp only [World.cell?,hblk];simpa using hu
 ·have:(n+1)*bytes≤1000001*1000:=Nat.mul_le_mul (by omega) hby;omega
 ·intro g cap' w' hr hgr hkp;refine hK g cap' w' hr ((Kp.of_below hal).trans hkp) (fun b0 hb hle=>?_) (fun k hk hne=>(hgr.block k (by simp;omega) (fun e=>hne e.symm)).trans (hal.block k hk));have h2:Below b0.heap.size b0 (w0.alloc (.cells c e)):=hb.trans (hal.mono hb.size);exact h2.grown hgr (by have:=hb.size;simp;omega) (fun k hk=>by have:=(hrow.lt k hk).1;omega)
theorem wpList_append_one {P:Program} (w0:World) {ops:Array Oper} {rest:List Oper} {o:Oper} {a:Act} {Q:Exit→Act→World→Prop} (hgd:o.guard=none) (s x:Operand) (t:TypeId)
  (ho:o.op=.call { callee:=.builtin .append,args:=#[s,x],argTypes:=#[t,t] })
  (base:Nat) (e:TypeId) (bytes sz:Nat) (z:Value) (ht:P.underlying t=some (.slice e)) (hi:(P.info? e).map (fun i=>(i.zero,i.size,i.bytes))=some (some z,sz,bytes)) (hzs:z.cells.size=sz) (hsz:0<sz) (hzu:NoU z.cells)
  (v:Value) (n:Nat) (xs:List Value) (hs:a.eval s=v) (hown:RowG e sz base w0 v n xs) (c:Array Value) (hx:a.eval x=.slice (some ⟨w0.heap.size,0,none⟩) 1 1) (hc:c.size=sz) (h1:∀u ∈ c.toList,u.oneCell'=true) (hnu:∀u ∈ c.toList,∀q,u≠.int .u64 q) (hn:n≤1000000) (hby:bytes≤1000) (hbase:base≤w0.heap.size)
  (hK:∀g cap' w',RowG e sz base w' (.slice (some ⟨g,0,none⟩) (n+1) cap') (n+1) (xs++c.toList)→Kp w0 w'→(∀b0:World,Below b0.heap.size b0 w0→b0.heap.size≤base→Below b0.heap.size b0 w')→(∀k,k<w0.heap.size→v.ownBlock≠some k→w'.heap[k]?=w0.heap[k]?)→wpList P ops Q rest (a.put o.dst (.slice (some ⟨g,0,none⟩) (n+1) cap')) w'):wpList P ops Q (o :: rest) a (w0.alloc (.cells c e)):=by
 obtain ⟨i,hi,hz0,hz1,hz2⟩:=info_parts hi;have hal:=below_alloc (Below.refl w0.heap.size w0) (.cells c e);have hblk:=heap_alloc_new w0 (.cells c e);have hrow:=hown.below hal;refine wpList_append_G (w0.alloc (.cells c e)) hgd s x t ho base e i z sz bytes ht hi hz0 hz1 hz2 hzs hsz hzu v n xs hs hrow ⟨w0.heap.size,0,none⟩ 1 1 c.toList hx (by simp [hc]) (fun j u hu=>?_) h1 hnu (by decide) (by unfold maxLen;omega) ?_ (by simp;omega) ?_
 ·rw [addr_add,Nat.zero_add];simp only [World.cell?,hblk];simpa using hu
 ·have:(n+1)*bytes≤1000001*1000:=Nat.mul_le_mul (by omega) hby;omega
 ·intro g cap' w' hr hgr hkp;refine hK g cap' w' hr ((Kp.of_below hal).trans hkp) (fun b0 hb hle=>?_) (fun k hk hne=>(hgr.block k (by simp;omega) (fun e=>hne e.symm)).trans (hal.block k hk));have h2:Below b0.heap.size b0 (w0.alloc (.cells c e)):=hb.trans (hal.mono hb.size);exact h2.grown hgr (by have:=hb.size;simp;omega) (fun k hk=>by have:=(hrow.lt k hk).1;omega)
theorem one4 (z:Int) (s:Bool) (x:Option Addr) (n c:Nat) (y:Option Addr) (m d:Nat):∀u ∈ (#[Value.int .i64 z,.bool s,.slice x n c,.slice y m d]:Array Value).toList,u.oneCell'=true:=by
 intro u hu;simp at hu;rcases hu with rfl | rfl | rfl | rfl <;> rfl
theorem not4 (z:Int) (s:Bool) (x:Option Addr) (n c:Nat) (y:Option Addr) (m d:Nat):∀u ∈ (#[Value.int .i64 z,.bool s,.slice x n c,.slice y m d]:Array Value).toList,∀q,u≠.int .u64 q:=by
 intro u hu q;simp at hu;rcases hu with rfl | rfl | rfl | rfl <;> simp
theorem one3 (s:Bool) (x:Option Addr) (n c:Nat) (y:Option Addr) (m d:Nat):∀u ∈ (#[Value.bool s,.slice x n c,.slice y m d]:Array Value).toList,u.oneCell'=true:=by
 intro u hu;simp at hu;rcases hu with rfl | rfl | rfl <;> rfl
theorem not3 (s:Bool) (x:Option Addr) (n c:Nat) (y:Option Addr) (m d:Nat):∀u ∈ (#[Value.bool s,.slice x n c,.slice y m d]:Array Value).toList,∀q,u≠.int .u64 q:=by
 intro u hu q;simp at hu;rcases hu with rfl | rfl | rfl <;> simp
theorem nz4:NoU (Value.agg #[.int .i64 0,.bool false,.slice none 0 0,.slice none 0 0]).cells:=nou_list (l:=[Value.int .i64 0,.bool false,.slice none 0 0,.slice none 0 0]) (not4 0 false none 0 0 none 0 0)
theorem nz3:NoU (Value.agg #[.bool false,.slice none 0 0,.slice none 0 0]).cells:=nou_list (l:=[Value.bool false,.slice none 0 0,.slice none 0 0]) (not3 false none 0 0 none 0 0)
theorem RowG.drew {e sz base w v n xs} (h:RowG e sz base w v n xs):RowG e sz base w.drew v n xs:=h
theorem Rw.kp {w w' x n c f y m d g} (h:Rw w x n c f y m d g) (hk:Kp w w'):Rw w' x n c f y m d g:=⟨h.rx.kp hk,h.lx,h.cx,h.nx,h.ry.kp hk,h.ly,h.cy,h.ny⟩
def tls (i:Nat) (col:Nat→Int) (T:Nat→Nm):List (Int × Nm):=(List.range i).map (fun j=>(col j,T j))
def putN (T:Nat→Nm) (i:Nat) (t:Nm):Nat→Nm:=fun j=>if j=i then t else T j
theorem putN_at (T:Nat→Nm) (i:Nat) (t:Nm):putN T i t i=t:=by simp [putN]
theorem putN_ne {T:Nat→Nm} {i j:Nat} {t:Nm} (h:j≠i):putN T i t j=T j:=by simp [putN,h]
theorem tls_put (i:Nat) (col:Nat→Int) (T:Nat→Nm) (t:Nm):tcells (tls (i+1) col (putN T i t))=tcells (tls i col T)++tcell (col i) t:=by
 have e:tls (i+1) col (putN T i t)=tls i col T++[(col i,t)]:=by
  unfold tls;rw [List.range_succ,List.map_append,List.map_singleton,putN_at]
  congr 1
  apply List.map_congr_left;intro j hj;rw [putN_ne (by have:=List.mem_range.1 hj;omega)]
 rw [e,tcells_append]
theorem tls_get {i j:Nat} {col:Nat→Int} {T:Nat→Nm} (h:j<i):(tls i col T)[j]?=some (col j,T j):=by simp [tls,h]
def rls (i:Nat) (T:Nat→Nm):List Nm:=(List.range i).map T
theorem rls_put (i:Nat) (T:Nat→Nm) (t:Nm):rcells (rls (i+1) (putN T i t))=rcells (rls i T)++rcell t:=by
 have e:rls (i+1) (putN T i t)=rls i T++[t]:=by
  unfold rls;rw [List.range_succ,List.map_append,List.map_singleton,putN_at]
  congr 1
  apply List.map_congr_left;intro j hj;rw [putN_ne (by have:=List.mem_range.1 hj;omega)]
 rw [e];simp [rcells]
theorem rls_get {i j:Nat} {T:Nat→Nm} (h:j<i):(rls i T)[j]?=some (T j):=by simp [rls,h]
theorem rowg_c4 {e:TypeId} {base i:Nat} {w:World} {ao:Option Addr} {cap:Nat} {col:Nat→Int} {T:Nat→Nm} (h:RowG e 4 base w (.slice ao i cap) i (tcells (tls i col T))) {j:Nat} (hj:j<i):∃b,ao=some ⟨b,0,none⟩∧C4 w b (0+j*4) (.int .i64 (col j)) (.bool (T j).s) (.slice (T j).x (T j).n (T j).c) (.slice (T j).y (T j).m (T j).d):=by
 rcases h.2 with ⟨hv,h0⟩ | ⟨g,cap',cur,hv,_⟩
 ·omega
 ·cases hv
  have hc:∀q,q<4→w.cell? ⟨g,0+j*4+q,none⟩=(tcell (col j) (T j))[q]?:=fun q hq=>by
   rw [Nat.zero_add];have e1:=tcells_get (tls_get (col:=col) (T:=T) hj) q hq;obtain ⟨u,hu⟩:∃u,(tcell (col j) (T j))[q]?=some u:=⟨_,List.getElem?_eq_getElem (by show q<4;exact hq)⟩;rw [hu] at e1 ⊢;exact h.cells e1
  exact ⟨g,rfl,⟨hc 0 (by decide),hc 1 (by decide),hc 2 (by decide),hc 3 (by decide)⟩⟩
theorem rowg_c3 {e:TypeId} {base i:Nat} {w:World} {ao:Option Addr} {cap:Nat} {T:Nat→Nm} (h:RowG e 3 base w (.slice ao i cap) i (rcells (rls i T))) {j:Nat} (hj:j<i):∃b,ao=some ⟨b,0,none⟩∧C3 w b (0+j*3) (.bool (T j).s) (.slice (T j).x (T j).n (T j).c) (.slice (T j).y (T j).m (T j).d):=by
 rcases h.2 with ⟨hv,h0⟩ | ⟨g,cap',cur,hv,_⟩
 ·omega
 ·cases hv
  have hc:∀q,q<3→w.cell? ⟨g,0+j*3+q,none⟩=(rcell (T j))[q]?:=fun q hq=>by
   rw [Nat.zero_add];have e1:=rcells_get (rls_get (T:=T) hj) q hq;obtain ⟨u,hu⟩:∃u,(rcell (T j))[q]?=some u:=⟨_,List.getElem?_eq_getElem (by show q<3;exact hq)⟩;rw [hu] at e1 ⊢;exact h.cells e1
  exact ⟨g,rfl,⟨hc 0 (by decide),hc 1 (by decide),hc 2 (by decide)⟩⟩
end Go.Proofs.YtdbbncamlaiajaaGreat
