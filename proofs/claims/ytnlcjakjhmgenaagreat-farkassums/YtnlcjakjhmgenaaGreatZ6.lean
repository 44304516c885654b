/-
 Walks.
-/
import Derived.Test.YtnlcjakjhmgenaaGreatZ4
import Derived.Test.YtnlcjakjhmgenaaGreatZ5
import Derived.Test.YtnlcjakjhmgenaaGreatZ2
import Derived.Test.YtnlcjakjhmgenaaGreatZ3
import Derived.BigRegion
set_option maxRecDepth 100000
set_option maxHeartbeats 16000000
namespace Go.Proofs.YtnlcjakjhmgenaaGreat
open Value (slice agg)
open Obj (cells)
open Ending (returned)
open Nat (le_refl le_trans zero_add)
open World (cell?_of_block)
open List (getElem?_eq_getElem)
open Go.Proofs.Tryz
open Go.RowKit
def zsk (md:Region.Mode) (ops:Array Oper) (l:Array Bool) (i:Nat):Array Bool:=((List.range ops.size).map (λj=>l.getD j false || (zeq md ops ops.size [i]).contains j)).toArray
def zkt (md:Region.Mode) (ops:Array Oper) (listed:Array Bool) (E T st:List Nat):Bool :=
 listed.size==ops.size && (E++T).Nodup &&
 (List.range ops.size).all (λi=>!(listed.getD i false) || (depsOf md ops i).all (λj=>listed.getD j false)) &&
 (E++T).all (λi=>!(listed.getD i true) && decide (i<ops.size) && !(st.contains i) && (depsOf md ops i).all (λj=>decide (j<i) && (listed.getD j false || (E++T).contains j))) &&
 (List.range ops.size).all (λi=>listed.getD i false || (E++T).contains i || st.contains i) &&
 st.all (λs=>!(listed.getD s true) && ((depsOf md ops s).any (λj=>st.contains j) || E.all (λj=>(zeq md ops ops.size [s]).contains j))) &&
 T.all (λi=>Region.free md ops (zsk md ops listed i) i)
def zrt (P:Program) (md:Region.Mode) (ops:Array Oper) (S:World->Prop) (G:Nat->Value->World->Prop) (a0:Act) (D:List (Nat × Tmp)) (F:List Nat) (i:Nat):Prop :=
 ∃o,ops[i]?=some o/\∀u w,S w->(∀j,F.contains j=true->(depsOf md ops i).contains j=true->G j (u j) w)->∃v,YieldsIf P ops S o v (fill a0 D u)/\G i v w
theorem zlx {md ops l l' i} (h:Region.free md ops l i=true) (hl:∀j,l.getD j true=true->l'.getD j true=true):Region.free md ops l' i=true:=by
 unfold Region.free at h ⊢;cases ho:ops[i]? with
 | none=>rw[ho]at h;exact h
 | some oi =>
  rw[ho]at h
  simp only[List.all_eq_true]at h ⊢;intro j hj;have h1:=h j hj;simp only[Bool.or_eq_true]at h1 ⊢;rcases h1 with(h1|h1)|h1
  ·exact .inl (.inl h1)
  ·exact .inl (.inr (hl j h1))
  ·exact .inr h1
theorem zbv {P md ops Q S} (G:Nat->Value->World->Prop) (D:List (Nat × Tmp)) (E T st:List Nat) (listed0:Array Bool) (a0:Act) (w0:World) (fuel:Nat) (hok:zkt md ops listed0 E T st=true) (hsl:zeR ops D (E++T)=true) (hns:Region.noSelect ops=true) (hQ0:∀c a (d:Tmp) (v:Value) w,Q (.panic c) (a.put (some d) v) w->Q (.panic c) a w) (hS:∀w w',S w->Bl w w'->S w') (hG:∀j v w w',G j v w->Bl w w'->G j v w') (hstep:∀i,i ∈ E->zon P md ops Q S G a0 w0 D (E++T) i) (htake:∀i,i ∈ T->zrt P md ops S G a0 D (E++T) i) (hend:∀u w,S w->Bl w0 w->(∀j,j ∈ E++T->G j (u j) w)->wpAnyH P md ops Q S fuel (zbR ops st) (fill a0 D u) w) (hS0:S w0):wpAnyH P md ops Q S ((E++T).length+fuel) listed0 a0 w0:=by
 simp only[zkt,Bool.and_eq_true,beq_iff_eq]at hok;obtain⟨⟨⟨⟨⟨⟨k1,k0⟩,k2⟩,k3⟩,k4⟩,k5⟩,k6⟩:=hok;obtain⟨F,hFE⟩:∃F,F=E++T:=⟨_,rfl⟩;have inE:∀i,i ∈ F->i ∈ E∨i ∈ T:=λi hi=>by rw[hFE]at hi;exact List.mem_append.1 hi
 have Esub:∀i,i ∈ E->i ∈ F:=λi hi=>by rw[hFE];exact List.mem_append_left _ hi
 have Tsub:∀i,i ∈ T->i ∈ F:=λi hi=>by rw[hFE];exact List.mem_append_right _ hi
 rw[<-hFE]at k0 k3 k4 hsl hstep htake hend ⊢
 have k0:F.Nodup:=of_decide_eq_true k0;have k2':∀i j,listed0.getD i false=true->j ∈ depsOf md ops i->listed0.getD j false=true:=λi j hi hj=>by
  have hlt:i<ops.size:=by
   rcases Nat.lt_or_ge i ops.size with h|h
   ·exact h
   ·rw[<-k1]at h;simp[Array.getElem?_eq_none h]at hi
  have:=List.all_eq_true.1 k2 i (List.mem_range.2 hlt);rw[hi]at this
  simpa using List.all_eq_true.1 (by simpa using this) j hj
 have k3':∀i,i ∈ F->listed0.getD i true=false/\i<ops.size/\i ∉ st/\∀j,j ∈ depsOf md ops i->j<i/\(listed0.getD j false=true∨j ∈ F):=λi hi=>by
  have:=List.all_eq_true.1 k3 i hi;simp only[Bool.and_eq_true,Bool.not_eq_true',decide_eq_true_eq]at this;obtain⟨⟨⟨a,b⟩,c⟩,d⟩:=this;refine⟨a,b,λh=>?_,λj hj=>?_⟩
  ·rw[List.contains_iff_mem.2 h]at c;cases c
  ·have:=List.all_eq_true.1 d j hj;simp only[Bool.and_eq_true,decide_eq_true_eq,Bool.or_eq_true]at this;exact⟨this.1,this.2.imp id (λh=>List.contains_iff_mem.1 h)⟩
 have k4':∀i,i<ops.size->listed0.getD i false=true∨i ∈ F∨i ∈ st:=λi hi=>by
  have:=List.all_eq_true.1 k4 i (List.mem_range.2 hi);simp only[Bool.or_eq_true]at this;rcases this with(h|h)|h
  ·exact .inl h
  ·exact .inr (.inl (List.contains_iff_mem.1 h))
  ·exact .inr (.inr (List.contains_iff_mem.1 h))
 have k5':∀s,s ∈ st->listed0.getD s true=false/\((∃j,j ∈ depsOf md ops s/\j ∈ st)∨∀j,j ∈ E->j ∈ zeq md ops ops.size [s]):=λs hs=>by
  have:=List.all_eq_true.1 k5 s hs;simp only[Bool.and_eq_true,Bool.not_eq_true',Bool.or_eq_true]at this;refine⟨this.1,this.2.imp (λh=>?_) (λh j hj=>List.contains_iff_mem.1 (List.all_eq_true.1 h j hj))⟩;obtain⟨j,h1,h2⟩:=List.any_eq_true.1 h;exact⟨j,h1,List.contains_iff_mem.1 h2⟩
 simp only[zeR,Bool.and_eq_true,beq_iff_eq,decide_eq_true_eq]at hsl;obtain⟨⟨hf,h2⟩,h3⟩:=hsl;have h1:(D.map Prod.fst).Nodup:=hf ▸ k0;have hput:∀i,i ∈ F->∀u v,(fill a0 D u).put (zcW ops i) v=fill a0 D (zfw u i v):=λi hi u v=>by
  rw[<-hf]at hi
  obtain⟨⟨i',d⟩,hp,rfl⟩:=List.mem_map.1 hi;have h4:=List.all_eq_true.1 h3 _ hp;rw[beq_iff_eq.1 h4];exact zis v h1 h2 hp
 have h0:fill a0 D (zlr a0 D)=a0:=zgA (zkk h1)
 -- at any time
 have main:∀(n:Nat) (listed:Array Bool) (u:Nat->Value) (w:World),left listed F<=n->listed.size=ops.size->(∀i,i ∉ F->listed.getD i false=listed0.getD i false)->(∀i j,listed.getD i false=true->j ∈ depsOf md ops i->listed.getD j false=true) ->
   S w->Bl w0 w->(∀j,j ∈ F->listed.getD j false=true->G j (u j) w)->∀m,m=left listed F->wpAnyH P md ops Q S (m+fuel) listed (fill a0 D u) w:=by
  intro n
  induction n with
  | zero =>
   intro listed u w hn hsz hout hcl hw hb hg m hm;have hz:left listed F=0:=by omega
   have hall:=zeg hz;have hl:listed=zbR ops st:=by
    apply Array.ext
    ·rw[hsz];simp[zbR]
    ·intro i h1 h2;have hi:i<ops.size:=by omega
     have e1:listed[i]=listed.getD i false:=by simp[Array.getD,h1]
     have e2:(zbR ops st)[i]=!(st.contains i):=by simp[zbR]
     rw[e1,e2];by_cases hF:i ∈ F
     ·rw[hall i hF];have:=(k3' i hF).2.2.1;simp[this]
     ·rw[hout i hF];by_cases hs:i ∈ st
      ·have:=(k5' i hs).1;rw[zaI (by omega)]at this
       rw[this];simp[hs]
      ·rcases k4' i hi with h|h|h
       ·rw[h];simp[hs]
       ·exact absurd h hF
       ·exact absurd h hs
   rw[hm,hz,zero_add,hl];exact hend u w hw hb (λj hj=>hg j hj (hall j hj))
  | succ n ih =>
   intro listed u w hn hsz hout hcl hw hb hg m hm;by_cases hz:left listed F=0
   ·exact ih listed u w (by omega) hsz hout hcl hw hb hg m hm
   ·obtain⟨m',rfl⟩:∃m',m=m'+1:=⟨m-1,by omega⟩
    -- one of F is ready
    have hex:=zef hz;have hmin:∀b i,i<=b->i ∈ F->listed.getD i false=false->∃i,i ∈ F/\listed.getD i false=false/\∀j,j ∈ F->j<i->listed.getD j false=true:=by
     intro b
     induction b with
     | zero=>intro i hi hF hl;exact⟨i,hF,hl,λj _ hj=>by omega⟩
     | succ b ihb =>
      intro i hi hF hl;by_cases h:∃j,j ∈ F/\j<i/\listed.getD j false=false
      ·obtain⟨j,h1,h2,h3⟩:=h;exact ihb j (by omega) h1 h3
      ·refine⟨i,hF,hl,λj h1 h2=>?_⟩;cases h3:listed.getD j false
       ·exact absurd ⟨j,h1,h2,h3⟩ h
       ·rfl
    obtain⟨i0,hi0F,hi0l,hi0m⟩:∃i,i ∈ F/\listed.getD i false=false/\∀j,j ∈ F->j<i->listed.getD j false=true:=by
     obtain⟨i0,h1,h2⟩:=hex;exact hmin i0 i0 (le_refl _) h1 h2
    have hrdy:i0 ∈ Region.ready md ops listed:=by
     obtain⟨_,hlt,_,hd⟩:=k3' i0 hi0F;exact mem_ready.2 ⟨by rw[zaI (by omega)];exact hi0l,ops[i0],by simp[hlt],λe he hb=>by
      obtain⟨h1,h2⟩:=hd e.on (mem_deps.2 ⟨ops[i0],by simp[hlt],e,he,hb,rfl⟩);by_cases hFe:e.on ∈ F
      ·exact hi0m _ hFe h1
      ·rw[hout _ hFe];exact h2.resolve_right hFe⟩
    have hne:Region.ready md ops listed≠[]:=by
     intro h;rw[h]at hrdy;cases hrdy
    -- what is put down once an operation of F is carried out
    have next:∀i,i ∈ F->listed.getD i false=false->(∀j,j ∈ depsOf md ops i->listed.getD j false=true)->∀v w',Bl w w'->G i v w'->S w'/\wpAnyH P md ops Q S (m'+fuel) (listed.setIfInBounds i true) ((fill a0 D u).put (zcW ops i) v) w':=λi hF hlf hdl v w' hb' hgi=>by
     have hlt:i<ops.size:=(k3' i hF).2.1;refine⟨hS w w' hw hb',?_⟩;rw[hput i hF];have hlt':=zfP (by omega) hlf k0;simp only[hF,if_true]at hlt';have hset:∀j,j≠i->(listed.setIfInBounds i true).getD j false=listed.getD j false:=λj hj=>getD_set_ne false (Ne.symm hj)
     have hseti:(listed.setIfInBounds i true).getD i false=true:=by simp[Array.getD,show i<listed.size by omega]
     refine ih (listed.setIfInBounds i true) (zfw u i v) w' (by omega) (by simpa using hsz) (λj hj=>?_) (λj k hj hk=>?_) (hS w w' hw hb') (hb.trans (hb'.mono hb.size)) (λj hj hl=>?_) m' (by omega)
     ·rw[hset j (λe=>hj (e ▸ hF)),hout j hj]
     ·by_cases hji:j=i
      ·subst hji;exact getD_set_true (hdl k hk)
      ·rw[hset j hji]at hj
       exact getD_set_true (hcl j k hj hk)
     ·by_cases hji:j=i
      ·subst hji;rw[zgV];exact hgi
      ·rw[zeM hji];rw[hset j hji]at hl
       exact hG j (u j) w w' (hg j hj hl) hb'
    by_cases hT0:i0 ∈ T
    ·-- taken at once
     obtain⟨o,ho,hv⟩:=htake i0 hT0;have hdl0:∀j,j ∈ depsOf md ops i0->listed.getD j false=true:=λj hj=>by
      obtain⟨_,o',ho',hdep⟩:=mem_ready.1 hrdy;obtain⟨o2,ho2,e,he,hb',rfl⟩:=mem_deps.1 hj;have:o2=o':=Option.some.inj (ho2.symm.trans ho');subst this;exact hdep e he hb'
     obtain⟨v,hy,hgv⟩:=hv u w hw (λj hj hd=>hg j (List.contains_iff_mem.1 hj) (hdl0 j (List.contains_iff_mem.1 hd)));have hfr:Region.free md ops listed i0=true:=zlx (List.all_eq_true.1 k6 i0 hT0) (λj hj=>by
      by_cases hjl:j<ops.size
      ·have h1:(listed0.getD j false || (zeq md ops ops.size [i0]).contains j)=true:=by
        simpa[zsk,Array.getD,hjl]using hj
       rw[zaI (by omega)];rcases Bool.or_eq_true _ _ ▸ h1 with h1|h1
       ·by_cases hjF:j ∈ F
        ·have h2:=(k3' j hjF).1;rw[zaI (by omega),h1]at h2;cases h2
        ·rw[hout j hjF];exact h1
       ·exact zbn hcl ops.size [i0] (λk hk l hl=>by simp at hk;subst hk;exact hdl0 l hl) j (List.contains_iff_mem.1 h1)
      ·simp[Array.getD,show ¬j<listed.size by omega])
     have hnx:=(next i0 hi0F hi0l hdl0 v w (Below.refl _ _) hgv).2;have hdst:o.dst=zcW ops i0:=by simp[zcW,ho]
     rw[<-hdst]at hnx
     rw[show m'+1+fuel=(m'+fuel)+1 by omega];obtain⟨d,hd⟩:∃d,o.dst=some d:=by
      have hi0D:=hi0F;rw[<-hf]at hi0D
      obtain⟨⟨i',d⟩,hp,he⟩:=List.mem_map.1 hi0D;have h4:=List.all_eq_true.1 h3 _ hp;exact⟨d,by rw[hdst,<-he];exact beq_iff_eq.1 h4⟩
     exact wpAnyH_take ho hns hfr (by simpa using hrdy) (λc a w h=>hQ0 c a d v w (by rw[<-hd];exact h)) hy hw hnx
    rw[show m'+1+fuel=(m'+fuel)+1 by omega];refine⟨λh=>absurd h hne,λi hi=>?_⟩;obtain⟨hun,o,ho,hdep⟩:=mem_ready.1 hi;have hlt:i<ops.size:=(Array.getElem?_eq_some_iff.1 ho).1;have hlf:listed.getD i false=false:=by rw[<-zaI (by omega)];exact hun
    have hdl:∀j,j ∈ depsOf md ops i->listed.getD j false=true:=λj hj=>by
     obtain⟨o',ho',e,he,hb',rfl⟩:=mem_deps.1 hj;have:o'=o:=Option.some.inj (ho'.symm.trans ho);subst this;exact hdep e he hb'
    by_cases hF:i ∈ F
    case neg =>
     exfalso;have h1:=hout i hF;rw[hlf]at h1
     rcases k4' i hlt with h|h|h
     ·rw[h]at h1;cases h1
     ·exact hF h
     ·rcases(k5' i h).2 with⟨j,hj,hjs⟩|hanc
      ·have h2:=hdl j hj;have h3:=k5' j hjs;by_cases hjF:j ∈ F
       ·exact(k3' j hjF).2.2.1 hjs
       ·rw[hout j hjF]at h2
        have h4:=h3.1;have hjl:j<listed0.size:=by
         rcases Nat.lt_or_ge j listed0.size with h|h
         ·exact h
         ·simp[Array.getElem?_eq_none h]at h2
        rw[zaI hjl,h2]at h4;cases h4
      ·have hE0:i0 ∈ E:=(inE i0 hi0F).resolve_right hT0;have:=zbn hcl ops.size [i] (λk hk l hl=>by simp at hk;subst hk;exact hdl l hl) i0 (hanc i0 hE0);rw[hi0l]at this;cases this
    have hdst:o.dst=zcW ops i:=by simp[zcW,ho]
    rcases inE i hF with hE|hTi
    ·obtain⟨o',ho',hst⟩:=hstep i hE;obtain rfl:o'=o:=Option.some.inj (ho'.symm.trans ho);refine zjB ho ?_;refine hst u w hw hb (λj hj hd=>hg j (List.contains_iff_mem.1 hj) (hdl j (List.contains_iff_mem.1 hd))) _ (λv w' hb' hgi=>?_);rw[hdst];exact next i hF hlf hdl v w' hb' hgi
    ·obtain⟨o',ho',hv⟩:=htake i hTi;obtain rfl:o'=o:=Option.some.inj (ho'.symm.trans ho);obtain⟨v,hy,hgv⟩:=hv u w hw (λj hj hd=>hg j (List.contains_iff_mem.1 hj) (hdl j (List.contains_iff_mem.1 hd)));refine hy.wpOp ho hw ?_;rw[hdst];exact next i hF hlf hdl v w (Below.refl _ _) hgv
 have hleft:left listed0 F=F.length:=zfQ (λi hi=>by
  have h1:=(k3' i hi).1;have h2:=(k3' i hi).2.1;rw[zaI (by omega)]at h1
  exact h1)
 have:=main (left listed0 F) listed0 (zlr a0 D) w0 (le_refl _) k1 (λ_ _=>rfl) k2' hS0 (Below.refl _ _) (λj hj hl=>by
  have h1:=(k3' j hj).1;have h2:=(k3' j hj).2.1;rw[zaI (by omega),hl]at h1;cases h1) F.length hleft.symm
 rw[h0]at this
 exact this
def ShK (K k:Nat) (X:Nat->Nm):Prop:=k<=300/\∀j,j<k->(X j).n<=K/\(X j).m<=K
theorem zfg {K k X} (h:lgL K k X=true):ShK K k X:=by
 simp only[lgL,Bool.and_eq_true,decide_eq_true_eq]at h;exact⟨h.1,λj hj=>zhm h.2 j (by omega) (by omega)⟩
def TmK (K:Nat) (w:World) (M M':Mo):Prop:=Sm M M'/\MoW w M'/\MoX w M'/\(M'.ck<=64->M'.rk<=64->MoK K M')
theorem TmK.q_ {K w w' M M'} (h:TmK K w M M') (hb:Bl w w'):TmK K w' M M':=⟨h.1,h.2.1.q_ hb,h.2.2.1.q_ hb,h.2.2.2⟩
theorem TmK.valL {K w M M'} (L:Nat) (hL:K<=L) (hK:K<=100) (h:TmK K w M M') (hN:MoN M) (he:zar M=0):MoV L w M' (nq M.off) (zag M) (zam M)/\zbC (zag M) (zam M)=true:=by
 obtain⟨s,hw,hx,hk⟩:=h;have he':zar M'=0:=s.chk.trans he;obtain⟨l1,l2,_⟩:=zdQ he';have k6:=hk l1 l2;have:=(hx.mor (s.mon hN) k6 (by omega) l1 l2).movC (k6.up hL) he';rw[s.csOf,s.rsOf,s.off.nq]at this
 exact this
theorem Tx.valK {K w ao k X X'} (h:Tx w ao k X X') (hs:ShK K k X) (ha:afB k X=true):Rf K w ao (zN k X):=by
 rw[<-zpe h.2];refine h.1.rfC ?_ (λj hj=>by rw[(h.2 j hj).2.1,(h.2 j hj).2.2.2.1];exact hs.2 j hj);exact(zod (λj _ b=>h.2 j (by omega))).trans ha
theorem zlb {K w M} (hX:MoX w M) (hN:MoN M) (hk:M.ck<=64->M.rk<=64->MoK K M) (hK:K<=100):Calls prog 9 #[M.val] w λe w'=>∃(vm:Value) (M':Mo),e=returned vm/\Bl w w'/\Hid (vm=M'.val/\TmK K w' M M') :=
 (zqA (K:=K) hX hN hk (by omega)).mono λe w' ⟨M',h1,h2,h3,h4,h5,h6⟩=>⟨M'.val,M',h1,h2,zk ⟨rfl,h3,h4,h5,h6⟩⟩
theorem zcb {K w ao k cap X} (h:Rl w ao k X) (hs:ShK K k X) (hK:K<=100):Calls prog 31 #[slice ao k cap] w λe w'=>∃(a:Option Addr) (c:Nat) (X':Nat->Nm),e=returned (slice a k c)/\Bl w w'/\(k<=c/\c<=9223372036854775807)/\Hid (Tx w' a k X X') :=
 (zoJ h (by have:=hs.1;omega) (λj hj=>by have:=hs.2 j hj;omega)).mono λe w' ⟨a,c,X',h1,h2,h3,h4⟩=>⟨a,c,X',h1,h2,h3,zk h4.out⟩
def GTw (K:Nat) (N:Mo) (v:Value) (w:World):Prop:=∃M':Mo,v=M'.val/\TmK K w N M'
def GBx (base:Nat) (zs:List Value) (ty:TypeId) (v:Value) (w:World):Prop:=∃bx,v=.pointer (some ⟨bx,0,none⟩)/\Bk w bx zs ty/\base<=bx
theorem GTw.q_ {K N v w w'} (h:GTw K N v w) (hb:Bl w w'):GTw K N v w':=by obtain⟨M',e,h⟩:=h;exact⟨M',e,h.q_ hb⟩
theorem GBx.q_ {base zs ty v w w'} (h:GBx base zs ty v w) (hb:Bl w w'):GBx base zs ty v w':=by obtain⟨b,e,h,l⟩:=h;exact⟨b,e,h.q_ hb,l⟩
structure Fr (F:Nat->Prop) (w w':World):Prop where
 os:w'.os=w.os
 tape:w'.tape=w.tape
 output:w'.output=w.output
 size:w.heap.size<=w'.heap.size
 block:∀k,k<w.heap.size->¬F k->w'.heap[k]?=w.heap[k]?
 kp:∀a k f,Rd .u64 w a k f->Rd .u64 w' a k f
theorem Fr.of {F w w'} (h:Bl w w'):Fr F w w':=⟨h.os,h.tape,h.output,h.size,λk hk _=>h.block k hk,λ_ _ _ r=>r.kp (Kp.of_below h)⟩
theorem Fr.refl (F:Nat->Prop) (w:World):Fr F w w:=⟨rfl,rfl,rfl,le_refl _,λ_ _ _=>rfl,λ_ _ _ r=>r⟩
theorem Fr.trans {F w w1 w2} (h:Fr F w w1) (k:Fr F w1 w2):Fr F w w2 :=
 ⟨k.os.trans h.os,k.tape.trans h.tape,k.output.trans h.output,le_trans h.size k.size,λj hj hn=>(k.block j (Nat.lt_of_lt_of_le hj h.size) hn).trans (h.block j hj hn),λ_ _ _ r=>k.kp _ _ _ (h.kp _ _ _ r)⟩
theorem Fr.rn {F w w' L s x n c f y m d g q} (h:Fr F w w') (r:Rn L w s x n c f y m d g q):Rn L w' s x n c f y m d g q :=
 ⟨⟨h.kp _ _ _ r.num.rd,r.num.lm,r.num.wf,r.num.cap,r.num.nil,r.num.val⟩,⟨h.kp _ _ _ r.den.rd,r.den.lm,r.den.wf,r.den.cap,r.den.nil,r.den.val⟩,r.ln,r.ld⟩
theorem Fr.imp {F G w w'} (h:Fr F w w') (hi:∀k,F k->G k):Fr G w w':=⟨h.os,h.tape,h.output,h.size,λk hk hn=>h.block k hk (λhf=>hn (hi k hf)),h.kp⟩
theorem Fr.q_ {F w0 w w'} (h0:Bl w0 w) (h:Fr F w w') (hF:∀k,F k->w0.heap.size<=k):Bl w0 w' :=
 ⟨h.os.trans h0.os,h.tape.trans h0.tape,h.output.trans h0.output,le_trans h0.size h.size,λk hk=>(h.block k (Nat.lt_of_lt_of_le hk h0.size) (λhf=>by have:=hF k hf;omega)).trans (h0.block k hk)⟩
theorem Fr.bk {F w w' B vs t} (h:Fr F w w') (hb:Bk w B vs t) (hn:¬F B):Bk w' B vs t:=(h.block B hb.lt hn).trans hb
theorem RowV.tfv {L w r v} (h:RowV L w r v):Tf L w r.ta v.ts:=λj a q e=>by
 obtain⟨h1,h2,b,o,h3,h4⟩:=h.tl j a q e;exact⟨b,o,r.T j,h3,by rw[h1]at h4;exact h4,h2⟩
theorem Fr.cell {F w w' b o v} (h:Fr F w w') (hn:¬F b) (hc:w.cell? ⟨b,o,none⟩=some v):w'.cell? ⟨b,o,none⟩=some v:=(cell?_of_block (a:=⟨b,o,none⟩) (h.block b (World.block_lt_of_cell? w _ hc) hn)).trans hc
theorem Tf.fr {F L w w' ao v} (h:Tf L w ao v) (hf:Fr F w w') (hn:∀b o,ao=some ⟨b,o,none⟩->¬F b):Tf L w' ao v:=λj a q e=>by
 obtain⟨b,o,t,h1,h2,h3⟩:=h j a q e;have hb:=hn b o h1;exact⟨b,o,t,h1,⟨hf.cell hb h2.x0,hf.cell hb h2.x1,hf.cell hb h2.x2,hf.cell hb h2.x3⟩,hf.rn h3⟩
structure Bd where
 by':Nm
 at':Ex
 up:Bool
 ta:Option Addr
 tk:Nat
 tc:Nat
def Bd.val (B:Bd):Value:=agg #[.bool B.by'.s,slice B.by'.x B.by'.n B.by'.c,slice B.by'.y B.by'.m B.by'.d,.int .i64 B.at'.i,.bool B.at'.v.s,slice B.at'.v.x B.at'.v.n B.at'.v.c,slice B.at'.v.y B.at'.v.m B.at'.v.d,.bool B.up,slice B.ta B.tk B.tc]
structure BV where
 q:Rat
 i:Int
 a:Rat
 up:Bool
 ts:List (Int × Rat)
structure BdV (L:Nat) (w:World) (B:Bd) (b:BV):Prop where
 q:NmV L w B.by' b.q
 i:B.at'.i=b.i
 a:NmV L w B.at'.v b.a
 up:B.up=b.up
 tk:b.ts.length=B.tk
 ts:Tf L w B.ta b.ts
theorem BdV.q_ {L w w' B b} (h:BdV L w B b) (hb:Bl w w'):BdV L w' B b:=⟨h.q.q_ hb,h.i,h.a.q_ hb,h.up,h.tk,h.ts.q_ hb⟩
def bdR:List RV->List Rat->List Rat->List BV
 | v :: rs,p :: ps,q :: qs=>⟨p,v.li,v.lq,false,v.ts⟩ :: ⟨q,v.hi,v.hq,true,v.ts⟩ :: bdR rs ps qs
 | _,_,_=>[]
def bdC:Int->List CV->List Rat->List Rat->List BV
 | j,v :: cs,p :: ps,q :: qs=>⟨p,v.li,v.lq,false,[(j,1)]⟩ :: ⟨q,v.hi,v.hq,true,[(j,1)]⟩ :: bdC (j+1) cs ps qs
 | _,_,_,_=>[]
theorem zfq:∀(rs:List RV) (ps qs:List Rat),(bdR rs ps qs).length<=2*rs.length
 | [],_,_=>by simp[bdR]
 | _ :: _,[],_=>by simp[bdR]
 | _ :: _,_ :: _,[]=>by simp[bdR]
 | _ :: rs,_ :: ps,_ :: qs=>by have:=zfq rs ps qs;simp[bdR];omega
theorem zhL:∀(j:Int) (cs:List CV) (ps qs:List Rat),(bdC j cs ps qs).length<=2*cs.length
 | _,[],_,_=>by simp[bdC]
 | _,_ :: _,[],_=>by simp[bdC]
 | _,_ :: _,_ :: _,[]=>by simp[bdC]
 | j,_ :: cs,_ :: ps,_ :: qs=>by have:=zhL (j+1) cs ps qs;simp[bdC];omega
theorem zcD:∀(i:Nat) (rs:List RV) (ps qs:List Rat) (v:RV) (p q:Rat),rs[i]?=some v->ps[i]?=some p->qs[i]?=some q ->
  bdR (rs.take (i+1)) (ps.take (i+1)) (qs.take (i+1))=bdR (rs.take i) (ps.take i) (qs.take i)++[⟨p,v.li,v.lq,false,v.ts⟩]++[⟨q,v.hi,v.hq,true,v.ts⟩]
 | i,[],_,_,_,_,_,h,_,_=>by simp at h
 | i,_ :: _,[],_,_,_,_,_,h,_=>by simp at h
 | i,_ :: _,_ :: _,[],_,_,_,_,_,h=>by simp at h
 | 0,r :: rs,p' :: ps,q' :: qs,v,p,q,h1,h2,h3=>by
  simp only[List.getElem?_cons_zero,Option.some.injEq]at h1 h2 h3;subst h1;subst h2;subst h3;simp[bdR]
 | i+1,r :: rs,p' :: ps,q' :: qs,v,p,q,h1,h2,h3=>by
  simp only[List.getElem?_cons_succ]at h1 h2 h3;have:=zcD i rs ps qs v p q h1 h2 h3;simp only[List.take_succ_cons,bdR,this,List.cons_append]
theorem zdR:∀(i:Nat) (j:Int) (cs:List CV) (ps qs:List Rat) (v:CV) (p q:Rat),cs[i]?=some v->ps[i]?=some p->qs[i]?=some q ->
  bdC j (cs.take (i+1)) (ps.take (i+1)) (qs.take (i+1))=bdC j (cs.take i) (ps.take i) (qs.take i)++[⟨p,v.li,v.lq,false,[(j+i,1)]⟩]++[⟨q,v.hi,v.hq,true,[(j+i,1)]⟩]
 | i,_,[],_,_,_,_,_,h,_,_=>by simp at h
 | i,_,_ :: _,[],_,_,_,_,_,h,_=>by simp at h
 | i,_,_ :: _,_ :: _,[],_,_,_,_,_,h=>by simp at h
 | 0,j,r :: cs,p' :: ps,q' :: qs,v,p,q,h1,h2,h3=>by
  simp only[List.getElem?_cons_zero,Option.some.injEq]at h1 h2 h3;subst h1;subst h2;subst h3;simp[bdC]
 | i+1,j,r :: cs,p' :: ps,q' :: qs,v,p,q,h1,h2,h3=>by
  simp only[List.getElem?_cons_succ]at h1 h2 h3;have:=zdR i (j+1) cs ps qs v p q h1 h2 h3;simp only[List.take_succ_cons,bdC,this,List.cons_append];rw[show j+1+(i:Int)=j+((i+1:Nat):Int) by omega]
theorem Tf.nf {F:Nat->Prop} {L w ao v} (h:Tf L w ao v) (hF:∀k,F k->w.heap.size<=k):v≠[]->∀b o,ao=some ⟨b,o,none⟩->¬F b:=λhne b o e hf=>by
 match v,h,hne with
 | (z,q) :: r,h,_ =>
  obtain⟨b2,o2,t,h1,h2,h3⟩:=h 0 z q rfl;rw[e]at h1
  cases h1
  have h4:=World.block_lt_of_cell? w _ h2.x0;have h5:=hF _ hf;have h6:b<w.heap.size:=h4;omega
theorem zmk {n i} (h:i<n):tsB n (-1) [((i:Int),(1:Rat))]=true:=by
 simp only[tsB,Bool.and_eq_true,decide_eq_true_eq];exact⟨by omega,by omega,by decide,trivial⟩
theorem zdX {w0 w} {L nf:Nat} {M off cs rs F} {I:List BV->World->Prop} {caps a1 a2 a3 a4 k1 k2 k3 k4 e1 e2 e3 e4 l1 l2 l3 l4} (h0:Bl w0 w) (hF:∀k,F k->w0.heap.size<=k/\k<w.heap.size) (hM:MoV L w0 M off cs rs) (hP:MvP cs rs) (hT:∀v ∈ rs,tsB cs.length (-1) v.ts=true) (hx1:Rf L w0 a1 l1) (hx2:Rf L w0 a2 l2) (hx3:Rf L w0 a3 l3) (hx4:Rf L w0 a4 l4) (hl:l1.length=k1/\l2.length=k2/\l3.length=k3/\l4.length=k4) (hk:k1=rs.length/\k2=rs.length/\k3=cs.length/\k4=cs.length) (hL1:4<=L) (hcf:∀(a:Array Value) (W:World),(callFunc nf a).run prog W=.ok (.enter nf a) W) (hI:∀l W W',I l W->Bl W W'->I l W') (hs:∀l b (B:Bd) W,l.length<256->tsB cs.length (-1) b.ts=true->(b.ts≠[]->∀b' o',B.ta=some ⟨b',o',none⟩->¬F b')->Bl w0 W->w.heap.size<=W.heap.size->I l W->BdV L W B b->Calls prog nf (#[B.val]++caps) W λe W'=>e=returned (.tuple #[])/\Fr F W W'/\I (l++[b]) W') (hi:I [] w) :
  Calls prog 39 #[M.val,agg #[slice a1 k1 e1,slice a2 k2 e2,slice a3 k3 e3,slice a4 k4 e4],.func (.func nf) #[] caps] w λe w'=>e=returned (.tuple #[])/\Fr F w w'/\I (bdR rs l1 l2++bdC 0 cs l3 l4) w':=by
 obtain⟨q1,q2,q3,q4⟩:=hk;subst q1;subst q2;subst q3;subst q4
 have hcl:=hP.cl;have hrl:=hP.rl;obtain⟨⟨s,x,n,c,f,y,m,d,g⟩,ca,ck,cc,C,ra,rk,rc,R⟩:=M;have hck:ck=cs.length:=hM.ck;have hrk:rk=rs.length:=hM.rk;subst hck;subst hrk
 have HC:Hid (∀j v,cs[j]?=some v->(∃b o,ca=some ⟨b,o,none⟩/\Cs w0 b (o+j*12) (C j).vs)/\ColV L w0 (C j) v):=hM.cls;have HR:Hid (∀j v,rs[j]?=some v->(∃b o,ra=some ⟨b,o,none⟩/\Cs w0 b (o+j*10) (R j).vs)/\RowV L w0 (R j) v):=hM.rls;have HT0:=zk hT;have HX1:=zk hx1;have HX2:=zk hx2;have HX3:=zk hx3;have HX4:=zk hx4;have HL:=zk hl;have HI:=zk hI;have HS:=zk hs;have HF:=zk hF
 have HI0:=zk hi;have HB0:=zk h0
 clear hM hP hT hx1 hx2 hx3 hx4 hl hI hs hF hi h0;show Calls prog 39 #[agg #[.bool s,slice x n c,slice y m d,slice ca cs.length cc,slice ra rs.length rc],agg #[slice a1 rs.length e1,slice a2 rs.length e2,slice a3 cs.length e3,slice a4 cs.length e4],.func (.func nf) #[] caps] w _;have hb:=zu (zA w (cells #[.bool s,slice x n c,slice y m d,slice ca cs.length cc,slice ra rs.length rc] 28)) (cells #[slice a1 rs.length e1,slice a2 rs.length e2,slice a3 cs.length e3,slice a4 cs.length e4] 31);have BM:=zk ((zH w [.bool s,slice x n c,slice y m d,slice ca cs.length cc,slice ra rs.length rc] 28).q_ (zA _ (cells #[slice a1 rs.length e1,slice a2 rs.length e2,slice a3 cs.length e3,slice a4 cs.length e4] 31)));have BK:=zk (zaV w (cells #[.bool s,slice x n c,slice y m d,slice ca cs.length cc,slice ra rs.length rc] 28) [slice a1 rs.length e1,slice a2 rs.length e2,slice a3 cs.length e3,slice a4 cs.length e4] 31);have r4:=BM.out.cell (j:=4) rfl;go_enter func39,ntmps39;go_wp2_with fail
 clear r4;replace HI0:=zk (HI.out _ _ _ HI0.out hb);have HFr:=zk (Fr.of (F:=F) hb);replace HB0:=zI HB0 hb
 have hsz:=hb.size;clear hb;generalize((w.alloc (cells #[.bool s,slice x n c,slice y m d,slice ca cs.length cc,slice ra rs.length rc] 28)).alloc (cells #[slice a1 rs.length e1,slice a2 rs.length e2,slice a3 cs.length e3,slice a4 cs.length e4] 31))=w2 at *;go_loopw[14] (λt wr=>∃(i:Nat),i<=rs.length/\t=.int .i64 i/\Hid (Fr F w2 wr)/\Hid (I (bdR (rs.take i) (l1.take i) (l2.take i)) wr)) (λt _=>rs.length-(intOf t).toNat)
 case atStart=>exact⟨0,by omega,rfl,Fr.refl _ _,HI0.out⟩
 case round =>
  clear HI0;obtain⟨i,hi,rfl,HG,HJ⟩:=hrel;by_cases hlt:i<rs.length
  ·obtain⟨v,hv⟩:∃v,rs[i]?=some v:=⟨_,getElem?_eq_getElem hlt⟩;obtain⟨p,hp⟩:∃t,l1[i]?=some t:=⟨_,getElem?_eq_getElem (by have:=HL.out.1;omega)⟩;obtain⟨q,hq⟩:∃t,l2[i]?=some t:=⟨_,getElem?_eq_getElem (by have:=HL.out.2.1;omega)⟩;have hbw:=Fr.q_ HB0.out HG.out (λk hf=>(HF.out k hf).1);obtain⟨⟨b,o,hra,hc0⟩,hn0⟩:=HR.out i v hv;subst hra;have hc:=hc0.q_ hbw;obtain⟨b5,o5,⟨s5,x5,n5,c5,f5,y5,m5,d5,g5⟩,ha5,hc5,hr5⟩:=HX1.out i p hp;subst ha5;obtain⟨b6,o6,⟨s6,x6,n6,c6,f6,y6,m6,d6,g6⟩,ha6,hc6,hr6⟩:=HX2.out i q hq;subst ha6;have hb5:=World.block_lt_of_cell? w0 _ hc5.x0;have hb6:=World.block_lt_of_cell? w0 _ hc6.x0
   have HF5:Hid (¬F b5):=λhf=>by have:=(HF.out _ hf).1;have h9:b5<w0.heap.size:=hb5;omega
   have HF6:Hid (¬F b6):=λhf=>by have:=(HF.out _ hf).1;have h9:b6<w0.heap.size:=hb6;omega
   obtain⟨p0,p1,p2⟩:=hc5.q_ hbw;obtain⟨q0,q1,q2⟩:=hc6.q_ hbw;have hvm:=List.mem_of_getElem? hv;have htl:=HT0.out v hvm;have hts:=hn0.tfv;obtain⟨⟨z,⟨i1,⟨s1,x1,n1,c1,f1,y1,m1,d1,g1⟩⟩,⟨i2,⟨s2,x2,n2,c2,f2,y2,m2,d2,g2⟩⟩,ta,tk,tc,tcol,tt⟩,hCi⟩:∃t,R i=t:=⟨_,rfl⟩;rw[hCi]at hc hn0 hts
   replace p0:wr.cell? ⟨b5,o5+i*3,none⟩=some (.bool s5):=p0;replace p1:wr.cell? ⟨b5,o5+i*3+1,none⟩=some (slice x5 n5 c5):=p1;replace p2:wr.cell? ⟨b5,o5+i*3+2,none⟩=some (slice y5 m5 d5):=p2;replace q0:wr.cell? ⟨b6,o6+i*3,none⟩=some (.bool s6):=q0;replace q1:wr.cell? ⟨b6,o6+i*3+1,none⟩=some (slice x6 n6 c6):=q1;replace q2:wr.cell? ⟨b6,o6+i*3+2,none⟩=some (slice y6 m6 d6):=q2;obtain⟨t0,t1,t2,t3,t4,t5,t6,t7,t8,t9⟩:=hc.lr;have V1:Hid (BdV L w0 ⟨⟨s5,x5,n5,c5,f5,y5,m5,d5,g5⟩,⟨i1,⟨s1,x1,n1,c1,f1,y1,m1,d1,g1⟩⟩,false,ta,tk,tc⟩ ⟨p,v.li,v.lq,false,v.ts⟩):=⟨hr5,hn0.li,hn0.lq,rfl,hn0.tk.symm,hts⟩;have V2:Hid (BdV L w0 ⟨⟨s6,x6,n6,c6,f6,y6,m6,d6,g6⟩,⟨i2,⟨s2,x2,n2,c2,f2,y2,m2,d2,g2⟩⟩,true,ta,tk,tc⟩ ⟨q,v.hi,v.hq,true,v.ts⟩):=⟨hr6,hn0.hi,hn0.hq,rfl,hn0.tk.symm,hts⟩;have i1':((i:Nat):Int)<((rs.length:Nat):Int):=by omega
   have hbt:=zA wr (cells #[.string z,.int .i64 i1,.bool s1,slice x1 n1 c1,slice y1 m1 d1,.int .i64 i2,.bool s2,slice x2 n2 c2,slice y2 m2 d2,slice ta tk tc] 64);have BC:=zH wr [.string z,.int .i64 i1,.bool s1,slice x1 n1 c1,slice y1 m1 d1,.int .i64 i2,.bool s2,slice x2 n2 c2,slice y2 m2 d2,slice ta tk tc] 64;have BK1:=HG.out.bk BK.out (λhf=>by have:=(HF.out _ hf).2;omega);have HLn:=zk (zfq (rs.take i) (l1.take i) (l2.take i));have HBD:=zk (zcD i rs l1 l2 v p q hv hp hq);have HTL:=zk htl;have HNT:=zk (hts.nf (λk hf=>(HF.out k hf).1))
   clear hc5 hc6 hb5 hb6 hc hc0 hn0 hv hp hq hr5 hr6 hvm htl hts hCi;go_upto_region 4 with fail
   clear t0 t1 t2 t3 t4 t5 t6 t7 t8 t9;replace HJ:=zk (HI.out _ _ _ HJ.out hbt);have HBw:=zk (bUp hbw hbt);have HG1:=zk (HG.out.trans (Fr.of hbt));have BK2:=zk (BK1.q_ hbt);have BC2:=zk BC
   have hs5:=le_trans hsz (le_trans HG.out.size hbt.size);replace p0:=kCb hbt p0;replace p1:=kCb hbt p1;replace p2:=kCb hbt p2;replace q0:=kCb hbt q0;replace q1:=kCb hbt q1;replace q2:=kCb hbt q2;have hbr:w2.heap.size<=wr.heap.size:=HG.out.size;have FK:Hid (¬F (w.heap.size+1)):=λhf=>by have:=(HF.out _ hf).2;omega
   have FB:Hid (¬F wr.heap.size):=λhf=>by have:=(HF.out _ hf).2;omega
   clear hbt BC BK1 hbw HG;generalize hbx:wr.heap.size=bx at *;generalize wr.alloc (cells #[.string z,.int .i64 i1,.bool s1,slice x1 n1 c1,slice y1 m1 d1,.int .i64 i2,.bool s2,slice x2 n2 c2,slice y2 m2 d2,slice ta tk tc] 64)=w5 at *;clear hbx;have k0:=BK2.out.cell (j:=0) rfl;obtain⟨-,a1,a2,a3,a4,-,-,-,-,a9⟩:=zlI BC2.out;refine wp_region_held_drew (S:=(λw'=>w'.cell? ⟨w.heap.size+1,0,none⟩=some (slice (some ⟨b5,o5,none⟩) rs.length e1)/\w'.cell? ⟨b5,o5+i*3,none⟩=some (.bool s5)/\w'.cell? ⟨b5,o5+i*3+1,none⟩=some (slice x5 n5 c5)/\w'.cell? ⟨b5,o5+i*3+2,none⟩=some (slice y5 m5 d5)/\w'.cell? ⟨bx,1,none⟩=some (.int .i64 i1)/\w'.cell? ⟨bx,2,none⟩=some (.bool s1)/\w'.cell? ⟨bx,3,none⟩=some (slice x1 n1 c1)/\w'.cell? ⟨bx,4,none⟩=some (slice y1 m1 d1)/\w'.cell? ⟨bx,9,none⟩=some (slice ta tk tc))) (by kernel_rfl) ?_ (λhHeld=>?_)
   ·(refine⟨?_,?_,?_,?_,?_,?_,?_,?_,?_⟩ <;> repeat(with_reducible first|assumption|refine kCd ?_))
   have hbd:=Below.drew (Below.refl w5.heap.size w5);replace HJ:=zk (HI.out _ _ _ HJ.out hbd);have HBd:=zI HBw hbd;have hsd:=le_trans hs5 hbd.size;refine zB 0 ?_;refine zB 1 ?_;refine zB 2 ?_;simp only[zv,Act.put];refine zB 3 ?_;refine zB 4 ?_;refine zB 5 ?_;simp only[zv,Act.put];refine zB 6 ?_;refine zB 7 ?_;refine zB 8 ?_;simp only[zv,Act.put];refine zB 9 ?_;refine zB 10 ?_;simp only[zv,Act.put];refine rdO 11 (λK hK=>?_);go_simp;refine(HS.out _ ⟨p,v.li,v.lq,false,v.ts⟩ ⟨⟨s5,x5,n5,c5,f5,y5,m5,d5,g5⟩,⟨i1,⟨s1,x1,n1,c1,f1,y1,m1,d1,g1⟩⟩,false,ta,tk,tc⟩ _ (by have:=HLn.out;rw[List.length_take]at this;omega) HTL.out HNT.out HBd.out hsd HJ.out (V1.out.q_ HBd.out)).mono ?_;rintro e w6 ⟨rfl,hfr,hj⟩;refine hK.out _ _ ⟨hfr.cell FK.out hHeld.1,hfr.cell HF5.out hHeld.2.1,hfr.cell HF5.out hHeld.2.2.1,hfr.cell HF5.out hHeld.2.2.2.1,hfr.cell FB.out hHeld.2.2.2.2.1,hfr.cell FB.out hHeld.2.2.2.2.2.1,hfr.cell FB.out hHeld.2.2.2.2.2.2.1,hfr.cell FB.out hHeld.2.2.2.2.2.2.2.1,hfr.cell FB.out hHeld.2.2.2.2.2.2.2.2⟩ (λhH=>?_);clear hK K;try simp only[zv,Act.put]
   refine dnO ?_;have HFd:=(Fr.of (F:=F) hbd).trans hfr;replace HG1:=zk (HG1.out.trans HFd);replace HBw:=zk (Fr.q_ HBd.out hfr (λk hf=>(HF.out k hf).1));replace BK2:=zk (HFd.bk BK2.out FK.out);replace BC2:=zk (HFd.bk BC2.out FB.out)
   replace hs5:=le_trans hsd hfr.size;replace HJ:=zk hj;replace q0:=hfr.cell HF6.out (kCb hbd q0);replace q1:=hfr.cell HF6.out (kCb hbd q1);replace q2:=hfr.cell HF6.out (kCb hbd q2)
   clear hHeld hH hfr hj hbd hsd HBd HFd k0 a1 a2 a3 a4 a9 p0 p1 p2;go_upto_region 5 with fail
   have k1:=BK2.out.cell (j:=1) rfl;obtain⟨-,-,-,-,-,a5,a6,a7,a8,a9⟩:=zlI BC2.out;refine wp_region_held_drew (S:=(λw'=>w'.cell? ⟨w.heap.size+1,1,none⟩=some (slice (some ⟨b6,o6,none⟩) rs.length e2)/\w'.cell? ⟨b6,o6+i*3,none⟩=some (.bool s6)/\w'.cell? ⟨b6,o6+i*3+1,none⟩=some (slice x6 n6 c6)/\w'.cell? ⟨b6,o6+i*3+2,none⟩=some (slice y6 m6 d6)/\w'.cell? ⟨bx,5,none⟩=some (.int .i64 i2)/\w'.cell? ⟨bx,6,none⟩=some (.bool s2)/\w'.cell? ⟨bx,7,none⟩=some (slice x2 n2 c2)/\w'.cell? ⟨bx,8,none⟩=some (slice y2 m2 d2)/\w'.cell? ⟨bx,9,none⟩=some (slice ta tk tc))) (by kernel_rfl) ?_ (λhHeld=>?_)
   ·(refine⟨?_,?_,?_,?_,?_,?_,?_,?_,?_⟩ <;> repeat(with_reducible first|assumption|refine kCd ?_))
   have hbd:=Below.drew (Below.refl w6.heap.size w6);replace HJ:=zk (HI.out _ _ _ HJ.out hbd);have HBd:=zI HBw hbd;have hsd:=le_trans hs5 hbd.size;refine zB 0 ?_;refine zB 1 ?_;refine zB 2 ?_;simp only[zv,Act.put];refine zB 3 ?_;refine zB 4 ?_;refine zB 5 ?_;simp only[zv,Act.put];refine zB 6 ?_;refine zB 7 ?_;refine zB 8 ?_;simp only[zv,Act.put];refine zB 9 ?_;refine zB 10 ?_;simp only[zv,Act.put];refine rdO 11 (λK hK=>?_);go_simp;refine(HS.out _ ⟨q,v.hi,v.hq,true,v.ts⟩ ⟨⟨s6,x6,n6,c6,f6,y6,m6,d6,g6⟩,⟨i2,⟨s2,x2,n2,c2,f2,y2,m2,d2,g2⟩⟩,true,ta,tk,tc⟩ _ (by have:=HLn.out;rw[List.length_take]at this;rw[List.length_append];simp only[List.length_cons,List.length_nil];omega) HTL.out HNT.out HBd.out hsd HJ.out (V2.out.q_ HBd.out)).mono ?_;rintro e w7 ⟨rfl,hfr,hj⟩;refine hK.out _ _ ⟨hfr.cell FK.out hHeld.1,hfr.cell HF6.out hHeld.2.1,hfr.cell HF6.out hHeld.2.2.1,hfr.cell HF6.out hHeld.2.2.2.1,hfr.cell FB.out hHeld.2.2.2.2.1,hfr.cell FB.out hHeld.2.2.2.2.2.1,hfr.cell FB.out hHeld.2.2.2.2.2.2.1,hfr.cell FB.out hHeld.2.2.2.2.2.2.2.1,hfr.cell FB.out hHeld.2.2.2.2.2.2.2.2⟩ (λhH=>?_);clear hK K;try simp only[zv,Act.put]
   refine dnO ?_;replace HG1:=zk (HG1.out.trans ((Fr.of (F:=F) hbd).trans hfr));have HJ2:Hid (I (bdR (rs.take (i+1)) (l1.take (i+1)) (l2.take (i+1))) w7):=by
    show I _ _;rw[HBD.out];exact hj
   clear hHeld hH hfr hj hbd hsd HBd HBw BK2 BC2 HJ k1 a5 a6 a7 a8 a9 q0 q1 q2 V1 V2 HBD;go_wp2;go_roundw
   case rel=>exact⟨i+1,by omega,by go_num,HG1.out,HJ2.out⟩
   case measure=>simp[intOf];omega
  ·have e0:i=rs.length:=by omega
   have i4':¬(((i:Nat):Int)<((rs.length:Nat):Int)):=by omega
   have HJ0:Hid (I (bdR rs l1 l2) wr):=by
    show I _ _;have:=HJ.out;rw[List.take_of_length_le (by omega),List.take_of_length_le (by have:=HL.out.1;omega),List.take_of_length_le (by have:=HL.out.2.1;omega)]at this;exact this
   have BM1:=HG.out.bk BM.out (λhf=>by have:=(HF.out _ hf).2;omega);have r3:=BM1.cell (j:=3) rfl;have HG0:=zk HG.out;clear e0 HJ HG BM1;go_wp2_with fail
   clear r3 i4' hi;have hs3:=le_trans hsz HG0.out.size;generalize wr=w3 at *;go_loopw[47] (λt wr=>∃(i:Nat),i<=cs.length/\t=.int .i64 i/\Hid (Fr F w3 wr)/\Hid (I (bdR rs l1 l2++bdC 0 (cs.take i) (l3.take i) (l4.take i)) wr)) (λt _=>cs.length-(intOf t).toNat)
   case atStart=>exact⟨0,by omega,rfl,Fr.refl _ _,by show I _ _;rw[show bdR rs l1 l2++bdC 0 (cs.take 0) (l3.take 0) (l4.take 0)=bdR rs l1 l2 by simp[bdC]];exact HJ0.out⟩
   case round =>
    clear HJ0;obtain⟨i,hi,rfl,HG,HJ⟩:=hrel;by_cases hlt:i<cs.length
    ·obtain⟨v,hv⟩:∃v,cs[i]?=some v:=⟨_,getElem?_eq_getElem hlt⟩;obtain⟨p,hp⟩:∃t,l3[i]?=some t:=⟨_,getElem?_eq_getElem (by have:=HL.out.2.2.1;omega)⟩;obtain⟨q,hq⟩:∃t,l4[i]?=some t:=⟨_,getElem?_eq_getElem (by have:=HL.out.2.2.2;omega)⟩;have hG2:=HG0.out.trans HG.out;have hbw:=Fr.q_ HB0.out hG2 (λk hf=>(HF.out k hf).1);obtain⟨⟨b,o,hca,hc0⟩,hn0⟩:=HC.out i v hv;subst hca;have hc:=hc0.q_ hbw;obtain⟨b5,o5,⟨s5,x5,n5,c5,f5,y5,m5,d5,g5⟩,ha5,hc5,hr5⟩:=HX3.out i p hp;subst ha5;obtain⟨b6,o6,⟨s6,x6,n6,c6,f6,y6,m6,d6,g6⟩,ha6,hc6,hr6⟩:=HX4.out i q hq;subst ha6;have hb5:=World.block_lt_of_cell? w0 _ hc5.x0;have hb6:=World.block_lt_of_cell? w0 _ hc6.x0
     have HF5:Hid (¬F b5):=λhf=>by have:=(HF.out _ hf).1;have h9:b5<w0.heap.size:=hb5;omega
     have HF6:Hid (¬F b6):=λhf=>by have:=(HF.out _ hf).1;have h9:b6<w0.heap.size:=hb6;omega
     obtain⟨p0,p1,p2⟩:=hc5.q_ hbw;obtain⟨q0,q1,q2⟩:=hc6.q_ hbw;obtain⟨⟨z,⟨s0,x0,n0,c0,f0,y0,m0,d0,g0⟩,⟨i1,⟨s1,x1,n1,c1,f1,y1,m1,d1,g1⟩⟩,⟨i2,⟨s2,x2,n2,c2,f2,y2,m2,d2,g2⟩⟩⟩,hCi⟩:∃t,C i=t:=⟨_,rfl⟩;rw[hCi]at hc hn0
     replace p0:wr.cell? ⟨b5,o5+i*3,none⟩=some (.bool s5):=p0;replace p1:wr.cell? ⟨b5,o5+i*3+1,none⟩=some (slice x5 n5 c5):=p1;replace p2:wr.cell? ⟨b5,o5+i*3+2,none⟩=some (slice y5 m5 d5):=p2;replace q0:wr.cell? ⟨b6,o6+i*3,none⟩=some (.bool s6):=q0;replace q1:wr.cell? ⟨b6,o6+i*3+1,none⟩=some (slice x6 n6 c6):=q1;replace q2:wr.cell? ⟨b6,o6+i*3+2,none⟩=some (slice y6 m6 d6):=q2;obtain⟨t0,t1,t2,t3,t4,t5,t6,t7,t8,t9,t10,t11⟩:=hc.lc;have i1':((i:Nat):Int)<((cs.length:Nat):Int):=by omega
     have hbt:=zA wr (cells #[.string z,.bool s0,slice x0 n0 c0,slice y0 m0 d0,.int .i64 i1,.bool s1,slice x1 n1 c1,slice y1 m1 d1,.int .i64 i2,.bool s2,slice x2 n2 c2,slice y2 m2 d2] 61);have BC:=zH wr [.string z,.bool s0,slice x0 n0 c0,slice y0 m0 d0,.int .i64 i1,.bool s1,slice x1 n1 c1,slice y1 m1 d1,.int .i64 i2,.bool s2,slice x2 n2 c2,slice y2 m2 d2] 61;have BK1:=hG2.bk BK.out (λhf=>by have:=(HF.out _ hf).2;omega);have HLn:=zk (zhL 0 (cs.take i) (l3.take i) (l4.take i));have HLm:=zk (zfq rs l1 l2)
     have HBD:=zk (zdR i 0 cs l3 l4 v p q hv hp hq);have W1:=zk (And.intro hr5 (And.intro hn0.li hn0.lq));have W2:=zk (And.intro hr6 (And.intro hn0.hi hn0.hq))
     clear hc5 hc6 hb5 hb6 hc hc0 hn0 hv hp hq hr5 hr6 hCi;go_wp2_with fail
     clear t0 t1 t2 t3 t4 t5 t6 t7 t8 t9 t10 t11;refine(zfH (z:=1) (by decide) (by decide)).mono ?_;rintro e w4 ⟨s9,x9,n9,c9,f9,y9,m9,d9,g9,rfl,hb4,hr9⟩;have hbn:=zA w4 (cells #[.int .i64 (i:Int),.bool s9,slice x9 n9 c9,slice y9 m9 d9] 66);have hts:Tf L (w4.alloc (cells #[.int .i64 (i:Int),.bool s9,slice x9 n9 c9,slice y9 m9 d9] 66)) (some ⟨w4.heap.size,0,none⟩) [((i:Int),1)]:=zmp (w:=w4) [((i:Int),⟨s9,x9,n9,c9,f9,y9,m9,d9,g9⟩)] _ (λj a q e=>by
      cases j with
      | zero=>simp only[List.getElem?_cons_zero,Option.some.injEq,Prod.mk.injEq]at e;obtain⟨rfl,rfl⟩:=e;exact⟨_,rfl,hr9.mono hL1⟩
      | succ j=>simp at e)
     have BT:=zH w4 [.int .i64 (i:Int),.bool s9,slice x9 n9 c9,slice y9 m9 d9] 66;have hball:=(bUp hbt hb4).trans (hbn.mono (le_trans hbt.size hb4.size));have hb4n:=bUp hb4 hbn;go_upto_region 11 with fail
     replace HJ:=zk (HI.out _ _ _ HJ.out hball);have HBw:=zk (bUp hbw hball);have HG1:=zk (HG.out.trans (Fr.of hball));have BK2:=zk (BK1.q_ hball);have BC2:=zk (BC.q_ hb4n)
     have hs4:=le_trans hs3 HG.out.size;have hs5:=le_trans hs4 hball.size;have hs6:=le_trans hs4 (le_trans hbt.size hb4.size);replace p0:=kCb hball p0;replace p1:=kCb hball p1;replace p2:=kCb hball p2;replace q0:=kCb hball q0;replace q1:=kCb hball q1;replace q2:=kCb hball q2;have FK:Hid (¬F (w.heap.size+1)):=λhf=>by have:=(HF.out _ hf).2;omega
     have FB:Hid (¬F wr.heap.size):=λhf=>by have:=(HF.out _ hf).2;omega
     have FT:Hid (¬F w4.heap.size):=λhf=>by have:=(HF.out _ hf).2;omega
     rw[Int.zero_add]at HBD
     replace hbn:=BT;clear hbt hb4 hbn hb4n hball BT BC BK1 hbw HG hG2 hr9 hs4 hs6;generalize wr.heap.size=bx at *;generalize hNW:(w4.alloc (cells #[.int .i64 (i:Int),.bool s9,slice x9 n9 c9,slice y9 m9 d9] 66))=w5 at *;clear hNW;generalize w4.heap.size=bt at *;have HT:=zk hts;clear hts;have k0:=BK2.out.cell (j:=2) rfl;obtain⟨-,-,-,-,a4,a5,a6,a7⟩:=bk8 BC2.out;refine wp_region_held_drew (S:=(λw'=>w'.cell? ⟨w.heap.size+1,2,none⟩=some (slice (some ⟨b5,o5,none⟩) cs.length e3)/\w'.cell? ⟨b5,o5+i*3,none⟩=some (.bool s5)/\w'.cell? ⟨b5,o5+i*3+1,none⟩=some (slice x5 n5 c5)/\w'.cell? ⟨b5,o5+i*3+2,none⟩=some (slice y5 m5 d5)/\w'.cell? ⟨bx,4,none⟩=some (.int .i64 i1)/\w'.cell? ⟨bx,5,none⟩=some (.bool s1)/\w'.cell? ⟨bx,6,none⟩=some (slice x1 n1 c1)/\w'.cell? ⟨bx,7,none⟩=some (slice y1 m1 d1))) (by kernel_rfl) ?_ (λhHeld=>?_)
     ·(refine⟨?_,?_,?_,?_,?_,?_,?_,?_⟩ <;> repeat(with_reducible first|assumption|refine kCd ?_))
     have hbd:=Below.drew (Below.refl w5.heap.size w5);replace HJ:=zk (HI.out _ _ _ HJ.out hbd);have HBd:=zI HBw hbd;have hsd:=le_trans hs5 hbd.size;refine zB 0 ?_;refine zB 1 ?_;refine zB 2 ?_;simp only[zv,Act.put];refine zB 3 ?_;refine zB 4 ?_;refine zB 5 ?_;simp only[zv,Act.put];refine zB 6 ?_;refine zB 7 ?_;refine zB 8 ?_;simp only[zv,Act.put];refine zB 9 ?_;simp only[zv,Act.put];refine rdO 10 (λK hK=>?_);go_simp;refine(HS.out _ ⟨p,v.li,v.lq,false,[((i:Int),1)]⟩ ⟨⟨s5,x5,n5,c5,f5,y5,m5,d5,g5⟩,⟨i1,⟨s1,x1,n1,c1,f1,y1,m1,d1,g1⟩⟩,false,some ⟨bt,0,none⟩,1,1⟩ _ (by have:=HLn.out;have h9:=HLm.out;rw[List.length_take]at this;rw[List.length_append];omega) (zmk hlt) (λ_ b o e=>by cases e;exact FT.out) HBd.out hsd HJ.out ⟨NmV.q_ W1.out.1 HBd.out,W1.out.2.1,NmV.q_ W1.out.2.2 HBd.out,rfl,rfl,HT.out.q_ hbd⟩).mono ?_;rintro e w6 ⟨rfl,hfr,hj⟩;refine hK.out _ _ ⟨hfr.cell FK.out hHeld.1,hfr.cell HF5.out hHeld.2.1,hfr.cell HF5.out hHeld.2.2.1,hfr.cell HF5.out hHeld.2.2.2.1,hfr.cell FB.out hHeld.2.2.2.2.1,hfr.cell FB.out hHeld.2.2.2.2.2.1,hfr.cell FB.out hHeld.2.2.2.2.2.2.1,hfr.cell FB.out hHeld.2.2.2.2.2.2.2⟩ (λhH=>?_);clear hK K;try simp only[zv,Act.put]
     refine dnO ?_;have HFd:=(Fr.of (F:=F) hbd).trans hfr;replace HG1:=zk (HG1.out.trans HFd);replace HBw:=zk (Fr.q_ HBd.out hfr (λk hf=>(HF.out k hf).1));replace BK2:=zk (HFd.bk BK2.out FK.out);replace BC2:=zk (HFd.bk BC2.out FB.out)
     replace HT:=zk (HT.out.fr HFd (λb o e=>by cases e;exact FT.out));replace hs5:=le_trans hsd hfr.size;replace HJ:=zk hj;replace q0:=hfr.cell HF6.out (kCb hbd q0);replace q1:=hfr.cell HF6.out (kCb hbd q1);replace q2:=hfr.cell HF6.out (kCb hbd q2)
     clear hHeld hH hfr hj hbd hsd HBd HFd k0 a4 a5 a6 a7 p0 p1 p2;go_upto_region 12 with fail
     have k1:=BK2.out.cell (j:=3) rfl;obtain⟨-,-,-,-,-,-,-,-,a8,a9,a10,a11⟩:=znT BC2.out;refine wp_region_held_drew (S:=(λw'=>w'.cell? ⟨w.heap.size+1,3,none⟩=some (slice (some ⟨b6,o6,none⟩) cs.length e4)/\w'.cell? ⟨b6,o6+i*3,none⟩=some (.bool s6)/\w'.cell? ⟨b6,o6+i*3+1,none⟩=some (slice x6 n6 c6)/\w'.cell? ⟨b6,o6+i*3+2,none⟩=some (slice y6 m6 d6)/\w'.cell? ⟨bx,8,none⟩=some (.int .i64 i2)/\w'.cell? ⟨bx,9,none⟩=some (.bool s2)/\w'.cell? ⟨bx,10,none⟩=some (slice x2 n2 c2)/\w'.cell? ⟨bx,11,none⟩=some (slice y2 m2 d2))) (by kernel_rfl) ?_ (λhHeld=>?_)
     ·(refine⟨?_,?_,?_,?_,?_,?_,?_,?_⟩ <;> repeat(with_reducible first|assumption|refine kCd ?_))
     have hbd:=Below.drew (Below.refl w6.heap.size w6);replace HJ:=zk (HI.out _ _ _ HJ.out hbd);have HBd:=zI HBw hbd;have hsd:=le_trans hs5 hbd.size;refine zB 0 ?_;refine zB 1 ?_;refine zB 2 ?_;simp only[zv,Act.put];refine zB 3 ?_;refine zB 4 ?_;refine zB 5 ?_;simp only[zv,Act.put];refine zB 6 ?_;refine zB 7 ?_;refine zB 8 ?_;simp only[zv,Act.put];refine zB 9 ?_;simp only[zv,Act.put];refine rdO 10 (λK hK=>?_);go_simp;refine(HS.out _ ⟨q,v.hi,v.hq,true,[((i:Int),1)]⟩ ⟨⟨s6,x6,n6,c6,f6,y6,m6,d6,g6⟩,⟨i2,⟨s2,x2,n2,c2,f2,y2,m2,d2,g2⟩⟩,true,some ⟨bt,0,none⟩,1,1⟩ _ (by have:=HLn.out;have h9:=HLm.out;rw[List.length_take]at this;rw[List.length_append,List.length_append];simp only[List.length_cons,List.length_nil];omega) (zmk hlt) (λ_ b o e=>by cases e;exact FT.out) HBd.out hsd HJ.out ⟨NmV.q_ W2.out.1 HBd.out,W2.out.2.1,NmV.q_ W2.out.2.2 HBd.out,rfl,rfl,HT.out.q_ hbd⟩).mono ?_;rintro e w7 ⟨rfl,hfr,hj⟩;refine hK.out _ _ ⟨hfr.cell FK.out hHeld.1,hfr.cell HF6.out hHeld.2.1,hfr.cell HF6.out hHeld.2.2.1,hfr.cell HF6.out hHeld.2.2.2.1,hfr.cell FB.out hHeld.2.2.2.2.1,hfr.cell FB.out hHeld.2.2.2.2.2.1,hfr.cell FB.out hHeld.2.2.2.2.2.2.1,hfr.cell FB.out hHeld.2.2.2.2.2.2.2⟩ (λhH=>?_);clear hK K;try simp only[zv,Act.put]
     refine dnO ?_;replace HG1:=zk (HG1.out.trans ((Fr.of (F:=F) hbd).trans hfr));have HJ2:Hid (I (bdR rs l1 l2++bdC 0 (cs.take (i+1)) (l3.take (i+1)) (l4.take (i+1))) w7):=by
      show I _ _;rw[HBD.out,List.append_assoc,<-List.append_assoc,<-List.append_assoc];exact hj
     clear hHeld hH hfr hj hbd hsd HBd HBw BK2 BC2 HJ k1 a8 a9 a10 a11 q0 q1 q2 W1 W2 HBD;go_wp2;go_roundw
     case rel=>exact⟨i+1,by omega,by go_num,HG1.out,HJ2.out⟩
     case measure=>simp[intOf];omega
    ·have e0:i=cs.length:=by omega
     have i5':¬(((i:Nat):Int)<((cs.length:Nat):Int)):=by omega
     have HJ9:Hid (I (bdR rs l1 l2++bdC 0 cs l3 l4) wr):=by
      show I _ _;have:=HJ.out;rw[List.take_of_length_le (by omega),List.take_of_length_le (by have:=HL.out.2.2.1;omega),List.take_of_length_le (by have:=HL.out.2.2.2;omega)]at this;exact this
     have HG9:=zk ((HFr.out.trans HG0.out).trans HG.out);clear HJ HG e0;go_wp2_with fail
     go_end0
     exact⟨rfl,HG9.out,HJ9.out⟩
def infB (b:BV):Bool:=decide (b.i≠0) && decide (b.q≠0)
def negB (b:BV):Bool:=decide (b.q<0)
theorem zei (s:Bool) (x:Option Addr) (n c:Nat) (y:Option Addr) (m d:Nat) (w:World) :
  Calls prog 27 #[agg #[.bool s,slice x n c,slice y m d]] w λe w'=>e=returned (.bool (decide (n=0)))/\Bl w w':=by
 have hd:((n:Int)==0)=decide (n=0):=by
  by_cases h:n=0
  ·subst h;rfl
  ·have:((n:Int)==0)=false:=by simp;omega
   rw[this];simp[h]
 go_enter func27,ntmps27;go_wp2;go_ret;refine⟨?_,zu (Below.refl _ _) _⟩;first
  | rfl
  | (simp[hd];done)
  | (rw[hd])
theorem zhv {W W2 X u v t} (h:Bk W X [.bool u] t) (hb:Bl W W2) :
  Fr (λk=>k=X) W (W2.setCell ⟨X,0,none⟩ (.bool v))/\Bk (W2.setCell ⟨X,0,none⟩ (.bool v)) X [.bool v] t:=by
 have h2:=h.q_ hb;refine⟨⟨hb.os,hb.tape,hb.output,le_trans hb.size (by simp[World.setCell]),λk hk hn=>?_,λ_ _ _ r=>r.kp ((Kp.of_below hb).set (x:=⟨X,0,none⟩) h2 (zpg (λz e=>by cases e)) _)⟩,h2.set 0 _⟩;exact(Below.heap_setCell _ _ _ _ hn).trans (hb.block k hk)
theorem ziD {f l} {b:BV}:(l++[b]).any f=(l.any f || f b):=by simp
theorem zmd {W X L B b l} (hI:Bk W X [.bool (l.any negB)] 4) (hB:BdV L W B b) :
  Calls prog 65 (#[B.val]++#[.pointer (some ⟨X,0,none⟩)]) W λe W'=>e=returned (.tuple #[])/\Fr (λk=>k=X) W W'/\Bk W' X [.bool ((l++[b]).any negB)] 4:=by
 obtain⟨⟨s,x,n,c,f,y,m,d,g⟩,⟨i1,⟨s1,x1,n1,c1,f1,y1,m1,d1,g1⟩⟩,up,ta,tk,tc⟩:=B;have hs:s=decide (b.q<0):=hB.q.sg;rw[ziD,show negB b=s from hs.symm];clear hs hB;generalize l.any negB=u at *;show Calls prog 65 #[agg #[.bool s,slice x n c,slice y m d,.int .i64 i1,.bool s1,slice x1 n1 c1,slice y1 m1 d1,.bool up,slice ta tk tc],.pointer (some ⟨X,0,none⟩)] W _;have hb:=zA W (cells #[.bool s,slice x n c,slice y m d,.int .i64 i1,.bool s1,slice x1 n1 c1,slice y1 m1 d1,.bool up,slice ta tk tc] 80);have h2:=hI.q_ hb;have c0:=h2.cell (j:=0) rfl;have z0:=h2.frozen 0;have HF:=zk (λv=>zhv (v:=v) hI hb);clear hI hb h2;go_enter func65,ntmps65;cases u
 ·go_wp2
  go_end0
  exact⟨rfl,HF.out _⟩
 ·go_wp2
  go_end0
  exact⟨rfl,HF.out _⟩
theorem zqz {W X L B b l} (hI:Bk W X [.bool (l.any infB)] 4) (hB:BdV L W B b) :
  Calls prog 74 (#[B.val]++#[.pointer (some ⟨X,0,none⟩)]) W λe W'=>e=returned (.tuple #[])/\Fr (λk=>k=X) W W'/\Bk W' X [.bool ((l++[b]).any infB)] 4:=by
 obtain⟨⟨s,x,n,c,f,y,m,d,g⟩,⟨i1,⟨s1,x1,n1,c1,f1,y1,m1,d1,g1⟩⟩,up,ta,tk,tc⟩:=B;have hz:b.q=0 ↔ n=0:=hB.q.q_zero;have hi:i1=b.i:=hB.i;have hv:infB b=(decide (i1≠0) && !decide (n=0)):=by rw[infB,hi,show decide (b.q≠0)=!decide (n=0) by rw[decide_not,decide_eq_decide.2 hz]]
 rw[ziD,hv];clear hz hi hv hB;generalize l.any infB=u at *;show Calls prog 74 #[agg #[.bool s,slice x n c,slice y m d,.int .i64 i1,.bool s1,slice x1 n1 c1,slice y1 m1 d1,.bool up,slice ta tk tc],.pointer (some ⟨X,0,none⟩)] W _;have hb:=zA W (cells #[.bool s,slice x n c,slice y m d,.int .i64 i1,.bool s1,slice x1 n1 c1,slice y1 m1 d1,.bool up,slice ta tk tc] 80);have h2:=hI.q_ hb;have c0:=h2.cell (j:=0) rfl;have z0:=h2.frozen 0;have HI:=zk hI;have HB:=zk hb
 have HF:=zk (λv=>zhv (v:=v) hI hb);clear hI hb h2;go_enter func74,ntmps74;cases u
 ·by_cases e1:i1=0
  ·subst e1;rw[show(false || (decide ((0:Int)≠0) && !decide (n=0)))=false by simp];go_wp2
   go_end0
   exact⟨rfl,HF.out _⟩
  ·have e2:(i1 != 0)=true:=by simp[e1]
   rw[show(false || (decide (i1≠0) && !decide (n=0)))=!decide (n=0) by simp[e1]];clear e1;go_wp2_with fail
   refine(zei _ _ _ _ _ _ _ _).mono ?_;rintro e w2 ⟨rfl,hb2⟩;have hb3:=bUp HB.out hb2;have h3:=HI.out.q_ hb3;have c1:=h3.cell (j:=0) rfl;have z1:=h3.frozen 0;have HG:=zk (λv=>zhv (v:=v) HI.out hb3);clear hb2 hb3 h3 c0 z0;go_wp2
   go_end0
   exact⟨rfl,HG.out _⟩
 ·go_wp2
  go_end0
  exact⟨rfl,HF.out _⟩
-- any
theorem zjv {w L M off cs rs a1 a2 a3 a4 k1 k2 k3 k4 e1 e2 e3 e4 l1 l2 l3 l4} (hM:MoV L w M off cs rs) (hP:MvP cs rs) (hT:∀v ∈ rs,tsB cs.length (-1) v.ts=true) (hx1:Rf L w a1 l1) (hx2:Rf L w a2 l2) (hx3:Rf L w a3 l3) (hx4:Rf L w a4 l4) (hl:l1.length=k1/\l2.length=k2/\l3.length=k3/\l4.length=k4) (hk:k1=rs.length/\k2=rs.length/\k3=cs.length/\k4=cs.length) (hL1:4<=L) :
  Calls prog 25 #[M.val,agg #[slice a1 k1 e1,slice a2 k2 e2,slice a3 k3 e3,slice a4 k4 e4]] w λe w'=>e=returned (.bool ((bdR rs l1 l2++bdC 0 cs l3 l4).any negB))/\Bl w w':=by
 have HM:=zk hM;have HP:=zk hP;have HT:=zk hT;have HX1:=zk hx1;have HX2:=zk hx2;have HX3:=zk hx3;have HX4:=zk hx4;have HL:=zk hl;have HK:=zk hk
 clear hM hP hT hx1 hx2 hx3 hx4 hl hk;obtain⟨⟨s,x,n,c,f,y,m,d,g⟩,ca,ck,cc,C,ra,rk,rc,R⟩:=M;have hck:ck=cs.length:=HM.out.ck;have hrk:rk=rs.length:=HM.out.rk;subst hck;subst hrk
 show Calls prog 25 #[agg #[.bool s,slice x n c,slice y m d,slice ca cs.length cc,slice ra rs.length rc],agg #[slice a1 k1 e1,slice a2 k2 e2,slice a3 k3 e3,slice a4 k4 e4]] w _;have hb:=zu (zu (zA w (cells #[.bool s,slice x n c,slice y m d,slice ca cs.length cc,slice ra rs.length rc] 28)) (cells #[slice a1 k1 e1,slice a2 k2 e2,slice a3 k3 e3,slice a4 k4 e4] 31)) (cells #[.bool false] 4);have BX:Bk (((w.alloc (cells #[.bool s,slice x n c,slice y m d,slice ca cs.length cc,slice ra rs.length rc] 28)).alloc (cells #[slice a1 k1 e1,slice a2 k2 e2,slice a3 k3 e3,slice a4 k4 e4] 31)).alloc (cells #[.bool false] 4)) (w.heap.size+1+1) [.bool false] 4:=by
  have:=zH ((w.alloc (cells #[.bool s,slice x n c,slice y m d,slice ca cs.length cc,slice ra rs.length rc] 28)).alloc (cells #[slice a1 k1 e1,slice a2 k2 e2,slice a3 k3 e3,slice a4 k4 e4] 31)) [.bool false] 4;rw[zw,zw]at this;exact this
 go_enter func25,ntmps25;go_wp2_with fail
 generalize((w.alloc (cells #[.bool s,slice x n c,slice y m d,slice ca cs.length cc,slice ra rs.length rc] 28)).alloc (cells #[slice a1 k1 e1,slice a2 k2 e2,slice a3 k3 e3,slice a4 k4 e4] 31)).alloc (cells #[.bool false] 4)=w3 at *;have hX:=BX.lt;refine(zdX (w0:=w) (F:=λk=>k=w.heap.size+1+1) (I:=λl W=>Bk W (w.heap.size+1+1) [.bool (l.any negB)] 4) hb (λk hk=>by subst hk;omega) HM.out HP.out HT.out HX1.out HX2.out HX3.out HX4.out HL.out HK.out hL1 (λ_ _=>rfl) (λl W W' h h2=>h.q_ h2) (λl b B W _ _ _ _ _ h1 h2=>zmd h1 h2) BX).mono ?_;rintro e w4 ⟨rfl,hf,hI⟩;have HW:=zk (Fr.q_ hb hf (λk hk=>by subst hk;omega));have c0:=hI.cell (j:=0) rfl;clear hf hI hb BX hX;go_wp2;go_ret;exact⟨by rw[List.any_append];rfl,HW.out⟩
theorem zoc {w L M off cs rs a1 a2 a3 a4 k1 k2 k3 k4 e1 e2 e3 e4 l1 l2 l3 l4} (hM:MoV L w M off cs rs) (hP:MvP cs rs) (hT:∀v ∈ rs,tsB cs.length (-1) v.ts=true) (hx1:Rf L w a1 l1) (hx2:Rf L w a2 l2) (hx3:Rf L w a3 l3) (hx4:Rf L w a4 l4) (hl:l1.length=k1/\l2.length=k2/\l3.length=k3/\l4.length=k4) (hk:k1=rs.length/\k2=rs.length/\k3=cs.length/\k4=cs.length) (hL1:4<=L) :
  Calls prog 36 #[M.val,agg #[slice a1 k1 e1,slice a2 k2 e2,slice a3 k3 e3,slice a4 k4 e4]] w λe w'=>e=returned (.bool ((bdR rs l1 l2++bdC 0 cs l3 l4).any infB))/\Bl w w':=by
 have HM:=zk hM;have HP:=zk hP;have HT:=zk hT;have HX1:=zk hx1;have HX2:=zk hx2;have HX3:=zk hx3;have HX4:=zk hx4;have HL:=zk hl;have HK:=zk hk
 clear hM hP hT hx1 hx2 hx3 hx4 hl hk;obtain⟨⟨s,x,n,c,f,y,m,d,g⟩,ca,ck,cc,C,ra,rk,rc,R⟩:=M;have hck:ck=cs.length:=HM.out.ck;have hrk:rk=rs.length:=HM.out.rk;subst hck;subst hrk
 show Calls prog 36 #[agg #[.bool s,slice x n c,slice y m d,slice ca cs.length cc,slice ra rs.length rc],agg #[slice a1 k1 e1,slice a2 k2 e2,slice a3 k3 e3,slice a4 k4 e4]] w _;have hb:=zu (zu (zA w (cells #[.bool s,slice x n c,slice y m d,slice ca cs.length cc,slice ra rs.length rc] 28)) (cells #[slice a1 k1 e1,slice a2 k2 e2,slice a3 k3 e3,slice a4 k4 e4] 31)) (cells #[.bool false] 4);have BX:Bk (((w.alloc (cells #[.bool s,slice x n c,slice y m d,slice ca cs.length cc,slice ra rs.length rc] 28)).alloc (cells #[slice a1 k1 e1,slice a2 k2 e2,slice a3 k3 e3,slice a4 k4 e4] 31)).alloc (cells #[.bool false] 4)) (w.heap.size+1+1) [.bool false] 4:=by
  have:=zH ((w.alloc (cells #[.bool s,slice x n c,slice y m d,slice ca cs.length cc,slice ra rs.length rc] 28)).alloc (cells #[slice a1 k1 e1,slice a2 k2 e2,slice a3 k3 e3,slice a4 k4 e4] 31)) [.bool false] 4;rw[zw,zw]at this;exact this
 go_enter func36,ntmps36;go_wp2_with fail
 generalize((w.alloc (cells #[.bool s,slice x n c,slice y m d,slice ca cs.length cc,slice ra rs.length rc] 28)).alloc (cells #[slice a1 k1 e1,slice a2 k2 e2,slice a3 k3 e3,slice a4 k4 e4] 31)).alloc (cells #[.bool false] 4)=w3 at *;have hX:=BX.lt;refine(zdX (w0:=w) (F:=λk=>k=w.heap.size+1+1) (I:=λl W=>Bk W (w.heap.size+1+1) [.bool (l.any infB)] 4) hb (λk hk=>by subst hk;omega) HM.out HP.out HT.out HX1.out HX2.out HX3.out HX4.out HL.out HK.out hL1 (λ_ _=>rfl) (λl W W' h h2=>h.q_ h2) (λl b B W _ _ _ _ _ h1 h2=>zqz h1 h2) BX).mono ?_;rintro e w4 ⟨rfl,hf,hI⟩;have HW:=zk (Fr.q_ hb hf (λk hk=>by subst hk;omega));have c0:=hI.cell (j:=0) rfl;clear hf hI hb BX hX;go_wp2;go_ret;exact⟨by rw[List.any_append];rfl,HW.out⟩
theorem ziq {L w sa xa na ca fa ya ma da ga a sb xb nb cb fb yb mb db gb b} (ha:Rn L w sa xa na ca fa ya ma da ga a) (hb:Rn L w sb xb nb cb fb yb mb db gb b) (hL:L<=200000) :
  Calls prog 43 #[agg #[.bool sa,slice xa na ca,slice ya ma da],agg #[.bool sb,slice xb nb cb,slice yb mb db]] w λe w'=>zcE (2*L+1) w w' e (a*b):=by
 have h1:=((ha.alloc (cells #[.bool sa,slice xa na ca,slice ya ma da] 24)).alloc (cells #[.bool sb,slice xb nb cb,slice yb mb db] 24)).alloc (cells #[.bool false,slice none 0 0,slice none 0 0] 24);have h2:=((hb.alloc (cells #[.bool sa,slice xa na ca,slice ya ma da] 24)).alloc (cells #[.bool sb,slice xb nb cb,slice yb mb db] 24)).alloc (cells #[.bool false,slice none 0 0,slice none 0 0] 24);have h3:=zaF ((w.alloc (cells #[.bool sa,slice xa na ca,slice ya ma da] 24)).alloc (cells #[.bool sb,slice xb nb cb,slice yb mb db] 24)) 24;rw[zw,zw]at h3
 have h4:=zu (zu (zA w (cells #[.bool sa,slice xa na ca,slice ya ma da] 24)) (cells #[.bool sb,slice xb nb cb,slice yb mb db] 24)) (cells #[.bool false,slice none 0 0,slice none 0 0] 24);clear ha hb;go_enter func43,ntmps43;go_wp2_with fail
 generalize((w.alloc (cells #[.bool sa,slice xa na ca,slice ya ma da] 24)).alloc (cells #[.bool sb,slice xb nb cb,slice yb mb db] 24)).alloc (cells #[.bool false,slice none 0 0,slice none 0 0] 24)=w1 at *;have OB1:=zk h3;have HW1:=zk h4
 refine(zqN h1 h2 hL).mono ?_;clear h1 h2 h3 h4;rintro e w2 ⟨s,x,n,c,f,y,m,d,g,rfl,hb2,hq⟩;have hob:=OB1.out.q_ hb2;have hbw:=bUp HW1.out hb2;obtain⟨hz,z0,z1,z2,zf⟩:=OB1.out.q_ hb2;have HQ:=zk hq;have HOB:=zk hob;have HBW:=zk hbw
 clear hq hob hbw hb2 OB1 HW1;go_wp2;exact bodyPost_ret (v:=agg #[.bool s,slice x n c,slice y m d]) (by simp[results,results43,go_sem,z0,z1,z2,hz]) rfl ⟨s,x,n,c,f,y,m,d,g,rfl,zu (zZ HBW.out (by omega)) _,(HOB.out.rn HQ.out).alloc _⟩
theorem zks {L w sa xa na ca fa ya ma da ga a sb xb nb cb fb yb mb db gb b} (ha:Rn L w sa xa na ca fa ya ma da ga a) (hb:Rn L w sb xb nb cb fb yb mb db gb b) (hL:L<=200000) :
  Calls prog 42 #[agg #[.bool sa,slice xa na ca,slice ya ma da],agg #[.bool sb,slice xb nb cb,slice yb mb db]] w λe w'=>zcE (2*L+1) w w' e (a+b):=by
 have h1:=((ha.alloc (cells #[.bool sa,slice xa na ca,slice ya ma da] 24)).alloc (cells #[.bool sb,slice xb nb cb,slice yb mb db] 24)).alloc (cells #[.bool false,slice none 0 0,slice none 0 0] 24);have h2:=((hb.alloc (cells #[.bool sa,slice xa na ca,slice ya ma da] 24)).alloc (cells #[.bool sb,slice xb nb cb,slice yb mb db] 24)).alloc (cells #[.bool false,slice none 0 0,slice none 0 0] 24);have h3:=zaF ((w.alloc (cells #[.bool sa,slice xa na ca,slice ya ma da] 24)).alloc (cells #[.bool sb,slice xb nb cb,slice yb mb db] 24)) 24;rw[zw,zw]at h3
 have h4:=zu (zu (zA w (cells #[.bool sa,slice xa na ca,slice ya ma da] 24)) (cells #[.bool sb,slice xb nb cb,slice yb mb db] 24)) (cells #[.bool false,slice none 0 0,slice none 0 0] 24);clear ha hb;go_enter func42,ntmps42;go_wp2_with fail
 generalize((w.alloc (cells #[.bool sa,slice xa na ca,slice ya ma da] 24)).alloc (cells #[.bool sb,slice xb nb cb,slice yb mb db] 24)).alloc (cells #[.bool false,slice none 0 0,slice none 0 0] 24)=w1 at *;have OB1:=zk h3;have HW1:=zk h4
 refine(zqP h1 h2 hL).mono ?_;clear h1 h2 h3 h4;rintro e w2 ⟨s,x,n,c,f,y,m,d,g,rfl,hb2,hq⟩;have hob:=OB1.out.q_ hb2;have hbw:=bUp HW1.out hb2;obtain⟨hz,z0,z1,z2,zf⟩:=OB1.out.q_ hb2;have HQ:=zk hq;have HOB:=zk hob;have HBW:=zk hbw
 clear hq hob hbw hb2 OB1 HW1;go_wp2;exact bodyPost_ret (v:=agg #[.bool s,slice x n c,slice y m d]) (by simp[results,results42,go_sem,z0,z1,z2,hz]) rfl ⟨s,x,n,c,f,y,m,d,g,rfl,zu (zZ HBW.out (by omega)) _,(HOB.out.rn HQ.out).alloc _⟩
theorem zlY {L w s x n c f y m d g q i1 s1 x1 n1 c1 y1 m1 d1 up ta tk tc} (h:Rn L w s x n c f y m d g q) (hL:L<=200000) :
  Calls prog 41 #[agg #[.bool s,slice x n c,slice y m d,.int .i64 i1,.bool s1,slice x1 n1 c1,slice y1 m1 d1,.bool up,slice ta tk tc]] w λe w'=>zcE L w w' e (if up then -q else q):=by
 have hb:=zu (zA w (cells #[.bool s,slice x n c,slice y m d,.int .i64 i1,.bool s1,slice x1 n1 c1,slice y1 m1 d1,.bool up,slice ta tk tc] 80)) (cells #[.bool false,slice none 0 0,slice none 0 0] 24);have BB:=(zH w [.bool s,slice x n c,slice y m d,.int .i64 i1,.bool s1,slice x1 n1 c1,slice y1 m1 d1,.bool up,slice ta tk tc] 80).q_ (zA _ (cells #[.bool false,slice none 0 0,slice none 0 0] 24));have OB:Ob ((w.alloc (cells #[.bool s,slice x n c,slice y m d,.int .i64 i1,.bool s1,slice x1 n1 c1,slice y1 m1 d1,.bool up,slice ta tk tc] 80)).alloc (cells #[.bool false,slice none 0 0,slice none 0 0] 24)) (w.heap.size+1):=by
  have:=zaF (w.alloc (cells #[.bool s,slice x n c,slice y m d,.int .i64 i1,.bool s1,slice x1 n1 c1,slice y1 m1 d1,.bool up,slice ta tk tc] 80)) 24;rw[zw]at this;exact this
 have hq:=h.q_ hb;clear h;go_enter func41,ntmps41;go_upto_region 1 with fail
 have HBW:=zk hb;have HOB:=zk OB;have HQ:=zk hq
 generalize((w.alloc (cells #[.bool s,slice x n c,slice y m d,.int .i64 i1,.bool s1,slice x1 n1 c1,slice y1 m1 d1,.bool up,slice ta tk tc] 80)).alloc (cells #[.bool false,slice none 0 0,slice none 0 0] 24))=w2 at *;obtain⟨k0,k1,k2,-,-,-,-,k7⟩:=bk8 BB;obtain⟨hz,z0,z1,z2,zf⟩:=OB;clear hb hq BB;cases up
 ·go_wp2;exact bodyPost_ret (v:=agg #[.bool s,slice x n c,slice y m d]) (by simp[results,results41,go_sem,z0,z1,z2]) rfl ⟨s,x,n,c,f,y,m,d,g,rfl,zZ HBW.out (by omega),HOB.out.rn HQ.out⟩
 ·go_wp2_with fail
  refine(zqM HQ.out hL).mono ?_;rintro e w3 ⟨s3,x3,n3,c3,f3,y3,m3,d3,g3,rfl,hb3,hq3⟩;have hob:=HOB.out.q_ hb3;have hbw:=bUp HBW.out hb3;clear z0 z1 z2 zf hz k0 k1 k2 k7;obtain⟨hz,z0,z1,z2,zf⟩:=HOB.out.q_ hb3;have HQ3:=zk hq3;have HO3:=zk hob;have HB3:=zk hbw
  clear hq3 hob hbw hb3 HOB HBW HQ;go_wp2;exact bodyPost_ret (v:=agg #[.bool s3,slice x3 n3 c3,slice y3 m3 d3]) (by simp[results,results41,go_sem,z0,z1,z2,hz]) rfl ⟨s3,x3,n3,c3,f3,y3,m3,d3,g3,rfl,zu (zZ HB3.out (by omega)) _,(HO3.out.rn HQ3.out).alloc _⟩
theorem zbW {w} {n:Nat} (hn:n<=64) :
  Calls prog 37 #[.int .i64 (n:Int)] w λe w'=>∃B,e=returned (slice (some ⟨B,0,none⟩) n n)/\w.heap.size<=B/\Bl w w'/\Rk w' B n/\Rq 4 w' B n (λ_=>0):=by
 go_enter func37,ntmps37;go_wp2_with(at_make;refine zfs _ rfl (.tmp 5) (.tmp 5) 29 rfl 24 56 underlying29 zfi .i64 .i64 n n n rfl rfl rfl rfl (by omega) (by unfold maxLen;omega) ?_;intro w3 hk3 hb3)
 have HB3:=zk hb3;have HK3:=zk hk3
 clear hk3 hb3;go_loopw[9] (λt wr=>∃(i:Nat),i<=n/\t=.int .i64 i/\Hid (Bl w wr)/\Hid (Rk wr w.heap.size n)/\Hid (Rq 4 wr w.heap.size i (λ_=>0))) (λt _=>n-(intOf t).toNat)
 case atStart=>exact⟨0,by omega,rfl,HB3,HK3,λj hj=>by omega⟩
 case round =>
  clear HB3 HK3;obtain⟨i,hi,rfl,HB,HK,HQ⟩:=hrel;by_cases hlt:i<n
  ·have i2:((i:Nat):Int)<((n:Nat):Int):=by omega
   go_wp2_with fail
   refine(zfH (z:=0) (by decide) (by decide)).mono ?_;rintro e w4 ⟨s0,x0,n0,c0,f0,y0,m0,d0,g0,rfl,hb4,hq4⟩;have HB4:=zI HB hb4;have hk4:=HK.out.q_ hb4;have hq5:=HQ.out.q_ hb4
   obtain⟨R1,R2⟩:=zcU (i':=i+1) (Q':=λ_=>0) hk4 hq5 hlt hq4 (λj' h1 h2=>⟨by omega,rfl⟩);obtain⟨_,a0,_⟩:=hk4.has (i*3) (by omega);obtain⟨_,a1,_⟩:=hk4.has (i*3+1) (by omega);obtain⟨_,a2,_⟩:=hk4.has (i*3+2) (by omega);have hfz:=hk4.fz;have HR1:=zk R1;have HR2:=zk R2
   clear R1 R2 hb4 hq4 hk4 hq5 HB HK HQ;go_wp2;go_roundw
   case rel=>exact⟨i+1,by omega,by go_num,zaW HB4.out (by omega),HR1.out,HR2.out⟩
   case measure=>simp[intOf];omega
  ·have i2:¬(((i:Nat):Int)<((n:Nat):Int)):=by omega
   have e1:i=n:=by omega
   have HQ0:Hid (Rq 4 wr w.heap.size n (λ(_:Nat)=>0)):=by
    have h:=HQ.out;rw[e1]at h
    exact h
   clear HQ e1;go_wp2;go_ret;exact⟨w.heap.size,rfl,le_refl _,HB.out,HK.out,HQ0.out⟩
theorem zjk {w L ao k cap p} (h:Rf L w ao p) (hk:p.length=k) (hk2:k<=400) :
  Calls prog 26 #[slice ao k cap] w λe w'=>e=returned (.bool (p.all (λq=>decide (q=0))))/\Bl w w':=by
 have H:=zk h;clear h;go_enter func26,ntmps26;go_wp2_with fail
 go_loopw[7] (λt wr=>∃(i:Nat),i<=k/\t=.int .i64 i/\Hid (Bl w wr)/\Hid ((p.take i).all (λq=>decide (q=0))=true)) (λt _=>k-(intOf t).toNat)
 case atStart=>exact⟨0,by omega,rfl,Below.refl _ _,rfl⟩
 case round =>
  obtain⟨i,hi,rfl,HB,HA⟩:=hrel;by_cases hlt:i<k
  ·obtain⟨q,haq⟩:∃t,p[i]?=some t:=⟨_,getElem?_eq_getElem (by omega)⟩;obtain⟨b,o,⟨ts,tx,tn,tc,tf,ty,tm,td,tg⟩,hav,hc,hr⟩:=(H.out.q_ HB.out) i q haq;have hav2:=hav;subst hav2;obtain⟨x0,x1,x2⟩:=hc;replace x0:wr.cell? ⟨b,o+i*3,none⟩=some (.bool ts):=x0;replace x1:wr.cell? ⟨b,o+i*3+1,none⟩=some (slice tx tn tc):=x1;replace x2:wr.cell? ⟨b,o+i*3+2,none⟩=some (slice ty tm td):=x2;have hz:q=0 ↔ tn=0:=hr.q_zero;have HD:Hid ((p.take (i+1)).all (λq=>decide (q=0))=decide (tn=0)):=by
    show _=_;rw[List.take_add_one,haq,Option.toList_some,List.all_append,HA.out,Bool.true_and];simp[hz]
   have HF:Hid (tn≠0->p.all (λq=>decide (q=0))=false):=by
    intro hn;rw[Bool.eq_false_iff];intro ht;rw[List.all_eq_true]at ht
    have:=ht q (List.mem_of_getElem? haq);exact hn (hz.1 (by simpa using this))
   have i2:((i:Nat):Int)<((k:Nat):Int):=by omega
   have hbt:=zA wr (cells #[.bool ts,slice tx tn tc,slice ty tm td] 24);have HB1:=zI HB hbt;clear haq hav hr hz HA HB hbt;go_wp2_with fail
   refine(zei _ _ _ _ _ _ _ _).mono ?_;rintro e w4 ⟨rfl,hb4⟩;have HB4:=zI HB1 hb4;clear hb4 HB1;by_cases e0:tn=0
   ·subst e0;have HD1:Hid ((p.take (i+1)).all (λq=>decide (q=0))=true):=HD.out;clear HD HF;go_wp2;go_roundw
    case rel=>exact⟨i+1,by omega,by go_num,HB4.out,HD1.out⟩
    case measure=>simp[intOf];omega
   ·have HF1:=zk (HF.out e0);have e1:decide (tn=0)=false:=decide_eq_false e0;rw[e1];clear HD HF e0 e1;go_wp2;go_ret;exact⟨by rw[HF1.out];rfl,HB4.out⟩
  ·have i2:¬(((i:Nat):Int)<((k:Nat):Int)):=by omega
   have HF:Hid (p.all (λq=>decide (q=0))=true):=by
    show _=_;have e1:i=k:=by omega
    have:=HA.out;rw[e1,<-hk,List.take_length]at this;exact this
   clear HA;go_wp2;go_ret;exact⟨by rw[HF.out];rfl,HB.out⟩
def wtQ (b:BV):Rat:=if b.up then -b.q else b.q
def coefT:List (Int × Rat)->Nat->Rat
 | [],_=>0
 | (z,a) :: r,j=>(if z=(j:Int) then a else 0)+coefT r j
def sumF (f:BV->Rat):List BV->Rat
 | []=>0
 | b :: l=>f b+sumF f l
theorem zaE (f:BV->Rat):∀(l:List BV) (b:BV),sumF f (l++[b])=sumF f l+f b
 | [],b=>by show f b+0=0+f b;grind
 | c :: l,b=>by
  simp only[List.cons_append,sumF];rw[zaE f l b];grind
theorem zdn (z:Int) (a:Rat) (j:Nat):∀(l:List (Int × Rat)),coefT (l++[(z,a)]) j=coefT l j+(if z=(j:Int) then a else 0)
 | []=>by simp only[List.nil_append,coefT];grind
 | (y,b) :: l=>by
  simp only[List.cons_append,coefT];rw[zdn z a j l];grind
def cmbQ (l:List BV) (j:Nat):Rat:=sumF (λb=>wtQ b*coefT b.ts j) l
def cmbS (l:List BV):Rat:=sumF (λb=>wtQ b*b.a) l
theorem zfx {n}:∀{ts:List (Int × Rat)} {z:Int} (i:Nat),tsB n z ts=true->tsB n z (ts.take i)=true
 | [],_,i,_=>by simp[tsB]
 | (y,q) :: r,z,0,_=>rfl
 | (y,q) :: r,z,i+1,h=>by
  simp only[tsB,Bool.and_eq_true,decide_eq_true_eq]at h;simp only[List.take_succ_cons,tsB,Bool.and_eq_true,decide_eq_true_eq];exact⟨h.1,h.2.1,h.2.2.1,zfx i h.2.2.2⟩
theorem zgF {n} {j:Nat}:∀{ts:List (Int × Rat)} {z:Int},tsB n z ts=true->(j:Int)<=z->coefT ts j=0
 | [],_,_,_=>rfl
 | (y,q) :: r,z,h,hj=>by
  simp only[tsB,Bool.and_eq_true,decide_eq_true_eq]at h;simp only[coefT];rw[if_neg (by omega),zgF h.2.2.2 (by omega)]
  grind
theorem zff {n L j} (hL:1<=L):∀{ts:List (Int × Rat)} {z:Int},tsB n z ts=true->(∀p ∈ ts,Lo L p.2)->Lo L (coefT ts j)
 | [],_,_,_=>zhq hL
 | (y,q) :: r,z,h,hp=>by
  simp only[tsB,Bool.and_eq_true,decide_eq_true_eq]at h;simp only[coefT];by_cases e:y=(j:Int)
  ·rw[if_pos e,zgF h.2.2.2 (by omega),show q+(0:Rat)=q by grind];exact hp _ List.mem_cons_self
  ·rw[if_neg e,show(0:Rat)+coefT r j=coefT r j by grind];exact zff hL h.2.2.2 (λp h=>hp p (List.mem_cons_of_mem _ h))
theorem zgr {L b} (h:Lo L b.q):Lo L (wtQ b):=by
 unfold wtQ
 split
 ·exact zhr h
 ·exact h
theorem Tf.loM {L w ao v} (h:Tf L w ao v):∀p ∈ v,Lo L p.2:=λp hp=>by
 obtain⟨j,hj,e⟩:=List.getElem_of_mem hp;obtain⟨b,o,t,h1,h2,h3⟩:=h j p.1 p.2 (by rw[getElem?_eq_getElem hj,e]);exact h3.lo h3.ln h3.ld
theorem zgy {w w':World} {B o} (h:w'.heap[B]?=w.heap[B]?):w'.frozen? ⟨B,o,none⟩=w.frozen? ⟨B,o,none⟩:=by
 simp only[World.frozen?,h]
theorem Rk.fr {F w w' B n} (h:Rk w B n) (hf:Fr F w w') (hn:¬F B):Rk w' B n :=
 ⟨Nat.lt_of_lt_of_le h.z hf.size,λo ho=>by obtain⟨u,h1,h2⟩:=h.has o ho;exact⟨u,hf.cell hn h1,h2⟩,λo=>(zgy (hf.block B h.z hn)).trans (h.fz o)⟩
theorem Rq.fr {F Kn w w' B i Q} (h:Rq Kn w B i Q) (hf:Fr F w w') (hn:¬F B):Rq Kn w' B i Q:=λj hj=>by
 obtain⟨t,h1,h2⟩:=h j hj;exact⟨t,⟨hf.cell hn h1.x0,hf.cell hn h1.x1,hf.cell hn h1.x2⟩,hf.rn h2⟩
theorem Sx.fr {F w w' B s x n c y m d} (h:Sx w B s x n c y m d) (hf:Fr F w w') (hn:¬F B):Sx w' B s x n c y m d :=
 ⟨Nat.lt_of_lt_of_le h.z hf.size,hf.cell hn h.x0,hf.cell hn h.x1,hf.cell hn h.x2,λo=>(zgy (hf.block B h.z hn)).trans (h.fz o)⟩
theorem zdx {w B n j s x k c y m d} (h:Rk w B n) (hj:j<n):Fr (λk=>k=B) w (((w.setCell ⟨B,j*3,none⟩ (.bool s)).setCell ⟨B,j*3+1,none⟩ (slice x k c)).setCell ⟨B,j*3+2,none⟩ (slice y m d)):=by
 have k1:=h.set (o:=j*3) (u:=.bool s) (λi h=>by cases h);have k2:=k1.set (o:=j*3+1) (u:=slice x k c) (λi h=>by cases h);refine⟨rfl,rfl,rfl,by simp[World.setCell],λk _ hn=>?_,λ_ _ _ r=>k2.rd (by omega) (k1.rd (by omega) (h.rd (by omega) r))⟩;exact(Below.heap_setCell _ _ _ _ hn).trans ((Below.heap_setCell _ _ _ _ hn).trans (Below.heap_setCell _ _ _ _ hn))
theorem zhT {w B s x n c y m d u0 u1 u2} (S:Sx w B s x n c y m d):Fr (λk=>k=B) w (((w.setCell ⟨B,0,none⟩ u0).setCell ⟨B,1,none⟩ u1).setCell ⟨B,2,none⟩ u2):=by
 refine⟨rfl,rfl,rfl,by simp[World.setCell],λk _ hn=>?_,λ_ _ _ r=>S.rd r⟩;exact(Below.heap_setCell _ _ _ _ hn).trans ((Below.heap_setCell _ _ _ _ hn).trans (Below.heap_setCell _ _ _ _ hn))
structure CmI (Kn N cn BL XL XR:Nat) (l:List BV) (W:World):Prop where
 xl:Bk W XL [slice (some ⟨BL,0,none⟩) cn cn] 29
 rk:Rk W BL cn
 rq:Rq Kn W BL cn (cmbQ l)
 sx:∃s x k c f y m d g,Sx W XR s x k c y m d/\Rn Kn W s x k c f y m d g (cmbS l)
 lq:∀j,Lo (4+l.length*N) (cmbQ l j)
 ls:Lo (4+l.length*N) (cmbS l)
theorem CmI.q_ {Kn N cn BL XL XR l W W'} (h:CmI Kn N cn BL XL XR l W) (hb:Bl W W'):CmI Kn N cn BL XL XR l W':=by
 obtain⟨s,x,k,c,f,y,m,d,g,h1,h2⟩:=h.sx;exact⟨h.xl.q_ hb,h.rk.q_ hb,h.rq.q_ hb,⟨s,x,k,c,f,y,m,d,g,h1.q_ hb,h2.q_ hb⟩,h.lq,h.ls⟩
theorem zpI (l:List BV) (b:BV):(λj=>cmbQ l j+wtQ b*coefT (b.ts.take 0) j)=cmbQ l:=by
 funext j
 show cmbQ l j+wtQ b*0=cmbQ l j
 grind
theorem znK {l b i} (h:b.ts.length<=i):(λj=>cmbQ l j+wtQ b*coefT (b.ts.take i) j)=cmbQ (l++[b]):=by
 funext j
 rw[List.take_of_length_le h];exact(zaE (λb=>wtQ b*coefT b.ts j) l b).symm
theorem zkE {l b} {i zn:Nat} {q} (h:b.ts[i]?=some ((zn:Int),q)) (j:Nat):cmbQ l j+wtQ b*coefT (b.ts.take (i+1)) j=cmbQ l j+wtQ b*coefT (b.ts.take i) j+(if zn=j then wtQ b*q else 0):=by
 rw[List.take_add_one,h,Option.toList_some,zdn];by_cases e:zn=j
 ·rw[if_pos (by omega),if_pos e];grind
 ·rw[if_neg (by omega),if_neg e];grind
theorem zoG {W Kn L cn BL XL XR B b l} (hlen:l.length<256) (hts:tsB cn (-1) b.ts=true) (hnf:b.ts≠[]->∀b' o',B.ta=some ⟨b',o',none⟩->¬(b'=BL∨b'=XR)) (hI:CmI Kn (2*L+2) cn BL XL XR l W) (hB:BdV L W B b) (hL1:1<=L) (hL2:L<=100) (hK1:4+256*(2*L+2)<=Kn) (hK2:Kn<=200000) (hcn:cn<=64) (ap1:BL≠XL) (ap2:BL≠XR) (ap3:XL≠XR) :
  Calls prog 40 (#[B.val]++#[.pointer (some ⟨XL,0,none⟩),.pointer (some ⟨XR,0,none⟩)]) W λe W'=>e=returned (.tuple #[])/\Fr (λk=>k=BL∨k=XR) W W'/\CmI Kn (2*L+2) cn BL XL XR (l++[b]) W':=by
 obtain⟨⟨s,x,n,c,f,y,m,d,g⟩,⟨i1,⟨s1,x1,n1,c1,f1,y1,m1,d1,g1⟩⟩,up,ta,tk,tc⟩:=B;have hq:Rn L W s x n c f y m d g b.q:=hB.q;have ha:Rn L W s1 x1 n1 c1 f1 y1 m1 d1 g1 b.a:=hB.a;have HUP:Hid (up=b.up):=hB.up;have htk:b.ts.length=tk:=hB.tk;have htf:Tf L W ta b.ts:=hB.ts;replace hnf:b.ts≠[]->∀b' o',ta=some ⟨b',o',none⟩->¬(b'=BL∨b'=XR):=hnf;have hlw:Lo L (wtQ b):=zgr (hq.lo hq.ln hq.ld);have hlp:(l.length+1)*(2*L+2)<=256*(2*L+2):=Nat.mul_le_mul_right _ (by omega);have htk6:tk<=64:=by have:=zeO hts (by omega);omega
 have hle:(l++[b]).length=l.length+1:=by simp
 have HLQ:Hid (∀i j,Lo (4+(l.length+1)*(2*L+2)) (cmbQ l j+wtQ b*coefT (b.ts.take i) j)):=λi j=>(zci (hI.lq j) (zbm hlw (zff hL1 (zfx i hts) (λq hq=>htf.loM q (List.mem_of_mem_take hq))))).mono (by rw[Nat.add_mul];omega)
 have HLS:Hid (Lo (4+(l.length+1)*(2*L+2)) (cmbS l+wtQ b*b.a)):=(zci hI.ls (zbm hlw (ha.lo ha.ln ha.ld))).mono (by rw[Nat.add_mul];omega);have HTS:=zk hts;have HNF:=zk hnf;have HI:=zk hI;have HA:=zk ha;have HTF:=zk htf
 have hBLz:=hI.rk.z;have hXLz:=hI.xl.lt;obtain⟨_,_,_,_,_,_,_,_,_,hsx0,_⟩:=hI.sx;have hXRz:=hsx0.z;clear hts hnf hI ha htf hB hlw hsx0;show Calls prog 40 #[agg #[.bool s,slice x n c,slice y m d,.int .i64 i1,.bool s1,slice x1 n1 c1,slice y1 m1 d1,.bool up,slice ta tk tc],.pointer (some ⟨XL,0,none⟩),.pointer (some ⟨XR,0,none⟩)] W _;have hb:=zA W (cells #[.bool s,slice x n c,slice y m d,.int .i64 i1,.bool s1,slice x1 n1 c1,slice y1 m1 d1,.bool up,slice ta tk tc] 80);have BB:=zk (zH W [.bool s,slice x n c,slice y m d,.int .i64 i1,.bool s1,slice x1 n1 c1,slice y1 m1 d1,.bool up,slice ta tk tc] 80);replace BB:Hid (Bk (W.alloc (cells #[.bool s,slice x n c,slice y m d,.int .i64 i1,.bool s1,slice x1 n1 c1,slice y1 m1 d1,.bool up,slice ta tk tc] 80)) W.heap.size [.bool s,slice x n c,slice y m d,.int .i64 i1,.bool s1,slice x1 n1 c1,slice y1 m1 d1,.bool up,slice ta tk tc] 80):=BB;go_enter func40,ntmps40;go_wp2_with fail
 generalize W.alloc (cells #[.bool s,slice x n c,slice y m d,.int .i64 i1,.bool s1,slice x1 n1 c1,slice y1 m1 d1,.bool up,slice ta tk tc] 80)=w1 at *;refine(zlY (hq.q_ hb) (by omega)).mono ?_;rintro e w2 ⟨s9,x9,n9,c9,f9,y9,m9,d9,g9,rfl,hb2,hq9⟩;replace hq9:Rn L w2 s9 x9 n9 c9 f9 y9 m9 d9 g9 (wtQ b):=by rw[HUP.out]at hq9;exact hq9
 have hb12:=bUp hb hb2;have hb3:=zA w2 (cells #[.bool s9,slice x9 n9 c9,slice y9 m9 d9] 24);have hb13:=bUp hb12 hb3;have BW:=zk (zH w2 [.bool s9,slice x9 n9 c9,slice y9 m9 d9] 24);replace BW:Hid (Bk (w2.alloc (cells #[.bool s9,slice x9 n9 c9,slice y9 m9 d9] 24)) w2.heap.size [.bool s9,slice x9 n9 c9,slice y9 m9 d9] 24):=BW;have k8:=((BB.out.q_ hb2).q_ hb3).cell (j:=8) rfl;go_wp2_with fail
 clear k8;replace BB:=zk ((BB.out.q_ hb2).q_ hb3);have HQ9:=zk (hq9.q_ hb3);have HB3:=zk hb13;have FB3:Hid (Fr (λk=>k=BL∨k=XR) W (w2.alloc (cells #[.bool s9,slice x9 n9 c9,slice y9 m9 d9] 24))):=Fr.of hb13;have I3:=zk (HI.out.q_ hb13);have HA3:=zk (HA.out.q_ hb13);have HT3:=zk (HTF.out.q_ hb13)
 have hs2:W.heap.size<=w2.heap.size:=hb12.size;clear hb hb2 hq hq9 hb12 hb3 hb13 HI HA HTF;generalize hw3:w2.alloc (cells #[.bool s9,slice x9 n9 c9,slice y9 m9 d9] 24)=w3 at *;clear hw3;generalize w2.heap.size=xw at *;generalize hxb:W.heap.size=xb at *;go_loopw[12] (λt wr=>∃(i:Nat),i<=tk/\t=.int .i64 i/\Hid (Fr (λk=>k=BL) w3 wr)/\Hid (Rk wr BL cn)/\Hid (Rq Kn wr BL cn (λj=>cmbQ l j+wtQ b*coefT (b.ts.take i) j))) (λt _=>tk-(intOf t).toNat)
 case atStart=>exact⟨0,by omega,rfl,Fr.refl _ _,I3.out.rk,by show Rq _ _ _ _ _;rw[zpI];exact I3.out.rq⟩
 case round =>
  obtain⟨i,hi,rfl,HG,HK,HQ⟩:=hrel;by_cases hlt:i<tk
  ·obtain⟨⟨z,q⟩,haq⟩:∃t,b.ts[i]?=some t:=⟨_,getElem?_eq_getElem (by omega)⟩;obtain⟨hz0,hz1,_⟩:=zeN HTS.out _ (List.mem_of_getElem? haq);replace hz0:(-1:Int)<z:=hz0;replace hz1:z<(cn:Int):=hz1;obtain⟨zn,rfl⟩:=Int.eq_ofNat_of_zero_le (show 0<=z by omega);have hne:b.ts≠[]:=λe=>by rw[e]at haq;cases haq
   obtain⟨b2,o2,⟨ts,tx,tn,tc2,tf,ty,tm,td,tg⟩,hta,hc,hr⟩:=(HT3.out.fr HG.out (λb' o' e hf=>HNF.out hne b' o' e (Or.inl hf))) i (zn:Int) q haq;subst hta;obtain⟨x0,x1,x2,x3⟩:=hc;replace x0:wr.cell? ⟨b2,o2+i*4,none⟩=some (.int .i64 zn):=x0;replace x1:wr.cell? ⟨b2,o2+i*4+1,none⟩=some (.bool ts):=x1;replace x2:wr.cell? ⟨b2,o2+i*4+2,none⟩=some (slice tx tn tc2):=x2;replace x3:wr.cell? ⟨b2,o2+i*4+3,none⟩=some (slice ty tm td):=x3;have hr2:Rn L wr ts tx tn tc2 tf ty tm td tg q:=hr;obtain⟨⟨ls,lx,ln,lc,lf,ly,lm,ld,lg⟩,⟨p0,p1,p2⟩,hr0⟩:=HQ.out zn (by omega);replace p0:wr.cell? ⟨BL,zn*3,none⟩=some (.bool ls):=p0;replace p1:wr.cell? ⟨BL,zn*3+1,none⟩=some (slice lx ln lc):=p1;replace p2:wr.cell? ⟨BL,zn*3+2,none⟩=some (slice ly lm ld):=p2;replace hr0:Rn Kn wr ls lx ln lc lf ly lm ld lg (cmbQ l zn+wtQ b*coefT (b.ts.take i) zn):=hr0;have hbt:=zA wr (cells #[.int .i64 zn,.bool ts,slice tx tn tc2,slice ty tm td] 66);obtain⟨a0,a1,a2,a3⟩:=bk4 (zH wr [.int .i64 zn,.bool ts,slice tx tn tc2,slice ty tm td] 66);have XK:=(HG.out.bk I3.out.xl (λe=>ap1 e.symm)).q_ hbt;have WK:=(HG.out.bk BW.out (λ(e:xw=BL)=>by omega)).q_ hbt;have i2':((i:Nat):Int)<((tk:Nat):Int):=by omega
   have i3':((zn:Nat):Int)<((cn:Nat):Int):=by omega
   have hzn:zn<cn:=by omega
   have HAQ:=zk haq;clear haq hr hne;go_upto_region 5 with fail
   clear x0 x1 x2 x3;replace p0:=kCb hbt p0;replace p1:=kCb hbt p1;replace p2:=kCb hbt p2
   have R0:=zk (hr0.q_ hbt);have R1:=zk ((HG.out.rn HQ9.out).q_ hbt);have R2:=zk (hr2.q_ hbt)
   replace HG:=zk (HG.out.trans (Fr.of hbt));replace HK:=zk (HK.out.q_ hbt);replace HQ:=zk (HQ.out.q_ hbt)
   clear hr0 hr2 hbt;generalize hbx:wr.heap.size=bx at *;generalize wr.alloc (cells #[.int .i64 zn,.bool ts,slice tx tn tc2,slice ty tm td] 66)=w5 at *;clear hbx;have e0:=XK.cell (j:=0) rfl;obtain⟨v0,v1,v2⟩:=bk3 WK;clear XK WK;refine zaa (S:=(λw'=>w'.cell? ⟨XL,0,none⟩=some (slice (some ⟨BL,0,none⟩) cn cn)/\w'.cell? ⟨bx,0,none⟩=some (.int .i64 zn)/\w'.cell? ⟨bx,1,none⟩=some (.bool ts)/\w'.cell? ⟨bx,2,none⟩=some (slice tx tn tc2)/\w'.cell? ⟨bx,3,none⟩=some (slice ty tm td)/\w'.cell? ⟨BL,zn*3,none⟩=some (.bool ls)/\w'.cell? ⟨BL,zn*3+1,none⟩=some (slice lx ln lc)/\w'.cell? ⟨BL,zn*3+2,none⟩=some (slice ly lm ld)/\w'.cell? ⟨xw,0,none⟩=some (.bool s9)/\w'.cell? ⟨xw,1,none⟩=some (slice x9 n9 c9)/\w'.cell? ⟨xw,2,none⟩=some (slice y9 m9 d9))) 14 (by kernel_rfl) ⟨kCd e0,kCd a0,kCd a1,kCd a2,kCd a3,kCd p0,kCd p1,kCd p2,kCd v0,kCd v1,kCd v2⟩ (λhHeld=>?_);refine tkP 0 ?_;refine skP 1 ?_;refine tkP 2 ?_;simp only[zv,Act.put];refine tkP 3 ?_;refine skP 4 ?_;refine tkP 5 ?_;simp only[zv,Act.put];refine skP 6 ?_;refine tkP 7 ?_;refine tkP 8 ?_;simp only[zv,Act.put];refine skP 9 ?_;refine tkP 10 ?_;simp only[zv,Act.put];refine rdP 11 (λK hK=>?_);go_simp
   go_at_call 43
   refine(ziq (L:=L) (zni R1.out) (zni R2.out) (by omega)).mono ?_;rintro e w6 ⟨s6,x6,n6,c6,f6,y6,m6,d6,g6,rfl,hb6,hq6⟩
   (try go_wp2_with fail)
   have yy0:=kCb hb6 (hHeld.1);have yy1:=kCb hb6 (hHeld.2.1);have yy2:=kCb hb6 (hHeld.2.2.1);have yy3:=kCb hb6 (hHeld.2.2.2.1);have yy4:=kCb hb6 (hHeld.2.2.2.2.1);have yy5:=kCb hb6 (hHeld.2.2.2.2.2.1);have yy6:=kCb hb6 (hHeld.2.2.2.2.2.2.1);have yy7:=kCb hb6 (hHeld.2.2.2.2.2.2.2.1);have yy8:=kCb hb6 (hHeld.2.2.2.2.2.2.2.2.1);have yy9:=kCb hb6 (hHeld.2.2.2.2.2.2.2.2.2.1);have yy10:=kCb hb6 (hHeld.2.2.2.2.2.2.2.2.2.2);refine hK.out _ _ (λ_=>⟨yy0,yy1,yy2,yy3,yy4,yy5,yy6,yy7,yy8,yy9,yy10⟩) (λhS6=>?_);clear hK K hS6;try simp only[zv,Act.put]
   have Bd6:=(Below.drew (Below.refl w5.heap.size w5)).trans (hb6.mono (le_refl _));refine rdP 12 (λK hK=>?_);go_simp
   go_at_call 42
   refine(zks (L:=Kn) (R0.out.q_ Bd6) (hq6.mono (by omega)) hK2).mono ?_;rintro e w7 ⟨s7,x7,n7,c7,f7,y7,m7,d7,g7,rfl,hb7,hq7⟩
   (try go_wp2_with fail)
   have uu0:=kCb hb7 yy0;have uu1:=kCb hb7 yy1;have uu2:=kCb hb7 yy2;have uu3:=kCb hb7 yy3;have uu4:=kCb hb7 yy4;have uu5:=kCb hb7 yy5;have uu6:=kCb hb7 yy6;have uu7:=kCb hb7 yy7;have uu8:=kCb hb7 yy8;have uu9:=kCb hb7 yy9;have uu10:=kCb hb7 yy10;refine hK.out _ _ (λ_=>⟨uu0,uu1,uu2,uu3,uu4,uu5,uu6,uu7,uu8,uu9,uu10⟩) (λhS7=>?_);clear hK K hS7;try simp only[zv,Act.put]
   have Bd7:=bUp Bd6 hb7;have hk7:=HK.out.q_ Bd7;have hq8:Rn Kn w7 s7 x7 n7 c7 f7 y7 m7 d7 g7 (cmbQ l zn+wtQ b*coefT (b.ts.take (i+1)) zn):=by
    have h9:=HLQ.out (i+1) zn;rw[zkE HAQ.out,if_pos rfl]at h9 ⊢
    exact(hq7.cut h9).mono (by omega)
   obtain⟨R1a,R2a⟩:=zcU (i':=cn) (j:=zn) (Q':=λj=>cmbQ l j+wtQ b*coefT (b.ts.take (i+1)) j) hk7 (HQ.out.q_ Bd7) hzn hq8 (λj' h1 h2=>⟨h1,by show _+_=_+_;rw[zkE HAQ.out,if_neg (λe=>h2 e.symm)];grind⟩);have HG7:=zk ((HG.out.trans (Fr.of Bd7)).trans (zdx (s:=s7) (x:=x7) (k:=n7) (c:=c7) (y:=y7) (m:=m7) (d:=d7) hk7 hzn));have tf:=hk7.fz;have HR1:=zk R1a;have HR2:=zk R2a
   clear R1a R2a hq8 hq7 hq6 hk7 Bd7 Bd6 hb6 hb7 HK HQ HG R0 R1 R2 yy0 yy1 yy2 yy3 yy4 yy5 yy6 yy7 yy8 yy9 yy10 hHeld e0 a0 a1 a2 a3 p0 p1 p2 v0 v1 v2;refine rdP 13 (λK hK=>?_);go_simp;refine hK.out _ _ (λ_=>⟨uu0,uu1,uu2,uu3,uu4,uu5,uu6,uu7,uu8,uu9,uu10⟩) (λhS9=>?_);clear hK K hS9;try simp only[zv,Act.put]
   refine rdP 14 (λK hK=>?_);go_simp;refine hK.out _ _ (λh=>by cases h) (λ_=>?_);clear hK K;try simp only[zv,Act.put]
   refine dnP ?_;clear uu0 uu1 uu2 uu3 uu4 uu5 uu6 uu7 uu8 uu9 uu10 tf;go_wp2;go_roundw
   case rel=>exact⟨i+1,by omega,by go_num,HG7.out,HR1.out,HR2.out⟩
   case measure=>simp[intOf];omega
  ·have i4':¬(((i:Nat):Int)<((tk:Nat):Int)):=by omega
   have HQ2:Hid (Rq Kn wr BL cn (cmbQ (l++[b]))):=by
    have:=HQ.out;rw[znK (by omega)]at this;exact this
   clear HQ;obtain⟨sr,xr,nr,cr,fr,yr,mr,dr,gr,hsx,hrn⟩:=I3.out.sx;have SX:=zk (hsx.fr HG.out (λe=>ap2 e.symm));have R0:=zk (HG.out.rn hrn);have R1:=zk (HG.out.rn HQ9.out);have R2:=zk (HG.out.rn HA3.out)
   have XK:=zk (HG.out.bk I3.out.xl (λe=>ap1 e.symm));have WK:=zk (HG.out.bk BW.out (λ(e:xw=BL)=>by omega));have BK:=zk (HG.out.bk BB.out (λ(e:xb=BL)=>by omega))
   clear hsx hrn I3 HQ9 HA3 BW BB;go_upto_region 7 with fail
   have e0:=SX.out.x0;have e1:=SX.out.x1;have e2:=SX.out.x2
   obtain⟨v0,v1,v2⟩:=bk3 WK.out;obtain⟨-,-,-,-,b4,b5,b6⟩:=bk7 BK.out;refine zaa (S:=(λw'=>w'.cell? ⟨XR,0,none⟩=some (.bool sr)/\w'.cell? ⟨XR,1,none⟩=some (slice xr nr cr)/\w'.cell? ⟨XR,2,none⟩=some (slice yr mr dr)/\w'.cell? ⟨xw,0,none⟩=some (.bool s9)/\w'.cell? ⟨xw,1,none⟩=some (slice x9 n9 c9)/\w'.cell? ⟨xw,2,none⟩=some (slice y9 m9 d9)/\w'.cell? ⟨xb,4,none⟩=some (.bool s1)/\w'.cell? ⟨xb,5,none⟩=some (slice x1 n1 c1)/\w'.cell? ⟨xb,6,none⟩=some (slice y1 m1 d1))) 7 (by kernel_rfl) ⟨kCd e0,kCd e1,kCd e2,kCd v0,kCd v1,kCd v2,kCd b4,kCd b5,kCd b6⟩ (λhHeld=>?_);refine tkP 0 ?_;refine tkP 1 ?_;refine skP 2 ?_;simp only[zv,Act.put];refine skP 3 ?_;refine tkP 4 ?_;simp only[zv,Act.put];refine rdP 5 (λK hK=>?_);go_simp
   go_at_call 43
   refine(ziq (L:=L) (zni R1.out) (zni R2.out) (by omega)).mono ?_;rintro e w6 ⟨s6,x6,n6,c6,f6,y6,m6,d6,g6,rfl,hb6,hq6⟩
   (try go_wp2_with fail)
   have yy0:=kCb hb6 (hHeld.1);have yy1:=kCb hb6 (hHeld.2.1);have yy2:=kCb hb6 (hHeld.2.2.1);have yy3:=kCb hb6 (hHeld.2.2.2.1);have yy4:=kCb hb6 (hHeld.2.2.2.2.1);have yy5:=kCb hb6 (hHeld.2.2.2.2.2.1);have yy6:=kCb hb6 (hHeld.2.2.2.2.2.2.1);have yy7:=kCb hb6 (hHeld.2.2.2.2.2.2.2.1);have yy8:=kCb hb6 (hHeld.2.2.2.2.2.2.2.2);refine hK.out _ _ (λ_=>⟨yy0,yy1,yy2,yy3,yy4,yy5,yy6,yy7,yy8⟩) (λhS6=>?_);clear hK K hS6;try simp only[zv,Act.put]
   have Bd6:=(Below.drew (Below.refl wr.heap.size wr)).trans (hb6.mono (le_refl _));refine rdP 6 (λK hK=>?_);go_simp
   go_at_call 42
   refine(zks (L:=Kn) (R0.out.q_ Bd6) (hq6.mono (by omega)) hK2).mono ?_;rintro e w7 ⟨s7,x7,n7,c7,f7,y7,m7,d7,g7,rfl,hb7,hq7⟩
   (try go_wp2_with fail)
   have uu0:=kCb hb7 yy0;have uu1:=kCb hb7 yy1;have uu2:=kCb hb7 yy2;have uu3:=kCb hb7 yy3;have uu4:=kCb hb7 yy4;have uu5:=kCb hb7 yy5;have uu6:=kCb hb7 yy6;have uu7:=kCb hb7 yy7;have uu8:=kCb hb7 yy8;refine hK.out _ _ (λ_=>⟨uu0,uu1,uu2,uu3,uu4,uu5,uu6,uu7,uu8⟩) (λhS7=>?_);clear hK K hS7;try simp only[zv,Act.put]
   have Bd7:=bUp Bd6 hb7;have S7:=SX.out.q_ Bd7;have h9:=HLS.out;have hq8:=(hq7.cut h9).mono (show _<=Kn by omega);have tf:=S7.fz;have FG:=zk (zhT (u0:=.bool s7) (u1:=slice x7 n7 c7) (u2:=slice y7 m7 d7) S7);have HF7:=zk ((FB3.out.trans ((HG.out.trans (Fr.of Bd7)).imp (λk e=>Or.inl e))).trans (FG.out.imp (λk e=>Or.inr e)));have HS8:=zk (S7.st (s1:=s7) (x1:=x7) (n1:=n7) (c1:=c7) (y1:=y7) (m1:=m7) (d1:=d7));have HR8:=zk (S7.rn (u0:=.bool s7) (u1:=slice x7 n7 c7) (u2:=slice y7 m7 d7) hq8);have HX8:=zk (FG.out.bk (XK.out.q_ Bd7) ap3);have HK8:=zk ((HK.out.q_ Bd7).fr FG.out ap2);have HQ8:=zk ((HQ2.out.q_ Bd7).fr FG.out ap2)
   clear hq8 hq7 hq6 S7 h9 Bd7 Bd6 hb6 hb7 HK HQ2 HG R0 R1 R2 SX XK WK BK yy0 yy1 yy2 yy3 yy4 yy5 yy6 yy7 yy8 hHeld e0 e1 e2 v0 v1 v2 b4 b5 b6;refine rdP 7 (λK hK=>?_);go_simp;refine hK.out _ _ (λh=>by cases h) (λ_=>?_);clear hK K;try simp only[zv,Act.put]
   refine dnP ?_;clear uu0 uu1 uu2 uu3 uu4 uu5 uu6 uu7 uu8 tf;go_wp2
   go_end0
   exact⟨rfl,HF7.out,⟨HX8.out,HK8.out,HQ8.out,⟨s7,x7,n7,c7,f7,y7,m7,d7,g7,HS8.out,by rw[show cmbS (l++[b])=cmbS l+wtQ b*b.a from zaE _ l b];exact HR8.out⟩,λj=>by rw[hle,<-znK (i:=tk) (by omega)];exact HLQ.out tk j,by rw[hle,show cmbS (l++[b])=cmbS l+wtQ b*b.a from zaE _ l b];exact HLS.out⟩⟩
def fqu (e0 e1 e2 e3:Int) (j:Nat):Int:=if j=0 then e0 else if j=1 then e1 else if j=2 then e2 else e3
theorem zrj {w:World} {e0 e1 e2 e3 t}:El (w.alloc (cells #[.int .i64 e0,.int .i64 e1,.int .i64 e2,.int .i64 e3] t)) (some ⟨w.heap.size,0,none⟩) 4 (fqu e0 e1 e2 e3):=λj hj=>by
 refine⟨_,0,rfl,?_⟩
 match j,hj with
 | 0,_=>simp[go_sem,fqu]
 | 1,_=>simp[go_sem,fqu]
 | 2,_=>simp[go_sem,fqu]
 | 3,_=>simp[go_sem,fqu]
def zit (n k:Int) (k0:Nat) (X0:Nat->Nm) (k1:Nat) (X1:Nat->Nm) (k2:Nat) (X2:Nat->Nm) (k3:Nat) (X3:Nat->Nm):Int:=lsf (fqu (pnE k0 X0 k) (pnE k1 X1 k) (pnE k2 X2 n) (pnE k3 X3 n)) 4
theorem znA {w} {M:Mo} {a0 a1 a2 a3 k0 c0 k1 c1 k2 c2 k3 c3 X0 X1 X2 X3} (h0:Rl w a0 k0 X0) (h1:Rl w a1 k1 X1) (h2:Rl w a2 k2 X2) (h3:Rl w a3 k3 X3) (hk0:k0<=1048576) (hk1:k1<=1048576) (hk2:k2<=1048576) (hk3:k3<=1048576) :
  Calls prog 35 #[M.val,agg #[slice a0 k0 c0,slice a1 k1 c1,slice a2 k2 c2,slice a3 k3 c3]] w λe w'=>e=returned (.int .i64 (zit M.ck M.rk k0 X0 k1 X1 k2 X2 k3 X3))/\Bl w w':=by
 have C0:=zk (λW (hW:Bl w W)=>zcg (w:=W) (cap:=c0) (z:=(M.rk:Int)) (h0.q_ hW) hk0);have C1:=zk (λW (hW:Bl w W)=>zcg (w:=W) (cap:=c1) (z:=(M.rk:Int)) (h1.q_ hW) hk1);have C2:=zk (λW (hW:Bl w W)=>zcg (w:=W) (cap:=c2) (z:=(M.ck:Int)) (h2.q_ hW) hk2);have C3:=zk (λW (hW:Bl w W)=>zcg (w:=W) (cap:=c3) (z:=(M.ck:Int)) (h3.q_ hW) hk3);clear h0 h1 h2 h3;obtain⟨er,her⟩:∃e,zit M.ck M.rk k0 X0 k1 X1 k2 X2 k3 X3=e:=⟨_,rfl⟩;have HE:=zk her;unfold zit at her;obtain⟨⟨s,x,n,c,f,y,m,d,g⟩,ca,ck,cc,C,ra,rk,rc,R⟩:=M;dsimp only at her C0 C1 C2 C3;obtain⟨e0,he0⟩:∃e,pnE k0 X0 (rk:Int)=e:=⟨_,rfl⟩;rw[he0]at C0 her
 clear he0;obtain⟨e1,he1⟩:∃e,pnE k1 X1 (rk:Int)=e:=⟨_,rfl⟩;rw[he1]at C1 her
 clear he1;obtain⟨e2,he2⟩:∃e,pnE k2 X2 (ck:Int)=e:=⟨_,rfl⟩;rw[he2]at C2 her
 clear he2;obtain⟨e3,he3⟩:∃e,pnE k3 X3 (ck:Int)=e:=⟨_,rfl⟩;rw[he3]at C3 her
 clear he3;have HE2:=zk her;clear her;show Calls prog 35 #[agg #[.bool s,slice x n c,slice y m d,slice ca ck cc,slice ra rk rc],agg #[slice a0 k0 c0,slice a1 k1 c1,slice a2 k2 c2,slice a3 k3 c3]] w _;have hb:=zu (zA w (cells #[.bool s,slice x n c,slice y m d,slice ca ck cc,slice ra rk rc] 28)) (cells #[slice a0 k0 c0,slice a1 k1 c1,slice a2 k2 c2,slice a3 k3 c3] 31);have B1:=(zH w [.bool s,slice x n c,slice y m d,slice ca ck cc,slice ra rk rc] 28).q_ (zA _ (cells #[slice a0 k0 c0,slice a1 k1 c1,slice a2 k2 c2,slice a3 k3 c3] 31));have B2:=zaV w (cells #[.bool s,slice x n c,slice y m d,slice ca ck cc,slice ra rk rc] 28) [slice a0 k0 c0,slice a1 k1 c1,slice a2 k2 c2,slice a3 k3 c3] 31;have HB:=zk hb;have HB1:=zk B1;have HB2:=zk B2
 clear hb B1 B2;go_enter func35,ntmps35;go_upto_region 1 with fail
 generalize((w.alloc (cells #[.bool s,slice x n c,slice y m d,slice ca ck cc,slice ra rk rc] 28)).alloc (cells #[slice a0 k0 c0,slice a1 k1 c1,slice a2 k2 c2,slice a3 k3 c3] 31))=w1 at *;obtain⟨-,-,-,s3,s4⟩:=bk5 HB1.out
 go_quiet (fail)
 clear s3 s4;go_upto_region 2 with fail
 have hbq:=zK (Below.refl w1.heap.size w1) nq;generalize w1.drewN nq=w2 at *;have hbd:=Below.drew (Below.refl w2.heap.size w2);replace hbq:=bUp hbq hbd;replace HB:=zI HB hbq;replace HB2:=zk (HB2.out.q_ hbq)
 clear hbq hbd HB1;obtain⟨r0,r1,r2,r3⟩:=bk4 HB2.out;refine wp_region_held_drew (S:=(λw'=>w'.cell? ⟨w.heap.size+1,0,none⟩=some (slice a0 k0 c0)/\w'.cell? ⟨w.heap.size+1,1,none⟩=some (slice a1 k1 c1)/\w'.cell? ⟨w.heap.size+1,2,none⟩=some (slice a2 k2 c2)/\w'.cell? ⟨w.heap.size+1,3,none⟩=some (slice a3 k3 c3))) (by kernel_rfl) ?_ (λhHeld=>?_)
 ·exact⟨r0,r1,r2,r3⟩
 generalize w2.drew=wd at *;have HW:=zk (Below.refl wd.heap.size wd);replace C0:=zk (λW (hW:Bl wd W)=>C0.out W (bUp HB.out hW));replace C1:=zk (λW (hW:Bl wd W)=>C1.out W (bUp HB.out hW));replace C2:=zk (λW (hW:Bl wd W)=>C2.out W (bUp HB.out hW));replace C3:=zk (λW (hW:Bl wd W)=>C3.out W (bUp HB.out hW));refine zB 0 ?_;refine zB 1 ?_;refine zB 2 ?_;simp only[zv,Act.put];refine zB 4 ?_;refine zB 5 ?_;refine zB 6 ?_;simp only[zv,Act.put];refine zB 8 ?_;refine zB 9 ?_;refine zB 10 ?_;simp only[zv,Act.put];refine zB 12 ?_;refine zB 13 ?_;refine zB 14 ?_;simp only[zv,Act.put];refine rdO 3 (λK hK=>?_);go_simp
 go_at_call 73
 refine(C0.out _ HW.out).mono ?_;rintro e w2 ⟨rfl,hb0⟩;have HW0:=zI HW hb0
 (try go_wp2_with fail)
 refine hK.out _ _ ?_ (λhH0=>?_)
 ·((try dsimp only);(refine⟨?_,?_,?_,?_⟩ <;> repeat(with_reducible first|assumption|refine kCb (by assumption) ?_)))
 clear hK K;try simp only[zv,Act.put]
 refine rdO 7 (λK hK=>?_);go_simp
 go_at_call 73
 refine(C1.out _ HW0.out).mono ?_;rintro e w3 ⟨rfl,hb1⟩;have HW1:=zI HW0 hb1
 (try go_wp2_with fail)
 refine hK.out _ _ ?_ (λhH1=>?_)
 ·((try dsimp only);(refine⟨?_,?_,?_,?_⟩ <;> repeat(with_reducible first|assumption|refine kCb (by assumption) ?_)))
 clear hK K;try simp only[zv,Act.put]
 refine rdO 11 (λK hK=>?_);go_simp
 go_at_call 73
 refine(C2.out _ HW1.out).mono ?_;rintro e w4 ⟨rfl,hb2⟩;have HW2:=zI HW1 hb2
 (try go_wp2_with fail)
 refine hK.out _ _ ?_ (λhH2=>?_)
 ·((try dsimp only);(refine⟨?_,?_,?_,?_⟩ <;> repeat(with_reducible first|assumption|refine kCb (by assumption) ?_)))
 clear hK K;try simp only[zv,Act.put]
 refine rdO 15 (λK hK=>?_);go_simp
 go_at_call 73
 refine(C3.out _ HW2.out).mono ?_;rintro e w5 ⟨rfl,hb3⟩;have HW3:=zI HW2 hb3
 (try go_wp2_with fail)
 refine hK.out _ _ ?_ (λhH3=>?_)
 ·((try dsimp only);(refine⟨?_,?_,?_,?_⟩ <;> repeat(with_reducible first|assumption|refine kCb (by assumption) ?_)))
 clear hK K;try simp only[zv,Act.put]
 refine rdO 16 (λK hK=>?_);go_simp;have hbA:=zA w5 (cells #[.int .i64 e0,.int .i64 e1,.int .i64 e2,.int .i64 e3] 35);have HEl:=zk (zrj (w:=w5) (e0:=e0) (e1:=e1) (e2:=e2) (e3:=e3) (t:=35));have HWA:=zI HW3 hbA;obtain⟨gA,hgA⟩:∃z,w5.heap.size=z:=⟨_,rfl⟩;rw[hgA]at HEl ⊢
 generalize hwA:w5.alloc (cells #[.int .i64 e0,.int .i64 e1,.int .i64 e2,.int .i64 e3] 35)=wA at *;clear hwA hgA;refine hK.out _ _ ?_ (λhHA=>?_)
 ·((try dsimp only);(refine⟨?_,?_,?_,?_⟩ <;> repeat(with_reducible first|assumption|refine kCb (by assumption) ?_)))
 clear hK K;try simp only[zv,Act.put]
 refine rdO 17 (λK hK=>?_);go_simp
 go_at_call 34
 refine(zkm HEl.out (by decide)).mono ?_;rintro e w9 ⟨rfl,rfl⟩
 (try go_wp2_with fail)
 refine hK.out _ _ ?_ (λhHB=>?_)
 ·exact hHA
 clear hK K;try simp only[zv,Act.put]
 refine zB 18 ?_;simp only[zv,Act.put];refine dnO ?_;simp only[show lsf (fqu e0 e1 e2 e3) 4=er from HE2.out];have HF:=zI HB HWA.out;clear hHeld hH0 hH1 hH2 hH3 hHA hHB hb0 hb1 hb2 hb3 hbA r0 r1 r2 r3 HEl C0 C1 C2 C3 HW HW0 HW1 HW2 HW3 HE2 HWA HB HB2;go_wp2;go_ret;exact⟨by rw[HE.out];rfl,HF.out⟩
def cbE (M:Mo) (k0:Nat) (X0:Nat->Nm) (k1:Nat) (X1:Nat->Nm) (k2:Nat) (X2:Nat->Nm) (k3:Nat) (X3:Nat->Nm):Int:=lsf (two (zar M) (zit M.ck M.rk k0 X0 k1 X1 k2 X2 k3 X3)) 2
def bdA (cs:List CV) (rs:List RV) (l0 l1 l2 l3:List Rat):List BV:=bdR rs l0 l1++bdC 0 cs l2 l3
def KC (L:Nat):Nat:=4+256*(2*L+2)
def CmbAns (L:Nat) (w w':World) (e:Ending) (er:Int) (cs:List CV) (bs:List BV):Prop:=Bl w w' /\
 ((er≠0/\e=returned (.tuple #[slice none 0 0,agg #[.bool false,slice none 0 0,slice none 0 0],.int .i64 er]))∨(er=0/\bs.any infB=true/\e=returned (.tuple #[slice none 0 0,agg #[.bool false,slice none 0 0,slice none 0 0],.int .i64 8])) ∨
  (er=0/\bs.any infB=false/\∃B s x n c f y m d g,(w.heap.size<=B/\B<w'.heap.size)/\e=returned (.tuple #[slice (some ⟨B,0,none⟩) cs.length cs.length,agg #[.bool s,slice x n c,slice y m d],.int .i64 0])/\Rf (KC L) w' (some ⟨B,0,none⟩) ((List.range cs.length).map (cmbQ bs))/\Rn (KC L) w' s x n c f y m d g (cmbS bs)))
theorem Bk.sx {w B s x n c y m d t} (h:Bk w B [.bool s,slice x n c,slice y m d] t):Sx w B s x n c y m d:=⟨h.lt,h.cell (j:=0) rfl,h.cell (j:=1) rfl,h.cell (j:=2) rfl,h.frozen⟩
theorem Ob.sx {w B} (h:Ob w B):Sx w B false none 0 0 none 0 0:=⟨h.z,h.z0,h.z1,h.z2,h.zf⟩
theorem Ob.fr {F w w' B} (h:Ob w B) (hf:Fr F w w') (hn:¬F B):Ob w' B:=by
 have:=h.sx.fr hf hn;exact⟨this.z,this.x0,this.x1,this.x2,this.fz⟩
theorem Rq.mono {K L w B i Q} (h:Rq K w B i Q) (hk:K<=L):Rq L w B i Q:=λj hj=>by
 obtain⟨t,h1,h2⟩:=h j hj;exact⟨t,h1,h2.mono hk⟩
theorem zcV {α:Type} (f:Nat->α) (n j:Nat) (h:j<n):((List.range n).map f)[j]?=some (f j):=by simp[h]
theorem zdi {w L M off cs rs a0 a1 a2 a3 k0 c0 k1 c1 k2 c2 k3 c3 X0 X1 X2 X3 l0 l1 l2 l3 er} (hW:MoW w M) (h0:Rl w a0 k0 X0) (h1:Rl w a1 k1 X1) (h2:Rl w a2 k2 X2) (h3:Rl w a3 k3 X3) (hk0:k0<=1048576) (hk1:k1<=1048576) (hk2:k2<=1048576) (hk3:k3<=1048576) (he:cbE M k0 X0 k1 X1 k2 X2 k3 X3=er) (hv:er=0->MoV L w M off cs rs/\zbC cs rs=true/\(Rf L w a0 l0/\Rf L w a1 l1/\Rf L w a2 l2/\Rf L w a3 l3)/\(l0.length=k0/\l1.length=k1/\l2.length=k2/\l3.length=k3)/\(k0=rs.length/\k1=rs.length/\k2=cs.length/\k3=cs.length)) (hL1:4<=L) (hL2:L<=100) :
  Calls prog 12 #[M.val,agg #[slice a0 k0 c0,slice a1 k1 c1,slice a2 k2 c2,slice a3 k3 c3]] w λe w'=>CmbAns L w w' e er cs (bdA cs rs l0 l1 l2 l3):=by
 have CC:=zk (λW (hW2:Bl w W)=>zhH (hW.q_ hW2));have CN:=zk (λW (hW2:Bl w W)=>znA (M:=M) (c0:=c0) (c1:=c1) (c2:=c2) (c3:=c3) (h0.q_ hW2) (h1.q_ hW2) (h2.q_ hW2) (h3.q_ hW2) hk0 hk1 hk2 hk3);have HE:=zk he;unfold cbE at he;obtain⟨e0,he0⟩:∃e,zar M=e:=⟨_,rfl⟩;rw[he0]at CC he
 obtain⟨e1,he1⟩:∃e,zit M.ck M.rk k0 X0 k1 X1 k2 X2 k3 X3=e:=⟨_,rfl⟩;rw[he1]at CN he
 have HE2:=zk he;have HV:=zk hv
 clear hW h0 h1 h2 h3 he he0 he1 hv;obtain⟨⟨s,x,n,c,f,y,m,d,g⟩,ca,ck,cc,C,ra,rk,rc,R⟩:=M;replace CC:Hid (∀W,Bl w W->Calls prog 24 #[agg #[.bool s,slice x n c,slice y m d,slice ca ck cc,slice ra rk rc]] W λr w'=>r=returned (.int .i64 e0)/\Bl W w'):=CC;replace CN:Hid (∀W,Bl w W->Calls prog 35 #[agg #[.bool s,slice x n c,slice y m d,slice ca ck cc,slice ra rk rc],agg #[slice a0 k0 c0,slice a1 k1 c1,slice a2 k2 c2,slice a3 k3 c3]] W λr w'=>r=returned (.int .i64 e1)/\Bl W w'):=CN;show Calls prog 12 #[agg #[.bool s,slice x n c,slice y m d,slice ca ck cc,slice ra rk rc],agg #[slice a0 k0 c0,slice a1 k1 c1,slice a2 k2 c2,slice a3 k3 c3]] w _;have hb:=zu (zu (zA w (cells #[.bool s,slice x n c,slice y m d,slice ca ck cc,slice ra rk rc] 28)) (cells #[slice a0 k0 c0,slice a1 k1 c1,slice a2 k2 c2,slice a3 k3 c3] 31)) (cells #[.bool false,slice none 0 0,slice none 0 0] 24);have B1:Bk (((w.alloc (cells #[.bool s,slice x n c,slice y m d,slice ca ck cc,slice ra rk rc] 28)).alloc (cells #[slice a0 k0 c0,slice a1 k1 c1,slice a2 k2 c2,slice a3 k3 c3] 31)).alloc (cells #[.bool false,slice none 0 0,slice none 0 0] 24)) w.heap.size [.bool s,slice x n c,slice y m d,slice ca ck cc,slice ra rk rc] 28:=((zH w [.bool s,slice x n c,slice y m d,slice ca ck cc,slice ra rk rc] 28).q_ (zu (Below.refl _ _) _)).q_ (zu (Below.refl _ _) _);have B2:Bk (((w.alloc (cells #[.bool s,slice x n c,slice y m d,slice ca ck cc,slice ra rk rc] 28)).alloc (cells #[slice a0 k0 c0,slice a1 k1 c1,slice a2 k2 c2,slice a3 k3 c3] 31)).alloc (cells #[.bool false,slice none 0 0,slice none 0 0] 24)) (w.heap.size+1) [slice a0 k0 c0,slice a1 k1 c1,slice a2 k2 c2,slice a3 k3 c3] 31:=by
  have:=zH (w.alloc (cells #[.bool s,slice x n c,slice y m d,slice ca ck cc,slice ra rk rc] 28)) [slice a0 k0 c0,slice a1 k1 c1,slice a2 k2 c2,slice a3 k3 c3] 31;rw[zw]at this;exact this.q_ (zu (Below.refl _ _) _)
 have hob:Ob (((w.alloc (cells #[.bool s,slice x n c,slice y m d,slice ca ck cc,slice ra rk rc] 28)).alloc (cells #[slice a0 k0 c0,slice a1 k1 c1,slice a2 k2 c2,slice a3 k3 c3] 31)).alloc (cells #[.bool false,slice none 0 0,slice none 0 0] 24)) (w.heap.size+1+1):=by
  have:=zaF ((w.alloc (cells #[.bool s,slice x n c,slice y m d,slice ca ck cc,slice ra rk rc] 28)).alloc (cells #[slice a0 k0 c0,slice a1 k1 c1,slice a2 k2 c2,slice a3 k3 c3] 31)) 24;rw[zw,zw]at this;exact this
 have HB:=zk hb;have BM:=zk B1;have BK:=zk B2;have OB:=zk hob
 clear hb B1 B2 hob;go_enter func12,ntmps12;go_upto_region 1 with fail
 generalize(((w.alloc (cells #[.bool s,slice x n c,slice y m d,slice ca ck cc,slice ra rk rc] 28)).alloc (cells #[slice a0 k0 c0,slice a1 k1 c1,slice a2 k2 c2,slice a3 k3 c3] 31)).alloc (cells #[.bool false,slice none 0 0,slice none 0 0] 24))=w1 at *;have hbd:=Below.drew (Below.refl w1.heap.size w1);replace HB:=zI HB hbd;replace BM:=zk (BM.out.q_ hbd);replace BK:=zk (BK.out.q_ hbd);replace OB:=zk (OB.out.q_ hbd)
 clear hbd;obtain⟨r0,r1,r2,r3,r4⟩:=bk5 BM.out;obtain⟨p0,p1,p2,p3⟩:=bk4 BK.out;refine wp_region_held_drew (S:=(λw'=>w'.cell? ⟨w.heap.size,0,none⟩=some (.bool s)/\w'.cell? ⟨w.heap.size,1,none⟩=some (slice x n c)/\w'.cell? ⟨w.heap.size,2,none⟩=some (slice y m d)/\w'.cell? ⟨w.heap.size,3,none⟩=some (slice ca ck cc)/\w'.cell? ⟨w.heap.size,4,none⟩=some (slice ra rk rc)/\w'.cell? ⟨w.heap.size+1,0,none⟩=some (slice a0 k0 c0)/\w'.cell? ⟨w.heap.size+1,1,none⟩=some (slice a1 k1 c1)/\w'.cell? ⟨w.heap.size+1,2,none⟩=some (slice a2 k2 c2)/\w'.cell? ⟨w.heap.size+1,3,none⟩=some (slice a3 k3 c3))) (by kernel_rfl) ?_ (λhHeld=>?_)
 ·exact⟨r0,r1,r2,r3,r4,p0,p1,p2,p3⟩
 generalize w1.drew=wd at *;have HW:=zk (Below.refl wd.heap.size wd);replace CC:=zk (λW (hW:Bl wd W)=>CC.out W (bUp HB.out hW));replace CN:=zk (λW (hW:Bl wd W)=>CN.out W (bUp HB.out hW));refine zB 0 ?_;refine zB 2 ?_;refine zB 3 ?_;simp only[zv,Act.put];refine rdO 1 (λK hK=>?_);go_simp
 go_at_call 24
 refine(CC.out _ HW.out).mono ?_;rintro e w2 ⟨rfl,hb0⟩;have HW0:=zI HW hb0
 (try go_wp2_with fail)
 refine hK.out _ _ ?_ (λhH0=>?_)
 ·((try dsimp only);(refine⟨?_,?_,?_,?_,?_,?_,?_,?_,?_⟩ <;> repeat(with_reducible first|assumption|refine kCb (by assumption) ?_)))
 clear hK K;try simp only[zv,Act.put]
 refine rdO 4 (λK hK=>?_);go_simp
 go_at_call 35
 refine(CN.out _ HW0.out).mono ?_;rintro e w3 ⟨rfl,hb1⟩;have HW1:=zI HW0 hb1
 (try go_wp2_with fail)
 refine hK.out _ _ ?_ (λhH1=>?_)
 ·((try dsimp only);(refine⟨?_,?_,?_,?_,?_,?_,?_,?_,?_⟩ <;> repeat(with_reducible first|assumption|refine kCb (by assumption) ?_)))
 clear hK K;try simp only[zv,Act.put]
 refine rdO 5 (λK hK=>?_);go_simp;have hbA:=zA w3 (cells #[.int .i64 e0,.int .i64 e1] 35);have HEl:=zk (ziP (w:=w3) (a:=e0) (b:=e1) (t:=35));have HWA:=zI HW1 hbA;obtain⟨gA,hgA⟩:∃z,w3.heap.size=z:=⟨_,rfl⟩;rw[hgA]at HEl ⊢
 generalize hwA:w3.alloc (cells #[.int .i64 e0,.int .i64 e1] 35)=wA at *;clear hwA hgA;refine hK.out _ _ ?_ (λhHA=>?_)
 ·((try dsimp only);(refine⟨?_,?_,?_,?_,?_,?_,?_,?_,?_⟩ <;> repeat(with_reducible first|assumption|refine kCb (by assumption) ?_)))
 clear hK K;try simp only[zv,Act.put]
 refine rdO 6 (λK hK=>?_);go_simp
 go_at_call 34
 refine(zkm HEl.out (by decide)).mono ?_;rintro e w9 ⟨rfl,rfl⟩
 (try go_wp2_with fail)
 refine hK.out _ _ ?_ (λhHB=>?_)
 ·exact hHA
 clear hK K;try simp only[zv,Act.put]
 refine zB 7 ?_;simp only[zv,Act.put];refine dnO ?_;simp only[show lsf (two e0 e1) 2=er from HE2.out];replace HB:=zI HB HWA.out;replace BM:=zk (BM.out.q_ HWA.out);replace BK:=zk (BK.out.q_ HWA.out);replace OB:=zk (OB.out.q_ HWA.out)
 clear hHeld hH0 hH1 hHA hHB hb0 hb1 hbA r0 r1 r2 r3 r4 p0 p1 p2 p3 HEl CC CN HW HW0 HW1 HE2 HWA;by_cases h0:er=0
 case neg =>
  have h1:(er != 0)=true:=by simpa using h0
  have H0:=zk h0;obtain⟨hz,z0,z1,z2,zf⟩:=OB.out;go_wp2;exact bodyPost_ret (v:=.tuple #[slice none 0 0,agg #[.bool false,slice none 0 0,slice none 0 0],.int .i64 er]) (by simp[results,results12,go_sem,z0,z1,z2]) rfl ⟨zZ HB.out (by omega),.inl ⟨H0.out,rfl⟩⟩
 obtain⟨v1,v2,⟨x0,x1,x2,x3⟩,hl,hkk⟩:=HV.out h0;have mp:=zbB v2;have hTS:∀v ∈ rs,tsB cs.length (-1) v.ts=true:=λv hv=>by
  simp only[zbC,Bool.and_eq_true,decide_eq_true_eq,List.all_eq_true]at v2;exact(v2.2.2.2.1 v hv).2.1
 subst h0;have hck:ck=cs.length:=v1.ck;have hrk:rk=rs.length:=v1.rk;subst hck;subst hrk
 have hcn:=mp.cl;have HM:=zk v1;have HP:=zk mp;have HTS:=zk hTS;have HX:=zk (And.intro x0 (And.intro x1 (And.intro x2 x3)));have HL:=zk hl;have HK:=zk hkk
 clear v1 v2 x0 x1 x2 x3 hl hkk mp hTS HV;obtain⟨r0,r1,r2,r3,r4⟩:=bk5 BM.out;obtain⟨p0,p1,p2,p3⟩:=bk4 BK.out;go_wp2_with fail
 clear r0 r1 r2 r3 r4 p0 p1 p2 p3
 go_at_call 36
 refine(zoc (HM.out.q_ HB.out) HP.out HTS.out (HX.out.1.q_ HB.out) (HX.out.2.1.q_ HB.out) (HX.out.2.2.1.q_ HB.out) (HX.out.2.2.2.q_ HB.out) HL.out HK.out hL1).mono ?_;rintro e w2 ⟨rfl,hb2⟩;replace HB:=zI HB hb2;replace BM:=zk (BM.out.q_ hb2);replace BK:=zk (BK.out.q_ hb2);replace OB:=zk (OB.out.q_ hb2)
 clear hb2;obtain⟨ib,hib⟩:∃t,(bdR rs l0 l1++bdC 0 cs l2 l3).any infB=t:=⟨_,rfl⟩;rw[hib];have HIB:=zk hib;clear hib;cases ib
 case true =>
  obtain⟨hz,z0,z1,z2,zf⟩:=OB.out;go_wp2;exact bodyPost_ret (v:=.tuple #[slice none 0 0,agg #[.bool false,slice none 0 0,slice none 0 0],.int .i64 8]) (by simp[results,results12,go_sem,z0,z1,z2]) rfl ⟨zZ HB.out (by omega),.inr (.inl ⟨rfl,HIB.out,rfl⟩)⟩
 have r3:=BM.out.cell (j:=3) rfl;go_wp2_with fail
 clear r3
 go_at_call 37
 refine(zbW hcn).mono ?_;rintro e w3 ⟨BL,rfl,hBL,hb3,hrk3,hrq3⟩;have hOB:=OB.out.z;have hBL2:w.heap.size<=BL:=le_trans HB.out.size hBL;have hBLO:w.heap.size+1+1<BL:=Nat.lt_of_lt_of_le hOB hBL;replace HB:=zI HB hb3;replace BM:=zk (BM.out.q_ hb3);replace BK:=zk (BK.out.q_ hb3);replace OB:=zk (OB.out.q_ hb3)
 have RK:=zk hrk3;have RQ:=zk hrq3
 clear hb3 hrk3 hrq3 hOB hBL;go_wp2_with fail
 go_at_call 38
 refine(zfH (z:=0) (by decide) (by decide)).mono ?_;rintro e w4 ⟨s9,x9,n9,c9,f9,y9,m9,d9,g9,rfl,hb4,hq4⟩;have hBL4:BL<w4.heap.size:=Nat.lt_of_lt_of_le RK.out.z hb4.size;go_upto_region 7 with fail
 have hbn:=zu (zA w4 (cells #[slice (some ⟨BL,0,none⟩) cs.length cs.length] 29)) (cells #[.bool s9,slice x9 n9 c9,slice y9 m9 d9] 24);have hb45:=bUp hb4 hbn;have BXL:=(zH w4 [slice (some ⟨BL,0,none⟩) cs.length cs.length] 29).q_ (zA _ (cells #[.bool s9,slice x9 n9 c9,slice y9 m9 d9] 24));have BXR:=zaV w4 (cells #[slice (some ⟨BL,0,none⟩) cs.length cs.length] 29) [.bool s9,slice x9 n9 c9,slice y9 m9 d9] 24;replace HB:=zI HB hb45;replace BM:=zk (BM.out.q_ hb45);replace BK:=zk (BK.out.q_ hb45);replace OB:=zk (OB.out.q_ hb45)
 have CI:Hid (CmI (KC L) (2*L+2) cs.length BL w4.heap.size (w4.heap.size+1) [] ((w4.alloc (cells #[slice (some ⟨BL,0,none⟩) cs.length cs.length] 29)).alloc (cells #[.bool s9,slice x9 n9 c9,slice y9 m9 d9] 24))):=⟨BXL,RK.out.q_ hb45,(RQ.out.q_ hb45).mono (by unfold KC;omega),⟨s9,x9,n9,c9,f9,y9,m9,d9,g9,BXR.sx,(hq4.q_ hbn).mono (by unfold KC;omega)⟩,λ_=>zhq (by omega),zhq (by omega)⟩;have hz5:=BXR.lt;clear hb4 hq4 hbn hb45 BXL BXR RK RQ;generalize hw5:((w4.alloc (cells #[slice (some ⟨BL,0,none⟩) cs.length cs.length] 29)).alloc (cells #[.bool s9,slice x9 n9 c9,slice y9 m9 d9] 24))=w5 at *;clear hw5;generalize w4.heap.size=xl at *;obtain⟨r0,r1,r2,r3,r4⟩:=bk5 BM.out;obtain⟨p0,p1,p2,p3⟩:=bk4 BK.out;go_wp2_with fail
 clear r0 r1 r2 r3 r4 p0 p1 p2 p3
 go_at_call 39
 have hF:∀k,(k=BL∨k=xl+1)->w.heap.size<=k/\k<w5.heap.size:=λk hk=>by rcases hk with rfl|rfl <;> exact⟨by omega,by omega⟩
 refine(zdX (w0:=w) (F:=λk=>k=BL∨k=xl+1) (I:=CmI (KC L) (2*L+2) cs.length BL xl (xl+1)) HB.out hF HM.out HP.out HTS.out HX.out.1 HX.out.2.1 HX.out.2.2.1 HX.out.2.2.2 HL.out HK.out hL1 (λ_ _=>rfl) (λl W W' h hb=>h.q_ hb) (λl b B W hlen hts hnf hbW hsz hI hB=>zoG hlen hts hnf hI hB (by omega) hL2 (by unfold KC;omega) (by unfold KC;omega) hcn (by omega) (by omega) (by omega)) CI.out).mono ?_;rintro e w6 ⟨rfl,hf,hI⟩;obtain⟨hxl,hrk,hrq,⟨s7,x7,n7,c7,f7,y7,m7,d7,g7,hsx,hrn⟩,_,_⟩:=hI;have HB6:=zk (Fr.q_ HB.out hf (λk hk=>(hF k hk).1));have OB6:=zk (OB.out.fr hf (λe=>by rcases e with e|e <;> omega));have RQ:=zk hrq;have RN:=zk hrn;have RK:=zk hrk
 have e0:=hxl.cell (j:=0) rfl;have v0:=hsx.x0;have v1:=hsx.x1;have v2:=hsx.x2
 clear hf hxl hrk hrq hsx hrn HB OB CI hF;go_upto_region 8 with fail
 have hbd:=Below.drew (Below.refl w6.heap.size w6);replace HB6:=zI HB6 hbd;replace OB6:=zk (OB6.out.q_ hbd);replace RQ:=zk (RQ.out.q_ hbd);replace RN:=zk (RN.out.q_ hbd);replace RK:=zk (RK.out.q_ hbd)
 clear hbd;refine zaa (S:=(λw'=>w'.cell? ⟨xl,0,none⟩=some (slice (some ⟨BL,0,none⟩) cs.length cs.length)/\w'.cell? ⟨xl+1,0,none⟩=some (.bool s7)/\w'.cell? ⟨xl+1,1,none⟩=some (slice x7 n7 c7)/\w'.cell? ⟨xl+1,2,none⟩=some (slice y7 m7 d7))) 3 (by kernel_rfl) ⟨kCd e0,kCd v0,kCd v1,kCd v2⟩ (λhHeld=>?_);clear e0 v0 v1 v2;generalize w6.drew=w7 at *;refine tkP 0 ?_;refine tkP 1 ?_;refine skP 2 ?_;simp only[zv,Act.put];refine rdP 3 (λK hK=>?_);obtain⟨hz,z0,z1,z2,zf⟩:=OB6.out;go_simp;refine hK.out _ _ (λh=>by cases h) (λ_=>?_);clear hK K;try simp only[zv,Act.put]
 refine zes (i:=4) (v:=?_) rfl (by kernel_rfl) (by kernel_rfl) (by kernel_rfl) (by kernel_rfl) (λ_ _ _ h=>h) (Or.inl ⟨by rfl,?_⟩) (λh=>by cases h) ?_;rotate_left
 (focus (intro w0 hSw;go_simp <;> with_reducible rfl))
 simp only[List.getElem_toArray,List.getElem_cons_succ,List.getElem_cons_zero,Act.put,List.setIfInBounds_toArray,List.set_cons_zero,List.set_cons_succ];refine dnP ?_;clear hHeld;have FG:=zk (zhT (u0:=.bool s7) (u1:=slice x7 n7 c7) (u2:=slice y7 m7 d7) OB6.out.sx);go_wp2;exact bodyPost_ret (v:=.tuple #[slice (some ⟨BL,0,none⟩) cs.length cs.length,agg #[.bool s7,slice x7 n7 c7,slice y7 m7 d7],.int .i64 0]) (by simp[results,results12,go_sem,z0,z1,z2]) rfl ⟨zZ HB6.out (by omega),.inr (.inr ⟨rfl,HIB.out,BL,s7,x7,n7,c7,f7,y7,m7,d7,g7,⟨hBL2,by simpa[World.setCell]using RK.out.z⟩,rfl,(RQ.out.fr FG.out (by omega)).rf (by simp) (λj hj=>zcV _ _ _ hj),OB6.out.rn RN.out⟩)⟩
def vldB (er:Int) (n:Nat) (bs:List BV):Bool:=decide (er=0) && (!bs.any infB && (!bs.any negB && (((List.range n).map (cmbQ bs)).all (λq=>decide (q=0)) && decide (0<cmbS bs))))
theorem zqR {L w s x n c f y m d g q} (h:Rn L w s x n c f y m d g q):(!s && !decide (n=0))=decide (0<q):=by
 have h1:=h.sg;have h2:=h.q_zero
 rw[h1];by_cases hz:q=0
 ·have:=h2.1 hz;subst hz;simp[this]
 ·have h3:n≠0:=λe=>hz (h2.2 e)
  rcases(show q<0∨0<q by grind)with h|h
  ·have:¬(0<q):=λe=>by grind
   simp[h,this]
  ·have:¬(q<0):=λe=>by grind
   simp[this,h,h3]
theorem znB {w L M off cs rs a0 a1 a2 a3 k0 c0 k1 c1 k2 c2 k3 c3 X0 X1 X2 X3 l0 l1 l2 l3 er} (hW:MoW w M) (h0:Rl w a0 k0 X0) (h1:Rl w a1 k1 X1) (h2:Rl w a2 k2 X2) (h3:Rl w a3 k3 X3) (hk0:k0<=1048576) (hk1:k1<=1048576) (hk2:k2<=1048576) (hk3:k3<=1048576) (he:cbE M k0 X0 k1 X1 k2 X2 k3 X3=er) (hv:er=0->MoV L w M off cs rs/\zbC cs rs=true/\(Rf L w a0 l0/\Rf L w a1 l1/\Rf L w a2 l2/\Rf L w a3 l3)/\(l0.length=k0/\l1.length=k1/\l2.length=k2/\l3.length=k3)/\(k0=rs.length/\k1=rs.length/\k2=cs.length/\k3=cs.length)) (hL1:4<=L) (hL2:L<=100) :
  Calls prog 8 #[M.val,agg #[slice a0 k0 c0,slice a1 k1 c1,slice a2 k2 c2,slice a3 k3 c3]] w λe w'=>e=returned (.tuple #[.bool (decide (zar M=0) && vldB er cs.length (bdA cs rs l0 l1 l2 l3)),.int .i64 (zar M)])/\Bl w w':=by
 have CC:=zk (λW (hW2:Bl w W)=>zhH (hW.q_ hW2));have CB:=zk (λW (hW2:Bl w W)=>zdi (c0:=c0) (c1:=c1) (c2:=c2) (c3:=c3) (hW.q_ hW2) (h0.q_ hW2) (h1.q_ hW2) (h2.q_ hW2) (h3.q_ hW2) hk0 hk1 hk2 hk3 he (λh=>by obtain⟨v1,v2,⟨x0,x1,x2,x3⟩,hl,hk⟩:=hv h;exact⟨v1.q_ hW2,v2,⟨x0.q_ hW2,x1.q_ hW2,x2.q_ hW2,x3.q_ hW2⟩,hl,hk⟩) hL1 hL2);have HV:=zk hv;clear hW h0 h1 h2 h3 he hv;obtain⟨e0,he0⟩:∃e,zar M=e:=⟨_,rfl⟩;rw[he0]at CC ⊢
 clear he0;obtain⟨bs,hbs⟩:∃t,bdA cs rs l0 l1 l2 l3=t:=⟨_,rfl⟩;rw[hbs]at CB ⊢
 have HBS:=zk hbs;clear hbs;obtain⟨⟨s,x,n,c,f,y,m,d,g⟩,ca,ck,cc,C,ra,rk,rc,R⟩:=M;replace CC:Hid (∀W,Bl w W->Calls prog 24 #[agg #[.bool s,slice x n c,slice y m d,slice ca ck cc,slice ra rk rc]] W λr w'=>r=returned (.int .i64 e0)/\Bl W w'):=CC;replace CB:Hid (∀W,Bl w W->Calls prog 12 #[agg #[.bool s,slice x n c,slice y m d,slice ca ck cc,slice ra rk rc],agg #[slice a0 k0 c0,slice a1 k1 c1,slice a2 k2 c2,slice a3 k3 c3]] W λe w'=>CmbAns L W w' e er cs bs):=CB;show Calls prog 8 #[agg #[.bool s,slice x n c,slice y m d,slice ca ck cc,slice ra rk rc],agg #[slice a0 k0 c0,slice a1 k1 c1,slice a2 k2 c2,slice a3 k3 c3]] w _;have hb:=zu (zA w (cells #[.bool s,slice x n c,slice y m d,slice ca ck cc,slice ra rk rc] 28)) (cells #[slice a0 k0 c0,slice a1 k1 c1,slice a2 k2 c2,slice a3 k3 c3] 31);have B1:=(zH w [.bool s,slice x n c,slice y m d,slice ca ck cc,slice ra rk rc] 28).q_ (zA _ (cells #[slice a0 k0 c0,slice a1 k1 c1,slice a2 k2 c2,slice a3 k3 c3] 31));have B2:=zaV w (cells #[.bool s,slice x n c,slice y m d,slice ca ck cc,slice ra rk rc] 28) [slice a0 k0 c0,slice a1 k1 c1,slice a2 k2 c2,slice a3 k3 c3] 31;have HB:=zk hb;have BM:=zk B1;have BK:=zk B2
 clear hb B1 B2;go_enter func8,ntmps8;go_upto_region 1 with fail
 generalize((w.alloc (cells #[.bool s,slice x n c,slice y m d,slice ca ck cc,slice ra rk rc] 28)).alloc (cells #[slice a0 k0 c0,slice a1 k1 c1,slice a2 k2 c2,slice a3 k3 c3] 31))=w1 at *;obtain⟨r0,r1,r2,r3,r4⟩:=bk5 BM.out;go_wp2_with fail
 clear r0 r1 r2 r3 r4
 go_at_call 24
 refine(CC.out _ HB.out).mono ?_;rintro e w2 ⟨rfl,hb2⟩;replace HB:=zI HB hb2;replace BM:=zk (BM.out.q_ hb2);replace BK:=zk (BK.out.q_ hb2)
 clear hb2;clear CC;by_cases h0:e0=0
 case neg =>
  have h1:(e0 != 0)=true:=by simpa using h0
  have HE:Hid (decide (e0=0)=false):=decide_eq_false h0;clear h0;go_wp2
  go_ret2
  exact⟨by rw[HE.out];rfl,HB.out⟩
 subst h0;obtain⟨r0,r1,r2,r3,r4⟩:=bk5 BM.out;obtain⟨p0,p1,p2,p3⟩:=bk4 BK.out;go_wp2_with fail
 clear r0 r1 r2 r3 r4;clear p0 p1 p2 p3
 go_at_call 12
 refine(CB.out _ HB.out).mono ?_;clear CB;rintro e w3 ⟨hb3,⟨h0,rfl⟩|⟨h0,hinf,rfl⟩|⟨h0,hinf,B,s7,x7,n7,c7,f7,y7,m7,d7,g7,hBB,rfl,hrf,hrn⟩⟩
 ·have h1:(er != 0)=true:=by simpa using h0
  have HE:Hid (vldB er cs.length bs=false):=by show _=_;rw[vldB,decide_eq_false h0];rfl
  have HF:=zk (zu (bUp HB.out hb3) (cells #[.bool false,slice none 0 0,slice none 0 0] 24));clear h0 hb3 HB BM BK;go_wp2
  go_ret2
  exact⟨by rw[HE.out];rfl,HF.out⟩
 ·have HE:Hid (vldB er cs.length bs=false):=by show _=_;rw[vldB,hinf];simp
  have HF:=zk (zu (bUp HB.out hb3) (cells #[.bool false,slice none 0 0,slice none 0 0] 24));clear h0 hinf hb3 HB BM BK;go_wp2
  go_ret2
  exact⟨by rw[HE.out];rfl,HF.out⟩
 ·clear hBB;have HInf:=zk hinf;have HPS:=zk (zqR hrn);obtain⟨v1,v2,⟨x0,x1,x2,x3⟩,hl,hkk⟩:=HV.out h0;have mp:=zbB v2;have hTS:∀v ∈ rs,tsB cs.length (-1) v.ts=true:=λv hv=>by
   simp only[zbC,Bool.and_eq_true,decide_eq_true_eq,List.all_eq_true]at v2;exact(v2.2.2.2.1 v hv).2.1
  subst h0;have hcn:=mp.cl;have hbn:=zA w3 (cells #[.bool s7,slice x7 n7 c7,slice y7 m7 d7] 24);have hb34:=bUp hb3 hbn;have BR:=zk (zH w3 [.bool s7,slice x7 n7 c7,slice y7 m7 d7] 24);replace BR:Hid (Bk (w3.alloc (cells #[.bool s7,slice x7 n7 c7,slice y7 m7 d7] 24)) w3.heap.size [.bool s7,slice x7 n7 c7,slice y7 m7 d7] 24):=BR;have RF:=zk (hrf.q_ hbn);replace HB:=zI HB hb34;replace BM:=zk (BM.out.q_ hb34);replace BK:=zk (BK.out.q_ hb34)
  clear hb34;have CN:=zk (λW (hW2:Bl w W)=>zjv (e1:=c0) (e2:=c1) (e3:=c2) (e4:=c3) (v1.q_ hW2) mp hTS (x0.q_ hW2) (x1.q_ hW2) (x2.q_ hW2) (x3.q_ hW2) hl hkk hL1);rw[show bdR rs l0 l1++bdC 0 cs l2 l3=bs from HBS.out]at CN
  replace CN:Hid (∀W,Bl w W->Calls prog 25 #[agg #[.bool s,slice x n c,slice y m d,slice ca ck cc,slice ra rk rc],agg #[slice a0 k0 c0,slice a1 k1 c1,slice a2 k2 c2,slice a3 k3 c3]] W λe w'=>e=returned (.bool (bs.any negB))/\Bl W w'):=CN;have HLn:Hid (((List.range cs.length).map (cmbQ bs)).length=cs.length):=by show _=_;simp
  clear hinf v1 v2 x0 x1 x2 x3 hl hkk mp hTS HV hb3 hbn hrf hrn;obtain⟨r0,r1,r2,r3,r4⟩:=bk5 BM.out;obtain⟨p0,p1,p2,p3⟩:=bk4 BK.out;go_wp2_with fail
  clear r0 r1 r2 r3 r4;clear p0 p1 p2 p3
  go_at_call 25
  generalize w3.alloc (cells #[.bool s7,slice x7 n7 c7,slice y7 m7 d7] 24)=w4 at *;refine(CN.out _ HB.out).mono ?_;rintro e w5 ⟨rfl,hb5⟩;replace HB:=zI HB hb5;replace BR:=zk (BR.out.q_ hb5);replace RF:=zk (RF.out.q_ hb5)
  clear hb5 BM BK CN;obtain⟨nb,hnb⟩:∃t,bs.any negB=t:=⟨_,rfl⟩;rw[hnb];have HNB:=zk hnb;clear hnb;cases nb
  case true =>
   have HE:Hid (vldB 0 cs.length bs=false):=by show _=_;rw[vldB,HNB.out];simp
   clear HNB HInf HPS HBS;go_wp2
   go_ret2
   exact⟨by rw[HE.out];rfl,HB.out⟩
  go_wp2_with fail
  go_at_call 26
  refine(zjk RF.out HLn.out (by omega)).mono ?_;rintro e w6 ⟨rfl,hb6⟩;replace HB:=zI HB hb6;replace BR:=zk (BR.out.q_ hb6)
  clear hb6 RF;obtain⟨az,haz⟩:∃t,((List.range cs.length).map (cmbQ bs)).all (λq=>decide (q=0))=t:=⟨_,rfl⟩;rw[haz];have HAZ:=zk haz;clear haz;cases az
  case false =>
   have HE:Hid (vldB 0 cs.length bs=false):=by show _=_;rw[vldB,HAZ.out];simp
   clear HAZ HNB HInf HPS HBS;go_wp2
   go_ret2
   exact⟨by rw[HE.out];rfl,HB.out⟩
  have HE:Hid (vldB 0 cs.length bs=(!s7 && !decide (n7=0))):=by show _=_;rw[vldB,HAZ.out,HNB.out,HInf.out,HPS.out];simp
  clear HAZ HNB HInf HPS HBS;have b0:=BR.out.cell (j:=0) rfl;have b1:=BR.out.cell (j:=1) rfl;have b2:=BR.out.cell (j:=2) rfl
  cases s7
  case true =>
   go_wp2
   go_ret2
   exact⟨by rw[HE.out];rfl,HB.out⟩
  go_wp2_with fail
  go_at_call 27
  refine(zei _ _ _ _ _ _ _ _).mono ?_;rintro e w7 ⟨rfl,hb7⟩;replace HB:=zI HB hb7;clear hb7 b0 b1 b2 BR;go_wp2
  go_ret2
  exact⟨by rw[HE.out];rfl,HB.out⟩
def zdc (n:Nat) (j:Option Nat):List Rat:=(List.range n).map (λi=>if j=some i then 1 else 0)
theorem zbf (n:Nat) (j:Option Nat):(zdc n j).length=n:=by simp[zdc]
def hdN (l:List Int):Option Nat:=l.head?.map Int.toNat
def jcl (cs:List CV):Option Nat:=hdN (crl (cvC cs) cs.length)
def jrw (cs:List CV) (rs:List RV):Option Nat:=if crl (cvC cs) cs.length=[] then hdN (crl (cvR rs) rs.length) else none
def CsgAns (w w':World) (e:Ending) (er:Int) (cs:List CV) (rs:List RV):Prop:=Bl w w' /\
 ((er≠0/\e=returned (.tuple #[agg #[slice none 0 0,slice none 0 0,slice none 0 0,slice none 0 0],.int .i64 er]))∨(er=0/\(crl (cvC cs) cs.length=[]/\crl (cvR rs) rs.length=[])/\e=returned (.tuple #[agg #[slice none 0 0,slice none 0 0,slice none 0 0,slice none 0 0],.int .i64 9])) ∨
  (er=0/\¬(crl (cvC cs) cs.length=[]/\crl (cvR rs) rs.length=[])/\∃B0 B1 B2 B3,e=returned (.tuple #[agg #[slice (some ⟨B0,0,none⟩) rs.length rs.length,slice (some ⟨B1,0,none⟩) rs.length rs.length,slice (some ⟨B2,0,none⟩) cs.length cs.length,slice (some ⟨B3,0,none⟩) cs.length cs.length],.int .i64 0]) /\
   (Rf 4 w' (some ⟨B0,0,none⟩) (zdc rs.length (jrw cs rs))/\Rf 4 w' (some ⟨B1,0,none⟩) (zdc rs.length (jrw cs rs))/\Rf 4 w' (some ⟨B2,0,none⟩) (zdc cs.length (jcl cs))/\Rf 4 w' (some ⟨B3,0,none⟩) (zdc cs.length (jcl cs)))))
theorem zbw {L w B n Q j} (h:Rq L w B n Q) (hq:∀i,i<n->Q i=if j=some i then 1 else 0):Rf L w (some ⟨B,0,none⟩) (zdc n j) :=
 h.rf (zbf n j) (λi hi=>by rw[zdc,zcV _ _ _ hi,hq i hi])
theorem zdP {B n z l} (h:crl B n=z :: l):∃j:Nat,z=(j:Int)/\j<n:=by
 have hz:z ∈ crl B n:=by rw[h];exact List.mem_cons_self
 have key:∀n,∀z ∈ crl B n,∃j:Nat,z=(j:Int)/\j<n:=by
  intro n
  induction n with
  | zero=>intro z hz;cases hz
  | succ n ih =>
   intro z hz;simp only[crl,List.mem_append]at hz;rcases hz with hz|hz
   ·obtain⟨j,h1,h2⟩:=ih z hz;exact⟨j,h1,by omega⟩
   ·split at hz
    ·exact⟨n,by simpa using hz,by omega⟩
    ·cases hz
 exact key n z hz
theorem zev {w L M off cs rs er} (hW:MoW w M) (hm:M.ck<=64->M.rk<=64->MoB M) (he:zar M=er) (hv:er=0->MoV L w M off cs rs/\zbC cs rs=true) :
  Calls prog 16 #[M.val] w λe w'=>CsgAns w w' e er cs rs:=by
 have CC:=zk (λW (hW2:Bl w W)=>zlG (hW.q_ hW2) hm);have HV:Hid (er=0->(crl (ccB M.C) M.ck=crl (cvC cs) cs.length/\crl (rcB M.R) M.rk=crl (cvR rs) rs.length)/\M.ck=cs.length/\M.rk=rs.length/\cs.length<=64/\rs.length<=64):=λh=>by obtain⟨v1,v2⟩:=hv h;have mp:=zbB v2;exact⟨v1.crl,v1.ck,v1.rk,mp.cl,mp.rl⟩
 clear hW hm hv;unfold zdT at CC;rw[he]at CC
 clear he;obtain⟨⟨s,x,n,c,f,y,m,d,g⟩,ca,ck,cc,C,ra,rk,rc,R⟩:=M;dsimp only at HV CC;obtain⟨lx,hlx⟩:∃t,crl (ccB C) ck=t:=⟨_,rfl⟩;obtain⟨ly,hly⟩:∃t,crl (rcB R) rk=t:=⟨_,rfl⟩;rw[hlx,hly]at CC HV
 have hxl:lx.length<=ck:=by rw[<-hlx];exact zby _ _
 have hyl:ly.length<=rk:=by rw[<-hly];exact zby _ _
 clear hlx hly;replace CC:Hid (∀W,Bl w W->Calls prog 54 #[agg #[.bool s,slice x n c,slice y m d,slice ca ck cc,slice ra rk rc]] W λe w'=>(er≠0/\e=returned (.tuple #[slice none 0 0,slice none 0 0,.int .i64 er])/\Bl W w')∨(er=0/\∃xa xc ya yc,e=returned (.tuple #[slice xa lx.length xc,slice ya ly.length yc,.int .i64 0])/\Bl W w'/\Il w' xa lx/\Il w' ya ly)):=CC;show Calls prog 16 #[agg #[.bool s,slice x n c,slice y m d,slice ca ck cc,slice ra rk rc]] w _;have hb:=zu (zA w (cells #[.bool s,slice x n c,slice y m d,slice ca ck cc,slice ra rk rc] 28)) (cells #[slice none 0 0,slice none 0 0,slice none 0 0,slice none 0 0] 31);have B1:=(zH w [.bool s,slice x n c,slice y m d,slice ca ck cc,slice ra rk rc] 28).q_ (zA _ (cells #[slice none 0 0,slice none 0 0,slice none 0 0,slice none 0 0] 31));have B2:=zaV w (cells #[.bool s,slice x n c,slice y m d,slice ca ck cc,slice ra rk rc] 28) [slice none 0 0,slice none 0 0,slice none 0 0,slice none 0 0] 31;have HB:=zk hb;have BM:=zk B1;have BZ:=zk B2
 clear hb B1 B2;go_enter func16,ntmps16;go_upto_region 1 with fail
 generalize((w.alloc (cells #[.bool s,slice x n c,slice y m d,slice ca ck cc,slice ra rk rc] 28)).alloc (cells #[slice none 0 0,slice none 0 0,slice none 0 0,slice none 0 0] 31))=w1 at *;obtain⟨r0,r1,r2,r3,r4⟩:=bk5 BM.out;go_wp2_with fail
 clear r0 r1 r2 r3 r4
 go_at_call 54
 refine(CC.out _ HB.out).mono ?_;clear CC;rintro e w2 (⟨h0,rfl,hb2⟩|⟨h0,xa,xc,ya,yc,rfl,hb2,hxa,hya⟩)
 ·replace HB:=zI HB hb2;replace BM:=zk (BM.out.q_ hb2);replace BZ:=zk (BZ.out.q_ hb2)
  clear hb2;have h1:(er != 0)=true:=by simpa using h0
  have H0:=zk h0;obtain⟨l0,l1,l2,l3⟩:=bk4 BZ.out;have ff:=BZ.out.frozen;obtain⟨hx1,hx2,hx3⟩:=zcv [slice none 0 0,slice none 0 0,slice none 0 0,slice none 0 0] BZ.out (zM (λu hu q=>by simp at hu;subst hu;simp)) HB.out (Nat.le_succ _);have HX:Hid (CsgAns w (stl (w.heap.size+1) 0 [slice none 0 0,slice none 0 0,slice none 0 0,slice none 0 0] w2) (returned (.tuple #[agg #[slice none 0 0,slice none 0 0,slice none 0 0,slice none 0 0],.int .i64 er])) er cs rs):=⟨hx1,.inl ⟨H0.out,rfl⟩⟩;clear hx1 hx2 hx3 HB BM BZ HV;go_wp2;exact bodyPost_ret (v:=.tuple #[agg #[slice none 0 0,slice none 0 0,slice none 0 0,slice none 0 0],.int .i64 er]) (by simp[results,results16,go_sem,l0,l1,l2,l3]) rfl HX.out
 ·replace HB:=zI HB hb2;replace BM:=zk (BM.out.q_ hb2);replace BZ:=zk (BZ.out.q_ hb2)
  clear hb2;obtain⟨⟨ex,ey⟩,e1,e2,e3,e4⟩:=HV.out h0;subst h0;rw[e1]at hxl;rw[e2]at hyl
  subst e1;subst e2
  have HX:=zk hxa;have HY:=zk hya;have EX:=zk ex.symm;have EY:=zk ey.symm
  clear hxa hya ex ey HV;by_cases hz:lx.length+ly.length=0
  case pos =>
   have hx0:lx.length=0:=by omega
   have hy0:ly.length=0:=by omega
   rw[hx0,hy0];obtain⟨l0,l1,l2,l3⟩:=bk4 BZ.out;have ff:=BZ.out.frozen;obtain⟨hx1,hx2,hx3⟩:=zcv [slice none 0 0,slice none 0 0,slice none 0 0,slice none 0 0] BZ.out (zM (λu hu q=>by simp at hu;subst hu;simp)) HB.out (Nat.le_succ _);have HX:Hid (CsgAns w (stl (w.heap.size+1) 0 [slice none 0 0,slice none 0 0,slice none 0 0,slice none 0 0] w2) (returned (.tuple #[agg #[slice none 0 0,slice none 0 0,slice none 0 0,slice none 0 0],.int .i64 9])) 0 cs rs):=⟨hx1,.inr (.inl ⟨rfl,⟨EX.out.trans (List.eq_nil_of_length_eq_zero (by omega)),EY.out.trans (List.eq_nil_of_length_eq_zero (by omega))⟩,rfl⟩)⟩;clear hx1 hx2 hx3 HB BM BZ;go_wp2;exact bodyPost_ret (v:=.tuple #[agg #[slice none 0 0,slice none 0 0,slice none 0 0,slice none 0 0],.int .i64 9]) (by simp[results,results16,go_sem,l0,l1,l2,l3]) rfl HX.out
  have hz1:(((lx.length:Nat):Int)+((ly.length:Nat):Int)==0)=false:=by simp;omega
  have s3:=BM.out.cell (j:=3) rfl;have s4:=BM.out.cell (j:=4) rfl
  go_upto_region 6 with fail
  go_quiet (fail)
  clear s3 s4 hz1;have hbq:=zK (Below.refl w2.heap.size w2) nq;generalize w2.drewN nq=w3 at *;replace HB:=zI HB hbq;replace BM:=zk (BM.out.q_ hbq);replace BZ:=zk (BZ.out.q_ hbq)
  replace HX:=zk (HX.out.q_ hbq);replace HY:=zk (HY.out.q_ hbq)
  clear hbq;have hw3:w.heap.size+1<w3.heap.size:=BZ.out.lt;go_wp2_with fail
  go_at_call 37
  refine(zbW e4).mono ?_;rintro e v0 ⟨B0,rfl,hB0,hb0,hk0,hq0⟩;replace HB:=zI HB hb0;replace BM:=zk (BM.out.q_ hb0);replace BZ:=zk (BZ.out.q_ hb0)
  have RK0:=zk hk0;have RQ0:=zk hq0
  have z0:=hk0.z;have hs0:=hb0.size;have HI0:=zk (hb0);clear hb0 hk0 hq0;go_wp2_with fail
  go_at_call 37
  refine(zbW e4).mono ?_;rintro e v1 ⟨B1,rfl,hB1,hb1,hk1,hq1⟩;replace HB:=zI HB hb1;replace BM:=zk (BM.out.q_ hb1);replace BZ:=zk (BZ.out.q_ hb1)
  replace RK0:=zk (RK0.out.q_ hb1);replace RQ0:=zk (RQ0.out.q_ hb1)
  have RK1:=zk hk1;have RQ1:=zk hq1
  have z1:=hk1.z;have hs1:=hb1.size;replace HI0:=zI HI0 hb1;clear hb1 hk1 hq1;go_wp2_with fail
  go_at_call 37
  refine(zbW e3).mono ?_;rintro e v2 ⟨B2,rfl,hB2,hb2,hk2,hq2⟩;replace HB:=zI HB hb2;replace BM:=zk (BM.out.q_ hb2);replace BZ:=zk (BZ.out.q_ hb2)
  replace RK0:=zk (RK0.out.q_ hb2);replace RQ0:=zk (RQ0.out.q_ hb2)
  replace RK1:=zk (RK1.out.q_ hb2);replace RQ1:=zk (RQ1.out.q_ hb2)
  have RK2:=zk hk2;have RQ2:=zk hq2
  have z2:=hk2.z;have hs2:=hb2.size;replace HI0:=zI HI0 hb2;clear hb2 hk2 hq2;go_wp2_with fail
  go_at_call 37
  refine(zbW e3).mono ?_;rintro e v3 ⟨B3,rfl,hB3,hb3,hk3,hq3⟩;replace HB:=zI HB hb3;replace BM:=zk (BM.out.q_ hb3);replace BZ:=zk (BZ.out.q_ hb3)
  replace RK0:=zk (RK0.out.q_ hb3);replace RQ0:=zk (RQ0.out.q_ hb3)
  replace RK1:=zk (RK1.out.q_ hb3);replace RQ1:=zk (RQ1.out.q_ hb3)
  replace RK2:=zk (RK2.out.q_ hb3);replace RQ2:=zk (RQ2.out.q_ hb3)
  have RK3:=zk hk3;have RQ3:=zk hq3
  have z3:=hk3.z;have hs3:=hb3.size;replace HI0:=zI HI0 hb3;clear hb3 hk3 hq3;have hbn:=zA v3 (cells #[slice (some ⟨B0,0,none⟩) rs.length rs.length,slice (some ⟨B1,0,none⟩) rs.length rs.length,slice (some ⟨B2,0,none⟩) cs.length cs.length,slice (some ⟨B3,0,none⟩) cs.length cs.length] 31);have BC:=zk (zH v3 [slice (some ⟨B0,0,none⟩) rs.length rs.length,slice (some ⟨B1,0,none⟩) rs.length rs.length,slice (some ⟨B2,0,none⟩) cs.length cs.length,slice (some ⟨B3,0,none⟩) cs.length cs.length] 31);replace BC:Hid (Bk (v3.alloc (cells #[slice (some ⟨B0,0,none⟩) rs.length rs.length,slice (some ⟨B1,0,none⟩) rs.length rs.length,slice (some ⟨B2,0,none⟩) cs.length cs.length,slice (some ⟨B3,0,none⟩) cs.length cs.length] 31)) v3.heap.size [slice (some ⟨B0,0,none⟩) rs.length rs.length,slice (some ⟨B1,0,none⟩) rs.length rs.length,slice (some ⟨B2,0,none⟩) cs.length cs.length,slice (some ⟨B3,0,none⟩) cs.length cs.length] 31):=BC;replace HI0:=zI HI0 hbn;replace HB:=zI HB hbn;replace BM:=zk (BM.out.q_ hbn);replace BZ:=zk (BZ.out.q_ hbn)
  replace RK0:=zk (RK0.out.q_ hbn);replace RQ0:=zk (RQ0.out.q_ hbn)
  replace RK1:=zk (RK1.out.q_ hbn);replace RQ1:=zk (RQ1.out.q_ hbn)
  replace RK2:=zk (RK2.out.q_ hbn);replace RQ2:=zk (RQ2.out.q_ hbn)
  replace RK3:=zk (RK3.out.q_ hbn);replace RQ3:=zk (RQ3.out.q_ hbn)
  clear hbn;by_cases hx:lx.length=0
  case pos =>
   have hy:¬ly.length=0:=by omega
   have i0':¬((0:Int)<((lx.length:Nat):Int)):=by omega
   have HJ:Hid (jcl cs=none):=by show _=_;rw[jcl,EX.out,List.eq_nil_of_length_eq_zero hx];rfl
   have HJ2:Hid (∀z l,ly=z :: l->jrw cs rs=some z.toNat):=λz l h=>by rw[jrw,EX.out,if_pos (List.eq_nil_of_length_eq_zero hx),EY.out,h];rfl
   have HN:Hid (¬(crl (cvC cs) cs.length=[]/\crl (cvR rs) rs.length=[])):=λh=>hy (by rw[<-EY.out,h.2];rfl)
   obtain⟨z,l,hl⟩:∃z l,ly=z :: l:=by
    cases hc:ly with
    | nil=>exact absurd (by rw[hc];rfl) hy
    | cons z l=>exact⟨z,l,rfl⟩
   obtain⟨jn,rfl,hjn⟩:=zdP (EY.out.trans hl);obtain⟨bi,oi,hxe,hci⟩:=HY.out 0 (jn:Int) (by rw[hl];rfl);replace hci:w3.cell? ⟨bi,oi,none⟩=some (.int .i64 jn):=hci;subst hxe;have hbi:bi<w3.heap.size:=World.block_lt_of_cell? w3 _ hci;have hci2:=kCb HI0.out hci;have i1':(0:Int)<((ly.length:Nat):Int):=by rw[hl,List.length_cons];omega
   have i3':0<ly.length:=by omega
   have i2':((jn:Nat):Int)<((rs.length:Nat):Int):=by omega
   have HLL:=zk hl;clear hci hl;go_upto_region 10 with fail
   generalize hv4:v3.alloc (cells #[slice (some ⟨B0,0,none⟩) rs.length rs.length,slice (some ⟨B1,0,none⟩) rs.length rs.length,slice (some ⟨B2,0,none⟩) cs.length cs.length,slice (some ⟨B3,0,none⟩) cs.length cs.length] 31)=v4 at *;clear hv4;generalize v3.heap.size=xc at *;have c0:=BC.out.cell (j:=0) rfl;have c1:=BC.out.cell (j:=1) rfl
   refine zaa (S:=(λw'=>w'.cell? ⟨xc,0,none⟩=some (slice (some ⟨B0,0,none⟩) rs.length rs.length)/\w'.cell? ⟨xc,1,none⟩=some (slice (some ⟨B1,0,none⟩) rs.length rs.length)/\w'.cell? ⟨bi,oi,none⟩=some (.int .i64 jn))) 15 (by kernel_rfl) ⟨kCd c0,kCd c1,kCd hci2⟩ (λhHeld=>?_);clear c0 c1 hci2;have hbd:=Below.drew (Below.refl v4.heap.size v4);replace HB:=zI HB hbd;replace BZ:=zk (BZ.out.q_ hbd);replace BC:=zk (BC.out.q_ hbd)
   replace RK0:=zk (RK0.out.q_ hbd);replace RQ0:=zk (RQ0.out.q_ hbd)
   replace RK1:=zk (RK1.out.q_ hbd);replace RQ1:=zk (RQ1.out.q_ hbd)
   replace RK2:=zk (RK2.out.q_ hbd);replace RQ2:=zk (RQ2.out.q_ hbd)
   replace RK3:=zk (RK3.out.q_ hbd);replace RQ3:=zk (RQ3.out.q_ hbd)
   clear hbd;generalize v4.drew=v5 at *;refine skP 0 ?_;refine tkP 1 ?_;refine skP 2 ?_;simp only[zv,Act.put];refine skP 3 ?_;refine tkP 4 ?_;refine skP 5 ?_;simp only[zv,Act.put];refine tkP 6 ?_;refine skP 7 ?_;refine skP 8 ?_;simp only[zv,Act.put];refine tkP 9 ?_;simp only[zv,Act.put];refine rdP 10 (λK hK=>?_);go_simp
   go_at_call 38
   refine(zfH (z:=1) (by decide) (by decide)).mono ?_;rintro e v6 ⟨s8,x8,n8,c8,f8,y8,m8,d8,g8,rfl,hbj,hqj⟩
   (try go_wp2_with fail)
   have t8:=And.intro (kCb hbj hHeld.1) (And.intro (kCb hbj hHeld.2.1) (kCb hbj hHeld.2.2));refine hK.out _ _ (λ_=>t8) (λhS9=>?_);clear hK K hS9;try simp only[zv,Act.put]
   replace HB:=zI HB hbj;replace BZ:=zk (BZ.out.q_ hbj);replace BC:=zk (BC.out.q_ hbj)
   replace RK0:=zk (RK0.out.q_ hbj);replace RQ0:=zk (RQ0.out.q_ hbj)
   replace RK1:=zk (RK1.out.q_ hbj);replace RQ1:=zk (RQ1.out.q_ hbj)
   replace RK2:=zk (RK2.out.q_ hbj);replace RQ2:=zk (RQ2.out.q_ hbj)
   replace RK3:=zk (RK3.out.q_ hbj);replace RQ3:=zk (RQ3.out.q_ hbj)
   have RN8:=zk (show Rn 4 v6 s8 x8 n8 c8 f8 y8 m8 d8 g8 1 from hqj);clear hbj hqj;refine rdP 11 (λK hK=>?_);go_simp
   go_at_call 38
   refine(zfH (z:=1) (by decide) (by decide)).mono ?_;rintro e v7 ⟨s9,x9,n9,c9,f9,y9,m9,d9,g9,rfl,hbj,hqj⟩
   (try go_wp2_with fail)
   have t9:=And.intro (kCb hbj t8.1) (And.intro (kCb hbj t8.2.1) (kCb hbj t8.2.2));refine hK.out _ _ (λ_=>t9) (λhS9=>?_);clear hK K hS9;try simp only[zv,Act.put]
   replace HB:=zI HB hbj;replace BZ:=zk (BZ.out.q_ hbj);replace BC:=zk (BC.out.q_ hbj)
   replace RK0:=zk (RK0.out.q_ hbj);replace RQ0:=zk (RQ0.out.q_ hbj)
   replace RK1:=zk (RK1.out.q_ hbj);replace RQ1:=zk (RQ1.out.q_ hbj)
   replace RK2:=zk (RK2.out.q_ hbj);replace RQ2:=zk (RQ2.out.q_ hbj)
   replace RK3:=zk (RK3.out.q_ hbj);replace RQ3:=zk (RQ3.out.q_ hbj)
   replace RN8:=zk (RN8.out.q_ hbj);have RN9:=zk (show Rn 4 v7 s9 x9 n9 c9 f9 y9 m9 d9 g9 1 from hqj);clear hbj hqj;refine rdP 12 (λK hK=>?_);go_simp;refine hK.out _ _ (λ_=>t9) (λhS9=>?_);clear hK K hS9;try simp only[zv,Act.put]
   refine rdP 13 (λK hK=>?_);have hk:=RK0.out;have tf:=hk.fz;obtain⟨_,k0,_⟩:=hk.has (jn*3) (by omega);obtain⟨_,k1,_⟩:=hk.has (jn*3+1) (by omega);obtain⟨_,k2,_⟩:=hk.has (jn*3+2) (by omega);have FG:=zk (zdx (s:=s8) (x:=x8) (k:=n8) (c:=c8) (y:=y8) (m:=m8) (d:=d8) hk hjn);obtain⟨R1a,R2a⟩:=zcU (i':=rs.length) (j:=jn) (Q':=λi=>if some jn=some i then 1 else 0) hk RQ0.out hjn (by rw[if_pos rfl];exact RN8.out) (λj' h1 h2=>⟨h1,by show(if _ then _ else _)=_;rw[if_neg (λe=>h2 (Option.some.inj e).symm)]⟩);have QK0:=zk R2a;clear R1a R2a hk;go_simp;have t0:=And.intro (FG.out.cell (show ¬(xc=B0) by omega) t9.1) (And.intro (FG.out.cell (show ¬(xc=B0) by omega) t9.2.1) (FG.out.cell (show ¬(bi=B0) by omega) t9.2.2));refine hK.out _ _ (λ_=>t0) (λhS9=>?_);clear hK K hS9;try simp only[zv,Act.put]
   have HBs:=zk (zaW (o:=jn*3) (u0:=.bool s8) (u1:=slice x8 n8 c8) (u2:=slice y8 m8 d8) HB.out (show w.heap.size<=B0 by omega));replace BZ:=zk (FG.out.bk BZ.out (by omega));replace BC:=zk (FG.out.bk BC.out (by omega));replace RN9:=zk (FG.out.rn RN9.out)
   replace RK1:=zk (RK1.out.fr FG.out (by omega));replace RQ1:=zk (RQ1.out.fr FG.out (by omega))
   replace RK2:=zk (RK2.out.fr FG.out (by omega));replace RQ2:=zk (RQ2.out.fr FG.out (by omega))
   replace RK3:=zk (RK3.out.fr FG.out (by omega));replace RQ3:=zk (RQ3.out.fr FG.out (by omega))
   clear RK0 RQ0 FG k0 k1 k2 tf HB;generalize((v7.setCell ⟨B0,jn*3,none⟩ (.bool s8)).setCell ⟨B0,jn*3+1,none⟩ (slice x8 n8 c8)).setCell ⟨B0,jn*3+2,none⟩ (slice y8 m8 d8)=v8 at *;refine rdP 14 (λK hK=>?_);go_simp;refine hK.out _ _ (λ_=>t0) (λhS9=>?_);clear hK K hS9;try simp only[zv,Act.put]
   refine rdP 15 (λK hK=>?_);have hk:=RK1.out;have tf:=hk.fz;obtain⟨_,k0,_⟩:=hk.has (jn*3) (by omega);obtain⟨_,k1,_⟩:=hk.has (jn*3+1) (by omega);obtain⟨_,k2,_⟩:=hk.has (jn*3+2) (by omega);have FG:=zk (zdx (s:=s9) (x:=x9) (k:=n9) (c:=c9) (y:=y9) (m:=m9) (d:=d9) hk hjn);obtain⟨R1a,R2a⟩:=zcU (i':=rs.length) (j:=jn) (Q':=λi=>if some jn=some i then 1 else 0) hk RQ1.out hjn (by rw[if_pos rfl];exact RN9.out) (λj' h1 h2=>⟨h1,by show(if _ then _ else _)=_;rw[if_neg (λe=>h2 (Option.some.inj e).symm)]⟩);have QK1:=zk R2a;clear R1a R2a hk;go_simp;refine hK.out _ _ (λh=>by cases h) (λ_=>?_);clear hK K;try simp only[zv,Act.put]
   have HBf:=zk (zaW (o:=jn*3) (u0:=.bool s9) (u1:=slice x9 n9 c9) (u2:=slice y9 m9 d9) HBs.out (show w.heap.size<=B1 by omega));replace BZ:=zk (FG.out.bk BZ.out (by omega));replace BC:=zk (FG.out.bk BC.out (by omega));replace QK0:=zk (QK0.out.fr FG.out (by omega))
   replace RQ2:=zk (RQ2.out.fr FG.out (by omega));replace RQ3:=zk (RQ3.out.fr FG.out (by omega));clear RK1 RK2 RK3;clear RQ1 FG k0 k1 k2 tf HBs RN8 RN9 t0 t8 t9 hHeld;refine dnP ?_;generalize((v8.setCell ⟨B1,jn*3,none⟩ (.bool s9)).setCell ⟨B1,jn*3+1,none⟩ (slice x9 n9 c9)).setCell ⟨B1,jn*3+2,none⟩ (slice y9 m9 d9)=v9 at *;obtain⟨b0,b1,b2,b3⟩:=bk4 BC.out;obtain⟨l0,l1,l2,l3⟩:=bk4 BZ.out;have ff:=BZ.out.frozen;obtain⟨hx1,hx2,hx3⟩:=zcv [slice (some ⟨B0,0,none⟩) rs.length rs.length,slice (some ⟨B1,0,none⟩) rs.length rs.length,slice (some ⟨B2,0,none⟩) cs.length cs.length,slice (some ⟨B3,0,none⟩) cs.length cs.length] BZ.out (zM (λu hu q=>by simp at hu;subst hu;simp)) HBf.out (Nat.le_succ _);have FZ:∀{B i Q},B≠w.heap.size+1->Rq 4 v9 B i Q->Rq 4 (stl (w.heap.size+1) 0 [slice (some ⟨B0,0,none⟩) rs.length rs.length,slice (some ⟨B1,0,none⟩) rs.length rs.length,slice (some ⟨B2,0,none⟩) cs.length cs.length,slice (some ⟨B3,0,none⟩) cs.length cs.length] v9) B i Q:=λ{B i Q} hne h j hj=>by
    obtain⟨t,⟨a0,a1,a2⟩,h2⟩:=h j hj;exact⟨t,⟨(cell?_of_block (hx3 B hne)).trans a0,(cell?_of_block (hx3 B hne)).trans a1,(cell?_of_block (hx3 B hne)).trans a2⟩,h2.kp hx2⟩
   have HXX:Hid (CsgAns w (stl (w.heap.size+1) 0 [slice (some ⟨B0,0,none⟩) rs.length rs.length,slice (some ⟨B1,0,none⟩) rs.length rs.length,slice (some ⟨B2,0,none⟩) cs.length cs.length,slice (some ⟨B3,0,none⟩) cs.length cs.length] v9) (returned (.tuple #[agg #[slice (some ⟨B0,0,none⟩) rs.length rs.length,slice (some ⟨B1,0,none⟩) rs.length rs.length,slice (some ⟨B2,0,none⟩) cs.length cs.length,slice (some ⟨B3,0,none⟩) cs.length cs.length],.int .i64 0])) 0 cs rs):=⟨hx1,.inr (.inr ⟨rfl,HN.out,B0,B1,B2,B3,rfl,zbw (FZ (by omega) QK0.out) (λi hi=>by rw[show jrw cs rs=some jn from by rw[HJ2.out _ _ HLL.out];rfl]),zbw (FZ (by omega) QK1.out) (λi hi=>by rw[show jrw cs rs=some jn from by rw[HJ2.out _ _ HLL.out];rfl]),zbw (FZ (by omega) RQ2.out) (λi hi=>by rw[HJ.out];rfl),zbw (FZ (by omega) RQ3.out) (λi hi=>by rw[HJ.out];rfl)⟩)⟩;clear hx1 hx2 hx3 FZ HBf BM BZ BC RQ2 RQ3 QK0 QK1;go_wp2;exact bodyPost_ret (v:=.tuple #[agg #[slice (some ⟨B0,0,none⟩) rs.length rs.length,slice (some ⟨B1,0,none⟩) rs.length rs.length,slice (some ⟨B2,0,none⟩) cs.length cs.length,slice (some ⟨B3,0,none⟩) cs.length cs.length],.int .i64 0]) (by simp[results,results16,go_sem,l0,l1,l2,l3]) rfl HXX.out
  have i0':(0:Int)<((lx.length:Nat):Int):=by omega
  have HJ:Hid (jrw cs rs=none):=by show _=_;rw[jrw,EX.out,if_neg (λh=>hx (by rw[h];rfl))]
  have HJ2:Hid (∀z l,lx=z :: l->jcl cs=some z.toNat):=λz l h=>by rw[jcl,EX.out,h];rfl
  have HN:Hid (¬(crl (cvC cs) cs.length=[]/\crl (cvR rs) rs.length=[])):=λh=>hx (by rw[<-EX.out,h.1];rfl)
  obtain⟨z,l,hl⟩:∃z l,lx=z :: l:=by
   cases hc:lx with
   | nil=>exact absurd (by rw[hc];rfl) hx
   | cons z l=>exact⟨z,l,rfl⟩
  obtain⟨jn,rfl,hjn⟩:=zdP (EX.out.trans hl);obtain⟨bi,oi,hxe,hci⟩:=HX.out 0 (jn:Int) (by rw[hl];rfl);replace hci:w3.cell? ⟨bi,oi,none⟩=some (.int .i64 jn):=hci;subst hxe;have hbi:bi<w3.heap.size:=World.block_lt_of_cell? w3 _ hci;have hci2:=kCb HI0.out hci;have i1':(0:Int)<((lx.length:Nat):Int):=by rw[hl,List.length_cons];omega
  have i3':0<lx.length:=by omega
  have i2':((jn:Nat):Int)<((cs.length:Nat):Int):=by omega
  have HLL:=zk hl;clear hci hl;go_upto_region 9 with fail
  generalize hv4:v3.alloc (cells #[slice (some ⟨B0,0,none⟩) rs.length rs.length,slice (some ⟨B1,0,none⟩) rs.length rs.length,slice (some ⟨B2,0,none⟩) cs.length cs.length,slice (some ⟨B3,0,none⟩) cs.length cs.length] 31)=v4 at *;clear hv4;generalize v3.heap.size=xc at *;have c0:=BC.out.cell (j:=2) rfl;have c1:=BC.out.cell (j:=3) rfl
  refine zaa (S:=(λw'=>w'.cell? ⟨xc,2,none⟩=some (slice (some ⟨B2,0,none⟩) cs.length cs.length)/\w'.cell? ⟨xc,3,none⟩=some (slice (some ⟨B3,0,none⟩) cs.length cs.length)/\w'.cell? ⟨bi,oi,none⟩=some (.int .i64 jn))) 15 (by kernel_rfl) ⟨kCd c0,kCd c1,kCd hci2⟩ (λhHeld=>?_);clear c0 c1 hci2;have hbd:=Below.drew (Below.refl v4.heap.size v4);replace HB:=zI HB hbd;replace BZ:=zk (BZ.out.q_ hbd);replace BC:=zk (BC.out.q_ hbd)
  replace RK0:=zk (RK0.out.q_ hbd);replace RQ0:=zk (RQ0.out.q_ hbd)
  replace RK1:=zk (RK1.out.q_ hbd);replace RQ1:=zk (RQ1.out.q_ hbd)
  replace RK2:=zk (RK2.out.q_ hbd);replace RQ2:=zk (RQ2.out.q_ hbd)
  replace RK3:=zk (RK3.out.q_ hbd);replace RQ3:=zk (RQ3.out.q_ hbd)
  clear hbd;generalize v4.drew=v5 at *;refine skP 0 ?_;refine tkP 1 ?_;refine skP 2 ?_;simp only[zv,Act.put];refine skP 3 ?_;refine tkP 4 ?_;refine skP 5 ?_;simp only[zv,Act.put];refine tkP 6 ?_;refine skP 7 ?_;refine skP 8 ?_;simp only[zv,Act.put];refine tkP 9 ?_;simp only[zv,Act.put];refine rdP 10 (λK hK=>?_);go_simp
  go_at_call 38
  refine(zfH (z:=1) (by decide) (by decide)).mono ?_;rintro e v6 ⟨s8,x8,n8,c8,f8,y8,m8,d8,g8,rfl,hbj,hqj⟩
  (try go_wp2_with fail)
  have t8:=And.intro (kCb hbj hHeld.1) (And.intro (kCb hbj hHeld.2.1) (kCb hbj hHeld.2.2));refine hK.out _ _ (λ_=>t8) (λhS9=>?_);clear hK K hS9;try simp only[zv,Act.put]
  replace HB:=zI HB hbj;replace BZ:=zk (BZ.out.q_ hbj);replace BC:=zk (BC.out.q_ hbj)
  replace RK0:=zk (RK0.out.q_ hbj);replace RQ0:=zk (RQ0.out.q_ hbj)
  replace RK1:=zk (RK1.out.q_ hbj);replace RQ1:=zk (RQ1.out.q_ hbj)
  replace RK2:=zk (RK2.out.q_ hbj);replace RQ2:=zk (RQ2.out.q_ hbj)
  replace RK3:=zk (RK3.out.q_ hbj);replace RQ3:=zk (RQ3.out.q_ hbj)
  have RN8:=zk (show Rn 4 v6 s8 x8 n8 c8 f8 y8 m8 d8 g8 1 from hqj);clear hbj hqj;refine rdP 11 (λK hK=>?_);go_simp
  go_at_call 38
  refine(zfH (z:=1) (by decide) (by decide)).mono ?_;rintro e v7 ⟨s9,x9,n9,c9,f9,y9,m9,d9,g9,rfl,hbj,hqj⟩
  (try go_wp2_with fail)
  have t9:=And.intro (kCb hbj t8.1) (And.intro (kCb hbj t8.2.1) (kCb hbj t8.2.2));refine hK.out _ _ (λ_=>t9) (λhS9=>?_);clear hK K hS9;try simp only[zv,Act.put]
  replace HB:=zI HB hbj;replace BZ:=zk (BZ.out.q_ hbj);replace BC:=zk (BC.out.q_ hbj)
  replace RK0:=zk (RK0.out.q_ hbj);replace RQ0:=zk (RQ0.out.q_ hbj)
  replace RK1:=zk (RK1.out.q_ hbj);replace RQ1:=zk (RQ1.out.q_ hbj)
  replace RK2:=zk (RK2.out.q_ hbj);replace RQ2:=zk (RQ2.out.q_ hbj)
  replace RK3:=zk (RK3.out.q_ hbj);replace RQ3:=zk (RQ3.out.q_ hbj)
  replace RN8:=zk (RN8.out.q_ hbj);have RN9:=zk (show Rn 4 v7 s9 x9 n9 c9 f9 y9 m9 d9 g9 1 from hqj);clear hbj hqj;refine rdP 12 (λK hK=>?_);go_simp;refine hK.out _ _ (λ_=>t9) (λhS9=>?_);clear hK K hS9;try simp only[zv,Act.put]
  refine rdP 13 (λK hK=>?_);have hk:=RK2.out;have tf:=hk.fz;obtain⟨_,k0,_⟩:=hk.has (jn*3) (by omega);obtain⟨_,k1,_⟩:=hk.has (jn*3+1) (by omega);obtain⟨_,k2,_⟩:=hk.has (jn*3+2) (by omega);have FG:=zk (zdx (s:=s8) (x:=x8) (k:=n8) (c:=c8) (y:=y8) (m:=m8) (d:=d8) hk hjn);obtain⟨R1a,R2a⟩:=zcU (i':=cs.length) (j:=jn) (Q':=λi=>if some jn=some i then 1 else 0) hk RQ2.out hjn (by rw[if_pos rfl];exact RN8.out) (λj' h1 h2=>⟨h1,by show(if _ then _ else _)=_;rw[if_neg (λe=>h2 (Option.some.inj e).symm)]⟩);have QK2:=zk R2a;clear R1a R2a hk;go_simp;have t0:=And.intro (FG.out.cell (show ¬(xc=B2) by omega) t9.1) (And.intro (FG.out.cell (show ¬(xc=B2) by omega) t9.2.1) (FG.out.cell (show ¬(bi=B2) by omega) t9.2.2));refine hK.out _ _ (λ_=>t0) (λhS9=>?_);clear hK K hS9;try simp only[zv,Act.put]
  have HBs:=zk (zaW (o:=jn*3) (u0:=.bool s8) (u1:=slice x8 n8 c8) (u2:=slice y8 m8 d8) HB.out (show w.heap.size<=B2 by omega));replace BZ:=zk (FG.out.bk BZ.out (by omega));replace BC:=zk (FG.out.bk BC.out (by omega));replace RN9:=zk (FG.out.rn RN9.out)
  replace RK0:=zk (RK0.out.fr FG.out (by omega));replace RQ0:=zk (RQ0.out.fr FG.out (by omega))
  replace RK1:=zk (RK1.out.fr FG.out (by omega));replace RQ1:=zk (RQ1.out.fr FG.out (by omega))
  replace RK3:=zk (RK3.out.fr FG.out (by omega));replace RQ3:=zk (RQ3.out.fr FG.out (by omega))
  clear RK2 RQ2 FG k0 k1 k2 tf HB;generalize((v7.setCell ⟨B2,jn*3,none⟩ (.bool s8)).setCell ⟨B2,jn*3+1,none⟩ (slice x8 n8 c8)).setCell ⟨B2,jn*3+2,none⟩ (slice y8 m8 d8)=v8 at *;refine rdP 14 (λK hK=>?_);go_simp;refine hK.out _ _ (λ_=>t0) (λhS9=>?_);clear hK K hS9;try simp only[zv,Act.put]
  refine rdP 15 (λK hK=>?_);have hk:=RK3.out;have tf:=hk.fz;obtain⟨_,k0,_⟩:=hk.has (jn*3) (by omega);obtain⟨_,k1,_⟩:=hk.has (jn*3+1) (by omega);obtain⟨_,k2,_⟩:=hk.has (jn*3+2) (by omega);have FG:=zk (zdx (s:=s9) (x:=x9) (k:=n9) (c:=c9) (y:=y9) (m:=m9) (d:=d9) hk hjn);obtain⟨R1a,R2a⟩:=zcU (i':=cs.length) (j:=jn) (Q':=λi=>if some jn=some i then 1 else 0) hk RQ3.out hjn (by rw[if_pos rfl];exact RN9.out) (λj' h1 h2=>⟨h1,by show(if _ then _ else _)=_;rw[if_neg (λe=>h2 (Option.some.inj e).symm)]⟩);have QK3:=zk R2a;clear R1a R2a hk;go_simp;refine hK.out _ _ (λh=>by cases h) (λ_=>?_);clear hK K;try simp only[zv,Act.put]
  have HBf:=zk (zaW (o:=jn*3) (u0:=.bool s9) (u1:=slice x9 n9 c9) (u2:=slice y9 m9 d9) HBs.out (show w.heap.size<=B3 by omega));replace BZ:=zk (FG.out.bk BZ.out (by omega));replace BC:=zk (FG.out.bk BC.out (by omega));replace QK2:=zk (QK2.out.fr FG.out (by omega))
  replace RQ0:=zk (RQ0.out.fr FG.out (by omega));replace RQ1:=zk (RQ1.out.fr FG.out (by omega));clear RK0 RK1 RK3;clear RQ3 FG k0 k1 k2 tf HBs RN8 RN9 t0 t8 t9 hHeld;refine dnP ?_;generalize((v8.setCell ⟨B3,jn*3,none⟩ (.bool s9)).setCell ⟨B3,jn*3+1,none⟩ (slice x9 n9 c9)).setCell ⟨B3,jn*3+2,none⟩ (slice y9 m9 d9)=v9 at *;obtain⟨b0,b1,b2,b3⟩:=bk4 BC.out;obtain⟨l0,l1,l2,l3⟩:=bk4 BZ.out;have ff:=BZ.out.frozen;obtain⟨hx1,hx2,hx3⟩:=zcv [slice (some ⟨B0,0,none⟩) rs.length rs.length,slice (some ⟨B1,0,none⟩) rs.length rs.length,slice (some ⟨B2,0,none⟩) cs.length cs.length,slice (some ⟨B3,0,none⟩) cs.length cs.length] BZ.out (zM (λu hu q=>by simp at hu;subst hu;simp)) HBf.out (Nat.le_succ _);have FZ:∀{B i Q},B≠w.heap.size+1->Rq 4 v9 B i Q->Rq 4 (stl (w.heap.size+1) 0 [slice (some ⟨B0,0,none⟩) rs.length rs.length,slice (some ⟨B1,0,none⟩) rs.length rs.length,slice (some ⟨B2,0,none⟩) cs.length cs.length,slice (some ⟨B3,0,none⟩) cs.length cs.length] v9) B i Q:=λ{B i Q} hne h j hj=>by
   obtain⟨t,⟨a0,a1,a2⟩,h2⟩:=h j hj;exact⟨t,⟨(cell?_of_block (hx3 B hne)).trans a0,(cell?_of_block (hx3 B hne)).trans a1,(cell?_of_block (hx3 B hne)).trans a2⟩,h2.kp hx2⟩
  have HXX:Hid (CsgAns w (stl (w.heap.size+1) 0 [slice (some ⟨B0,0,none⟩) rs.length rs.length,slice (some ⟨B1,0,none⟩) rs.length rs.length,slice (some ⟨B2,0,none⟩) cs.length cs.length,slice (some ⟨B3,0,none⟩) cs.length cs.length] v9) (returned (.tuple #[agg #[slice (some ⟨B0,0,none⟩) rs.length rs.length,slice (some ⟨B1,0,none⟩) rs.length rs.length,slice (some ⟨B2,0,none⟩) cs.length cs.length,slice (some ⟨B3,0,none⟩) cs.length cs.length],.int .i64 0])) 0 cs rs):=⟨hx1,.inr (.inr ⟨rfl,HN.out,B0,B1,B2,B3,rfl,zbw (FZ (by omega) RQ0.out) (λi hi=>by rw[HJ.out];rfl),zbw (FZ (by omega) RQ1.out) (λi hi=>by rw[HJ.out];rfl),zbw (FZ (by omega) QK2.out) (λi hi=>by rw[show jcl cs=some jn from by rw[HJ2.out _ _ HLL.out];rfl]),zbw (FZ (by omega) QK3.out) (λi hi=>by rw[show jcl cs=some jn from by rw[HJ2.out _ _ HLL.out];rfl])⟩)⟩;clear hx1 hx2 hx3 FZ HBf BM BZ BC RQ0 RQ1 QK2 QK3;go_wp2;exact bodyPost_ret (v:=.tuple #[agg #[slice (some ⟨B0,0,none⟩) rs.length rs.length,slice (some ⟨B1,0,none⟩) rs.length rs.length,slice (some ⟨B2,0,none⟩) cs.length cs.length,slice (some ⟨B3,0,none⟩) cs.length cs.length],.int .i64 0]) (by simp[results,results16,go_sem,l0,l1,l2,l3]) rfl HXX.out
theorem zfa {w z} (h0:-1000<=z) (h1:z<=1000):Calls prog 58 #[.int .i64 z] w λe w'=>∃v,e=returned v/\Bl w w'/\GX 8 0 (z:Rat) v w':=by
 have HB:=zk (zA w (cells #[.int .i64 0,.bool false,slice none 0 0,slice none 0 0] 59));have BR:=zk (zH w [.int .i64 0,.bool false,slice none 0 0,slice none 0 0] 59);go_enter func58,ntmps58;go_wp2_with fail
 generalize w.alloc (cells #[.int .i64 0,.bool false,slice none 0 0,slice none 0 0] 59)=w0 at *;refine(zbE (z:=z) (by omega) (by omega)).mono ?_;rintro e w1 ⟨s,x,n,c,f,y,m,d,g,rfl,hb,hr⟩;replace HB:=zI HB hb;replace BR:=zk (BR.out.q_ hb)
 obtain⟨hx1,hx2,hx3⟩:=zcv [.int .i64 0,.bool s,slice x n c,slice y m d] BR.out (zM (λu hu q=>by simp at hu;rcases hu with rfl|rfl|rfl|rfl <;> simp)) HB.out (le_refl _);obtain⟨l0,l1,l2,l3⟩:=bk4 BR.out;have ff:=BR.out.frozen;have HX:Hid (Bl w (stl w.heap.size 0 [.int .i64 0,.bool s,slice x n c,slice y m d] w1)/\GX 8 0 (z:Rat) (agg #[.int .i64 0,.bool s,slice x n c,slice y m d]) (stl w.heap.size 0 [.int .i64 0,.bool s,slice x n c,slice y m d] w1)):=⟨hx1,⟨0,⟨s,x,n,c,f,y,m,d,g⟩⟩,rfl,rfl,(Rn.kp hr hx2).mono (by decide)⟩;clear hx1 hx2 hx3 hb hr HB;go_wp2;exact bodyPost_ret (v:=agg #[.int .i64 0,.bool s,slice x n c,slice y m d]) (by simp[results,results58,go_sem,l0,l1,l2,l3]) rfl ⟨_,rfl,HX.out⟩
theorem zeZ {w z} (h0:-1000<=z) (h1:z<=1000):Calls prog 19 #[.int .i64 z] w λe w'=>∃a,e=returned (slice a 1 1)/\Bl w w'/\Hid (Rf 4 w' a [(z:Rat)]):=by
 go_enter func19,ntmps19;go_wp2_with fail
 refine(zbE (z:=z) (by omega) (by omega)).mono ?_;rintro e w1 ⟨s,x,n,c,f,y,m,d,g,rfl,hb,hr⟩;have HR:=zk (show Rf 4 (w1.alloc (cells #[.bool s,slice x n c,slice y m d] 24)) (some ⟨w1.heap.size,0,none⟩) [(z:Rat)]from(zrh (base:=0) hr (Nat.zero_le _)).rf);have HB:=zk (zu hb (cells #[.bool s,slice x n c,slice y m d] 24));clear hr hb;go_wp2;go_ret;exact⟨_,rfl,HB.out,HR.out⟩
def k1C:List CV:=[⟨⟨#[120]⟩,0,0,0,0,1⟩]
def k1R:List RV:=[⟨⟨#[114]⟩,0,2,0,9,[(0,1)]⟩]
theorem first12_c {w}:Calls prog 20 #[] w λe w'=>∃M:Mo,e=returned M.val/\Bl w w'/\Hid (MoV 8 w' M 0 k1C k1R):=by
 have HB:=zk (zA w (cells #[.bool false,slice none 0 0,slice none 0 0,slice none 0 0,slice none 0 0] 28));have O0:=zk (zH w [.bool false,slice none 0 0,slice none 0 0,slice none 0 0,slice none 0 0] 28);go_enter func20,ntmps20;go_wp2_with fail
 generalize w.alloc (cells #[.bool false,slice none 0 0,slice none 0 0,slice none 0 0,slice none 0 0] 28)=w0 at *;refine(zbE (z:=0) (by decide) (by decide)).mono ?_;rintro e w1 ⟨s1,x1,n1,c1,f1,y1,m1,d1,g1,rfl,hb,hr⟩;replace HB:=zI HB hb;replace O0:=zk (O0.out.q_ hb)
 have R1:=zk hr;clear hb hr;go_wp2_with fail
 refine(zbE (z:=0) (by decide) (by decide)).mono ?_;rintro e w2 ⟨s2,x2,n2,c2,f2,y2,m2,d2,g2,rfl,hb,hr⟩;replace HB:=zI HB hb;replace O0:=zk (O0.out.q_ hb);replace R1:=zk (R1.out.q_ hb)
 have R2:=zk hr;clear hb hr;go_wp2_with fail
 refine(zfa (z:=0) (by decide) (by decide)).mono ?_;rintro e w3 ⟨v3,rfl,hb,⟨⟨i3,⟨s3,x3,n3,c3,f3,y3,m3,d3,g3⟩⟩,ev,hi3,hv⟩⟩;replace ev:v3=agg #[.int .i64 i3,.bool s3,slice x3 n3 c3,slice y3 m3 d3]:=ev;subst ev;replace HB:=zI HB hb;replace O0:=zk (O0.out.q_ hb);replace R1:=zk (R1.out.q_ hb);replace R2:=zk (R2.out.q_ hb)
 replace hi3:i3=0:=hi3;subst hi3;have R3:=zk (show Rn 8 w3 s3 x3 n3 c3 f3 y3 m3 d3 g3 (0:Int)from hv);clear hb hv;go_wp2_with fail
 refine(zfa (z:=1) (by decide) (by decide)).mono ?_;rintro e w4 ⟨v4,rfl,hb,⟨⟨i4,⟨s4,x4,n4,c4,f4,y4,m4,d4,g4⟩⟩,ev,hi4,hv⟩⟩;replace ev:v4=agg #[.int .i64 i4,.bool s4,slice x4 n4 c4,slice y4 m4 d4]:=ev;subst ev;replace HB:=zI HB hb;replace O0:=zk (O0.out.q_ hb);replace R1:=zk (R1.out.q_ hb);replace R2:=zk (R2.out.q_ hb);replace R3:=zk (R3.out.q_ hb)
 replace hi4:i4=0:=hi4;subst hi4;have R4:=zk (show Rn 8 w4 s4 x4 n4 c4 f4 y4 m4 d4 g4 (1:Int)from hv);clear hb hv;have hn:=zA w4 (cells #[.string ⟨#[120]⟩,.bool s2,slice x2 n2 c2,slice y2 m2 d2,.int .i64 0,.bool s3,slice x3 n3 c3,slice y3 m3 d3,.int .i64 0,.bool s4,slice x4 n4 c4,slice y4 m4 d4] 61);have HC:Hid (Cs (w4.alloc (cells #[.string ⟨#[120]⟩,.bool s2,slice x2 n2 c2,slice y2 m2 d2,.int .i64 0,.bool s3,slice x3 n3 c3,slice y3 m3 d3,.int .i64 0,.bool s4,slice x4 n4 c4,slice y4 m4 d4] 61)) w4.heap.size 0 [.string ⟨#[120]⟩,.bool s2,slice x2 n2 c2,slice y2 m2 d2,.int .i64 0,.bool s3,slice x3 n3 c3,slice y3 m3 d3,.int .i64 0,.bool s4,slice x4 n4 c4,slice y4 m4 d4]):=zdm w4 61 [.string ⟨#[120]⟩,.bool s2,slice x2 n2 c2,slice y2 m2 d2,.int .i64 0,.bool s3,slice x3 n3 c3,slice y3 m3 d3,.int .i64 0,.bool s4,slice x4 n4 c4,slice y4 m4 d4] [.string ⟨#[120]⟩,.bool s2,slice x2 n2 c2,slice y2 m2 d2,.int .i64 0,.bool s3,slice x3 n3 c3,slice y3 m3 d3,.int .i64 0,.bool s4,slice x4 n4 c4,slice y4 m4 d4] 0 (λj v e=>by rw[zero_add];exact e);replace HB:=zI HB hn;replace O0:=zk (O0.out.q_ hn);replace R1:=zk (R1.out.q_ hn);replace R2:=zk (R2.out.q_ hn);replace R3:=zk (R3.out.q_ hn);replace R4:=zk (R4.out.q_ hn)
 clear hn;go_wp2_with fail
 generalize hw8:w4.alloc (cells #[.string ⟨#[120]⟩,.bool s2,slice x2 n2 c2,slice y2 m2 d2,.int .i64 0,.bool s3,slice x3 n3 c3,slice y3 m3 d3,.int .i64 0,.bool s4,slice x4 n4 c4,slice y4 m4 d4] 61)=w8 at *;clear hw8;generalize w4.heap.size=bc at *;refine(zfa (z:=2) (by decide) (by decide)).mono ?_;rintro e w5 ⟨v5,rfl,hb,⟨⟨i5,⟨s5,x5,n5,c5,f5,y5,m5,d5,g5⟩⟩,ev,hi5,hv⟩⟩;replace ev:v5=agg #[.int .i64 i5,.bool s5,slice x5 n5 c5,slice y5 m5 d5]:=ev;subst ev;replace HB:=zI HB hb;replace O0:=zk (O0.out.q_ hb);replace R1:=zk (R1.out.q_ hb);replace R2:=zk (R2.out.q_ hb);replace R3:=zk (R3.out.q_ hb);replace R4:=zk (R4.out.q_ hb);replace HC:=zk (HC.out.q_ hb)
 replace hi5:i5=0:=hi5;subst hi5;have R5:=zk (show Rn 8 w5 s5 x5 n5 c5 f5 y5 m5 d5 g5 (2:Int)from hv);clear hb hv;go_wp2_with fail
 refine(zfa (z:=9) (by decide) (by decide)).mono ?_;rintro e w6 ⟨v6,rfl,hb,⟨⟨i6,⟨s6,x6,n6,c6,f6,y6,m6,d6,g6⟩⟩,ev,hi6,hv⟩⟩;replace ev:v6=agg #[.int .i64 i6,.bool s6,slice x6 n6 c6,slice y6 m6 d6]:=ev;subst ev;replace HB:=zI HB hb;replace O0:=zk (O0.out.q_ hb);replace R1:=zk (R1.out.q_ hb);replace R2:=zk (R2.out.q_ hb);replace R3:=zk (R3.out.q_ hb);replace R4:=zk (R4.out.q_ hb);replace HC:=zk (HC.out.q_ hb);replace R5:=zk (R5.out.q_ hb)
 replace hi6:i6=0:=hi6;subst hi6;have R6:=zk (show Rn 8 w6 s6 x6 n6 c6 f6 y6 m6 d6 g6 (9:Int)from hv);clear hb hv;go_wp2_with fail
 refine(zbE (z:=1) (by decide) (by decide)).mono ?_;rintro e w7 ⟨s7,x7,n7,c7,f7,y7,m7,d7,g7,rfl,hb,hr⟩;replace HB:=zI HB hb;replace O0:=zk (O0.out.q_ hb);replace R1:=zk (R1.out.q_ hb);replace R2:=zk (R2.out.q_ hb);replace R3:=zk (R3.out.q_ hb);replace R4:=zk (R4.out.q_ hb);replace HC:=zk (HC.out.q_ hb);replace R5:=zk (R5.out.q_ hb);replace R6:=zk (R6.out.q_ hb)
 have R7:=zk hr;clear hb hr;have HTs:Hid (C4 (w7.alloc (cells #[.int .i64 0,.bool s7,slice x7 n7 c7,slice y7 m7 d7] 66)) w7.heap.size 0 (.int .i64 0) (.bool s7) (slice x7 n7 c7) (slice y7 m7 d7)):=cs4 (zdm w7 66 [.int .i64 0,.bool s7,slice x7 n7 c7,slice y7 m7 d7] [.int .i64 0,.bool s7,slice x7 n7 c7,slice y7 m7 d7] 0 (λj v e=>by rw[zero_add];exact e));have hn:=zA w7 (cells #[.int .i64 0,.bool s7,slice x7 n7 c7,slice y7 m7 d7] 66);replace HB:=zI HB hn;replace O0:=zk (O0.out.q_ hn);replace R1:=zk (R1.out.q_ hn);replace R2:=zk (R2.out.q_ hn);replace R3:=zk (R3.out.q_ hn);replace R4:=zk (R4.out.q_ hn);replace HC:=zk (HC.out.q_ hn);replace R5:=zk (R5.out.q_ hn);replace R6:=zk (R6.out.q_ hn);replace R7:=zk (R7.out.q_ hn)
 clear hn;have hn:=zu (Below.refl (w7.alloc (cells #[.int .i64 0,.bool s7,slice x7 n7 c7,slice y7 m7 d7] 66)).heap.size (w7.alloc (cells #[.int .i64 0,.bool s7,slice x7 n7 c7,slice y7 m7 d7] 66))) (cells #[.string ⟨#[114]⟩,.int .i64 0,.bool s5,slice x5 n5 c5,slice y5 m5 d5,.int .i64 0,.bool s6,slice x6 n6 c6,slice y6 m6 d6,slice (some ⟨w7.heap.size,0,none⟩) 1 1] 64);have HRs:Hid (Cs ((w7.alloc (cells #[.int .i64 0,.bool s7,slice x7 n7 c7,slice y7 m7 d7] 66)).alloc (cells #[.string ⟨#[114]⟩,.int .i64 0,.bool s5,slice x5 n5 c5,slice y5 m5 d5,.int .i64 0,.bool s6,slice x6 n6 c6,slice y6 m6 d6,slice (some ⟨w7.heap.size,0,none⟩) 1 1] 64)) (w7.alloc (cells #[.int .i64 0,.bool s7,slice x7 n7 c7,slice y7 m7 d7] 66)).heap.size 0 [.string ⟨#[114]⟩,.int .i64 0,.bool s5,slice x5 n5 c5,slice y5 m5 d5,.int .i64 0,.bool s6,slice x6 n6 c6,slice y6 m6 d6,slice (some ⟨w7.heap.size,0,none⟩) 1 1]):=zdm (w7.alloc (cells #[.int .i64 0,.bool s7,slice x7 n7 c7,slice y7 m7 d7] 66)) 64 [.string ⟨#[114]⟩,.int .i64 0,.bool s5,slice x5 n5 c5,slice y5 m5 d5,.int .i64 0,.bool s6,slice x6 n6 c6,slice y6 m6 d6,slice (some ⟨w7.heap.size,0,none⟩) 1 1] [.string ⟨#[114]⟩,.int .i64 0,.bool s5,slice x5 n5 c5,slice y5 m5 d5,.int .i64 0,.bool s6,slice x6 n6 c6,slice y6 m6 d6,slice (some ⟨w7.heap.size,0,none⟩) 1 1] 0 (λj v e=>by rw[zero_add];exact e);replace HB:=zI HB hn;replace O0:=zk (O0.out.q_ hn);replace R1:=zk (R1.out.q_ hn);replace R2:=zk (R2.out.q_ hn);replace R3:=zk (R3.out.q_ hn);replace R4:=zk (R4.out.q_ hn);replace HC:=zk (HC.out.q_ hn);replace R5:=zk (R5.out.q_ hn);replace R6:=zk (R6.out.q_ hn);replace R7:=zk (R7.out.q_ hn);replace HTs:=zk (HTs.out.q_ hn)
 clear hn;rw[zw]at HRs
 have HMo:Hid (MoV 8 ((w7.alloc (cells #[.int .i64 0,.bool s7,slice x7 n7 c7,slice y7 m7 d7] 66)).alloc (cells #[.string ⟨#[114]⟩,.int .i64 0,.bool s5,slice x5 n5 c5,slice y5 m5 d5,.int .i64 0,.bool s6,slice x6 n6 c6,slice y6 m6 d6,slice (some ⟨w7.heap.size,0,none⟩) 1 1] 64)) ⟨⟨s1,x1,n1,c1,f1,y1,m1,d1,g1⟩,some ⟨bc,0,none⟩,1,1,λ_=>⟨⟨#[120]⟩,⟨s2,x2,n2,c2,f2,y2,m2,d2,g2⟩,⟨0,⟨s3,x3,n3,c3,f3,y3,m3,d3,g3⟩⟩,⟨0,⟨s4,x4,n4,c4,f4,y4,m4,d4,g4⟩⟩⟩,some ⟨w7.heap.size+1,0,none⟩,1,1,λ_=>⟨⟨#[114]⟩,⟨0,⟨s5,x5,n5,c5,f5,y5,m5,d5,g5⟩⟩,⟨0,⟨s6,x6,n6,c6,f6,y6,m6,d6,g6⟩⟩,some ⟨w7.heap.size,0,none⟩,1,1,λ_=>0,λ_=>⟨s7,x7,n7,c7,f7,y7,m7,d7,g7⟩⟩⟩ 0 k1C k1R):=by
  refine⟨R1.out.mono (by decide),rfl,rfl,λj v e=>?_,λj v e=>?_⟩
  ·match j,e with
   | 0,e=>cases e;exact⟨⟨_,0,rfl,HC.out⟩,rfl,R2.out.mono (by decide),rfl,R3.out,rfl,R4.out⟩
  ·match j,e with
   | 0,e =>
    cases e
    refine⟨⟨_,0,rfl,HRs.out⟩,rfl,rfl,R5.out,rfl,R6.out,rfl,λp z q e=>?_⟩
    match p,e with
    | 0,e =>
     cases e
     exact⟨rfl,R7.out.mono (by decide),_,0,rfl,HTs.out⟩
 obtain⟨hk1,hk2⟩:=zje (v0:=.bool s1) (v1:=slice x1 n1 c1) (v2:=slice y1 m1 d1) (v3:=slice (some ⟨bc,0,none⟩) 1 1) (v4:=slice (some ⟨w7.heap.size+1,0,none⟩) 1 1) O0.out (ziY _ _ _ _ _ _ _ _ _ _ _ _ _) rfl;have HM2:=zk (HMo.out.kp hk1 hk2 (zsy O0.out));have HB2:=zk (zep (u0:=.bool s1) (u1:=slice x1 n1 c1) (u2:=slice y1 m1 d1) (u3:=slice (some ⟨bc,0,none⟩) 1 1) (u4:=slice (some ⟨w7.heap.size+1,0,none⟩) 1 1) HB.out (le_refl w.heap.size));obtain⟨l0,l1,l2,l3,l4⟩:=bk5 O0.out;have ff:=O0.out.frozen;clear hk1 hk2 HMo HB O0 R1 R2 R3 R4 R5 R6 R7 HC HTs HRs;go_wp2;exact bodyPost_ret (v:=agg #[.bool s1,slice x1 n1 c1,slice y1 m1 d1,slice (some ⟨bc,0,none⟩) 1 1,slice (some ⟨w7.heap.size+1,0,none⟩) 1 1]) (by simp[results,results20,go_sem,l0,l1,l2,l3,l4]) rfl ⟨_,rfl,HB2.out,HM2.out⟩
theorem zhj {k X z} (h:afB k X=true) (e:(k:Int)=z):pnE k X z=0:=by unfold pnE;rw[if_pos h,if_pos e]
theorem znP {M k0 k1 k2 k3 X0 X1 X2 X3} (h:zar M=0) (h0:afB k0 X0=true) (h1:afB k1 X1=true) (h2:afB k2 X2=true) (h3:afB k3 X3=true) (e0:k0=M.rk) (e1:k1=M.rk) (e2:k2=M.ck) (e3:k3=M.ck):cbE M k0 X0 k1 X1 k2 X2 k3 X3=0:=by
 subst e0;subst e1;subst e2;subst e3
 unfold cbE zit;rw[h,zhj h0 rfl,zhj h1 rfl,zhj h2 rfl,zhj h3 rfl];rfl
theorem znC {w L M off cs rs a0 a1 a2 a3 k0 c0 k1 c1 k2 c2 k3 c3 l0 l1 l2 l3} (h:MoV L w M off cs rs) (ho:zbC cs rs=true) (x0:Rf L w a0 l0) (x1:Rf L w a1 l1) (x2:Rf L w a2 l2) (x3:Rf L w a3 l3) (e0:l0.length=k0) (e1:l1.length=k1) (e2:l2.length=k2) (e3:l3.length=k3) (q0:k0=rs.length) (q1:k1=rs.length) (q2:k2=cs.length) (q3:k3=cs.length) (hL1:4<=L) (hL2:L<=100) :
  Calls prog 8 #[M.val,agg #[slice a0 k0 c0,slice a1 k1 c1,slice a2 k2 c2,slice a3 k3 c3]] w λe w'=>e=returned (.tuple #[.bool (vldB 0 cs.length (bdA cs rs l0 l1 l2 l3)),.int .i64 0])/\Bl w w':=by
 obtain⟨h1,h2⟩:=h.chk (by omega) ho;have mp:=zbB ho;have hcl:=mp.cl;have hrl:=mp.rl
 obtain⟨X0,y0,z0⟩:=zet x0 (by omega);rw[e0]at y0 z0
 obtain⟨X1,y1,z1⟩:=zet x1 (by omega);rw[e1]at y1 z1
 obtain⟨X2,y2,z2⟩:=zet x2 (by omega);rw[e2]at y2 z2
 obtain⟨X3,y3,z3⟩:=zet x3 (by omega);rw[e3]at y3 z3
 have he:cbE M k0 X0 k1 X1 k2 X2 k3 X3=0:=znP h1 z0 z1 z2 z3 (by rw[h.rk];exact q0) (by rw[h.rk];exact q1) (by rw[h.ck];exact q2) (by rw[h.ck];exact q3);have hv:=λ(_:(0:Int)=0)=>And.intro h (And.intro ho (And.intro (And.intro x0 (And.intro x1 (And.intro x2 x3))) (And.intro (And.intro e0 (And.intro e1 (And.intro e2 e3))) (And.intro q0 (And.intro q1 (And.intro q2 q3))))))
 have:=znB (c0:=c0) (c1:=c1) (c2:=c2) (c3:=c3) (λ_ _=>h2) y0 y1 y2 y3 (by omega) (by omega) (by omega) (by omega) he hv hL1 hL2;rw[h1]at this
 exact this
theorem zdj {w L M off cs rs a0 a1 a2 a3 k0 c0 k1 c1 k2 c2 k3 c3 l0 l1 l2 l3} (h:MoV L w M off cs rs) (ho:zbC cs rs=true) (x0:Rf L w a0 l0) (x1:Rf L w a1 l1) (x2:Rf L w a2 l2) (x3:Rf L w a3 l3) (e0:l0.length=k0) (e1:l1.length=k1) (e2:l2.length=k2) (e3:l3.length=k3) (q0:k0=rs.length) (q1:k1=rs.length) (q2:k2=cs.length) (q3:k3=cs.length) (hL1:4<=L) (hL2:L<=100) :
  Calls prog 12 #[M.val,agg #[slice a0 k0 c0,slice a1 k1 c1,slice a2 k2 c2,slice a3 k3 c3]] w λe w'=>CmbAns L w w' e 0 cs (bdA cs rs l0 l1 l2 l3):=by
 obtain⟨h1,h2⟩:=h.chk (by omega) ho;have mp:=zbB ho;have hcl:=mp.cl;have hrl:=mp.rl
 obtain⟨X0,y0,z0⟩:=zet x0 (by omega);rw[e0]at y0 z0
 obtain⟨X1,y1,z1⟩:=zet x1 (by omega);rw[e1]at y1 z1
 obtain⟨X2,y2,z2⟩:=zet x2 (by omega);rw[e2]at y2 z2
 obtain⟨X3,y3,z3⟩:=zet x3 (by omega);rw[e3]at y3 z3
 have he:cbE M k0 X0 k1 X1 k2 X2 k3 X3=0:=znP h1 z0 z1 z2 z3 (by rw[h.rk];exact q0) (by rw[h.rk];exact q1) (by rw[h.ck];exact q2) (by rw[h.ck];exact q3);have hv:=λ(_:(0:Int)=0)=>And.intro h (And.intro ho (And.intro (And.intro x0 (And.intro x1 (And.intro x2 x3))) (And.intro (And.intro e0 (And.intro e1 (And.intro e2 e3))) (And.intro q0 (And.intro q1 (And.intro q2 q3))))))
 exact zdi (c0:=c0) (c1:=c1) (c2:=c2) (c3:=c3) (λ_ _=>h2) y0 y1 y2 y3 (by omega) (by omega) (by omega) (by omega) he hv hL1 hL2
theorem ziu {w L M off cs rs} (h:MoV L w M off cs rs) (ho:zbC cs rs=true) (hL:L<=100) :
  Calls prog 16 #[M.val] w λe w'=>CsgAns w w' e 0 cs rs:=by
 obtain⟨h1,h2⟩:=h.chk (by omega) ho;exact zev (λ_ _=>h2) (λ_ _=>h.mob hL) h1 (λ_=>⟨h,ho⟩)
theorem Rf.fr {F L w w' B o p} (h:Rf L w (some ⟨B,o,none⟩) p) (hf:Fr F w w') (hn:¬F B):Rf L w' (some ⟨B,o,none⟩) p:=λj q e=>by
 obtain⟨b,o',t,e1,h1,h2⟩:=h j q e;cases e1
 exact⟨_,_,t,rfl,⟨hf.cell hn h1.x0,hf.cell hn h1.x1,hf.cell hn h1.x2⟩,hf.rn h2⟩
theorem zio:zbC k1C k1R=true:=by decide +kernel
def k1B:List BV:=[⟨1,0,2,false,[(0,1)]⟩,⟨0,0,9,true,[(0,1)]⟩,⟨0,0,0,false,[(0,1)]⟩,⟨1,0,1,true,[(0,1)]⟩]
theorem zsD:vldB 0 k1C.length k1B=true:=by decide +kernel
theorem zrd:k1B.any infB=false:=by decide +kernel
theorem zrc:(List.range k1C.length).map (cmbQ k1B)=[((0:Int):Rat)]:=by decide +kernel
theorem zrb:cmbS k1B=((1:Int):Rat):=by decide +kernel
theorem zsC:crl (cvC k1C) k1C.length=[]/\crl (cvR k1R) k1R.length=[]:=by decide +kernel
theorem zlL (w:World):Calls prog 5 #[] w λe w'=>e=returned (.bool true)/\Bl w w':=by
 have HB:=zk (Below.refl w.heap.size w);go_enter func5,ntmps5;go_wp2_with fail
 refine(zeZ (z:=1) (by decide) (by decide)).mono ?_;rintro e v0 ⟨a0,rfl,hb,hx⟩;replace HB:=zI HB hb;have X0:=zk hx.out;clear hb hx;go_wp2_with fail
 refine(zeZ (z:=0) (by decide) (by decide)).mono ?_;rintro e v1 ⟨a1,rfl,hb,hx⟩;replace HB:=zI HB hb;replace X0:=zk (X0.out.q_ hb)
 have X1:=zk hx.out;clear hb hx;go_wp2_with fail
 refine(zeZ (z:=0) (by decide) (by decide)).mono ?_;rintro e v2 ⟨a2,rfl,hb,hx⟩;replace HB:=zI HB hb;replace X0:=zk (X0.out.q_ hb);replace X1:=zk (X1.out.q_ hb)
 have X2:=zk hx.out;clear hb hx;go_wp2_with fail
 refine(zeZ (z:=1) (by decide) (by decide)).mono ?_;rintro e v3 ⟨a3,rfl,hb,hx⟩;replace HB:=zI HB hb;replace X0:=zk (X0.out.q_ hb);replace X1:=zk (X1.out.q_ hb);replace X2:=zk (X2.out.q_ hb)
 have X3:=zk hx.out;clear hb hx;have hbn:=zA v3 (cells #[slice a0 1 1,slice a1 1 1,slice a2 1 1,slice a3 1 1] 31);have BK:=zk (zH v3 [slice a0 1 1,slice a1 1 1,slice a2 1 1,slice a3 1 1] 31);replace HB:=zI HB hbn;replace X0:=zk (X0.out.q_ hbn);replace X1:=zk (X1.out.q_ hbn);replace X2:=zk (X2.out.q_ hbn);replace X3:=zk (X3.out.q_ hbn)
 clear hbn;go_upto_region 2 with fail
 generalize v3.alloc (cells #[slice a0 1 1,slice a1 1 1,slice a2 1 1,slice a3 1 1] 31)=v4 at *;generalize v3.heap.size=xk at *;have hbd:=Below.drew (Below.refl v4.heap.size v4);replace HB:=zI HB hbd;replace X0:=zk (X0.out.q_ hbd);replace X1:=zk (X1.out.q_ hbd);replace X2:=zk (X2.out.q_ hbd);replace X3:=zk (X3.out.q_ hbd);replace BK:=zk (BK.out.q_ hbd)
 clear hbd;obtain⟨r0,r1,r2,r3⟩:=bk4 BK.out;refine wp_region_held_drew (S:=(λw'=>w'.cell? ⟨xk,0,none⟩=some (slice a0 1 1)/\w'.cell? ⟨xk,1,none⟩=some (slice a1 1 1)/\w'.cell? ⟨xk,2,none⟩=some (slice a2 1 1)/\w'.cell? ⟨xk,3,none⟩=some (slice a3 1 1))) (by kernel_rfl) ?_ (λhHeld=>?_)
 ·exact⟨r0,r1,r2,r3⟩
 generalize v4.drew=u0 at *;refine zB 1 ?_;simp only[zv,Act.put];refine rdO 0 (λK hK=>?_);go_simp
 go_at_call 20
 refine first12_c.mono ?_;rintro e u1 ⟨⟨⟨sm,xm,nm,cm,fm,ym,mm,dm,gm⟩,cam,ckm,ccm,Cm,ram,rkm,rcm,Rm⟩,rfl,hb,HM⟩
 (try go_wp2_with fail)
 refine hK.out _ _ ?_ (λhH0=>?_)
 ·((try dsimp only);(refine⟨?_,?_,?_,?_⟩ <;> repeat(with_reducible first|assumption|refine kCb (by assumption) ?_)))
 clear hK K;try simp only[zv,Act.put]
 clear r0 r1 r2 r3;obtain⟨r0,r1,r2,r3⟩:=id hH0;replace HB:=zI HB hb;replace X0:=zk (X0.out.q_ hb);replace X1:=zk (X1.out.q_ hb);replace X2:=zk (X2.out.q_ hb);replace X3:=zk (X3.out.q_ hb);replace BK:=zk (BK.out.q_ hb)
 clear hb;refine rdO 2 (λK hK=>?_);go_simp
 go_at_call 8
 refine(znC (L:=8) HM.out zio (Rf.mono X0.out (by decide)) (Rf.mono X1.out (by decide)) (Rf.mono X2.out (by decide)) (Rf.mono X3.out (by decide)) rfl rfl rfl rfl rfl rfl rfl rfl (by decide) (by decide)).mono ?_;rintro e u2 ⟨rfl,hb⟩;rw[show vldB 0 k1C.length (bdA k1C k1R [((1:Int):Rat)] [((0:Int):Rat)] [((0:Int):Rat)] [((1:Int):Rat)])=true from zsD]
 (try go_wp2_with fail)
 refine hK.out _ _ ?_ (λhH1=>?_)
 ·((try dsimp only);(refine⟨?_,?_,?_,?_⟩ <;> repeat(with_reducible first|assumption|refine kCb (by assumption) ?_)))
 clear hK K;try simp only[zv,Act.put]
 clear r0 r1 r2 r3;obtain⟨r0,r1,r2,r3⟩:=id hH1;replace HB:=zI HB hb;replace X0:=zk (X0.out.q_ hb);replace X1:=zk (X1.out.q_ hb);replace X2:=zk (X2.out.q_ hb);replace X3:=zk (X3.out.q_ hb);replace BK:=zk (BK.out.q_ hb)
 clear hb HM;refine zB 3 ?_;refine zB 4 ?_;refine zB 5 ?_;simp only[zv,Act.put];refine zB 6 ?_;refine zB 7 ?_;simp only[zv,Act.put];refine dnO ?_;clear hHeld hH0 hH1 r0 r1 r2 r3;go_upto_region 3 with fail
 go_cut [4,5,6]from 20 to 26 (λp q r wx=>∃(wz:World) (B bx:Nat) (s:Bool) (x:Option Addr) (n c:Nat) (f:Nat->Int) (y:Option Addr) (m d:Nat) (g:Nat->Int),wz=wx/\p=slice (some ⟨B,0,none⟩) 1 1/\q=.pointer (some ⟨bx,0,none⟩)/\r=.int .i64 0/\Hid (Bl w wz)/\Hid (Rf (KC 8) wz (some ⟨B,0,none⟩) [((0:Int):Rat)])/\Hid (Sx wz bx s x n c y m d)/\Hid (Rn (KC 8) wz s x n c f y m d g ((1:Int):Rat)))
 case first =>
  have hbd:=Below.drew (Below.refl u2.heap.size u2);replace HB:=zI HB hbd;replace X0:=zk (X0.out.q_ hbd);replace X1:=zk (X1.out.q_ hbd);replace X2:=zk (X2.out.q_ hbd);replace X3:=zk (X3.out.q_ hbd);replace BK:=zk (BK.out.q_ hbd)
  clear hbd;obtain⟨r0,r1,r2,r3⟩:=bk4 BK.out;refine wp_region_held_drew (S:=(λw'=>w'.cell? ⟨xk,0,none⟩=some (slice a0 1 1)/\w'.cell? ⟨xk,1,none⟩=some (slice a1 1 1)/\w'.cell? ⟨xk,2,none⟩=some (slice a2 1 1)/\w'.cell? ⟨xk,3,none⟩=some (slice a3 1 1))) (by kernel_rfl) ?_ (λhHeld=>?_)
  ·exact⟨r0,r1,r2,r3⟩
  generalize u2.drew=u3 at *;refine zB 1 ?_;simp only[zv,Act.put];refine wpAnyH_ready (rs:=[0,7]) (by kernel_rfl) (by simp) ?_;refine AllReadyH.cons (o:=_) rfl (λK hK=>?_) ?_
  ·go_simp
   go_at_call 20
   refine first12_c.mono ?_;rintro e u4 ⟨⟨⟨sm,xm,nm,cm,fm,ym,mm,dm,gm⟩,cam,ckm,ccm,Cm,ram,rkm,rcm,Rm⟩,rfl,hb,HM⟩
   (try go_wp2_with fail)
   refine hK.out _ _ ?_ (λhHa=>?_)
   ·((try dsimp only);(refine⟨?_,?_,?_,?_⟩ <;> repeat(with_reducible first|assumption|refine kCb (by assumption) ?_)))
   clear hK K;try simp only[zv,Act.put]
   clear r0 r1 r2 r3;obtain⟨r0,r1,r2,r3⟩:=id hHa;replace HB:=zI HB hb;replace X0:=zk (X0.out.q_ hb);replace X1:=zk (X1.out.q_ hb);replace X2:=zk (X2.out.q_ hb);replace X3:=zk (X3.out.q_ hb);replace BK:=zk (BK.out.q_ hb)
   clear hb;refine wpAnyH_ready (rs:=[2,7]) (by kernel_rfl) (by simp) ?_;refine AllReadyH.cons (o:=_) rfl (λK hK=>?_) ?_
   ·go_simp
    go_at_call 12
    refine(zdj (L:=8) HM.out zio (Rf.mono X0.out (by decide)) (Rf.mono X1.out (by decide)) (Rf.mono X2.out (by decide)) (Rf.mono X3.out (by decide)) rfl rfl rfl rfl rfl rfl rfl rfl (by decide) (by decide)).mono ?_;rintro e u5 ⟨hb,⟨h9,_⟩|⟨_,h9,_⟩|⟨_,_,B,s7,x7,n7,c7,f7,y7,m7,d7,g7,hBB,rfl,hrf,hrn⟩⟩
    ·exact absurd rfl h9
    ·rw[show(bdA k1C k1R [((1:Int):Rat)] [((0:Int):Rat)] [((0:Int):Rat)] [((1:Int):Rat)]).any infB=false from zrd]at h9;cases h9
    rw[show k1C.length=1 from rfl]
    (try go_wp2_with fail)
    refine hK.out _ _ ?_ (λhHb=>?_)
    ·((try dsimp only);(refine⟨?_,?_,?_,?_⟩ <;> repeat(with_reducible first|assumption|refine kCb (by assumption) ?_)))
    clear hK K;try simp only[zv,Act.put]
    clear r0 r1 r2 r3;obtain⟨r0,r1,r2,r3⟩:=id hHb;rw[show(List.range k1C.length).map (cmbQ (bdA k1C k1R [((1:Int):Rat)] [((0:Int):Rat)] [((0:Int):Rat)] [((1:Int):Rat)]))=[((0:Int):Rat)]from zrc]at hrf
    rw[show cmbS (bdA k1C k1R [((1:Int):Rat)] [((0:Int):Rat)] [((0:Int):Rat)] [((1:Int):Rat)])=((1:Int):Rat)from zrb]at hrn
    have RF:=zk hrf;have RN:=zk hrn
    have hb1:=hBB.1;have hb2:=hBB.2
    replace HB:=zI HB hb;replace X0:=zk (X0.out.q_ hb);replace X1:=zk (X1.out.q_ hb);replace X2:=zk (X2.out.q_ hb);replace X3:=zk (X3.out.q_ hb);replace BK:=zk (BK.out.q_ hb)
    clear hb hrf hrn HM;refine zB 3 ?_;refine zB 4 ?_;refine zB 5 ?_;simp only[zv,Act.put];refine zB 6 ?_;simp only[zv,Act.put];refine rdO 7 (λK hK=>?_);go_simp;have HXK:Hid (¬(xk=u5.heap.size)):=λe=>by have:=BK.out.lt;omega
    have HWB:Hid (w.heap.size<=u5.heap.size):=HB.out.size;have hbA:=zA u5 (cells #[.bool false,slice none 0 0,slice none 0 0] 24);have BX:=zk (zH u5 [.bool false,slice none 0 0,slice none 0 0] 24);replace BX:Hid (Bk (u5.alloc (cells #[.bool false,slice none 0 0,slice none 0 0] 24)) u5.heap.size [.bool false,slice none 0 0,slice none 0 0] 24):=BX;refine hK.out _ _ ?_ (λhHc=>?_)
    ·((try dsimp only);(refine⟨?_,?_,?_,?_⟩ <;> repeat(with_reducible first|assumption|refine kCb (by assumption) ?_)))
    clear hK K;try simp only[zv,Act.put]
    clear r0 r1 r2 r3;obtain⟨r0,r1,r2,r3⟩:=id hHc;replace HB:=zI HB hbA;replace X0:=zk (X0.out.q_ hbA);replace X1:=zk (X1.out.q_ hbA);replace X2:=zk (X2.out.q_ hbA);replace X3:=zk (X3.out.q_ hbA);replace BK:=zk (BK.out.q_ hbA)
    have hsA:=hbA.size;replace RF:=zk (RF.out.q_ hbA);replace RN:=zk (RN.out.q_ hbA)
    generalize hWA:u5.alloc (cells #[.bool false,slice none 0 0,slice none 0 0] 24)=u6 at *;clear hWA hbA;generalize hbx:u5.heap.size=bx at *;refine zB 8 ?_;simp only[zv,Act.put];refine rdO 9 (λK hK=>?_);have SX:=zk BX.out.sx;obtain⟨sz,z0,z1,z2,zf⟩:=BX.out.sx;have FG:=zk (zhT (u0:=.bool s7) (u1:=slice x7 n7 c7) (u2:=slice y7 m7 d7) SX.out);go_simp;refine hK.out _ _ ?_ (λhHd=>?_)
    ·exact⟨FG.out.cell HXK.out (BK.out.cell (j:=0) rfl),FG.out.cell HXK.out (BK.out.cell (j:=1) rfl),FG.out.cell HXK.out (BK.out.cell (j:=2) rfl),FG.out.cell HXK.out (BK.out.cell (j:=3) rfl)⟩
    clear hK K;try simp only[zv,Act.put]
    refine zB 10 ?_;simp only[zv,Act.put];refine dnO ?_;have HSX:=zk (SX.out.st (s1:=s7) (x1:=x7) (n1:=n7) (c1:=c7) (y1:=y7) (m1:=m7) (d1:=d7));have HRN:=zk (FG.out.rn RN.out)
    have HRF:Hid (Rf (KC 8) _ (some ⟨B,0,none⟩) [((0:Int):Rat)]):=RF.out.fr FG.out (by omega);have HBz:=zk (Fr.q_ HB.out FG.out (λk hk=>by have:=HWB.out;omega))
    (try go_wp2_with fail)
    go_meet
    exact⟨_,B,_,s7,x7,n7,c7,f7,y7,m7,d7,g7,rfl,rfl,rfl,rfl,HBz.out,HRF.out,HSX.out,HRN.out⟩
   refine AllReadyH.cons (o:=_) rfl (λK hK=>?_) ?_
   ·go_simp;have HXK:Hid (¬(xk=u4.heap.size)):=λe=>by have:=BK.out.lt;omega
    have HWB:Hid (w.heap.size<=u4.heap.size):=HB.out.size;have hbA:=zA u4 (cells #[.bool false,slice none 0 0,slice none 0 0] 24);have BX:=zk (zH u4 [.bool false,slice none 0 0,slice none 0 0] 24);replace BX:Hid (Bk (u4.alloc (cells #[.bool false,slice none 0 0,slice none 0 0] 24)) u4.heap.size [.bool false,slice none 0 0,slice none 0 0] 24):=BX;refine hK.out _ _ ?_ (λhHc=>?_)
    ·((try dsimp only);(refine⟨?_,?_,?_,?_⟩ <;> repeat(with_reducible first|assumption|refine kCb (by assumption) ?_)))
    clear hK K;try simp only[zv,Act.put]
    clear r0 r1 r2 r3;obtain⟨r0,r1,r2,r3⟩:=id hHc;replace HB:=zI HB hbA;replace X0:=zk (X0.out.q_ hbA);replace X1:=zk (X1.out.q_ hbA);replace X2:=zk (X2.out.q_ hbA);replace X3:=zk (X3.out.q_ hbA);replace BK:=zk (BK.out.q_ hbA)
    have hsA:=hbA.size;replace HM:=zk (HM.out.q_ hbA);generalize hWA:u4.alloc (cells #[.bool false,slice none 0 0,slice none 0 0] 24)=u7 at *;clear hWA hbA;generalize hbx:u4.heap.size=bx at *;refine rdO 2 (λK hK=>?_);go_simp
    go_at_call 12
    refine(zdj (L:=8) HM.out zio (Rf.mono X0.out (by decide)) (Rf.mono X1.out (by decide)) (Rf.mono X2.out (by decide)) (Rf.mono X3.out (by decide)) rfl rfl rfl rfl rfl rfl rfl rfl (by decide) (by decide)).mono ?_;rintro e u8 ⟨hb,⟨h9,_⟩|⟨_,h9,_⟩|⟨_,_,B,s7,x7,n7,c7,f7,y7,m7,d7,g7,hBB,rfl,hrf,hrn⟩⟩
    ·exact absurd rfl h9
    ·rw[show(bdA k1C k1R [((1:Int):Rat)] [((0:Int):Rat)] [((0:Int):Rat)] [((1:Int):Rat)]).any infB=false from zrd]at h9;cases h9
    rw[show k1C.length=1 from rfl]
    (try go_wp2_with fail)
    refine hK.out _ _ ?_ (λhHb=>?_)
    ·((try dsimp only);(refine⟨?_,?_,?_,?_⟩ <;> repeat(with_reducible first|assumption|refine kCb (by assumption) ?_)))
    clear hK K;try simp only[zv,Act.put]
    clear r0 r1 r2 r3;obtain⟨r0,r1,r2,r3⟩:=id hHb;rw[show(List.range k1C.length).map (cmbQ (bdA k1C k1R [((1:Int):Rat)] [((0:Int):Rat)] [((0:Int):Rat)] [((1:Int):Rat)]))=[((0:Int):Rat)]from zrc]at hrf
    rw[show cmbS (bdA k1C k1R [((1:Int):Rat)] [((0:Int):Rat)] [((0:Int):Rat)] [((1:Int):Rat)])=((1:Int):Rat)from zrb]at hrn
    have RF:=zk hrf;have RN:=zk hrn
    have hb1:=hBB.1;have hb2:=hBB.2
    have hlt:=BX.out.lt;replace HB:=zI HB hb;replace X0:=zk (X0.out.q_ hb);replace X1:=zk (X1.out.q_ hb);replace X2:=zk (X2.out.q_ hb);replace X3:=zk (X3.out.q_ hb);replace BK:=zk (BK.out.q_ hb);replace BX:=zk (BX.out.q_ hb)
    clear hb hrf hrn HM;refine zB 3 ?_;refine zB 4 ?_;refine zB 5 ?_;simp only[zv,Act.put];refine zB 6 ?_;refine zB 8 ?_;simp only[zv,Act.put];refine rdO 9 (λK hK=>?_);have SX:=zk BX.out.sx;obtain⟨sz,z0,z1,z2,zf⟩:=BX.out.sx;have FG:=zk (zhT (u0:=.bool s7) (u1:=slice x7 n7 c7) (u2:=slice y7 m7 d7) SX.out);go_simp;refine hK.out _ _ ?_ (λhHd=>?_)
    ·exact⟨FG.out.cell HXK.out (BK.out.cell (j:=0) rfl),FG.out.cell HXK.out (BK.out.cell (j:=1) rfl),FG.out.cell HXK.out (BK.out.cell (j:=2) rfl),FG.out.cell HXK.out (BK.out.cell (j:=3) rfl)⟩
    clear hK K;try simp only[zv,Act.put]
    refine zB 10 ?_;simp only[zv,Act.put];refine dnO ?_;have HSX:=zk (SX.out.st (s1:=s7) (x1:=x7) (n1:=n7) (c1:=c7) (y1:=y7) (m1:=m7) (d1:=d7));have HRN:=zk (FG.out.rn RN.out)
    have HRF:Hid (Rf (KC 8) _ (some ⟨B,0,none⟩) [((0:Int):Rat)]):=RF.out.fr FG.out (by omega);have HBz:=zk (Fr.q_ HB.out FG.out (λk hk=>by have:=HWB.out;omega))
    (try go_wp2_with fail)
    go_meet
    exact⟨_,B,_,s7,x7,n7,c7,f7,y7,m7,d7,g7,rfl,rfl,rfl,rfl,HBz.out,HRF.out,HSX.out,HRN.out⟩
   exact AllReadyH.nil
  refine AllReadyH.cons (o:=_) rfl (λK hK=>?_) ?_
  ·go_simp;have HXK:Hid (¬(xk=u3.heap.size)):=λe=>by have:=BK.out.lt;omega
   have HWB:Hid (w.heap.size<=u3.heap.size):=HB.out.size;have hbA:=zA u3 (cells #[.bool false,slice none 0 0,slice none 0 0] 24);have BX:=zk (zH u3 [.bool false,slice none 0 0,slice none 0 0] 24);replace BX:Hid (Bk (u3.alloc (cells #[.bool false,slice none 0 0,slice none 0 0] 24)) u3.heap.size [.bool false,slice none 0 0,slice none 0 0] 24):=BX;refine hK.out _ _ ?_ (λhHc=>?_)
   ·((try dsimp only);(refine⟨?_,?_,?_,?_⟩ <;> repeat(with_reducible first|assumption|refine kCb (by assumption) ?_)))
   clear hK K;try simp only[zv,Act.put]
   clear r0 r1 r2 r3;obtain⟨r0,r1,r2,r3⟩:=id hHc;replace HB:=zI HB hbA;replace X0:=zk (X0.out.q_ hbA);replace X1:=zk (X1.out.q_ hbA);replace X2:=zk (X2.out.q_ hbA);replace X3:=zk (X3.out.q_ hbA);replace BK:=zk (BK.out.q_ hbA)
   have hsA:=hbA.size;generalize hWA:u3.alloc (cells #[.bool false,slice none 0 0,slice none 0 0] 24)=u9 at *;clear hWA hbA;generalize hbx:u3.heap.size=bx at *;refine rdO 0 (λK hK=>?_);go_simp
   go_at_call 20
   refine first12_c.mono ?_;rintro e u10 ⟨⟨⟨sm,xm,nm,cm,fm,ym,mm,dm,gm⟩,cam,ckm,ccm,Cm,ram,rkm,rcm,Rm⟩,rfl,hb,HM⟩
   (try go_wp2_with fail)
   refine hK.out _ _ ?_ (λhHa=>?_)
   ·((try dsimp only);(refine⟨?_,?_,?_,?_⟩ <;> repeat(with_reducible first|assumption|refine kCb (by assumption) ?_)))
   clear hK K;try simp only[zv,Act.put]
   clear r0 r1 r2 r3;obtain⟨r0,r1,r2,r3⟩:=id hHa;replace HB:=zI HB hb;replace X0:=zk (X0.out.q_ hb);replace X1:=zk (X1.out.q_ hb);replace X2:=zk (X2.out.q_ hb);replace X3:=zk (X3.out.q_ hb);replace BK:=zk (BK.out.q_ hb);replace BX:=zk (BX.out.q_ hb)
   clear hb;refine rdO 2 (λK hK=>?_);go_simp
   go_at_call 12
   refine(zdj (L:=8) HM.out zio (Rf.mono X0.out (by decide)) (Rf.mono X1.out (by decide)) (Rf.mono X2.out (by decide)) (Rf.mono X3.out (by decide)) rfl rfl rfl rfl rfl rfl rfl rfl (by decide) (by decide)).mono ?_;rintro e u11 ⟨hb,⟨h9,_⟩|⟨_,h9,_⟩|⟨_,_,B,s7,x7,n7,c7,f7,y7,m7,d7,g7,hBB,rfl,hrf,hrn⟩⟩
   ·exact absurd rfl h9
   ·rw[show(bdA k1C k1R [((1:Int):Rat)] [((0:Int):Rat)] [((0:Int):Rat)] [((1:Int):Rat)]).any infB=false from zrd]at h9;cases h9
   rw[show k1C.length=1 from rfl]
   (try go_wp2_with fail)
   refine hK.out _ _ ?_ (λhHb=>?_)
   ·((try dsimp only);(refine⟨?_,?_,?_,?_⟩ <;> repeat(with_reducible first|assumption|refine kCb (by assumption) ?_)))
   clear hK K;try simp only[zv,Act.put]
   clear r0 r1 r2 r3;obtain⟨r0,r1,r2,r3⟩:=id hHb;rw[show(List.range k1C.length).map (cmbQ (bdA k1C k1R [((1:Int):Rat)] [((0:Int):Rat)] [((0:Int):Rat)] [((1:Int):Rat)]))=[((0:Int):Rat)]from zrc]at hrf
   rw[show cmbS (bdA k1C k1R [((1:Int):Rat)] [((0:Int):Rat)] [((0:Int):Rat)] [((1:Int):Rat)])=((1:Int):Rat)from zrb]at hrn
   have RF:=zk hrf;have RN:=zk hrn
   have hb1:=hBB.1;have hb2:=hBB.2
   have hlt:=BX.out.lt;replace HB:=zI HB hb;replace X0:=zk (X0.out.q_ hb);replace X1:=zk (X1.out.q_ hb);replace X2:=zk (X2.out.q_ hb);replace X3:=zk (X3.out.q_ hb);replace BK:=zk (BK.out.q_ hb);replace BX:=zk (BX.out.q_ hb)
   clear hb hrf hrn HM;refine zB 3 ?_;refine zB 4 ?_;refine zB 5 ?_;simp only[zv,Act.put];refine zB 6 ?_;refine zB 8 ?_;simp only[zv,Act.put];refine rdO 9 (λK hK=>?_);have SX:=zk BX.out.sx;obtain⟨sz,z0,z1,z2,zf⟩:=BX.out.sx;have FG:=zk (zhT (u0:=.bool s7) (u1:=slice x7 n7 c7) (u2:=slice y7 m7 d7) SX.out);go_simp;refine hK.out _ _ ?_ (λhHd=>?_)
   ·exact⟨FG.out.cell HXK.out (BK.out.cell (j:=0) rfl),FG.out.cell HXK.out (BK.out.cell (j:=1) rfl),FG.out.cell HXK.out (BK.out.cell (j:=2) rfl),FG.out.cell HXK.out (BK.out.cell (j:=3) rfl)⟩
   clear hK K;try simp only[zv,Act.put]
   refine zB 10 ?_;simp only[zv,Act.put];refine dnO ?_;have HSX:=zk (SX.out.st (s1:=s7) (x1:=x7) (n1:=n7) (c1:=c7) (y1:=y7) (m1:=m7) (d1:=d7));have HRN:=zk (FG.out.rn RN.out)
   have HRF:Hid (Rf (KC 8) _ (some ⟨B,0,none⟩) [((0:Int):Rat)]):=RF.out.fr FG.out (by omega);have HBz:=zk (Fr.q_ HB.out FG.out (λk hk=>by have:=HWB.out;omega))
   (try go_wp2_with fail)
   go_meet
   exact⟨_,B,_,s7,x7,n7,c7,f7,y7,m7,d7,g7,rfl,rfl,rfl,rfl,HBz.out,HRF.out,HSX.out,HRN.out⟩
  exact AllReadyH.nil
 case rest =>
  obtain⟨wz,B,bx,s2,x2,n2,c2,f2,y2,m2,d2,g2,rfl,rfl,rfl,rfl,HB,RF,SX,RN⟩:=hcut;clear X0 X1 X2 X3 BK;go_wp2_with fail
  go_at_call 20
  refine first12_c.mono ?_;rintro e wa ⟨⟨⟨sm,xm,nm,cm,fm,ym,mm,dm,gm⟩,cam,ckm,ccm,Cm,ram,rkm,rcm,Rm⟩,rfl,hb,HM⟩;replace HB:=zI HB hb;replace RF:=zk (RF.out.q_ hb);replace SX:=zk (SX.out.q_ hb);replace RN:=zk (RN.out.q_ hb)
  clear hb;go_wp2_with fail
  go_at_call 16
  refine(ziu (L:=8) HM.out zio (by decide)).mono ?_;rintro e wb ⟨hb,⟨h9,_⟩|⟨_,_,rfl⟩|⟨_,h9,_⟩⟩
  ·exact absurd rfl h9
  rotate_left
  ·exact absurd zsC h9
  have hbn:=zA wb (cells #[slice none 0 0,slice none 0 0,slice none 0 0,slice none 0 0] 31);have hbb:=bUp hb hbn;replace HB:=zI HB hbb;replace RF:=zk (RF.out.q_ hbb);replace SX:=zk (SX.out.q_ hbb);replace RN:=zk (RN.out.q_ hbb)
  clear hb hbn hbb HM;go_upto_region 5 with fail
  generalize wb.alloc (cells #[slice none 0 0,slice none 0 0,slice none 0 0,slice none 0 0] 31)=w5 at *;obtain⟨b,o,⟨s,x,n,c,f,y,m,d,g⟩,hb1,⟨p0,p1,p2⟩,hr⟩:=RF.out 0 _ rfl;cases hb1
  replace p0:w5.cell? ⟨B,0,none⟩=some (.bool s):=p0;replace p1:w5.cell? ⟨B,1,none⟩=some (slice x n c):=p1;replace p2:w5.cell? ⟨B,2,none⟩=some (slice y m d):=p2;have HR:Hid (Rn (KC 8) w5 s x n c f y m d g ((0:Int):Rat)):=hr;have HV:=zk RN.out;clear hr RF RN;have k0:=SX.out.x0;have k1:=SX.out.x1;have k2:=SX.out.x2;clear SX;have CD:=zk (λW=>zbE (w:=W) (z:=0) (by decide) (by decide));have CE:=zk (λW=>zbE (w:=W) (z:=1) (by decide) (by decide));unfold zcE at CD CE;have CS:Hid (∀W s2 x2 n2 c2 f2 y2 m2 d2 g2,Bl w5 W->Rn 4 W s2 x2 n2 c2 f2 y2 m2 d2 g2 ((0:Int):Rat)->Calls prog 15 #[agg #[.bool s,slice x n c,slice y m d],agg #[.bool s2,slice x2 n2 c2,slice y2 m2 d2]] W λe w'=>e=returned (.bool true)/\Bl W w'):=λW s2 x2 n2 c2 f2 y2 m2 d2 g2 hW h2=>zcK (HR.out.q_ hW) h2 (by decide) (by decide)
  have CT:Hid (∀W s3 x3 n3 c3 f3 y3 m3 d3 g3,Bl w5 W->Rn 4 W s3 x3 n3 c3 f3 y3 m3 d3 g3 ((1:Int):Rat)->Calls prog 15 #[agg #[.bool s2,slice x2 n2 c2,slice y2 m2 d2],agg #[.bool s3,slice x3 n3 c3,slice y3 m3 d3]] W λe w'=>e=returned (.bool true)/\Bl W w'):=λW s3 x3 n3 c3 f3 y3 m3 d3 g3 hW h2=>zcK (HV.out.q_ hW) h2 (by decide) (by decide)
  go_region_held3 (λw'=>w'.cell? ⟨B,0,none⟩=some (.bool s)/\w'.cell? ⟨B,1,none⟩=some (slice x n c)/\w'.cell? ⟨B,2,none⟩=some (slice y m d)/\w'.cell? ⟨bx,0,none⟩=some (.bool s2)/\w'.cell? ⟨bx,1,none⟩=some (slice x2 n2 c2)/\w'.cell? ⟨bx,2,none⟩=some (slice y2 m2 d2))
   (refine⟨?_,?_,?_,?_,?_,?_⟩ <;> repeat(with_reducible first|assumption|refine kCd ?_|refine kCb (by assumption) ?_))
   (first
    | (have h9:=H5.out;clear h9;go_at_call 21;with_reducible refine(CE.out _).mono ?_;rintro e w8 ⟨s8,x8,n8,c8,f8,y8,m8,d8,g8,rfl,hb8,H8⟩;replace H8:=zk H8)
    | (go_at_call 21;with_reducible refine(CD.out _).mono ?_;rintro e w6 ⟨s6,x6,n6,c6,f6,y6,m6,d6,g6,rfl,hb6,H6⟩;replace H6:=zk H6)
    | (have h9:=H8.out;clear h9;go_at_call 15;with_reducible refine(CT.out _ s8 x8 n8 c8 f8 y8 m8 d8 g8 (by repeat(with_reducible first|assumption|exact Below.refl _ _|refine Below.drew ?_|refine kBa ?_|refine kBb (by assumption) ?_)) (H8.out.q_ (by repeat(with_reducible first|assumption|exact Below.refl _ _|refine Below.drew ?_|refine kBa ?_|refine kBb (by assumption) ?_)))).mono ?_;rintro e w9 ⟨rfl,hb9⟩)
    | (go_at_call 15;with_reducible refine(CS.out _ s6 x6 n6 c6 f6 y6 m6 d6 g6 (by repeat(with_reducible first|assumption|exact Below.refl _ _|refine Below.drew ?_|refine kBa ?_|refine kBb (by assumption) ?_)) (H6.out.q_ (by repeat(with_reducible first|assumption|exact Below.refl _ _|refine Below.drew ?_|refine kBa ?_|refine kBb (by assumption) ?_)))).mono ?_;rintro e w7 ⟨rfl,hb7⟩;have H5:=zk True.intro))
  all_goals
   have HB9:=zk (HB.out.trans ((show Bl w5 w9 from(by repeat(with_reducible first|assumption|exact Below.refl _ _|refine Below.drew ?_|refine kBa ?_|refine kBb (by assumption) ?_))).mono HB.out.size));clear p0 p1 p2 k0 k1 k2 CD CS CE CT HR;go_wp2;go_ret;exact⟨by first|rfl|simp,HB9.out⟩
theorem zlq {w a0 a1 a2 a3 k0 c0 k1 c1 k2 c2 k3 c3 X0 X1 X2 X3} (K:Nat) (h0:Rr w a0 k0 X0) (h1:Rr w a1 k1 X1) (h2:Rr w a2 k2 X2) (h3:Rr w a3 k3 X3) (b0:k0<=9223372036854775807) (b1:k1<=9223372036854775807) (b2:k2<=9223372036854775807) (b3:k3<=9223372036854775807) :
  Calls prog 7 #[agg #[slice a0 k0 c0,slice a1 k1 c1,slice a2 k2 c2,slice a3 k3 c3],.int .i64 K] w λe w'=>e=returned (.bool (lgL K k0 X0 && (lgL K k1 X1 && (lgL K k2 X2 && lgL K k3 X3))))/\Bl w w':=by
 have C0:Hid (∀W,Bl w W->Calls prog 23 #[slice a0 k0 c0,.int .i64 K] W λe w'=>e=returned (.bool (lgL K k0 X0))/\Bl W w'):=λW hW=>zcL K (h0.q_ hW) b0
 have C1:Hid (∀W,Bl w W->Calls prog 23 #[slice a1 k1 c1,.int .i64 K] W λe w'=>e=returned (.bool (lgL K k1 X1))/\Bl W w'):=λW hW=>zcL K (h1.q_ hW) b1
 have C2:Hid (∀W,Bl w W->Calls prog 23 #[slice a2 k2 c2,.int .i64 K] W λe w'=>e=returned (.bool (lgL K k2 X2))/\Bl W w'):=λW hW=>zcL K (h2.q_ hW) b2
 have C3:Hid (∀W,Bl w W->Calls prog 23 #[slice a3 k3 c3,.int .i64 K] W λe w'=>e=returned (.bool (lgL K k3 X3))/\Bl W w'):=λW hW=>zcL K (h3.q_ hW) b3
 obtain⟨p0,hp0⟩:∃p,lgL K k0 X0=p:=⟨_,rfl⟩;rw[hp0]at C0 ⊢
 obtain⟨p1,hp1⟩:∃p,lgL K k1 X1=p:=⟨_,rfl⟩;rw[hp1]at C1 ⊢
 obtain⟨p2,hp2⟩:∃p,lgL K k2 X2=p:=⟨_,rfl⟩;rw[hp2]at C2 ⊢
 obtain⟨p3,hp3⟩:∃p,lgL K k3 X3=p:=⟨_,rfl⟩;rw[hp3]at C3 ⊢
 clear h0 h1 h2 h3 hp0 hp1 hp2 hp3;have BK:=zk (zH w [slice a0 k0 c0,slice a1 k1 c1,slice a2 k2 c2,slice a3 k3 c3] 31);have HB:=zk (zA w (cells #[slice a0 k0 c0,slice a1 k1 c1,slice a2 k2 c2,slice a3 k3 c3] 31));go_enter func7,ntmps7;have t0:=BK.out.cell (j:=0) rfl;go_wp2_with fail
 clear t0;generalize(w.alloc (cells #[slice a0 k0 c0,slice a1 k1 c1,slice a2 k2 c2,slice a3 k3 c3] 31))=w0 at *;refine(C0.out _ HB.out).mono ?_;rintro e v0 ⟨rfl,hb⟩;replace HB:=zI HB hb;replace BK:=zk (BK.out.q_ hb)
 clear hb;cases p0
 ·go_wp2;go_ret;exact⟨by simp,HB.out⟩
 have t1:=BK.out.cell (j:=1) rfl;go_wp2_with fail
 clear t1;refine(C1.out _ HB.out).mono ?_;rintro e v1 ⟨rfl,hb⟩;replace HB:=zI HB hb;replace BK:=zk (BK.out.q_ hb)
 clear hb;cases p1
 ·go_wp2;go_ret;exact⟨by simp,HB.out⟩
 have t2:=BK.out.cell (j:=2) rfl;go_wp2_with fail
 clear t2;refine(C2.out _ HB.out).mono ?_;rintro e v2 ⟨rfl,hb⟩;replace HB:=zI HB hb;replace BK:=zk (BK.out.q_ hb)
 clear hb;cases p2
 ·go_wp2;go_ret;exact⟨by simp,HB.out⟩
 have t3:=BK.out.cell (j:=3) rfl;go_wp2_with fail
 clear t3;refine(C3.out _ HB.out).mono ?_;rintro e v3 ⟨rfl,hb⟩;replace HB:=zI HB hb;replace BK:=zk (BK.out.q_ hb)
 clear hb;go_wp2;go_ret;exact⟨by simp,HB.out⟩
structure T4 (w:World) (b0 b1 b2 b3:Option Addr) (k0:Nat) (X0 Y0:Nat->Nm) (k1:Nat) (X1 Y1:Nat->Nm) (k2:Nat) (X2 Y2:Nat->Nm) (k3:Nat) (X3 Y3:Nat->Nm):Prop where
 t0:Tx w b0 k0 X0 Y0
 t1:Tx w b1 k1 X1 Y1
 t2:Tx w b2 k2 X2 Y2
 t3:Tx w b3 k3 X3 Y3
theorem T4.q_ {w w' b0 b1 b2 b3 k0 X0 Y0 k1 X1 Y1 k2 X2 Y2 k3 X3 Y3} (h:T4 w b0 b1 b2 b3 k0 X0 Y0 k1 X1 Y1 k2 X2 Y2 k3 X3 Y3) (hb:Bl w w'):T4 w' b0 b1 b2 b3 k0 X0 Y0 k1 X1 Y1 k2 X2 Y2 k3 X3 Y3:=⟨h.t0.q_ hb,h.t1.q_ hb,h.t2.q_ hb,h.t3.q_ hb⟩
theorem zmj {w K a0 a1 a2 a3 k0 c0 k1 c1 k2 c2 k3 c3 X0 X1 X2 X3} (h0:Rl w a0 k0 X0) (h1:Rl w a1 k1 X1) (h2:Rl w a2 k2 X2) (h3:Rl w a3 k3 X3) (s0:ShK K k0 X0) (s1:ShK K k1 X1) (s2:ShK K k2 X2) (s3:ShK K k3 X3) (hK:K<=100) :
  Calls prog 10 #[agg #[slice a0 k0 c0,slice a1 k1 c1,slice a2 k2 c2,slice a3 k3 c3]] w λe w'=>∃b0 d0 Y0 b1 d1 Y1 b2 d2 Y2 b3 d3 Y3,e=returned (agg #[slice b0 k0 d0,slice b1 k1 d1,slice b2 k2 d2,slice b3 k3 d3])/\Bl w w'/\Hid (T4 w' b0 b1 b2 b3 k0 X0 Y0 k1 X1 Y1 k2 X2 Y2 k3 X3 Y3):=by
 have C0:=zk (λW (hW:Bl w W)=>zcb (cap:=c0) (h0.q_ hW) s0 hK);have C1:=zk (λW (hW:Bl w W)=>zcb (cap:=c1) (h1.q_ hW) s1 hK);have C2:=zk (λW (hW:Bl w W)=>zcb (cap:=c2) (h2.q_ hW) s2 hK);have C3:=zk (λW (hW:Bl w W)=>zcb (cap:=c3) (h3.q_ hW) s3 hK);clear h0 h1 h2 h3;generalize hP:(λ(e:Ending) (w':World)=>∃b0 d0 Y0 b1 d1 Y1 b2 d2 Y2 b3 d3 Y3,e=returned (agg #[slice b0 k0 d0,slice b1 k1 d1,slice b2 k2 d2,slice b3 k3 d3])/\Bl w w'/\Hid (T4 w' b0 b1 b2 b3 k0 X0 Y0 k1 X1 Y1 k2 X2 Y2 k3 X3 Y3))=P;have HA:Hid (∀b0 d0 Y0 b1 d1 Y1 b2 d2 Y2 b3 d3 Y3 w',Bl w w'->T4 w' b0 b1 b2 b3 k0 X0 Y0 k1 X1 Y1 k2 X2 Y2 k3 X3 Y3->P (returned (agg #[slice b0 k0 d0,slice b1 k1 d1,slice b2 k2 d2,slice b3 k3 d3])) w'):=by subst hP;exact λb0 d0 Y0 b1 d1 Y1 b2 d2 Y2 b3 d3 Y3 w' x y=>⟨b0,d0,Y0,b1,d1,Y1,b2,d2,Y2,b3,d3,Y3,rfl,x,zk y⟩
 clear hP;have hb:=zu (zA w (cells #[slice a0 k0 c0,slice a1 k1 c1,slice a2 k2 c2,slice a3 k3 c3] 31)) (cells #[slice none 0 0,slice none 0 0,slice none 0 0,slice none 0 0] 31);have BK:=zk ((zH w [slice a0 k0 c0,slice a1 k1 c1,slice a2 k2 c2,slice a3 k3 c3] 31).q_ (zA _ (cells #[slice none 0 0,slice none 0 0,slice none 0 0,slice none 0 0] 31)));have BR:=zk (zaV w (cells #[slice a0 k0 c0,slice a1 k1 c1,slice a2 k2 c2,slice a3 k3 c3] 31) [slice none 0 0,slice none 0 0,slice none 0 0,slice none 0 0] 31);have HB:=zk hb;clear hb;go_enter func10,ntmps10;go_upto_region 1 with fail
 generalize((w.alloc (cells #[slice a0 k0 c0,slice a1 k1 c1,slice a2 k2 c2,slice a3 k3 c3] 31)).alloc (cells #[slice none 0 0,slice none 0 0,slice none 0 0,slice none 0 0] 31))=w0 at *;obtain⟨r0,r1,r2,r3⟩:=bk4 BK.out;refine zaa (S:=(λw'=>w'.cell? ⟨w.heap.size,0,none⟩=some (slice a0 k0 c0)/\w'.cell? ⟨w.heap.size,1,none⟩=some (slice a1 k1 c1)/\w'.cell? ⟨w.heap.size,2,none⟩=some (slice a2 k2 c2)/\w'.cell? ⟨w.heap.size,3,none⟩=some (slice a3 k3 c3))) 13 (by kernel_rfl) ⟨kCd r0,kCd r1,kCd r2,kCd r3⟩ (λhHeld=>?_);have hbd:=Below.drew (Below.refl w0.heap.size w0);replace HB:=zI HB hbd;replace BR:=zk (BR.out.q_ hbd)
 clear hbd r0 r1 r2 r3 BK;generalize w0.drew=u0 at *;refine skP 0 ?_;refine tkP 1 ?_;refine skP 3 ?_;simp only[zv,Act.put];refine tkP 4 ?_;refine skP 6 ?_;refine tkP 7 ?_;simp only[zv,Act.put];refine skP 9 ?_;refine tkP 10 ?_;simp only[zv,Act.put];refine rdP 2 (λK hK=>?_);go_simp
 go_at_call 31
 refine(C0.out _ HB.out).mono ?_;rintro e u1 ⟨b0,d0,Y0,rfl,hb,hc,hT⟩
 (try go_wp2_with fail)
 have m0:=And.intro (kCb hb (hHeld.1)) (And.intro (kCb hb (hHeld.2.1)) (And.intro (kCb hb (hHeld.2.2.1)) (kCb hb (hHeld.2.2.2))));refine hK.out _ _ (λ_=>m0) (λhS9=>?_);clear hK K hS9;try simp only[zv,Act.put]
 replace HB:=zI HB hb;replace BR:=zk (BR.out.q_ hb)
 have T0:=zk hT.out;clear hb hc hT;refine rdP 5 (λK hK=>?_);go_simp
 go_at_call 31
 refine(C1.out _ HB.out).mono ?_;rintro e u2 ⟨b1,d1,Y1,rfl,hb,hc,hT⟩
 (try go_wp2_with fail)
 have m1:=And.intro (kCb hb (m0.1)) (And.intro (kCb hb (m0.2.1)) (And.intro (kCb hb (m0.2.2.1)) (kCb hb (m0.2.2.2))));refine hK.out _ _ (λ_=>m1) (λhS9=>?_);clear hK K hS9;try simp only[zv,Act.put]
 replace HB:=zI HB hb;replace BR:=zk (BR.out.q_ hb);replace T0:=zk (T0.out.q_ hb)
 have T1:=zk hT.out;clear hb hc hT;refine rdP 8 (λK hK=>?_);go_simp
 go_at_call 31
 refine(C2.out _ HB.out).mono ?_;rintro e u3 ⟨b2,d2,Y2,rfl,hb,hc,hT⟩
 (try go_wp2_with fail)
 have m2:=And.intro (kCb hb (m1.1)) (And.intro (kCb hb (m1.2.1)) (And.intro (kCb hb (m1.2.2.1)) (kCb hb (m1.2.2.2))));refine hK.out _ _ (λ_=>m2) (λhS9=>?_);clear hK K hS9;try simp only[zv,Act.put]
 replace HB:=zI HB hb;replace BR:=zk (BR.out.q_ hb);replace T0:=zk (T0.out.q_ hb);replace T1:=zk (T1.out.q_ hb)
 have T2:=zk hT.out;clear hb hc hT;refine rdP 11 (λK hK=>?_);go_simp
 go_at_call 31
 refine(C3.out _ HB.out).mono ?_;rintro e u4 ⟨b3,d3,Y3,rfl,hb,hc,hT⟩
 (try go_wp2_with fail)
 have m3:=And.intro (kCb hb (m2.1)) (And.intro (kCb hb (m2.2.1)) (And.intro (kCb hb (m2.2.2.1)) (kCb hb (m2.2.2.2))));refine hK.out _ _ (λ_=>m3) (λhS9=>?_);clear hK K hS9;try simp only[zv,Act.put]
 replace HB:=zI HB hb;replace BR:=zk (BR.out.q_ hb);replace T0:=zk (T0.out.q_ hb);replace T1:=zk (T1.out.q_ hb);replace T2:=zk (T2.out.q_ hb)
 have T3:=zk hT.out;clear hb hc hT;refine rdP 12 (λK hK=>?_);go_simp;refine hK.out _ _ (λ_=>m3) (λhS9=>?_);clear hK K hS9;try simp only[zv,Act.put]
 refine rdP 13 (λK hK=>?_);obtain⟨hx1,hx2,hx3⟩:=zcv [slice b0 k0 d0,slice b1 k1 d1,slice b2 k2 d2,slice b3 k3 d3] BR.out (zM (λu hu q=>by simp at hu;subst hu;simp)) HB.out (Nat.le_succ _);have hnb:=zro BR.out (λv hv=>by simp at hv;subst hv;exact⟨_,_,_,rfl⟩);obtain⟨l0,l1,l2,l3⟩:=bk4 BR.out;have ff:=BR.out.frozen;have HX:Hid (T4 (stl (w.heap.size+1) 0 [slice b0 k0 d0,slice b1 k1 d1,slice b2 k2 d2,slice b3 k3 d3] u4) b0 b1 b2 b3 k0 X0 Y0 k1 X1 Y1 k2 X2 Y2 k3 X3 Y3):=⟨⟨T0.out.1.st hx2 hx3 hnb,T0.out.2⟩,⟨T1.out.1.st hx2 hx3 hnb,T1.out.2⟩,⟨T2.out.1.st hx2 hx3 hnb,T2.out.2⟩,⟨T3.out.1.st hx2 hx3 hnb,T3.out.2⟩⟩;have HY:=zk hx1;clear hx1 hx2 hx3 hnb;go_simp;refine hK.out _ _ (λh=>by cases h) (λ_=>?_);clear hK K;try simp only[zv,Act.put]
 refine dnP ?_;clear hHeld m0 m1 m2 m3 T0 T1 T2 T3 C0 C1 C2 C3 HB BR;go_wp2;exact bodyPost_ret (v:=agg #[slice b0 k0 d0,slice b1 k1 d1,slice b2 k2 d2,slice b3 k3 d3]) (by simp[results,results10,go_sem,l0,l1,l2,l3]) rfl (HA.out _ _ Y0 _ _ Y1 _ _ Y2 _ _ Y3 _ HY.out HX.out)
theorem zch {a b} (h:lstep a b=0):a=0/\b=0:=by
 unfold lstep at h
 split at h <;> omega
theorem znx {e0 e1 e2 e3} (h:lsf (fqu e0 e1 e2 e3) 4=0):e0=0/\e1=0/\e2=0/\e3=0:=by
 simp only[lsf]at h;obtain⟨h,h3⟩:=zch h;obtain⟨h,h2⟩:=zch h;obtain⟨h,h1⟩:=zch h;obtain⟨_,h0⟩:=zch h;exact⟨h0,h1,h2,h3⟩
theorem zdE {k X z} (h:pnE k X z=0):afB k X=true/\(k:Int)=z:=by
 unfold pnE at h;by_cases a:afB k X=true
 ·rw[if_pos a]at h
  by_cases b:(k:Int)=z
  ·exact⟨a,b⟩
  ·rw[if_neg b]at h;cases h
 ·rw[if_neg a]at h;cases h
theorem zhi {w ao k X X' z} (hx:Tx w ao k X X'):pnE k X' z=pnE k X z:=by
 unfold pnE;rw[show afB k X'=afB k X from zod (λj _ b=>hx.2 j (by omega))]
theorem zhJ {M k0 k1 k2 k3 X0 X1 X2 X3} (h:cbE M k0 X0 k1 X1 k2 X2 k3 X3=0):zar M=0/\(afB k0 X0=true/\afB k1 X1=true/\afB k2 X2=true/\afB k3 X3=true)/\k0=M.rk/\k1=M.rk/\k2=M.ck/\k3=M.ck:=by
 obtain⟨h1,h2⟩:=zmh h;obtain⟨e0,e1,e2,e3⟩:=znx h2;obtain⟨f0,g0⟩:=zdE e0;obtain⟨f1,g1⟩:=zdE e1;obtain⟨f2,g2⟩:=zdE e2;obtain⟨f3,g3⟩:=zdE e3;exact⟨h1,⟨f0,f1,f2,f3⟩,by omega,by omega,by omega,by omega⟩
theorem zfD (M:Mo):(zam M).length=M.rk:=by simp[zam]
theorem zfA (f:BV->Rat):∀(a b:List BV),sumF f (a++b)=sumF f a+sumF f b
 | [],b=>by show sumF f b=0+sumF f b;grind
 | c :: a,b=>by
  simp only[List.cons_append,sumF];rw[zfA f a b];grind
def GQn (K:Nat) (q:Rat) (v:Value) (w:World):Prop:=∃s x n c f y m d g,v=agg #[.bool s,slice x n c,slice y m d]/\QnT K w ⟨s,x,n,c,f,y,m,d,g⟩ q
theorem GQn.q_ {K q v w w'} (h:GQn K q v w) (hb:Bl w w'):GQn K q v w':=by
 obtain⟨s,x,n,c,f,y,m,d,g,e,h⟩:=h;exact⟨s,x,n,c,f,y,m,d,g,e,h.q_ hb⟩
def SbQ (K:Nat) (w:World) (B:Nat) (q:Rat):Prop:=∃s x n c f y m d g,Bk w B [.bool s,slice x n c,slice y m d] 91/\QnT K w ⟨s,x,n,c,f,y,m,d,g⟩ q
theorem SbQ.q_ {K w w' B q} (h:SbQ K w B q) (hb:Bl w w'):SbQ K w' B q:=by
 obtain⟨s,x,n,c,f,y,m,d,g,e,h⟩:=h;exact⟨s,x,n,c,f,y,m,d,g,e.q_ hb,h.q_ hb⟩
def RqF (K:Nat) (w:World) (B:Nat) (ao:Option Addr) (p:List Rat):Prop:=Rqs K w ao p/\∀(j:Nat) (q:Rat),p[j]?=some q->∀(b o:Nat),ao=some ⟨b,o,none⟩->b≠B
theorem RqF.q_ {K w w' B ao p} (h:RqF K w B ao p) (hb:Bl w w'):RqF K w' B ao p:=⟨h.1.q_ hb,h.2⟩
theorem RqF.st {K w w' B ao p} (h:RqF K w B ao p) (hk:Kp w w') (hh:∀k,k≠B->w'.heap[k]?=w.heap[k]?):RqF K w' B ao p:=⟨λj q hj=>by
 obtain⟨b,o,t,h1,⟨c0,c1,c2⟩,h3⟩:=h.1 j q hj;have hb:=hh b (h.2 j q hj b o h1);exact⟨b,o,t,h1,⟨(cell?_of_block (a:=⟨b,_,none⟩) hb).trans c0,(cell?_of_block (a:=⟨b,_,none⟩) hb).trans c1,(cell?_of_block (a:=⟨b,_,none⟩) hb).trans c2⟩,h3.kp hk⟩,h.2⟩
theorem st3 {w w6 B us ty} (s:Bool) (x:Option Addr) (n c:Nat) (y:Option Addr) (m d:Nat) {u0 u1 u2 u3 u4 u5 u6} (hu:us=[.bool u0,slice u1 u2 u3,slice u4 u5 u6]) (h:Bk w6 B us ty) (hb:Bl w w6) (hB:w.heap.size<=B) :
  Bl w (((w6.setCell ⟨B,0,none⟩ (.bool s)).setCell ⟨B,1,none⟩ (slice x n c)).setCell ⟨B,2,none⟩ (slice y m d))/\Kp w6 (((w6.setCell ⟨B,0,none⟩ (.bool s)).setCell ⟨B,1,none⟩ (slice x n c)).setCell ⟨B,2,none⟩ (slice y m d)) /\
  (∀k,k≠B->(((w6.setCell ⟨B,0,none⟩ (.bool s)).setCell ⟨B,1,none⟩ (slice x n c)).setCell ⟨B,2,none⟩ (slice y m d)).heap[k]?=w6.heap[k]?)/\Bk (((w6.setCell ⟨B,0,none⟩ (.bool s)).setCell ⟨B,1,none⟩ (slice x n c)).setCell ⟨B,2,none⟩ (slice y m d)) B [.bool s,slice x n c,slice y m d] ty:=by
 subst hu;obtain⟨h1,h2,h3⟩:=zcv [.bool s,slice x n c,slice y m d] h (zM (λu hu q=>by simp at hu;rcases hu with rfl|rfl|rfl <;> simp)) hb hB;have h4:=ziQ [.bool s,slice x n c,slice y m d] _ 0 _ rfl h;simp only[stl,zero_add,Nat.reduceAdd,List.take_zero,List.nil_append]at h1 h2 h3 h4;exact⟨h1,h2,h3,h4⟩
end Go.Proofs.YtnlcjakjhmgenaaGreat
