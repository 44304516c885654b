/-
 Walks.
-/
import Derived.Test.YtgmmlmmahdnnhaaGreatZ4
import Derived.Test.YtgmmlmmahdnnhaaGreatZ5
import Derived.Deep.RegionHeld3
import Derived.BigQuiet
set_option maxRecDepth 100000
set_option maxHeartbeats 16000000
namespace Go.Proofs.YtgmmlmmahdnnhaaGreat
open Value (slice agg)
open Obj (cells)
open Nat (le_refl le_trans)
open World (cell?_of_block block_lt_of_cell?)
open Go.Proofs.Tryz
open Go.RowKit
def zof (P:Program) (md:Region.Mode) (ops:Array Oper) (Q:Exit->Act->World->Prop) (S:World->Prop) (G N:Nat->Value->World->Prop) (a0:Act) (w0:World) (D:List (Nat × Tmp)) (F:List Nat) (i:Nat):Prop :=
 ∃o,ops[i]?=some o/\∀u w,S w->Bl w0 w->(∀j,F.contains j=true->(depsOf md ops i).contains j=true->G j (u j) w) ->
  ∀K:Act->World->Prop,Shut (∀v w',Bl w w'->G i v w'->N i v w->K ((fill a0 D u).put o.dst v) w')->if Region.wanted o (yielded ops (fill a0 D u).tmps)=true then Oper.wp P o (fill a0 D u) w K Q else K ((fill a0 D u).put o.dst undef) w
theorem zfv {P md ops Q S} (G N:Nat->Value->World->Prop) (R:Nat->Nat->Value->Value->Prop) (D:List (Nat × Tmp)) (F st:List Nat) (listed0:Array Bool) (a0:Act) (w0:World) (fuel:Nat) (hok:zfZ md ops listed0 F st=true) (hsl:zdJ ops D F=true) (hS:∀w w',S w->Bl w w'->S w') (hG:∀j v w w',G j v w->Bl w w'->G j v w') (hR:∀i j v x w,N i v w->G j x w->R i j v x/\R j i x v) (hstep:∀i,i ∈ F->zof P md ops Q S G N a0 w0 D F i) (hend:∀u w,S w->Bl w0 w->(∀j,j ∈ F->G j (u j) w)->(∀j k,j ∈ F->k ∈ F->j≠k->R j k (u j) (u k))->wpAnyH P md ops Q S fuel (zbC ops st) (fill a0 D u) w) (hS0:S w0):wpAnyH P md ops Q S (F.length+fuel) listed0 a0 w0:=by
 simp only[zfZ,Bool.and_eq_true,beq_iff_eq]at hok;obtain⟨⟨⟨⟨⟨k1,k0⟩,k2⟩,k3⟩,k4⟩,k5⟩:=hok;have k0:F.Nodup:=of_decide_eq_true k0;have k2':∀i j,listed0.getD i false=true->j ∈ depsOf md ops i->listed0.getD j false=true:=λi j hi hj=>by
  have hlt:i<ops.size:=by
   rcases Nat.lt_or_ge i ops.size with h|h
   ·exact h
   ·rw[<-k1]at h;simp[Array.getElem?_eq_none h]at hi
  have:=List.all_eq_true.1 k2 i (List.mem_range.2 hlt);rw[hi]at this
  simpa using List.all_eq_true.1 (by simpa using this) j hj
 have k3':∀i,i ∈ F->listed0.getD i true=false/\i<ops.size/\i ∉ st/\∀j,j ∈ depsOf md ops i->j<i/\(listed0.getD j false=true∨j ∈ F):=λi hi=>by
  have:=List.all_eq_true.1 k3 i hi;simp only[Bool.and_eq_true,Bool.not_eq_true',decide_eq_true_eq]at this;obtain⟨⟨⟨a,b⟩,c⟩,d⟩:=this;refine⟨a,b,λh=>?_,λj hj=>?_⟩
  ·rw[List.contains_iff_mem.2 h]at c;cases c
  ·have:=List.all_eq_true.1 d j hj;simp only[Bool.and_eq_true,decide_eq_true_eq,Bool.or_eq_true]at this;exact⟨this.1,this.2.imp id (λh=>List.contains_iff_mem.1 h)⟩
 have k4':∀i,i<ops.size->listed0.getD i false=true∨i ∈ F∨i ∈ st:=λi hi=>by
  have:=List.all_eq_true.1 k4 i (List.mem_range.2 hi);simp only[Bool.or_eq_true]at this;rcases this with(h|h)|h
  ·exact .inl h
  ·exact .inr (.inl (List.contains_iff_mem.1 h))
  ·exact .inr (.inr (List.contains_iff_mem.1 h))
 have k5':∀s,s ∈ st->listed0.getD s true=false/\((∃j,j ∈ depsOf md ops s/\j ∈ st)∨∀j,j ∈ F->j ∈ zeS md ops ops.size [s]):=λs hs=>by
  have:=List.all_eq_true.1 k5 s hs;simp only[Bool.and_eq_true,Bool.not_eq_true',Bool.or_eq_true]at this;refine⟨this.1,this.2.imp (λh=>?_) (λh j hj=>List.contains_iff_mem.1 (List.all_eq_true.1 h j hj))⟩;obtain⟨j,h1,h2⟩:=List.any_eq_true.1 h;exact⟨j,h1,List.contains_iff_mem.1 h2⟩
 simp only[zdJ,Bool.and_eq_true,beq_iff_eq,decide_eq_true_eq]at hsl;obtain⟨⟨hf,h2⟩,h3⟩:=hsl;have h1:(D.map Prod.fst).Nodup:=hf ▸ k0;have hput:∀i,i ∈ F->∀u v,(fill a0 D u).put (zez ops i) v=fill a0 D (zef u i v):=λi hi u v=>by
  rw[<-hf]at hi
  obtain⟨⟨i',d⟩,hp,rfl⟩:=List.mem_map.1 hi;have h4:=List.all_eq_true.1 h3 _ hp;rw[beq_iff_eq.1 h4];exact zgN v h1 h2 hp
 have h0:fill a0 D (zjP a0 D)=a0:=zfi (ziK h1)
 -- at any time
 have main:∀(n:Nat) (listed:Array Bool) (u:Nat->Value) (w:World),left listed F<=n->listed.size=ops.size->(∀i,i ∉ F->listed.getD i false=listed0.getD i false)->(∀i j,listed.getD i false=true->j ∈ depsOf md ops i->listed.getD j false=true) ->
   S w->Bl w0 w->(∀j,j ∈ F->listed.getD j false=true->G j (u j) w)->(∀j k,j ∈ F->k ∈ F->j≠k->listed.getD j false=true->listed.getD k false=true->R j k (u j) (u k))->∀m,m=left listed F->wpAnyH P md ops Q S (m+fuel) listed (fill a0 D u) w:=by
  intro n
  induction n with
  | zero =>
   intro listed u w hn hsz hout hcl hw hb hg hr m hm;have hz:left listed F=0:=by omega
   have hall:=zdf hz;have hl:listed=zbC ops st:=by
    apply Array.ext
    ·rw[hsz];simp[zbC]
    ·intro i h1 h2;have hi:i<ops.size:=by omega
     have e1:listed[i]=listed.getD i false:=by simp[Array.getD,h1]
     have e2:(zbC ops st)[i]=!(st.contains i):=by simp[zbC]
     rw[e1,e2];by_cases hF:i ∈ F
     ·rw[hall i hF];have:=(k3' i hF).2.2.1;simp[this]
     ·rw[hout i hF];by_cases hs:i ∈ st
      ·have:=(k5' i hs).1;rw[zaE (by omega)]at this
       rw[this];simp[hs]
      ·rcases k4' i hi with h|h|h
       ·rw[h];simp[hs]
       ·exact absurd h hF
       ·exact absurd h hs
   rw[hm,hz,Nat.zero_add,hl];exact hend u w hw hb (λj hj=>hg j hj (hall j hj)) (λj k hj hk hn=>hr j k hj hk hn (hall j hj) (hall k hk))
  | succ n ih =>
   intro listed u w hn hsz hout hcl hw hb hg hr m hm;by_cases hz:left listed F=0
   ·exact ih listed u w (by omega) hsz hout hcl hw hb hg hr m hm
   ·obtain⟨m',rfl⟩:∃m',m=m'+1:=⟨m-1,by omega⟩
    -- one of F is ready
    have hex:=zde hz;have hmin:∀b i,i<=b->i ∈ F->listed.getD i false=false->∃i,i ∈ F/\listed.getD i false=false/\∀j,j ∈ F->j<i->listed.getD j false=true:=by
     intro b
     induction b with
     | zero=>intro i hi hF hl;exact⟨i,hF,hl,λj _ hj=>by omega⟩
     | succ b ihb =>
      intro i hi hF hl;by_cases h:∃j,j ∈ F/\j<i/\listed.getD j false=false
      ·obtain⟨j,h1,h2,h3⟩:=h;exact ihb j (by omega) h1 h3
      ·refine⟨i,hF,hl,λj h1 h2=>?_⟩;cases h3:listed.getD j false
       ·exact absurd ⟨j,h1,h2,h3⟩ h
       ·rfl
    have hne:Region.ready md ops listed≠[]:=by
     obtain⟨i0,h1,h2⟩:=hex;obtain⟨i,hF,hl,hmn⟩:=hmin i0 i0 (le_refl _) h1 h2;obtain⟨_,hlt,_,hd⟩:=k3' i hF;have:i ∈ Region.ready md ops listed:=mem_ready.2 ⟨by rw[zaE (by omega)];exact hl,ops[i],by simp[hlt],λe he hb=>by
      obtain⟨h1,h2⟩:=hd e.on (mem_deps.2 ⟨ops[i],by simp[hlt],e,he,hb,rfl⟩);by_cases hFe:e.on ∈ F
      ·exact hmn _ hFe h1
      ·rw[hout _ hFe];exact h2.resolve_right hFe⟩
     intro h;rw[h]at this;cases this
    rw[show m'+1+fuel=(m'+fuel)+1 by omega];refine⟨λh=>absurd h hne,λi hi=>?_⟩;obtain⟨hun,o,ho,hdep⟩:=mem_ready.1 hi;have hlt:i<ops.size:=(Array.getElem?_eq_some_iff.1 ho).1;have hlf:listed.getD i false=false:=by rw[<-zaE (by omega)];exact hun
    have hdl:∀j,j ∈ depsOf md ops i->listed.getD j false=true:=λj hj=>by
     obtain⟨o',ho',e,he,hb',rfl⟩:=mem_deps.1 hj;have:o'=o:=Option.some.inj (ho'.symm.trans ho);subst this;exact hdep e he hb'
    by_cases hF:i ∈ F
    case neg =>
     exfalso;have h1:=hout i hF;rw[hlf]at h1
     rcases k4' i hlt with h|h|h
     ·rw[h]at h1;cases h1
     ·exact hF h
     ·rcases(k5' i h).2 with⟨j,hj,hjs⟩|hanc
      ·have h2:=hdl j hj;have h3:=k5' j hjs;by_cases hjF:j ∈ F
       ·exact(k3' j hjF).2.2.1 hjs
       ·rw[hout j hjF]at h2
        have h4:=h3.1;have hjl:j<listed0.size:=by
         rcases Nat.lt_or_ge j listed0.size with h|h
         ·exact h
         ·simp[Array.getElem?_eq_none h]at h2
        rw[zaE hjl,h2]at h4;cases h4
      ·obtain⟨j,hjF,hjl⟩:=hex;have:=zbp hcl ops.size [i] (λk hk l hl=>by simp at hk;subst hk;exact hdl l hl) j (hanc j hjF);rw[hjl]at this;cases this
    obtain⟨o',ho',hst⟩:=hstep i hF;obtain rfl:o'=o:=Option.some.inj (ho'.symm.trans ho);refine zib ho ?_;refine hst u w hw hb (λj hj hd=>hg j (List.contains_iff_mem.1 hj) (hdl j (List.contains_iff_mem.1 hd))) _ (λv w' hb' hgi hni=>?_);have hdst:o'.dst=zez ops i:=by simp[zez,ho]
    refine⟨hS w w' hw hb',?_⟩;rw[hdst,hput i hF];have hlt':=zet (by omega) hlf k0;simp only[hF,if_true]at hlt';have hset:∀j,j≠i->(listed.setIfInBounds i true).getD j false=listed.getD j false:=λj hj=>getD_set_ne false (Ne.symm hj)
    have hseti:(listed.setIfInBounds i true).getD i false=true:=by simp[Array.getD,show i<listed.size by omega]
    refine ih (listed.setIfInBounds i true) (zef u i v) w' (by omega) (by simpa using hsz) (λj hj=>?_) (λj k hj hk=>?_) (hS w w' hw hb') (hb.trans (hb'.mono hb.size)) (λj hj hl=>?_) (λj k hj hk hn hl1 hl2=>?_) m' (by omega)
    ·rw[hset j (λe=>hj (e ▸ hF)),hout j hj]
    ·by_cases hji:j=i
     ·subst hji;exact getD_set_true (hdl k hk)
     ·rw[hset j hji]at hj
      exact getD_set_true (hcl j k hj hk)
    ·by_cases hji:j=i
     ·subst hji;rw[zcM];exact hgi
     ·rw[zbt hji];rw[hset j hji]at hl
      exact hG j (u j) w w' (hg j hj hl) hb'
    ·by_cases hji:j=i
     ·subst hji;rw[zcM,zbt (Ne.symm hn)];rw[hset k (Ne.symm hn)]at hl2
      exact(hR j k v (u k) w hni (hg k hk hl2)).1
     ·rw[hset j hji]at hl1
      by_cases hki:k=i
      ·subst hki;rw[zcM,zbt hn];exact(hR k j v (u j) w hni (hg j hj hl1)).2
      ·rw[hset k hki]at hl2
       rw[zbt hji,zbt hki];exact hr j k hj hk hn hl1 hl2
 have hleft:left listed0 F=F.length:=zeu (λi hi=>by
  have h1:=(k3' i hi).1;have h2:=(k3' i hi).2.1;rw[zaE (by omega)]at h1
  exact h1)
 have:=main (left listed0 F) listed0 (zjP a0 D) w0 (le_refl _) k1 (λ_ _=>rfl) k2' hS0 (Below.refl _ _) (λj hj hl=>by
  have h1:=(k3' j hj).1;have h2:=(k3' j hj).2.1;rw[zaE (by omega),hl]at h1;cases h1) (λj k hj _ _ hl=>by
  have h1:=(k3' j hj).1;have h2:=(k3' j hj).2.1;rw[zaE (by omega),hl]at h1;cases h1) F.length hleft.symm
 rw[h0]at this
 exact this
theorem zeW {w ao bo k ca cb X Y} (ha:Rl w ao k X) (hb:Rl w bo k Y) (hs:∀j,j<k->Sn (Y j) (X j)) (hk2:k<=1048576) :
  Calls prog 19 #[slice ao k ca,slice bo k cb] w λe w'=>e=.returned (.bool true)/\Bl w w':=by
 have HA:=zi ha;have HB:=zi hb;have HSn:=zi hs
 have hkk:(((k:Nat):Int) != ((k:Nat):Int))=false:=by simp
 clear ha hb hs;go_enter func19,ntmps19;go_wp2_with fail
 go_loopw[13] (λt wr=>∃(i:Nat),i<=k/\t=.int .i64 i/\Hid (Bl w wr)) (λt _=>k-(intOf t).toNat)
 case atStart=>exact⟨0,by omega,rfl,Below.refl _ _⟩
 case round =>
  obtain⟨i,hi,rfl,HW⟩:=hrel;by_cases hlt:i<k
  ·obtain⟨b,o,rfl,hc,hr⟩:=(HA.out.q_ HW.out) i hlt;obtain⟨b',o',rfl,hc',hr'⟩:=(HB.out.q_ HW.out) i hlt;have hsn:=HSn.out i hlt;generalize X i=t1 at hc hr hsn;generalize Y i=t2 at hc' hr' hsn;obtain⟨ts,tx,tn,tc,tf,ty,tm,td,tg⟩:=t1;obtain⟨ss,sx,sn,sc,sf,sy,sm,sd,sg⟩:=t2;obtain⟨x0,x1,x2⟩:=hc;obtain⟨p0,p1,p2⟩:=hc';replace x0:wr.cell? ⟨b,o+i*3,none⟩=some (.bool ts):=x0;replace x1:wr.cell? ⟨b,o+i*3+1,none⟩=some (slice tx tn tc):=x1;replace x2:wr.cell? ⟨b,o+i*3+2,none⟩=some (slice ty tm td):=x2;replace p0:wr.cell? ⟨b',o'+i*3,none⟩=some (.bool ss):=p0;replace p1:wr.cell? ⟨b',o'+i*3+1,none⟩=some (slice sx sn sc):=p1;replace p2:wr.cell? ⟨b',o'+i*3+2,none⟩=some (slice sy sm sd):=p2;have CS:Hid (∀W,Bl wr W->Calls prog 18 #[agg #[.bool ts,slice tx tn tc,slice ty tm td],agg #[.bool ss,slice sx sn sc,slice sy sm sd]] W λe w'=>e=.returned (.bool true)/\Bl W w'):=λW hW =>
    (ziB (NmS.q_ hr hW) (NmS.q_ hr' hW)).mono λe w' h=>by rw[hsn.sq]at h;exact h
   have i2:((i:Nat):Int)<((k:Nat):Int):=by omega
   clear hr hr' hsn;go_upto_region 6 with fail
   go_region_held3 (λw'=>w'.cell? ⟨b,o+i*3,none⟩=some (.bool ts)/\w'.cell? ⟨b,o+i*3+1,none⟩=some (slice tx tn tc)/\w'.cell? ⟨b,o+i*3+2,none⟩=some (slice ty tm td)/\w'.cell? ⟨b',o'+i*3,none⟩=some (.bool ss)/\w'.cell? ⟨b',o'+i*3+1,none⟩=some (slice sx sn sc)/\w'.cell? ⟨b',o'+i*3+2,none⟩=some (slice sy sm sd))
    (refine⟨?_,?_,?_,?_,?_,?_⟩ <;> repeat(with_reducible first|assumption|refine kCd ?_|refine kCb (by assumption) ?_))
    ((go_at_call 18;with_reducible refine(CS.out _ (by repeat(with_reducible first|assumption|exact Below.refl _ _|refine zjQ ?_|refine Below.drew ?_))).mono ?_;rintro e w5 ⟨rfl,hb5⟩))
   all_goals
    (have HW5:Hid (Bl w w5):=zi (HW.out.trans (Below.mono (show Bl wr w5 by repeat(with_reducible first|assumption|exact Below.refl _ _|refine zjQ ?_|refine Below.drew ?_|refine kBb (by assumption) ?_)) HW.out.size))
     clear x0 x1 x2 p0 p1 p2 CS hb5;go_wp2;go_roundw
     case rel=>exact⟨i+1,by omega,by go_num,(by first|exact HW5.out|exact HW5.out.drew|exact zD HW5.out _)⟩
     case measure=>simp[intOf];omega)
  ·have i2:¬(((i:Nat):Int)<((k:Nat):Int)):=by omega
   go_wp2;go_ret;exact⟨rfl,HW.out⟩
theorem MoX.kp {w w' M} (h:MoX w M) (hk:Kp w w') {B} (hne:∀k,k≠B->w'.heap[k]?=w.heap[k]?) (hno:∀o v,w.cell? ⟨B,o,none⟩=some v->(∀s,v≠.string s)/\∀k z,v≠.int k z):MoX w' M:=by
 refine⟨h.off.kp hk,λj hj=>?_,λj hj=>?_,h.ck,h.rk⟩
 ·obtain⟨b,o,e,h1,h2⟩:=h.cls j hj;have hb:b≠B:=λe=>(hno _ (.string (M.C j).nm) (e ▸ h1 0 _ rfl)).1 _ rfl
  exact⟨b,o,e,λq v hq=>(cell?_of_block (a:=⟨b,_,none⟩) (hne b hb)).trans (h1 q v hq),h2.kp hk⟩
 ·obtain⟨b,o,e,h1,h2⟩:=h.rls j hj;have hb:b≠B:=λe=>(hno _ (.string (M.R j).nm) (e ▸ h1 0 _ rfl)).1 _ rfl
  refine⟨b,o,e,λq v hq=>(cell?_of_block (a:=⟨b,_,none⟩) (hne b hb)).trans (h1 q v hq),h2.of (λh3 b' o' s' e' _=>hne b' ?_) hk⟩;intro eB;obtain⟨b2,o2,e2,⟨c0,_⟩,_⟩:=h2.tr 0 (by omega);rw[e']at e2
  cases e2
  exact(hno _ _ (eB ▸ c0)).2 _ _ rfl
theorem TmK.kp {K w w' M M'} (h:TmK K w M M') (hN:MoN M) (hK:K<=1000) (hk:Kp w w') {B} (hne:∀k,k≠B->w'.heap[k]?=w.heap[k]?) (hno:∀o v,w.cell? ⟨B,o,none⟩=some v->(∀s,v≠.string s)/\∀k z,v≠.int k z):TmK K w' M M':=by
 obtain⟨h1,h2,h3,h4⟩:=h;have hx:=h3.kp hk hne hno;exact⟨h1,λa b=>(hx.both (h1.mon hN) h4 hK a b).1,hx,h4⟩
theorem zhX {w B vs t} (h:Bk w B vs t) (hv:∀v ∈ vs,(∀s,v≠Value.string s)/\∀k z,v≠Value.int k z):∀o v,w.cell? ⟨B,o,none⟩=some v->(∀s,v≠.string s)/\∀k z,v≠.int k z:=λo v e=>by
 unfold Bk at h;simp only[World.cell?,h]at e;have e':vs[o]?=some v:=by simpa using e
 exact hv _ (List.mem_of_getElem? e')
theorem Tx.ne {w w' ao k X X' B} (h:Tx w ao k X X') (hk:Kp w w') (hne:∀b,b≠B->w'.heap[b]?=w.heap[b]?) (hB:k≠0->∀o s,ao≠some ⟨B,o,s⟩):Tx w' ao k X X':=by
 refine⟨λj hj=>?_,h.2⟩;obtain⟨b,o,e,⟨c0,c1,c2⟩,h1,h2⟩:=h.1 j hj;have hs:=hne b (λe2=>hB (by omega) o none (e2 ▸ e));exact⟨b,o,e,⟨(cell?_of_block (a:=⟨b,o+j*3,none⟩) hs).trans c0,(cell?_of_block (a:=⟨b,o+j*3+1,none⟩) hs).trans c1,(cell?_of_block (a:=⟨b,o+j*3+2,none⟩) hs).trans c2⟩,h1.kp hk,h2⟩
def Men (v:Value) (b:Nat):Prop:=(∃o s,v=.pointer (some ⟨b,o,s⟩))∨∃a1 n1 c1 a2 n2 c2 o s,v=agg #[slice a1 n1 c1,slice a2 n2 c2]/\((n1≠0/\a1=some ⟨b,o,s⟩)∨(n2≠0/\a2=some ⟨b,o,s⟩))
def MenB (v:Value) (w:World):Prop:=∀b,Men v b->b<w.heap.size
def zpy (v:Value) (w:World):Prop:=∀b,Men v b->w.heap.size<=b
def zgk (v x:Value):Prop:=∀b,Men v b->¬Men x b
theorem MenB.q_ {v w w'} (h:MenB v w) (hb:Bl w w'):MenB v w':=λb h1=>Nat.lt_of_lt_of_le (h b h1) hb.size
theorem zqc {v x w} (h:zpy v w) (k:MenB x w):zgk v x/\zgk x v:=⟨λb h1 h2=>by have:=h b h1;have:=k b h2;omega,λb h1 h2=>by have:=h b h2;have:=k b h1;omega⟩
theorem zfd {b' o' s' b} (h:Men (.pointer (some ⟨b',o',s'⟩)) b):b=b':=by
 rcases h with⟨o,s,e⟩|⟨_,_,_,_,_,_,_,_,e,_⟩
 ·injection e with e;injection e with e;injection e with e;exact e.symm
 ·cases e
theorem zlI {l:Array Value} {b} (hl:l.size≠2):¬Men (agg l) b:=λh=>by
 rcases h with⟨o,s,e⟩|⟨_,_,_,_,_,_,_,_,e,_⟩
 ·cases e
 ·injection e with e;subst e;exact hl rfl
def GRy (kx:Nat) (Y:Nat->Nm) (k:Nat) (X:Nat->Nm) (v:Value) (w:World):Prop:=∃b c1 Y' b2 c2 X',v=agg #[slice b kx c1,slice b2 k c2]/\Tx w b kx Y Y'/\Tx w b2 k X X'
def GNt (t:Nm) (v:Value) (w:World):Prop:=∃t':Nm,v=agg #[.bool t'.s,slice t'.x t'.n t'.c,slice t'.y t'.m t'.d]/\Sn t t'/\Rw w t'.x t'.n t'.c t'.f t'.y t'.m t'.d t'.g
theorem GRy.q_ {kx Y k X v w w'} (h:GRy kx Y k X v w) (hb:Bl w w'):GRy kx Y k X v w':=by obtain⟨b,c1,Y',b2,c2,X',e,h1,h2⟩:=h;exact⟨b,c1,Y',b2,c2,X',e,h1.q_ hb,h2.q_ hb⟩
theorem GNt.q_ {t v w w'} (h:GNt t v w) (hb:Bl w w'):GNt t v w':=by obtain⟨t',e,h1,h2⟩:=h;exact⟨t',e,h1,h2.q_ hb⟩
theorem Tx.lt {w a k X X'} (h:Tx w a k X X') (hk:k≠0) {b o s} (e:a=some ⟨b,o,s⟩):b<w.heap.size:=by
 obtain⟨b',o',e',⟨c0,_⟩,_⟩:=h.1 0 (by omega);rw[e]at e'
 cases e'
 exact block_lt_of_cell? w _ c0
theorem GRy.men {kx Y k X v w} (h:GRy kx Y k X v w):MenB v w:=by
 obtain⟨b,c1,Y',b2,c2,X',rfl,h1,h2⟩:=h;rintro x (⟨_,_,e⟩|⟨_,_,_,_,_,_,o,s,e,h⟩)
 ·cases e
 ·simp only[Value.agg.injEq,Array.mk.injEq,List.cons.injEq,Value.slice.injEq,and_true]at e;obtain⟨⟨rfl,rfl,rfl⟩,rfl,rfl,rfl⟩:=e;rcases h with⟨h3,h4⟩|⟨h3,h4⟩
  ·exact h1.lt h3 h4
  ·exact h2.lt h3 h4
structure Kw (ok:Nat->Prop) (w w':World):Prop where
 os:w'.os=w.os
 tape:w'.tape=w.tape
 output:w'.output=w.output
 size:w.heap.size<=w'.heap.size
 block:∀k,k<w.heap.size->¬ok k->w'.heap[k]?=w.heap[k]?
theorem Kw.refl (ok:Nat->Prop) (w:World):Kw ok w w:=⟨rfl,rfl,rfl,le_refl _,λ_ _ _=>rfl⟩
theorem Kw.set {ok:Nat->Prop} {a w:World} (h:Kw ok a w) {x:Addr} (hx:ok x.block) (u:Value):Kw ok a (w.setCell x u) :=
 ⟨h.os,h.tape,h.output,by simpa[World.setCell]using h.size,λk hk hn=>(Below.heap_setCell _ _ _ _ (λ(e:k=x.block)=>hn (by rw[e];exact hx))).trans (h.block k hk hn)⟩
theorem Kw.q_ {ok:Nat->Prop} {a w w':World} (h:Kw ok a w) (hb:Bl w w'):Kw ok a w' :=
 ⟨hb.os.trans h.os,hb.tape.trans h.tape,hb.output.trans h.output,le_trans h.size hb.size,λk hk hn=>(hb.block k (Nat.lt_of_lt_of_le hk h.size)).trans (h.block k hk hn)⟩
theorem Kw.blw {ok:Nat->Prop} {a w w':World} (h:Kw ok w w') (hb:Bl a w) (hn:∀k,k<a.heap.size->¬ok k):Bl a w' :=
 ⟨h.os.trans hb.os,h.tape.trans hb.tape,h.output.trans hb.output,le_trans hb.size h.size,λk hk=>(h.block k (Nat.lt_of_lt_of_le hk hb.size) (hn k hk)).trans (hb.block k hk)⟩
theorem RowG.den {e sz base w v n xs b q u} (h:RowG e sz base w v n xs) (hb:w.cell? ⟨b,0,none⟩=some (.int .u64 q)):RowG e sz base (w.setCell ⟨b,0,none⟩ u) v n xs:=h.of λg hg=>by
 have hne:g≠b:=by
  rintro rfl;rcases h.2 with⟨hv,_⟩|⟨g',cap,cur,hv,_,hc,_,_,_,_,hnu⟩
  ·rw[hv]at hg;cases hg
  ·rw[hv]at hg;cases hg
   simp[World.cell?,hc]at hb
   exact hnu _ _ hb
 exact Below.heap_setCell _ _ _ _ hne
theorem RowG.set {e sz base w n xs g cap o u} (h:RowG e sz base w (.slice (some ⟨g,0,none⟩) n cap) n xs) (hu:∀q,u≠.int .u64 q):∃xs',RowG e sz base (w.setCell ⟨g,o,none⟩ u) (.slice (some ⟨g,0,none⟩) n cap) n xs':=by
 obtain⟨h0,h1⟩:=h;rcases h1 with⟨hv,_⟩|⟨g',cap',cur,hv,hge,hcur,hn,hm,hs,ht,hnu⟩
 ·cases hv
 ·cases hv
  refine⟨(cur.setIfInBounds o u).toList.take (n*sz),?_,.inr ⟨g,cap,cur.setIfInBounds o u,rfl,hge,?_,hn,hm,by simpa using hs,rfl,λi q hq=>?_⟩⟩
  ·rw[List.length_take,Array.length_toList,Array.size_setIfInBounds,hs];exact Nat.min_eq_left (Nat.mul_le_mul_right _ hn)
  ·simp[World.setCell,Array.getElem?_modify,hcur]
  ·rw[Array.getElem?_setIfInBounds]at hq
   split at hq
   ·split at hq
    ·cases hq;exact hu q rfl
    ·cases hq
   ·exact hnu i q hq
structure Mk (ok:Nat->Prop) (base:Nat) (wG:World) (v:Value) (n:Nat) (w:World) (j:Nat):Prop where
 kq:Kw ok wG w
 row:∃xs,RowG 24 3 base w v n xs
 el:∀i,j<=i->i<n->∃g cap s x k c b m d q,v=slice (some ⟨g,0,none⟩) n cap/\ok g/\g<w.heap.size/\(∀o,w.frozen? ⟨g,o,none⟩=false)/\C3 w g (i*3) (.bool s) (slice x k c) (slice (some ⟨b,0,none⟩) m d)/\0<m/\ok b/\w.cell? ⟨b,0,none⟩=some (.int .u64 q)/\w.frozen? ⟨b,0,none⟩=false
theorem Mk.q_ {ok base wG v n w w' j} (h:Mk ok base wG v n w j) (hb:Bl w w'):Mk ok base wG v n w' j:=by
 obtain⟨_,hf⟩:=zau hb;obtain⟨xs,hx⟩:=h.row;refine⟨h.kq.q_ hb,⟨xs,hx.q_ hb⟩,λi h1 h2=>?_⟩;obtain⟨g,cap,s,x,k,c,b,m,d,q,e1,e2,e3,e4,e5,e6,e7,e8,e9⟩:=h.el i h1 h2;exact⟨g,cap,s,x,k,c,b,m,d,q,e1,e2,Nat.lt_of_lt_of_le e3 hb.size,λo=>(hf _ _ e3).trans (e4 o),e5.q_ hb,e6,e7,kCb hb e8,(hf _ _ (block_lt_of_cell? w _ e8)).trans e9⟩
theorem zbR {w:World} {p a:Addr} {u v z:Value} (hp:w.cell? p=some u) (ha:w.cell? a=some v) (hne:u≠v):(w.setCell p z).cell? a=some v:=by
 have hpa:p≠a:=λe=>hne (Option.some.inj (by rw[<-hp,<-ha,e]))
 exact(World.cell?_setCell_other w p a z hpa).trans ha
theorem Mk.den {ok base wG v n w j b q} (h:Mk ok base wG v n w j) (hb:w.cell? ⟨b,0,none⟩=some (.int .u64 q)) (hok:ok b) (z:Int):Mk ok base wG v n (w.setCell ⟨b,0,none⟩ (.int .u64 z)) j:=by
 obtain⟨xs,hx⟩:=h.row;refine⟨h.kq.set hok _,⟨xs,hx.den hb⟩,λi h1 h2=>?_⟩;obtain⟨g,cap,s,x,k,c,b',m,d,q',e1,e2,e3,e4,⟨x0,x1,x2⟩,e6,e7,e8,e9⟩:=h.el i h1 h2;have hc:C3 (w.setCell ⟨b,0,none⟩ (.int .u64 z)) g (i*3) (.bool s) (slice x k c) (slice (some ⟨b',0,none⟩) m d):=⟨zbR hb x0 (λh=>by cases h),zbR hb x1 (λh=>by cases h),zbR hb x2 (λh=>by cases h)⟩;by_cases e:b'=b
 ·subst e;exact⟨g,cap,s,x,k,c,b',m,d,z,e1,e2,by simpa[World.setCell]using e3,λo=>kFs (e4 o),hc,e6,e7,kCe (kI0 e8),kFs e9⟩
 ·exact⟨g,cap,s,x,k,c,b',m,d,q',e1,e2,by simpa[World.setCell]using e3,λo=>kFs (e4 o),hc,e6,e7,kCs (λh=>e h.symm) e8,kFs e9⟩
theorem Mk.set {ok base wG n w j g cap o u z} (h:Mk ok base wG (slice (some ⟨g,0,none⟩) n cap) n w j) (hc:w.cell? ⟨g,o,none⟩=some z) (hz:∀q,z≠.int .u64 q) (hu:∀q,u≠.int .u64 q) (ho:o<j*3) (hok:ok g):Mk ok base wG (slice (some ⟨g,0,none⟩) n cap) n (w.setCell ⟨g,o,none⟩ u) j:=by
 obtain⟨xs,hx⟩:=h.row;refine⟨h.kq.set hok _,hx.set hu,λi h1 h2=>?_⟩;obtain⟨g',cap',s,x,k,c,b',m,d,q',e1,e2,e3,e4,⟨x0,x1,x2⟩,e6,e7,e8,e9⟩:=h.el i h1 h2;cases e1
 have hk:∀t u',w.cell? ⟨g,i*3+t,none⟩=some u'->(w.setCell ⟨g,o,none⟩ u).cell? ⟨g,i*3+t,none⟩=some u':=λt u' hu=>kCo (by have:j*3<=i*3:=Nat.mul_le_mul_right 3 h1;omega) hu
 exact⟨g,cap,s,x,k,c,b',m,d,q',rfl,e2,by simpa[World.setCell]using e3,λo=>kFs (e4 o),⟨hk 0 _ x0,hk 1 _ x1,hk 2 _ x2⟩,e6,e7,zbR hc e8 (hz _),kFs e9⟩
theorem Mk.up {ok base wG v n w j j'} (h:Mk ok base wG v n w j) (hj:j<=j'):Mk ok base wG v n w j':=⟨h.kq,h.row,λi h1 h2=>h.el i (le_trans hj h1) h2⟩
theorem GrO.mk {ok:Nat->Prop} {K base w v p w'} (h:GrO K base w v p) (hb:Bl w w') (hok:∀b,base<=b->b<w.heap.size->ok b):Mk ok base w' v p.length w' 0:=by
 have h0:Mk ok base w v p.length w 0:=by
  obtain⟨T,h1,h2⟩:=h;refine⟨Kw.refl _ _,⟨_,h1⟩,λi _ hi=>?_⟩;rcases h1.2 with⟨_,hn⟩|⟨g,cap,cur,hv,hge,hcur,hn,hm,hs,ht,hnu⟩
  ·omega
  ·subst hv;obtain⟨b,hb,hc⟩:=zfD h1 hi;cases hb
   have hl:g<w.heap.size:=(Array.getElem?_eq_some_iff.1 hcur).1;obtain⟨q,hq⟩:∃q,p[i]?=some q:=⟨_,List.getElem?_eq_getElem hi⟩;obtain⟨h3,h4⟩:=h2 i q hq;obtain⟨b,h5,h6,⟨z,h7⟩,h8⟩:=h4.1 (h3.den.pos (by have:=q.den_pos;omega));rw[Nat.zero_add,h5]at hc
   exact⟨g,cap,_,_,_,_,b,_,_,z,rfl,hok g hge hl,hl,λo=>by simp[World.frozen?,hcur],hc,h3.den.pos (by have:=q.den_pos;omega),hok b h6 (block_lt_of_cell? w _ h7),h7,h8⟩
 have h1:=h0.q_ hb;exact⟨Kw.refl _ _,h1.row,h1.el⟩
theorem zhn {K w ax kx capx Y ao k cap X} (hy:Rl w ax kx Y) (sy:ShK K kx Y) (hx:Rl w ao k X) (sx:ShK K k X) (hK:K<=100):Calls prog 9 #[agg #[slice ax kx capx,slice ao k cap]] w λe w'=>∃v,e=.returned v/\Bl w w'/\GRy kx Y k X v w'/\zpy v w :=
 (zkC hy hx (by have:=sy.1;omega) (by have:=sx.1;omega) (λj hj=>by have:=sy.2 j hj;omega) (λj hj=>by have:=sx.2 j hj;omega)).mono λe w' ⟨bx,cx,Y',bo,co,X',h1,h2,_,h4⟩=>⟨_,h1,h2,⟨bx,cx,Y',bo,co,X',rfl,h4.out.1.1,h4.out.1.2⟩,λb h=>by
  rcases h with⟨_,_,e⟩|⟨_,_,_,_,_,_,o,s,e,h⟩
  ·cases e
  ·simp only[Value.agg.injEq,Array.mk.injEq,List.cons.injEq,Value.slice.injEq,and_true]at e;obtain⟨⟨rfl,rfl,rfl⟩,rfl,rfl,rfl⟩:=e;rcases h with⟨_,h3⟩|⟨_,h3⟩
   ·exact h4.out.2.1 b o s h3
   ·exact h4.out.2.2 b o s h3⟩
theorem zkW {w ax kx c1 Y Y' ao k c2 X X' bx d1 bo d2} (p0:Tx w bx kx Y Y') (q0:Rl w ax kx Y) (p1:Tx w bo k X X') (q1:Rl w ao k X) (h1:kx<=1048576) (h2:k<=1048576) :
  Calls prog 17 #[agg #[slice bx kx d1,slice bo k d2],agg #[slice ax kx c1,slice ao k c2]] w λe w'=>e=.returned (.bool true)/\Bl w w':=by
 have S0:=zi (λW (hW:Bl w W)=>zeW (ca:=d1) (cb:=c1) (p0.1.q_ hW) (q0.q_ hW) p0.2 h1);have S1:=zi (λW (hW:Bl w W)=>zeW (ca:=d2) (cb:=c2) (p1.1.q_ hW) (q1.q_ hW) p1.2 h2);clear p0 p1 q0 q1 h1 h2;have HB:=zi (zk (zE w (cells #[slice bx kx d1,slice bo k d2] 31)) (cells #[slice ax kx c1,slice ao k c2] 31));have BA:=zi ((zI w [slice bx kx d1,slice bo k d2] 31).q_ (zE _ (cells #[slice ax kx c1,slice ao k c2] 31)));have BB:=zi (zeB w (cells #[slice bx kx d1,slice bo k d2] 31) [slice ax kx c1,slice ao k c2] 31);go_enter func17,ntmps17;go_upto_region 1 with fail
 generalize(w.alloc (cells #[slice bx kx d1,slice bo k d2] 31)).alloc (cells #[slice ax kx c1,slice ao k c2] 31)=v0 at *;obtain⟨r0,r1⟩:=bk2 BA.out;obtain⟨t0,t1⟩:=bk2 BB.out;go_wp2_with fail
 clear r0 r1 t0 t1;refine(S0.out _ HB.out).mono ?_;rintro e w1 ⟨rfl,hb⟩;replace HB:=zM HB hb;replace BA:=zi (BA.out.q_ hb);replace BB:=zi (BB.out.q_ hb)
 clear hb S0;obtain⟨r0,r1⟩:=bk2 BA.out;obtain⟨t0,t1⟩:=bk2 BB.out;go_wp2_with fail
 clear r0 r1 t0 t1;refine(S1.out _ HB.out).mono ?_;rintro e w2 ⟨rfl,hb⟩;replace HB:=zM HB hb;go_wp2;go_ret;exact⟨rfl,HB.out⟩
theorem zdM {w a b} (ha:NmB w a) (hb:NmB w b):Calls prog 18 #[a.val,b.val] w λr w'=>r=.returned (.bool (sqB a b))/\Bl w w' :=
 (zfI a.s a.x a.y a.n a.c a.m a.d a.f a.g b.s b.x b.y b.n b.c b.m b.d b.f b.g w ha.1.rx ha.1.ry hb.1.rx hb.1.ry (le_trans ha.2.1 (by decide)) (le_trans ha.2.2 (by decide)) (le_trans hb.2.1 (by decide)) (le_trans hb.2.2 (by decide))).mono
  λe w' ⟨q,h1,h2,h3⟩=>⟨by rw[h1,Bool.eq_iff_iff.2 (h3.trans sq_iff.symm)],h2⟩
theorem zdA {w a b} (ha:NmB w a.v) (hb:NmB w b.v):Calls prog 43 #[a.val,b.val] w λr w'=>r=.returned (.bool (sxB a b))/\Bl w w':=by
 have CS:=zi (λw' (hw:Bl w w')=>zdM (w:=w') (ha.q_ hw) (hb.q_ hw));obtain⟨q,hq⟩:∃q,sqB a.v b.v=q:=⟨_,rfl⟩;rw[hq]at CS
 obtain⟨an,han⟩:∃t,sxB a b=t:=⟨_,rfl⟩;rw[han];have HA:=zi (show an=(decide (a.i=b.i) && q)from by rw[<-han,sxB,hq]);clear ha hb hq han;obtain⟨i1,⟨s1,x1,n1,c1,f1,y1,m1,d1,g1⟩⟩:=a;obtain⟨i2,⟨s2,x2,n2,c2,f2,y2,m2,d2,g2⟩⟩:=b;replace CS:Hid (∀w' (hw:Bl w w'),Calls prog 18 #[agg #[.bool s1,slice x1 n1 c1,slice y1 m1 d1],agg #[.bool s2,slice x2 n2 c2,slice y2 m2 d2]] w' λr w2=>r=.returned (.bool q)/\Bl w' w2):=CS;replace HA:Hid (an=(decide (i1=i2) && q)):=HA;show Calls prog 43 #[agg #[.int .i64 i1,.bool s1,slice x1 n1 c1,slice y1 m1 d1],agg #[.int .i64 i2,.bool s2,slice x2 n2 c2,slice y2 m2 d2]] w _;have h1:=(zbn w (.int .i64 i1) (.bool s1) (slice x1 n1 c1) (slice y1 m1 d1) 57).alloc (cells #[.int .i64 i2,.bool s2,slice x2 n2 c2,slice y2 m2 d2] 57);have h2:=zbn (w.alloc (cells #[.int .i64 i1,.bool s1,slice x1 n1 c1,slice y1 m1 d1] 57)) (.int .i64 i2) (.bool s2) (slice x2 n2 c2) (slice y2 m2 d2) 57;rw[zv]at h2
 have h3:=zk (zE w (cells #[.int .i64 i1,.bool s1,slice x1 n1 c1,slice y1 m1 d1] 57)) (cells #[.int .i64 i2,.bool s2,slice x2 n2 c2,slice y2 m2 d2] 57);go_enter func43,ntmps43;go_upto_region 1 with fail
 generalize(w.alloc (cells #[.int .i64 i1,.bool s1,slice x1 n1 c1,slice y1 m1 d1] 57)).alloc (cells #[.int .i64 i2,.bool s2,slice x2 n2 c2,slice y2 m2 d2] 57)=w1 at *;have HW:=zi h3;obtain⟨za,a0,a1,a2,a3⟩:=h1;obtain⟨zb,b0,b1,b2,b3⟩:=h2;clear h3;by_cases hi:i1=i2
 ·subst hi;have hii:(i1==i1)=true:=by simp
  go_wp2_with fail
  refine(CS.out _ HW.out).mono ?_;rintro e w2 ⟨rfl,hb⟩;have HB:=zM HW hb;clear hb;go_wp2;go_ret;exact⟨by rw[HA.out];simp,HB.out⟩
 ·have hii:(i1==i2)=false:=by simpa using hi
  have HF:=zi (show an=false from by rw[HA.out];simp[hi]);go_wp2;go_ret;exact⟨by rw[HF.out];rfl,HW.out⟩
theorem zmX {w ao bo k m ca cb col col' T T'} (ha:Tr w ao k col T) (la:∀p,p<k->(T p).n<=17592186044416/\(T p).m<=17592186044416) (hb:Tr w bo m col' T') (lb:∀p,p<m->(T' p).n<=17592186044416/\(T' p).m<=17592186044416) (hk:k<=2199023255552) (hm:m<=2199023255552) :
  Calls prog 44 #[slice ao k ca,slice bo m cb] w λe w'=>e=.returned (.bool (zbQ sxB k m (tex col T) (tex col' T')))/\Bl w w':=by
 have HA:=zi ha;have HB:=zi hb;have LA:=zi la;have LB:=zi lb
 clear ha hb la lb;obtain⟨an,han⟩:∃t,zbQ sxB k m (tex col T) (tex col' T')=t:=⟨_,rfl⟩;rw[han];by_cases hnm:k=m
 case neg =>
  have HE:=zi (show an=false from by rw[<-han,zbQ];simp[hnm]);have e1:((k:Int) != (m:Int))=true:=by simp;omega
  clear hnm han;go_enter func44,ntmps44;go_wp2;go_ret;refine⟨?_,Below.refl _ _⟩;rw[HE.out];rfl
 subst hnm;have HAN:=zi (show an=eqf sxB (tex col T) (tex col' T') k 0 from by rw[<-han,zbQ];simp);have hkk:(((k:Nat):Int) != ((k:Nat):Int))=false:=by simp
 clear han;go_enter func44,ntmps44;go_wp2_with fail
 go_loopw[13] (λt wr=>∃(i:Nat),i<=k/\t=.int .i64 i/\Hid (Bl w wr)/\Hid (an=eqf sxB (tex col T) (tex col' T') (k-i) i)) (λt _=>k-(intOf t).toNat)
 case atStart=>exact⟨0,by omega,rfl,Below.refl _ _,HAN.out⟩
 case round =>
  obtain⟨i,hi,rfl,HW,HI⟩:=hrel;by_cases hlt:i<k
  ·obtain⟨b,o,rfl,⟨x0,x1,x2,x3⟩,hr⟩:=(HA.out.q_ HW.out) i hlt;obtain⟨b',o',rfl,⟨p0,p1,p2,p3⟩,hr'⟩:=(HB.out.q_ HW.out) i hlt;obtain⟨r,hrr⟩:∃r,k-i=r+1:=⟨k-i-1,by omega⟩;have hT:an=(sxB (tex col T i) (tex col' T' i) && eqf sxB (tex col T) (tex col' T') r (i+1)):=by rw[HI.out,hrr];rfl
   have hr2:k-(i+1)=r:=by omega
   obtain⟨q,hq⟩:∃q,sqB (T i) (T' i)=q:=⟨_,rfl⟩;have CS:=zi (λW (hW:Bl wr W)=>zdM (w:=W) (a:=T i) (b:=T' i) ⟨Rw.q_ hr hW,LA.out i hlt⟩ ⟨Rw.q_ hr' hW,LB.out i hlt⟩);rw[hq]at CS
   have hT2:an=((decide (col i=col' i) && q) && eqf sxB (tex col T) (tex col' T') r (i+1)):=by rw[hT];unfold sxB;show((decide (col i=col' i) && sqB (T i) (T' i)) && _)=_;rw[hq]
   obtain⟨a,hca⟩:∃z,col i=z:=⟨_,rfl⟩;obtain⟨a',hcb⟩:∃z,col' i=z:=⟨_,rfl⟩;rw[hca,hcb]at hT2
   rw[hca]at x0
   rw[hcb]at p0
   obtain⟨⟨ts,tx,tn,tc,tf,ty,tm,td,tg⟩,hTi⟩:∃t,T i=t:=⟨_,rfl⟩;obtain⟨⟨ss,sx,sn,sc,sf,sy,sm,sd,sg⟩,hTi'⟩:∃t,T' i=t:=⟨_,rfl⟩;rw[hTi]at x1 x2 x3 CS
   rw[hTi']at p1 p2 p3 CS
   replace x0:wr.cell? ⟨b,o+i*4,none⟩=some (.int .i64 a):=x0;replace x1:wr.cell? ⟨b,o+i*4+1,none⟩=some (.bool ts):=x1;replace x2:wr.cell? ⟨b,o+i*4+2,none⟩=some (slice tx tn tc):=x2;replace x3:wr.cell? ⟨b,o+i*4+3,none⟩=some (slice ty tm td):=x3;replace p0:wr.cell? ⟨b',o'+i*4,none⟩=some (.int .i64 a'):=p0;replace p1:wr.cell? ⟨b',o'+i*4+1,none⟩=some (.bool ss):=p1;replace p2:wr.cell? ⟨b',o'+i*4+2,none⟩=some (slice sx sn sc):=p2;replace p3:wr.cell? ⟨b',o'+i*4+3,none⟩=some (slice sy sm sd):=p3;replace CS:Hid (∀W,Bl wr W->Calls prog 18 #[agg #[.bool ts,slice tx tn tc,slice ty tm td],agg #[.bool ss,slice sx sn sc,slice sy sm sd]] W λe w'=>e=.returned (.bool q)/\Bl W w'):=CS;have i2:((i:Nat):Int)<((k:Nat):Int):=by omega
   have HR:=zi hr2;clear hr hr' hT hr2 hrr hq hca hcb hTi hTi' HI;go_upto_region 6 with fail
   by_cases haa:a=a'
   ·subst haa;have hne:(a != a)=false:=by simp
    have HT:=zi (show an=(q && eqf sxB (tex col T) (tex col' T') r (i+1))from by rw[hT2];simp);clear hT2;go_region_held3 (λw'=>w'.cell? ⟨b,o+i*4,none⟩=some (.int .i64 a)/\w'.cell? ⟨b,o+i*4+1,none⟩=some (.bool ts)/\w'.cell? ⟨b,o+i*4+2,none⟩=some (slice tx tn tc)/\w'.cell? ⟨b,o+i*4+3,none⟩=some (slice ty tm td)/\w'.cell? ⟨b',o'+i*4,none⟩=some (.int .i64 a)/\w'.cell? ⟨b',o'+i*4+1,none⟩=some (.bool ss)/\w'.cell? ⟨b',o'+i*4+2,none⟩=some (slice sx sn sc)/\w'.cell? ⟨b',o'+i*4+3,none⟩=some (slice sy sm sd))
     (refine⟨?_,?_,?_,?_,?_,?_,?_,?_⟩ <;> repeat(with_reducible first|assumption|refine kCd ?_|refine kCb (by assumption) ?_))
     ((go_at_call 18;with_reducible refine(CS.out _ (by repeat(with_reducible first|assumption|exact Below.refl _ _|refine zjQ ?_|refine Below.drew ?_))).mono ?_;rintro e w5 ⟨rfl,hb5⟩))
    all_goals
     (have HW5:Hid (Bl w w5):=zi (HW.out.trans (Below.mono (show Bl wr w5 by repeat(with_reducible first|assumption|exact Below.refl _ _|refine zjQ ?_|refine Below.drew ?_|refine kBb (by assumption) ?_)) HW.out.size))
      clear x0 x1 x2 x3 p0 p1 p2 p3 CS hb5;cases q
      ·go_wp2;go_ret;exact⟨by rw[HT.out];rfl,by first|exact HW5.out|exact HW5.out.drew|exact zD HW5.out _⟩
      ·go_wp2;go_roundw
       case rel=>exact⟨i+1,by omega,by go_num,(by first|exact HW5.out|exact HW5.out.drew|exact zD HW5.out _),by show _=_;rw[HT.out,HR.out];rfl⟩
       case measure=>simp[intOf];omega)
   ·have hne:(a != a')=true:=by simpa using haa
    have HF:=zi (show an=false from by rw[hT2];simp[haa]);clear hT2;refine wp_region_held_drew (S:=(λw'=>w'.cell? ⟨b,o+i*4,none⟩=some (.int .i64 a)/\w'.cell? ⟨b',o'+i*4,none⟩=some (.int .i64 a'))) (by kernel_rfl) ?_ (λhHeld=>?_)
    ·(refine⟨?_,?_⟩ <;> repeat(with_reducible first|assumption|refine kCd ?_))
    generalize hwd:wr.drew=wd at *;refine tkO 0 ?_;refine tkO 1 ?_;refine tkO 2 ?_;refine tkO 3 ?_;simp only[zA,Act.put];refine tkO 4 ?_;refine tkO 5 ?_;refine tkO 6 ?_;refine tkO 7 ?_;simp only[zA,Act.put];refine tkO 8 ?_;refine tkO 9 ?_;refine tkO 10 ?_;refine tkO 11 ?_;simp only[zA,Act.put];refine skO 12 ?_;refine skO 13 ?_;refine skO 14 ?_;refine skO 15 ?_;simp only[zA,Act.put];refine skO 16 ?_;refine skO 17 ?_;refine skO 18 ?_;refine skO 19 ?_;simp only[zA,Act.put];refine skO 20 ?_;refine skO 21 ?_;refine skO 22 ?_;refine skO 23 ?_;simp only[zA,Act.put];refine tkO 24 ?_;simp only[zA,Act.put];refine dnO ?_;subst hwd;go_wp2;go_ret;exact⟨by rw[HF.out];rfl,HW.out.drew⟩
  ·have e1:i=k:=by omega
   have i2:¬(((i:Nat):Int)<((k:Nat):Int)):=by omega
   have HE:=zi (show an=true from by rw[HI.out,e1,Nat.sub_self];rfl);clear e1 HI;go_wp2;go_ret;exact⟨by rw[HE.out];rfl,HW.out⟩
theorem znE {w:World} {a b:Mo} (ha:MoX w a) (hb:MoX w b):Calls prog 16 #[a.val,b.val] w λr w'=>r=.returned (.bool (smB a b))/\Bl w w':=by
 have CO:=zi (λw' (hw:Bl w w')=>zdM (w:=w') (ha.off.q_ hw) (hb.off.q_ hw));obtain⟨tO,hto⟩:∃t,sqB a.off b.off=t:=⟨_,rfl⟩;rw[hto]at CO
 obtain⟨an,han⟩:∃t,smB a b=t:=⟨_,rfl⟩;rw[han];have HA:=zi (show an=(tO && (zbQ scB a.ck b.ck a.C b.C && zbQ srB a.rk b.rk a.R b.R))from by rw[<-han,smB,hto]);obtain⟨_,hC,hR,hck,hrk⟩:=ha;obtain⟨_,hC',hR',hck',hrk'⟩:=hb;clear han hto;obtain⟨⟨s,x,n,c,f,y,m,d,g⟩,ca,ck,cc,C,ra,rk,rc,R⟩:=a;obtain⟨⟨vs,vx,vn,vc,vf,vy,vm,vd,vg⟩,vca,vck,vcc,vC,vra,vrk,vrc,vR⟩:=b;replace hck:ck<=703687441776:=hck;replace hrk:rk<=837723144971:=hrk;replace hck':vck<=703687441776:=hck';replace hrk':vrk<=837723144971:=hrk';have HC:Hid (Cl9 w ca ck C):=hC;have HR:Hid (Rl9 w ra rk R):=hR;have HC':Hid (Cl9 w vca vck vC):=hC';have HR':Hid (Rl9 w vra vrk vR):=hR';replace HA:Hid (an=(tO && (zbQ scB ck vck C vC && zbQ srB rk vrk R vR))):=HA;replace CO:Hid (∀w' (hw:Bl w w'),Calls prog 18 #[agg #[.bool s,slice x n c,slice y m d],agg #[.bool vs,slice vx vn vc,slice vy vm vd]] w' λr w2=>r=.returned (.bool tO)/\Bl w' w2):=CO;clear hC hR hC' hR';show Calls prog 16 #[agg #[.bool s,slice x n c,slice y m d,slice ca ck cc,slice ra rk rc],agg #[.bool vs,slice vx vn vc,slice vy vm vd,slice vca vck vcc,slice vra vrk vrc]] w _;have h3:=zk (zk (Below.refl w.heap.size w) (cells #[.bool s,slice x n c,slice y m d,slice ca ck cc,slice ra rk rc] 28)) (cells #[.bool vs,slice vx vn vc,slice vy vm vd,slice vca vck vcc,slice vra vrk vrc] 28);have B1:=(zI w [.bool s,slice x n c,slice y m d,slice ca ck cc,slice ra rk rc] 28).q_ (zk (Below.refl _ _) (cells #[.bool vs,slice vx vn vc,slice vy vm vd,slice vca vck vcc,slice vra vrk vrc] 28));have B2:=zI (w.alloc (cells #[.bool s,slice x n c,slice y m d,slice ca ck cc,slice ra rk rc] 28)) [.bool vs,slice vx vn vc,slice vy vm vd,slice vca vck vcc,slice vra vrk vrc] 28;rw[zv]at B2
 replace B1:Bk ((w.alloc (cells #[.bool s,slice x n c,slice y m d,slice ca ck cc,slice ra rk rc] 28)).alloc (cells #[.bool vs,slice vx vn vc,slice vy vm vd,slice vca vck vcc,slice vra vrk vrc] 28)) w.heap.size [.bool s,slice x n c,slice y m d,slice ca ck cc,slice ra rk rc] 28:=B1;replace B2:Bk ((w.alloc (cells #[.bool s,slice x n c,slice y m d,slice ca ck cc,slice ra rk rc] 28)).alloc (cells #[.bool vs,slice vx vn vc,slice vy vm vd,slice vca vck vcc,slice vra vrk vrc] 28)) (w.heap.size+1) [.bool vs,slice vx vn vc,slice vy vm vd,slice vca vck vcc,slice vra vrk vrc] 28:=B2;go_enter func16,ntmps16;go_upto_region 1 with fail
 generalize(w.alloc (cells #[.bool s,slice x n c,slice y m d,slice ca ck cc,slice ra rk rc] 28)).alloc (cells #[.bool vs,slice vx vn vc,slice vy vm vd,slice vca vck vcc,slice vra vrk vrc] 28)=w1 at *;obtain⟨r0,r1,r2,r3,r4⟩:=bk5 B1;obtain⟨q0,q1,q2,q3,q4⟩:=bk5 B2;go_wp2_with fail
 refine(CO.out _ h3).mono ?_;rintro e w2 ⟨rfl,hb2⟩;have HW:=zi (h3.trans (hb2.mono h3.size));replace B1:=B1.q_ hb2;replace B2:=B2.q_ hb2
 clear hb2 h3 CO r0 r1 r2 r3 r4 q0 q1 q2 q3 q4;cases tO
 ·have HF:=zi (show an=false from by rw[HA.out];rfl);clear HA;go_wp2;go_ret;exact⟨by rw[HF.out];rfl,HW.out⟩
 obtain⟨r0,r1,r2,r3,r4⟩:=bk5 B1;obtain⟨q0,q1,q2,q3,q4⟩:=bk5 B2;by_cases h1:ck=vck
 case neg =>
  have HF:=zi (show an=false from by rw[HA.out,zbQ];simp[h1]);have e1:((ck:Int) != (vck:Int))=true:=by simp;omega
  clear HA;go_wp2;go_ret;exact⟨by rw[HF.out];rfl,HW.out⟩
 subst h1;have e1:((ck:Int) != (ck:Int))=false:=by simp
 by_cases h2:rk=vrk
 case neg =>
  have HF:=zi (show an=false from by rw[HA.out];simp[zbQ,h2]);have e2:((rk:Int) != (vrk:Int))=true:=by simp;omega
  clear HA;go_wp2;go_ret;exact⟨by rw[HF.out];rfl,HW.out⟩
 subst h2;have e2:((rk:Int) != (rk:Int))=false:=by simp
 replace HA:=zi (show an=(eqf scB C vC ck 0 && eqf srB R vR rk 0)from by rw[HA.out];simp[zbQ]);go_wp2_with fail
 go_loopw[38] (λt wr=>∃(i:Nat),i<=ck/\t=.int .i64 i/\Hid (Bl w2 wr)/\Hid (an=(eqf scB C vC (ck-i) i && eqf srB R vR rk 0))) (λt _=>ck-(intOf t).toNat)
 case atStart=>exact⟨0,by omega,rfl,Below.refl _ _,HA.out⟩
 case round =>
  obtain⟨i,hi,rfl,HB,HI⟩:=hrel;clear HA r0 r1 r2 r3 r4 q0 q1 q2 q3 q4;by_cases hlt:i<ck
  ·obtain⟨b,o,rfl,hc,hn⟩:=(HC.out.q_ (HW.out.trans (HB.out.mono HW.out.size))) i hlt;obtain⟨b',o',rfl,hc',hn'⟩:=(HC'.out.q_ (HW.out.trans (HB.out.mono HW.out.size))) i hlt;obtain⟨r,hr⟩:∃r,ck-i=r+1:=⟨ck-i-1,by omega⟩;have hr2:ck-(i+1)=r:=by omega
   obtain⟨t0,ht0⟩:∃t,sqB (C i).cost (vC i).cost=t:=⟨_,rfl⟩;have C0:=zi (λW (hW:Bl wr W)=>zdM (w:=W) (hn.cost.q_ hW) (hn'.cost.q_ hW));rw[ht0]at C0
   obtain⟨t1,ht1⟩:∃t,sxB (C i).lo (vC i).lo=t:=⟨_,rfl⟩;have C1:=zi (λW (hW:Bl wr W)=>zdA (w:=W) (hn.lo.q_ hW) (hn'.lo.q_ hW));rw[ht1]at C1
   obtain⟨t2,ht2⟩:∃t,sxB (C i).hi (vC i).hi=t:=⟨_,rfl⟩;have C2:=zi (λW (hW:Bl wr W)=>zdA (w:=W) (hn.hi.q_ hW) (hn'.hi.q_ hW));rw[ht2]at C2
   have hT:an=((decide ((C i).nm=(vC i).nm) && (t0 && (t1 && t2))) && eqf scB C vC r (i+1) && eqf srB R vR rk 0):=by
    rw[HI.out,hr,<-ht0,<-ht1,<-ht2];rfl
   obtain⟨⟨z,⟨s0,x0,n0,c0,f0,y0,m0,d0,g0⟩,⟨i1,⟨s1,x1,n1,c1,f1,y1,m1,d1,g1⟩⟩,⟨i2,⟨s2,x2,n2,c2,f2,y2,m2,d2,g2⟩⟩⟩,hCi⟩:∃t,C i=t:=⟨_,rfl⟩;obtain⟨⟨vz,⟨vs0,vx0,vn0,vc0,vf0,vy0,vm0,vd0,vg0⟩,⟨vi1,⟨vs1,vx1,vn1,vc1,vf1,vy1,vm1,vd1,vg1⟩⟩,⟨vi2,⟨vs2,vx2,vn2,vc2,vf2,vy2,vm2,vd2,vg2⟩⟩⟩,hCi'⟩:∃t,vC i=t:=⟨_,rfl⟩;rw[hCi]at hc hT C0 C1 C2
   rw[hCi']at hc' hT C0 C1 C2
   replace hT:an=((decide (z=vz) && (t0 && (t1 && t2))) && eqf scB C vC r (i+1) && eqf srB R vR rk 0):=hT;replace C0:Hid (∀W (hW:Bl wr W),Calls prog 18 #[agg #[.bool s0,slice x0 n0 c0,slice y0 m0 d0],agg #[.bool vs0,slice vx0 vn0 vc0,slice vy0 vm0 vd0]] W λr w2=>r=.returned (.bool t0)/\Bl W w2):=C0;replace C1:Hid (∀W (hW:Bl wr W),Calls prog 43 #[agg #[.int .i64 i1,.bool s1,slice x1 n1 c1,slice y1 m1 d1],agg #[.int .i64 vi1,.bool vs1,slice vx1 vn1 vc1,slice vy1 vm1 vd1]] W λr w2=>r=.returned (.bool t1)/\Bl W w2):=C1;replace C2:Hid (∀W (hW:Bl wr W),Calls prog 43 #[agg #[.int .i64 i2,.bool s2,slice x2 n2 c2,slice y2 m2 d2],agg #[.int .i64 vi2,.bool vs2,slice vx2 vn2 vc2,slice vy2 vm2 vd2]] W λr w2=>r=.returned (.bool t2)/\Bl W w2):=C2;obtain⟨p0,p1,p2,p3,p4,p5,p6,p7,p8,p9,p10,p11⟩:=hc.lc;have u0':wr.cell? ⟨b',o'+i*12,none⟩=some (.string vz):=hc' 0 _ rfl;have u1':wr.cell? ⟨b',o'+i*12+1,none⟩=some (.bool vs0):=hc' 1 _ rfl;have u2':wr.cell? ⟨b',o'+i*12+2,none⟩=some (slice vx0 vn0 vc0):=hc' 2 _ rfl;have u3':wr.cell? ⟨b',o'+i*12+3,none⟩=some (slice vy0 vm0 vd0):=hc' 3 _ rfl;have u4':wr.cell? ⟨b',o'+i*12+4,none⟩=some (.int .i64 vi1):=hc' 4 _ rfl;have u5':wr.cell? ⟨b',o'+i*12+5,none⟩=some (.bool vs1):=hc' 5 _ rfl;have u6':wr.cell? ⟨b',o'+i*12+6,none⟩=some (slice vx1 vn1 vc1):=hc' 6 _ rfl;have u7':wr.cell? ⟨b',o'+i*12+7,none⟩=some (slice vy1 vm1 vd1):=hc' 7 _ rfl;have u8':wr.cell? ⟨b',o'+i*12+8,none⟩=some (.int .i64 vi2):=hc' 8 _ rfl;have u9':wr.cell? ⟨b',o'+i*12+9,none⟩=some (.bool vs2):=hc' 9 _ rfl;have u10':wr.cell? ⟨b',o'+i*12+10,none⟩=some (slice vx2 vn2 vc2):=hc' 10 _ rfl;have u11':wr.cell? ⟨b',o'+i*12+11,none⟩=some (slice vy2 vm2 vd2):=hc' 11 _ rfl;have k9:=(B2.q_ HB.out).cell (j:=3) rfl;have hkl:=(B2.q_ HB.out).lt;have hcl:=block_lt_of_cell? wr _ u0';replace hcl:b'<wr.heap.size:=hcl;have k95:(wr.alloc (cells #[.string z,.bool s0,slice x0 n0 c0,slice y0 m0 d0,.int .i64 i1,.bool s1,slice x1 n1 c1,slice y1 m1 d1,.int .i64 i2,.bool s2,slice x2 n2 c2,slice y2 m2 d2] 59)).cell? ⟨w.heap.size+1,3,none⟩=some (slice (some ⟨b',o',none⟩) ck vcc):=kCa k9;have u05:(wr.alloc (cells #[.string z,.bool s0,slice x0 n0 c0,slice y0 m0 d0,.int .i64 i1,.bool s1,slice x1 n1 c1,slice y1 m1 d1,.int .i64 i2,.bool s2,slice x2 n2 c2,slice y2 m2 d2] 59)).cell? ⟨b',o'+i*12,none⟩=some (.string vz):=kCa u0';have u15:(wr.alloc (cells #[.string z,.bool s0,slice x0 n0 c0,slice y0 m0 d0,.int .i64 i1,.bool s1,slice x1 n1 c1,slice y1 m1 d1,.int .i64 i2,.bool s2,slice x2 n2 c2,slice y2 m2 d2] 59)).cell? ⟨b',o'+i*12+1,none⟩=some (.bool vs0):=kCa u1';have u25:(wr.alloc (cells #[.string z,.bool s0,slice x0 n0 c0,slice y0 m0 d0,.int .i64 i1,.bool s1,slice x1 n1 c1,slice y1 m1 d1,.int .i64 i2,.bool s2,slice x2 n2 c2,slice y2 m2 d2] 59)).cell? ⟨b',o'+i*12+2,none⟩=some (slice vx0 vn0 vc0):=kCa u2';have u35:(wr.alloc (cells #[.string z,.bool s0,slice x0 n0 c0,slice y0 m0 d0,.int .i64 i1,.bool s1,slice x1 n1 c1,slice y1 m1 d1,.int .i64 i2,.bool s2,slice x2 n2 c2,slice y2 m2 d2] 59)).cell? ⟨b',o'+i*12+3,none⟩=some (slice vy0 vm0 vd0):=kCa u3';have u45:(wr.alloc (cells #[.string z,.bool s0,slice x0 n0 c0,slice y0 m0 d0,.int .i64 i1,.bool s1,slice x1 n1 c1,slice y1 m1 d1,.int .i64 i2,.bool s2,slice x2 n2 c2,slice y2 m2 d2] 59)).cell? ⟨b',o'+i*12+4,none⟩=some (.int .i64 vi1):=kCa u4';have u55:(wr.alloc (cells #[.string z,.bool s0,slice x0 n0 c0,slice y0 m0 d0,.int .i64 i1,.bool s1,slice x1 n1 c1,slice y1 m1 d1,.int .i64 i2,.bool s2,slice x2 n2 c2,slice y2 m2 d2] 59)).cell? ⟨b',o'+i*12+5,none⟩=some (.bool vs1):=kCa u5';have u65:(wr.alloc (cells #[.string z,.bool s0,slice x0 n0 c0,slice y0 m0 d0,.int .i64 i1,.bool s1,slice x1 n1 c1,slice y1 m1 d1,.int .i64 i2,.bool s2,slice x2 n2 c2,slice y2 m2 d2] 59)).cell? ⟨b',o'+i*12+6,none⟩=some (slice vx1 vn1 vc1):=kCa u6';have u75:(wr.alloc (cells #[.string z,.bool s0,slice x0 n0 c0,slice y0 m0 d0,.int .i64 i1,.bool s1,slice x1 n1 c1,slice y1 m1 d1,.int .i64 i2,.bool s2,slice x2 n2 c2,slice y2 m2 d2] 59)).cell? ⟨b',o'+i*12+7,none⟩=some (slice vy1 vm1 vd1):=kCa u7';have u85:(wr.alloc (cells #[.string z,.bool s0,slice x0 n0 c0,slice y0 m0 d0,.int .i64 i1,.bool s1,slice x1 n1 c1,slice y1 m1 d1,.int .i64 i2,.bool s2,slice x2 n2 c2,slice y2 m2 d2] 59)).cell? ⟨b',o'+i*12+8,none⟩=some (.int .i64 vi2):=kCa u8';have u95:(wr.alloc (cells #[.string z,.bool s0,slice x0 n0 c0,slice y0 m0 d0,.int .i64 i1,.bool s1,slice x1 n1 c1,slice y1 m1 d1,.int .i64 i2,.bool s2,slice x2 n2 c2,slice y2 m2 d2] 59)).cell? ⟨b',o'+i*12+9,none⟩=some (.bool vs2):=kCa u9';have u105:(wr.alloc (cells #[.string z,.bool s0,slice x0 n0 c0,slice y0 m0 d0,.int .i64 i1,.bool s1,slice x1 n1 c1,slice y1 m1 d1,.int .i64 i2,.bool s2,slice x2 n2 c2,slice y2 m2 d2] 59)).cell? ⟨b',o'+i*12+10,none⟩=some (slice vx2 vn2 vc2):=kCa u10';have u115:(wr.alloc (cells #[.string z,.bool s0,slice x0 n0 c0,slice y0 m0 d0,.int .i64 i1,.bool s1,slice x1 n1 c1,slice y1 m1 d1,.int .i64 i2,.bool s2,slice x2 n2 c2,slice y2 m2 d2] 59)).cell? ⟨b',o'+i*12+11,none⟩=some (slice vy2 vm2 vd2):=kCa u11';have i1':((i:Nat):Int)<((ck:Nat):Int):=by omega
   have HRR:=zi hr2;have HT:=zi hT;clear hCi hCi' hc hc' hn hn' hr hr2 hT HI ht0 ht1 ht2;go_upto_region 7 with fail
   have h5:=zk (zk (Below.refl wr.heap.size wr) (cells #[.string z,.bool s0,slice x0 n0 c0,slice y0 m0 d0,.int .i64 i1,.bool s1,slice x1 n1 c1,slice y1 m1 d1,.int .i64 i2,.bool s2,slice x2 n2 c2,slice y2 m2 d2] 59)) (cells #[.string vz,.bool vs0,slice vx0 vn0 vc0,slice vy0 vm0 vd0,.int .i64 vi1,.bool vs1,slice vx1 vn1 vc1,slice vy1 vm1 vd1,.int .i64 vi2,.bool vs2,slice vx2 vn2 vc2,slice vy2 vm2 vd2] 59);have D1:=(zI wr [.string z,.bool s0,slice x0 n0 c0,slice y0 m0 d0,.int .i64 i1,.bool s1,slice x1 n1 c1,slice y1 m1 d1,.int .i64 i2,.bool s2,slice x2 n2 c2,slice y2 m2 d2] 59).q_ (zk (Below.refl _ _) (cells #[.string vz,.bool vs0,slice vx0 vn0 vc0,slice vy0 vm0 vd0,.int .i64 vi1,.bool vs1,slice vx1 vn1 vc1,slice vy1 vm1 vd1,.int .i64 vi2,.bool vs2,slice vx2 vn2 vc2,slice vy2 vm2 vd2] 59));have D2:=zI (wr.alloc (cells #[.string z,.bool s0,slice x0 n0 c0,slice y0 m0 d0,.int .i64 i1,.bool s1,slice x1 n1 c1,slice y1 m1 d1,.int .i64 i2,.bool s2,slice x2 n2 c2,slice y2 m2 d2] 59)) [.string vz,.bool vs0,slice vx0 vn0 vc0,slice vy0 vm0 vd0,.int .i64 vi1,.bool vs1,slice vx1 vn1 vc1,slice vy1 vm1 vd1,.int .i64 vi2,.bool vs2,slice vx2 vn2 vc2,slice vy2 vm2 vd2] 59;rw[zv]at D2
   replace D1:Bk ((wr.alloc (cells #[.string z,.bool s0,slice x0 n0 c0,slice y0 m0 d0,.int .i64 i1,.bool s1,slice x1 n1 c1,slice y1 m1 d1,.int .i64 i2,.bool s2,slice x2 n2 c2,slice y2 m2 d2] 59)).alloc (cells #[.string vz,.bool vs0,slice vx0 vn0 vc0,slice vy0 vm0 vd0,.int .i64 vi1,.bool vs1,slice vx1 vn1 vc1,slice vy1 vm1 vd1,.int .i64 vi2,.bool vs2,slice vx2 vn2 vc2,slice vy2 vm2 vd2] 59)) wr.heap.size [.string z,.bool s0,slice x0 n0 c0,slice y0 m0 d0,.int .i64 i1,.bool s1,slice x1 n1 c1,slice y1 m1 d1,.int .i64 i2,.bool s2,slice x2 n2 c2,slice y2 m2 d2] 59:=D1;replace D2:Bk ((wr.alloc (cells #[.string z,.bool s0,slice x0 n0 c0,slice y0 m0 d0,.int .i64 i1,.bool s1,slice x1 n1 c1,slice y1 m1 d1,.int .i64 i2,.bool s2,slice x2 n2 c2,slice y2 m2 d2] 59)).alloc (cells #[.string vz,.bool vs0,slice vx0 vn0 vc0,slice vy0 vm0 vd0,.int .i64 vi1,.bool vs1,slice vx1 vn1 vc1,slice vy1 vm1 vd1,.int .i64 vi2,.bool vs2,slice vx2 vn2 vc2,slice vy2 vm2 vd2] 59)) (wr.heap.size+1) [.string vz,.bool vs0,slice vx0 vn0 vc0,slice vy0 vm0 vd0,.int .i64 vi1,.bool vs1,slice vx1 vn1 vc1,slice vy1 vm1 vd1,.int .i64 vi2,.bool vs2,slice vx2 vn2 vc2,slice vy2 vm2 vd2] 59:=D2;clear p0 p1 p2 p3 p4 p5 p6 p7 p8 p9 p10 p11 u0' u1' u2' u3' u4' u5' u6' u7' u8' u9' u10' u11' u05 u15 u25 u35 u45 u55 u65 u75 u85 u95 u105 u115 k9 k95;generalize(wr.alloc (cells #[.string z,.bool s0,slice x0 n0 c0,slice y0 m0 d0,.int .i64 i1,.bool s1,slice x1 n1 c1,slice y1 m1 d1,.int .i64 i2,.bool s2,slice x2 n2 c2,slice y2 m2 d2] 59)).alloc (cells #[.string vz,.bool vs0,slice vx0 vn0 vc0,slice vy0 vm0 vd0,.int .i64 vi1,.bool vs1,slice vx1 vn1 vc1,slice vy1 vm1 vd1,.int .i64 vi2,.bool vs2,slice vx2 vn2 vc2,slice vy2 vm2 vd2] 59)=w5 at *;obtain⟨a0,a1,a2,a3,a4,a5,a6,a7,a8,a9,a10,a11⟩:=zeQ D1;obtain⟨b0,b1,b2,b3,b4,b5,b6,b7,b8,b9,b10,b11⟩:=zeQ D2;by_cases hz:z=vz
   case neg =>
    have hne:=zkK hz;have HF:=zi (show an=false from by rw[HT.out];simp[hz]);go_wp2;go_ret;exact⟨by rw[HF.out];rfl,HW.out.trans ((HB.out.trans ((h5).mono HB.out.size)).mono HW.out.size)⟩
   subst hz;replace HT:=zi (show an=((t0 && (t1 && t2)) && eqf scB C vC r (i+1) && eqf srB R vR rk 0)from by rw[HT.out];simp);go_wp2_with fail
   refine(C0.out _ h5).mono ?_;rintro e w6 ⟨rfl,hb6⟩;have h51:=zi (h5.trans (hb6.mono h5.size));replace D1:=D1.q_ hb6;replace D2:=D2.q_ hb6
   clear a0 a1 a2 a3 a4 a5 a6 a7 a8 a9 a10 a11 b0 b1 b2 b3 b4 b5 b6 b7 b8 b9 b10 b11 C0 hb6;cases t0
   ·have HF:=zi (show an=false from by rw[HT.out];simp);go_wp2;go_ret;exact⟨by rw[HF.out];rfl,HW.out.trans ((HB.out.trans ((h51.out).mono HB.out.size)).mono HW.out.size)⟩
   obtain⟨a0,a1,a2,a3,a4,a5,a6,a7,a8,a9,a10,a11⟩:=zeQ D1;obtain⟨b0,b1,b2,b3,b4,b5,b6,b7,b8,b9,b10,b11⟩:=zeQ D2;go_wp2_with fail
   refine(C1.out _ h51.out).mono ?_;rintro e w7 ⟨rfl,hb7⟩;have h52:=zi (h51.out.trans (hb7.mono h51.out.size));replace D1:=D1.q_ hb7;replace D2:=D2.q_ hb7
   clear a0 a1 a2 a3 a4 a5 a6 a7 a8 a9 a10 a11 b0 b1 b2 b3 b4 b5 b6 b7 b8 b9 b10 b11 C1 hb7;cases t1
   ·have HF:=zi (show an=false from by rw[HT.out];simp);go_wp2;go_ret;exact⟨by rw[HF.out];rfl,HW.out.trans ((HB.out.trans ((h52.out).mono HB.out.size)).mono HW.out.size)⟩
   obtain⟨a0,a1,a2,a3,a4,a5,a6,a7,a8,a9,a10,a11⟩:=zeQ D1;obtain⟨b0,b1,b2,b3,b4,b5,b6,b7,b8,b9,b10,b11⟩:=zeQ D2;go_wp2_with fail
   refine(C2.out _ h52.out).mono ?_;rintro e w8 ⟨rfl,hb8⟩;have h53:=zi (h52.out.trans (hb8.mono h52.out.size));replace D1:=D1.q_ hb8;replace D2:=D2.q_ hb8
   clear a0 a1 a2 a3 a4 a5 a6 a7 a8 a9 a10 a11 b0 b1 b2 b3 b4 b5 b6 b7 b8 b9 b10 b11 C2 hb8;cases t2
   ·have HF:=zi (show an=false from by rw[HT.out];simp);go_wp2;go_ret;exact⟨by rw[HF.out];rfl,HW.out.trans ((HB.out.trans ((h53.out).mono HB.out.size)).mono HW.out.size)⟩
   have HB9:=zi (HB.out.trans (h53.out.mono HB.out.size));go_wp2;go_roundw
   case rel=>exact⟨i+1,by omega,by go_num,HB9.out,by show _=_;rw[HT.out,HRR.out];simp⟩
   case measure=>simp[intOf];omega
  ·have e3:i=ck:=by omega
   have i2:¬(((i:Nat):Int)<((ck:Nat):Int)):=by omega
   have HA2:=zi (show an=eqf srB R vR rk 0 from by rw[HI.out,e3,Nat.sub_self];rfl);have HW2:=zi (HW.out.trans (HB.out.mono HW.out.size));replace B1:=B1.q_ HB.out;replace B2:=B2.q_ HB.out
   clear e3 HI HB HC HC';obtain⟨r0,r1,r2,r3,r4⟩:=bk5 B1;obtain⟨q0,q1,q2,q3,q4⟩:=bk5 B2;generalize wr=wa at *;go_wp2_with fail
   go_loopw[81] (λt wr=>∃(i:Nat),i<=rk/\t=.int .i64 i/\Hid (Bl wa wr)/\Hid (an=eqf srB R vR (rk-i) i)) (λt _=>rk-(intOf t).toNat)
   case atStart=>exact⟨0,by omega,rfl,Below.refl _ _,HA2.out⟩
   case round =>
    obtain⟨i,hi,rfl,HB,HI⟩:=hrel;clear HA2 r0 r1 r2 r3 r4 q0 q1 q2 q3 q4;by_cases hlt:i<rk
    ·obtain⟨b,o,rfl,hc,hn⟩:=(HR.out.q_ (HW2.out.trans (HB.out.mono HW2.out.size))) i hlt;obtain⟨b',o',rfl,hc',hn'⟩:=(HR'.out.q_ (HW2.out.trans (HB.out.mono HW2.out.size))) i hlt;obtain⟨r,hr⟩:∃r,rk-i=r+1:=⟨rk-i-1,by omega⟩;have hr2:rk-(i+1)=r:=by omega
     obtain⟨t0,ht0⟩:∃t,sxB (R i).lo (vR i).lo=t:=⟨_,rfl⟩;have C0:=zi (λW (hW:Bl wr W)=>zdA (w:=W) (hn.lo.q_ hW) (hn'.lo.q_ hW));rw[ht0]at C0
     obtain⟨t1,ht1⟩:∃t,sxB (R i).hi (vR i).hi=t:=⟨_,rfl⟩;have C1:=zi (λW (hW:Bl wr W)=>zdA (w:=W) (hn.hi.q_ hW) (hn'.hi.q_ hW));rw[ht1]at C1
     obtain⟨t2,ht2⟩:∃t,zbQ sxB (R i).tk (vR i).tk (tex (R i).col (R i).T) (tex (vR i).col (vR i).T)=t:=⟨_,rfl⟩;have C2:=zi (λW (hW:Bl wr W)=>zmX (w:=W) (ca:=(R i).tc) (cb:=(vR i).tc) (hn.tr.q_ hW) hn.tn (hn'.tr.q_ hW) hn'.tn hn.tk hn'.tk);rw[ht2]at C2
     have hT:an=((decide ((R i).nm=(vR i).nm) && (t0 && (t1 && t2))) && eqf srB R vR r (i+1)):=by
      rw[HI.out,hr,<-ht0,<-ht1,<-ht2];rfl
     obtain⟨⟨z,⟨i1,⟨s1,x1,n1,c1,f1,y1,m1,d1,g1⟩⟩,⟨i2,⟨s2,x2,n2,c2,f2,y2,m2,d2,g2⟩⟩,ta,tk,tc,tcol,tt⟩,hCi⟩:∃t,R i=t:=⟨_,rfl⟩;obtain⟨⟨vz,⟨vi1,⟨vs1,vx1,vn1,vc1,vf1,vy1,vm1,vd1,vg1⟩⟩,⟨vi2,⟨vs2,vx2,vn2,vc2,vf2,vy2,vm2,vd2,vg2⟩⟩,vta,vtk,vtc,vtcol,vtt⟩,hCi'⟩:∃t,vR i=t:=⟨_,rfl⟩;rw[hCi]at hc hT C0 C1 C2
     rw[hCi']at hc' hT C0 C1 C2
     replace hT:an=((decide (z=vz) && (t0 && (t1 && t2))) && eqf srB R vR r (i+1)):=hT;replace C0:Hid (∀W (hW:Bl wr W),Calls prog 43 #[agg #[.int .i64 i1,.bool s1,slice x1 n1 c1,slice y1 m1 d1],agg #[.int .i64 vi1,.bool vs1,slice vx1 vn1 vc1,slice vy1 vm1 vd1]] W λr w2=>r=.returned (.bool t0)/\Bl W w2):=C0;replace C1:Hid (∀W (hW:Bl wr W),Calls prog 43 #[agg #[.int .i64 i2,.bool s2,slice x2 n2 c2,slice y2 m2 d2],agg #[.int .i64 vi2,.bool vs2,slice vx2 vn2 vc2,slice vy2 vm2 vd2]] W λr w2=>r=.returned (.bool t1)/\Bl W w2):=C1;replace C2:Hid (∀W (hW:Bl wr W),Calls prog 44 #[slice ta tk tc,slice vta vtk vtc] W λr w2=>r=.returned (.bool t2)/\Bl W w2):=C2;obtain⟨p0,p1,p2,p3,p4,p5,p6,p7,p8,p9⟩:=hc.lr;have u0':wr.cell? ⟨b',o'+i*10,none⟩=some (.string vz):=hc' 0 _ rfl;have u1':wr.cell? ⟨b',o'+i*10+1,none⟩=some (.int .i64 vi1):=hc' 1 _ rfl;have u2':wr.cell? ⟨b',o'+i*10+2,none⟩=some (.bool vs1):=hc' 2 _ rfl;have u3':wr.cell? ⟨b',o'+i*10+3,none⟩=some (slice vx1 vn1 vc1):=hc' 3 _ rfl;have u4':wr.cell? ⟨b',o'+i*10+4,none⟩=some (slice vy1 vm1 vd1):=hc' 4 _ rfl;have u5':wr.cell? ⟨b',o'+i*10+5,none⟩=some (.int .i64 vi2):=hc' 5 _ rfl;have u6':wr.cell? ⟨b',o'+i*10+6,none⟩=some (.bool vs2):=hc' 6 _ rfl;have u7':wr.cell? ⟨b',o'+i*10+7,none⟩=some (slice vx2 vn2 vc2):=hc' 7 _ rfl;have u8':wr.cell? ⟨b',o'+i*10+8,none⟩=some (slice vy2 vm2 vd2):=hc' 8 _ rfl;have u9':wr.cell? ⟨b',o'+i*10+9,none⟩=some (slice vta vtk vtc):=hc' 9 _ rfl;have k9:=(B2.q_ HB.out).cell (j:=4) rfl;have hkl:=(B2.q_ HB.out).lt;have hcl:=block_lt_of_cell? wr _ u0';replace hcl:b'<wr.heap.size:=hcl;have k95:(wr.alloc (cells #[.string z,.int .i64 i1,.bool s1,slice x1 n1 c1,slice y1 m1 d1,.int .i64 i2,.bool s2,slice x2 n2 c2,slice y2 m2 d2,slice ta tk tc] 62)).cell? ⟨w.heap.size+1,4,none⟩=some (slice (some ⟨b',o',none⟩) rk vrc):=kCa k9;have u05:(wr.alloc (cells #[.string z,.int .i64 i1,.bool s1,slice x1 n1 c1,slice y1 m1 d1,.int .i64 i2,.bool s2,slice x2 n2 c2,slice y2 m2 d2,slice ta tk tc] 62)).cell? ⟨b',o'+i*10,none⟩=some (.string vz):=kCa u0';have u15:(wr.alloc (cells #[.string z,.int .i64 i1,.bool s1,slice x1 n1 c1,slice y1 m1 d1,.int .i64 i2,.bool s2,slice x2 n2 c2,slice y2 m2 d2,slice ta tk tc] 62)).cell? ⟨b',o'+i*10+1,none⟩=some (.int .i64 vi1):=kCa u1';have u25:(wr.alloc (cells #[.string z,.int .i64 i1,.bool s1,slice x1 n1 c1,slice y1 m1 d1,.int .i64 i2,.bool s2,slice x2 n2 c2,slice y2 m2 d2,slice ta tk tc] 62)).cell? ⟨b',o'+i*10+2,none⟩=some (.bool vs1):=kCa u2';have u35:(wr.alloc (cells #[.string z,.int .i64 i1,.bool s1,slice x1 n1 c1,slice y1 m1 d1,.int .i64 i2,.bool s2,slice x2 n2 c2,slice y2 m2 d2,slice ta tk tc] 62)).cell? ⟨b',o'+i*10+3,none⟩=some (slice vx1 vn1 vc1):=kCa u3';have u45:(wr.alloc (cells #[.string z,.int .i64 i1,.bool s1,slice x1 n1 c1,slice y1 m1 d1,.int .i64 i2,.bool s2,slice x2 n2 c2,slice y2 m2 d2,slice ta tk tc] 62)).cell? ⟨b',o'+i*10+4,none⟩=some (slice vy1 vm1 vd1):=kCa u4';have u55:(wr.alloc (cells #[.string z,.int .i64 i1,.bool s1,slice x1 n1 c1,slice y1 m1 d1,.int .i64 i2,.bool s2,slice x2 n2 c2,slice y2 m2 d2,slice ta tk tc] 62)).cell? ⟨b',o'+i*10+5,none⟩=some (.int .i64 vi2):=kCa u5';have u65:(wr.alloc (cells #[.string z,.int .i64 i1,.bool s1,slice x1 n1 c1,slice y1 m1 d1,.int .i64 i2,.bool s2,slice x2 n2 c2,slice y2 m2 d2,slice ta tk tc] 62)).cell? ⟨b',o'+i*10+6,none⟩=some (.bool vs2):=kCa u6';have u75:(wr.alloc (cells #[.string z,.int .i64 i1,.bool s1,slice x1 n1 c1,slice y1 m1 d1,.int .i64 i2,.bool s2,slice x2 n2 c2,slice y2 m2 d2,slice ta tk tc] 62)).cell? ⟨b',o'+i*10+7,none⟩=some (slice vx2 vn2 vc2):=kCa u7';have u85:(wr.alloc (cells #[.string z,.int .i64 i1,.bool s1,slice x1 n1 c1,slice y1 m1 d1,.int .i64 i2,.bool s2,slice x2 n2 c2,slice y2 m2 d2,slice ta tk tc] 62)).cell? ⟨b',o'+i*10+8,none⟩=some (slice vy2 vm2 vd2):=kCa u8';have u95:(wr.alloc (cells #[.string z,.int .i64 i1,.bool s1,slice x1 n1 c1,slice y1 m1 d1,.int .i64 i2,.bool s2,slice x2 n2 c2,slice y2 m2 d2,slice ta tk tc] 62)).cell? ⟨b',o'+i*10+9,none⟩=some (slice vta vtk vtc):=kCa u9';have i1':((i:Nat):Int)<((rk:Nat):Int):=by omega
     have HRR:=zi hr2;have HT:=zi hT;clear hCi hCi' hc hc' hn hn' hr hr2 hT HI ht0 ht1 ht2;go_upto_region 14 with fail
     have h5:=zk (zk (Below.refl wr.heap.size wr) (cells #[.string z,.int .i64 i1,.bool s1,slice x1 n1 c1,slice y1 m1 d1,.int .i64 i2,.bool s2,slice x2 n2 c2,slice y2 m2 d2,slice ta tk tc] 62)) (cells #[.string vz,.int .i64 vi1,.bool vs1,slice vx1 vn1 vc1,slice vy1 vm1 vd1,.int .i64 vi2,.bool vs2,slice vx2 vn2 vc2,slice vy2 vm2 vd2,slice vta vtk vtc] 62);have D1:=(zI wr [.string z,.int .i64 i1,.bool s1,slice x1 n1 c1,slice y1 m1 d1,.int .i64 i2,.bool s2,slice x2 n2 c2,slice y2 m2 d2,slice ta tk tc] 62).q_ (zk (Below.refl _ _) (cells #[.string vz,.int .i64 vi1,.bool vs1,slice vx1 vn1 vc1,slice vy1 vm1 vd1,.int .i64 vi2,.bool vs2,slice vx2 vn2 vc2,slice vy2 vm2 vd2,slice vta vtk vtc] 62));have D2:=zI (wr.alloc (cells #[.string z,.int .i64 i1,.bool s1,slice x1 n1 c1,slice y1 m1 d1,.int .i64 i2,.bool s2,slice x2 n2 c2,slice y2 m2 d2,slice ta tk tc] 62)) [.string vz,.int .i64 vi1,.bool vs1,slice vx1 vn1 vc1,slice vy1 vm1 vd1,.int .i64 vi2,.bool vs2,slice vx2 vn2 vc2,slice vy2 vm2 vd2,slice vta vtk vtc] 62;rw[zv]at D2
     replace D1:Bk ((wr.alloc (cells #[.string z,.int .i64 i1,.bool s1,slice x1 n1 c1,slice y1 m1 d1,.int .i64 i2,.bool s2,slice x2 n2 c2,slice y2 m2 d2,slice ta tk tc] 62)).alloc (cells #[.string vz,.int .i64 vi1,.bool vs1,slice vx1 vn1 vc1,slice vy1 vm1 vd1,.int .i64 vi2,.bool vs2,slice vx2 vn2 vc2,slice vy2 vm2 vd2,slice vta vtk vtc] 62)) wr.heap.size [.string z,.int .i64 i1,.bool s1,slice x1 n1 c1,slice y1 m1 d1,.int .i64 i2,.bool s2,slice x2 n2 c2,slice y2 m2 d2,slice ta tk tc] 62:=D1;replace D2:Bk ((wr.alloc (cells #[.string z,.int .i64 i1,.bool s1,slice x1 n1 c1,slice y1 m1 d1,.int .i64 i2,.bool s2,slice x2 n2 c2,slice y2 m2 d2,slice ta tk tc] 62)).alloc (cells #[.string vz,.int .i64 vi1,.bool vs1,slice vx1 vn1 vc1,slice vy1 vm1 vd1,.int .i64 vi2,.bool vs2,slice vx2 vn2 vc2,slice vy2 vm2 vd2,slice vta vtk vtc] 62)) (wr.heap.size+1) [.string vz,.int .i64 vi1,.bool vs1,slice vx1 vn1 vc1,slice vy1 vm1 vd1,.int .i64 vi2,.bool vs2,slice vx2 vn2 vc2,slice vy2 vm2 vd2,slice vta vtk vtc] 62:=D2;clear p0 p1 p2 p3 p4 p5 p6 p7 p8 p9 u0' u1' u2' u3' u4' u5' u6' u7' u8' u9' u05 u15 u25 u35 u45 u55 u65 u75 u85 u95 k9 k95;generalize(wr.alloc (cells #[.string z,.int .i64 i1,.bool s1,slice x1 n1 c1,slice y1 m1 d1,.int .i64 i2,.bool s2,slice x2 n2 c2,slice y2 m2 d2,slice ta tk tc] 62)).alloc (cells #[.string vz,.int .i64 vi1,.bool vs1,slice vx1 vn1 vc1,slice vy1 vm1 vd1,.int .i64 vi2,.bool vs2,slice vx2 vn2 vc2,slice vy2 vm2 vd2,slice vta vtk vtc] 62)=w5 at *;obtain⟨a0,a1,a2,a3,a4,a5,a6,a7,a8,a9⟩:=zeR D1;obtain⟨b0,b1,b2,b3,b4,b5,b6,b7,b8,b9⟩:=zeR D2;by_cases hz:z=vz
     case neg =>
      have hne:=zkK hz;have HF:=zi (show an=false from by rw[HT.out];simp[hz]);go_wp2;go_ret;exact⟨by rw[HF.out];rfl,HW2.out.trans ((HB.out.trans ((h5).mono HB.out.size)).mono HW2.out.size)⟩
     subst hz;replace HT:=zi (show an=((t0 && (t1 && t2)) && eqf srB R vR r (i+1))from by rw[HT.out];simp);go_wp2_with fail
     refine(C0.out _ h5).mono ?_;rintro e w6 ⟨rfl,hb6⟩;have h51:=zi (h5.trans (hb6.mono h5.size));replace D1:=D1.q_ hb6;replace D2:=D2.q_ hb6
     clear a0 a1 a2 a3 a4 a5 a6 a7 a8 a9 b0 b1 b2 b3 b4 b5 b6 b7 b8 b9 C0 hb6;cases t0
     ·have HF:=zi (show an=false from by rw[HT.out];simp);go_wp2;go_ret;exact⟨by rw[HF.out];rfl,HW2.out.trans ((HB.out.trans ((h51.out).mono HB.out.size)).mono HW2.out.size)⟩
     obtain⟨a0,a1,a2,a3,a4,a5,a6,a7,a8,a9⟩:=zeR D1;obtain⟨b0,b1,b2,b3,b4,b5,b6,b7,b8,b9⟩:=zeR D2;go_wp2_with fail
     refine(C1.out _ h51.out).mono ?_;rintro e w7 ⟨rfl,hb7⟩;have h52:=zi (h51.out.trans (hb7.mono h51.out.size));replace D1:=D1.q_ hb7;replace D2:=D2.q_ hb7
     clear a0 a1 a2 a3 a4 a5 a6 a7 a8 a9 b0 b1 b2 b3 b4 b5 b6 b7 b8 b9 C1 hb7;cases t1
     ·have HF:=zi (show an=false from by rw[HT.out];simp);go_wp2;go_ret;exact⟨by rw[HF.out];rfl,HW2.out.trans ((HB.out.trans ((h52.out).mono HB.out.size)).mono HW2.out.size)⟩
     obtain⟨a0,a1,a2,a3,a4,a5,a6,a7,a8,a9⟩:=zeR D1;obtain⟨b0,b1,b2,b3,b4,b5,b6,b7,b8,b9⟩:=zeR D2;go_wp2_with fail
     refine(C2.out _ h52.out).mono ?_;rintro e w8 ⟨rfl,hb8⟩;have h53:=zi (h52.out.trans (hb8.mono h52.out.size));replace D1:=D1.q_ hb8;replace D2:=D2.q_ hb8
     clear a0 a1 a2 a3 a4 a5 a6 a7 a8 a9 b0 b1 b2 b3 b4 b5 b6 b7 b8 b9 C2 hb8;cases t2
     ·have HF:=zi (show an=false from by rw[HT.out];simp);go_wp2;go_ret;exact⟨by rw[HF.out];rfl,HW2.out.trans ((HB.out.trans ((h53.out).mono HB.out.size)).mono HW2.out.size)⟩
     have HB9:=zi (HB.out.trans (h53.out.mono HB.out.size));go_wp2;go_roundw
     case rel=>exact⟨i+1,by omega,by go_num,HB9.out,by show _=_;rw[HT.out,HRR.out];simp⟩
     case measure=>simp[intOf];omega
    ·have e3:i=rk:=by omega
     have i2:¬(((i:Nat):Int)<((rk:Nat):Int)):=by omega
     have HT:=zi (show an=true from by rw[HI.out,e3,Nat.sub_self];rfl);have HW3:=zi (HW2.out.trans (HB.out.mono HW2.out.size));clear e3 HI HB;go_wp2;go_ret;exact⟨by rw[HT.out];rfl,HW3.out⟩
structure zqU (w:World) (M:Mo) (ax:Option Addr) (kx:Nat) (Y:Nat->Nm) (ao:Option Addr) (ko:Nat) (X:Nat->Nm) (t:Nm):Prop where
 x:MoX w M
 n:MoN M
 k:M.ck<=64->M.rk<=64->MoK 8 M
 hy:Rl w ax kx Y
 hx:Rl w ao ko X
 sy:ShK 8 kx Y
 sx:ShK 8 ko X
 ht:Rw w t.x t.n t.c t.f t.y t.m t.d t.g
 lt:t.n<=8/\t.m<=8
theorem zeH {t kx Y k X} (h0:alE t kx Y k X=0):nfB t=true/\afB kx Y=true/\afB k X=true/\k=kx:=by
 rw[zmt]at h0
 split at h0
 ·rename_i h;simp only[Bool.and_eq_true]at h
  split at h0
  ·rename_i h2;exact⟨h.2.2,h.1,h.2.1,h2⟩
  ·exact absurd h0 (by decide)
 ·exact absurd h0 (by decide)
theorem zhY {w ax kx capx Y Y' ao k cap X X' t t'} (hy:Tx w ax kx Y Y') (hsy:ShK 8 kx Y) (hx:Tx w ao k X X') (hs:ShK 8 k X) (ht:Rw w t'.x t'.n t'.c t'.f t'.y t'.m t'.d t'.g) (hn:Sn t t') (hl:t.n<=8/\t.m<=8) :
  Calls prog 13 #[agg #[slice ax kx capx,slice ao k cap],agg #[.bool t'.s,slice t'.x t'.n t'.c,slice t'.y t'.m t'.d]] w λe w'=>zmL 8 w w' e (alE t kx Y k X) kx (zbW kx Y) (zbW k X) (nq t):=by
 have e1:afB kx Y'=afB kx Y:=zdm (λj _ b=>hy.2 j (by omega));have e2:afB k X'=afB k X:=zdm (λj _ b=>hx.2 j (by omega));have hl':t'.n<=8/\t'.m<=8:=by rw[hn.2.1,hn.2.2.2.1];exact hl
 have hts:NmS w t':=⟨ht,by omega,by omega⟩;refine zlk (L:=8) hy.1 hx.1 hts (by have:=hsy.1;omega) (by have:=hs.1;omega) ?_ (λh0=>?_) (by decide)
 ·show alE t' kx Y' k X'=alE t kx Y k X;unfold alE pnE;rw[e1,e2,show afB 1 (λ_=>t')=afB 1 (λ_=>t)from zdm (λj _ _=>hn)]
 ·obtain⟨h1,h2,h3,h4⟩:=zeH h0;refine⟨hy.valK hsy h2,zaY _ _,hx.valK hs h3,zaY _ _,h4,?_⟩;have:=NmS.val (K:=8) hts (by rw[hn.nfB];exact h1) hl';rw[hn.nq]at this
  exact this
theorem zlJ {w M M'} (h:TmK 8 w M M') (hX:MoX w M):Calls prog 16 #[M'.val,M.val] w λe w'=>e=.returned (.bool true)/\Bl w w' :=
 (znE h.2.2.1 hX).mono λe w' h1=>⟨by rw[h1.1,h.1.same],h1.2⟩
theorem zhx {w M ax kx cx Y ao ko co X ts tx tn tc tf ty tm td tg} (hX:MoX w M) (hN:MoN M) (hy:Rr w ax kx Y) (hx:Rr w ao ko X) (hkx:kx<=9223372036854775807) (hko:ko<=9223372036854775807) (ht:Rw w tx tn tc tf ty tm td tg) :
  Calls prog 3 #[M.val,agg #[slice ax kx cx,slice ao ko co],agg #[.bool ts,slice tx tn tc,slice ty tm td]] w λe w'=>e=.returned (.bool true)/\Bl w w':=by
 obtain⟨lb,hlb⟩:∃t,lgM 8 M=t:=⟨_,rfl⟩;obtain⟨la,hla⟩:∃t,(lgL 8 kx Y && lgL 8 ko X)=t:=⟨_,rfl⟩;obtain⟨lt,hlt⟩:∃t,lg tn tm 8=t:=⟨_,rfl⟩;have CL:=zi (λw' (hw:Bl w w')=>zlK (w:=w') (K:=8) (hX.q_ hw).light.1 (hX.q_ hw).light.2);rw[hlb]at CL
 have CA:=zi (λw' (hw:Bl w w')=>zjO (capx:=cx) (cap:=co) 8 (hy.q_ hw) (hx.q_ hw) hkx hko);rw[hla]at CA
 have CT:=zi (λw'=>zaD 8 ts tx ty tn tc tm td w');rw[hlt]at CT
 obtain⟨N,hN'⟩:∃N,N=M:=⟨_,rfl⟩;have HC:Hid (lb=true->la=true->lt=true->zqU w N ax kx Y ao ko X ⟨ts,tx,tn,tc,tf,ty,tm,td,tg⟩):=λe1 e2 e3=>by
  subst hN';subst e1;subst e2;subst e3
  simp only[Bool.and_eq_true]at hla;have q1:=hla.1;have q2:=hla.2
  simp only[lg,Bool.and_eq_true,decide_eq_true_eq]at hlt;refine⟨hX,hN,zqd hlb,?_,?_,ziM q1,ziM q2,ht,hlt⟩
  ·simp only[lgL,Bool.and_eq_true]at q1;exact hy.rl q1.2 (by decide)
  ·simp only[lgL,Bool.and_eq_true]at q2;exact hx.rl q2.2 (by decide)
 clear hX hN hy hx ht hlb hla hlt hkx hko;obtain⟨⟨s,x,n,c,f,y,m,d,g⟩,ca,ck,cc,C,ra,rk,rc,R⟩:=M;have hNv:Hid (N.val=agg #[.bool s,slice x n c,slice y m d,slice ca ck cc,slice ra rk rc]):=by rw[hN'];exact rfl
 clear hN';replace CL:Hid (∀w',Bl w w'->Calls prog 5 #[agg #[.bool s,slice x n c,slice y m d,slice ca ck cc,slice ra rk rc],.int .i64 8] w' λe w2=>e=.returned (.bool lb)/\Bl w' w2):=CL;replace CA:Hid (∀w',Bl w w'->Calls prog 6 #[agg #[slice ax kx cx,slice ao ko co],.int .i64 8] w' λe w2=>e=.returned (.bool la)/\Bl w' w2):=CA;replace CT:Hid (∀w',Calls prog 7 #[agg #[.bool ts,slice tx tn tc,slice ty tm td],.int .i64 8] w' λe w2=>e=.returned (.bool lt)/\Bl w' w2):=CT;show Calls prog 3 #[agg #[.bool s,slice x n c,slice y m d,slice ca ck cc,slice ra rk rc],agg #[slice ax kx cx,slice ao ko co],agg #[.bool ts,slice tx tn tc,slice ty tm td]] w _;have HB:=zi (zk (zk (zE w (cells #[.bool s,slice x n c,slice y m d,slice ca ck cc,slice ra rk rc] 28)) (cells #[slice ax kx cx,slice ao ko co] 31)) (cells #[.bool ts,slice tx tn tc,slice ty tm td] 24));have BM:=zi (((zI w [.bool s,slice x n c,slice y m d,slice ca ck cc,slice ra rk rc] 28).q_ (zE _ (cells #[slice ax kx cx,slice ao ko co] 31))).q_ (zE _ (cells #[.bool ts,slice tx tn tc,slice ty tm td] 24)));have BA:=zi ((zeB w (cells #[.bool s,slice x n c,slice y m d,slice ca ck cc,slice ra rk rc] 28) [slice ax kx cx,slice ao ko co] 31).q_ (zE _ (cells #[.bool ts,slice tx tn tc,slice ty tm td] 24)));have BB:Hid (Bk (((w.alloc (cells #[.bool s,slice x n c,slice y m d,slice ca ck cc,slice ra rk rc] 28)).alloc (cells #[slice ax kx cx,slice ao ko co] 31)).alloc (cells #[.bool ts,slice tx tn tc,slice ty tm td] 24)) (w.heap.size+1+1) [.bool ts,slice tx tn tc,slice ty tm td] 24):=by
  have:=zI ((w.alloc (cells #[.bool s,slice x n c,slice y m d,slice ca ck cc,slice ra rk rc] 28)).alloc (cells #[slice ax kx cx,slice ao ko co] 31)) [.bool ts,slice tx tn tc,slice ty tm td] 24;rw[zv,zv]at this;exact this
 go_enter func3,ntmps3;go_wp2_with fail
 generalize(((w.alloc (cells #[.bool s,slice x n c,slice y m d,slice ca ck cc,slice ra rk rc] 28)).alloc (cells #[slice ax kx cx,slice ao ko co] 31)).alloc (cells #[.bool ts,slice tx tn tc,slice ty tm td] 24))=v0 at *;refine(zke _).mono ?_;rintro e v1 ⟨rfl,hb⟩;replace HB:=zM HB hb;replace BM:=zi (BM.out.q_ hb);replace BA:=zi (BA.out.q_ hb);replace BB:=zi (BB.out.q_ hb)
 clear hb;obtain⟨r0,r1,r2,r3,r4⟩:=bk5 BM.out;go_wp2_with fail
 clear r0 r1 r2 r3 r4;refine(CL.out _ HB.out).mono ?_;rintro e v2 ⟨rfl,hb⟩;replace HB:=zM HB hb;replace BM:=zi (BM.out.q_ hb);replace BA:=zi (BA.out.q_ hb);replace BB:=zi (BB.out.q_ hb)
 clear hb;clear CL;cases lb
 ·go_wp2;go_ret;exact⟨rfl,HB.out⟩
 obtain⟨a0,a1⟩:=bk2 BA.out;go_wp2_with fail
 clear a0 a1;refine(CA.out _ HB.out).mono ?_;rintro e v3 ⟨rfl,hb⟩;replace HB:=zM HB hb;replace BM:=zi (BM.out.q_ hb);replace BA:=zi (BA.out.q_ hb);replace BB:=zi (BB.out.q_ hb)
 clear hb;clear CA;cases la
 ·go_wp2;go_ret;exact⟨rfl,HB.out⟩
 obtain⟨b0,b1,b2⟩:=bk3 BB.out;go_wp2_with fail
 clear b0 b1 b2;refine(CT.out _).mono ?_;rintro e v4 ⟨rfl,hb⟩;replace HB:=zM HB hb;replace BM:=zi (BM.out.q_ hb);replace BA:=zi (BA.out.q_ hb);replace BB:=zi (BB.out.q_ hb)
 clear hb;clear CT;cases lt
 ·go_wp2;go_ret;exact⟨rfl,HB.out⟩
 replace HC:=zi (HC.out (by first|rfl|trivial) (by first|rfl|trivial) (by first|rfl|trivial));have T1:Hid (∀W,Bl w W->Calls prog 8 #[agg #[.bool s,slice x n c,slice y m d,slice ca ck cc,slice ra rk rc]] W λe w'=>∃(vm:Value) (M':Mo),e=.returned vm/\Bl W w'/\Hid (vm=M'.val/\TmK 8 w' N M')):=λW hW=>by
  have:=zjw (K:=8) (HC.out.x.q_ hW) HC.out.n HC.out.k (by decide);rw[hNv.out]at this
  exact this
 have T2:=zi (λW (hW:Bl w W)=>zhn (K:=8) (capx:=cx) (cap:=co) (HC.out.hy.q_ hW) HC.out.sy (HC.out.hx.q_ hW) HC.out.sx (by decide));have T3:Hid (∀W,Bl w W->Calls prog 10 #[agg #[.bool ts,slice tx tn tc,slice ty tm td]] W λe w'=>∃v,e=.returned v/\Bl W w'/\GNt ⟨ts,tx,tn,tc,tf,ty,tm,td,tg⟩ v w'):=λW hW=>by
  refine(zci (s:=ts) (HC.out.ht.q_ hW) (le_trans HC.out.lt.1 (by decide)) (le_trans HC.out.lt.2 (by decide))).mono ?_;rintro e w6 ⟨z6,c6,z7,c7,rfl,hb6,HQ⟩;exact⟨_,rfl,hb6,⟨ts,z6,tn,c6,tf,z7,tm,c7,tg⟩,rfl,⟨rfl,rfl,rfl,rfl,rfl⟩,HQ.out⟩
 obtain⟨vl,hvl⟩:∃e,vlM N kx Y ko X=e:=⟨_,rfl⟩;obtain⟨rcv,hrc⟩:∃e,rcM N ko X=e:=⟨_,rfl⟩;obtain⟨ce,hce⟩:∃e,zaH N=e:=⟨_,rfl⟩;obtain⟨er,her⟩:∃e,alE ⟨ts,tx,tn,tc,tf,ty,tm,td,tg⟩ kx Y ko X=e:=⟨_,rfl⟩;obtain⟨q,hq⟩:∃e,nq ⟨ts,tx,tn,tc,tf,ty,tm,td,tg⟩=e:=⟨_,rfl⟩;obtain⟨pl,hpl⟩:∃p,(if er=0 then zas (zbW kx Y) (zbW ko X) q else [])=p:=⟨_,rfl⟩;obtain⟨k,hk⟩:∃k,pl.length=k:=⟨_,rfl⟩;have hk3:k<=300:=by
  rw[<-hk,<-hpl]
  split
  ·rename_i h0;have hkk:=(zeH (her.trans h0)).2.2.2;rw[zeF (by rw[zaY,zaY,hkk]),zaY];exact HC.out.sy.1
  ·simp
 have VT:Hid (∀W vm M' b1 c1 Y1 b2 c2 X1,(vm=M'.val/\TmK 8 W N M')->(Tx W b1 kx Y Y1/\Tx W b2 ko X X1)->Calls prog 11 #[vm,agg #[slice b1 kx c1,slice b2 ko c2]] W λe w'=>e=.returned (.tuple #[.bool vl,.int .i64 ce])/\Bl W w'):=λW vm M' b1 c1 Y1 b2 c2 X1 h1 h2=>by
  have:=zhl (capx:=c1) (cap:=c2) h1.2 HC.out.n h2.1 HC.out.sy h2.2 HC.out.sx;rw[<-h1.1,hvl,hce]at this
  exact this
 have RC:Hid (∀W vm M' b2 c2 X1,(vm=M'.val/\TmK 8 W N M')->Tx W b2 ko X X1->Calls prog 12 #[vm,slice b2 ko c2] W λe w'=>e=.returned (.tuple #[.bool rcv,.int .i64 ce])/\Bl W w'):=λW vm M' b2 c2 X1 h1 h2=>by
  have:=zla (cap:=c2) h1.2 HC.out.n h2 HC.out.sx;rw[<-h1.1,hrc,hce]at this
  exact this
 have AL:Hid (∀W (t':Nm) b1 c1 Y1 b2 c2 X1,(Tx W b1 kx Y Y1/\Tx W b2 ko X X1)->(Sn ⟨ts,tx,tn,tc,tf,ty,tm,td,tg⟩ t'/\Rw W t'.x t'.n t'.c t'.f t'.y t'.m t'.d t'.g)->Calls prog 13 #[agg #[slice b1 kx c1,slice b2 ko c2],agg #[.bool t'.s,slice t'.x t'.n t'.c,slice t'.y t'.m t'.d]] W λe w'=>∃a c,e=.returned (.tuple #[slice a k c,.int .i64 er])/\Bl W w'/\Hid (GrO (KL 8) W.heap.size w' (slice a k c) pl)):=λW t' b1 c1 Y1 b2 c2 X1 h1 h2=>by
  have:=zhY (capx:=c1) (cap:=c2) h1.1 HC.out.sy h1.2 HC.out.sx h2.2 h2.1 HC.out.lt;rw[her,hq]at this
  refine this.mono ?_;rintro e w' ⟨hb,⟨h0,rfl⟩|⟨h0,a,c,rfl,_,hr⟩⟩
  ·rw[if_neg h0]at hpl
   subst hpl;subst hk
   exact⟨none,0,rfl,hb,zdW _ _ _⟩
  ·rw[if_pos h0]at hpl
   obtain⟨_,_,e1,_⟩:=hr.slice;rw[hpl,hk]at e1
   rw[hpl]at hr
   cases e1
   exact⟨a,c,by rw[h0],hb,hr⟩
 have DA:Hid (∀W,Bl w W->Calls prog 14 #[agg #[slice ax kx cx,slice ao ko co],agg #[.bool ts,slice tx tn tc,slice ty tm td]] W λe w'=>∃a c,e=.returned (.tuple #[slice a k c,.int .i64 er])/\Bl W w'/\Hid (GrO (KD 8) W.heap.size w' (slice a k c) pl)):=λW hW=>by
  have hts:NmS W ⟨ts,tx,tn,tc,tf,ty,tm,td,tg⟩:=⟨HC.out.ht.q_ hW,le_trans HC.out.lt.1 (by decide),le_trans HC.out.lt.2 (by decide)⟩;have l1:=HC.out.sy.1;have l2:=HC.out.sx.1;have l3:=HC.out.lt
  refine(zhO (L:=8) (xs:=zbW kx Y) (ds:=zbW ko X) (tq:=q) (HC.out.hy.q_ hW) (HC.out.hx.q_ hW) hts (by omega) (by omega) (λj hj=>by have:=HC.out.sy.2 j hj;omega) (λj hj=>by have:=HC.out.sx.2 j hj;omega) ⟨le_trans l3.1 (by decide),le_trans l3.2 (by decide)⟩ her (λh0=>?_) (by decide)).mono ?_
  ·obtain⟨h1,h2,h3,h4⟩:=zeH (her.trans h0);refine⟨(HC.out.hy.q_ hW).rfC h2 HC.out.sy.2,zaY _ _,(HC.out.hx.q_ hW).rfC h3 HC.out.sx.2,zaY _ _,h4,?_⟩;have:=NmS.val (K:=8) hts h1 l3;rw[hq]at this
   exact this
  ·rintro e w' ⟨hb,⟨h0,rfl⟩|⟨h0,a,c,rfl,_,hr⟩⟩
   ·rw[if_neg h0]at hpl
    subst hpl;subst hk
    exact⟨none,0,rfl,hb,zdW _ _ _⟩
   ·rw[if_pos h0]at hpl
    obtain⟨_,_,e1,_⟩:=hr.slice;rw[hpl,hk]at e1
    rw[hpl]at hr
    cases e1
    exact⟨a,c,by rw[h0],hb,hr⟩
 have SM:Hid (∀W vm M',Bl w W->(vm=M'.val/\TmK 8 W N M')->Calls prog 16 #[vm,agg #[.bool s,slice x n c,slice y m d,slice ca ck cc,slice ra rk rc]] W λe w'=>e=.returned (.bool true)/\Bl W w'):=λW vm M' hW h=>by
  have:=zlJ h.2 (HC.out.x.q_ hW);rw[<-h.1,hNv.out]at this
  exact this
 have SY:Hid (∀W b1 c1 Y1 b2 c2 X1,Bl w W->(Tx W b1 kx Y Y1/\Tx W b2 ko X X1)->Calls prog 17 #[agg #[slice b1 kx c1,slice b2 ko c2],agg #[slice ax kx cx,slice ao ko co]] W λe w'=>e=.returned (.bool true)/\Bl W w'):=λW b1 c1 Y1 b2 c2 X1 hW h=>zkW h.1 (HC.out.hy.q_ hW) h.2 (HC.out.hx.q_ hW) (by have:=HC.out.sy.1;omega) (by have:=HC.out.sx.1;omega)
 have ST:Hid (∀W (t':Nm),Bl w W->(Sn ⟨ts,tx,tn,tc,tf,ty,tm,td,tg⟩ t'/\Rw W t'.x t'.n t'.c t'.f t'.y t'.m t'.d t'.g)->Calls prog 18 #[agg #[.bool t'.s,slice t'.x t'.n t'.c,slice t'.y t'.m t'.d],agg #[.bool ts,slice tx tn tc,slice ty tm td]] W λe w'=>e=.returned (.bool true)/\Bl W w'):=λW t' hW h=>by
  have l3:=HC.out.lt;have:=ziB (w:=W) (a:=t') (b:=⟨ts,tx,tn,tc,tf,ty,tm,td,tg⟩) ⟨h.2,by rw[h.1.2.1];exact le_trans l3.1 (by decide),by rw[h.1.2.2.2.1];exact le_trans l3.2 (by decide)⟩ ⟨HC.out.ht.q_ hW,le_trans l3.1 (by decide),le_trans l3.2 (by decide)⟩;rw[h.1.sq]at this
  exact this
 have HNN:=zi HC.out.n;clear HC hNv hvl hrc hce her hq hpl;go_upto_region 5 with fail
 obtain⟨r0,r1,r2,r3,r4⟩:=bk5 BM.out;obtain⟨a0,a1⟩:=bk2 BA.out;obtain⟨t0,t1,t2⟩:=bk3 BB.out;have hbd:=Below.drew (Below.refl v4.heap.size v4);replace HB:=zM HB hbd;replace BM:=zi (BM.out.q_ hbd);replace BA:=zi (BA.out.q_ hbd);replace BB:=zi (BB.out.q_ hbd)
 clear hbd;refine wp_region_held_drew (S:=(λw'=>w'.cell? ⟨w.heap.size,0,none⟩=some (.bool s)/\w'.cell? ⟨w.heap.size,1,none⟩=some (slice x n c)/\w'.cell? ⟨w.heap.size,2,none⟩=some (slice y m d)/\w'.cell? ⟨w.heap.size,3,none⟩=some (slice ca ck cc)/\w'.cell? ⟨w.heap.size,4,none⟩=some (slice ra rk rc)/\w'.cell? ⟨w.heap.size+1,0,none⟩=some (slice ax kx cx)/\w'.cell? ⟨w.heap.size+1,1,none⟩=some (slice ao ko co)/\w'.cell? ⟨w.heap.size+1+1,0,none⟩=some (.bool ts)/\w'.cell? ⟨w.heap.size+1+1,1,none⟩=some (slice tx tn tc)/\w'.cell? ⟨w.heap.size+1+1,2,none⟩=some (slice ty tm td))) (by kernel_rfl) ?_ (λhHeld=>?_)
 ·exact⟨kCd r0,kCd r1,kCd r2,kCd r3,kCd r4,kCd a0,kCd a1,kCd t0,kCd t1,kCd t2⟩
 generalize v4.drew=wd at *;clear r0 r1 r2 r3 r4 a0 a1 t0 t1 t2;refine tkO 0 ?_;refine tkO 2 ?_;refine tkO 4 ?_;simp only[zA,Act.put];refine(show wpAnyH _ _ _ _ _ (6+3) _ _ _ from zfv (λj v w=>(match j with|1=>GTw 8 N v w|3=>GRy kx Y ko X v w|5=>GNt ⟨ts,tx,tn,tc,tf,ty,tm,td,tg⟩ v w|6=>GBx wd.heap.size [.bool false,slice none 0 0,slice none 0 0,slice none 0 0,slice none 0 0] 28 v w|7=>GBx wd.heap.size [slice none 0 0,slice none 0 0] 31 v w|8=>GBx wd.heap.size [.bool false,slice none 0 0,slice none 0 0] 24 v w|_=>True)/\MenB v w) (λ_ v w=>zpy v w) (λ_ _ v x=>zgk v x) [(1,33),(3,35),(5,37),(6,7),(7,8),(8,9)] [1,3,5,6,7,8] [9,10,11] _ _ _ 3 ?k1 ?k4 ?k2 ?k3 ?kr ?k5 ?k6 ?k8)
 case k1=>kernel_rfl
 case k4=>kernel_rfl
 case k2=>exact λw w' h hb=>⟨kCb hb h.1,kCb hb h.2.1,kCb hb h.2.2.1,kCb hb h.2.2.2.1,kCb hb h.2.2.2.2.1,kCb hb h.2.2.2.2.2.1,kCb hb h.2.2.2.2.2.2.1,kCb hb h.2.2.2.2.2.2.2.1,kCb hb h.2.2.2.2.2.2.2.2.1,kCb hb h.2.2.2.2.2.2.2.2.2⟩
 case kr=>exact λi j v x w h1 h2=>zqc h1 h2.2
 case k3 =>
  intro j v w w' h hb;obtain⟨h,hm⟩:=h;refine⟨?_,hm.q_ hb⟩
  split at h <;> first|exact GTw.q_ h hb|exact GRy.q_ h hb|exact GNt.q_ h hb|exact GBx.q_ h hb|exact h|trivial
 case k8=>exact hHeld
 case k5 =>
  intro i hi;simp only[List.mem_cons,List.not_mem_nil,or_false]at hi;rcases hi with rfl|rfl|rfl|rfl|rfl|rfl
  ·refine⟨_,rfl,λu w5 hS hb5 hd K hK=>?_⟩;have hw5:=bUp HB.out hb5;simp only[zaT,zA,Act.put]at hK ⊢;go_simp
   go_at_call 8
   refine(T1.out _ hw5).mono ?_;rintro e w6 ⟨vm,M',rfl,hb6,hh⟩
   (try go_wp2_with fail)
   have hvm:∀b,¬Men vm b:=λb=>by rw[hh.out.1];exact zlI (by simp)
   exact hK.out _ _ hb6 ⟨⟨M',hh.out.1,hh.out.2⟩,λb h=>absurd h (hvm b)⟩ (λb h=>absurd h (hvm b))
  ·refine⟨_,rfl,λu w5 hS hb5 hd K hK=>?_⟩;have hw5:=bUp HB.out hb5;simp only[zaT,zA,Act.put]at hK ⊢;go_simp
   go_at_call 9
   refine(T2.out _ hw5).mono ?_;rintro e w6 ⟨v,rfl,hb6,hh,hn⟩
   (try go_wp2_with fail)
   exact hK.out _ _ hb6 ⟨hh,hh.men⟩ hn
  ·refine⟨_,rfl,λu w5 hS hb5 hd K hK=>?_⟩;have hw5:=bUp HB.out hb5;simp only[zaT,zA,Act.put]at hK ⊢;go_simp
   go_at_call 10
   refine(T3.out _ hw5).mono ?_;rintro e w6 ⟨v,rfl,hb6,hh⟩
   (try go_wp2_with fail)
   have hvm:∀b,¬Men v b:=λb=>by obtain⟨t',rfl,_⟩:=hh;exact zlI (by simp)
   exact hK.out _ _ hb6 ⟨hh,λb h=>absurd h (hvm b)⟩ (λb h=>absurd h (hvm b))
  ·refine⟨_,rfl,λu w5 hS hb5 hd K hK=>?_⟩;have hw5:=bUp HB.out hb5;simp only[zaT,zA,Act.put]at hK ⊢;go_simp;exact hK.out _ _ (zE w5 _) ⟨⟨w5.heap.size,rfl,zI w5 [.bool false,slice none 0 0,slice none 0 0,slice none 0 0,slice none 0 0] 28,hb5.size⟩,λb h=>by have:=zfd h;subst this;simp⟩ (λb h=>by have:=zfd h;omega)
  ·refine⟨_,rfl,λu w5 hS hb5 hd K hK=>?_⟩;have hw5:=bUp HB.out hb5;simp only[zaT,zA,Act.put]at hK ⊢;go_simp;exact hK.out _ _ (zE w5 _) ⟨⟨w5.heap.size,rfl,zI w5 [slice none 0 0,slice none 0 0] 31,hb5.size⟩,λb h=>by have:=zfd h;subst this;simp⟩ (λb h=>by have:=zfd h;omega)
  ·refine⟨_,rfl,λu w5 hS hb5 hd K hK=>?_⟩;have hw5:=bUp HB.out hb5;simp only[zaT,zA,Act.put]at hK ⊢;go_simp;exact hK.out _ _ (zE w5 _) ⟨⟨w5.heap.size,rfl,zI w5 [.bool false,slice none 0 0,slice none 0 0] 24,hb5.size⟩,λb h=>by have:=zfd h;subst this;simp⟩ (λb h=>by have:=zfd h;omega)
 case k6 =>
  intro u w6 hS6 hb6 hg hR;have h1:GTw 8 N (u 1) w6:=(hg 1 (by simp)).1;have h3:GRy kx Y ko X (u 3) w6:=(hg 3 (by simp)).1;have h5:GNt ⟨ts,tx,tn,tc,tf,ty,tm,td,tg⟩ (u 5) w6:=(hg 5 (by simp)).1;have h6:GBx wd.heap.size [.bool false,slice none 0 0,slice none 0 0,slice none 0 0,slice none 0 0] 28 (u 6) w6:=(hg 6 (by simp)).1;have h7:GBx wd.heap.size [slice none 0 0,slice none 0 0] 31 (u 7) w6:=(hg 7 (by simp)).1;have h8:GBx wd.heap.size [.bool false,slice none 0 0,slice none 0 0] 24 (u 8) w6:=(hg 8 (by simp)).1;have hr63:zgk (u 6) (u 3):=hR 6 3 (by simp) (by simp) (by decide);have hr73:zgk (u 7) (u 3):=hR 7 3 (by simp) (by simp) (by decide);have hr83:zgk (u 8) (u 3):=hR 8 3 (by simp) (by simp) (by decide);have hr67:zgk (u 6) (u 7):=hR 6 7 (by simp) (by simp) (by decide);have hr68:zgk (u 6) (u 8):=hR 6 8 (by simp) (by simp) (by decide);have hr78:zgk (u 7) (u 8):=hR 7 8 (by simp) (by simp) (by decide);clear hg hR;obtain⟨M',e1,hT⟩:=h1;obtain⟨b1,c1,Y1,b2,c2,X1,e3,hY,hX⟩:=h3;obtain⟨⟨us,ux,un,uc,uf,uy,um,ud,ug⟩,e5,hsn,hN⟩:=h5;obtain⟨p6,e6,hB6,hg6⟩:=h6;obtain⟨p7,e7,hB7,hg7⟩:=h7;obtain⟨p8,e8,hB8,hg8⟩:=h8;rw[e6,e3]at hr63
  rw[e7,e3]at hr73
  rw[e8,e3]at hr83
  rw[e6,e7]at hr67
  rw[e6,e8]at hr68
  rw[e7,e8]at hr78
  have n67:p6≠p7:=λe=>hr67 p6 (.inl ⟨_,_,rfl⟩) (.inl ⟨_,_,by rw[e]⟩)
  have n68:p6≠p8:=λe=>hr68 p6 (.inl ⟨_,_,rfl⟩) (.inl ⟨_,_,by rw[e]⟩)
  have n78:p7≠p8:=λe=>hr78 p7 (.inl ⟨_,_,rfl⟩) (.inl ⟨_,_,by rw[e]⟩)
  have y6:kx≠0->∀o s,b1≠some ⟨p6,o,s⟩:=λh o s e=>hr63 p6 (.inl ⟨_,_,rfl⟩) (.inr ⟨_,_,_,_,_,_,o,s,rfl,.inl ⟨h,e⟩⟩)
  have x6:ko≠0->∀o s,b2≠some ⟨p6,o,s⟩:=λh o s e=>hr63 p6 (.inl ⟨_,_,rfl⟩) (.inr ⟨_,_,_,_,_,_,o,s,rfl,.inr ⟨h,e⟩⟩)
  have y7:kx≠0->∀o s,b1≠some ⟨p7,o,s⟩:=λh o s e=>hr73 p7 (.inl ⟨_,_,rfl⟩) (.inr ⟨_,_,_,_,_,_,o,s,rfl,.inl ⟨h,e⟩⟩)
  have x7:ko≠0->∀o s,b2≠some ⟨p7,o,s⟩:=λh o s e=>hr73 p7 (.inl ⟨_,_,rfl⟩) (.inr ⟨_,_,_,_,_,_,o,s,rfl,.inr ⟨h,e⟩⟩)
  have y8:kx≠0->∀o s,b1≠some ⟨p8,o,s⟩:=λh o s e=>hr83 p8 (.inl ⟨_,_,rfl⟩) (.inr ⟨_,_,_,_,_,_,o,s,rfl,.inl ⟨h,e⟩⟩)
  have x8:ko≠0->∀o s,b2≠some ⟨p8,o,s⟩:=λh o s e=>hr83 p8 (.inl ⟨_,_,rfl⟩) (.inr ⟨_,_,_,_,_,_,o,s,rfl,.inr ⟨h,e⟩⟩)
  clear hr63 hr73 hr83 hr67 hr68 hr78;obtain⟨⟨ms,mx,mn,mc,mf,my,mm,md,mg⟩,mca,mck,mcc,mC,mra,mrk,mrc,mR⟩:=M';replace e1:u 1=agg #[.bool ms,slice mx mn mc,slice my mm md,slice mca mck mcc,slice mra mrk mrc]:=e1;obtain⟨N',hN'⟩:∃N',N'=(⟨⟨ms,mx,mn,mc,mf,my,mm,md,mg⟩,mca,mck,mcc,mC,mra,mrk,mrc,mR⟩:Mo):=⟨_,rfl⟩;have HNv:Hid (agg #[.bool ms,slice mx mn mc,slice my mm md,slice mca mck mcc,slice mra mrk mrc]=N'.val):=by rw[hN'];exact rfl
  rw[<-hN']at hT
  clear hN';replace e5:u 5=agg #[.bool us,slice ux un uc,slice uy um ud]:=e5;replace hN:Rw w6 ux un uc uf uy um ud ug:=hN;simp only[zaT,zA,Act.put];simp only[e1,e3,e5,e6,e7,e8];clear e1 e3 e5 e6 e7 e8;refine rdO 9 (λK hK=>?_);obtain⟨l6_0,l6_1,l6_2,l6_3,l6_4⟩:=bk5 hB6;have ff6:=hB6.frozen;go_simp;obtain⟨hx1,hx2,hx3⟩:=zfC [.bool ms,slice mx mn mc,slice my mm md,slice mca mck mcc,slice mra mrk mrc] hB6 (zW (λu hu q=>by simp at hu;rcases hu with rfl|rfl <;> simp)) hb6 hg6;have hb9:=zfB [.bool ms,slice mx mn mc,slice my mm md,slice mca mck mcc,slice mra mrk mrc] [.bool false,slice none 0 0,slice none 0 0,slice none 0 0,slice none 0 0] 0 _ rfl hB6;have no:=(zhX hB6 (λv hv=>by simp at hv;rcases hv with rfl|rfl <;> exact⟨λs h=>(by cases h),λk z h=>(by cases h)⟩));simp only[stl,List.take_zero,List.nil_append]at hx1 hx2 hx3 hb9;generalize(((((w6.setCell ⟨p6,0,none⟩ (.bool ms)).setCell ⟨p6,1,none⟩ (slice mx mn mc)).setCell ⟨p6,2,none⟩ (slice my mm md)).setCell ⟨p6,3,none⟩ (slice mca mck mcc)).setCell ⟨p6,4,none⟩ (slice mra mrk mrc))=z1 at *;have hT2:=hT.kp HNN.out (by decide) hx2 hx3 no;have hY2:=hY.ne hx2 hx3 y6;have hX2:=hX.ne hx2 hx3 x6;have hN2:=hN.kp hx2;have hB72:=hB7.of (hx3 p7 (Ne.symm n67));have hB82:=hB8.of (hx3 p8 (Ne.symm n68));clear hx2 hx3 no x6 y6;replace hT:=hT2;replace hY:=hY2;replace hX:=hX2;replace hN:=hN2;replace hB6:=hb9;replace hB7:=hB72;replace hB8:=hB82
  clear hT2 hY2 hX2 hN2 hb9 hB72 hB82;clear l6_0 l6_1 l6_2 l6_3 l6_4 ff6;have hy1:=hx1;clear hx1;refine hK.out _ _ ?_ (λhHd1=>?_)
  ·exact⟨kCb hy1 hHeld.1,kCb hy1 hHeld.2.1,kCb hy1 hHeld.2.2.1,kCb hy1 hHeld.2.2.2.1,kCb hy1 hHeld.2.2.2.2.1,kCb hy1 hHeld.2.2.2.2.2.1,kCb hy1 hHeld.2.2.2.2.2.2.1,kCb hy1 hHeld.2.2.2.2.2.2.2.1,kCb hy1 hHeld.2.2.2.2.2.2.2.2.1,kCb hy1 hHeld.2.2.2.2.2.2.2.2.2⟩
  clear hK K;try simp only[zA,Act.put]
  refine rdO 10 (λK hK=>?_);obtain⟨l7_0,l7_1⟩:=bk2 hB7;have ff7:=hB7.frozen;go_simp;obtain⟨hx1,hx2,hx3⟩:=zfC [slice b1 kx c1,slice b2 ko c2] hB7 (zW (λu hu q=>by simp at hu;rcases hu with rfl <;> simp)) hy1 hg7;have hb9:=zfB [slice b1 kx c1,slice b2 ko c2] [slice none 0 0,slice none 0 0] 0 _ rfl hB7;have no:=(zhX hB7 (λv hv=>by simp at hv;rcases hv with rfl <;> exact⟨λs h=>(by cases h),λk z h=>(by cases h)⟩));simp only[stl,List.take_zero,List.nil_append]at hx1 hx2 hx3 hb9;generalize((z1.setCell ⟨p7,0,none⟩ (slice b1 kx c1)).setCell ⟨p7,1,none⟩ (slice b2 ko c2))=z2 at *;have hT2:=hT.kp HNN.out (by decide) hx2 hx3 no;have hY2:=hY.ne hx2 hx3 y7;have hX2:=hX.ne hx2 hx3 x7;have hN2:=hN.kp hx2;have hB62:=hB6.of (hx3 p6 n67);have hB82:=hB8.of (hx3 p8 (Ne.symm n78));clear hx2 hx3 no x7 y7;replace hT:=hT2;replace hY:=hY2;replace hX:=hX2;replace hN:=hN2;replace hB7:=hb9;replace hB6:=hB62;replace hB8:=hB82
  clear hT2 hY2 hX2 hN2 hb9 hB62 hB82;clear l7_0 l7_1 ff7;clear hHd1;replace hy1:=hx1;clear hx1;refine hK.out _ _ ?_ (λhHd1=>?_)
  ·exact⟨kCb hy1 hHeld.1,kCb hy1 hHeld.2.1,kCb hy1 hHeld.2.2.1,kCb hy1 hHeld.2.2.2.1,kCb hy1 hHeld.2.2.2.2.1,kCb hy1 hHeld.2.2.2.2.2.1,kCb hy1 hHeld.2.2.2.2.2.2.1,kCb hy1 hHeld.2.2.2.2.2.2.2.1,kCb hy1 hHeld.2.2.2.2.2.2.2.2.1,kCb hy1 hHeld.2.2.2.2.2.2.2.2.2⟩
  clear hK K;try simp only[zA,Act.put]
  refine rdO 11 (λK hK=>?_);obtain⟨l8_0,l8_1,l8_2⟩:=bk3 hB8;have ff8:=hB8.frozen;go_simp;obtain⟨hx1,hx2,hx3⟩:=zfC [.bool us,slice ux un uc,slice uy um ud] hB8 (zW (λu hu q=>by simp at hu;rcases hu with rfl|rfl <;> simp)) hy1 hg8;have hb9:=zfB [.bool us,slice ux un uc,slice uy um ud] [.bool false,slice none 0 0,slice none 0 0] 0 _ rfl hB8;have no:=(zhX hB8 (λv hv=>by simp at hv;rcases hv with rfl|rfl <;> exact⟨λs h=>(by cases h),λk z h=>(by cases h)⟩));simp only[stl,List.take_zero,List.nil_append]at hx1 hx2 hx3 hb9;generalize(((z2.setCell ⟨p8,0,none⟩ (.bool us)).setCell ⟨p8,1,none⟩ (slice ux un uc)).setCell ⟨p8,2,none⟩ (slice uy um ud))=z3 at *;have hT2:=hT.kp HNN.out (by decide) hx2 hx3 no;have hY2:=hY.ne hx2 hx3 y8;have hX2:=hX.ne hx2 hx3 x8;have hN2:=hN.kp hx2;have hB62:=hB6.of (hx3 p6 n68);have hB72:=hB7.of (hx3 p7 n78);clear hx2 hx3 no x8 y8;replace hT:=hT2;replace hY:=hY2;replace hX:=hX2;replace hN:=hN2;replace hB8:=hb9;replace hB6:=hB62;replace hB7:=hB72
  clear hT2 hY2 hX2 hN2 hb9 hB62 hB72;clear l8_0 l8_1 l8_2 ff8;clear hHd1;replace hy1:=hx1;clear hx1;refine hK.out _ _ ?_ (λhHd1=>?_)
  ·exact⟨kCb hy1 hHeld.1,kCb hy1 hHeld.2.1,kCb hy1 hHeld.2.2.1,kCb hy1 hHeld.2.2.2.1,kCb hy1 hHeld.2.2.2.2.1,kCb hy1 hHeld.2.2.2.2.2.1,kCb hy1 hHeld.2.2.2.2.2.2.1,kCb hy1 hHeld.2.2.2.2.2.2.2.1,kCb hy1 hHeld.2.2.2.2.2.2.2.2.1,kCb hy1 hHeld.2.2.2.2.2.2.2.2.2⟩
  clear hK K;try simp only[zA,Act.put]
  refine dnO ?_;replace HB:=zM HB hy1;replace BM:=zi (BM.out.q_ hy1);replace BA:=zi (BA.out.q_ hy1);replace BB:=zi (BB.out.q_ hy1)
  clear hy1;have HT:=zi hT;have HY:=zi hY;have HX:=zi hX;have HN:=zi hN;have B6:=zi hB6;have B7:=zi hB7;have B8:=zi hB8;have HSn:=zi hsn
  clear hHd1 hHeld hS6 hb6 hT hY hX hN hB6 hB7 hB8 hg6 hg7 hg8 n67 n68 n78 T1 T2 T3 hsn;obtain⟨m0,m1,m2,m3,m4⟩:=bk5 B6.out;obtain⟨n0,n1⟩:=bk2 B7.out;go_wp2_with fail
  clear m0 m1 m2 m3 m4 n0 n1;refine(VT.out _ _ N' _ _ _ _ _ _ ⟨HNv.out,HT.out⟩ ⟨HY.out,HX.out⟩).mono ?_;rintro e v5 ⟨rfl,hb⟩;replace HB:=zM HB hb;replace BM:=zi (BM.out.q_ hb);replace BA:=zi (BA.out.q_ hb);replace BB:=zi (BB.out.q_ hb);replace HT:=zi (HT.out.q_ hb);replace HY:=zi (HY.out.q_ hb);replace HX:=zi (HX.out.q_ hb);replace HN:=zi (HN.out.q_ hb);replace B6:=zi (B6.out.q_ hb);replace B7:=zi (B7.out.q_ hb);replace B8:=zi (B8.out.q_ hb)
  clear hb;clear VT;obtain⟨m0,m1,m2,m3,m4⟩:=bk5 B6.out;obtain⟨n0,n1⟩:=bk2 B7.out;go_wp2_with fail
  clear m0 m1 m2 m3 m4 n0 n1;refine(RC.out _ _ N' _ _ _ ⟨HNv.out,HT.out⟩ HX.out).mono ?_;rintro e v6 ⟨rfl,hb⟩;replace HB:=zM HB hb;replace BM:=zi (BM.out.q_ hb);replace BA:=zi (BA.out.q_ hb);replace BB:=zi (BB.out.q_ hb);replace HT:=zi (HT.out.q_ hb);replace HY:=zi (HY.out.q_ hb);replace HX:=zi (HX.out.q_ hb);replace HN:=zi (HN.out.q_ hb);replace B6:=zi (B6.out.q_ hb);replace B7:=zi (B7.out.q_ hb);replace B8:=zi (B8.out.q_ hb)
  clear hb;clear RC;obtain⟨n0,n1⟩:=bk2 B7.out;obtain⟨o0,o1,o2⟩:=bk3 B8.out;go_wp2_with fail
  clear n0 n1 o0 o1 o2;refine(AL.out _ ⟨us,ux,un,uc,uf,uy,um,ud,ug⟩ _ _ _ _ _ _ ⟨HY.out,HX.out⟩ ⟨HSn.out,HN.out⟩).mono ?_;rintro e v7 ⟨a1,c3,rfl,hb,G1⟩;have F7:=zi hb;clear hb;have n0:=(B7.out.q_ F7.out).cell (j:=0) rfl;have n1:=(B7.out.q_ F7.out).cell (j:=1) rfl
  obtain⟨o0,o1,o2⟩:=bk3 (B8.out.q_ F7.out);go_wp2_with fail
  clear n0 n1 o0 o1 o2;refine(AL.out _ ⟨us,ux,un,uc,uf,uy,um,ud,ug⟩ _ _ _ _ _ _ ⟨HY.out.q_ F7.out,HX.out.q_ F7.out⟩ ⟨HSn.out,HN.out.q_ F7.out⟩).mono ?_;rintro e v8 ⟨a2,c4,rfl,hb,G2⟩;have F8:=zi hb;have E8:=zi (bUp F7.out hb);clear hb AL;obtain⟨a0,a1_⟩:=bk2 (BA.out.q_ E8.out);obtain⟨t0,t1,t2⟩:=bk3 (BB.out.q_ E8.out);go_wp2_with fail
  clear a0 a1_ t0 t1 t2;refine(DA.out _ (bUp HB.out E8.out)).mono ?_;rintro e v9 ⟨a3,c5,rfl,hb,G3⟩;have F9:=zi hb;have E9:=zi (bUp E8.out hb);clear hb DA;obtain⟨ok,hok⟩:∃ok:Nat->Prop,ok=(λb=>v6.heap.size<=b/\b<v7.heap.size):=⟨_,rfl⟩;have hmk:Mk ok v6.heap.size v9 (slice a1 k c3) k v9 0:=by
   have:=G1.out.mk (ok:=ok) (bUp F8.out F9.out) (λb h1 h2=>by rw[hok];exact⟨h1,h2⟩);rw[hk]at this
   exact this
  have HM:=zi hmk;have HOK:=zi hok
  clear hmk hok;go_wp2_with fail
  go_loopw[65] (λt wr=>∃j:Nat,j<=k/\t=.int .i64 j/\Hid (Mk ok v6.heap.size v9 (slice a1 k c3) k wr j)) (λt _=>k-(intOf t).toNat)
  case atStart=>exact⟨0,by omega,rfl,HM⟩
  case round =>
   clear HM;obtain⟨j,hj,rfl,HJ⟩:=hrel;by_cases hjlt:j<k
   ·obtain⟨g9,c9,s2,x2,k2,q2,b9,m9,d9,z9,e1,hgok,hgl,hfz,⟨x0,x1,x2_⟩,hm,hob,hq9,hfq⟩:=HJ.out.el j (le_refl _) hjlt;cases e1
    have j1:((j:Nat):Int)<((k:Nat):Int):=by omega
    have m0:(0:Int)<((m9:Nat):Int):=by omega
    have HJ1:=zi (HJ.out.den hq9 hob 5);have y0:(wr.setCell ⟨b9,0,none⟩ (.int .u64 5)).cell? ⟨g9,j*3,none⟩=some (.bool s2):=zbR hq9 x0 (λh=>by cases h);have y1:(wr.setCell ⟨b9,0,none⟩ (.int .u64 5)).cell? ⟨g9,j*3+1,none⟩=some (slice x2 k2 q2):=zbR hq9 x1 (λh=>by cases h);have y2:(wr.setCell ⟨b9,0,none⟩ (.int .u64 5)).cell? ⟨g9,j*3+2,none⟩=some (slice (some ⟨b9,0,none⟩) m9 d9):=zbR hq9 x2_ (λh=>by cases h);have hgz:∀o,(wr.setCell ⟨b9,0,none⟩ (.int .u64 5)).frozen? ⟨g9,o,none⟩=false:=λo=>kFs (hfz o)
    have hgl':g9<(wr.setCell ⟨b9,0,none⟩ (.int .u64 5)).heap.size:=by simpa[World.setCell]using hgl
    go_wp2_with fail
    clear x0 x1 x2_ hq9 hfq HJ hfz hgl;generalize wr.setCell ⟨b9,0,none⟩ (.int .u64 5)=w5 at *;refine(zba (by omega) (by omega)).mono ?_;rintro e w6 ⟨s4,x4,n4,c4_,f4,y4,m4,d4,g4,rfl,hb6',_⟩;have HJ2:=zi ((HJ1.out.q_ hb6').up (Nat.le_succ j));replace y0:=kCb hb6' y0;replace y1:=kCb hb6' y1;replace y2:=kCb hb6' y2
    have hfz:∀o,w6.frozen? ⟨g9,o,none⟩=false:=λo=>((zau hb6').2 _ _ hgl').trans (hgz o)
    clear hb6' HJ1 hgz hgl';have HJ3:=zi (HJ2.out.set (u:=.bool s4) y0 (λz h=>by cases h) (λz h=>by cases h) (by omega) hgok);have z1:=kCo (u:=slice x2 k2 q2) (v:=.bool s4) (by omega:j*3≠j*3+1) y1;have z2:=kCo (v:=.bool s4) (by omega:j*3≠j*3+2) y2;have HJ4:=zi (HJ3.out.set (u:=slice x4 n4 c4_) z1 (λz h=>by cases h) (λz h=>by cases h) (by omega) hgok);have z3:=kCo (v:=slice x4 n4 c4_) (by omega:j*3+1≠j*3+2) z2;have HJ5:=zi (HJ4.out.set (u:=slice y4 m4 d4) z3 (λz h=>by cases h) (λz h=>by cases h) (by omega) hgok);clear z1 z2 z3 HJ2 HJ3 HJ4;go_wp2;go_roundw
    case rel=>exact⟨j+1,by omega,by go_num,HJ5.out⟩
    case measure=>simp[intOf];omega
   ·have e1:j=k:=by omega
    have j1:¬(((j:Nat):Int)<((k:Nat):Int)):=by omega
    have KW:=zi HJ.out.kq;obtain⟨xs,hrow⟩:=HJ.out.row;have HR:=zi hrow;clear hrow HJ e1;go_wp2_with fail
    refine(zba (z:=72) (by decide) (by decide)).mono ?_;rintro e w6 ⟨s4,x4,n4,c4_,f4,y4,m4,d4,g4,rfl,hb6,hq6⟩;have F6:=zi hb6;have Q6:=zi hq6
    replace KW:=zi (KW.out.q_ hb6);replace HR:=zi (HR.out.q_ hb6)
    have hsz:v6.heap.size<=w6.heap.size:=le_trans E9.out.size KW.out.size;clear hb6 hq6 F6;go_wp2_with(at_builtin;go_must (refine zab w6 rfl (.tmp 81) (.tmp 83) 29 rfl v6.heap.size 24 56 3 (agg #[.bool false,slice none 0 0,slice none 0 0]) underlying29 zbv rfl (by decide) nz3 (slice a1 k c3) k xs rfl HR.out #[.bool s4,slice x4 n4 c4_,slice y4 m4 d4] rfl rfl (zgB _ _ _ _ _ _ _) (zeN _ _ _ _ _ _ _) ?p1 (by decide) hsz ?_))
    case p1=>omega
    intro g8 cap8 w8 hr8 hk8 hb8 hg8;have hnok:∀b,(b<v6.heap.size∨v7.heap.size<=b)->¬ok b:=λb h1 h2=>by
     rw[HOK.out]at h2
     have:=F7.out.size;rcases h1 with h1|h1 <;> omega
    have hB0:Bl v6 w8:=hb8 v6 (KW.out.blw E9.out (λb h=>hnok b (.inl h))) (le_refl _);have hown:∀b,v7.heap.size<=b->(Value.slice a1 k c3).ownBlock≠some b:=λb h1 h2=>by
     obtain⟨T0,hT0,_⟩:=G1.out;have:=(hT0.lt b h2).2;omega
    have hkp:∀b,v7.heap.size<=b->b<v9.heap.size->w8.heap[b]?=v9.heap[b]?:=λb h1 h2=>(hg8 b (Nat.lt_of_lt_of_le h2 KW.out.size) (hown b h1)).trans (KW.out.block b h2 (hnok b (.inr h1)))
    have R2:=zi (G2.out.keep (w':=w8) (λb h1 h2=>(hkp b h1 (Nat.lt_of_lt_of_le h2 F9.out.size)).trans (F9.out.block b h2))).rf;have R3:=zi (G3.out.keep (w':=w8) (λb h1 h2=>hkp b (le_trans F8.out.size h1) h2)).rf;have Q8:=zi (Rn.kp Q6.out hk8);have hxs:xs.length=k*3:=HR.out.1;have e0:w8.cell? ⟨g8,k*3,none⟩=some (.bool s4):=hr8.cells (by rw[List.getElem?_append_right (by omega),hxs];simp);have e1:w8.cell? ⟨g8,k*3+1,none⟩=some (slice x4 n4 c4_):=hr8.cells (by rw[List.getElem?_append_right (by omega),hxs];simp);have e2:w8.cell? ⟨g8,k*3+2,none⟩=some (slice y4 m4 d4):=hr8.cells (by rw[List.getElem?_append_right (by omega),hxs];simp);have hb9:=hB0;clear hnok hown hkp hB0 hxs hr8 hk8 hb8 hg8 KW HR hsz G1 G2 G3 F7 F8 F9 E8 E9 HOK Q6;replace HB:=zM HB hb9;replace BM:=zi (BM.out.q_ hb9);replace BA:=zi (BA.out.q_ hb9);replace BB:=zi (BB.out.q_ hb9);replace HT:=zi (HT.out.q_ hb9);replace HY:=zi (HY.out.q_ hb9);replace HX:=zi (HX.out.q_ hb9);replace HN:=zi (HN.out.q_ hb9);replace B6:=zi (B6.out.q_ hb9);replace B7:=zi (B7.out.q_ hb9);replace B8:=zi (B8.out.q_ hb9)
    clear hb9;go_upto_region 18 with fail
    obtain⟨r0,r1,r2,r3,r4⟩:=bk5 BM.out;obtain⟨a0,a1_⟩:=bk2 BA.out;obtain⟨t0,t1,t2⟩:=bk3 BB.out;obtain⟨l0,l1,l2,l3,l4⟩:=bk5 B6.out;obtain⟨n0,n1⟩:=bk2 B7.out;obtain⟨o0,o1,o2⟩:=bk3 B8.out;have hbd:=Below.drew (Below.refl w8.heap.size w8);replace HB:=zM HB hbd;replace HT:=zi (HT.out.q_ hbd);replace HY:=zi (HY.out.q_ hbd);replace HX:=zi (HX.out.q_ hbd);replace HN:=zi (HN.out.q_ hbd);replace R2:=zi (R2.out.q_ hbd);replace R3:=zi (R3.out.q_ hbd);replace Q8:=zi (Q8.out.q_ hbd)
    refine wp_region_held_drew (S:=(λw'=>w'.cell? ⟨w.heap.size,0,none⟩=some (.bool s)/\w'.cell? ⟨w.heap.size,1,none⟩=some (slice x n c)/\w'.cell? ⟨w.heap.size,2,none⟩=some (slice y m d)/\w'.cell? ⟨w.heap.size,3,none⟩=some (slice ca ck cc)/\w'.cell? ⟨w.heap.size,4,none⟩=some (slice ra rk rc)/\w'.cell? ⟨w.heap.size+1,0,none⟩=some (slice ax kx cx)/\w'.cell? ⟨w.heap.size+1,1,none⟩=some (slice ao ko co)/\w'.cell? ⟨w.heap.size+1+1,0,none⟩=some (.bool ts)/\w'.cell? ⟨w.heap.size+1+1,1,none⟩=some (slice tx tn tc)/\w'.cell? ⟨w.heap.size+1+1,2,none⟩=some (slice ty tm td)/\w'.cell? ⟨p6,0,none⟩=some (.bool ms)/\w'.cell? ⟨p6,1,none⟩=some (slice mx mn mc)/\w'.cell? ⟨p6,2,none⟩=some (slice my mm md)/\w'.cell? ⟨p6,3,none⟩=some (slice mca mck mcc)/\w'.cell? ⟨p6,4,none⟩=some (slice mra mrk mrc)/\w'.cell? ⟨p7,0,none⟩=some (slice b1 kx c1)/\w'.cell? ⟨p7,1,none⟩=some (slice b2 ko c2)/\w'.cell? ⟨p8,0,none⟩=some (.bool us)/\w'.cell? ⟨p8,1,none⟩=some (slice ux un uc)/\w'.cell? ⟨p8,2,none⟩=some (slice uy um ud)/\w'.cell? ⟨g8,k*3,none⟩=some (.bool s4)/\w'.cell? ⟨g8,k*3+1,none⟩=some (slice x4 n4 c4_)/\w'.cell? ⟨g8,k*3+2,none⟩=some (slice y4 m4 d4))) (by kernel_rfl) ?_ (λhHeld=>?_)
    ·exact⟨kCd r0,kCd r1,kCd r2,kCd r3,kCd r4,kCd a0,kCd a1_,kCd t0,kCd t1,kCd t2,kCd l0,kCd l1,kCd l2,kCd l3,kCd l4,kCd n0,kCd n1,kCd o0,kCd o1,kCd o2,kCd e0,kCd e1,kCd e2⟩
    generalize w8.drew=wd8 at *;clear hbd BM BA BB B6 B7 B8 r0 r1 r2 r3 r4 a0 a1_ t0 t1 t2 l0 l1 l2 l3 l4 n0 n1 o0 o1 o2 e0 e1 e2;refine tkO 0 ?_;refine tkO 1 ?_;simp only[zA,Act.put];refine rdO 2 (λK hK=>?_);go_simp
    go_at_call 16
    refine(SM.out _ _ N' HB.out ⟨HNv.out,HT.out⟩).mono ?_;rintro e u1 ⟨rfl,hc⟩
    (try go_wp2_with fail)
    refine hK.out _ _ ?_ (λhH1=>?_)
    ·exact⟨kCb hc hHeld.1,kCb hc hHeld.2.1,kCb hc hHeld.2.2.1,kCb hc hHeld.2.2.2.1,kCb hc hHeld.2.2.2.2.1,kCb hc hHeld.2.2.2.2.2.1,kCb hc hHeld.2.2.2.2.2.2.1,kCb hc hHeld.2.2.2.2.2.2.2.1,kCb hc hHeld.2.2.2.2.2.2.2.2.1,kCb hc hHeld.2.2.2.2.2.2.2.2.2.1,kCb hc hHeld.2.2.2.2.2.2.2.2.2.2.1,kCb hc hHeld.2.2.2.2.2.2.2.2.2.2.2.1,kCb hc hHeld.2.2.2.2.2.2.2.2.2.2.2.2.1,kCb hc hHeld.2.2.2.2.2.2.2.2.2.2.2.2.2.1,kCb hc hHeld.2.2.2.2.2.2.2.2.2.2.2.2.2.2.1,kCb hc hHeld.2.2.2.2.2.2.2.2.2.2.2.2.2.2.2.1,kCb hc hHeld.2.2.2.2.2.2.2.2.2.2.2.2.2.2.2.2.1,kCb hc hHeld.2.2.2.2.2.2.2.2.2.2.2.2.2.2.2.2.2.1,kCb hc hHeld.2.2.2.2.2.2.2.2.2.2.2.2.2.2.2.2.2.2.1,kCb hc hHeld.2.2.2.2.2.2.2.2.2.2.2.2.2.2.2.2.2.2.2.1,kCb hc hHeld.2.2.2.2.2.2.2.2.2.2.2.2.2.2.2.2.2.2.2.2.1,kCb hc hHeld.2.2.2.2.2.2.2.2.2.2.2.2.2.2.2.2.2.2.2.2.2.1,kCb hc hHeld.2.2.2.2.2.2.2.2.2.2.2.2.2.2.2.2.2.2.2.2.2.2⟩
    clear hK K;try simp only[zA,Act.put]
    replace HB:=zM HB hc;replace HY:=zi (HY.out.q_ hc);replace HX:=zi (HX.out.q_ hc);replace HN:=zi (HN.out.q_ hc);replace R2:=zi (R2.out.q_ hc);replace R3:=zi (R3.out.q_ hc);replace Q8:=zi (Q8.out.q_ hc)
    clear hc hHeld;clear SM HT;refine tkO 3 ?_;refine tkO 4 ?_;refine tkO 5 ?_;simp only[zA,Act.put];refine rdO 6 (λK hK=>?_);go_simp
    go_at_call 17
    refine(SY.out _ _ _ _ _ _ _ HB.out ⟨HY.out,HX.out⟩).mono ?_;rintro e u2 ⟨rfl,hc⟩
    (try go_wp2_with fail)
    refine hK.out _ _ ?_ (λhH2=>?_)
    ·exact⟨kCb hc hH1.1,kCb hc hH1.2.1,kCb hc hH1.2.2.1,kCb hc hH1.2.2.2.1,kCb hc hH1.2.2.2.2.1,kCb hc hH1.2.2.2.2.2.1,kCb hc hH1.2.2.2.2.2.2.1,kCb hc hH1.2.2.2.2.2.2.2.1,kCb hc hH1.2.2.2.2.2.2.2.2.1,kCb hc hH1.2.2.2.2.2.2.2.2.2.1,kCb hc hH1.2.2.2.2.2.2.2.2.2.2.1,kCb hc hH1.2.2.2.2.2.2.2.2.2.2.2.1,kCb hc hH1.2.2.2.2.2.2.2.2.2.2.2.2.1,kCb hc hH1.2.2.2.2.2.2.2.2.2.2.2.2.2.1,kCb hc hH1.2.2.2.2.2.2.2.2.2.2.2.2.2.2.1,kCb hc hH1.2.2.2.2.2.2.2.2.2.2.2.2.2.2.2.1,kCb hc hH1.2.2.2.2.2.2.2.2.2.2.2.2.2.2.2.2.1,kCb hc hH1.2.2.2.2.2.2.2.2.2.2.2.2.2.2.2.2.2.1,kCb hc hH1.2.2.2.2.2.2.2.2.2.2.2.2.2.2.2.2.2.2.1,kCb hc hH1.2.2.2.2.2.2.2.2.2.2.2.2.2.2.2.2.2.2.2.1,kCb hc hH1.2.2.2.2.2.2.2.2.2.2.2.2.2.2.2.2.2.2.2.2.1,kCb hc hH1.2.2.2.2.2.2.2.2.2.2.2.2.2.2.2.2.2.2.2.2.2.1,kCb hc hH1.2.2.2.2.2.2.2.2.2.2.2.2.2.2.2.2.2.2.2.2.2.2⟩
    clear hK K;try simp only[zA,Act.put]
    replace HB:=zM HB hc;replace HN:=zi (HN.out.q_ hc);replace R2:=zi (R2.out.q_ hc);replace R3:=zi (R3.out.q_ hc);replace Q8:=zi (Q8.out.q_ hc)
    clear hc hH1;clear SY HY HX;refine tkO 7 ?_;refine tkO 8 ?_;refine tkO 9 ?_;simp only[zA,Act.put];refine tkO 10 ?_;simp only[zA,Act.put];refine rdO 11 (λK hK=>?_);go_simp
    go_at_call 18
    refine(ST.out _ ⟨us,ux,un,uc,uf,uy,um,ud,ug⟩ HB.out ⟨HSn.out,HN.out⟩).mono ?_;rintro e u3 ⟨rfl,hc⟩
    (try go_wp2_with fail)
    refine hK.out _ _ ?_ (λhH3=>?_)
    ·exact⟨kCb hc hH2.1,kCb hc hH2.2.1,kCb hc hH2.2.2.1,kCb hc hH2.2.2.2.1,kCb hc hH2.2.2.2.2.1,kCb hc hH2.2.2.2.2.2.1,kCb hc hH2.2.2.2.2.2.2.1,kCb hc hH2.2.2.2.2.2.2.2.1,kCb hc hH2.2.2.2.2.2.2.2.2.1,kCb hc hH2.2.2.2.2.2.2.2.2.2.1,kCb hc hH2.2.2.2.2.2.2.2.2.2.2.1,kCb hc hH2.2.2.2.2.2.2.2.2.2.2.2.1,kCb hc hH2.2.2.2.2.2.2.2.2.2.2.2.2.1,kCb hc hH2.2.2.2.2.2.2.2.2.2.2.2.2.2.1,kCb hc hH2.2.2.2.2.2.2.2.2.2.2.2.2.2.2.1,kCb hc hH2.2.2.2.2.2.2.2.2.2.2.2.2.2.2.2.1,kCb hc hH2.2.2.2.2.2.2.2.2.2.2.2.2.2.2.2.2.1,kCb hc hH2.2.2.2.2.2.2.2.2.2.2.2.2.2.2.2.2.2.1,kCb hc hH2.2.2.2.2.2.2.2.2.2.2.2.2.2.2.2.2.2.2.1,kCb hc hH2.2.2.2.2.2.2.2.2.2.2.2.2.2.2.2.2.2.2.2.1,kCb hc hH2.2.2.2.2.2.2.2.2.2.2.2.2.2.2.2.2.2.2.2.2.1,kCb hc hH2.2.2.2.2.2.2.2.2.2.2.2.2.2.2.2.2.2.2.2.2.2.1,kCb hc hH2.2.2.2.2.2.2.2.2.2.2.2.2.2.2.2.2.2.2.2.2.2.2⟩
    clear hK K;try simp only[zA,Act.put]
    replace HB:=zM HB hc;replace R2:=zi (R2.out.q_ hc);replace R3:=zi (R3.out.q_ hc);replace Q8:=zi (Q8.out.q_ hc)
    clear hc hH2;clear ST HN;refine tkO 12 ?_;refine tkO 13 ?_;refine tkO 14 ?_;simp only[zA,Act.put];refine tkO 15 ?_;simp only[zA,Act.put];refine rdO 16 (λK hK=>?_);go_simp
    go_at_call 19
    refine(zjE (L:=KL 8) (L':=KD 8) R2.out R3.out hk (by omega) (by decide) (by decide)).mono ?_;rintro e u4 ⟨rfl,hc⟩
    (try go_wp2_with fail)
    refine hK.out _ _ ?_ (λhH4=>?_)
    ·exact⟨kCb hc hH3.1,kCb hc hH3.2.1,kCb hc hH3.2.2.1,kCb hc hH3.2.2.2.1,kCb hc hH3.2.2.2.2.1,kCb hc hH3.2.2.2.2.2.1,kCb hc hH3.2.2.2.2.2.2.1,kCb hc hH3.2.2.2.2.2.2.2.1,kCb hc hH3.2.2.2.2.2.2.2.2.1,kCb hc hH3.2.2.2.2.2.2.2.2.2.1,kCb hc hH3.2.2.2.2.2.2.2.2.2.2.1,kCb hc hH3.2.2.2.2.2.2.2.2.2.2.2.1,kCb hc hH3.2.2.2.2.2.2.2.2.2.2.2.2.1,kCb hc hH3.2.2.2.2.2.2.2.2.2.2.2.2.2.1,kCb hc hH3.2.2.2.2.2.2.2.2.2.2.2.2.2.2.1,kCb hc hH3.2.2.2.2.2.2.2.2.2.2.2.2.2.2.2.1,kCb hc hH3.2.2.2.2.2.2.2.2.2.2.2.2.2.2.2.2.1,kCb hc hH3.2.2.2.2.2.2.2.2.2.2.2.2.2.2.2.2.2.1,kCb hc hH3.2.2.2.2.2.2.2.2.2.2.2.2.2.2.2.2.2.2.1,kCb hc hH3.2.2.2.2.2.2.2.2.2.2.2.2.2.2.2.2.2.2.2.1,kCb hc hH3.2.2.2.2.2.2.2.2.2.2.2.2.2.2.2.2.2.2.2.2.1,kCb hc hH3.2.2.2.2.2.2.2.2.2.2.2.2.2.2.2.2.2.2.2.2.2.1,kCb hc hH3.2.2.2.2.2.2.2.2.2.2.2.2.2.2.2.2.2.2.2.2.2.2⟩
    clear hK K;try simp only[zA,Act.put]
    replace HB:=zM HB hc;replace Q8:=zi (Q8.out.q_ hc)
    clear hc hH3;clear R2 R3;refine tkO 17 ?_;refine tkO 18 ?_;refine tkO 19 ?_;simp only[zA,Act.put];refine tkO 20 ?_;refine tkO 21 ?_;refine tkO 22 ?_;simp only[zA,Act.put];have i8:IntKind.i64.wrap ((k:Nat):Int)=((k:Nat):Int):=by rw[IntKind.wrap_i64];omega
    simp only[i8];have i9:(0:Int)<=((k:Nat):Int)/\((k:Nat):Int)<((k:Nat):Int)+1:=by omega
    have j8:=i9.1;have j9:=i9.2
    refine tkO 23 ?_;refine tkO 24 ?_;simp only[zA,Act.put];refine rdO 25 (λK hK=>?_);go_simp
    go_at_call 15
    refine(zba (z:=72) (by decide) (by decide)).mono ?_;rintro e u5 ⟨s7,x7,n7,c7,f7,y7,m7,d7,g7,rfl,hc,hq7⟩
    (try go_wp2_with fail)
    refine hK.out _ _ ?_ (λhH5=>?_)
    ·exact⟨kCb hc hH4.1,kCb hc hH4.2.1,kCb hc hH4.2.2.1,kCb hc hH4.2.2.2.1,kCb hc hH4.2.2.2.2.1,kCb hc hH4.2.2.2.2.2.1,kCb hc hH4.2.2.2.2.2.2.1,kCb hc hH4.2.2.2.2.2.2.2.1,kCb hc hH4.2.2.2.2.2.2.2.2.1,kCb hc hH4.2.2.2.2.2.2.2.2.2.1,kCb hc hH4.2.2.2.2.2.2.2.2.2.2.1,kCb hc hH4.2.2.2.2.2.2.2.2.2.2.2.1,kCb hc hH4.2.2.2.2.2.2.2.2.2.2.2.2.1,kCb hc hH4.2.2.2.2.2.2.2.2.2.2.2.2.2.1,kCb hc hH4.2.2.2.2.2.2.2.2.2.2.2.2.2.2.1,kCb hc hH4.2.2.2.2.2.2.2.2.2.2.2.2.2.2.2.1,kCb hc hH4.2.2.2.2.2.2.2.2.2.2.2.2.2.2.2.2.1,kCb hc hH4.2.2.2.2.2.2.2.2.2.2.2.2.2.2.2.2.2.1,kCb hc hH4.2.2.2.2.2.2.2.2.2.2.2.2.2.2.2.2.2.2.1,kCb hc hH4.2.2.2.2.2.2.2.2.2.2.2.2.2.2.2.2.2.2.2.1,kCb hc hH4.2.2.2.2.2.2.2.2.2.2.2.2.2.2.2.2.2.2.2.2.1,kCb hc hH4.2.2.2.2.2.2.2.2.2.2.2.2.2.2.2.2.2.2.2.2.2.1,kCb hc hH4.2.2.2.2.2.2.2.2.2.2.2.2.2.2.2.2.2.2.2.2.2.2⟩
    clear hK K;try simp only[zA,Act.put]
    have Q7:=zi hq7;replace HB:=zM HB hc;replace Q8:=zi (Q8.out.q_ hc)
    clear hc hH4 hq7;refine rdO 26 (λK hK=>?_);go_simp
    go_at_call 18
    refine(zda Q8.out Q7.out (by decide) (by decide)).mono ?_;rintro e u6 ⟨rfl,hc⟩
    (try go_wp2_with fail)
    refine hK.out _ _ ?_ (λhH6=>?_)
    ·exact⟨kCb hc hH5.1,kCb hc hH5.2.1,kCb hc hH5.2.2.1,kCb hc hH5.2.2.2.1,kCb hc hH5.2.2.2.2.1,kCb hc hH5.2.2.2.2.2.1,kCb hc hH5.2.2.2.2.2.2.1,kCb hc hH5.2.2.2.2.2.2.2.1,kCb hc hH5.2.2.2.2.2.2.2.2.1,kCb hc hH5.2.2.2.2.2.2.2.2.2.1,kCb hc hH5.2.2.2.2.2.2.2.2.2.2.1,kCb hc hH5.2.2.2.2.2.2.2.2.2.2.2.1,kCb hc hH5.2.2.2.2.2.2.2.2.2.2.2.2.1,kCb hc hH5.2.2.2.2.2.2.2.2.2.2.2.2.2.1,kCb hc hH5.2.2.2.2.2.2.2.2.2.2.2.2.2.2.1,kCb hc hH5.2.2.2.2.2.2.2.2.2.2.2.2.2.2.2.1,kCb hc hH5.2.2.2.2.2.2.2.2.2.2.2.2.2.2.2.2.1,kCb hc hH5.2.2.2.2.2.2.2.2.2.2.2.2.2.2.2.2.2.1,kCb hc hH5.2.2.2.2.2.2.2.2.2.2.2.2.2.2.2.2.2.2.1,kCb hc hH5.2.2.2.2.2.2.2.2.2.2.2.2.2.2.2.2.2.2.2.1,kCb hc hH5.2.2.2.2.2.2.2.2.2.2.2.2.2.2.2.2.2.2.2.2.1,kCb hc hH5.2.2.2.2.2.2.2.2.2.2.2.2.2.2.2.2.2.2.2.2.2.1,kCb hc hH5.2.2.2.2.2.2.2.2.2.2.2.2.2.2.2.2.2.2.2.2.2.2⟩
    clear hK K;try simp only[zA,Act.put]
    replace HB:=zM HB hc;clear hc hH5 Q7 Q8;refine tkO 27 ?_;refine tkO 28 ?_;simp only[zA,Act.put];refine dnO ?_;go_wp2;go_ret;exact⟨rfl,HB.out⟩
theorem zhw {w M ax kx cx Y ao ko co X t} (hX:MoX w M) (hN:MoN M) (_:MoC M) (hy:Rr w ax kx Y) (hx:Rr w ao ko X) (hkx:kx<=9223372036854775807) (hko:ko<=9223372036854775807) (ht:NmB w t) :
  Calls prog 3 #[M.val,agg #[slice ax kx cx,slice ao ko co],agg #[.bool t.s,slice t.x t.n t.c,slice t.y t.m t.d]] w λe w'=>e=.returned (.bool true)/\Bl w w':=zhx hX hN hy hx hkx hko ht.1
end Go.Proofs.YtgmmlmmahdnnhaaGreat
