/-
 Walks.
-/
import Derived.Test.YtlbgphjdibbkjaaGreatZ7
import Derived.Test.YtlbgphjdibbkjaaGreatZ6
import Derived.Deep.RegionHeld3
import Derived.Test.YtlbgphjdibbkjaaGreatZ3
import Derived.Test.YtlbgphjdibbkjaaGreatZ4
import Derived.Test.YtlbgphjdibbkjaaGreatZ2
import Derived.Test.YtlbgphjdibbkjaaGreatZ5
import Derived.BigRegion
import Derived.BigQuiet
set_option maxRecDepth 100000
set_option maxHeartbeats 16000000
namespace Go.Proofs.YtlbgphjdibbkjaaGreat
open Value (slice)
open Obj (cells)
open Nat (le_refl le_trans)
open World (cell?_of_block block_lt_of_cell?)
open Go.Proofs.Tryz
open Go.RowKit
theorem zlq {w ao bo k ca cb X Y} (ha:Rl w ao k X) (hb:Rl w bo k Y) (hs:∀j,j<k->Sn (Y j) (X j)) (hk2:k<=1048576) :
  Calls prog 15 #[slice ao k ca,slice bo k cb] w λe w'=>e=.returned (.bool true)/\Bl w w':=by
 have HA:=zk ha;have HB:=zk hb;have HSn:=zk hs
 have hkk:(((k:Nat):Int) != ((k:Nat):Int))=false:=by simp
 clear ha hb hs;go_enter func15,ntmps15;go_wp2_with fail
 go_loopw[13] (λt wr=>∃(i:Nat),i<=k/\t=.int .i64 i/\Hid (Bl w wr)) (λt _=>k-(intOf t).toNat)
 case atStart=>exact⟨0,by omega,rfl,Below.refl _ _⟩
 case round =>
  obtain⟨i,hi,rfl,HW⟩:=hrel;by_cases hlt:i<k
  ·obtain⟨b,o,rfl,hc,hr⟩:=(HA.out.q_ HW.out) i hlt;obtain⟨b',o',rfl,hc',hr'⟩:=(HB.out.q_ HW.out) i hlt;have hsn:=HSn.out i hlt;generalize X i=t1 at hc hr hsn;generalize Y i=t2 at hc' hr' hsn;obtain⟨ts,tx,tn,tc,tf,ty,tm,td,tg⟩:=t1;obtain⟨ss,sx,sn,sc,sf,sy,sm,sd,sg⟩:=t2;obtain⟨x0,x1,x2⟩:=hc;obtain⟨p0,p1,p2⟩:=hc';replace x0:wr.cell? ⟨b,o+i*3,none⟩=some (.bool ts):=x0;replace x1:wr.cell? ⟨b,o+i*3+1,none⟩=some (slice tx tn tc):=x1;replace x2:wr.cell? ⟨b,o+i*3+2,none⟩=some (slice ty tm td):=x2;replace p0:wr.cell? ⟨b',o'+i*3,none⟩=some (.bool ss):=p0;replace p1:wr.cell? ⟨b',o'+i*3+1,none⟩=some (slice sx sn sc):=p1;replace p2:wr.cell? ⟨b',o'+i*3+2,none⟩=some (slice sy sm sd):=p2;have CS:Hid (∀W,Bl wr W->Calls prog 16 #[.agg #[.bool ts,slice tx tn tc,slice ty tm td],.agg #[.bool ss,slice sx sn sc,slice sy sm sd]] W λe w'=>e=.returned (.bool true)/\Bl W w'):=λW hW =>
    (zpk (NmS.q_ hr hW) (NmS.q_ hr' hW)).mono λe w' h=>by rw[hsn.sq]at h;exact h
   have i2:((i:Nat):Int)<((k:Nat):Int):=by omega
   clear hr hr' hsn;go_upto_region 6 with fail
   go_region_held3 (λw'=>w'.cell? ⟨b,o+i*3,none⟩=some (.bool ts)/\w'.cell? ⟨b,o+i*3+1,none⟩=some (slice tx tn tc)/\w'.cell? ⟨b,o+i*3+2,none⟩=some (slice ty tm td)/\w'.cell? ⟨b',o'+i*3,none⟩=some (.bool ss)/\w'.cell? ⟨b',o'+i*3+1,none⟩=some (slice sx sn sc)/\w'.cell? ⟨b',o'+i*3+2,none⟩=some (slice sy sm sd))
    (refine⟨?_,?_,?_,?_,?_,?_⟩ <;> repeat(with_reducible first|assumption|refine kCd ?_|refine kCb (by assumption) ?_))
    ((go_at_call 16;with_reducible refine(CS.out _ (by repeat(with_reducible first|assumption|exact Below.refl _ _|refine zlE ?_|refine Below.drew ?_))).mono ?_;rintro e w5 ⟨rfl,hb5⟩))
   all_goals
    (have HW5:Hid (Bl w w5):=zk (HW.out.trans (Below.mono (show Bl wr w5 by repeat(with_reducible first|assumption|exact Below.refl _ _|refine zlE ?_|refine Below.drew ?_|refine kBb (by assumption) ?_)) HW.out.size))
     clear x0 x1 x2 p0 p1 p2 CS hb5;go_wp2;go_roundw
     case rel=>exact⟨i+1,by omega,by go_num,(by first|exact HW5.out|exact HW5.out.drew|exact zH HW5.out _)⟩
     case measure=>simp[intOf];omega)
  ·have i2:¬(((i:Nat):Int)<((k:Nat):Int)):=by omega
   go_wp2;go_ret;exact⟨rfl,HW.out⟩
theorem MoX.kp {w w' M} (h:MoX w M) (hk:Kp w w') {B} (hne:∀k,k≠B->w'.heap[k]?=w.heap[k]?) (hno:∀o v,w.cell? ⟨B,o,none⟩=some v->(∀s,v≠.string s)/\∀k z,v≠.int k z):MoX w' M:=by
 refine⟨h.off.kp hk,λj hj=>?_,λj hj=>?_,h.ck,h.rk⟩
 ·obtain⟨b,o,e,h1,h2⟩:=h.cls j hj;have hb:b≠B:=λe=>(hno _ (.string (M.C j).nm) (e ▸ h1 0 _ rfl)).1 _ rfl
  exact⟨b,o,e,λq v hq=>(cell?_of_block (a:=⟨b,_,none⟩) (hne b hb)).trans (h1 q v hq),h2.kp hk⟩
 ·obtain⟨b,o,e,h1,h2⟩:=h.rls j hj;have hb:b≠B:=λe=>(hno _ (.string (M.R j).nm) (e ▸ h1 0 _ rfl)).1 _ rfl
  refine⟨b,o,e,λq v hq=>(cell?_of_block (a:=⟨b,_,none⟩) (hne b hb)).trans (h1 q v hq),h2.of (λh3 b' o' s' e' _=>hne b' ?_) hk⟩;intro eB;obtain⟨b2,o2,e2,⟨c0,_⟩,_⟩:=h2.tr 0 (by omega);rw[e']at e2
  cases e2
  exact(hno _ _ (eB ▸ c0)).2 _ _ rfl
theorem TmK.kp {K w w' M M'} (h:TmK K w M M') (hN:MoN M) (hK:K<=1000) (hk:Kp w w') {B} (hne:∀k,k≠B->w'.heap[k]?=w.heap[k]?) (hno:∀o v,w.cell? ⟨B,o,none⟩=some v->(∀s,v≠.string s)/\∀k z,v≠.int k z):TmK K w' M M':=by
 obtain⟨h1,h2,h3,h4⟩:=h;have hx:=h3.kp hk hne hno;exact⟨h1,λa b=>(hx.both (h1.mon hN) h4 hK a b).1,hx,h4⟩
theorem Tx.ne {w w' ao k X X' B} (h:Tx w ao k X X') (hk:Kp w w') (hne:∀b,b≠B->w'.heap[b]?=w.heap[b]?) (hB:k≠0->∀o s,ao≠some ⟨B,o,s⟩):Tx w' ao k X X':=by
 refine⟨λj hj=>?_,h.2⟩;obtain⟨b,o,e,⟨c0,c1,c2⟩,h1,h2⟩:=h.1 j hj;have hs:=hne b (λe2=>hB (by omega) o none (e2 ▸ e));exact⟨b,o,e,⟨(cell?_of_block (a:=⟨b,o+j*3,none⟩) hs).trans c0,(cell?_of_block (a:=⟨b,o+j*3+1,none⟩) hs).trans c1,(cell?_of_block (a:=⟨b,o+j*3+2,none⟩) hs).trans c2⟩,h1.kp hk,h2⟩
theorem Tx.lt {w a k X X'} (h:Tx w a k X X') (hk:k≠0) {b o s} (e:a=some ⟨b,o,s⟩):b<w.heap.size:=by
 obtain⟨b',o',e',⟨c0,_⟩,_⟩:=h.1 0 (by omega);rw[e]at e'
 cases e'
 exact block_lt_of_cell? w _ c0
structure Kw (ok:Nat->Prop) (w w':World):Prop where
 os:w'.os=w.os
 tape:w'.tape=w.tape
 output:w'.output=w.output
 size:w.heap.size<=w'.heap.size
 block:∀k,k<w.heap.size->¬ok k->w'.heap[k]?=w.heap[k]?
theorem Kw.refl (ok:Nat->Prop) (w:World):Kw ok w w:=⟨rfl,rfl,rfl,le_refl _,λ_ _ _=>rfl⟩
theorem Kw.set {ok:Nat->Prop} {a w:World} (h:Kw ok a w) {x:Addr} (hx:ok x.block) (u:Value):Kw ok a (w.setCell x u) :=
 ⟨h.os,h.tape,h.output,by simpa[World.setCell]using h.size,λk hk hn=>(Below.heap_setCell _ _ _ _ (λ(e:k=x.block)=>hn (by rw[e];exact hx))).trans (h.block k hk hn)⟩
theorem Kw.q_ {ok:Nat->Prop} {a w w':World} (h:Kw ok a w) (hb:Bl w w'):Kw ok a w' :=
 ⟨hb.os.trans h.os,hb.tape.trans h.tape,hb.output.trans h.output,le_trans h.size hb.size,λk hk hn=>(hb.block k (Nat.lt_of_lt_of_le hk h.size)).trans (h.block k hk hn)⟩
theorem Kw.blw {ok:Nat->Prop} {a w w':World} (h:Kw ok w w') (hb:Bl a w) (hn:∀k,k<a.heap.size->¬ok k):Bl a w' :=
 ⟨h.os.trans hb.os,h.tape.trans hb.tape,h.output.trans hb.output,le_trans hb.size h.size,λk hk=>(h.block k (Nat.lt_of_lt_of_le hk hb.size) (hn k hk)).trans (hb.block k hk)⟩
theorem RowG.den {e sz base w v n xs b q u} (h:RowG e sz base w v n xs) (hb:w.cell? ⟨b,0,none⟩=some (.int .u64 q)):RowG e sz base (w.setCell ⟨b,0,none⟩ u) v n xs:=h.of λg hg=>by
 have hne:g≠b:=by
  rintro rfl;rcases h.2 with⟨hv,_⟩|⟨g',cap,cur,hv,_,hc,_,_,_,_,hnu⟩
  ·rw[hv]at hg;cases hg
  ·rw[hv]at hg;cases hg
   simp[World.cell?,hc]at hb
   exact hnu _ _ hb
 exact Below.heap_setCell _ _ _ _ hne
theorem RowG.set {e sz base w n xs g cap o u} (h:RowG e sz base w (.slice (some ⟨g,0,none⟩) n cap) n xs) (hu:∀q,u≠.int .u64 q):∃xs',RowG e sz base (w.setCell ⟨g,o,none⟩ u) (.slice (some ⟨g,0,none⟩) n cap) n xs':=by
 obtain⟨h0,h1⟩:=h;rcases h1 with⟨hv,_⟩|⟨g',cap',cur,hv,hge,hcur,hn,hm,hs,ht,hnu⟩
 ·cases hv
 ·cases hv
  refine⟨(cur.setIfInBounds o u).toList.take (n*sz),?_,.inr ⟨g,cap,cur.setIfInBounds o u,rfl,hge,?_,hn,hm,by simpa using hs,rfl,λi q hq=>?_⟩⟩
  ·rw[List.length_take,Array.length_toList,Array.size_setIfInBounds,hs];exact Nat.min_eq_left (Nat.mul_le_mul_right _ hn)
  ·simp[World.setCell,Array.getElem?_modify,hcur]
  ·rw[Array.getElem?_setIfInBounds]at hq
   split at hq
   ·split at hq
    ·cases hq;exact hu q rfl
    ·cases hq
   ·exact hnu i q hq
structure Mk (ok:Nat->Prop) (base:Nat) (wG:World) (v:Value) (n:Nat) (w:World) (j:Nat):Prop where
 kq:Kw ok wG w
 row:∃xs,RowG 24 3 base w v n xs
 el:∀i,j<=i->i<n->∃g cap s x k c b m d q,v=slice (some ⟨g,0,none⟩) n cap/\ok g/\g<w.heap.size/\(∀o,w.frozen? ⟨g,o,none⟩=false)/\C3 w g (i*3) (.bool s) (slice x k c) (slice (some ⟨b,0,none⟩) m d)/\0<m/\ok b/\w.cell? ⟨b,0,none⟩=some (.int .u64 q)/\w.frozen? ⟨b,0,none⟩=false
theorem Mk.q_ {ok base wG v n w w' j} (h:Mk ok base wG v n w j) (hb:Bl w w'):Mk ok base wG v n w' j:=by
 obtain⟨_,hf⟩:=zaG hb;obtain⟨xs,hx⟩:=h.row;refine⟨h.kq.q_ hb,⟨xs,hx.q_ hb⟩,λi h1 h2=>?_⟩;obtain⟨g,cap,s,x,k,c,b,m,d,q,e1,e2,e3,e4,e5,e6,e7,e8,e9⟩:=h.el i h1 h2;exact⟨g,cap,s,x,k,c,b,m,d,q,e1,e2,Nat.lt_of_lt_of_le e3 hb.size,λo=>(hf _ _ e3).trans (e4 o),e5.q_ hb,e6,e7,kCb hb e8,(hf _ _ (block_lt_of_cell? w _ e8)).trans e9⟩
theorem zco {w:World} {p a:Addr} {u v z:Value} (hp:w.cell? p=some u) (ha:w.cell? a=some v) (hne:u≠v):(w.setCell p z).cell? a=some v:=by
 have hpa:p≠a:=λe=>hne (Option.some.inj (by rw[<-hp,<-ha,e]))
 exact(World.cell?_setCell_other w p a z hpa).trans ha
theorem Mk.den {ok base wG v n w j b q} (h:Mk ok base wG v n w j) (hb:w.cell? ⟨b,0,none⟩=some (.int .u64 q)) (hok:ok b) (z:Int):Mk ok base wG v n (w.setCell ⟨b,0,none⟩ (.int .u64 z)) j:=by
 obtain⟨xs,hx⟩:=h.row;refine⟨h.kq.set hok _,⟨xs,hx.den hb⟩,λi h1 h2=>?_⟩;obtain⟨g,cap,s,x,k,c,b',m,d,q',e1,e2,e3,e4,⟨x0,x1,x2⟩,e6,e7,e8,e9⟩:=h.el i h1 h2;have hc:C3 (w.setCell ⟨b,0,none⟩ (.int .u64 z)) g (i*3) (.bool s) (slice x k c) (slice (some ⟨b',0,none⟩) m d):=⟨zco hb x0 (λh=>by cases h),zco hb x1 (λh=>by cases h),zco hb x2 (λh=>by cases h)⟩;by_cases e:b'=b
 ·subst e;exact⟨g,cap,s,x,k,c,b',m,d,z,e1,e2,by simpa[World.setCell]using e3,λo=>kFs (e4 o),hc,e6,e7,kCe (kI0 e8),kFs e9⟩
 ·exact⟨g,cap,s,x,k,c,b',m,d,q',e1,e2,by simpa[World.setCell]using e3,λo=>kFs (e4 o),hc,e6,e7,kCs (λh=>e h.symm) e8,kFs e9⟩
theorem Mk.set {ok base wG n w j g cap o u z} (h:Mk ok base wG (slice (some ⟨g,0,none⟩) n cap) n w j) (hc:w.cell? ⟨g,o,none⟩=some z) (hz:∀q,z≠.int .u64 q) (hu:∀q,u≠.int .u64 q) (ho:o<j*3) (hok:ok g):Mk ok base wG (slice (some ⟨g,0,none⟩) n cap) n (w.setCell ⟨g,o,none⟩ u) j:=by
 obtain⟨xs,hx⟩:=h.row;refine⟨h.kq.set hok _,hx.set hu,λi h1 h2=>?_⟩;obtain⟨g',cap',s,x,k,c,b',m,d,q',e1,e2,e3,e4,⟨x0,x1,x2⟩,e6,e7,e8,e9⟩:=h.el i h1 h2;cases e1
 have hk:∀t u',w.cell? ⟨g,i*3+t,none⟩=some u'->(w.setCell ⟨g,o,none⟩ u).cell? ⟨g,i*3+t,none⟩=some u':=λt u' hu=>kCo (by have:j*3<=i*3:=Nat.mul_le_mul_right 3 h1;omega) hu
 exact⟨g,cap,s,x,k,c,b',m,d,q',rfl,e2,by simpa[World.setCell]using e3,λo=>kFs (e4 o),⟨hk 0 _ x0,hk 1 _ x1,hk 2 _ x2⟩,e6,e7,zco hc e8 (hz _),kFs e9⟩
theorem Mk.up {ok base wG v n w j j'} (h:Mk ok base wG v n w j) (hj:j<=j'):Mk ok base wG v n w j':=⟨h.kq,h.row,λi h1 h2=>h.el i (le_trans hj h1) h2⟩
theorem GrO.mk {ok:Nat->Prop} {K base w v p w'} (h:GrO K base w v p) (hb:Bl w w') (hok:∀b,base<=b->b<w.heap.size->ok b):Mk ok base w' v p.length w' 0:=by
 have h0:Mk ok base w v p.length w 0:=by
  obtain⟨T,h1,h2⟩:=h;refine⟨Kw.refl _ _,⟨_,h1⟩,λi _ hi=>?_⟩;rcases h1.2 with⟨_,hn⟩|⟨g,cap,cur,hv,hge,hcur,hn,hm,hs,ht,hnu⟩
  ·omega
  ·subst hv;obtain⟨b,hb,hc⟩:=zci h1 hi;cases hb
   have hl:g<w.heap.size:=(Array.getElem?_eq_some_iff.1 hcur).1;obtain⟨q,hq⟩:∃q,p[i]?=some q:=⟨_,List.getElem?_eq_getElem hi⟩;obtain⟨h3,h4⟩:=h2 i q hq;obtain⟨b,h5,h6,⟨z,h7⟩,h8⟩:=h4.1 (h3.den.pos (by have:=q.den_pos;omega));rw[Nat.zero_add,h5]at hc
   exact⟨g,cap,_,_,_,_,b,_,_,z,rfl,hok g hge hl,hl,λo=>by simp[World.frozen?,hcur],hc,h3.den.pos (by have:=q.den_pos;omega),hok b h6 (block_lt_of_cell? w _ h7),h7,h8⟩
 have h1:=h0.q_ hb;exact⟨Kw.refl _ _,h1.row,h1.el⟩
theorem zir {w z} (h0:-9223372036854775808<=z) (h1:z<=9223372036854775807) :
  Calls prog 9 #[.int .i64 z] w λe w'=>zhx 4 w w' e (z:Rat):=by
 have h2:=zaA w 24;have h3:=zB w (cells #[.bool false,slice none 0 0,slice none 0 0] 24);go_enter func9,ntmps9;go_wp2_with fail
 generalize w.alloc (cells #[.bool false,slice none 0 0,slice none 0 0] 24)=w1 at *;have OB:=zk h2;have HW:=zk h3
 clear h2 h3;refine(zfj h0 h1).mono ?_;rintro e w2 ⟨s2,x2,n2,c2,d2,y2,m2,e2,g2,rfl,hb,hl1,hl2,hq⟩;have HB2:=zk hb;have HQ:=zk hq
 clear hb hq;go_wp2_with fail
 refine(zmW HQ.out (by omega) (by omega)).mono ?_;rintro e w3 ⟨s3,z3,k3,c3,f3,y3,m3,e3,g3,rfl,hb,hr3,hd3⟩;have R3:=zk hr3;have D3:=zk (hd3.base (bUp HW.out HB2.out).size)
 clear hr3 hd3;have HB3:=zJ HB2 hb;clear hb;obtain⟨hz,z0,z1,z2,zf⟩:=OB.out.q_ HB3.out;go_wp2;exact bodyPost_ret (v:=.agg #[.bool s3,slice z3 k3 c3,slice y3 m3 e3]) (by simp[results,results9,go_sem,z0,z1,z2]) rfl ⟨s3,z3,k3,c3,f3,y3,m3,e3,g3,rfl,zU (bUp HW.out HB3.out) (by omega),(OB.out.q_ HB3.out).rn (R3.out.mono (by omega)),D3.out.st3 ⟨hz,z0,z1,z2,zf⟩⟩
theorem ziU {K w ao k cap X} (h:Rl w ao k X) (hs:ShK K k X) (hK:K<=100):Calls prog 8 #[slice ao k cap] w λe w'=>∃(a:Option Addr) (c:Nat) (X':Nat->Nm),e=.returned (slice a k c)/\Bl w w'/\Hid (Tx w' a k X X'/\RowG 24 3 w.heap.size w' (slice a k c) k (rcells (rls k X'))) :=
 (zoR h (by have:=hs.1;omega) (λj hj=>by have:=hs.2 j hj;omega)).mono λe w' ⟨a,c,X',h1,h2,_,h4⟩=>⟨a,c,X',h1,h2,zk ⟨h4.out.1,h4.out.2⟩⟩
theorem Tx.put {w w' e base a k X X' g cap s x n c y m d} (h:Tx w a k X X') (hr:RowG e 3 base w' (slice (some ⟨g,0,none⟩) (k+1) cap) (k+1) (rcells (rls k X')++#[Value.bool s,slice x n c,slice y m d].toList)) (hk:Kp w w'):Tx w' (some ⟨g,0,none⟩) k X X':=by
 refine⟨λj hj=>?_,h.2⟩;obtain⟨_,_,_,_,h1,h2⟩:=h.1 j hj;have hr2:RowG e 3 base w' (slice (some ⟨g,0,none⟩) (k+1) cap) (k+1) (rcells (rls (k+1) (zaE X' k ⟨s,x,n,c,λ_=>0,y,m,d,λ_=>0⟩))):=by rw[zcO];exact hr
 obtain⟨b,e1,hc⟩:=zci hr2 (show j<k+1 by omega);rw[putN_ne (by omega)]at hc
 cases e1
 exact⟨g,0,rfl,hc,h1.kp hk,h2⟩
theorem zeJ {w a b} (ha:NmB w a) (hb:NmB w b):Calls prog 16 #[a.val,b.val] w λr w'=>r=.returned (.bool (sqB a b))/\Bl w w' :=
 (zeI a.s a.x a.y a.n a.c a.m a.d a.f a.g b.s b.x b.y b.n b.c b.m b.d b.f b.g w ha.1.rx ha.1.ry hb.1.rx hb.1.ry (le_trans ha.2.1 (by decide)) (le_trans ha.2.2 (by decide)) (le_trans hb.2.1 (by decide)) (le_trans hb.2.2 (by decide))).mono
  λe w' ⟨q,h1,h2,h3⟩=>⟨by rw[h1,Bool.eq_iff_iff.2 (h3.trans sq_iff.symm)],h2⟩
theorem zev {w a b} (ha:NmB w a.v) (hb:NmB w b.v):Calls prog 20 #[a.val,b.val] w λr w'=>r=.returned (.bool (sxB a b))/\Bl w w':=by
 have CS:=zk (λw' (hw:Bl w w')=>zeJ (w:=w') (ha.q_ hw) (hb.q_ hw));obtain⟨q,hq⟩:∃q,sqB a.v b.v=q:=⟨_,rfl⟩;rw[hq]at CS
 obtain⟨an,han⟩:∃t,sxB a b=t:=⟨_,rfl⟩;rw[han];have HA:=zk (show an=(decide (a.i=b.i) && q)from by rw[<-han,sxB,hq]);clear ha hb hq han;obtain⟨i1,⟨s1,x1,n1,c1,f1,y1,m1,d1,g1⟩⟩:=a;obtain⟨i2,⟨s2,x2,n2,c2,f2,y2,m2,d2,g2⟩⟩:=b;replace CS:Hid (∀w' (hw:Bl w w'),Calls prog 16 #[.agg #[.bool s1,slice x1 n1 c1,slice y1 m1 d1],.agg #[.bool s2,slice x2 n2 c2,slice y2 m2 d2]] w' λr w2=>r=.returned (.bool q)/\Bl w' w2):=CS;replace HA:Hid (an=(decide (i1=i2) && q)):=HA;show Calls prog 20 #[.agg #[.int .i64 i1,.bool s1,slice x1 n1 c1,slice y1 m1 d1],.agg #[.int .i64 i2,.bool s2,slice x2 n2 c2,slice y2 m2 d2]] w _;have h1:=(zaT w (.int .i64 i1) (.bool s1) (slice x1 n1 c1) (slice y1 m1 d1) 40).alloc (cells #[.int .i64 i2,.bool s2,slice x2 n2 c2,slice y2 m2 d2] 40);have h2:=zaT (w.alloc (cells #[.int .i64 i1,.bool s1,slice x1 n1 c1,slice y1 m1 d1] 40)) (.int .i64 i2) (.bool s2) (slice x2 n2 c2) (slice y2 m2 d2) 40;rw[zw]at h2
 have h3:=zu (zB w (cells #[.int .i64 i1,.bool s1,slice x1 n1 c1,slice y1 m1 d1] 40)) (cells #[.int .i64 i2,.bool s2,slice x2 n2 c2,slice y2 m2 d2] 40);go_enter func20,ntmps20;go_upto_region 1 with fail
 generalize(w.alloc (cells #[.int .i64 i1,.bool s1,slice x1 n1 c1,slice y1 m1 d1] 40)).alloc (cells #[.int .i64 i2,.bool s2,slice x2 n2 c2,slice y2 m2 d2] 40)=w1 at *;have HW:=zk h3;obtain⟨za,a0,a1,a2,a3⟩:=h1;obtain⟨zb,b0,b1,b2,b3⟩:=h2;clear h3;by_cases hi:i1=i2
 ·subst hi;have hii:(i1==i1)=true:=by simp
  go_wp2_with fail
  refine(CS.out _ HW.out).mono ?_;rintro e w2 ⟨rfl,hb⟩;have HB:=zJ HW hb;clear hb;go_wp2;go_ret;exact⟨by rw[HA.out];simp,HB.out⟩
 ·have hii:(i1==i2)=false:=by simpa using hi
  have HF:=zk (show an=false from by rw[HA.out];simp[hi]);go_wp2;go_ret;exact⟨by rw[HF.out];rfl,HW.out⟩
theorem zoO {w ao bo k m ca cb col col' T T'} (ha:Tr w ao k col T) (la:∀p,p<k->(T p).n<=17592186044416/\(T p).m<=17592186044416) (hb:Tr w bo m col' T') (lb:∀p,p<m->(T' p).n<=17592186044416/\(T' p).m<=17592186044416) (hk:k<=2199023255552) (hm:m<=2199023255552) :
  Calls prog 45 #[slice ao k ca,slice bo m cb] w λe w'=>e=.returned (.bool (eqfB sxB k m (tex col T) (tex col' T')))/\Bl w w':=by
 have HA:=zk ha;have HB:=zk hb;have LA:=zk la;have LB:=zk lb
 clear ha hb la lb;obtain⟨an,han⟩:∃t,eqfB sxB k m (tex col T) (tex col' T')=t:=⟨_,rfl⟩;rw[han];by_cases hnm:k=m
 case neg =>
  have HE:=zk (show an=false from by rw[<-han,eqfB];simp[hnm]);have e1:((k:Int) != (m:Int))=true:=by simp;omega
  clear hnm han;go_enter func45,ntmps45;go_wp2;go_ret;refine⟨?_,Below.refl _ _⟩;rw[HE.out];rfl
 subst hnm;have HAN:=zk (show an=eqf sxB (tex col T) (tex col' T') k 0 from by rw[<-han,eqfB];simp);have hkk:(((k:Nat):Int) != ((k:Nat):Int))=false:=by simp
 clear han;go_enter func45,ntmps45;go_wp2_with fail
 go_loopw[13] (λt wr=>∃(i:Nat),i<=k/\t=.int .i64 i/\Hid (Bl w wr)/\Hid (an=eqf sxB (tex col T) (tex col' T') (k-i) i)) (λt _=>k-(intOf t).toNat)
 case atStart=>exact⟨0,by omega,rfl,Below.refl _ _,HAN.out⟩
 case round =>
  obtain⟨i,hi,rfl,HW,HI⟩:=hrel;by_cases hlt:i<k
  ·obtain⟨b,o,rfl,⟨x0,x1,x2,x3⟩,hr⟩:=(HA.out.q_ HW.out) i hlt;obtain⟨b',o',rfl,⟨p0,p1,p2,p3⟩,hr'⟩:=(HB.out.q_ HW.out) i hlt;obtain⟨r,hrr⟩:∃r,k-i=r+1:=⟨k-i-1,by omega⟩;have hT:an=(sxB (tex col T i) (tex col' T' i) && eqf sxB (tex col T) (tex col' T') r (i+1)):=by rw[HI.out,hrr];rfl
   have hr2:k-(i+1)=r:=by omega
   obtain⟨q,hq⟩:∃q,sqB (T i) (T' i)=q:=⟨_,rfl⟩;have CS:=zk (λW (hW:Bl wr W)=>zeJ (w:=W) (a:=T i) (b:=T' i) ⟨Rw.q_ hr hW,LA.out i hlt⟩ ⟨Rw.q_ hr' hW,LB.out i hlt⟩);rw[hq]at CS
   have hT2:an=((decide (col i=col' i) && q) && eqf sxB (tex col T) (tex col' T') r (i+1)):=by rw[hT];unfold sxB;show((decide (col i=col' i) && sqB (T i) (T' i)) && _)=_;rw[hq]
   obtain⟨a,hca⟩:∃z,col i=z:=⟨_,rfl⟩;obtain⟨a',hcb⟩:∃z,col' i=z:=⟨_,rfl⟩;rw[hca,hcb]at hT2
   rw[hca]at x0
   rw[hcb]at p0
   obtain⟨⟨ts,tx,tn,tc,tf,ty,tm,td,tg⟩,hTi⟩:∃t,T i=t:=⟨_,rfl⟩;obtain⟨⟨ss,sx,sn,sc,sf,sy,sm,sd,sg⟩,hTi'⟩:∃t,T' i=t:=⟨_,rfl⟩;rw[hTi]at x1 x2 x3 CS
   rw[hTi']at p1 p2 p3 CS
   replace x0:wr.cell? ⟨b,o+i*4,none⟩=some (.int .i64 a):=x0;replace x1:wr.cell? ⟨b,o+i*4+1,none⟩=some (.bool ts):=x1;replace x2:wr.cell? ⟨b,o+i*4+2,none⟩=some (slice tx tn tc):=x2;replace x3:wr.cell? ⟨b,o+i*4+3,none⟩=some (slice ty tm td):=x3;replace p0:wr.cell? ⟨b',o'+i*4,none⟩=some (.int .i64 a'):=p0;replace p1:wr.cell? ⟨b',o'+i*4+1,none⟩=some (.bool ss):=p1;replace p2:wr.cell? ⟨b',o'+i*4+2,none⟩=some (slice sx sn sc):=p2;replace p3:wr.cell? ⟨b',o'+i*4+3,none⟩=some (slice sy sm sd):=p3;replace CS:Hid (∀W,Bl wr W->Calls prog 16 #[.agg #[.bool ts,slice tx tn tc,slice ty tm td],.agg #[.bool ss,slice sx sn sc,slice sy sm sd]] W λe w'=>e=.returned (.bool q)/\Bl W w'):=CS;have i2:((i:Nat):Int)<((k:Nat):Int):=by omega
   have HR:=zk hr2;clear hr hr' hT hr2 hrr hq hca hcb hTi hTi' HI;go_upto_region 6 with fail
   by_cases haa:a=a'
   ·subst haa;have hne:(a != a)=false:=by simp
    have HT:=zk (show an=(q && eqf sxB (tex col T) (tex col' T') r (i+1))from by rw[hT2];simp);clear hT2;go_region_held3 (λw'=>w'.cell? ⟨b,o+i*4,none⟩=some (.int .i64 a)/\w'.cell? ⟨b,o+i*4+1,none⟩=some (.bool ts)/\w'.cell? ⟨b,o+i*4+2,none⟩=some (slice tx tn tc)/\w'.cell? ⟨b,o+i*4+3,none⟩=some (slice ty tm td)/\w'.cell? ⟨b',o'+i*4,none⟩=some (.int .i64 a)/\w'.cell? ⟨b',o'+i*4+1,none⟩=some (.bool ss)/\w'.cell? ⟨b',o'+i*4+2,none⟩=some (slice sx sn sc)/\w'.cell? ⟨b',o'+i*4+3,none⟩=some (slice sy sm sd))
     (refine⟨?_,?_,?_,?_,?_,?_,?_,?_⟩ <;> repeat(with_reducible first|assumption|refine kCd ?_|refine kCb (by assumption) ?_))
     ((go_at_call 16;with_reducible refine(CS.out _ (by repeat(with_reducible first|assumption|exact Below.refl _ _|refine zlE ?_|refine Below.drew ?_))).mono ?_;rintro e w5 ⟨rfl,hb5⟩))
    all_goals
     (have HW5:Hid (Bl w w5):=zk (HW.out.trans (Below.mono (show Bl wr w5 by repeat(with_reducible first|assumption|exact Below.refl _ _|refine zlE ?_|refine Below.drew ?_|refine kBb (by assumption) ?_)) HW.out.size))
      clear x0 x1 x2 x3 p0 p1 p2 p3 CS hb5;cases q
      ·go_wp2;go_ret;exact⟨by rw[HT.out];rfl,by first|exact HW5.out|exact HW5.out.drew|exact zH HW5.out _⟩
      ·go_wp2;go_roundw
       case rel=>exact⟨i+1,by omega,by go_num,(by first|exact HW5.out|exact HW5.out.drew|exact zH HW5.out _),by show _=_;rw[HT.out,HR.out];rfl⟩
       case measure=>simp[intOf];omega)
   ·have hne:(a != a')=true:=by simpa using haa
    have HF:=zk (show an=false from by rw[hT2];simp[haa]);clear hT2;refine wp_region_held_drew (S:=(λw'=>w'.cell? ⟨b,o+i*4,none⟩=some (.int .i64 a)/\w'.cell? ⟨b',o'+i*4,none⟩=some (.int .i64 a'))) (by kernel_rfl) ?_ (λhHeld=>?_)
    ·(refine⟨?_,?_⟩ <;> repeat(with_reducible first|assumption|refine kCd ?_))
    generalize hwd:wr.drew=wd at *;refine zK 0 ?_;refine zK 1 ?_;refine zK 2 ?_;refine zK 3 ?_;simp only[zA,Act.put];refine zK 4 ?_;refine zK 5 ?_;refine zK 6 ?_;refine zK 7 ?_;simp only[zA,Act.put];refine zK 8 ?_;refine zK 9 ?_;refine zK 10 ?_;refine zK 11 ?_;simp only[zA,Act.put];refine skO 12 ?_;refine skO 13 ?_;refine skO 14 ?_;refine skO 15 ?_;simp only[zA,Act.put];refine skO 16 ?_;refine skO 17 ?_;refine skO 18 ?_;refine skO 19 ?_;simp only[zA,Act.put];refine skO 20 ?_;refine skO 21 ?_;refine skO 22 ?_;refine skO 23 ?_;simp only[zA,Act.put];refine zK 24 ?_;simp only[zA,Act.put];refine dnO ?_;subst hwd;go_wp2;go_ret;exact⟨by rw[HF.out];rfl,HW.out.drew⟩
  ·have e1:i=k:=by omega
   have i2:¬(((i:Nat):Int)<((k:Nat):Int)):=by omega
   have HE:=zk (show an=true from by rw[HI.out,e1,Nat.sub_self];rfl);clear e1 HI;go_wp2;go_ret;exact⟨by rw[HE.out];rfl,HW.out⟩
theorem zpx {w:World} {a b:Mo} (ha:MoX w a) (hb:MoX w b):Calls prog 14 #[a.val,b.val] w λr w'=>r=.returned (.bool (smB a b))/\Bl w w':=by
 have CO:=zk (λw' (hw:Bl w w')=>zeJ (w:=w') (ha.off.q_ hw) (hb.off.q_ hw));obtain⟨tO,hto⟩:∃t,sqB a.off b.off=t:=⟨_,rfl⟩;rw[hto]at CO
 obtain⟨an,han⟩:∃t,smB a b=t:=⟨_,rfl⟩;rw[han];have HA:=zk (show an=(tO && (eqfB scB a.ck b.ck a.C b.C && eqfB srB a.rk b.rk a.R b.R))from by rw[<-han,smB,hto]);obtain⟨_,hC,hR,hck,hrk⟩:=ha;obtain⟨_,hC',hR',hck',hrk'⟩:=hb;clear han hto;obtain⟨⟨s,x,n,c,f,y,m,d,g⟩,ca,ck,cc,C,ra,rk,rc,R⟩:=a;obtain⟨⟨vs,vx,vn,vc,vf,vy,vm,vd,vg⟩,vca,vck,vcc,vC,vra,vrk,vrc,vR⟩:=b;replace hck:ck<=703687441776:=hck;replace hrk:rk<=837723144971:=hrk;replace hck':vck<=703687441776:=hck';replace hrk':vrk<=837723144971:=hrk';have HC:Hid (Cl9 w ca ck C):=hC;have HR:Hid (Rl9 w ra rk R):=hR;have HC':Hid (Cl9 w vca vck vC):=hC';have HR':Hid (Rl9 w vra vrk vR):=hR';replace HA:Hid (an=(tO && (eqfB scB ck vck C vC && eqfB srB rk vrk R vR))):=HA;replace CO:Hid (∀w' (hw:Bl w w'),Calls prog 16 #[.agg #[.bool s,slice x n c,slice y m d],.agg #[.bool vs,slice vx vn vc,slice vy vm vd]] w' λr w2=>r=.returned (.bool tO)/\Bl w' w2):=CO;clear hC hR hC' hR';show Calls prog 14 #[.agg #[.bool s,slice x n c,slice y m d,slice ca ck cc,slice ra rk rc],.agg #[.bool vs,slice vx vn vc,slice vy vm vd,slice vca vck vcc,slice vra vrk vrc]] w _;have h3:=zu (zu (Below.refl w.heap.size w) (cells #[.bool s,slice x n c,slice y m d,slice ca ck cc,slice ra rk rc] 28)) (cells #[.bool vs,slice vx vn vc,slice vy vm vd,slice vca vck vcc,slice vra vrk vrc] 28);have B1:=(zF w [.bool s,slice x n c,slice y m d,slice ca ck cc,slice ra rk rc] 28).q_ (zu (Below.refl _ _) (cells #[.bool vs,slice vx vn vc,slice vy vm vd,slice vca vck vcc,slice vra vrk vrc] 28));have B2:=zF (w.alloc (cells #[.bool s,slice x n c,slice y m d,slice ca ck cc,slice ra rk rc] 28)) [.bool vs,slice vx vn vc,slice vy vm vd,slice vca vck vcc,slice vra vrk vrc] 28;rw[zw]at B2
 replace B1:Bk ((w.alloc (cells #[.bool s,slice x n c,slice y m d,slice ca ck cc,slice ra rk rc] 28)).alloc (cells #[.bool vs,slice vx vn vc,slice vy vm vd,slice vca vck vcc,slice vra vrk vrc] 28)) w.heap.size [.bool s,slice x n c,slice y m d,slice ca ck cc,slice ra rk rc] 28:=B1;replace B2:Bk ((w.alloc (cells #[.bool s,slice x n c,slice y m d,slice ca ck cc,slice ra rk rc] 28)).alloc (cells #[.bool vs,slice vx vn vc,slice vy vm vd,slice vca vck vcc,slice vra vrk vrc] 28)) (w.heap.size+1) [.bool vs,slice vx vn vc,slice vy vm vd,slice vca vck vcc,slice vra vrk vrc] 28:=B2;go_enter func14,ntmps14;go_upto_region 1 with fail
 generalize(w.alloc (cells #[.bool s,slice x n c,slice y m d,slice ca ck cc,slice ra rk rc] 28)).alloc (cells #[.bool vs,slice vx vn vc,slice vy vm vd,slice vca vck vcc,slice vra vrk vrc] 28)=w1 at *;obtain⟨r0,r1,r2,r3,r4⟩:=bk5 B1;obtain⟨q0,q1,q2,q3,q4⟩:=bk5 B2;go_wp2_with fail
 refine(CO.out _ h3).mono ?_;rintro e w2 ⟨rfl,hb2⟩;have HW:=zk (h3.trans (hb2.mono h3.size));replace B1:=B1.q_ hb2;replace B2:=B2.q_ hb2
 clear hb2 h3 CO r0 r1 r2 r3 r4 q0 q1 q2 q3 q4;cases tO
 ·have HF:=zk (show an=false from by rw[HA.out];rfl);clear HA;go_wp2;go_ret;exact⟨by rw[HF.out];rfl,HW.out⟩
 obtain⟨r0,r1,r2,r3,r4⟩:=bk5 B1;obtain⟨q0,q1,q2,q3,q4⟩:=bk5 B2;by_cases h1:ck=vck
 case neg =>
  have HF:=zk (show an=false from by rw[HA.out,eqfB];simp[h1]);have e1:((ck:Int) != (vck:Int))=true:=by simp;omega
  clear HA;go_wp2;go_ret;exact⟨by rw[HF.out];rfl,HW.out⟩
 subst h1;have e1:((ck:Int) != (ck:Int))=false:=by simp
 by_cases h2:rk=vrk
 case neg =>
  have HF:=zk (show an=false from by rw[HA.out];simp[eqfB,h2]);have e2:((rk:Int) != (vrk:Int))=true:=by simp;omega
  clear HA;go_wp2;go_ret;exact⟨by rw[HF.out];rfl,HW.out⟩
 subst h2;have e2:((rk:Int) != (rk:Int))=false:=by simp
 replace HA:=zk (show an=(eqf scB C vC ck 0 && eqf srB R vR rk 0)from by rw[HA.out];simp[eqfB]);go_wp2_with fail
 go_loopw[38] (λt wr=>∃(i:Nat),i<=ck/\t=.int .i64 i/\Hid (Bl w2 wr)/\Hid (an=(eqf scB C vC (ck-i) i && eqf srB R vR rk 0))) (λt _=>ck-(intOf t).toNat)
 case atStart=>exact⟨0,by omega,rfl,Below.refl _ _,HA.out⟩
 case round =>
  obtain⟨i,hi,rfl,HB,HI⟩:=hrel;clear HA r0 r1 r2 r3 r4 q0 q1 q2 q3 q4;by_cases hlt:i<ck
  ·obtain⟨b,o,rfl,hc,hn⟩:=(HC.out.q_ (HW.out.trans (HB.out.mono HW.out.size))) i hlt;obtain⟨b',o',rfl,hc',hn'⟩:=(HC'.out.q_ (HW.out.trans (HB.out.mono HW.out.size))) i hlt;obtain⟨r,hr⟩:∃r,ck-i=r+1:=⟨ck-i-1,by omega⟩;have hr2:ck-(i+1)=r:=by omega
   obtain⟨t0,ht0⟩:∃t,sqB (C i).cost (vC i).cost=t:=⟨_,rfl⟩;have C0:=zk (λW (hW:Bl wr W)=>zeJ (w:=W) (hn.cost.q_ hW) (hn'.cost.q_ hW));rw[ht0]at C0
   obtain⟨t1,ht1⟩:∃t,sxB (C i).lo (vC i).lo=t:=⟨_,rfl⟩;have C1:=zk (λW (hW:Bl wr W)=>zev (w:=W) (hn.lo.q_ hW) (hn'.lo.q_ hW));rw[ht1]at C1
   obtain⟨t2,ht2⟩:∃t,sxB (C i).hi (vC i).hi=t:=⟨_,rfl⟩;have C2:=zk (λW (hW:Bl wr W)=>zev (w:=W) (hn.hi.q_ hW) (hn'.hi.q_ hW));rw[ht2]at C2
   have hT:an=((decide ((C i).nm=(vC i).nm) && (t0 && (t1 && t2))) && eqf scB C vC r (i+1) && eqf srB R vR rk 0):=by
    rw[HI.out,hr,<-ht0,<-ht1,<-ht2];rfl
   obtain⟨⟨z,⟨s0,x0,n0,c0,f0,y0,m0,d0,g0⟩,⟨i1,⟨s1,x1,n1,c1,f1,y1,m1,d1,g1⟩⟩,⟨i2,⟨s2,x2,n2,c2,f2,y2,m2,d2,g2⟩⟩⟩,hCi⟩:∃t,C i=t:=⟨_,rfl⟩;obtain⟨⟨vz,⟨vs0,vx0,vn0,vc0,vf0,vy0,vm0,vd0,vg0⟩,⟨vi1,⟨vs1,vx1,vn1,vc1,vf1,vy1,vm1,vd1,vg1⟩⟩,⟨vi2,⟨vs2,vx2,vn2,vc2,vf2,vy2,vm2,vd2,vg2⟩⟩⟩,hCi'⟩:∃t,vC i=t:=⟨_,rfl⟩;rw[hCi]at hc hT C0 C1 C2
   rw[hCi']at hc' hT C0 C1 C2
   replace hT:an=((decide (z=vz) && (t0 && (t1 && t2))) && eqf scB C vC r (i+1) && eqf srB R vR rk 0):=hT;replace C0:Hid (∀W (hW:Bl wr W),Calls prog 16 #[.agg #[.bool s0,slice x0 n0 c0,slice y0 m0 d0],.agg #[.bool vs0,slice vx0 vn0 vc0,slice vy0 vm0 vd0]] W λr w2=>r=.returned (.bool t0)/\Bl W w2):=C0;replace C1:Hid (∀W (hW:Bl wr W),Calls prog 20 #[.agg #[.int .i64 i1,.bool s1,slice x1 n1 c1,slice y1 m1 d1],.agg #[.int .i64 vi1,.bool vs1,slice vx1 vn1 vc1,slice vy1 vm1 vd1]] W λr w2=>r=.returned (.bool t1)/\Bl W w2):=C1;replace C2:Hid (∀W (hW:Bl wr W),Calls prog 20 #[.agg #[.int .i64 i2,.bool s2,slice x2 n2 c2,slice y2 m2 d2],.agg #[.int .i64 vi2,.bool vs2,slice vx2 vn2 vc2,slice vy2 vm2 vd2]] W λr w2=>r=.returned (.bool t2)/\Bl W w2):=C2;obtain⟨p0,p1,p2,p3,p4,p5,p6,p7,p8,p9,p10,p11⟩:=hc.lc;have u0':wr.cell? ⟨b',o'+i*12,none⟩=some (.string vz):=hc' 0 _ rfl;have u1':wr.cell? ⟨b',o'+i*12+1,none⟩=some (.bool vs0):=hc' 1 _ rfl;have u2':wr.cell? ⟨b',o'+i*12+2,none⟩=some (slice vx0 vn0 vc0):=hc' 2 _ rfl;have u3':wr.cell? ⟨b',o'+i*12+3,none⟩=some (slice vy0 vm0 vd0):=hc' 3 _ rfl;have u4':wr.cell? ⟨b',o'+i*12+4,none⟩=some (.int .i64 vi1):=hc' 4 _ rfl;have u5':wr.cell? ⟨b',o'+i*12+5,none⟩=some (.bool vs1):=hc' 5 _ rfl;have u6':wr.cell? ⟨b',o'+i*12+6,none⟩=some (slice vx1 vn1 vc1):=hc' 6 _ rfl;have u7':wr.cell? ⟨b',o'+i*12+7,none⟩=some (slice vy1 vm1 vd1):=hc' 7 _ rfl;have u8':wr.cell? ⟨b',o'+i*12+8,none⟩=some (.int .i64 vi2):=hc' 8 _ rfl;have u9':wr.cell? ⟨b',o'+i*12+9,none⟩=some (.bool vs2):=hc' 9 _ rfl;have u10':wr.cell? ⟨b',o'+i*12+10,none⟩=some (slice vx2 vn2 vc2):=hc' 10 _ rfl;have u11':wr.cell? ⟨b',o'+i*12+11,none⟩=some (slice vy2 vm2 vd2):=hc' 11 _ rfl;have k9:=(B2.q_ HB.out).cell (j:=3) rfl;have hkl:=(B2.q_ HB.out).lt;have hcl:=block_lt_of_cell? wr _ u0';replace hcl:b'<wr.heap.size:=hcl;have k95:(wr.alloc (cells #[.string z,.bool s0,slice x0 n0 c0,slice y0 m0 d0,.int .i64 i1,.bool s1,slice x1 n1 c1,slice y1 m1 d1,.int .i64 i2,.bool s2,slice x2 n2 c2,slice y2 m2 d2] 60)).cell? ⟨w.heap.size+1,3,none⟩=some (slice (some ⟨b',o',none⟩) ck vcc):=kCa k9;have u05:(wr.alloc (cells #[.string z,.bool s0,slice x0 n0 c0,slice y0 m0 d0,.int .i64 i1,.bool s1,slice x1 n1 c1,slice y1 m1 d1,.int .i64 i2,.bool s2,slice x2 n2 c2,slice y2 m2 d2] 60)).cell? ⟨b',o'+i*12,none⟩=some (.string vz):=kCa u0';have u15:(wr.alloc (cells #[.string z,.bool s0,slice x0 n0 c0,slice y0 m0 d0,.int .i64 i1,.bool s1,slice x1 n1 c1,slice y1 m1 d1,.int .i64 i2,.bool s2,slice x2 n2 c2,slice y2 m2 d2] 60)).cell? ⟨b',o'+i*12+1,none⟩=some (.bool vs0):=kCa u1';have u25:(wr.alloc (cells #[.string z,.bool s0,slice x0 n0 c0,slice y0 m0 d0,.int .i64 i1,.bool s1,slice x1 n1 c1,slice y1 m1 d1,.int .i64 i2,.bool s2,slice x2 n2 c2,slice y2 m2 d2] 60)).cell? ⟨b',o'+i*12+2,none⟩=some (slice vx0 vn0 vc0):=kCa u2';have u35:(wr.alloc (cells #[.string z,.bool s0,slice x0 n0 c0,slice y0 m0 d0,.int .i64 i1,.bool s1,slice x1 n1 c1,slice y1 m1 d1,.int .i64 i2,.bool s2,slice x2 n2 c2,slice y2 m2 d2] 60)).cell? ⟨b',o'+i*12+3,none⟩=some (slice vy0 vm0 vd0):=kCa u3';have u45:(wr.alloc (cells #[.string z,.bool s0,slice x0 n0 c0,slice y0 m0 d0,.int .i64 i1,.bool s1,slice x1 n1 c1,slice y1 m1 d1,.int .i64 i2,.bool s2,slice x2 n2 c2,slice y2 m2 d2] 60)).cell? ⟨b',o'+i*12+4,none⟩=some (.int .i64 vi1):=kCa u4';have u55:(wr.alloc (cells #[.string z,.bool s0,slice x0 n0 c0,slice y0 m0 d0,.int .i64 i1,.bool s1,slice x1 n1 c1,slice y1 m1 d1,.int .i64 i2,.bool s2,slice x2 n2 c2,slice y2 m2 d2] 60)).cell? ⟨b',o'+i*12+5,none⟩=some (.bool vs1):=kCa u5';have u65:(wr.alloc (cells #[.string z,.bool s0,slice x0 n0 c0,slice y0 m0 d0,.int .i64 i1,.bool s1,slice x1 n1 c1,slice y1 m1 d1,.int .i64 i2,.bool s2,slice x2 n2 c2,slice y2 m2 d2] 60)).cell? ⟨b',o'+i*12+6,none⟩=some (slice vx1 vn1 vc1):=kCa u6';have u75:(wr.alloc (cells #[.string z,.bool s0,slice x0 n0 c0,slice y0 m0 d0,.int .i64 i1,.bool s1,slice x1 n1 c1,slice y1 m1 d1,.int .i64 i2,.bool s2,slice x2 n2 c2,slice y2 m2 d2] 60)).cell? ⟨b',o'+i*12+7,none⟩=some (slice vy1 vm1 vd1):=kCa u7';have u85:(wr.alloc (cells #[.string z,.bool s0,slice x0 n0 c0,slice y0 m0 d0,.int .i64 i1,.bool s1,slice x1 n1 c1,slice y1 m1 d1,.int .i64 i2,.bool s2,slice x2 n2 c2,slice y2 m2 d2] 60)).cell? ⟨b',o'+i*12+8,none⟩=some (.int .i64 vi2):=kCa u8';have u95:(wr.alloc (cells #[.string z,.bool s0,slice x0 n0 c0,slice y0 m0 d0,.int .i64 i1,.bool s1,slice x1 n1 c1,slice y1 m1 d1,.int .i64 i2,.bool s2,slice x2 n2 c2,slice y2 m2 d2] 60)).cell? ⟨b',o'+i*12+9,none⟩=some (.bool vs2):=kCa u9';have u105:(wr.alloc (cells #[.string z,.bool s0,slice x0 n0 c0,slice y0 m0 d0,.int .i64 i1,.bool s1,slice x1 n1 c1,slice y1 m1 d1,.int .i64 i2,.bool s2,slice x2 n2 c2,slice y2 m2 d2] 60)).cell? ⟨b',o'+i*12+10,none⟩=some (slice vx2 vn2 vc2):=kCa u10';have u115:(wr.alloc (cells #[.string z,.bool s0,slice x0 n0 c0,slice y0 m0 d0,.int .i64 i1,.bool s1,slice x1 n1 c1,slice y1 m1 d1,.int .i64 i2,.bool s2,slice x2 n2 c2,slice y2 m2 d2] 60)).cell? ⟨b',o'+i*12+11,none⟩=some (slice vy2 vm2 vd2):=kCa u11';have i1':((i:Nat):Int)<((ck:Nat):Int):=by omega
   have HRR:=zk hr2;have HT:=zk hT;clear hCi hCi' hc hc' hn hn' hr hr2 hT HI ht0 ht1 ht2;go_upto_region 7 with fail
   have h5:=zu (zu (Below.refl wr.heap.size wr) (cells #[.string z,.bool s0,slice x0 n0 c0,slice y0 m0 d0,.int .i64 i1,.bool s1,slice x1 n1 c1,slice y1 m1 d1,.int .i64 i2,.bool s2,slice x2 n2 c2,slice y2 m2 d2] 60)) (cells #[.string vz,.bool vs0,slice vx0 vn0 vc0,slice vy0 vm0 vd0,.int .i64 vi1,.bool vs1,slice vx1 vn1 vc1,slice vy1 vm1 vd1,.int .i64 vi2,.bool vs2,slice vx2 vn2 vc2,slice vy2 vm2 vd2] 60);have D1:=(zF wr [.string z,.bool s0,slice x0 n0 c0,slice y0 m0 d0,.int .i64 i1,.bool s1,slice x1 n1 c1,slice y1 m1 d1,.int .i64 i2,.bool s2,slice x2 n2 c2,slice y2 m2 d2] 60).q_ (zu (Below.refl _ _) (cells #[.string vz,.bool vs0,slice vx0 vn0 vc0,slice vy0 vm0 vd0,.int .i64 vi1,.bool vs1,slice vx1 vn1 vc1,slice vy1 vm1 vd1,.int .i64 vi2,.bool vs2,slice vx2 vn2 vc2,slice vy2 vm2 vd2] 60));have D2:=zF (wr.alloc (cells #[.string z,.bool s0,slice x0 n0 c0,slice y0 m0 d0,.int .i64 i1,.bool s1,slice x1 n1 c1,slice y1 m1 d1,.int .i64 i2,.bool s2,slice x2 n2 c2,slice y2 m2 d2] 60)) [.string vz,.bool vs0,slice vx0 vn0 vc0,slice vy0 vm0 vd0,.int .i64 vi1,.bool vs1,slice vx1 vn1 vc1,slice vy1 vm1 vd1,.int .i64 vi2,.bool vs2,slice vx2 vn2 vc2,slice vy2 vm2 vd2] 60;rw[zw]at D2
   replace D1:Bk ((wr.alloc (cells #[.string z,.bool s0,slice x0 n0 c0,slice y0 m0 d0,.int .i64 i1,.bool s1,slice x1 n1 c1,slice y1 m1 d1,.int .i64 i2,.bool s2,slice x2 n2 c2,slice y2 m2 d2] 60)).alloc (cells #[.string vz,.bool vs0,slice vx0 vn0 vc0,slice vy0 vm0 vd0,.int .i64 vi1,.bool vs1,slice vx1 vn1 vc1,slice vy1 vm1 vd1,.int .i64 vi2,.bool vs2,slice vx2 vn2 vc2,slice vy2 vm2 vd2] 60)) wr.heap.size [.string z,.bool s0,slice x0 n0 c0,slice y0 m0 d0,.int .i64 i1,.bool s1,slice x1 n1 c1,slice y1 m1 d1,.int .i64 i2,.bool s2,slice x2 n2 c2,slice y2 m2 d2] 60:=D1;replace D2:Bk ((wr.alloc (cells #[.string z,.bool s0,slice x0 n0 c0,slice y0 m0 d0,.int .i64 i1,.bool s1,slice x1 n1 c1,slice y1 m1 d1,.int .i64 i2,.bool s2,slice x2 n2 c2,slice y2 m2 d2] 60)).alloc (cells #[.string vz,.bool vs0,slice vx0 vn0 vc0,slice vy0 vm0 vd0,.int .i64 vi1,.bool vs1,slice vx1 vn1 vc1,slice vy1 vm1 vd1,.int .i64 vi2,.bool vs2,slice vx2 vn2 vc2,slice vy2 vm2 vd2] 60)) (wr.heap.size+1) [.string vz,.bool vs0,slice vx0 vn0 vc0,slice vy0 vm0 vd0,.int .i64 vi1,.bool vs1,slice vx1 vn1 vc1,slice vy1 vm1 vd1,.int .i64 vi2,.bool vs2,slice vx2 vn2 vc2,slice vy2 vm2 vd2] 60:=D2;clear p0 p1 p2 p3 p4 p5 p6 p7 p8 p9 p10 p11 u0' u1' u2' u3' u4' u5' u6' u7' u8' u9' u10' u11' u05 u15 u25 u35 u45 u55 u65 u75 u85 u95 u105 u115 k9 k95;generalize(wr.alloc (cells #[.string z,.bool s0,slice x0 n0 c0,slice y0 m0 d0,.int .i64 i1,.bool s1,slice x1 n1 c1,slice y1 m1 d1,.int .i64 i2,.bool s2,slice x2 n2 c2,slice y2 m2 d2] 60)).alloc (cells #[.string vz,.bool vs0,slice vx0 vn0 vc0,slice vy0 vm0 vd0,.int .i64 vi1,.bool vs1,slice vx1 vn1 vc1,slice vy1 vm1 vd1,.int .i64 vi2,.bool vs2,slice vx2 vn2 vc2,slice vy2 vm2 vd2] 60)=w5 at *;obtain⟨a0,a1,a2,a3,a4,a5,a6,a7,a8,a9,a10,a11⟩:=zeg D1;obtain⟨b0,b1,b2,b3,b4,b5,b6,b7,b8,b9,b10,b11⟩:=zeg D2;by_cases hz:z=vz
   case neg =>
    have hne:=zgE hz;have HF:=zk (show an=false from by rw[HT.out];simp[hz]);go_wp2;go_ret;exact⟨by rw[HF.out];rfl,HW.out.trans ((HB.out.trans ((h5).mono HB.out.size)).mono HW.out.size)⟩
   subst hz;replace HT:=zk (show an=((t0 && (t1 && t2)) && eqf scB C vC r (i+1) && eqf srB R vR rk 0)from by rw[HT.out];simp);go_wp2_with fail
   refine(C0.out _ h5).mono ?_;rintro e w6 ⟨rfl,hb6⟩;have h51:=zk (h5.trans (hb6.mono h5.size));replace D1:=D1.q_ hb6;replace D2:=D2.q_ hb6
   clear a0 a1 a2 a3 a4 a5 a6 a7 a8 a9 a10 a11 b0 b1 b2 b3 b4 b5 b6 b7 b8 b9 b10 b11 C0 hb6;cases t0
   ·have HF:=zk (show an=false from by rw[HT.out];simp);go_wp2;go_ret;exact⟨by rw[HF.out];rfl,HW.out.trans ((HB.out.trans ((h51.out).mono HB.out.size)).mono HW.out.size)⟩
   obtain⟨a0,a1,a2,a3,a4,a5,a6,a7,a8,a9,a10,a11⟩:=zeg D1;obtain⟨b0,b1,b2,b3,b4,b5,b6,b7,b8,b9,b10,b11⟩:=zeg D2;go_wp2_with fail
   refine(C1.out _ h51.out).mono ?_;rintro e w7 ⟨rfl,hb7⟩;have h52:=zk (h51.out.trans (hb7.mono h51.out.size));replace D1:=D1.q_ hb7;replace D2:=D2.q_ hb7
   clear a0 a1 a2 a3 a4 a5 a6 a7 a8 a9 a10 a11 b0 b1 b2 b3 b4 b5 b6 b7 b8 b9 b10 b11 C1 hb7;cases t1
   ·have HF:=zk (show an=false from by rw[HT.out];simp);go_wp2;go_ret;exact⟨by rw[HF.out];rfl,HW.out.trans ((HB.out.trans ((h52.out).mono HB.out.size)).mono HW.out.size)⟩
   obtain⟨a0,a1,a2,a3,a4,a5,a6,a7,a8,a9,a10,a11⟩:=zeg D1;obtain⟨b0,b1,b2,b3,b4,b5,b6,b7,b8,b9,b10,b11⟩:=zeg D2;go_wp2_with fail
   refine(C2.out _ h52.out).mono ?_;rintro e w8 ⟨rfl,hb8⟩;have h53:=zk (h52.out.trans (hb8.mono h52.out.size));replace D1:=D1.q_ hb8;replace D2:=D2.q_ hb8
   clear a0 a1 a2 a3 a4 a5 a6 a7 a8 a9 a10 a11 b0 b1 b2 b3 b4 b5 b6 b7 b8 b9 b10 b11 C2 hb8;cases t2
   ·have HF:=zk (show an=false from by rw[HT.out];simp);go_wp2;go_ret;exact⟨by rw[HF.out];rfl,HW.out.trans ((HB.out.trans ((h53.out).mono HB.out.size)).mono HW.out.size)⟩
   have HB9:=zk (HB.out.trans (h53.out.mono HB.out.size));go_wp2;go_roundw
   case rel=>exact⟨i+1,by omega,by go_num,HB9.out,by show _=_;rw[HT.out,HRR.out];simp⟩
   case measure=>simp[intOf];omega
  ·have e3:i=ck:=by omega
   have i2:¬(((i:Nat):Int)<((ck:Nat):Int)):=by omega
   have HA2:=zk (show an=eqf srB R vR rk 0 from by rw[HI.out,e3,Nat.sub_self];rfl);have HW2:=zk (HW.out.trans (HB.out.mono HW.out.size));replace B1:=B1.q_ HB.out;replace B2:=B2.q_ HB.out
   clear e3 HI HB HC HC';obtain⟨r0,r1,r2,r3,r4⟩:=bk5 B1;obtain⟨q0,q1,q2,q3,q4⟩:=bk5 B2;generalize wr=wa at *;go_wp2_with fail
   go_loopw[81] (λt wr=>∃(i:Nat),i<=rk/\t=.int .i64 i/\Hid (Bl wa wr)/\Hid (an=eqf srB R vR (rk-i) i)) (λt _=>rk-(intOf t).toNat)
   case atStart=>exact⟨0,by omega,rfl,Below.refl _ _,HA2.out⟩
   case round =>
    obtain⟨i,hi,rfl,HB,HI⟩:=hrel;clear HA2 r0 r1 r2 r3 r4 q0 q1 q2 q3 q4;by_cases hlt:i<rk
    ·obtain⟨b,o,rfl,hc,hn⟩:=(HR.out.q_ (HW2.out.trans (HB.out.mono HW2.out.size))) i hlt;obtain⟨b',o',rfl,hc',hn'⟩:=(HR'.out.q_ (HW2.out.trans (HB.out.mono HW2.out.size))) i hlt;obtain⟨r,hr⟩:∃r,rk-i=r+1:=⟨rk-i-1,by omega⟩;have hr2:rk-(i+1)=r:=by omega
     obtain⟨t0,ht0⟩:∃t,sxB (R i).lo (vR i).lo=t:=⟨_,rfl⟩;have C0:=zk (λW (hW:Bl wr W)=>zev (w:=W) (hn.lo.q_ hW) (hn'.lo.q_ hW));rw[ht0]at C0
     obtain⟨t1,ht1⟩:∃t,sxB (R i).hi (vR i).hi=t:=⟨_,rfl⟩;have C1:=zk (λW (hW:Bl wr W)=>zev (w:=W) (hn.hi.q_ hW) (hn'.hi.q_ hW));rw[ht1]at C1
     obtain⟨t2,ht2⟩:∃t,eqfB sxB (R i).tk (vR i).tk (tex (R i).col (R i).T) (tex (vR i).col (vR i).T)=t:=⟨_,rfl⟩;have C2:=zk (λW (hW:Bl wr W)=>zoO (w:=W) (ca:=(R i).tc) (cb:=(vR i).tc) (hn.tr.q_ hW) hn.tn (hn'.tr.q_ hW) hn'.tn hn.tk hn'.tk);rw[ht2]at C2
     have hT:an=((decide ((R i).nm=(vR i).nm) && (t0 && (t1 && t2))) && eqf srB R vR r (i+1)):=by
      rw[HI.out,hr,<-ht0,<-ht1,<-ht2];rfl
     obtain⟨⟨z,⟨i1,⟨s1,x1,n1,c1,f1,y1,m1,d1,g1⟩⟩,⟨i2,⟨s2,x2,n2,c2,f2,y2,m2,d2,g2⟩⟩,ta,tk,tc,tcol,tt⟩,hCi⟩:∃t,R i=t:=⟨_,rfl⟩;obtain⟨⟨vz,⟨vi1,⟨vs1,vx1,vn1,vc1,vf1,vy1,vm1,vd1,vg1⟩⟩,⟨vi2,⟨vs2,vx2,vn2,vc2,vf2,vy2,vm2,vd2,vg2⟩⟩,vta,vtk,vtc,vtcol,vtt⟩,hCi'⟩:∃t,vR i=t:=⟨_,rfl⟩;rw[hCi]at hc hT C0 C1 C2
     rw[hCi']at hc' hT C0 C1 C2
     replace hT:an=((decide (z=vz) && (t0 && (t1 && t2))) && eqf srB R vR r (i+1)):=hT;replace C0:Hid (∀W (hW:Bl wr W),Calls prog 20 #[.agg #[.int .i64 i1,.bool s1,slice x1 n1 c1,slice y1 m1 d1],.agg #[.int .i64 vi1,.bool vs1,slice vx1 vn1 vc1,slice vy1 vm1 vd1]] W λr w2=>r=.returned (.bool t0)/\Bl W w2):=C0;replace C1:Hid (∀W (hW:Bl wr W),Calls prog 20 #[.agg #[.int .i64 i2,.bool s2,slice x2 n2 c2,slice y2 m2 d2],.agg #[.int .i64 vi2,.bool vs2,slice vx2 vn2 vc2,slice vy2 vm2 vd2]] W λr w2=>r=.returned (.bool t1)/\Bl W w2):=C1;replace C2:Hid (∀W (hW:Bl wr W),Calls prog 45 #[slice ta tk tc,slice vta vtk vtc] W λr w2=>r=.returned (.bool t2)/\Bl W w2):=C2;obtain⟨p0,p1,p2,p3,p4,p5,p6,p7,p8,p9⟩:=hc.lr;have u0':wr.cell? ⟨b',o'+i*10,none⟩=some (.string vz):=hc' 0 _ rfl;have u1':wr.cell? ⟨b',o'+i*10+1,none⟩=some (.int .i64 vi1):=hc' 1 _ rfl;have u2':wr.cell? ⟨b',o'+i*10+2,none⟩=some (.bool vs1):=hc' 2 _ rfl;have u3':wr.cell? ⟨b',o'+i*10+3,none⟩=some (slice vx1 vn1 vc1):=hc' 3 _ rfl;have u4':wr.cell? ⟨b',o'+i*10+4,none⟩=some (slice vy1 vm1 vd1):=hc' 4 _ rfl;have u5':wr.cell? ⟨b',o'+i*10+5,none⟩=some (.int .i64 vi2):=hc' 5 _ rfl;have u6':wr.cell? ⟨b',o'+i*10+6,none⟩=some (.bool vs2):=hc' 6 _ rfl;have u7':wr.cell? ⟨b',o'+i*10+7,none⟩=some (slice vx2 vn2 vc2):=hc' 7 _ rfl;have u8':wr.cell? ⟨b',o'+i*10+8,none⟩=some (slice vy2 vm2 vd2):=hc' 8 _ rfl;have u9':wr.cell? ⟨b',o'+i*10+9,none⟩=some (slice vta vtk vtc):=hc' 9 _ rfl;have k9:=(B2.q_ HB.out).cell (j:=4) rfl;have hkl:=(B2.q_ HB.out).lt;have hcl:=block_lt_of_cell? wr _ u0';replace hcl:b'<wr.heap.size:=hcl;have k95:(wr.alloc (cells #[.string z,.int .i64 i1,.bool s1,slice x1 n1 c1,slice y1 m1 d1,.int .i64 i2,.bool s2,slice x2 n2 c2,slice y2 m2 d2,slice ta tk tc] 63)).cell? ⟨w.heap.size+1,4,none⟩=some (slice (some ⟨b',o',none⟩) rk vrc):=kCa k9;have u05:(wr.alloc (cells #[.string z,.int .i64 i1,.bool s1,slice x1 n1 c1,slice y1 m1 d1,.int .i64 i2,.bool s2,slice x2 n2 c2,slice y2 m2 d2,slice ta tk tc] 63)).cell? ⟨b',o'+i*10,none⟩=some (.string vz):=kCa u0';have u15:(wr.alloc (cells #[.string z,.int .i64 i1,.bool s1,slice x1 n1 c1,slice y1 m1 d1,.int .i64 i2,.bool s2,slice x2 n2 c2,slice y2 m2 d2,slice ta tk tc] 63)).cell? ⟨b',o'+i*10+1,none⟩=some (.int .i64 vi1):=kCa u1';have u25:(wr.alloc (cells #[.string z,.int .i64 i1,.bool s1,slice x1 n1 c1,slice y1 m1 d1,.int .i64 i2,.bool s2,slice x2 n2 c2,slice y2 m2 d2,slice ta tk tc] 63)).cell? ⟨b',o'+i*10+2,none⟩=some (.bool vs1):=kCa u2';have u35:(wr.alloc (cells #[.string z,.int .i64 i1,.bool s1,slice x1 n1 c1,slice y1 m1 d1,.int .i64 i2,.bool s2,slice x2 n2 c2,slice y2 m2 d2,slice ta tk tc] 63)).cell? ⟨b',o'+i*10+3,none⟩=some (slice vx1 vn1 vc1):=kCa u3';have u45:(wr.alloc (cells #[.string z,.int .i64 i1,.bool s1,slice x1 n1 c1,slice y1 m1 d1,.int .i64 i2,.bool s2,slice x2 n2 c2,slice y2 m2 d2,slice ta tk tc] 63)).cell? ⟨b',o'+i*10+4,none⟩=some (slice vy1 vm1 vd1):=kCa u4';have u55:(wr.alloc (cells #[.string z,.int .i64 i1,.bool s1,slice x1 n1 c1,slice y1 m1 d1,.int .i64 i2,.bool s2,slice x2 n2 c2,slice y2 m2 d2,slice ta tk tc] 63)).cell? ⟨b',o'+i*10+5,none⟩=some (.int .i64 vi2):=kCa u5';have u65:(wr.alloc (cells #[.string z,.int .i64 i1,.bool s1,slice x1 n1 c1,slice y1 m1 d1,.int .i64 i2,.bool s2,slice x2 n2 c2,slice y2 m2 d2,slice ta tk tc] 63)).cell? ⟨b',o'+i*10+6,none⟩=some (.bool vs2):=kCa u6';have u75:(wr.alloc (cells #[.string z,.int .i64 i1,.bool s1,slice x1 n1 c1,slice y1 m1 d1,.int .i64 i2,.bool s2,slice x2 n2 c2,slice y2 m2 d2,slice ta tk tc] 63)).cell? ⟨b',o'+i*10+7,none⟩=some (slice vx2 vn2 vc2):=kCa u7';have u85:(wr.alloc (cells #[.string z,.int .i64 i1,.bool s1,slice x1 n1 c1,slice y1 m1 d1,.int .i64 i2,.bool s2,slice x2 n2 c2,slice y2 m2 d2,slice ta tk tc] 63)).cell? ⟨b',o'+i*10+8,none⟩=some (slice vy2 vm2 vd2):=kCa u8';have u95:(wr.alloc (cells #[.string z,.int .i64 i1,.bool s1,slice x1 n1 c1,slice y1 m1 d1,.int .i64 i2,.bool s2,slice x2 n2 c2,slice y2 m2 d2,slice ta tk tc] 63)).cell? ⟨b',o'+i*10+9,none⟩=some (slice vta vtk vtc):=kCa u9';have i1':((i:Nat):Int)<((rk:Nat):Int):=by omega
     have HRR:=zk hr2;have HT:=zk hT;clear hCi hCi' hc hc' hn hn' hr hr2 hT HI ht0 ht1 ht2;go_upto_region 14 with fail
     have h5:=zu (zu (Below.refl wr.heap.size wr) (cells #[.string z,.int .i64 i1,.bool s1,slice x1 n1 c1,slice y1 m1 d1,.int .i64 i2,.bool s2,slice x2 n2 c2,slice y2 m2 d2,slice ta tk tc] 63)) (cells #[.string vz,.int .i64 vi1,.bool vs1,slice vx1 vn1 vc1,slice vy1 vm1 vd1,.int .i64 vi2,.bool vs2,slice vx2 vn2 vc2,slice vy2 vm2 vd2,slice vta vtk vtc] 63);have D1:=(zF wr [.string z,.int .i64 i1,.bool s1,slice x1 n1 c1,slice y1 m1 d1,.int .i64 i2,.bool s2,slice x2 n2 c2,slice y2 m2 d2,slice ta tk tc] 63).q_ (zu (Below.refl _ _) (cells #[.string vz,.int .i64 vi1,.bool vs1,slice vx1 vn1 vc1,slice vy1 vm1 vd1,.int .i64 vi2,.bool vs2,slice vx2 vn2 vc2,slice vy2 vm2 vd2,slice vta vtk vtc] 63));have D2:=zF (wr.alloc (cells #[.string z,.int .i64 i1,.bool s1,slice x1 n1 c1,slice y1 m1 d1,.int .i64 i2,.bool s2,slice x2 n2 c2,slice y2 m2 d2,slice ta tk tc] 63)) [.string vz,.int .i64 vi1,.bool vs1,slice vx1 vn1 vc1,slice vy1 vm1 vd1,.int .i64 vi2,.bool vs2,slice vx2 vn2 vc2,slice vy2 vm2 vd2,slice vta vtk vtc] 63;rw[zw]at D2
     replace D1:Bk ((wr.alloc (cells #[.string z,.int .i64 i1,.bool s1,slice x1 n1 c1,slice y1 m1 d1,.int .i64 i2,.bool s2,slice x2 n2 c2,slice y2 m2 d2,slice ta tk tc] 63)).alloc (cells #[.string vz,.int .i64 vi1,.bool vs1,slice vx1 vn1 vc1,slice vy1 vm1 vd1,.int .i64 vi2,.bool vs2,slice vx2 vn2 vc2,slice vy2 vm2 vd2,slice vta vtk vtc] 63)) wr.heap.size [.string z,.int .i64 i1,.bool s1,slice x1 n1 c1,slice y1 m1 d1,.int .i64 i2,.bool s2,slice x2 n2 c2,slice y2 m2 d2,slice ta tk tc] 63:=D1;replace D2:Bk ((wr.alloc (cells #[.string z,.int .i64 i1,.bool s1,slice x1 n1 c1,slice y1 m1 d1,.int .i64 i2,.bool s2,slice x2 n2 c2,slice y2 m2 d2,slice ta tk tc] 63)).alloc (cells #[.string vz,.int .i64 vi1,.bool vs1,slice vx1 vn1 vc1,slice vy1 vm1 vd1,.int .i64 vi2,.bool vs2,slice vx2 vn2 vc2,slice vy2 vm2 vd2,slice vta vtk vtc] 63)) (wr.heap.size+1) [.string vz,.int .i64 vi1,.bool vs1,slice vx1 vn1 vc1,slice vy1 vm1 vd1,.int .i64 vi2,.bool vs2,slice vx2 vn2 vc2,slice vy2 vm2 vd2,slice vta vtk vtc] 63:=D2;clear p0 p1 p2 p3 p4 p5 p6 p7 p8 p9 u0' u1' u2' u3' u4' u5' u6' u7' u8' u9' u05 u15 u25 u35 u45 u55 u65 u75 u85 u95 k9 k95;generalize(wr.alloc (cells #[.string z,.int .i64 i1,.bool s1,slice x1 n1 c1,slice y1 m1 d1,.int .i64 i2,.bool s2,slice x2 n2 c2,slice y2 m2 d2,slice ta tk tc] 63)).alloc (cells #[.string vz,.int .i64 vi1,.bool vs1,slice vx1 vn1 vc1,slice vy1 vm1 vd1,.int .i64 vi2,.bool vs2,slice vx2 vn2 vc2,slice vy2 vm2 vd2,slice vta vtk vtc] 63)=w5 at *;obtain⟨a0,a1,a2,a3,a4,a5,a6,a7,a8,a9⟩:=zeh D1;obtain⟨b0,b1,b2,b3,b4,b5,b6,b7,b8,b9⟩:=zeh D2;by_cases hz:z=vz
     case neg =>
      have hne:=zgE hz;have HF:=zk (show an=false from by rw[HT.out];simp[hz]);go_wp2;go_ret;exact⟨by rw[HF.out];rfl,HW2.out.trans ((HB.out.trans ((h5).mono HB.out.size)).mono HW2.out.size)⟩
     subst hz;replace HT:=zk (show an=((t0 && (t1 && t2)) && eqf srB R vR r (i+1))from by rw[HT.out];simp);go_wp2_with fail
     refine(C0.out _ h5).mono ?_;rintro e w6 ⟨rfl,hb6⟩;have h51:=zk (h5.trans (hb6.mono h5.size));replace D1:=D1.q_ hb6;replace D2:=D2.q_ hb6
     clear a0 a1 a2 a3 a4 a5 a6 a7 a8 a9 b0 b1 b2 b3 b4 b5 b6 b7 b8 b9 C0 hb6;cases t0
     ·have HF:=zk (show an=false from by rw[HT.out];simp);go_wp2;go_ret;exact⟨by rw[HF.out];rfl,HW2.out.trans ((HB.out.trans ((h51.out).mono HB.out.size)).mono HW2.out.size)⟩
     obtain⟨a0,a1,a2,a3,a4,a5,a6,a7,a8,a9⟩:=zeh D1;obtain⟨b0,b1,b2,b3,b4,b5,b6,b7,b8,b9⟩:=zeh D2;go_wp2_with fail
     refine(C1.out _ h51.out).mono ?_;rintro e w7 ⟨rfl,hb7⟩;have h52:=zk (h51.out.trans (hb7.mono h51.out.size));replace D1:=D1.q_ hb7;replace D2:=D2.q_ hb7
     clear a0 a1 a2 a3 a4 a5 a6 a7 a8 a9 b0 b1 b2 b3 b4 b5 b6 b7 b8 b9 C1 hb7;cases t1
     ·have HF:=zk (show an=false from by rw[HT.out];simp);go_wp2;go_ret;exact⟨by rw[HF.out];rfl,HW2.out.trans ((HB.out.trans ((h52.out).mono HB.out.size)).mono HW2.out.size)⟩
     obtain⟨a0,a1,a2,a3,a4,a5,a6,a7,a8,a9⟩:=zeh D1;obtain⟨b0,b1,b2,b3,b4,b5,b6,b7,b8,b9⟩:=zeh D2;go_wp2_with fail
     refine(C2.out _ h52.out).mono ?_;rintro e w8 ⟨rfl,hb8⟩;have h53:=zk (h52.out.trans (hb8.mono h52.out.size));replace D1:=D1.q_ hb8;replace D2:=D2.q_ hb8
     clear a0 a1 a2 a3 a4 a5 a6 a7 a8 a9 b0 b1 b2 b3 b4 b5 b6 b7 b8 b9 C2 hb8;cases t2
     ·have HF:=zk (show an=false from by rw[HT.out];simp);go_wp2;go_ret;exact⟨by rw[HF.out];rfl,HW2.out.trans ((HB.out.trans ((h53.out).mono HB.out.size)).mono HW2.out.size)⟩
     have HB9:=zk (HB.out.trans (h53.out.mono HB.out.size));go_wp2;go_roundw
     case rel=>exact⟨i+1,by omega,by go_num,HB9.out,by show _=_;rw[HT.out,HRR.out];simp⟩
     case measure=>simp[intOf];omega
    ·have e3:i=rk:=by omega
     have i2:¬(((i:Nat):Int)<((rk:Nat):Int)):=by omega
     have HT:=zk (show an=true from by rw[HI.out,e3,Nat.sub_self];rfl);have HW3:=zk (HW2.out.trans (HB.out.mono HW2.out.size));clear e3 HI HB;go_wp2;go_ret;exact⟨by rw[HT.out];rfl,HW3.out⟩
def KW (L:Nat):Nat:=4*L+2*KE L+3
structure ztC (w:World) (M:Mo) (ao:Option Addr) (k:Nat) (X:Nat->Nm):Prop where
 i:In8 w M
 hx:Rl w ao k X
 sx:ShK 8 k X
theorem zgJ {w M M' ao k cap X X'} (h:TmK 8 w M M') (hN:MoN M) (hx:Tx w ao k X X') (hs:ShK 8 k X) :
  Calls prog 10 #[M'.val,slice ao k cap] w λe w'=>zou 8 w w' e (zbA M k X) (zbj M) (zbq M) (zbh k X) :=
 zjD h.2.1 hx.1 (by have:=hs.1;omega) (zfC h hx) (λhe=>zhg 8 (by omega) (by omega) h hN hx hs he) (by decide)
theorem znt {w M M'} (h:TmK 8 w M M') (hX:MoX w M):Calls prog 14 #[M'.val,M.val] w λe w'=>e=.returned (.bool true)/\Bl w w' :=
 (zpx h.2.2.1 hX).mono λe w' h1=>⟨by rw[h1.1,h.1.same],h1.2⟩
theorem zio {w M ao k cap X} (hX:MoX w M) (hN:MoN M) (hC:MoC M) (hx:Rr w ao k X) (hk:k<=9223372036854775807) :
  Calls prog 3 #[M.val,slice ao k cap] w λe w'=>e=.returned (.bool true)/\Bl w w':=by
 obtain⟨lb,hlb⟩:∃t,lgM 8 M=t:=⟨_,rfl⟩;obtain⟨la,hla⟩:∃t,lgL 8 k X=t:=⟨_,rfl⟩;have CL:=zk (λw' (hw:Bl w w')=>znu (w:=w') (K:=8) (hX.q_ hw).light.1 (hX.q_ hw).light.2);rw[hlb]at CL
 have CA:Hid (∀W,Bl w W->Calls prog 6 #[slice ao k cap,.int .i64 8] W λe w'=>e=.returned (.bool la)/\Bl W w'):=λW hW=>by
  have:=zlv (cap:=cap) 8 (hx.q_ hW) hk;rw[show(decide (k<=300) && nlg 8 X k 0)=la from hla]at this;exact this
 obtain⟨N,hN'⟩:∃N,N=M:=⟨_,rfl⟩;have HC:Hid (lb=true->la=true->ztC w N ao k X):=λe1 e2=>by
  subst hN';subst e1;subst e2
  refine⟨⟨hX,hN,hC,zsy hlb⟩,?_,zpH hla⟩;simp only[lgL,Bool.and_eq_true]at hla;exact hx.rl hla.2 (by decide)
 clear hX hN hC hx hlb hla hk;obtain⟨⟨s,x,n,c,f,y,m,d,g⟩,ca,ck,cc,C,ra,rk,rc,R⟩:=M;have hNv:Hid (N.val=.agg #[.bool s,slice x n c,slice y m d,slice ca ck cc,slice ra rk rc]):=by rw[hN'];exact rfl
 clear hN';replace CL:Hid (∀w',Bl w w'->Calls prog 5 #[.agg #[.bool s,slice x n c,slice y m d,slice ca ck cc,slice ra rk rc],.int .i64 8] w' λe w2=>e=.returned (.bool lb)/\Bl w' w2):=CL;show Calls prog 3 #[.agg #[.bool s,slice x n c,slice y m d,slice ca ck cc,slice ra rk rc],slice ao k cap] w _;have HB:=zk (zB w (cells #[.bool s,slice x n c,slice y m d,slice ca ck cc,slice ra rk rc] 28));have BM:=zk (zF w [.bool s,slice x n c,slice y m d,slice ca ck cc,slice ra rk rc] 28);go_enter func3,ntmps3;go_wp2_with fail
 generalize(w.alloc (cells #[.bool s,slice x n c,slice y m d,slice ca ck cc,slice ra rk rc] 28))=v0 at *;refine(zlU _).mono ?_;rintro e v1 ⟨rfl,hb⟩;replace HB:=zJ HB hb;replace BM:=zk (BM.out.q_ hb)
 clear hb;obtain⟨r0,r1,r2,r3,r4⟩:=bk5 BM.out;go_wp2_with fail
 clear r0 r1 r2 r3 r4;refine(CL.out _ HB.out).mono ?_;rintro e v2 ⟨rfl,hb⟩;replace HB:=zJ HB hb;replace BM:=zk (BM.out.q_ hb)
 clear hb CL;cases lb
 ·go_wp2;go_ret;exact⟨by first|rfl|simp,HB.out⟩
 go_wp2_with fail
 refine(CA.out _ HB.out).mono ?_;rintro e v3 ⟨rfl,hb⟩;replace HB:=zJ HB hb;replace BM:=zk (BM.out.q_ hb)
 clear hb CA;cases la
 ·go_wp2;go_ret;exact⟨by first|rfl|simp,HB.out⟩
 replace HC:=zk (HC.out (by first|rfl|trivial) (by first|rfl|trivial));have T1:Hid (∀W,Bl w W->Calls prog 7 #[.agg #[.bool s,slice x n c,slice y m d,slice ca ck cc,slice ra rk rc]] W λe w'=>∃(vm:Value) (M':Mo),e=.returned vm/\Bl W w'/\Hid (vm=M'.val/\TmK 8 w' N M')):=λW hW=>by
  have:=zlk (HC.out.i.x.q_ hW) HC.out.i.n HC.out.i.k (by decide);rw[hNv.out]at this;exact this
 have TX:=zk (λW (hW:Bl w W)=>ziU (K:=8) (cap:=cap) (HC.out.hx.q_ hW) HC.out.sx (by decide));obtain⟨er,her⟩:∃e,zbA N k X=e:=⟨_,rfl⟩;obtain⟨cs,hcs⟩:∃e,zbj N=e:=⟨_,rfl⟩;obtain⟨rs,hrs⟩:∃e,zbq N=e:=⟨_,rfl⟩;obtain⟨ps,hps⟩:∃e,zbh k X=e:=⟨_,rfl⟩;obtain⟨pl,hpl⟩:∃p,(if er=0 then zaB rs ps 0 cs else [])=p:=⟨_,rfl⟩;obtain⟨r,hr⟩:∃k,pl.length=k:=⟨_,rfl⟩;have hk3:k<=300:=HC.out.sx.1;have hr3:r<=64:=by
  rw[<-hr,<-hpl]
  split
  ·rename_i h0;have:=(zbk (HC.out.i.val (zcK (her.trans h0)).1).2).cl;rw[zaX,<-hcs];exact this
  ·simp
 have AC:Hid (∀W vm M' b c1 X1,(vm=M'.val/\TmK 8 W N M')->Tx W b k X X1->Calls prog 10 #[vm,slice b k c1] W λe w'=>∃a c,e=.returned (.tuple #[slice a r c,.int .i64 er])/\Bl W w'/\Hid (GrO (KV 8) W.heap.size w' (slice a r c) pl)):=λW vm M' b c1 X1 h1 h2=>by
  have:=zgJ (cap:=c1) h1.2 HC.out.i.n h2 HC.out.sx;rw[<-h1.1,her,hrs,hps,hcs]at this
  refine this.mono ?_;rintro e w' ⟨hb,⟨h0,rfl⟩|⟨h0,a,c,rfl,_,hg⟩⟩
  ·rw[if_neg h0]at hpl
   subst hpl;subst hr
   exact⟨none,0,rfl,hb,zeT _ _ _⟩
  ·rw[if_pos h0]at hpl
   obtain⟨_,_,e1,_⟩:=hg.slice;rw[hpl,hr]at e1
   rw[hpl]at hg
   cases e1
   exact⟨a,c,by rw[h0],hb,hg⟩
 have DA:Hid (∀W,Bl w W->Calls prog 13 #[.agg #[.bool s,slice x n c,slice y m d,slice ca ck cc,slice ra rk rc],slice ao k cap] W λe w'=>∃a c,e=.returned (.tuple #[slice a r c,.int .i64 er])/\Bl W w'/\Hid (GrO (2*(2*KZ 8)) W.heap.size w' (slice a r c) pl)):=λW hW=>by
  have:=zhh (cap:=cap) (HC.out.i.q_ hW) (HC.out.hx.q_ hW) HC.out.sx;rw[her,hrs,hps,hcs,hNv.out]at this
  refine this.mono ?_;rintro e w' ⟨hb,⟨h0,rfl⟩|⟨h0,a,c,rfl,_,hg⟩⟩
  ·rw[if_neg h0]at hpl
   subst hpl;subst hr
   exact⟨none,0,rfl,hb,zeT _ _ _⟩
  ·rw[if_pos h0]at hpl
   obtain⟨_,_,e1,_⟩:=hg.slice;rw[hpl,hr]at e1
   rw[hpl]at hg
   cases e1
   exact⟨a,c,by rw[h0],hb,hg⟩
 have VA:Hid (∀W vm M' b c1 X1,(vm=M'.val/\TmK 8 W N M')->Tx W b k X X1->Calls prog 11 #[vm,slice b k c1] W λe w'=>∃v,e=.returned v/\Bl W w'):=λW vm M' b c1 X1 h1 h2=>by
  have:=zlS (K:=8) (cap:=c1) h1.2 HC.out.i.n h2 HC.out.sx (by decide) (by decide);rw[<-h1.1]at this
  refine this.mono ?_;rintro e w' ⟨hb,⟨h0,rfl⟩|⟨h0,s,x,n,c,f,y,m,d,g,rfl,_⟩⟩
  ·exact⟨_,rfl,hb⟩
  ·exact⟨_,rfl,hb⟩
 have BK:Hid (∀W vm M' b c1 X1,(vm=M'.val/\TmK 8 W N M')->Tx W b k X X1->Calls prog 12 #[vm,.agg #[slice none 0 0,slice b k c1,slice none 0 0]] W λe w'=>∃v,e=.returned v/\Bl W w'):=λW vm M' b c1 X1 h1 h2=>by
  have h3:Tx W none 0 X X:=⟨λj hj=>by omega,λj hj=>by omega⟩;have h4:ShK 8 0 X:=⟨by decide,λj hj=>by omega⟩;have:=zlG (K:=8) (c0:=0) (c1:=c1) (c2:=0) h1.2 HC.out.i.n h3 h2 h3 h4 HC.out.sx h4 (by decide);rw[<-h1.1]at this
  exact this.mono λe w' h=>⟨_,h.1,h.2⟩
 have SM:Hid (∀W vm M',Bl w W->(vm=M'.val/\TmK 8 W N M')->Calls prog 14 #[vm,.agg #[.bool s,slice x n c,slice y m d,slice ca ck cc,slice ra rk rc]] W λe w'=>e=.returned (.bool true)/\Bl W w'):=λW vm M' hW h=>by
  have:=znt h.2 (HC.out.i.x.q_ hW);rw[<-h.1,hNv.out]at this
  exact this
 have SP:Hid (∀W a c1 X1,Bl w W->Tx W a k X X1->Calls prog 15 #[slice a k c1,slice ao k cap] W λe w'=>e=.returned (.bool true)/\Bl W w'):=λW a c1 X1 hW h=>zlq h.1 (HC.out.hx.q_ hW) h.2 (by omega)
 have HNN:=zk HC.out.i.n;clear HC hNv her hrs hps hpl hcs;obtain⟨r0,r1,r2,r3,r4⟩:=bk5 BM.out;go_wp2_with fail
 clear r0 r1 r2 r3 r4;refine(T1.out _ HB.out).mono ?_;rintro e v4 ⟨vm,M',rfl,hb,hh⟩;have HVM:=zk hh.out.1;have HT:=zk hh.out.2
 clear hh T1;replace HB:=zJ HB hb;replace BM:=zk (BM.out.q_ hb)
 clear hb;go_wp2_with fail
 refine(TX.out _ HB.out).mono ?_;rintro e v5 ⟨a0,c0,X1,rfl,hb,hh⟩;have HB4:=zk HB.out;have BM4:=zk BM.out;have HT4:=zk HT.out;have E4:=zk hb
 have HX:=zk hh.out.1;have HRW:=zk hh.out.2;have hsz:=hb.size
 replace HT:=zk (HT.out.q_ hb);replace HB:=zJ HB hb;replace BM:=zk (BM.out.q_ hb)
 clear hb;clear hh TX;go_wp2_with fail
 refine(zir (z:=71) (by decide) (by decide)).mono ?_;rintro e v6 ⟨s1,x1,n1,c1,f1,y1,m1,d1,g1,rfl,hb,hq,_⟩;replace E4:=zk (bUp E4.out hb);have Q1:=zk hq;replace HT:=zk (HT.out.q_ hb);replace HX:=zk (HX.out.q_ hb);replace HRW:=zk (HRW.out.q_ hb)
 have hsz2:=le_trans hsz hb.size;clear hq;replace HB:=zJ HB hb;replace BM:=zk (BM.out.q_ hb)
 clear hb;clear hsz;go_wp2_with(at_builtin;go_must (refine zO v6 rfl (.tmp 28) (.tmp 30) 29 rfl v4.heap.size 24 56 3 (.agg #[.bool false,slice none 0 0,slice none 0 0]) underlying29 zaR rfl (by decide) nz3 (slice a0 k c0) k _ rfl HRW.out #[.bool s1,slice x1 n1 c1,slice y1 m1 d1] rfl rfl (zdp _ _ _ _ _ _ _) (zcD _ _ _ _ _ _ _) ?p1 (by decide) hsz2 ?_))
 case p1=>omega
 intro g5 cap5 v7 hr7 hk7 hb7 hg7;have F7:=hb7 v4 E4.out (le_refl _);have HX7:=HX.out.put hr7 hk7;have Q7:=Rn.kp Q1.out hk7;have hlx:=HRW.out.1;have u0_:v7.cell? ⟨g5,k*3,none⟩=some (.bool s1):=hr7.cells (by rw[List.getElem?_append_right (by omega),hlx];simp);have u1_:v7.cell? ⟨g5,k*3+1,none⟩=some (slice x1 n1 c1):=hr7.cells (by rw[List.getElem?_append_right (by omega),hlx];simp);have u2_:v7.cell? ⟨g5,k*3+2,none⟩=some (slice y1 m1 d1):=hr7.cells (by rw[List.getElem?_append_right (by omega),hlx];simp);have hcp:k+1<=cap5/\cap5<=9223372036854775807:=by
  rcases hr7.2 with⟨hv,_⟩|⟨_,_,_,hv,_,_,h5,h6,_⟩
  ·cases hv
  ·cases hv;unfold maxLen at h6;omega
 replace HB:=zk (bUp HB4.out F7);replace BM:=zk (BM4.out.q_ F7);replace HT:=zk (HT4.out.q_ F7);replace HX:=zk HX7;replace Q1:=zk Q7
 have HU:=zk (And.intro u0_ (And.intro u1_ u2_));have HCP:=zk hcp
 clear HB4 BM4 HT4 E4 F7 HX7 Q7 hlx u0_ u1_ u2_ hcp hr7 hk7 hb7 hg7 HRW hsz2;obtain⟨⟨ms,mx,mn,mc,mf,my,mm,md,mg⟩,mca,mck,mcc,mC,mra,mrk,mrc,mR⟩:=M';have hvm:vm=.agg #[.bool ms,slice mx mn mc,slice my mm md,slice mca mck mcc,slice mra mrk mrc]:=HVM.out;clear HVM;subst hvm;obtain⟨N',hN'⟩:∃N',N'=(⟨⟨ms,mx,mn,mc,mf,my,mm,md,mg⟩,mca,mck,mcc,mC,mra,mrk,mrc,mR⟩:Mo):=⟨_,rfl⟩;have HNv:Hid (.agg #[.bool ms,slice mx mn mc,slice my mm md,slice mca mck mcc,slice mra mrk mrc]=N'.val):=by rw[hN'];exact rfl
 rw[<-hN']at HT
 clear hN';go_upto_region 6 with fail
 have hbn:=zB v7 (cells #[.bool ms,slice mx mn mc,slice my mm md,slice mca mck mcc,slice mra mrk mrc] 28);have B5:=zk (zF v7 [.bool ms,slice mx mn mc,slice my mm md,slice mca mck mcc,slice mra mrk mrc] 28);have hU:=HU.out;replace HU:=zk (And.intro (kCb hbn hU.1) (And.intro (kCb hbn hU.2.1) (kCb hbn hU.2.2)));clear hU;replace HB:=zJ HB hbn;replace BM:=zk (BM.out.q_ hbn);replace HT:=zk (HT.out.q_ hbn);replace HX:=zk (HX.out.q_ hbn);replace Q1:=zk (Q1.out.q_ hbn)
 clear hbn;generalize hp5:v7.heap.size=p5 at *;generalize v7.alloc (cells #[.bool ms,slice mx mn mc,slice my mm md,slice mca mck mcc,slice mra mrk mrc] 28)=z1 at *;clear hp5;obtain⟨hc1,hc2⟩:=HCP.out;have hc3:(0:Int)<=((k:Nat):Int):=by omega
 have hc4:((k:Nat):Int)<=((cap5:Nat):Int):=by omega
 obtain⟨l0,l1,l2,l3,l4⟩:=bk5 B5.out;go_wp2_with fail
 clear l0 l1 l2 l3 l4;refine(AC.out _ _ N' _ _ _ ⟨HNv.out,HT.out⟩ HX.out).mono ?_;rintro e v9 ⟨a1,c3,rfl,hb,G1⟩;have F9:=zk hb;clear hb;obtain⟨l0,l1,l2,l3,l4⟩:=bk5 (B5.out.q_ F9.out);go_wp2_with fail
 clear l0 l1 l2 l3 l4;refine(AC.out _ _ N' _ _ _ ⟨HNv.out,HT.out.q_ F9.out⟩ (HX.out.q_ F9.out)).mono ?_;rintro e va ⟨a2,c4,rfl,hb,G2⟩;have FA:=zk hb;have EA:=zk (bUp F9.out hb);clear hb AC;obtain⟨l0,l1,l2,l3,l4⟩:=bk5 (B5.out.q_ EA.out);go_wp2_with fail
 clear l0 l1 l2 l3 l4;refine(VA.out _ _ N' _ _ _ ⟨HNv.out,HT.out.q_ EA.out⟩ (HX.out.q_ EA.out)).mono ?_;rintro e z2 ⟨vbv,rfl,hb⟩;have FB:=zk hb;have E2:=zk (bUp EA.out hb);clear hb VA;obtain⟨l0,l1,l2,l3,l4⟩:=bk5 (B5.out.q_ E2.out);go_wp2_with fail
 clear l0 l1 l2 l3 l4;refine(BK.out _ _ N' _ _ _ ⟨HNv.out,HT.out.q_ E2.out⟩ (HX.out.q_ E2.out)).mono ?_;rintro e z3 ⟨vbr,rfl,hb⟩;have F3:=zk hb;have E3:=zk (bUp E2.out hb)
 clear hb BK;obtain⟨r0,r1,r2,r3,r4⟩:=bk5 (BM.out.q_ E3.out);go_wp2_with fail
 clear r0 r1 r2 r3 r4;refine(DA.out _ (bUp HB.out E3.out)).mono ?_;rintro e z4 ⟨a3,c5,rfl,hb,G3⟩;have FD:=zk hb;have E5:=zk (bUp E3.out hb);have H24:=zk (bUp F3.out hb)
 have HA4:=zk (bUp FB.out H24.out);have H94:=zk (bUp FA.out HA4.out);clear hb DA;obtain⟨ok,hok⟩:∃ok:Nat->Prop,ok=(λb=>z1.heap.size<=b/\b<v9.heap.size):=⟨_,rfl⟩;have hmk:Mk ok z1.heap.size z4 (slice a1 r c3) r z4 0:=by
  have:=G1.out.mk (ok:=ok) H94.out (λb h1 h2=>by rw[hok];exact⟨h1,h2⟩);rw[hr]at this
  exact this
 have HM:=zk hmk;have HOK:=zk hok
 clear hmk hok hc1 hc2 hc3 hc4;go_wp2_with fail
 go_loopw[63] (λt wr=>∃j:Nat,j<=r/\t=.int .i64 j/\Hid (Mk ok z1.heap.size z4 (slice a1 r c3) r wr j)) (λt _=>r-(intOf t).toNat)
 case atStart=>exact⟨0,by omega,rfl,HM⟩
 case round =>
  clear HM;obtain⟨j,hj,rfl,HJ⟩:=hrel;by_cases hjlt:j<r
  ·obtain⟨g9,c9,s2,x2,k2,q2,b9,m9,d9,z9,e1,hgok,hgl,hfz,⟨x0_,x1_,x2_⟩,hm,hob,hq9,hfq⟩:=HJ.out.el j (le_refl _) hjlt;cases e1
   have j1:((j:Nat):Int)<((r:Nat):Int):=by omega
   have m0:(0:Int)<((m9:Nat):Int):=by omega
   have HJ1:=zk (HJ.out.den hq9 hob 5);have y0_:(wr.setCell ⟨b9,0,none⟩ (.int .u64 5)).cell? ⟨g9,j*3,none⟩=some (.bool s2):=zco hq9 x0_ (λh=>by cases h);have y1_:(wr.setCell ⟨b9,0,none⟩ (.int .u64 5)).cell? ⟨g9,j*3+1,none⟩=some (slice x2 k2 q2):=zco hq9 x1_ (λh=>by cases h);have y2_:(wr.setCell ⟨b9,0,none⟩ (.int .u64 5)).cell? ⟨g9,j*3+2,none⟩=some (slice (some ⟨b9,0,none⟩) m9 d9):=zco hq9 x2_ (λh=>by cases h);have hgz:∀o,(wr.setCell ⟨b9,0,none⟩ (.int .u64 5)).frozen? ⟨g9,o,none⟩=false:=λo=>kFs (hfz o)
   have hgl':g9<(wr.setCell ⟨b9,0,none⟩ (.int .u64 5)).heap.size:=by simpa[World.setCell]using hgl
   go_wp2_with fail
   clear x0_ x1_ x2_ hq9 hfq HJ hfz hgl;generalize wr.setCell ⟨b9,0,none⟩ (.int .u64 5)=w5 at *;refine(zaF (by omega) (by omega)).mono ?_;rintro e w6 ⟨s4,x4,n4,c4_,f4,y4,m4,d4,g4,rfl,hb6',_⟩;have HJ2:=zk ((HJ1.out.q_ hb6').up (Nat.le_succ j));replace y0_:=kCb hb6' y0_;replace y1_:=kCb hb6' y1_;replace y2_:=kCb hb6' y2_
   have hfz:∀o,w6.frozen? ⟨g9,o,none⟩=false:=λo=>((zaG hb6').2 _ _ hgl').trans (hgz o)
   clear hb6' HJ1 hgz hgl';have HJ3:=zk (HJ2.out.set (u:=.bool s4) y0_ (λz h=>by cases h) (λz h=>by cases h) (by omega) hgok);have z1_:=kCo (u:=slice x2 k2 q2) (v:=.bool s4) (by omega:j*3≠j*3+1) y1_;have z2_:=kCo (v:=.bool s4) (by omega:j*3≠j*3+2) y2_;have HJ4:=zk (HJ3.out.set (u:=slice x4 n4 c4_) z1_ (λz h=>by cases h) (λz h=>by cases h) (by omega) hgok);have z3_:=kCo (v:=slice x4 n4 c4_) (by omega:j*3+1≠j*3+2) z2_;have HJ5:=zk (HJ4.out.set (u:=slice y4 m4 d4) z3_ (λz h=>by cases h) (λz h=>by cases h) (by omega) hgok);clear z1_ z2_ z3_ HJ2 HJ3 HJ4;go_wp2;go_roundw
   case rel=>exact⟨j+1,by omega,by go_num,HJ5.out⟩
   case measure=>simp[intOf];omega
  ·have e1:j=r:=by omega
   have j1:¬(((j:Nat):Int)<((r:Nat):Int)):=by omega
   have KW:=zk HJ.out.kq;obtain⟨xs,hrow⟩:=HJ.out.row;have HR:=zk hrow;clear hrow HJ e1;go_wp2_with fail
   refine(zir (z:=72) (by decide) (by decide)).mono ?_;rintro e w6 ⟨s4,x4,n4,c4_,f4,y4,m4,d4,g4,rfl,hb6,hq6,hd6⟩;have Q6:=zk hq6;have D6:=zk (hd6.base KW.out.size)
   replace KW:=zk (KW.out.q_ hb6);replace HR:=zk (HR.out.q_ hb6)
   have hsz:z1.heap.size<=w6.heap.size:=le_trans E5.out.size KW.out.size;clear hb6 hq6 hd6;go_wp2_with(at_builtin;go_must (refine zO w6 rfl (.tmp 79) (.tmp 81) 29 rfl z1.heap.size 24 56 3 (.agg #[.bool false,slice none 0 0,slice none 0 0]) underlying29 zaR rfl (by decide) nz3 (slice a1 r c3) r xs rfl HR.out #[.bool s4,slice x4 n4 c4_,slice y4 m4 d4] rfl rfl (zdp _ _ _ _ _ _ _) (zcD _ _ _ _ _ _ _) ?p1 (by decide) hsz ?_))
   case p1=>omega
   intro g8 cap8 w8 hr8 hk8 hb8 hg8;have hnok:∀b,(b<z1.heap.size∨v9.heap.size<=b)->¬ok b:=λb h1 h2=>by
    rw[HOK.out]at h2
    have:=F9.out.size;rcases h1 with h1|h1 <;> omega
   have hB0:Bl z1 w8:=hb8 z1 (KW.out.blw E5.out (λb h=>hnok b (.inl h))) (le_refl _);have hown:∀b,v9.heap.size<=b->(Value.slice a1 r c3).ownBlock≠some b:=λb h1 h2=>by
    obtain⟨T0,hT0,_⟩:=G1.out;have:=(hT0.lt b h2).2;omega
   have hkp:∀b,v9.heap.size<=b->b<z4.heap.size->w8.heap[b]?=z4.heap[b]?:=λb h1 h2=>(hg8 b (Nat.lt_of_lt_of_le h2 KW.out.size) (hown b h1)).trans (KW.out.block b h2 (hnok b (.inr h1)))
   have s1_:=FA.out.size;have s2_:=FB.out.size;have s4_:=F3.out.size;have s5_:=FD.out.size;have s7_:=F9.out.size;have s8_:=HA4.out.size
   have Q8:Rn 4 w8 s4 x4 n4 c4_ f4 y4 m4 d4 g4 72:=Rn.kp Q6.out hk8;have D8:=D6.out.kpu hk8;have hxs:xs.length=r*3:=HR.out.1;have e0:w8.cell? ⟨g8,r*3,none⟩=some (.bool s4):=hr8.cells (by rw[List.getElem?_append_right (by omega),hxs];simp);have e1:w8.cell? ⟨g8,r*3+1,none⟩=some (slice x4 n4 c4_):=hr8.cells (by rw[List.getElem?_append_right (by omega),hxs];simp);have e2:w8.cell? ⟨g8,r*3+2,none⟩=some (slice y4 m4 d4):=hr8.cells (by rw[List.getElem?_append_right (by omega),hxs];simp);have R2:=zk (G2.out.keep (w':=w8) (λb h3 h4=>(hkp b h3 (by omega)).trans (HA4.out.block b h4))).rf;have R3:=zk (G3.out.keep (w':=w8) (λb h3 h4=>hkp b (by omega) h4)).rf;have QF:=zk Q8;have hBF:=hB0;clear hnok hown hxs hr8 hk8 hb8 hg8 KW HR hsz HOK Q6 D6 hB0 hkp Q8 D8;go_upto_region 19 with fail
   generalize w8=wF at *;have hBx:=hBF;replace HB:=zJ HB hBx;replace BM:=zk (BM.out.q_ hBx);replace HT:=zk (HT.out.q_ hBx);replace HX:=zk (HX.out.q_ hBx);replace Q1:=zk (Q1.out.q_ hBx);replace B5:=zk (B5.out.q_ hBx)
   have hU:=HU.out;replace HU:=zk (And.intro (kCb hBx hU.1) (And.intro (kCb hBx hU.2.1) (kCb hBx hU.2.2)));clear hBx hBF hU s1_ s2_ s4_ s5_ s7_ s8_ G1 G2 G3 F9 FA FB F3 FD E2 E3 E5 EA H24 HA4 H94;obtain⟨r0,r1,r2,r3,r4⟩:=bk5 BM.out;obtain⟨l0,l1,l2,l3,l4⟩:=bk5 B5.out;obtain⟨u0_,u1_,u2_⟩:=HU.out;have hbd:=Below.drew (Below.refl wF.heap.size wF);replace HB:=zJ HB hbd;replace HT:=zk (HT.out.q_ hbd);replace HX:=zk (HX.out.q_ hbd);replace R2:=zk (R2.out.q_ hbd);replace R3:=zk (R3.out.q_ hbd);replace QF:=zk (QF.out.q_ hbd);replace Q1:=zk (Q1.out.q_ hbd)
   refine wp_region_held_drew (S:=(λw'=>w'.cell? ⟨w.heap.size,0,none⟩=some (.bool s)/\w'.cell? ⟨w.heap.size,1,none⟩=some (slice x n c)/\w'.cell? ⟨w.heap.size,2,none⟩=some (slice y m d)/\w'.cell? ⟨w.heap.size,3,none⟩=some (slice ca ck cc)/\w'.cell? ⟨w.heap.size,4,none⟩=some (slice ra rk rc)/\w'.cell? ⟨p5,0,none⟩=some (.bool ms)/\w'.cell? ⟨p5,1,none⟩=some (slice mx mn mc)/\w'.cell? ⟨p5,2,none⟩=some (slice my mm md)/\w'.cell? ⟨p5,3,none⟩=some (slice mca mck mcc)/\w'.cell? ⟨p5,4,none⟩=some (slice mra mrk mrc)/\w'.cell? ⟨g5,k*3,none⟩=some (.bool s1)/\w'.cell? ⟨g5,k*3+1,none⟩=some (slice x1 n1 c1)/\w'.cell? ⟨g5,k*3+2,none⟩=some (slice y1 m1 d1)/\w'.cell? ⟨g8,r*3,none⟩=some (.bool s4)/\w'.cell? ⟨g8,r*3+1,none⟩=some (slice x4 n4 c4_)/\w'.cell? ⟨g8,r*3+2,none⟩=some (slice y4 m4 d4))) (by kernel_rfl) ?_ (λhHeld=>?_)
   ·exact⟨kCd r0,kCd r1,kCd r2,kCd r3,kCd r4,kCd l0,kCd l1,kCd l2,kCd l3,kCd l4,kCd u0_,kCd u1_,kCd u2_,kCd e0,kCd e1,kCd e2⟩
   generalize wF.drew=wd8 at *;clear hbd BM B5 HU r0 r1 r2 r3 r4 l0 l1 l2 l3 l4 u0_ u1_ u2_ e0 e1 e2;refine zK 0 ?_;refine zK 1 ?_;simp only[zA,Act.put];refine rdO 2 (λK hK=>?_);go_simp
   go_at_call 14
   refine(SM.out _ _ N' HB.out ⟨HNv.out,HT.out⟩).mono ?_;rintro e u1 ⟨rfl,hc⟩
   (try go_wp2_with fail)
   refine hK.out _ _ ?_ (λhH1=>?_)
   ·exact⟨kCb hc hHeld.1,kCb hc hHeld.2.1,kCb hc hHeld.2.2.1,kCb hc hHeld.2.2.2.1,kCb hc hHeld.2.2.2.2.1,kCb hc hHeld.2.2.2.2.2.1,kCb hc hHeld.2.2.2.2.2.2.1,kCb hc hHeld.2.2.2.2.2.2.2.1,kCb hc hHeld.2.2.2.2.2.2.2.2.1,kCb hc hHeld.2.2.2.2.2.2.2.2.2.1,kCb hc hHeld.2.2.2.2.2.2.2.2.2.2.1,kCb hc hHeld.2.2.2.2.2.2.2.2.2.2.2.1,kCb hc hHeld.2.2.2.2.2.2.2.2.2.2.2.2.1,kCb hc hHeld.2.2.2.2.2.2.2.2.2.2.2.2.2.1,kCb hc hHeld.2.2.2.2.2.2.2.2.2.2.2.2.2.2.1,kCb hc hHeld.2.2.2.2.2.2.2.2.2.2.2.2.2.2.2⟩
   clear hK K;try simp only[zA,Act.put]
   replace HB:=zJ HB hc;replace HX:=zk (HX.out.q_ hc);replace R2:=zk (R2.out.q_ hc);replace R3:=zk (R3.out.q_ hc);replace QF:=zk (QF.out.q_ hc);replace Q1:=zk (Q1.out.q_ hc)
   clear hc hHeld;clear SM HT;refine zK 3 ?_;refine zK 4 ?_;refine zK 5 ?_;simp only[zA,Act.put];refine rdO 6 (λK hK=>?_);go_simp
   go_at_call 15
   refine(SP.out _ _ _ _ HB.out HX.out).mono ?_;rintro e u2 ⟨rfl,hc⟩
   (try go_wp2_with fail)
   refine hK.out _ _ ?_ (λhH2=>?_)
   ·exact⟨kCb hc hH1.1,kCb hc hH1.2.1,kCb hc hH1.2.2.1,kCb hc hH1.2.2.2.1,kCb hc hH1.2.2.2.2.1,kCb hc hH1.2.2.2.2.2.1,kCb hc hH1.2.2.2.2.2.2.1,kCb hc hH1.2.2.2.2.2.2.2.1,kCb hc hH1.2.2.2.2.2.2.2.2.1,kCb hc hH1.2.2.2.2.2.2.2.2.2.1,kCb hc hH1.2.2.2.2.2.2.2.2.2.2.1,kCb hc hH1.2.2.2.2.2.2.2.2.2.2.2.1,kCb hc hH1.2.2.2.2.2.2.2.2.2.2.2.2.1,kCb hc hH1.2.2.2.2.2.2.2.2.2.2.2.2.2.1,kCb hc hH1.2.2.2.2.2.2.2.2.2.2.2.2.2.2.1,kCb hc hH1.2.2.2.2.2.2.2.2.2.2.2.2.2.2.2⟩
   clear hK K;try simp only[zA,Act.put]
   replace HB:=zJ HB hc;replace R2:=zk (R2.out.q_ hc);replace R3:=zk (R3.out.q_ hc);replace QF:=zk (QF.out.q_ hc);replace Q1:=zk (Q1.out.q_ hc)
   clear hc hH1;clear SP HX;refine zK 7 ?_;refine zK 8 ?_;refine zK 9 ?_;simp only[zA,Act.put];refine zK 10 ?_;refine zK 11 ?_;simp only[zA,Act.put];have i7:(0:Int)<=((k:Nat):Int)/\((k:Nat):Int)<((k:Nat):Int)+1:=by omega
   have j6:=i7.1;have j7:=i7.2
   refine zK 12 ?_;refine zK 13 ?_;simp only[zA,Act.put];refine rdO 14 (λK hK=>?_);go_simp
   go_at_call 9
   refine(zaF (z:=71) (by decide) (by decide)).mono ?_;rintro e u3 ⟨s7,x7,n7,c7,f7,y7,m7,d7,g7,rfl,hc,hq7⟩
   (try go_wp2_with fail)
   refine hK.out _ _ ?_ (λhH3=>?_)
   ·exact⟨kCb hc hH2.1,kCb hc hH2.2.1,kCb hc hH2.2.2.1,kCb hc hH2.2.2.2.1,kCb hc hH2.2.2.2.2.1,kCb hc hH2.2.2.2.2.2.1,kCb hc hH2.2.2.2.2.2.2.1,kCb hc hH2.2.2.2.2.2.2.2.1,kCb hc hH2.2.2.2.2.2.2.2.2.1,kCb hc hH2.2.2.2.2.2.2.2.2.2.1,kCb hc hH2.2.2.2.2.2.2.2.2.2.2.1,kCb hc hH2.2.2.2.2.2.2.2.2.2.2.2.1,kCb hc hH2.2.2.2.2.2.2.2.2.2.2.2.2.1,kCb hc hH2.2.2.2.2.2.2.2.2.2.2.2.2.2.1,kCb hc hH2.2.2.2.2.2.2.2.2.2.2.2.2.2.2.1,kCb hc hH2.2.2.2.2.2.2.2.2.2.2.2.2.2.2.2⟩
   clear hK K;try simp only[zA,Act.put]
   have QA:=zk hq7;replace HB:=zJ HB hc;replace R2:=zk (R2.out.q_ hc);replace R3:=zk (R3.out.q_ hc);replace QF:=zk (QF.out.q_ hc);replace Q1:=zk (Q1.out.q_ hc)
   clear hc hH2 hq7;refine rdO 15 (λK hK=>?_);go_simp
   go_at_call 16
   refine(zbZ Q1.out QA.out (by decide) (by decide)).mono ?_;rintro e u4 ⟨rfl,hc⟩
   (try go_wp2_with fail)
   refine hK.out _ _ ?_ (λhH4=>?_)
   ·exact⟨kCb hc hH3.1,kCb hc hH3.2.1,kCb hc hH3.2.2.1,kCb hc hH3.2.2.2.1,kCb hc hH3.2.2.2.2.1,kCb hc hH3.2.2.2.2.2.1,kCb hc hH3.2.2.2.2.2.2.1,kCb hc hH3.2.2.2.2.2.2.2.1,kCb hc hH3.2.2.2.2.2.2.2.2.1,kCb hc hH3.2.2.2.2.2.2.2.2.2.1,kCb hc hH3.2.2.2.2.2.2.2.2.2.2.1,kCb hc hH3.2.2.2.2.2.2.2.2.2.2.2.1,kCb hc hH3.2.2.2.2.2.2.2.2.2.2.2.2.1,kCb hc hH3.2.2.2.2.2.2.2.2.2.2.2.2.2.1,kCb hc hH3.2.2.2.2.2.2.2.2.2.2.2.2.2.2.1,kCb hc hH3.2.2.2.2.2.2.2.2.2.2.2.2.2.2.2⟩
   clear hK K;try simp only[zA,Act.put]
   replace HB:=zJ HB hc;replace R2:=zk (R2.out.q_ hc);replace R3:=zk (R3.out.q_ hc);replace QF:=zk (QF.out.q_ hc)
   clear hc hH3;clear Q1 QA;refine zK 16 ?_;refine zK 17 ?_;refine zK 18 ?_;simp only[zA,Act.put];refine zK 19 ?_;simp only[zA,Act.put];refine rdO 20 (λK hK=>?_);go_simp
   go_at_call 15
   refine(zlr (L:=KV 8) (L':=2*(2*KZ 8)) R2.out R3.out hr (by omega) (by decide) (by decide)).mono ?_;rintro e u5 ⟨rfl,hc⟩
   (try go_wp2_with fail)
   refine hK.out _ _ ?_ (λhH5=>?_)
   ·exact⟨kCb hc hH4.1,kCb hc hH4.2.1,kCb hc hH4.2.2.1,kCb hc hH4.2.2.2.1,kCb hc hH4.2.2.2.2.1,kCb hc hH4.2.2.2.2.2.1,kCb hc hH4.2.2.2.2.2.2.1,kCb hc hH4.2.2.2.2.2.2.2.1,kCb hc hH4.2.2.2.2.2.2.2.2.1,kCb hc hH4.2.2.2.2.2.2.2.2.2.1,kCb hc hH4.2.2.2.2.2.2.2.2.2.2.1,kCb hc hH4.2.2.2.2.2.2.2.2.2.2.2.1,kCb hc hH4.2.2.2.2.2.2.2.2.2.2.2.2.1,kCb hc hH4.2.2.2.2.2.2.2.2.2.2.2.2.2.1,kCb hc hH4.2.2.2.2.2.2.2.2.2.2.2.2.2.2.1,kCb hc hH4.2.2.2.2.2.2.2.2.2.2.2.2.2.2.2⟩
   clear hK K;try simp only[zA,Act.put]
   replace HB:=zJ HB hc;replace QF:=zk (QF.out.q_ hc)
   clear hc hH4;clear R2 R3;refine zK 21 ?_;refine zK 22 ?_;refine zK 23 ?_;simp only[zA,Act.put];refine zK 24 ?_;refine zK 25 ?_;refine zK 26 ?_;simp only[zA,Act.put];have i8:IntKind.i64.wrap ((r:Nat):Int)=((r:Nat):Int):=by rw[IntKind.wrap_i64];omega
   simp only[i8];have i9:(0:Int)<=((r:Nat):Int)/\((r:Nat):Int)<((r:Nat):Int)+1:=by omega
   have j8:=i9.1;have j9:=i9.2
   refine zK 27 ?_;refine zK 28 ?_;simp only[zA,Act.put];refine rdO 29 (λK hK=>?_);go_simp
   go_at_call 9
   refine(zaF (z:=72) (by decide) (by decide)).mono ?_;rintro e u6 ⟨s7,x7,n7,c7,f7,y7,m7,d7,g7,rfl,hc,hq7⟩
   (try go_wp2_with fail)
   refine hK.out _ _ ?_ (λhH6=>?_)
   ·exact⟨kCb hc hH5.1,kCb hc hH5.2.1,kCb hc hH5.2.2.1,kCb hc hH5.2.2.2.1,kCb hc hH5.2.2.2.2.1,kCb hc hH5.2.2.2.2.2.1,kCb hc hH5.2.2.2.2.2.2.1,kCb hc hH5.2.2.2.2.2.2.2.1,kCb hc hH5.2.2.2.2.2.2.2.2.1,kCb hc hH5.2.2.2.2.2.2.2.2.2.1,kCb hc hH5.2.2.2.2.2.2.2.2.2.2.1,kCb hc hH5.2.2.2.2.2.2.2.2.2.2.2.1,kCb hc hH5.2.2.2.2.2.2.2.2.2.2.2.2.1,kCb hc hH5.2.2.2.2.2.2.2.2.2.2.2.2.2.1,kCb hc hH5.2.2.2.2.2.2.2.2.2.2.2.2.2.2.1,kCb hc hH5.2.2.2.2.2.2.2.2.2.2.2.2.2.2.2⟩
   clear hK K;try simp only[zA,Act.put]
   have QB:=zk hq7;replace HB:=zJ HB hc;replace QF:=zk (QF.out.q_ hc)
   clear hc hH5 hq7;refine rdO 30 (λK hK=>?_);go_simp
   go_at_call 16
   refine(zbZ QF.out QB.out (by decide) (by decide)).mono ?_;rintro e u7 ⟨rfl,hc⟩
   (try go_wp2_with fail)
   refine hK.out _ _ ?_ (λhH7=>?_)
   ·exact⟨kCb hc hH6.1,kCb hc hH6.2.1,kCb hc hH6.2.2.1,kCb hc hH6.2.2.2.1,kCb hc hH6.2.2.2.2.1,kCb hc hH6.2.2.2.2.2.1,kCb hc hH6.2.2.2.2.2.2.1,kCb hc hH6.2.2.2.2.2.2.2.1,kCb hc hH6.2.2.2.2.2.2.2.2.1,kCb hc hH6.2.2.2.2.2.2.2.2.2.1,kCb hc hH6.2.2.2.2.2.2.2.2.2.2.1,kCb hc hH6.2.2.2.2.2.2.2.2.2.2.2.1,kCb hc hH6.2.2.2.2.2.2.2.2.2.2.2.2.1,kCb hc hH6.2.2.2.2.2.2.2.2.2.2.2.2.2.1,kCb hc hH6.2.2.2.2.2.2.2.2.2.2.2.2.2.2.1,kCb hc hH6.2.2.2.2.2.2.2.2.2.2.2.2.2.2.2⟩
   clear hK K;try simp only[zA,Act.put]
   replace HB:=zJ HB hc;clear hc hH6;clear QF QB;refine zK 31 ?_;refine zK 32 ?_;simp only[zA,Act.put];refine dnO ?_;go_wp2;go_ret;exact⟨rfl,HB.out⟩
end Go.Proofs.YtlbgphjdibbkjaaGreat
