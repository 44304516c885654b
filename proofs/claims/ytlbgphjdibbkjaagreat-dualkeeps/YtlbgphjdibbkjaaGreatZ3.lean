/-
 Walks.
-/
import Derived.Test.YtlbgphjdibbkjaaGreatZ2
import Derived.Test.YtlbgphjdibbkjaaGreatZ1
import Derived.WalkKit
import Derived.MapKept
import Derived.ChangeMaps5
import Derived.BigQuiet
import Derived.Deep.RegionHeld3
set_option maxRecDepth 100000
set_option maxHeartbeats 16000000
namespace Go.Proofs.YtlbgphjdibbkjaaGreat
open Value (slice agg)
open Obj (cells)
open Ending (returned)
open Nat (le_refl le_trans zero_add sub_self)
open Go.Proofs.Tryz
open Go.RowKit
def zrK (c:Int) (a b:Rat):Prop:=c=-1/\a<b∨c=0/\a=b∨c=1/\b<a
theorem zoN {c a b} (h:Ord c (a.num*b.den) (b.num*a.den)):zrK c a b:=by
 rcases h with⟨h1,h2⟩|⟨h1,h2⟩|⟨h1,h2⟩
 ·exact .inl ⟨h1,(Rat.lt_iff a b).2 h2⟩
 ·refine .inr (.inl ⟨h1,Rat.le_antisymm ((Rat.le_iff a b).2 ?_) ((Rat.le_iff b a).2 ?_)⟩)
  ·rw[h2];exact Int.le_refl _
  ·rw[h2];exact Int.le_refl _
 ·exact .inr (.inr ⟨h1,(Rat.lt_iff b a).2 h2⟩)
theorem zki {L w1 wx W5 w5 b4 r1 p1 k1 c1 n m q v} (hn:n<=L) (hm:m<=L) (hW:Bl w1 W5) (hD:WRes (n+m) W5 w5 r1 p1 k1 c1 q/\wv r1 q k1=v) (hT:Turned w1.heap.size W5.heap.size w5 wx) (hb:Bx wx b4 r1 p1 k1 c1):zrN (2*L) w1 wx b4 r1 p1 k1 c1 v:=by
 have hQ:=hD.1.res.turned hW hT;have:=hQ.le;exact⟨hb,hQ.bel,⟨q,hQ.rd,hQ.lm,hD.1.wfB,hQ.ncap,hQ.nil',hD.2⟩,by omega⟩
theorem zrc {L w sa xa na ca fa ya ma da ga a sb xb nb cb fb yb mb db gb b} (ha:Rn L w sa xa na ca fa ya ma da ga a) (hb:Rn L w sb xb nb cb fb yb mb db gb b) (hL:L<=200000) :
  Calls prog 146 #[agg #[.bool sa,slice xa na ca,slice ya ma da],agg #[.bool sb,slice xb nb cb,slice yb mb db]] w λe w'=>∃c,e=returned (.tuple #[.int .i64 c,.int .i64 0])/\Bl w w'/\zrK c a b:=by
 have HA0:=zk ha;have HB0:=zk hb
 have b1:=ha.ln;have b2:=ha.ld;have b3:=hb.ln;have b4:=hb.ld
 clear ha hb;go_enter func146,ntmps146;go_wp2_with fail
 refine(zbA ((HA0.out.alloc _).alloc _) (by omega)).mono ?_;rintro e w0 ⟨rfl,hbel⟩;obtain⟨ba,bb,hw⟩:=zjN hbel;have BA0:=zk ba;have BB0:=zk bb;have HW0:=zk hw;have RA0:=zk (HA0.out.q_ hw);have RB0:=zk (HB0.out.q_ hw)
 clear hbel ba bb hw HA0 HB0;obtain⟨zb,y0,y1,y2⟩:=BB0.out;go_wp2_with fail
 refine(zbA RB0.out (by omega)).mono ?_;rintro e w1 ⟨rfl,hb⟩;clear zb y0 y1 y2;have BA1:=zk (BA0.out.q_ hb);have BB1:=zk (BB0.out.q_ hb);have RA1:=zk (RA0.out.q_ hb);have RB1:=zk (RB0.out.q_ hb);have HW1:=zJ HW0 hb
 clear BA0 BB0 RA0 RB0 HW0 hb;obtain⟨za,x0,x1,x2⟩:=BA1.out;obtain⟨zb,y0,y1,y2⟩:=BB1.out;have C1:Hid (∀W,Bl w1 W->Calls prog 90 #[agg #[.bool sa,slice xa na ca,slice ya ma da]] W λe w'=>e=returned (agg #[.bool sa,slice xa na ca])/\Bl W w'):=λW _=>zci sa xa ya na ca ma da W
 have C2:Hid (∀W,Bl w1 W->Calls prog 160 #[agg #[.bool sb,slice xb nb cb,slice yb mb db]] W λe w'=>e=returned (agg #[.bool false,slice yb mb db])/\Bl W w'):=λW _=>zkI sb xb yb nb cb mb db W
 have C3:Hid (∀W,Bl w1 W->Calls prog 124 #[agg #[.bool sa,slice xa na ca],agg #[.bool false,slice yb mb db]] W λe w'=>∃r1 p1 k1 c1 q,e=returned (.tuple #[agg #[.bool r1,slice p1 k1 c1],.int .i64 0])/\Bl W w'/\Hid (WRes (na+mb) W w' r1 p1 k1 c1 q/\wv r1 q k1=a.num*b.den)):=λW hW=>by
  have h1:=(RA1.out.q_ hW).num;have h2:=(RB1.out.q_ hW).den
  refine(ziK sa false xa yb na mb ca db fa gb W (by omega) (by omega) h1.cap.1 h2.cap.1 h1.cap.2 h2.cap.2 h1.rd h2.rd h1.lm h2.lm).mono ?_;rintro e w' ⟨r,z,k,e',h,er,rfl,hres,hans⟩;obtain⟨rfl,hv⟩:=hans.ok ⟨h1.wf,h2.wf⟩;exact⟨r,z,k,e',h,rfl,hres.res.bel,hres,by rw[hv,h1.val,h2.val]⟩
 go_upto_region 3 with fail
 go_cut [6,7]from 18 to 25 (λu t wx=>∃(wy:World) (b4:Nat) (s:Bool) (z:Option Addr) (k c:Nat),wy=wx/\u=.pointer (some ⟨b4,0,none⟩)/\t=.int .i64 0/\zrN (2*L) w1 wy b4 s z k c (a.num*b.den))
 case first =>
  go_region_held3 (λw'=>w'.cell? ⟨w.heap.size,0,none⟩=some (.bool sa)/\w'.cell? ⟨w.heap.size,1,none⟩=some (slice xa na ca)/\w'.cell? ⟨w.heap.size,2,none⟩=some (slice ya ma da)/\w'.cell? ⟨w.heap.size+1,0,none⟩=some (.bool sb)/\w'.cell? ⟨w.heap.size+1,1,none⟩=some (slice xb nb cb)/\w'.cell? ⟨w.heap.size+1,2,none⟩=some (slice yb mb db))
   (refine⟨?_,?_,?_,?_,?_,?_⟩ <;> repeat(with_reducible first|assumption|refine kCd ?_|refine kCa ?_|refine kCs (by simp only[ne_eq];omega) ?_|refine kCb (by assumption) ?_))
   (first
    | (go_at_call 90;with_reducible refine(C1.out _ zai).mono ?_;rintro e v3 ⟨rfl,hb3⟩;have hza:=hb3.size;(try simp at hza);obtain⟨hc3,hf3⟩:=zaH hb3;(try have q100:w1.heap.size<v3.heap.size:=by omega))
    | (go_at_call 160;with_reducible refine(C2.out _ zai).mono ?_;rintro e v4 ⟨rfl,hb4⟩;have hzb:=hb4.size;(try simp at hzb);obtain⟨hc4,hf4⟩:=zaH hb4;(try have q100:w1.heap.size<v4.heap.size:=by omega);(try have q102:v3.heap.size<v4.heap.size:=by omega))
    | (go_at_call 124;with_reducible refine(C3.out _ zai).mono ?_;rintro e v5 ⟨r1,p1,k1,c1,q,rfl,hb5,HD⟩;have hzc:=hb5.size;(try simp at hzc);obtain⟨hc5,hf5⟩:=zaH hb5;(try have q100:w1.heap.size<v5.heap.size:=by omega);(try have q102:v3.heap.size<v5.heap.size:=by omega);(try have q104:v4.heap.size<v5.heap.size:=by omega)))
  all_goals
   go_wp2_with fail
   go_meet
   refine⟨_,_,r1,p1,k1,c1,rfl,rfl,rfl,zki (by assumption) (by assumption) zai HD.out (by repeat(with_reducible first|exact Turned.refl _ _ _|refine Turned.drew ?_|refine Turned.alloc ?_ _|refine Turned.set ?_ (by first|omega|(simp;done)|(simp;omega)) (by first|omega|(simp;done)|(simp;omega)) _)) ⟨(by first|omega|(simp;done)|(simp;omega)),(by repeat(with_reducible first|assumption|exact kN0|exact kN1|(refine kM0 ?_;(simp <;> fail))|(refine kM1 ?_;(simp <;> fail))|exact kI0 kN0|exact kI0 kN1|(refine kI0 (kM0 ?_);(simp <;> fail))|(refine kI0 (kM1 ?_);(simp <;> fail))|refine kCd ?_|refine kCe ?_|refine kCo (by decide) ?_|refine kCs (by simp only[ne_eq];omega) ?_|refine kCa ?_|refine kCb (by assumption) ?_|refine kId ?_|refine kIs ?_|refine kIa ?_|refine kIb (by assumption) ?_)),(by repeat(with_reducible first|assumption|exact kN0|exact kN1|(refine kM0 ?_;(simp <;> fail))|(refine kM1 ?_;(simp <;> fail))|exact kI0 kN0|exact kI0 kN1|(refine kI0 (kM0 ?_);(simp <;> fail))|(refine kI0 (kM1 ?_);(simp <;> fail))|refine kCd ?_|refine kCe ?_|refine kCo (by decide) ?_|refine kCs (by simp only[ne_eq];omega) ?_|refine kCa ?_|refine kCb (by assumption) ?_|refine kId ?_|refine kIs ?_|refine kIa ?_|refine kIb (by assumption) ?_))⟩⟩
 case rest =>
  obtain⟨w2,bX,sX,zX,kX,cX,rfl,rfl,rfl,hbx,hb,⟨fX,hwn⟩,hleX⟩:=hcut;have BX2:=zk hbx;have WX2:=zk hwn
  clear hbx hwn za zb x0 x1 x2 y0 y1 y2 C1 C2 C3;have BA2:=zk (BA1.out.q_ hb);have BB2:=zk (BB1.out.q_ hb);have RA2:=zk (RA1.out.q_ hb);have RB2:=zk (RB1.out.q_ hb);have HW2:=zJ HW1 hb
  clear BA1 BB1 RA1 RB1 HW1 hb;obtain⟨za,x0,x1,x2⟩:=BA2.out;obtain⟨zb,y0,y1,y2⟩:=BB2.out;have C1:Hid (∀W,Bl w2 W->Calls prog 90 #[agg #[.bool sb,slice xb nb cb,slice yb mb db]] W λe w'=>e=returned (agg #[.bool sb,slice xb nb cb])/\Bl W w'):=λW _=>zci sb xb yb nb cb mb db W
  have C2:Hid (∀W,Bl w2 W->Calls prog 160 #[agg #[.bool sa,slice xa na ca,slice ya ma da]] W λe w'=>e=returned (agg #[.bool false,slice ya ma da])/\Bl W w'):=λW _=>zkI sa xa ya na ca ma da W
  have C3:Hid (∀W,Bl w2 W->Calls prog 124 #[agg #[.bool sb,slice xb nb cb],agg #[.bool false,slice ya ma da]] W λe w'=>∃r1 p1 k1 c1 q,e=returned (.tuple #[agg #[.bool r1,slice p1 k1 c1],.int .i64 0])/\Bl W w'/\Hid (WRes (nb+ma) W w' r1 p1 k1 c1 q/\wv r1 q k1=b.num*a.den)):=λW hW=>by
   have h1:=(RB2.out.q_ hW).num;have h2:=(RA2.out.q_ hW).den
   refine(ziK sb false xb ya nb ma cb da fb ga W (by omega) (by omega) h1.cap.1 h2.cap.1 h1.cap.2 h2.cap.2 h1.rd h2.rd h1.lm h2.lm).mono ?_;rintro e w' ⟨r,z,k,e',h,er,rfl,hres,hans⟩;obtain⟨rfl,hv⟩:=hans.ok ⟨h1.wf,h2.wf⟩;exact⟨r,z,k,e',h,rfl,hres.res.bel,hres,by rw[hv,h1.val,h2.val]⟩
  go_upto_region 4 with fail
  go_cut [8,9]from 26 to 33 (λu t wx=>∃(wy:World) (b4:Nat) (s:Bool) (z:Option Addr) (k c:Nat),wy=wx/\u=.pointer (some ⟨b4,0,none⟩)/\t=.int .i64 0/\zrN (2*L) w2 wy b4 s z k c (b.num*a.den))
  case first =>
   go_region_held3 (λw'=>w'.cell? ⟨w.heap.size,0,none⟩=some (.bool sa)/\w'.cell? ⟨w.heap.size,1,none⟩=some (slice xa na ca)/\w'.cell? ⟨w.heap.size,2,none⟩=some (slice ya ma da)/\w'.cell? ⟨w.heap.size+1,0,none⟩=some (.bool sb)/\w'.cell? ⟨w.heap.size+1,1,none⟩=some (slice xb nb cb)/\w'.cell? ⟨w.heap.size+1,2,none⟩=some (slice yb mb db))
    (refine⟨?_,?_,?_,?_,?_,?_⟩ <;> repeat(with_reducible first|assumption|refine kCd ?_|refine kCa ?_|refine kCs (by simp only[ne_eq];omega) ?_|refine kCb (by assumption) ?_))
    (first
     | (go_at_call 90;with_reducible refine(C1.out _ zai).mono ?_;rintro e v3 ⟨rfl,hb3⟩;have hza:=hb3.size;(try simp at hza);obtain⟨hc3,hf3⟩:=zaH hb3;(try have q100:w2.heap.size<v3.heap.size:=by omega))
     | (go_at_call 160;with_reducible refine(C2.out _ zai).mono ?_;rintro e v4 ⟨rfl,hb4⟩;have hzb:=hb4.size;(try simp at hzb);obtain⟨hc4,hf4⟩:=zaH hb4;(try have q100:w2.heap.size<v4.heap.size:=by omega);(try have q102:v3.heap.size<v4.heap.size:=by omega))
     | (go_at_call 124;with_reducible refine(C3.out _ zai).mono ?_;rintro e v5 ⟨r1,p1,k1,c1,q,rfl,hb5,HD⟩;have hzc:=hb5.size;(try simp at hzc);obtain⟨hc5,hf5⟩:=zaH hb5;(try have q100:w2.heap.size<v5.heap.size:=by omega);(try have q102:v3.heap.size<v5.heap.size:=by omega);(try have q104:v4.heap.size<v5.heap.size:=by omega)))
   all_goals
    go_wp2_with fail
    go_meet
    refine⟨_,_,r1,p1,k1,c1,rfl,rfl,rfl,zki (by assumption) (by assumption) zai HD.out (by repeat(with_reducible first|exact Turned.refl _ _ _|refine Turned.drew ?_|refine Turned.alloc ?_ _|refine Turned.set ?_ (by first|omega|(simp;done)|(simp;omega)) (by first|omega|(simp;done)|(simp;omega)) _)) ⟨(by first|omega|(simp;done)|(simp;omega)),(by repeat(with_reducible first|assumption|exact kN0|exact kN1|(refine kM0 ?_;(simp <;> fail))|(refine kM1 ?_;(simp <;> fail))|exact kI0 kN0|exact kI0 kN1|(refine kI0 (kM0 ?_);(simp <;> fail))|(refine kI0 (kM1 ?_);(simp <;> fail))|refine kCd ?_|refine kCe ?_|refine kCo (by decide) ?_|refine kCs (by simp only[ne_eq];omega) ?_|refine kCa ?_|refine kCb (by assumption) ?_|refine kId ?_|refine kIs ?_|refine kIa ?_|refine kIb (by assumption) ?_)),(by repeat(with_reducible first|assumption|exact kN0|exact kN1|(refine kM0 ?_;(simp <;> fail))|(refine kM1 ?_;(simp <;> fail))|exact kI0 kN0|exact kI0 kN1|(refine kI0 (kM0 ?_);(simp <;> fail))|(refine kI0 (kM1 ?_);(simp <;> fail))|refine kCd ?_|refine kCe ?_|refine kCo (by decide) ?_|refine kCs (by simp only[ne_eq];omega) ?_|refine kCa ?_|refine kCb (by assumption) ?_|refine kId ?_|refine kIs ?_|refine kIa ?_|refine kIb (by assumption) ?_))⟩⟩
  case rest =>
   obtain⟨w3,bY,sY,zY,kY,cY,rfl,rfl,rfl,hby,hb,⟨fY,hwy⟩,hleY⟩:=hcut;have BY3:=zk hby;have WY3:=zk hwy
   clear hby hwy za zb x0 x1 x2 y0 y1 y2 C1 C2 C3;have BX3:=zk (BX2.out.q_ hb);have WX3:=zk (WX2.out.q_ hb);have HW3:=zJ HW2 hb
   clear BX2 WX2 HW2 hb;obtain⟨zx,x0,x1⟩:=BX3.out;obtain⟨zy,y0,y1⟩:=BY3.out;go_wp2_with fail
   refine(zqz sX sY zX zY kX kY cX cY fX fY _ (by omega) (by omega) WX3.out.rd WY3.out.rd WX3.out.lm WY3.out.lm).mono ?_;rintro e w4 ⟨cc,er,rfl,hb,hcm⟩;have hcc:er=0/\zrK cc a b:=by
    rcases hcm with⟨_,h1,h2⟩|⟨h1,_⟩
    ·rw[WX3.out.val,WY3.out.val]at h2
     exact⟨h1,zoN h2⟩
    ·exact absurd ⟨WX3.out.wf,WY3.out.wf⟩ h1
   obtain⟨rfl,hord⟩:=hcc;have HO:=zk hord;have HW4:=zJ HW3 hb
   clear hcm hord hb;go_wp2
   go_ret2
   exact⟨cc,rfl,HW4.out,HO.out⟩
theorem zsf {v s} {D:Nat} (hv:v=sg s v.natAbs) (hD:0<D) :
  ((v:Rat)/((D:Int):Rat)).num=sg s (v.natAbs/v.natAbs.gcd D)/\((v:Rat)/((D:Int):Rat)).den=D/v.natAbs.gcd D:=by
 have hG:0<v.natAbs.gcd D:=Nat.gcd_pos_of_pos_right _ hD;have e1:v.natAbs/v.natAbs.gcd D*v.natAbs.gcd D=v.natAbs:=Nat.div_mul_cancel (Nat.gcd_dvd_left _ _);have e2:D/v.natAbs.gcd D*v.natAbs.gcd D=D:=Nat.div_mul_cancel (Nat.gcd_dvd_right _ _);have h:=zse (s:=s) (t:=false) (NA:=v.natAbs/v.natAbs.gcd D) (NB:=D/v.natAbs.gcd D) (G:=v.natAbs.gcd D) (by rw[e2];exact hD) (by rw[e1,e2]);rw[e1,e2,<-hv]at h
 simpa[sg]using h
theorem zlo (a b:Rat):a+b=((a.num*b.den+b.num*a.den:Int):Rat)/(((a.den*b.den:Nat):Int):Rat):=by
 have ha:(a.den:Int)≠0:=by have:=a.den_pos;omega
 have hb:(b.den:Int)≠0:=by have:=b.den_pos;omega
 have h:=Rat.divInt_add_divInt a.num b.num ha hb;rw[Rat.num_divInt_den,Rat.num_divInt_den]at h
 rw[h,Rat.divInt_eq_div];simp
theorem zfS (a b:Rat):a*b=((a.num*b.num:Int):Rat)/(((a.den*b.den:Nat):Int):Rat):=by
 have h:=Rat.divInt_mul_divInt a.num b.num (d₁:=a.den) (d₂:=b.den);rw[Rat.num_divInt_den,Rat.num_divInt_den]at h
 rw[h,Rat.divInt_eq_div];simp
theorem zkh {w} (a0 a1 a2 b0 b1 b2:Value) (t:TypeId) :
  Bx3 (((w.alloc (cells #[a0,a1,a2] t)).alloc (cells #[b0,b1,b2] t)).alloc (cells #[.bool false,slice none 0 0,slice none 0 0] t)) w.heap.size a0 a1 a2/\Bx3 (((w.alloc (cells #[a0,a1,a2] t)).alloc (cells #[b0,b1,b2] t)).alloc (cells #[.bool false,slice none 0 0,slice none 0 0] t)) (w.heap.size+1) b0 b1 b2/\Ob (((w.alloc (cells #[a0,a1,a2] t)).alloc (cells #[b0,b1,b2] t)).alloc (cells #[.bool false,slice none 0 0,slice none 0 0] t)) (w.heap.size+1+1)/\Bl w (((w.alloc (cells #[a0,a1,a2] t)).alloc (cells #[b0,b1,b2] t)).alloc (cells #[.bool false,slice none 0 0,slice none 0 0] t)):=by
 have h1:=zbr w a0 a1 a2 t;have h2:=zbr (w.alloc (cells #[a0,a1,a2] t)) b0 b1 b2 t;rw[zw]at h2
 have h3:=zaz ((w.alloc (cells #[a0,a1,a2] t)).alloc (cells #[b0,b1,b2] t)) t;rw[zw,zw]at h3
 exact⟨(h1.alloc _).alloc _,h2.alloc _,h3,zu (zu (zB w _) _) _⟩
theorem zni {w z k c d V} (h:Dn w z k d V) (hk:k<=1048576) :
  Calls prog 83 #[.bool false,slice z k c] w λe w'=>∃r,e=returned (agg #[.bool r,slice z k c])/\Bl w w'/\Hid (Zn w' r z k d (V:Int)) :=
 (zfp hk).mono (λ_ _ ⟨r,h1,h2,h3⟩=>⟨r,h1,h2,Zn.of (s:=false) (h.q_ h2) h3⟩)
theorem zje {w s x n c d v y m e g D} (ha:Zn w s x n d v) (hb:Dn w y m g D) (hn:n<=260000) (hm:m<=260000) (hD:0<D) :
  Calls prog 82 #[agg #[.bool s,slice x n c],slice y m e] w λen w'=>∃s' x' n' c1 d' y' m' c2 g',en=returned (agg #[.bool s',slice x' n' c1,slice y' m' c2])/\Bl w w'/\Hid (n'<=n+2/\m'<=m+2/\Qn w' s' x' n' d' y' m' g' ((v:Rat)/((D:Int):Rat))):=by
 refine(zso ha.dn hb ha.pos hn hm hD).mono ?_;rintro en w' ⟨r,z,k,c',d',z2,k2,c2,d2,rfl,h2,h3,h4,h5,h6,h7⟩;obtain⟨e1,e2⟩:=zsf ha.sgn hD;have hz:=Zn.of h6 h5;rw[<-e1]at hz
 rw[<-e2]at h7
 exact⟨r,z,k,c',d',z2,k2,c2,d2,rfl,h2,h3,h4,hz,h7⟩
theorem Dn.lenK {w x n d V K} (h:Dn w x n d V) (hV:(V:Int)<pd K):n<=K:=by
 by_cases hn:n<=K
 ·exact hn
 ·have h1:=zcd h.dg h.fm (by omega);have h2:=zdF (show K<=n-1 by omega);have h3:=h.val;omega
theorem Dn.ltK {w x n d V K} (h:Dn w x n d V) (hn:n<=K):(V:Int)<pd K:=by
 have h1:=zcr h.dg;have h2:=zdF hn;have h3:=h.val;omega
theorem zlW {w w2 w3 s x n d u s2 x2 n2 d2 v s3 x3 n3 d3 K} (ha:Zn w s x n d u) (hb:Zn w2 s2 x2 n2 d2 v) (hc:Zn w3 s3 x3 n3 d3 (u+v)) (h1:n<=K) (h2:n2<=K):n3<=K+1:=by
 have e1:=ha.dn.ltK h1;have e2:=hb.dn.ltK h2;refine hc.dn.lenK ?_;have e3:=Int.natAbs_add_le u v;have e4:=zbI K;rw[zau];omega
theorem zpc {w sa xa na ca da ya ma ea ga qa sb xb nb cb db yb mb eb gb qb} (ha:Qn w sa xa na da ya ma ga qa) (hb:Qn w sb xb nb db yb mb gb qb) (hna:na+mb<=250000) (hma:nb+ma<=250000) (hnb:ma+mb<=250000) :
  Calls prog 110 #[agg #[.bool sa,slice xa na ca,slice ya ma ea],agg #[.bool sb,slice xb nb cb,slice yb mb eb]] w λe w'=>zjD (na+ma+nb+mb+3) w w' e (qa+qb):=by
 obtain⟨h1,h2,h3,h4⟩:=zkh (w:=w) (.bool sa) (slice xa na ca) (slice ya ma ea) (.bool sb) (slice xb nb cb) (slice yb mb eb) 73;have h5:=((ha.alloc (cells #[.bool sa,slice xa na ca,slice ya ma ea] 73)).alloc (cells #[.bool sb,slice xb nb cb,slice yb mb eb] 73)).alloc (cells #[.bool false,slice none 0 0,slice none 0 0] 73);have h6:=((hb.alloc (cells #[.bool sa,slice xa na ca,slice ya ma ea] 73)).alloc (cells #[.bool sb,slice xb nb cb,slice yb mb eb] 73)).alloc (cells #[.bool false,slice none 0 0,slice none 0 0] 73);clear ha hb;go_enter func110,ntmps110;go_wp2_with fail
 generalize((w.alloc (cells #[.bool sa,slice xa na ca,slice ya ma ea] 73)).alloc (cells #[.bool sb,slice xb nb cb,slice yb mb eb] 73)).alloc (cells #[.bool false,slice none 0 0,slice none 0 0] 73)=w1 at *;have HA:=zk h5;have HB:=zk h6;have OB:=zk h3;have HW:=zk h4
 obtain⟨za,a0,a1,a2⟩:=h1;obtain⟨zb,b0,b1,b2⟩:=h2;obtain⟨hz,z0,z1,z2,zf⟩:=h3;clear h4 h5 h6;have HD:=zk (show 0<qa.den*qb.den from Nat.mul_pos qa.den_pos qb.den_pos);have C1:Hid (∀W,Bl w1 W->Calls prog 83 #[.bool false,slice yb mb eb] W λe w'=>∃r,e=returned (agg #[.bool r,slice yb mb eb])/\Bl W w'/\Hid (Zn w' r yb mb gb (qb.den:Int))):=λW hW=>zni (HB.out.den.q_ hW) (by omega)
 have C2:Hid (∀(W:World) (r:Bool),Bl w1 W->Zn W r yb mb gb (qb.den:Int)->Calls prog 112 #[agg #[.bool sa,slice xa na ca],agg #[.bool r,slice yb mb eb]] W λe w'=>∃s x n c d,e=returned (agg #[.bool s,slice x n c])/\Bl W w'/\Hid (n<=na+mb/\Zn w' s x n d (qa.num*qb.den))):=λW r hW h=>zgn (HA.out.num.q_ hW) h (by omega) (by omega)
 have C3:Hid (∀W,Bl w1 W->Calls prog 83 #[.bool false,slice ya ma ea] W λe w'=>∃r,e=returned (agg #[.bool r,slice ya ma ea])/\Bl W w'/\Hid (Zn w' r ya ma ga (qa.den:Int))):=λW hW=>zni (HA.out.den.q_ hW) (by omega)
 have C4:Hid (∀(W:World) (r:Bool),Bl w1 W->Zn W r ya ma ga (qa.den:Int)->Calls prog 112 #[agg #[.bool sb,slice xb nb cb],agg #[.bool r,slice ya ma ea]] W λe w'=>∃s x n c d,e=returned (agg #[.bool s,slice x n c])/\Bl W w'/\Hid (n<=nb+ma/\Zn w' s x n d (qb.num*qa.den))):=λW r hW h=>zgn (HB.out.num.q_ hW) h (by omega) (by omega)
 have C5:Hid (∀(W:World) (s5:Bool) (x5:Option Addr) (n5 c5:Nat) (d5:Nat->Int) (s6:Bool) (x6:Option Addr) (n6 c6:Nat) (d6:Nat->Int),n5<=na+mb->n6<=nb+ma->Zn W s5 x5 n5 d5 (qa.num*qb.den)->Zn W s6 x6 n6 d6 (qb.num*qa.den)->Calls prog 130 #[agg #[.bool s5,slice x5 n5 c5],agg #[.bool s6,slice x6 n6 c6]] W λe w'=>∃s x n c d,e=returned (agg #[.bool s,slice x n c])/\Bl W w'/\Hid (n<=min (na+ma+nb+mb+1) 250001/\Zn w' s x n d (qa.num*qb.den+qb.num*qa.den))):=λW s5 x5 n5 c5 d5 s6 x6 n6 c6 d6 h1 h2 h3 h4=>(zqu h3 h4 (by omega) (by omega)).mono (λ_ _ ⟨s,x,n,c,d,k1,k2,k3,k4⟩=>⟨s,x,n,c,d,k1,k2,by have:=zlW (K:=250000) h3 h4 k4 (by omega) (by omega);omega,k4⟩)
 have C6:Hid (∀W,Bl w1 W->Calls prog 84 #[slice ya ma ea,slice yb mb eb] W λe w'=>∃z k c' q,e=returned (slice z k c')/\Bl W w'/\Hid (k<=ma+mb/\Dn w' z k q (qa.den*qb.den))):=λW hW=>zfA (HA.out.den.q_ hW) (HB.out.den.q_ hW) (by omega) (by omega)
 have C7:Hid (∀(W:World) (s:Bool) (x:Option Addr) (n c:Nat) (d:Nat->Int) (y:Option Addr) (m e:Nat) (g:Nat->Int),n<=min (na+ma+nb+mb+1) 250001->m<=ma+mb->Zn W s x n d (qa.num*qb.den+qb.num*qa.den)->Dn W y m g (qa.den*qb.den)->Calls prog 82 #[agg #[.bool s,slice x n c],slice y m e] W λen w'=>∃s' x' n' c1 d' y' m' c2 g',en=returned (agg #[.bool s',slice x' n' c1,slice y' m' c2])/\Bl W w'/\Hid (n'<=na+ma+nb+mb+3/\m'<=na+ma+nb+mb+3/\Qn w' s' x' n' d' y' m' g' (qa+qb))):=λW s x n c d y m e g h1 h2 h3 h4=>(zje h3 h4 (by omega) (by omega) HD.out).mono (λ_ _ ⟨s',x',n',c1,d',y',m',c2,g',k1,k2,k3,k4,k5⟩=>⟨s',x',n',c1,d',y',m',c2,g',k1,k2,by omega,by omega,by rw[zlo];exact k5⟩)
 go_region_held3 (λw'=>w'.cell? ⟨w.heap.size,0,none⟩=some (.bool sa)/\w'.cell? ⟨w.heap.size,1,none⟩=some (slice xa na ca)/\w'.cell? ⟨w.heap.size,2,none⟩=some (slice ya ma ea)/\w'.cell? ⟨w.heap.size+1,0,none⟩=some (.bool sb)/\w'.cell? ⟨w.heap.size+1,1,none⟩=some (slice xb nb cb)/\w'.cell? ⟨w.heap.size+1,2,none⟩=some (slice yb mb eb)/\(w'.cell? ⟨w.heap.size+1+1,0,none⟩).isSome=true/\(w'.cell? ⟨w.heap.size+1+1,1,none⟩).isSome=true/\(w'.cell? ⟨w.heap.size+1+1,2,none⟩).isSome=true/\w'.frozen? ⟨w.heap.size+1+1,0,none⟩=false/\w'.frozen? ⟨w.heap.size+1+1,1,none⟩=false/\w'.frozen? ⟨w.heap.size+1+1,2,none⟩=false)
  (refine⟨?_,?_,?_,?_,?_,?_,?_,?_,?_,?_,?_,?_⟩ <;> repeat(with_reducible first|assumption|exact zf _|exact tf _|exact uf _|exact vf _|exact rf _|exact of _|exact kf _|exact pf _|exact kI0 z0|exact kI0 z1|exact kI0 z2|exact kI0 t0|exact kI0 t1|exact kI0 t2|exact kI0 u0|exact kI0 u1|exact kI0 u2|exact kI0 v0|exact kI0 v1|exact kI0 v2|exact kI0 r0|exact kI0 r1|exact kI0 r2|exact kI0 o0|exact kI0 o1|exact kI0 o2|exact kI0 k0|exact kI0 k1|exact kI0 k2|exact kI0 p0|exact kI0 p1|exact kI0 p2|refine kCd ?_|refine kId ?_|refine kFd ?_|refine kCs (by simp only[ne_eq];omega) ?_|refine kIs ?_|refine kFs ?_|refine kCb (by assumption) ?_|refine kIb (by assumption) ?_))
  (first
   | (go_at_call 83;with_reducible refine(C1.out _ zaq).mono ?_;rintro e v1 ⟨r1,rfl,hv1,H1⟩;have Tt:Ob v1 (w.heap.size+1+1):=(by repeat(with_reducible first|exact OB.out|exact Tt|exact Tu|exact Tv|exact Tr|exact To|exact Tk|exact Tp|refine Ob.drew ?_|refine kOb (by assumption) ?_));obtain⟨_,t0,t1,t2,tf⟩:=id Tt)
   | (go_at_call 112;with_reducible refine(C2.out _ r1 zaq (by repeat(with_reducible first|exact H1.out|refine kZd ?_|refine kZb (by assumption) ?_))).mono ?_;rintro e v2 ⟨s2,x2,n2,c2,d2,rfl,hv2,H2⟩;have Tu:Ob v2 (w.heap.size+1+1):=(by repeat(with_reducible first|exact OB.out|exact Tt|exact Tu|exact Tv|exact Tr|exact To|exact Tk|exact Tp|refine Ob.drew ?_|refine kOb (by assumption) ?_));obtain⟨_,u0,u1,u2,uf⟩:=id Tu)
   | (go_at_call 83;with_reducible refine(C3.out _ zaq).mono ?_;rintro e v3 ⟨r3,rfl,hv3,H3⟩;have Tv:Ob v3 (w.heap.size+1+1):=(by repeat(with_reducible first|exact OB.out|exact Tt|exact Tu|exact Tv|exact Tr|exact To|exact Tk|exact Tp|refine Ob.drew ?_|refine kOb (by assumption) ?_));obtain⟨_,v0,v1,v2,vf⟩:=id Tv)
   | (go_at_call 112;with_reducible refine(C4.out _ r3 zaq (by repeat(with_reducible first|exact H3.out|refine kZd ?_|refine kZb (by assumption) ?_))).mono ?_;rintro e v4 ⟨s4,x4,n4,c4,d4,rfl,hv4,H4⟩;have Tr:Ob v4 (w.heap.size+1+1):=(by repeat(with_reducible first|exact OB.out|exact Tt|exact Tu|exact Tv|exact Tr|exact To|exact Tk|exact Tp|refine Ob.drew ?_|refine kOb (by assumption) ?_));obtain⟨_,r0,r1,r2,rf⟩:=id Tr)
   | (go_at_call 130;with_reducible refine(C5.out _ s2 x2 n2 c2 d2 s4 x4 n4 c4 d4 H2.out.1 H4.out.1 (by repeat(with_reducible first|exact H2.out.2|refine kZd ?_|refine kZb (by assumption) ?_)) (by repeat(with_reducible first|exact H4.out.2|refine kZd ?_|refine kZb (by assumption) ?_))).mono ?_;rintro e v5 ⟨s5,x5,n5,c5,d5,rfl,hv5,H5⟩;have To:Ob v5 (w.heap.size+1+1):=(by repeat(with_reducible first|exact OB.out|exact Tt|exact Tu|exact Tv|exact Tr|exact To|exact Tk|exact Tp|refine Ob.drew ?_|refine kOb (by assumption) ?_));obtain⟨_,o0,o1,o2,of⟩:=id To)
   | (go_at_call 84;with_reducible refine(C6.out _ zaq).mono ?_;rintro e v6 ⟨z6,k6,c6,d6,rfl,hv6,H6⟩;have Tk:Ob v6 (w.heap.size+1+1):=(by repeat(with_reducible first|exact OB.out|exact Tt|exact Tu|exact Tv|exact Tr|exact To|exact Tk|exact Tp|refine Ob.drew ?_|refine kOb (by assumption) ?_));obtain⟨_,k0,k1,k2,kf⟩:=id Tk)
   | (go_at_call 82;with_reducible refine(C7.out _ s5 x5 n5 c5 d5 z6 k6 c6 d6 H5.out.1 H6.out.1 (by repeat(with_reducible first|exact H5.out.2|refine kZd ?_|refine kZb (by assumption) ?_)) (by repeat(with_reducible first|exact H6.out.2|refine Dn.drew ?_|refine kDb (by assumption) ?_))).mono ?_;rintro e v8 ⟨s8,x8,n8,c8,d8,y8,m8,e8,g8,rfl,hv8,H8⟩;have Tp:Ob v8 (w.heap.size+1+1):=(by repeat(with_reducible first|exact OB.out|exact Tt|exact Tu|exact Tv|exact Tr|exact To|exact Tk|exact Tp|refine Ob.drew ?_|refine kOb (by assumption) ?_));obtain⟨_,p0,p1,p2,pf⟩:=id Tp))
 all_goals
  have hb:Bl w1 v8:=zaq;go_wp2;exact bodyPost_ret (v:=agg #[.bool s8,slice x8 n8 c8,slice y8 m8 e8]) (by simp[results,results110,go_sem,p0,p1,p2]) rfl ⟨s8,x8,n8,c8,d8,y8,m8,e8,g8,rfl,zU (bUp HW.out hb) (by omega),H8.out.1,H8.out.2.1,Tp.qn H8.out.2.2⟩
theorem zpa {w sa xa na ca da ya ma ea ga qa sb xb nb cb db yb mb eb gb qb} (ha:Qn w sa xa na da ya ma ga qa) (hb:Qn w sb xb nb db yb mb gb qb) (hna:na+mb<=250000) (hma:nb+ma<=250000) (hnb:ma+mb<=250000) :
  Calls prog 76 #[agg #[.bool sa,slice xa na ca,slice ya ma ea],agg #[.bool sb,slice xb nb cb,slice yb mb eb]] w λe w'=>zjD (na+ma+nb+mb+3) w w' e (qa-qb):=by
 obtain⟨h1,h2,h3,h4⟩:=zkh (w:=w) (.bool sa) (slice xa na ca) (slice ya ma ea) (.bool sb) (slice xb nb cb) (slice yb mb eb) 73;have h5:=((ha.alloc (cells #[.bool sa,slice xa na ca,slice ya ma ea] 73)).alloc (cells #[.bool sb,slice xb nb cb,slice yb mb eb] 73)).alloc (cells #[.bool false,slice none 0 0,slice none 0 0] 73);have h6:=((hb.alloc (cells #[.bool sa,slice xa na ca,slice ya ma ea] 73)).alloc (cells #[.bool sb,slice xb nb cb,slice yb mb eb] 73)).alloc (cells #[.bool false,slice none 0 0,slice none 0 0] 73);clear ha hb;go_enter func76,ntmps76;go_wp2_with fail
 generalize((w.alloc (cells #[.bool sa,slice xa na ca,slice ya ma ea] 73)).alloc (cells #[.bool sb,slice xb nb cb,slice yb mb eb] 73)).alloc (cells #[.bool false,slice none 0 0,slice none 0 0] 73)=w1 at *;have HA:=zk h5;have HB:=zk h6;have OB:=zk h3;have HW:=zk h4
 obtain⟨za,a0,a1,a2⟩:=h1;obtain⟨zb,b0,b1,b2⟩:=h2;obtain⟨hz,z0,z1,z2,zf⟩:=h3;clear h4 h5 h6;have C1:Hid (∀W,Bl w1 W->Calls prog 111 #[agg #[.bool sb,slice xb nb cb,slice yb mb eb]] W λen w'=>∃s' c',en=returned (agg #[.bool s',slice xb nb c',slice yb mb eb])/\Bl W w'/\Hid (Qn w' s' xb nb db yb mb gb (-qb))):=λW hW=>zrh (HB.out.q_ hW) (by omega)
 have C2:Hid (∀(W:World) (s:Bool) (c:Nat),Bl w1 W->Qn W s xb nb db yb mb gb (-qb)->Calls prog 110 #[agg #[.bool sa,slice xa na ca,slice ya ma ea],agg #[.bool s,slice xb nb c,slice yb mb eb]] W λen w'=>∃s' x' n' c1 d' y' m' c2 g',en=returned (agg #[.bool s',slice x' n' c1,slice y' m' c2])/\Bl W w'/\Hid (n'<=na+ma+nb+mb+3/\m'<=na+ma+nb+mb+3/\Qn w' s' x' n' d' y' m' g' (qa-qb))):=λW s c hW h=>(zpc (HA.out.q_ hW) h hna hma hnb).mono (λ_ _ ⟨s',x',n',c1,d',y',m',c2,g',k1,k2,k3,k4,k5⟩=>⟨s',x',n',c1,d',y',m',c2,g',k1,k2,k3,k4,by rw[Rat.sub_eq_add_neg];exact k5⟩)
 go_region_held3 (λw'=>w'.cell? ⟨w.heap.size,0,none⟩=some (.bool sa)/\w'.cell? ⟨w.heap.size,1,none⟩=some (slice xa na ca)/\w'.cell? ⟨w.heap.size,2,none⟩=some (slice ya ma ea)/\w'.cell? ⟨w.heap.size+1,0,none⟩=some (.bool sb)/\w'.cell? ⟨w.heap.size+1,1,none⟩=some (slice xb nb cb)/\w'.cell? ⟨w.heap.size+1,2,none⟩=some (slice yb mb eb)/\(w'.cell? ⟨w.heap.size+1+1,0,none⟩).isSome=true/\(w'.cell? ⟨w.heap.size+1+1,1,none⟩).isSome=true/\(w'.cell? ⟨w.heap.size+1+1,2,none⟩).isSome=true/\w'.frozen? ⟨w.heap.size+1+1,0,none⟩=false/\w'.frozen? ⟨w.heap.size+1+1,1,none⟩=false/\w'.frozen? ⟨w.heap.size+1+1,2,none⟩=false)
  (refine⟨?_,?_,?_,?_,?_,?_,?_,?_,?_,?_,?_,?_⟩ <;> repeat(with_reducible first|assumption|exact zf _|exact tf _|exact pf _|exact kI0 z0|exact kI0 z1|exact kI0 z2|exact kI0 t0|exact kI0 t1|exact kI0 t2|exact kI0 p0|exact kI0 p1|exact kI0 p2|refine kCd ?_|refine kId ?_|refine kFd ?_|refine kCs (by simp only[ne_eq];omega) ?_|refine kIs ?_|refine kFs ?_|refine kCb (by assumption) ?_|refine kIb (by assumption) ?_))
  (first
   | (go_at_call 111;with_reducible refine(C1.out _ zaq).mono ?_;rintro e v1 ⟨r1,k1,rfl,hv1,H1⟩;have Tt:Ob v1 (w.heap.size+1+1):=(by repeat(with_reducible first|exact OB.out|exact Tt|exact Tu|exact Tv|exact Tr|exact To|exact Tk|exact Tp|refine Ob.drew ?_|refine kOb (by assumption) ?_));obtain⟨_,t0,t1,t2,tf⟩:=id Tt)
   | (go_at_call 110;with_reducible refine(C2.out _ r1 k1 zaq (by repeat(with_reducible first|exact H1.out|refine kQd ?_|refine kQb (by assumption) ?_))).mono ?_;rintro e v8 ⟨s8,x8,n8,c8,d8,y8,m8,e8,g8,rfl,hv8,H8⟩;have Tp:Ob v8 (w.heap.size+1+1):=(by repeat(with_reducible first|exact OB.out|exact Tt|exact Tu|exact Tv|exact Tr|exact To|exact Tk|exact Tp|refine Ob.drew ?_|refine kOb (by assumption) ?_));obtain⟨_,p0,p1,p2,pf⟩:=id Tp))
 all_goals
  have hb:Bl w1 v8:=zaq;go_wp2;exact bodyPost_ret (v:=agg #[.bool s8,slice x8 n8 c8,slice y8 m8 e8]) (by simp[results,results76,go_sem,p0,p1,p2]) rfl ⟨s8,x8,n8,c8,d8,y8,m8,e8,g8,rfl,zU (bUp HW.out hb) (by omega),H8.out.1,H8.out.2.1,Tp.qn H8.out.2.2⟩
theorem zrf {w sa xa na ca da ya ma ea ga qa sb xb nb cb db yb mb eb gb qb} (ha:Qn w sa xa na da ya ma ga qa) (hb:Qn w sb xb nb db yb mb gb qb) (hna:na<=120000) (hma:ma<=120000) (hnb:nb<=120000) (hmb:mb<=120000) :
  Calls prog 76 #[agg #[.bool sa,slice xa na ca,slice ya ma ea],agg #[.bool sb,slice xb nb cb,slice yb mb eb]] w λe w'=>zjD (na+ma+nb+mb+3) w w' e (qa-qb):=zpa ha hb (by omega) (by omega) (by omega)
theorem zln {a b s t} (ha:a.num=sg s a.num.natAbs) (hb:b.num=sg t b.num.natAbs) (h0:0<b.num.natAbs):a/b=((sg (!(s==t)) (a.num.natAbs*b.den):Int):Rat)/(((a.den*b.num.natAbs:Nat):Int):Rat):=by
 obtain⟨e1,e2⟩:=zsY hb h0;rw[Rat.div_def,zfS,e1,e2];have e3:a.num*sg t b.den=sg (s != t) (a.num.natAbs*b.den):=by
  have:=ziS s t a.num.natAbs b.den;rw[<-ha]at this;exact this
 rw[e3];have e4:(s != t)=!(s==t):=by cases s <;> cases t <;> rfl
 rw[e4]
theorem zri {w sa xa na ca da ya ma ea ga qa sb xb nb cb db yb mb eb gb qb} (ha:Qn w sa xa na da ya ma ga qa) (hb:Qn w sb xb nb db yb mb gb qb) (hna:na<=32000) (hma:ma<=32000) (hnb:nb<=32000) (hmb:mb<=32000) :
  Calls prog 77 #[agg #[.bool sa,slice xa na ca,slice ya ma ea],agg #[.bool sb,slice xb nb cb,slice yb mb eb]] w λe w'=>zjD (na+ma+nb+mb+3) w w' e (qa*qb):=by
 obtain⟨h1,h2,h3,h4⟩:=zkh (w:=w) (.bool sa) (slice xa na ca) (slice ya ma ea) (.bool sb) (slice xb nb cb) (slice yb mb eb) 73;have h5:=((ha.alloc (cells #[.bool sa,slice xa na ca,slice ya ma ea] 73)).alloc (cells #[.bool sb,slice xb nb cb,slice yb mb eb] 73)).alloc (cells #[.bool false,slice none 0 0,slice none 0 0] 73);have h6:=((hb.alloc (cells #[.bool sa,slice xa na ca,slice ya ma ea] 73)).alloc (cells #[.bool sb,slice xb nb cb,slice yb mb eb] 73)).alloc (cells #[.bool false,slice none 0 0,slice none 0 0] 73);clear ha hb;go_enter func77,ntmps77;go_wp2_with fail
 generalize((w.alloc (cells #[.bool sa,slice xa na ca,slice ya ma ea] 73)).alloc (cells #[.bool sb,slice xb nb cb,slice yb mb eb] 73)).alloc (cells #[.bool false,slice none 0 0,slice none 0 0] 73)=w1 at *;have HA:=zk h5;have HB:=zk h6;have OB:=zk h3;have HW:=zk h4
 obtain⟨za,a0,a1,a2⟩:=h1;obtain⟨zb,b0,b1,b2⟩:=h2;obtain⟨hz,z0,z1,z2,zf⟩:=h3;clear h4 h5 h6;have HD:=zk (show 0<qa.den*qb.den from Nat.mul_pos qa.den_pos qb.den_pos);have C2:Hid (∀(W:World),Bl w1 W->Calls prog 112 #[agg #[.bool sa,slice xa na ca],agg #[.bool sb,slice xb nb cb]] W λe w'=>∃s x n c d,e=returned (agg #[.bool s,slice x n c])/\Bl W w'/\Hid (n<=na+nb/\Zn w' s x n d (qa.num*qb.num))):=λW hW=>zgn (HA.out.num.q_ hW) (HB.out.num.q_ hW) (by omega) (by omega)
 have C6:Hid (∀W,Bl w1 W->Calls prog 84 #[slice ya ma ea,slice yb mb eb] W λe w'=>∃z k c' q,e=returned (slice z k c')/\Bl W w'/\Hid (k<=ma+mb/\Dn w' z k q (qa.den*qb.den))):=λW hW=>zfA (HA.out.den.q_ hW) (HB.out.den.q_ hW) (by omega) (by omega)
 have C7:Hid (∀(W:World) (s:Bool) (x:Option Addr) (n c:Nat) (d:Nat->Int) (y:Option Addr) (m e:Nat) (g:Nat->Int),n<=na+nb->m<=ma+mb->Zn W s x n d (qa.num*qb.num)->Dn W y m g (qa.den*qb.den)->Calls prog 82 #[agg #[.bool s,slice x n c],slice y m e] W λen w'=>∃s' x' n' c1 d' y' m' c2 g',en=returned (agg #[.bool s',slice x' n' c1,slice y' m' c2])/\Bl W w'/\Hid (n'<=na+ma+nb+mb+3/\m'<=na+ma+nb+mb+3/\Qn w' s' x' n' d' y' m' g' (qa*qb))):=λW s x n c d y m e g h1 h2 h3 h4=>(zje h3 h4 (by omega) (by omega) HD.out).mono (λ_ _ ⟨s',x',n',c1,d',y',m',c2,g',k1,k2,k3,k4,k5⟩=>⟨s',x',n',c1,d',y',m',c2,g',k1,k2,by omega,by omega,by rw[zfS];exact k5⟩)
 go_region_held3 (λw'=>w'.cell? ⟨w.heap.size,0,none⟩=some (.bool sa)/\w'.cell? ⟨w.heap.size,1,none⟩=some (slice xa na ca)/\w'.cell? ⟨w.heap.size,2,none⟩=some (slice ya ma ea)/\w'.cell? ⟨w.heap.size+1,0,none⟩=some (.bool sb)/\w'.cell? ⟨w.heap.size+1,1,none⟩=some (slice xb nb cb)/\w'.cell? ⟨w.heap.size+1,2,none⟩=some (slice yb mb eb)/\(w'.cell? ⟨w.heap.size+1+1,0,none⟩).isSome=true/\(w'.cell? ⟨w.heap.size+1+1,1,none⟩).isSome=true/\(w'.cell? ⟨w.heap.size+1+1,2,none⟩).isSome=true/\w'.frozen? ⟨w.heap.size+1+1,0,none⟩=false/\w'.frozen? ⟨w.heap.size+1+1,1,none⟩=false/\w'.frozen? ⟨w.heap.size+1+1,2,none⟩=false)
  (refine⟨?_,?_,?_,?_,?_,?_,?_,?_,?_,?_,?_,?_⟩ <;> repeat(with_reducible first|assumption|exact zf _|exact uf _|exact kf _|exact pf _|exact kI0 z0|exact kI0 z1|exact kI0 z2|exact kI0 u0|exact kI0 u1|exact kI0 u2|exact kI0 k0|exact kI0 k1|exact kI0 k2|exact kI0 p0|exact kI0 p1|exact kI0 p2|refine kCd ?_|refine kId ?_|refine kFd ?_|refine kCs (by simp only[ne_eq];omega) ?_|refine kIs ?_|refine kFs ?_|refine kCb (by assumption) ?_|refine kIb (by assumption) ?_))
  (first
   | (go_at_call 112;with_reducible refine(C2.out _ zaq).mono ?_;rintro e v2 ⟨s2,x2,n2,c2,d2,rfl,hv2,H2⟩;have Tu:Ob v2 (w.heap.size+1+1):=(by repeat(with_reducible first|exact OB.out|exact Tt|exact Tu|exact Tk|exact Tp|refine Ob.drew ?_|refine kOb (by assumption) ?_));obtain⟨_,u0,u1,u2,uf⟩:=id Tu)
   | (go_at_call 84;with_reducible refine(C6.out _ zaq).mono ?_;rintro e v6 ⟨z6,k6,c6,d6,rfl,hv6,H6⟩;have Tk:Ob v6 (w.heap.size+1+1):=(by repeat(with_reducible first|exact OB.out|exact Tt|exact Tu|exact Tk|exact Tp|refine Ob.drew ?_|refine kOb (by assumption) ?_));obtain⟨_,k0,k1,k2,kf⟩:=id Tk)
   | (go_at_call 82;with_reducible refine(C7.out _ s2 x2 n2 c2 d2 z6 k6 c6 d6 H2.out.1 H6.out.1 (by repeat(with_reducible first|exact H2.out.2|refine kZd ?_|refine kZb (by assumption) ?_)) (by repeat(with_reducible first|exact H6.out.2|refine Dn.drew ?_|refine kDb (by assumption) ?_))).mono ?_;rintro e v8 ⟨s8,x8,n8,c8,d8,y8,m8,e8,g8,rfl,hv8,H8⟩;have Tp:Ob v8 (w.heap.size+1+1):=(by repeat(with_reducible first|exact OB.out|exact Tt|exact Tu|exact Tk|exact Tp|refine Ob.drew ?_|refine kOb (by assumption) ?_));obtain⟨_,p0,p1,p2,pf⟩:=id Tp))
 all_goals
  have hb:Bl w1 v8:=zaq;go_wp2;exact bodyPost_ret (v:=agg #[.bool s8,slice x8 n8 c8,slice y8 m8 e8]) (by simp[results,results77,go_sem,p0,p1,p2]) rfl ⟨s8,x8,n8,c8,d8,y8,m8,e8,g8,rfl,zU (bUp HW.out hb) (by omega),H8.out.1,H8.out.2.1,Tp.qn H8.out.2.2⟩
theorem zrg {w sa xa na ca da ya ma ea ga qa sb xb nb cb db yb mb eb gb qb} (ha:Qn w sa xa na da ya ma ga qa) (hb:Qn w sb xb nb db yb mb gb qb) (hna:na<=32000) (hma:ma<=32000) (hnb:nb<=32000) (hmb:mb<=32000) (hq0:qb.num≠0) :
  Calls prog 50 #[agg #[.bool sa,slice xa na ca,slice ya ma ea],agg #[.bool sb,slice xb nb cb,slice yb mb eb]] w λe w'=>zjD (na+ma+nb+mb+3) w w' e (qa/qb):=by
 obtain⟨h1,h2,h3,h4⟩:=zkh (w:=w) (.bool sa) (slice xa na ca) (slice ya ma ea) (.bool sb) (slice xb nb cb) (slice yb mb eb) 73;have h5:=((ha.alloc (cells #[.bool sa,slice xa na ca,slice ya ma ea] 73)).alloc (cells #[.bool sb,slice xb nb cb,slice yb mb eb] 73)).alloc (cells #[.bool false,slice none 0 0,slice none 0 0] 73);have h6:=((hb.alloc (cells #[.bool sa,slice xa na ca,slice ya ma ea] 73)).alloc (cells #[.bool sb,slice xb nb cb,slice yb mb eb] 73)).alloc (cells #[.bool false,slice none 0 0,slice none 0 0] 73);clear ha hb;go_enter func50,ntmps50;go_wp2_with fail
 generalize((w.alloc (cells #[.bool sa,slice xa na ca,slice ya ma ea] 73)).alloc (cells #[.bool sb,slice xb nb cb,slice yb mb eb] 73)).alloc (cells #[.bool false,slice none 0 0,slice none 0 0] 73)=w1 at *;have HA:=zk h5;have HB:=zk h6;have OB:=zk h3;have HW:=zk h4
 obtain⟨za,a0,a1,a2⟩:=h1;obtain⟨zb,b0,b1,b2⟩:=h2;obtain⟨hz,z0,z1,z2,zf⟩:=h3;clear h4 h5 h6;have hp0:0<qb.num.natAbs:=by omega
 have HP0:=zk hp0;have HD:=zk (show 0<qa.den*qb.num.natAbs from Nat.mul_pos qa.den_pos hp0);clear hp0 hq0;have C2:Hid (∀(W:World),Bl w1 W->Calls prog 84 #[slice xa na ca,slice yb mb eb] W λe w'=>∃z k c' q,e=returned (slice z k c')/\Bl W w'/\Hid (k<=na+mb/\Dn w' z k q (qa.num.natAbs*qb.den))):=λW hW=>zfA (HA.out.num.dn.q_ hW) (HB.out.den.q_ hW) (by omega) (by omega)
 have C3:Hid (∀(W:World) (z:Option Addr) (k c:Nat) (d:Nat->Int),k<=na+mb->Dn W z k d (qa.num.natAbs*qb.den)->Calls prog 83 #[.bool (!(sa==sb)),slice z k c] W λe w'=>∃r,e=returned (agg #[.bool r,slice z k c])/\Bl W w'/\Hid (Zn w' r z k d (sg (!(sa==sb)) (qa.num.natAbs*qb.den)))):=λW z k c d h1 h2=>(zfp (by omega)).mono (λ_ _ ⟨r,k1,k2,k3⟩=>⟨r,k1,k2,Zn.of (h2.q_ k2) k3⟩)
 have C6:Hid (∀W,Bl w1 W->Calls prog 84 #[slice ya ma ea,slice xb nb cb] W λe w'=>∃z k c' q,e=returned (slice z k c')/\Bl W w'/\Hid (k<=ma+nb/\Dn w' z k q (qa.den*qb.num.natAbs))):=λW hW=>zfA (HA.out.den.q_ hW) (HB.out.num.dn.q_ hW) (by omega) (by omega)
 have C7:Hid (∀(W:World) (s:Bool) (x:Option Addr) (n c:Nat) (d:Nat->Int) (y:Option Addr) (m e:Nat) (g:Nat->Int),n<=na+mb->m<=ma+nb->Zn W s x n d (sg (!(sa==sb)) (qa.num.natAbs*qb.den))->Dn W y m g (qa.den*qb.num.natAbs)->Calls prog 82 #[agg #[.bool s,slice x n c],slice y m e] W λen w'=>∃s' x' n' c1 d' y' m' c2 g',en=returned (agg #[.bool s',slice x' n' c1,slice y' m' c2])/\Bl W w'/\Hid (n'<=na+ma+nb+mb+3/\m'<=na+ma+nb+mb+3/\Qn w' s' x' n' d' y' m' g' (qa/qb))):=λW s x n c d y m e g h1 h2 h3 h4=>(zje h3 h4 (by omega) (by omega) HD.out).mono (λ_ _ ⟨s',x',n',c1,d',y',m',c2,g',k1,k2,k3,k4,k5⟩=>⟨s',x',n',c1,d',y',m',c2,g',k1,k2,by omega,by omega,by rw[zln HA.out.num.sgn HB.out.num.sgn HP0.out];exact k5⟩)
 go_region_held3 (λw'=>w'.cell? ⟨w.heap.size,0,none⟩=some (.bool sa)/\w'.cell? ⟨w.heap.size,1,none⟩=some (slice xa na ca)/\w'.cell? ⟨w.heap.size,2,none⟩=some (slice ya ma ea)/\w'.cell? ⟨w.heap.size+1,0,none⟩=some (.bool sb)/\w'.cell? ⟨w.heap.size+1,1,none⟩=some (slice xb nb cb)/\w'.cell? ⟨w.heap.size+1,2,none⟩=some (slice yb mb eb)/\(w'.cell? ⟨w.heap.size+1+1,0,none⟩).isSome=true/\(w'.cell? ⟨w.heap.size+1+1,1,none⟩).isSome=true/\(w'.cell? ⟨w.heap.size+1+1,2,none⟩).isSome=true/\w'.frozen? ⟨w.heap.size+1+1,0,none⟩=false/\w'.frozen? ⟨w.heap.size+1+1,1,none⟩=false/\w'.frozen? ⟨w.heap.size+1+1,2,none⟩=false)
  (refine⟨?_,?_,?_,?_,?_,?_,?_,?_,?_,?_,?_,?_⟩ <;> repeat(with_reducible first|assumption|exact zf _|exact tf _|exact uf _|exact kf _|exact pf _|exact kI0 z0|exact kI0 z1|exact kI0 z2|exact kI0 t0|exact kI0 t1|exact kI0 t2|exact kI0 u0|exact kI0 u1|exact kI0 u2|exact kI0 k0|exact kI0 k1|exact kI0 k2|exact kI0 p0|exact kI0 p1|exact kI0 p2|refine kCd ?_|refine kId ?_|refine kFd ?_|refine kCs (by simp only[ne_eq];omega) ?_|refine kIs ?_|refine kFs ?_|refine kCb (by assumption) ?_|refine kIb (by assumption) ?_))
  (first
   | (go_at_call 84;with_reducible refine(C2.out _ zaq).mono ?_;rintro e v2 ⟨zm,km,cm,dm,rfl,hv2,H2⟩;have Tt:Ob v2 (w.heap.size+1+1):=(by repeat(with_reducible first|exact OB.out|exact Tt|exact Tu|exact Tk|exact Tp|refine Ob.drew ?_|refine kOb (by assumption) ?_));obtain⟨_,t0,t1,t2,tf⟩:=id Tt)
   | (go_at_call 83;with_reducible refine(C3.out _ zm km cm dm H2.out.1 (by repeat(with_reducible first|exact H2.out.2|refine Dn.drew ?_|refine kDb (by assumption) ?_))).mono ?_;rintro e v3 ⟨r3,rfl,hv3,H3⟩;have Tu:Ob v3 (w.heap.size+1+1):=(by repeat(with_reducible first|exact OB.out|exact Tt|exact Tu|exact Tk|exact Tp|refine Ob.drew ?_|refine kOb (by assumption) ?_));obtain⟨_,u0,u1,u2,uf⟩:=id Tu)
   | (go_at_call 84;with_reducible refine(C6.out _ zaq).mono ?_;rintro e v6 ⟨z6,k6,c6,d6,rfl,hv6,H6⟩;have Tk:Ob v6 (w.heap.size+1+1):=(by repeat(with_reducible first|exact OB.out|exact Tt|exact Tu|exact Tk|exact Tp|refine Ob.drew ?_|refine kOb (by assumption) ?_));obtain⟨_,k0,k1,k2,kf⟩:=id Tk)
   | (go_at_call 82;with_reducible refine(C7.out _ r3 zm km cm dm z6 k6 c6 d6 H2.out.1 H6.out.1 (by repeat(with_reducible first|exact H3.out|refine kZd ?_|refine kZb (by assumption) ?_)) (by repeat(with_reducible first|exact H6.out.2|refine Dn.drew ?_|refine kDb (by assumption) ?_))).mono ?_;rintro e v8 ⟨s8,x8,n8,c8,d8,y8,m8,e8,g8,rfl,hv8,H8⟩;have Tp:Ob v8 (w.heap.size+1+1):=(by repeat(with_reducible first|exact OB.out|exact Tt|exact Tu|exact Tk|exact Tp|refine Ob.drew ?_|refine kOb (by assumption) ?_));obtain⟨_,p0,p1,p2,pf⟩:=id Tp))
 all_goals
  have hb:Bl w1 v8:=zaq;go_wp2;exact bodyPost_ret (v:=agg #[.bool s8,slice x8 n8 c8,slice y8 m8 e8]) (by simp[results,results50,go_sem,p0,p1,p2]) rfl ⟨s8,x8,n8,c8,d8,y8,m8,e8,g8,rfl,zU (bUp HW.out hb) (by omega),H8.out.1,H8.out.2.1,Tp.qn H8.out.2.2⟩
theorem zgK {w s x n c d y m e g q} (h:Qn w s x n d y m g q) (hn:n<=200000) (hm:m<=200000) :
  Calls prog 26 #[agg #[.bool s,slice x n c,slice y m e]] w λen w'=>∃z k c' f z2 k2 c2 f2,en=returned (agg #[.bool s,slice z k c',slice z2 k2 c2])/\Bl w w'/\Hid (Rn (n+m) w' s z k c' f z2 k2 c2 f2 q):=by
 refine(zsj h.num.dn h.den hn hm).mono ?_;rintro en w' ⟨z,k,c',f,z2,k2,c2,f2,rfl,h2,h3,h4,h5,h6,_,_⟩;refine⟨z,k,c',f,z2,k2,c2,f2,rfl,h2,⟨h5.rd,h5.lm,(wfB_iff _ _ _).2 ⟨fm_of_wfB h5.wf,λhs=>?_⟩,h5.cap,h5.nil,?_⟩,h6,by omega,by omega⟩
 ·have h0:=h.num.dn.pos' (h.num.pos hs);rcases Nat.eq_zero_or_pos k with hk|hk
  ·subst hk;have hv:=h5.val;rw[zae]at hv
   have:(0:Int)=q.num.natAbs:=hv;omega
  ·exact hk
 ·have hv:=h5.val;rw[zae]at hv
  have hs:=h.num.sgn;cases s
  ·rw[zae,hv];exact hs.symm
  ·rw[zam,hv];exact hs.symm
theorem zoA {w z} (h0:-9223372036854775808<=z) (h1:z<=9223372036854775807) :
  Calls prog 53 #[.int .i64 z] w λe w'=>∃s x n c d,e=returned (agg #[.bool s,slice x n c])/\Bl w w'/\Hid (n<=2/\Zn w' s x n d z):=by
 refine(zqt z w h0 h1).mono ?_;rintro e w' ⟨s,x,n,c,d,rfl,h⟩;have h2:=zbd h.dg;have hv:=h.val;cases s
 ·have hv':vd d n=z:=hv;exact⟨false,x,n,c,d,rfl,h.bel,h.le,⟨h.rd,h.dg,h.fm,by omega⟩,by show z=(z.natAbs:Int);omega,h.sgn⟩
 ·have hv':- vd d n=z:=hv;exact⟨true,x,n,c,d,rfl,h.bel,h.le,⟨h.rd,h.dg,h.fm,by omega⟩,by show z=-(z.natAbs:Int);omega,h.sgn⟩
theorem zfg {w z} (h0:-9223372036854775808<=z) (h1:z<=9223372036854775807) :
  Calls prog 27 #[.int .i64 z] w λe w'=>zjD 2 w w' e (z:Rat):=by
 have h2:=zaz w 73;have h3:=zB w (cells #[.bool false,slice none 0 0,slice none 0 0] 73);go_enter func27,ntmps27;go_wp2_with fail
 generalize w.alloc (cells #[.bool false,slice none 0 0,slice none 0 0] 73)=w1 at *;have OB:=zk h2;have HW:=zk h3
 clear h2 h3;refine(zoA h0 h1).mono ?_;rintro e w2 ⟨s2,x2,n2,c2,d2,rfl,hb,H2⟩;have HB2:=zk hb;clear hb;go_wp2_with fail
 refine(zhi (V:=1) (by decide)).mono ?_;rintro e w3 ⟨z3,k3,c3,d3,rfl,hb,H3⟩;have HB3:=zJ HB2 hb;have Z3:=zk (H2.out.2.q_ hb)
 have hk3:=H3.out.1;have hn2:=H2.out.1
 clear hb;obtain⟨hz,z0,z1,z2,zf⟩:=OB.out.q_ HB3.out;go_wp2;refine bodyPost_ret (v:=agg #[.bool s2,slice x2 n2 c2,slice z3 k3 c3]) (by simp[results,results27,go_sem,z0,z1,z2]) rfl ⟨s2,x2,n2,c2,d2,z3,k3,c3,d3,rfl,zU (bUp HW.out HB3.out) (by omega),by omega,by omega,(OB.out.q_ HB3.out).qn ⟨?_,?_⟩⟩
 ·rw[Rat.num_intCast];exact Z3.out
 ·rw[Rat.den_intCast];exact H3.out.2
theorem zaE {w z} (h0:-9223372036854775808<=z) (h1:z<=9223372036854775807) :
  Calls prog 9 #[.int .i64 z] w λe w'=>zcq 4 w w' e (z:Rat):=by
 have h2:=zaz w 24;have h3:=zB w (cells #[.bool false,slice none 0 0,slice none 0 0] 24);go_enter func9,ntmps9;go_wp2_with fail
 generalize w.alloc (cells #[.bool false,slice none 0 0,slice none 0 0] 24)=w1 at *;have OB:=zk h2;have HW:=zk h3
 clear h2 h3;refine(zfg h0 h1).mono ?_;rintro e w2 ⟨s2,x2,n2,c2,d2,y2,m2,e2,g2,rfl,hb,hl1,hl2,hq⟩;have HB2:=zk hb;have HQ:=zk hq
 clear hb hq;go_wp2_with fail
 refine(zgK HQ.out (by omega) (by omega)).mono ?_;rintro e w3 ⟨z3,k3,c3,f3,y3,m3,e3,g3,rfl,hb,R3⟩;have HB3:=zJ HB2 hb;clear hb;obtain⟨hz,z0,z1,z2,zf⟩:=OB.out.q_ HB3.out;go_wp2;exact bodyPost_ret (v:=agg #[.bool s2,slice z3 k3 c3,slice y3 m3 e3]) (by simp[results,results9,go_sem,z0,z1,z2]) rfl ⟨s2,z3,k3,c3,f3,y3,m3,e3,g3,rfl,zU (bUp HW.out HB3.out) (by omega),(OB.out.q_ HB3.out).rn (R3.out.mono (by omega))⟩
def kq (kind:Nat) (a b:Rat):Rat:=if kind=0 then a+b else if kind=1 then a-b else if kind=2 then a*b else a/b
def OQ (p:Bool) (kind:Nat) (qa qb:Rat) (w':World) (s:Bool) (x:Option Addr) (n c:Nat) (f:Nat->Int) (y:Option Addr) (m d:Nat) (g:Nat->Int) (er:Int):Prop :=
 p=false/\er=3/\n=0/\m=0/\s=false∨p=true/\(kind=3/\qb.num=0)/\er=4/\n=0/\m=0/\s=false∨p=true/\¬(kind=3/\qb.num=0)/\er=0/\Rn 2000 w' s x n c f y m d g (kq kind qa qb)
theorem Rn.num_zero {L w s x n c f y m d g q} (h:Rn L w s x n c f y m d g q):q.num=0 ↔ n=0:=by
 constructor
 ·intro h0;rcases Nat.eq_zero_or_pos n with hn|hn
  ·exact hn
  ·have h1:=zdi h.num.lm (fm_of_wfB h.num.wf) hn;have h2:=h.num.val;cases s
   ·rw[zae]at h2;omega
   ·rw[zam]at h2;omega
 ·intro hn;subst hn;have h2:=h.num.val;cases s
  ·rw[zae]at h2;exact h2.symm
  ·rw[zam]at h2;have:-(0:Int)=q.num:=h2;omega
theorem zkf {w z} (h0:-9223372036854775808<=z) (h1:z<=9223372036854775807) :
  Calls prog 64 #[.int .i64 z] w λe w'=>zcq 4 w w' e (z:Rat):=by
 have h2:=zaz w 24;have h3:=zB w (cells #[.bool false,slice none 0 0,slice none 0 0] 24);go_enter func64,ntmps64;go_wp2_with fail
 generalize w.alloc (cells #[.bool false,slice none 0 0,slice none 0 0] 24)=w1 at *;have OB1:=zk h2;have HW1:=zk h3
 clear h2 h3;refine(zpZ z w1 h0 h1).mono ?_;rintro e w2 ⟨s2,x2,n2,c2,f2,rfl,hr2,hv2⟩;have hb:=hr2.res.bel;have hn2:=hr2.res.le;have hw2:=(hr2.wn hv2).alloc (cells #[.bool s2,slice x2 n2 c2] 150);have hbx:Bx (w2.alloc (cells #[.bool s2,slice x2 n2 c2] 150)) w2.heap.size s2 x2 n2 c2:=⟨by simp,kN0,kN1⟩;have hob:=(OB1.out.q_ hb).alloc (cells #[.bool s2,slice x2 n2 c2] 150);have hbw:=zu (bUp HW1.out hb) (cells #[.bool s2,slice x2 n2 c2] 150);have hB8:w.heap.size<w2.heap.size:=(OB1.out.q_ hb).z;clear hr2 hv2 hb OB1 HW1;go_wp2_with fail
 generalize w2.alloc (cells #[.bool s2,slice x2 n2 c2] 150)=w3 at *;generalize w2.heap.size=b3 at *;have W3:=zk hw2;have OB:=zk hob;have HW:=zk hbw
 obtain⟨za,a0,a1⟩:=hbx;obtain⟨hz,z0,z1,z2,zf⟩:=hob;clear hw2 hbw;have C1:Hid (∀W:World,Calls prog 97 #[] W λe w'=>∃x f,e=returned (slice x 1 1)/\Bl W w'/\Hid (Wn w' false x 1 1 f 1)):=λW=>zff W
 have C2:Hid (∀(W:World) (y:Option Addr),Calls prog 62 #[.bool s2,slice x2 n2 c2,slice y 1 1] W λe w'=>∃r,e=returned (agg #[.bool r,slice x2 n2 c2,slice y 1 1])/\Bl W w'/\Hid (r=(s2 && decide (0<n2)))):=λW y=>(zbE s2 x2 y n2 c2 1 1 W (by omega)).mono (λ_ _ ⟨r,k1,k2,k3⟩=>⟨r,k1,k3,k2⟩)
 go_region_held3 (λw'=>w'.cell? ⟨b3,0,none⟩=some (.bool s2)/\w'.cell? ⟨b3,1,none⟩=some (slice x2 n2 c2)/\(w'.cell? ⟨w.heap.size,0,none⟩).isSome=true/\(w'.cell? ⟨w.heap.size,1,none⟩).isSome=true/\(w'.cell? ⟨w.heap.size,2,none⟩).isSome=true/\w'.frozen? ⟨w.heap.size,0,none⟩=false/\w'.frozen? ⟨w.heap.size,1,none⟩=false/\w'.frozen? ⟨w.heap.size,2,none⟩=false)
  (refine⟨?_,?_,?_,?_,?_,?_,?_,?_⟩ <;> repeat(with_reducible first|assumption|exact zf _|exact tf _|exact uf _|exact kI0 z0|exact kI0 z1|exact kI0 z2|exact kI0 t0|exact kI0 t1|exact kI0 t2|exact kI0 u0|exact kI0 u1|exact kI0 u2|refine kCd ?_|refine kId ?_|refine kFd ?_|refine kCs (by simp only[ne_eq];omega) ?_|refine kIs ?_|refine kFs ?_|refine kCb (by assumption) ?_|refine kIb (by assumption) ?_))
  (first
   | (go_at_call 97;with_reducible refine(C1.out _).mono ?_;rintro e v5 ⟨y5,f5,rfl,hb5,H5⟩;have Tt:Ob v5 (w.heap.size):=(by repeat(with_reducible first|exact OB.out|exact Tt|exact Tu|refine Ob.drew ?_|refine kOb (by assumption) ?_));obtain⟨_,t0,t1,t2,tf⟩:=id Tt)
   | (go_at_call 62;with_reducible refine(C2.out _ y5).mono ?_;rintro e v6 ⟨r6,rfl,hb6,H6⟩;have Tu:Ob v6 (w.heap.size):=(by repeat(with_reducible first|exact OB.out|exact Tt|exact Tu|refine Ob.drew ?_|refine kOb (by assumption) ?_));obtain⟨_,u0,u1,u2,uf⟩:=id Tu))
 all_goals
  have W5:Wn v6 false y5 1 1 f5 1:=(by repeat(with_reducible first|exact H5.out|refine kWd ?_|refine kWb (by assumption) ?_));have hb:Bl w3 v6:=zaq;have hr:r6=s2:=by
   rw[H6.out];have:=((wfB_iff _ _ _).1 W3.out.wf).2;cases s2
   ·rfl
   ·simp;exact this rfl
  subst hr;go_wp2;refine bodyPost_ret (v:=agg #[.bool r6,slice x2 n2 c2,slice y5 1 1]) (by simp[results,results64,go_sem,u0,u1,u2]) rfl ⟨r6,x2,n2,c2,f2,y5,1,1,f5,rfl,zU (bUp HW.out hb) (le_refl _),Tu.rn ⟨?_,?_,by omega,by omega⟩⟩
  ·rw[Rat.num_intCast];exact W3.out.q_ hb
  ·rw[Rat.den_intCast];exact W5
theorem zjO {w x n c f} (hr:Rd .u64 w x n f) (hn:n<=17592186044416) (hnil:x=none->n=0/\c=0) :
  Calls prog 51 #[slice x n c] w λe w'=>∃z c',e=returned (slice z n c')/\Bl w w'/\Hid (Rd .u64 w' z n f/\(n<=c'/\c'<=9223372036854775807)/\(z=none->n=0/\c'=0)):=by
 refine(zqJ x n c f w (by omega) hr hnil).mono ?_;rintro e w' ⟨z,c',rfl,h2,h3,h4⟩;obtain⟨ao,cap,hv,k1,k2,k3,_,_⟩:=h4.shape;cases hv
 exact⟨z,c',rfl,h2,h3,⟨k1,by unfold maxLen at k3;omega⟩,λh=>by have:=k2 h;omega⟩
theorem ztc {w w' x n f} (hb:Bl w w') (h:Rd .u64 w x n f):Rd .u64 w' x n f:=h.q_ hb (le_refl _)
theorem zdB {w s x n c f y m d g} (h:Rw w x n c f y m d g) (hn:n<=17592186044416) (hm:m<=17592186044416) :
  Calls prog 23 #[agg #[.bool s,slice x n c,slice y m d]] w λe w'=>∃z c' z2 c2,e=returned (agg #[.bool s,slice z n c',slice z2 m c2])/\Bl w w'/\Hid (Rw w' z n c' f z2 m c2 g):=by
 obtain⟨h1,h2,h3⟩:=zmO (w:=w) (.bool s) (slice x n c) (slice y m d) 24 24;have h4:=h.q_ h3;clear h;go_enter func23,ntmps23;go_wp2_with fail
 generalize(w.alloc (cells #[.bool s,slice x n c,slice y m d] 24)).alloc (cells #[.bool false,slice none 0 0,slice none 0 0] 24)=w1 at *;have HN:=zk h4;have OB:=zk h2;have HW:=zk h3
 obtain⟨z,x0,x1,x2⟩:=h1;obtain⟨hz,z0,z1,z2,zf⟩:=h2;clear h3 h4;have C1:Hid (∀W,Bl w1 W->Calls prog 51 #[slice x n c] W λe w'=>∃z c',e=returned (slice z n c')/\Bl W w'/\Hid (Rd .u64 w' z n f/\(n<=c'/\c'<=9223372036854775807)/\(z=none->n=0/\c'=0))):=λW hW=>zjO (HN.out.q_ hW).rx (by omega) HN.out.nx
 have C2:Hid (∀W,Bl w1 W->Calls prog 51 #[slice y m d] W λe w'=>∃z c',e=returned (slice z m c')/\Bl W w'/\Hid (Rd .u64 w' z m g/\(m<=c'/\c'<=9223372036854775807)/\(z=none->m=0/\c'=0))):=λW hW=>zjO (HN.out.q_ hW).ry (by omega) HN.out.ny
 go_region_held3 (λw'=>w'.cell? ⟨w.heap.size,0,none⟩=some (.bool s)/\w'.cell? ⟨w.heap.size,1,none⟩=some (slice x n c)/\w'.cell? ⟨w.heap.size,2,none⟩=some (slice y m d)/\(w'.cell? ⟨w.heap.size+1,0,none⟩).isSome=true/\(w'.cell? ⟨w.heap.size+1,1,none⟩).isSome=true/\(w'.cell? ⟨w.heap.size+1,2,none⟩).isSome=true/\w'.frozen? ⟨w.heap.size+1,0,none⟩=false/\w'.frozen? ⟨w.heap.size+1,1,none⟩=false/\w'.frozen? ⟨w.heap.size+1,2,none⟩=false)
  (refine⟨?_,?_,?_,?_,?_,?_,?_,?_,?_⟩ <;> repeat(with_reducible first|assumption|exact zf _|exact tf _|exact uf _|exact kI0 z0|exact kI0 z1|exact kI0 z2|exact kI0 t0|exact kI0 t1|exact kI0 t2|exact kI0 u0|exact kI0 u1|exact kI0 u2|refine kCd ?_|refine kId ?_|refine kFd ?_|refine kCs (by simp only[ne_eq];omega) ?_|refine kIs ?_|refine kFs ?_|refine kCb (by assumption) ?_|refine kIb (by assumption) ?_))
  (first
   | (go_at_call 51;with_reducible refine(C1.out _ zaq).mono ?_;rintro e v5 ⟨z5,c5,rfl,hb5,H5⟩;have Tt:Ob v5 (w.heap.size+1):=(by repeat(with_reducible first|exact OB.out|exact Tt|exact Tu|refine Ob.drew ?_|refine kOb (by assumption) ?_));obtain⟨_,t0,t1,t2,tf⟩:=id Tt)
   | (go_at_call 51;with_reducible refine(C2.out _ zaq).mono ?_;rintro e v6 ⟨z6,c6,rfl,hb6,H6⟩;have Tu:Ob v6 (w.heap.size+1):=(by repeat(with_reducible first|exact OB.out|exact Tt|exact Tu|refine Ob.drew ?_|refine kOb (by assumption) ?_));obtain⟨_,u0,u1,u2,uf⟩:=id Tu))
 all_goals
  have D5:Rd .u64 v6 z5 n f:=(by repeat(with_reducible first|exact H5.out.1|refine Rd.drew ?_|refine ztc (by assumption) ?_));have hb:Bl w1 v6:=zaq;go_wp2;exact bodyPost_ret (v:=agg #[.bool s,slice z5 n c5,slice z6 m c6]) (by simp[results,results23,go_sem,u0,u1,u2]) rfl ⟨z5,c5,z6,c6,rfl,zU (bUp HW.out hb) (by omega),Tu.rd D5,HN.out.lx,H5.out.2.1,H5.out.2.2,Tu.rd H6.out.1,HN.out.ly,H6.out.2.1,H6.out.2.2⟩
structure Bx4 (w:World) (B:Nat) (a0 a1 a2 a3:Value):Prop where
 z:B<w.heap.size
 x0:w.cell? ⟨B,0,none⟩=some a0
 x1:w.cell? ⟨B,1,none⟩=some a1
 x2:w.cell? ⟨B,2,none⟩=some a2
 x3:w.cell? ⟨B,3,none⟩=some a3
theorem Bx4.q_ {w w' B a0 a1 a2 a3} (h:Bx4 w B a0 a1 a2 a3) (hb:Bl w w'):Bx4 w' B a0 a1 a2 a3:=⟨Nat.lt_of_lt_of_le h.z hb.size,kCb hb h.x0,kCb hb h.x1,kCb hb h.x2,kCb hb h.x3⟩
theorem Bx4.alloc {w B a0 a1 a2 a3} (h:Bx4 w B a0 a1 a2 a3) (o:Obj):Bx4 (w.alloc o) B a0 a1 a2 a3:=h.q_ (zu (Below.refl _ _) o)
theorem zaT (w:World) (a0 a1 a2 a3:Value) (t:TypeId):Bx4 (w.alloc (cells #[a0,a1,a2,a3] t)) w.heap.size a0 a1 a2 a3:=⟨by simp,by simp[go_sem],by simp[go_sem],by simp[go_sem],by simp[go_sem]⟩
theorem zkR {w w':World} {a0 a1 a2 a3 t} (hb:Below (w.alloc (cells #[a0,a1,a2,a3] t)).heap.size (w.alloc (cells #[a0,a1,a2,a3] t)) w'):Bx4 w' w.heap.size a0 a1 a2 a3:=(zaT w a0 a1 a2 a3 t).q_ hb
structure Ob4 (w:World) (B:Nat):Prop where
 z:B<w.heap.size
 z0:w.cell? ⟨B,0,none⟩=some (.int .i64 0)
 z1:w.cell? ⟨B,1,none⟩=some (.bool false)
 z2:w.cell? ⟨B,2,none⟩=some (slice none 0 0)
 z3:w.cell? ⟨B,3,none⟩=some (slice none 0 0)
 zf:∀o,w.frozen? ⟨B,o,none⟩=false
theorem Ob4.q_ {w w' B} (h:Ob4 w B) (hb:Bl w w'):Ob4 w' B:=by
 obtain⟨h1,h2⟩:=zaH hb;exact⟨Nat.lt_of_lt_of_le h.z hb.size,kCb hb h.z0,kCb hb h.z1,kCb hb h.z2,kCb hb h.z3,λo=>(h2 _ _ h.z).trans (h.zf o)⟩
theorem zrw {w w' B} (hb:Bl w w') (h:Ob4 w B):Ob4 w' B:=h.q_ hb
theorem Ob4.alloc {w B} (h:Ob4 w B) (o:Obj):Ob4 (w.alloc o) B:=h.q_ (zu (Below.refl _ _) o)
theorem Ob4.drew {w B} (h:Ob4 w B):Ob4 w.drew B:=⟨h.z,h.z0,h.z1,h.z2,h.z3,h.zf⟩
theorem zba (w:World) (t:TypeId):Ob4 (w.alloc (cells #[.int .i64 0,.bool false,slice none 0 0,slice none 0 0] t)) w.heap.size:=by
 refine⟨by simp,by simp[go_sem],by simp[go_sem],by simp[go_sem],by simp[go_sem],λo=>?_⟩;have e:=heap_alloc_new w (cells #[.int .i64 0,.bool false,slice none 0 0,slice none 0 0] t);simp only[World.frozen?,e];simp
theorem Ob4.rd {w B u0 u1 u2 u3 x n f} (h:Ob4 w B) (hx:Rd .u64 w x n f):Rd .u64 ((((w.setCell ⟨B,0,none⟩ u0).setCell ⟨B,1,none⟩ u1).setCell ⟨B,2,none⟩ u2).setCell ⟨B,3,none⟩ u3) x n f :=
 zay (cell_off (by decide) (cell_off (by decide) (cell_off (by decide) h.z3))) (λi h=>by cases h) (zay (cell_off (by decide) (cell_off (by decide) h.z2)) (λi h=>by cases h) (zay (cell_off (by decide) h.z1) (λi h=>by cases h) (zay h.z0 (λi h=>by cases h) hx)))
theorem Ob4.wn {w B u0 u1 u2 u3 s x n c f v} (h:Ob4 w B) (hx:Wn w s x n c f v):Wn ((((w.setCell ⟨B,0,none⟩ u0).setCell ⟨B,1,none⟩ u1).setCell ⟨B,2,none⟩ u2).setCell ⟨B,3,none⟩ u3) s x n c f v:=⟨h.rd hx.rd,hx.lm,hx.wf,hx.cap,hx.nil,hx.val⟩
theorem Ob4.dn {w B u0 u1 u2 u3 x n d V} (h:Ob4 w B) (hx:Dn w x n d V):Dn ((((w.setCell ⟨B,0,none⟩ u0).setCell ⟨B,1,none⟩ u1).setCell ⟨B,2,none⟩ u2).setCell ⟨B,3,none⟩ u3) x n d V:=⟨h.rd hx.rd,hx.dg,hx.fm,hx.val⟩
theorem Ob4.rn {w B u0 u1 u2 u3 L s x n c f y m d g q} (h:Ob4 w B) (hx:Rn L w s x n c f y m d g q):Rn L ((((w.setCell ⟨B,0,none⟩ u0).setCell ⟨B,1,none⟩ u1).setCell ⟨B,2,none⟩ u2).setCell ⟨B,3,none⟩ u3) s x n c f y m d g q:=⟨h.wn hx.num,h.wn hx.den,hx.ln,hx.ld⟩
theorem Ob4.rw {w B u0 u1 u2 u3 x n c f y m d g} (h:Ob4 w B) (hx:Rw w x n c f y m d g):Rw ((((w.setCell ⟨B,0,none⟩ u0).setCell ⟨B,1,none⟩ u1).setCell ⟨B,2,none⟩ u2).setCell ⟨B,3,none⟩ u3) x n c f y m d g:=⟨h.rd hx.rx,hx.lx,hx.cx,hx.nx,h.rd hx.ry,hx.ly,hx.cy,hx.ny⟩
theorem Ob4.zn {w B u0 u1 u2 u3 s x n d v} (h:Ob4 w B) (hx:Zn w s x n d v):Zn ((((w.setCell ⟨B,0,none⟩ u0).setCell ⟨B,1,none⟩ u1).setCell ⟨B,2,none⟩ u2).setCell ⟨B,3,none⟩ u3) s x n d v:=⟨h.dn hx.dn,hx.sgn,hx.pos⟩
theorem Ob4.qn {w B u0 u1 u2 u3 s x n d y m g q} (h:Ob4 w B) (hx:Qn w s x n d y m g q):Qn ((((w.setCell ⟨B,0,none⟩ u0).setCell ⟨B,1,none⟩ u1).setCell ⟨B,2,none⟩ u2).setCell ⟨B,3,none⟩ u3) s x n d y m g q:=⟨h.zn hx.num,h.dn hx.den⟩
theorem zZ {w0 w B u0 u1 u2 u3} (hw:Bl w0 w) (hB:w0.heap.size<=B) :
  Bl w0 ((((w.setCell ⟨B,0,none⟩ u0).setCell ⟨B,1,none⟩ u1).setCell ⟨B,2,none⟩ u2).setCell ⟨B,3,none⟩ u3) :=
 zL hw hw.size (((((Turned.refl w0.heap.size (B+1) w).set (x:=⟨B,0,none⟩) hB (by simp) _).set (x:=⟨B,1,none⟩) hB (by simp) _).set (x:=⟨B,2,none⟩) hB (by simp) _).set (x:=⟨B,3,none⟩) hB (by simp) _) (le_refl _)
theorem zrv {L w s x n c f y m d g q} (h:Rn L w s x n c f y m d g q):Rn L w.drew s x n c f y m d g q:=⟨kWd h.num,kWd h.den,h.ln,h.ld⟩
theorem ztb {L w w' s x n c f y m d g q} (hb:Bl w w') (h:Rn L w s x n c f y m d g q):Rn L w' s x n c f y m d g q:=h.q_ hb
def efB (i:Int) (s:Bool) (f:Nat->Int) (n:Nat) (g:Nat->Int) (m:Nat):Bool:=rfB s f n g m && (decide (i=0) || ((decide (i=-1) || decide (i=1)) && decide (n=0)))
structure En (L:Nat) (w:World) (i:Int) (s:Bool) (x:Option Addr) (n c:Nat) (f:Nat->Int) (y:Option Addr) (m d:Nat) (g:Nat->Int) (q:Rat):Prop where
 rn:Rn L w s x n c f y m d g q
 inf:i=0∨(i=-1∨i=1)/\q=0
theorem En.q_ {L w w' i s x n c f y m d g q} (h:En L w i s x n c f y m d g q) (hb:Bl w w'):En L w' i s x n c f y m d g q:=⟨h.rn.q_ hb,h.inf⟩
theorem En.mono {L L' w i s x n c f y m d g q} (h:En L w i s x n c f y m d g q) (hL:L<=L'):En L' w i s x n c f y m d g q:=⟨h.rn.mono hL,h.inf⟩
theorem Rn.q_zero {L w s x n c f y m d g q} (h:Rn L w s x n c f y m d g q):q=0 ↔ n=0:=by
 rw[<-h.num_zero];constructor
 ·intro e;rw[e];rfl
 ·exact λe=>Rat.num_eq_zero.1 e
theorem En.ef {L w i s x n c f y m d g q} (h:En L w i s x n c f y m d g q):efB i s f n g m=true:=by
 simp only[efB,Bool.and_eq_true,Bool.or_eq_true,decide_eq_true_eq];refine⟨h.rn.rf,?_⟩;rcases h.inf with h1|⟨h1,h2⟩
 ·exact .inl h1
 ·exact .inr ⟨h1,h.rn.q_zero.1 h2⟩
def EOrd (c:Int) (i:Int) (a:Rat) (j:Int) (b:Rat):Prop:=(c=-1/\(i<j∨i=j/\a<b))∨(c=0/\i=j/\a=b)∨(c=1/\(j<i∨i=j/\b<a))
theorem eIsZero_c {w s x n c y m d} :
  Calls prog 101 #[agg #[.bool s,slice x n c,slice y m d]] w λe w'=>e=returned (.bool (decide (n=0)))/\Bl w w':=by
 have key:∀o:Obj,Bl w (w.alloc o):=λo=>zB w o
 have KEY:=zk key;clear key;by_cases hn:n=0
 ·have h1:((n:Int)==0)=true:=by simp;omega
  rw[decide_eq_true hn];clear hn;go_enter func101,ntmps101;go_wp2;go_ret;exact⟨rfl,KEY.out _⟩
 ·have h1:((n:Int)==0)=false:=by simp;omega
  rw[decide_eq_false hn];clear hn;go_enter func101,ntmps101;go_wp2;go_ret;exact⟨rfl,KEY.out _⟩
theorem zkF {w i s x n c f y m d g} (h:Rw w x n c f y m d g) (hn:n<=65536) (hm:m<=65536) :
  Calls prog 117 #[agg #[.int .i64 i,.bool s,slice x n c,slice y m d]] w λe w'=>e=returned (.bool (efB i s f n g m))/\Bl w w':=by
 have HR:=zk (h.alloc (cells #[.int .i64 i,.bool s,slice x n c,slice y m d] 40));have BX:=zk (zaT w (.int .i64 i) (.bool s) (slice x n c) (slice y m d) 40);have HW:=zk (zB w (cells #[.int .i64 i,.bool s,slice x n c,slice y m d] 40));have C1:Hid (∀W,Below (w.alloc (cells #[.int .i64 i,.bool s,slice x n c,slice y m d] 40)).heap.size (w.alloc (cells #[.int .i64 i,.bool s,slice x n c,slice y m d] 40)) W->Calls prog 60 #[agg #[.bool s,slice x n c,slice y m d]] W λe w'=>e=returned (.bool (rfB s f n g m))/\Bl W w'):=λW hW=>zdA (HR.out.q_ hW) (by omega) (by omega)
 clear h;by_cases h0:i=0
 ·subst h0;rw[show efB 0 s f n g m=rfB s f n g m by simp[efB]];go_enter func117,ntmps117;go_upto_region 1 with fail
  generalize w.alloc (cells #[.int .i64 0,.bool s,slice x n c,slice y m d] 40)=w1 at *;obtain⟨z,x0,x1,x2,x3⟩:=BX.out;go_wp2_with fail
  refine(C1.out _ (Below.refl _ _)).mono ?_;rintro e w2 ⟨rfl,hb⟩;have HB:=zJ HW hb;clear hb;go_wp2;go_ret;exact⟨rfl,HB.out⟩
 have e0:(i==0)=false:=by simp;exact h0
 by_cases h1:i=-1∨i=1
 ·have hef:efB i s f n g m=(rfB s f n g m && decide (n=0)):=by
   rcases h1 with rfl|rfl <;> simp[efB]
  rw[hef];clear hef h0;rcases h1 with rfl|rfl
  all_goals
   cases hr:rfB s f n g m
   ·have c1:=C1.out;rw[hr]at c1
    have C1':=zk c1;clear c1 C1;go_enter func117,ntmps117;go_upto_region 1 with fail
    generalize w.alloc _=w1 at *;obtain⟨z,x0,x1,x2,x3⟩:=BX.out;go_wp2_with fail
    refine(C1'.out _ (Below.refl _ _)).mono ?_;rintro e w2 ⟨rfl,hb⟩;have HB:=zJ HW hb;clear hb;go_wp2;go_ret;exact⟨rfl,HB.out⟩
   ·have c1:=C1.out;rw[hr]at c1
    have C1':=zk c1;clear c1 C1;rw[Bool.true_and];obtain⟨p,hp⟩:∃p,decide (n=0)=p:=⟨_,rfl⟩;rw[hp];have HN0:=zk hp;clear hp hr;go_enter func117,ntmps117;go_upto_region 1 with fail
    generalize w.alloc _=w1 at *;obtain⟨z,x0,x1,x2,x3⟩:=BX.out;go_wp2_with fail
    refine(C1'.out _ (Below.refl _ _)).mono ?_;rintro e w2 ⟨rfl,hb⟩;have HB:=zJ HW hb;have B2:=zk (BX.out.q_ hb)
    clear hb z x0 x1 x2 x3;obtain⟨z,x0,x1,x2,x3⟩:=B2.out;go_wp2_with fail
    refine eIsZero_c.mono ?_;rintro e w3 ⟨rfl,hb⟩;have HB3:=zJ HB hb;clear hb;rw[HN0.out];go_wp2;go_ret;exact⟨rfl,HB3.out⟩
 ·have e1:(i == -1)=false:=by simp;omega
  have e2:(i==1)=false:=by simp;omega
  have hef:efB i s f n g m=false:=by
   simp[efB];omega
  rw[hef];clear hef h0 h1;go_enter func117,ntmps117;go_upto_region 1 with fail
  generalize w.alloc (cells #[.int .i64 i,.bool s,slice x n c,slice y m d] 40)=w1 at *;obtain⟨z,x0,x1,x2,x3⟩:=BX.out;go_wp2;go_ret;exact⟨rfl,HW.out⟩
theorem zkE {w i s x n c f y m d g} (h:Rw w x n c f y m d g) (hn:n<=4096) (hm:m<=4096) :
  Calls prog 117 #[agg #[.int .i64 i,.bool s,slice x n c,slice y m d]] w λe w'=>e=returned (.bool (efB i s f n g m))/\Bl w w' :=
 zkF h (le_trans hn (by decide)) (le_trans hm (by decide))
theorem isNaN_c {w a}:Calls prog 159 #[.int .i64 a] w λe w'=>e=returned (.bool false)/\w'=w:=by
 have h1:(a != a)=false:=by simp
 go_enter func159,ntmps159;go_wp2;go_ret;exact⟨rfl,rfl⟩
theorem compare_c {w a b}:Calls prog 145 #[.int .i64 a,.int .i64 b] w λe w'=>∃r,e=returned (.int .i64 r)/\w'=w/\Ord r a b:=by
 rcases Int.lt_trichotomy a b with h|h|h
 ·have h1:decide (a<b)=true:=decide_eq_true h;have HF:=zk h;clear h;go_enter func145,ntmps145;go_wp2_with fail
  refine isNaN_c.mono ?_;rintro e w1 ⟨rfl,rfl⟩;go_wp2_with fail
  refine isNaN_c.mono ?_;rintro e w2 ⟨rfl,rfl⟩;go_wp2;go_ret;exact⟨-1,rfl,rfl,.inl ⟨rfl,HF.out⟩⟩
 ·have h1:decide (a<b)=false:=decide_eq_false (by omega);have h2:decide (b<a)=false:=decide_eq_false (by omega);have HF:=zk h;clear h;go_enter func145,ntmps145;go_wp2_with fail
  refine isNaN_c.mono ?_;rintro e w1 ⟨rfl,rfl⟩;go_wp2_with fail
  refine isNaN_c.mono ?_;rintro e w2 ⟨rfl,rfl⟩;go_wp2;go_ret;exact⟨0,rfl,rfl,.inr (.inl ⟨rfl,HF.out⟩)⟩
 ·have h1:decide (a<b)=false:=decide_eq_false (by omega);have h2:decide (b<a)=true:=decide_eq_true h;have HF:=zk h;clear h;go_enter func145,ntmps145;go_wp2_with fail
  refine isNaN_c.mono ?_;rintro e w1 ⟨rfl,rfl⟩;go_wp2_with fail
  refine isNaN_c.mono ?_;rintro e w2 ⟨rfl,rfl⟩;go_wp2;go_ret;exact⟨1,rfl,rfl,.inr (.inr ⟨rfl,HF.out⟩)⟩
theorem eInf_c {w i}:Calls prog 102 #[.int .i64 i] w λe w'=>∃s x n c f y m d g,e=returned (agg #[.int .i64 i,.bool s,slice x n c,slice y m d])/\Bl w w'/\Rn 4 w' s x n c f y m d g 0:=by
 have h2:=zba w 40;have h3:=zB w (cells #[.int .i64 0,.bool false,slice none 0 0,slice none 0 0] 40);go_enter func102,ntmps102;go_wp2_with fail
 generalize w.alloc (cells #[.int .i64 0,.bool false,slice none 0 0,slice none 0 0] 40)=w1 at *;have OB:=zk h2;have HW:=zk h3
 clear h2 h3;refine(zkf (z:=0) (by decide) (by decide)).mono ?_;rintro e w2 ⟨s2,x2,n2,c2,f2,y2,m2,d2,g2,rfl,hb,hr⟩;have HB:=zJ HW hb;have OB2:=zk (OB.out.q_ hb);have RN:=zk hr
 clear hb hr;obtain⟨hz,z0,z1,z2,z3,zf⟩:=OB2.out;go_wp2;exact bodyPost_ret (v:=agg #[.int .i64 i,.bool s2,slice x2 n2 c2,slice y2 m2 d2]) (by simp[results,results102,go_sem,z0,z1,z2,z3]) rfl ⟨s2,x2,n2,c2,f2,y2,m2,d2,g2,rfl,zZ HB.out (le_refl _),OB2.out.rn RN.out⟩
theorem eLow_c {w}:Calls prog 68 #[] w λe w'=>∃s x n c f y m d g,e=returned (agg #[.int .i64 (-1),.bool s,slice x n c,slice y m d])/\Bl w w'/\En 4 w' (-1) s x n c f y m d g 0:=by
 have h2:=zba w 40;have h3:=zB w (cells #[.int .i64 0,.bool false,slice none 0 0,slice none 0 0] 40);go_enter func68,ntmps68;go_wp2_with fail
 generalize w.alloc (cells #[.int .i64 0,.bool false,slice none 0 0,slice none 0 0] 40)=w1 at *;have OB:=zk h2;have HW:=zk h3
 clear h2 h3;refine eInf_c.mono ?_;rintro e w2 ⟨s2,x2,n2,c2,f2,y2,m2,d2,g2,rfl,hb,hr⟩;have HB:=zJ HW hb;have OB2:=zk (OB.out.q_ hb);have RN:=zk hr
 clear hb hr;obtain⟨hz,z0,z1,z2,z3,zf⟩:=OB2.out;go_wp2;exact bodyPost_ret (v:=agg #[.int .i64 (-1),.bool s2,slice x2 n2 c2,slice y2 m2 d2]) (by simp[results,results68,go_sem,z0,z1,z2,z3]) rfl ⟨s2,x2,n2,c2,f2,y2,m2,d2,g2,rfl,zZ HB.out (le_refl _),⟨OB2.out.rn RN.out,.inr ⟨by decide,rfl⟩⟩⟩
def zcj (b:Int):Bool:=decide (97<=b) && decide (b<=122)
def zea (b:Int):Bool:=decide (48<=b) && decide (b<=57)
def nchr (b:Int):Bool:=zcj b || (zea b || decide (b=95))
def bt (s:ByteArray) (k:Nat):Int:=if h:k<s.size then ((s[k]'h).toNat:Int) else 0
def zhP (s:ByteArray):Nat->Nat->Bool
 | 0,_=>true
 | r+1,i=>nchr (bt s i) && zhP s r (i+1)
def zaC (s:ByteArray):Bool:=decide (1<=s.size) && (decide (s.size<=16) && (zcj (bt s 0) && zhP s s.size 0))
theorem zdq {w b}:Calls prog 119 #[.int .u8 b] w λe w'=>e=returned (.bool (zcj b))/\w'=w:=by
 by_cases h1:97<=b
 ·by_cases h2:b<=122
  ·have HL:Hid (zcj b=true):=by show _=_;simp[zcj,h1,h2]
   go_enter func119,ntmps119;go_wp2;go_ret;refine⟨?_,rfl⟩;rw[HL.out];rfl
  ·have HL:Hid (zcj b=false):=by show _=_;simp[zcj,h2]
   go_enter func119,ntmps119;go_wp2;go_ret;refine⟨?_,rfl⟩;rw[HL.out];rfl
 ·have HL:Hid (zcj b=false):=by show _=_;simp[zcj,h1]
  go_enter func119,ntmps119;go_wp2;go_ret;refine⟨?_,rfl⟩;rw[HL.out];rfl
theorem zlz {w b}:Calls prog 120 #[.int .u8 b] w λe w'=>e=returned (.bool (zea b))/\w'=w:=by
 by_cases h1:48<=b
 ·by_cases h2:b<=57
  ·have HL:Hid (zea b=true):=by show _=_;simp[zea,h1,h2]
   go_enter func120,ntmps120;go_wp2;go_ret;refine⟨?_,rfl⟩;rw[HL.out];rfl
  ·have HL:Hid (zea b=false):=by show _=_;simp[zea,h2]
   go_enter func120,ntmps120;go_wp2;go_ret;refine⟨?_,rfl⟩;rw[HL.out];rfl
 ·have HL:Hid (zea b=false):=by show _=_;simp[zea,h1]
  go_enter func120,ntmps120;go_wp2;go_ret;refine⟨?_,rfl⟩;rw[HL.out];rfl
theorem znu {w s} (hs:s.size<=9223372036854775807):Calls prog 88 #[.string s] w λe w'=>e=returned (.bool (zaC s))/\w'=w:=by
 by_cases h1:1<=s.size
 case neg =>
  have HL:Hid (zaC s=false):=by show _=_;simp[zaC,h1]
  have e0:(s.size:Int)<1:=by omega
  clear h1;go_enter func88,ntmps88;go_wp2;go_ret;refine⟨?_,rfl⟩;rw[HL.out];rfl
 by_cases h2:s.size<=16
 case neg =>
  have HL:Hid (zaC s=false):=by show _=_;simp[zaC,h2]
  have e0:¬(s.size:Int)<1:=by omega
  have e1:(s.size:Int) > 16:=by omega
  clear h1 h2;go_enter func88,ntmps88;go_wp2;go_ret;refine⟨?_,rfl⟩;rw[HL.out];rfl
 have h0:0<s.size:=by omega
 obtain⟨x,hx⟩:∃x:Int,((s[0]'h0).toNat:Int)=x:=⟨_,rfl⟩;have hb0:bt s 0=x:=by rw[<-hx];simp[bt,h0]
 have e0:¬(s.size:Int)<1:=by omega
 have e1:¬(s.size:Int) > 16:=by omega
 cases hl:zcj x
 ·have HL:Hid (zaC s=false):=by show _=_;simp[zaC,hb0,hl]
  have C:Hid (∀w,Calls prog 119 #[.int .u8 x] w λe w'=>e=returned (.bool false)/\w'=w):=λw=>hl ▸ zdq
  clear h1 h2 hb0 hl;go_enter func88,ntmps88;go_wp2_with fail
  refine(C.out _).mono ?_;rintro e w1 ⟨rfl,rfl⟩;go_wp2;go_ret;refine⟨?_,rfl⟩;rw[HL.out];rfl
 ·have HL:Hid (zaC s=zhP s s.size 0):=by show _=_;simp[zaC,hb0,hl,h1,h2]
  have C:Hid (∀w,Calls prog 119 #[.int .u8 x] w λe w'=>e=returned (.bool true)/\w'=w):=λw=>hl ▸ zdq
  clear h1 h2 hb0 hl;go_enter func88,ntmps88;go_wp2_with fail
  refine(C.out _).mono ?_;rintro e w1 ⟨rfl,rfl⟩;go_wp2_with fail
  go_loopw[20] (λt wr=>∃(i:Nat),i<=s.size/\t=.int .i64 i/\wr=w1/\Hid (zaC s=zhP s (s.size-i) i)) (λt _=>s.size-(intOf t).toNat)
  case atStart=>exact⟨0,by omega,rfl,rfl,HL.out⟩
  case round =>
   obtain⟨i,hi,rfl,rfl,HI⟩:=hrel;by_cases hlt:i<s.size
   ·obtain⟨z,hz⟩:∃z:Int,((s[i]'hlt).toNat:Int)=z:=⟨_,rfl⟩;have hbi:bt s i=z:=by rw[<-hz];simp[bt,hlt]
    obtain⟨r,hr⟩:∃r,s.size-i=r+1:=⟨s.size-i-1,by omega⟩;have hT:zaC s=(nchr z && zhP s r (i+1)):=by rw[HI.out,hr];show(nchr (bt s i) && _)=_;rw[hbi]
    have hr2:s.size-(i+1)=r:=by omega
    have HT:=zk hT;have HR:=zk hr2
    have i1:((i:Nat):Int)<((s.size:Nat):Int):=by omega
    have LC:=zk (λw=>zdq (w:=w) (b:=z));have DC:=zk (λw=>zlz (w:=w) (b:=z));clear hT hr2 hr hbi;cases hl:zcj z
    ·have LC2:=LC;rw[hl]at LC2
     clear LC;cases hd:zea z
     ·have DC2:=DC;rw[hd]at DC2
      clear DC;by_cases h95:z=95
      ·have HN:Hid (nchr z=true):=by show _=_;simp[nchr,h95]
       subst h95;clear hl hd;go_wp2_with fail
       refine(LC2.out _).mono ?_;rintro e w2 ⟨rfl,rfl⟩;go_wp2_with fail
       refine(DC2.out _).mono ?_;rintro e w3 ⟨rfl,rfl⟩;go_wp2;go_roundw
       case rel =>
        refine⟨i+1,by omega,by go_num,trivial,?_⟩;show _=_;rw[HT.out,HN.out,HR.out];rfl
       case measure=>simp[intOf];omega
      ·have HN:Hid (nchr z=false):=by show _=_;simp[nchr,hl,hd,h95]
       clear hl hd;go_wp2_with fail
       refine(LC2.out _).mono ?_;rintro e w2 ⟨rfl,rfl⟩;go_wp2_with fail
       refine(DC2.out _).mono ?_;rintro e w3 ⟨rfl,rfl⟩;go_wp2;go_ret;refine⟨?_,rfl⟩;rw[HT.out,HN.out];rfl
     ·have DC2:=DC;rw[hd]at DC2
      have HN:Hid (nchr z=true):=by show _=_;simp[nchr,hl,hd]
      clear DC hl hd;go_wp2_with fail
      refine(LC2.out _).mono ?_;rintro e w2 ⟨rfl,rfl⟩;go_wp2_with fail
      refine(DC2.out _).mono ?_;rintro e w3 ⟨rfl,rfl⟩;go_wp2;go_roundw
      case rel =>
       refine⟨i+1,by omega,by go_num,trivial,?_⟩;show _=_;rw[HT.out,HN.out,HR.out];rfl
      case measure=>simp[intOf];omega
    ·have LC2:=LC;rw[hl]at LC2
     have HN:Hid (nchr z=true):=by show _=_;simp[nchr,hl]
     clear LC hl;go_wp2_with fail
     refine(LC2.out _).mono ?_;rintro e w2 ⟨rfl,rfl⟩;go_wp2;go_roundw
     case rel =>
      refine⟨i+1,by omega,by go_num,trivial,?_⟩;show _=_;rw[HT.out,HN.out,HR.out];rfl
     case measure=>simp[intOf];omega
   ·have e1:i=s.size:=by omega
    have HE:Hid (zaC s=true):=by show _=_;rw[HI.out,e1,sub_self];rfl
    have i2:¬(((i:Nat):Int)<((s.size:Nat):Int)):=by omega
    clear e1 HI;go_wp2;go_ret;refine⟨?_,rfl⟩;rw[HE.out];rfl
def Sl (w:World) (ao:Option Addr) (k:Nat) (S:Nat->ByteArray):Prop :=
 ∀j,j<k->∃b o,ao=some ⟨b,o,none⟩/\w.cell? ⟨b,o+j,none⟩=some (.string (S j))/\(S j).size<=9223372036854775807
theorem Sl.q_ {w w' ao k S} (h:Sl w ao k S) (hb:Bl w w'):Sl w' ao k S:=λj hj=>by
 obtain⟨b,o,e,h1,h2⟩:=h j hj;exact⟨b,o,e,(hb.cell (World.block_lt_of_cell? w _ h1)).trans h1,h2⟩
def nms (S:Nat->ByteArray):Nat->Nat->Bool
 | 0,_=>true
 | r+1,i=>zaC (S i) && nms S r (i+1)
theorem zfE {w ao k cap S} (h:Sl w ao k S) (hk:k<=1048576) :
  Calls prog 57 #[slice ao k cap] w λe w'=>e=returned (.bool (nms S k 0))/\w'=w:=by
 have H:=zk h;clear h;go_enter func57,ntmps57;go_wp2_with fail
 go_loopw[7] (λt wr=>∃(i:Nat),i<=k/\t=.int .i64 i/\wr=w/\Hid (nms S k 0=nms S (k-i) i)) (λt _=>k-(intOf t).toNat)
 case atStart=>exact⟨0,by omega,rfl,rfl,rfl⟩
 case round =>
  obtain⟨i,hi,rfl,rfl,HI⟩:=hrel;by_cases hlt:i<k
  ·obtain⟨b,o,rfl,hc,hz⟩:=H.out i hlt;obtain⟨r,hr⟩:∃r,k-i=r+1:=⟨k-i-1,by omega⟩;have hT:nms S k 0=(zaC (S i) && nms S r (i+1)):=by rw[HI.out,hr];rfl
   have hr2:k-(i+1)=r:=by omega
   obtain⟨z,hzz⟩:∃z,S i=z:=⟨_,rfl⟩;rw[hzz]at hT hc hz
   have HT:=zk hT;have HR:=zk hr2
   have i1:((i:Nat):Int)<((k:Nat):Int):=by omega
   have NC:=zk (λw=>znu (w:=w) hz);clear hT hr2 hr hzz hz;cases hl:zaC z
   ·have NC2:=NC;rw[hl]at NC2
    have HN:=zk hl;clear NC hl;go_wp2_with fail
    refine(NC2.out _).mono ?_;rintro e w2 ⟨rfl,rfl⟩;go_wp2;go_ret;refine⟨?_,rfl⟩;rw[HT.out,HN.out];rfl
   ·have NC2:=NC;rw[hl]at NC2
    have HN:=zk hl;clear NC hl;go_wp2_with fail
    refine(NC2.out _).mono ?_;rintro e w2 ⟨rfl,rfl⟩;go_wp2;go_roundw
    case rel =>
     refine⟨i+1,by omega,by go_num,trivial,?_⟩;show _=_;rw[HT.out,HN.out,HR.out];rfl
    case measure=>simp[intOf];omega
  ·have e1:i=k:=by omega
   have HE:Hid (nms S k 0=true):=by show _=_;rw[HI.out,e1,sub_self];rfl
   have i2:¬(((i:Nat):Int)<((k:Nat):Int)):=by omega
   clear e1 HI;go_wp2;go_ret;refine⟨?_,rfl⟩;rw[HE.out];rfl
end Go.Proofs.YtlbgphjdibbkjaaGreat
namespace Go.Proofs.YtlbgphjdibbkjaaGreat
open Value (slice agg)
open Obj (cells)
open Ending (returned)
open Nat (le_refl le_trans zero_add sub_self)
open Go.Proofs.Tryz
open Go.RowKit Go.MapKept Go.ChangeMaps
def Ens (es:Array MapEntry) (R:ByteArray->Int->Prop):Prop :=
 (∀x ∈ es.toList,∃k v,x.key=.string k/\x.val=.int .i64 v)/\∀k v,R k v ↔ ∃x ∈ es.toList,x.key=.string k/\x.val=.int .i64 v
def Ms (w:World) (b:Nat) (R:ByteArray->Int->Prop):Prop :=
 ∃es clock,w.heap[b]?=some (.map es clock)/\Stamped es clock/\Ens es R
theorem Ms.congr {w b R R'} (h:Ms w b R) (e:∀k v,R' k v ↔ R k v):Ms w b R':=by
 obtain⟨es,c,h1,h2,h3,h4⟩:=h;exact⟨es,c,h1,h2,h3,λk v=>(e k v).trans (h4 k v)⟩
theorem Ens.key {es R} (h:Ens es R):∀x ∈ es.toList,IsKey .string x.key:=λx hx=>by
 obtain⟨k,v,e,_⟩:=h.1 x hx;rw[e];trivial
theorem zhO {l:List MapEntry} (hn:(l.map (·.key)).Nodup) {x y} (hx:x ∈ l) (hy:y ∈ l) (e:x.key=y.key):x=y:=by
 induction l with
 | nil=>cases hx
 | cons a r ih =>
  simp only[List.map_cons,List.nodup_cons,List.mem_map,not_exists,not_and]at hn;rcases List.mem_cons.1 hx with h1|h1 <;> rcases List.mem_cons.1 hy with h2|h2
  ·rw[h1,h2]
  ·subst h1;exact absurd e.symm (hn.1 y h2)
  ·subst h2;exact absurd e (hn.1 x h1)
  ·exact ih hn.2 h1 h2
theorem Ms.fun {w b R} (h:Ms w b R) {k u v} (hu:R k u) (hv:R k v):u=v:=by
 obtain⟨es,c,_,hs,he⟩:=h;obtain⟨x,hx,x1,x2⟩:=(he.2 k u).1 hu;obtain⟨y,hy,y1,y2⟩:=(he.2 k v).1 hv;have:=zhO hs.2.2 hx hy (x1.trans y1.symm);subst this;rw[x2]at y2
 simpa using y2
theorem Ms.find {es R} (he:Ens es R) (k:ByteArray) :
  (Instr.findNow .string (.string k) es.toList 0=some none/\(∀x ∈ es.toList,x.key≠.string k)/\∀v,¬R k v)∨∃j x v,Instr.findNow .string (.string k) es.toList 0=some (some (j,.int .i64 v))/\es[j]?=some x/\x ∈ es.toList/\x.key=.string k/\x.val=.int .i64 v/\R k v:=by
 rcases findNow_spec (d:=.string) (k:=.string k) trivial es.toList 0 he.key with⟨h1,h2⟩|⟨j,x,h1,h2,h3⟩
 ·exact .inl ⟨h1,h2,λv hv=>by
   obtain⟨x,hx,x1,_⟩:=(he.2 k v).1 hv;exact h2 x hx x1⟩
 ·have hx:x ∈ es.toList:=List.mem_of_getElem? h2;obtain⟨k',v,e1,e2⟩:=he.1 x hx;refine .inr ⟨j,x,v,?_,by simpa using h2,hx,h3,e2,(he.2 k v).2 ⟨x,hx,h3,e2⟩⟩;rw[h1,e2];simp
variable {P:Program} {t kt et:TypeId} {w:World} {b:Nat} {R:ByteArray->Int->Prop} {k:ByteArray} {v:Int}
theorem Ms.look (h:Ms w b R) (hm:P.underlying t=some (.map kt et)) (hd:P.underlying kt=some .string) (hv:R k v) (ok:Bool) :
  (Instr.lookup t (.map (some b)) (.string k) ok).run P w=.ok (if ok then .tuple #[.int .i64 v,.bool true] else .int .i64 v) w:=by
 have hf:=h;obtain⟨es,c,hb,hs,he⟩:=h;rcases Ms.find he k with⟨_,_,h3⟩|⟨j,x,v',h1,_,_,_,_,hr⟩
 ·exact absurd hv (h3 v)
 ·have e:=hf.fun hr hv
  subst e;simp[Instr.lookup,run_underlying hm,MapKept.run_getObj_map hb,run_checkKey hd (show IsKey .string (.string k)from trivial),run_findKey hd h1,Result.andThen]
theorem Ms.miss (h:Ms w b R) (hm:P.underlying t=some (.map kt et)) (hd:P.underlying kt=some .string) (hz:(zeroValue et).run P w=.ok (.int .i64 0) w) (hv:∀v,¬R k v) (ok:Bool) :
  (Instr.lookup t (.map (some b)) (.string k) ok).run P w=.ok (if ok then .tuple #[.int .i64 0,.bool false] else .int .i64 0) w:=by
 obtain⟨es,c,hb,hs,he⟩:=h;rcases Ms.find he k with⟨h1,_,_⟩|⟨j,x,v',h1,_,_,_,_,hr⟩
 ·simp[Instr.lookup,run_underlying hm,MapKept.run_getObj_map hb,run_checkKey hd (show IsKey .string (.string k)from trivial),run_findKey hd h1,hz,Result.andThen]
 ·exact absurd hr (hv v')
def zsk (R:ByteArray->Int->Prop) (k:ByteArray) (v:Int):ByteArray->Int->Prop:=λk' v'=>(k'=k/\v'=v)∨(k'≠k/\R k' v')
structure Ons (b:Nat) (w w':World):Prop where
 os:w'.os=w.os
 tape:w'.tape=w.tape
 output:w'.output=w.output
 size:w'.heap.size=w.heap.size
 block:∀k,k≠b->w'.heap[k]?=w.heap[k]?
theorem zdH (w:World) (b:Nat) (o:Obj):Ons b w (setBlock w b o) :=
 ⟨rfl,rfl,rfl,by simp[setBlock],λk hk=>by simp[setBlock,Ne.symm hk]⟩
theorem mems_modify {es:Array MapEntry} {j x f} (hj:es[j]?=some x) (hn:es.toList.Nodup) (y:MapEntry):y ∈ (es.modify j f).toList ↔ y=f x∨(y ∈ es.toList/\y≠x):=by
 have hl:es.toList[j]?=some x:=by simpa using hj
 constructor
 ·intro hy;obtain⟨i,hi⟩:=List.getElem?_of_mem hy;simp only[Array.getElem?_toList,Array.getElem?_modify]at hi;by_cases e:j=i
  ·subst e;simp[hj]at hi;exact .inl hi.symm
  ·simp[e]at hi
   refine .inr ⟨List.mem_of_getElem? (by simpa using hi),λe2=>?_⟩;subst e2;have hlt:j<es.toList.length:=(List.getElem?_eq_some_iff.1 hl).1;exact e ((List.getElem?_inj hlt hn).1 (by rw[hl];simpa using hi.symm))
 ·rintro(rfl|⟨hy,hne⟩)
  ·refine List.mem_of_getElem? (i:=j) ?_;simp[hj]
  ·obtain⟨i,hi⟩:=List.getElem?_of_mem hy;refine List.mem_of_getElem? (i:=i) ?_;have:j≠i:=λe=>by subst e;rw[hl]at hi;cases hi;exact hne rfl
   simp only[Array.getElem?_toList,Array.getElem?_modify,this,if_false];simpa using hi
theorem zrp {es c} (hs:Stamped es c):es.toList.Nodup:=List.Pairwise.of_map (λx:MapEntry=>x.key) (λa b h e=>h (by rw[e])) hs.2.2
theorem zjn {es:Array MapEntry} {c:Nat} (hs:Stamped es c) (he:Ens es R) {j:Nat} {x:MapEntry} (hj:es[j]?=some x) (hk:x.key=.string k) (f:MapEntry->MapEntry) (f1:(f x).key=x.key) (f2:(f x).val=.int .i64 v) (f3:(f x).born=x.born) :
  Stamped (es.modify j f) c/\Ens (es.modify j f) (zsk R k v):=by
 have hx:x ∈ es.toList:=List.mem_of_getElem? (i:=j) (by simpa using hj);have hn:=zrp hs;have e0:es.modify j f=es.modify j (λ_=>f x):=by
  apply Array.ext_getElem?;intro i;simp only[Array.getElem?_modify];by_cases e:j=i
  ·subst e;simp[hj]
  ·simp[e]
 refine⟨?_,?_,λk' v'=>?_⟩
 ·rw[e0];have hb:(es.modify j (λ_=>f x)).toList.map (·.born)=es.toList.map (·.born):=by
   apply List.ext_getElem?;intro i;simp only[List.getElem?_map,Array.getElem?_toList,Array.getElem?_modify];by_cases e:j=i
   ·subst e;simp[hj,f3]
   ·simp[e]
  have hk':=modify_keys (es:=es) j (λ_=>f x) (λe he'=>by rw[hj]at he';cases he';exact f1);refine⟨λy hy=>?_,hb ▸ hs.2.1,hk' ▸ hs.2.2⟩;have:y.born ∈ es.toList.map (·.born):=hb ▸ List.mem_map_of_mem hy;obtain⟨z,hz,e⟩:=List.mem_map.1 this;rw[<-e];exact hs.1 z hz
 ·intro y hy;rcases(mems_modify hj hn y).1 hy with rfl|⟨h1,_⟩
  ·exact⟨k,v,f1.trans hk,f2⟩
  ·exact he.1 y h1
 ·constructor
  ·rintro(⟨rfl,rfl⟩|⟨hne,hr⟩)
   ·exact⟨f x,(mems_modify hj hn _).2 (.inl rfl),f1.trans hk,f2⟩
   ·obtain⟨y,hy,y1,y2⟩:=(he.2 k' v').1 hr;refine⟨y,(mems_modify hj hn _).2 (.inr ⟨hy,λe=>?_⟩),y1,y2⟩;subst e;rw[hk]at y1;simp at y1;exact hne y1.symm
  ·rintro⟨y,hy,y1,y2⟩;rcases(mems_modify hj hn y).1 hy with rfl|⟨h1,h2⟩
   ·rw[f1,hk]at y1;rw[f2]at y2
    simp at y1 y2;exact .inl ⟨y1.symm,y2.symm⟩
   ·refine .inr ⟨λe=>?_,(he.2 k' v').2 ⟨y,h1,y1,y2⟩⟩;subst e;exact h2 (zhO hs.2.2 h1 hx (y1.trans hk.symm))
theorem Ms.update (h:Ms w b R) (hm:P.underlying t=some (.map kt et)) (hd:P.underlying kt=some .string) (k:ByteArray) (v:Int) :
  ∃w',(Instr.mapUpdate t (.map (some b)) (.string k) (.int .i64 v)).run P w=.ok () w'/\Ms w' b (zsk R k v)/\Ons b w w':=by
 obtain⟨es,c,hb,hs,he⟩:=h;have hK:IsKey .string (.string k):=trivial;rcases Ms.find he k with⟨h1,h2,h3⟩|⟨j,x,v',h1,hj,hx,hk,_,hr⟩
 ·refine⟨setBlock w b (.map (es.push ⟨.string k,.int .i64 v,c⟩) (c+1)),?_,⟨_,_,heap_setBlock_same hb _,stamped_push hs h2,?_,λk' u=>?_⟩,zdH _ _ _⟩
  ·simp[Instr.mapUpdate,run_underlying hm,MapKept.run_getObj_map hb,run_checkKey hd hK,run_findKey hd h1,run_setObj_map _ hb,Result.andThen,setBlock]
  ·intro y hy;simp only[Array.toList_push,List.mem_append,List.mem_singleton]at hy;rcases hy with hy|rfl
   ·exact he.1 y hy
   ·exact⟨_,_,rfl,rfl⟩
  ·simp only[Array.toList_push,List.mem_append,List.mem_singleton];constructor
   ·rintro(⟨rfl,rfl⟩|⟨_,hr⟩)
    ·exact⟨_,.inr rfl,rfl,rfl⟩
    ·obtain⟨y,hy,y1,y2⟩:=(he.2 k' u).1 hr;exact⟨y,.inl hy,y1,y2⟩
   ·rintro⟨y,hy|rfl,y1,y2⟩
    ·refine .inr ⟨λe=>?_,(he.2 k' u).2 ⟨y,hy,y1,y2⟩⟩;subst e;exact h2 y hy y1
    ·simp at y1 y2;exact .inl ⟨y1.symm,y2.symm⟩
 ·have hm':=zjn (k:=k) (v:=v) hs he hj hk (λe=>{ e with key:=.string k,val:=.int .i64 v }) hk.symm rfl rfl;refine⟨setBlock w b (.map (es.modify j λe=>{ e with key:=.string k,val:=.int .i64 v }) c),?_,⟨_,_,heap_setBlock_same hb _,hm'.1,hm'.2⟩,zdH _ _ _⟩;simp[Instr.mapUpdate,run_underlying hm,MapKept.run_getObj_map hb,run_checkKey hd hK,run_findKey hd h1,hj,hk,run_keyThatStays hK,run_setObj_map _ hb,Result.andThen,setBlock]
theorem zpo (w:World):Ms (w.alloc (.map #[] 0)) w.heap.size (λ_ _=>False) :=
 ⟨#[],0,(MapKept.heap_alloc w _).1,stamped_empty 0,by simp,λk v=>by simp⟩
def zhG (S:Nat->ByteArray) (i:Nat):Bool:=(List.range i).any λj=>decide (S j=S i)
def twr (S:Nat->ByteArray):Nat->Nat->Bool
 | 0,_=>false
 | r+1,i=>zhG S i || twr S r (i+1)
def zmz (S:Nat->ByteArray) (i:Nat):ByteArray->Int->Prop:=λk v=>v=1/\∃j,j<i/\S j=k
theorem zcw (S:Nat->ByteArray) (i:Nat):zhG S i=true ↔ ∃j,j<i/\S j=S i:=by
 simp[zhG]
theorem zrT (w:World):(zeroValue 3).run prog w=.ok (.int .i64 0) w:=by kernel_rfl
theorem zfD {w ao k cap S} (h:Sl w ao k S) (hk:k<=1048576) :
  Calls prog 58 #[slice ao k cap] w λe w'=>e=returned (.bool (twr S k 0))/\Bl w w':=by
 have H:=zk h;clear h;have hmm:∀W,(Instr.makeMap 147 (some (.int .i64 (k:Int)))).run prog W=.ok (.map (some W.heap.size)) (W.alloc (.map #[] 0)):=λW=>by simp[Instr.makeMap,run_underlying underlying147,asInt,asIntOf,Result.andThen]
 go_enter func58,ntmps58;go_wp2_with fail
 go_loopw[11] (λt wr=>∃(i:Nat),i<=k/\t=.int .i64 i/\Hid (Bl w wr)/\Hid (Ms wr w.heap.size (zmz S i))/\Hid (twr S k 0=twr S (k-i) i)) (λt _=>k-(intOf t).toNat)
 case atStart=>exact⟨0,by omega,rfl,zu (Below.refl _ _) _,(zpo w).congr (λk v=>by simp[zmz]),rfl⟩
 case round =>
  obtain⟨i,hi,rfl,HB,HM,HI⟩:=hrel;by_cases hlt:i<k
  ·obtain⟨b,o,rfl,hc,hz⟩:=(H.out.q_ HB.out) i hlt;obtain⟨r,hr⟩:∃r,k-i=r+1:=⟨k-i-1,by omega⟩;have hT:twr S k 0=(zhG S i || twr S r (i+1)):=by rw[HI.out,hr];rfl
   have hr2:k-(i+1)=r:=by omega
   have hS:=zcw S i;obtain⟨z,hzz⟩:∃z,S i=z:=⟨_,rfl⟩;rw[hzz]at hc
   have HT:=zk hT;have HR:=zk hr2;have HZZ:=zk hzz
   have i1:((i:Nat):Int)<((k:Nat):Int):=by omega
   cases hl:zhG S i
   ·rw[hl]at hS
    have hno:∀v,¬zmz S i z v:=λv hv=>by
     obtain⟨_,j,hj,e⟩:=hv;exact absurd (hS.2 ⟨j,hj,e.trans hzz.symm⟩) (by simp)
    have e1:=HM.out.miss (P:=prog) (t:=147) underlying147 underlying9 (zrT wr) (k:=z) hno false;obtain⟨w2,e2,M2,O2⟩:=HM.out.update (P:=prog) (t:=147) underlying147 underlying9 z 1;have e3:=M2.look (P:=prog) (t:=147) underlying147 underlying9 (k:=z) (v:=1) (Or.inl ⟨rfl,rfl⟩) false;have HB2:Hid (Bl w w2):=⟨O2.os.trans HB.out.os,O2.tape.trans HB.out.tape,O2.output.trans HB.out.output,by have:=HB.out.size;have:=O2.size;omega,λj hj=>(O2.block j (by omega)).trans (HB.out.block j hj)⟩;have HM2:Hid (Ms w2 w.heap.size (zmz S (i+1))):=M2.congr λk' v'=>by
     constructor
     ·rintro⟨rfl,j,hj,rfl⟩;by_cases e:S j=z
      ·exact .inl ⟨e,rfl⟩
      ·refine .inr ⟨e,rfl,j,?_,rfl⟩;rcases Nat.lt_or_ge j i with h|h
       ·exact h
       ·exact absurd (by rw[show j=i by omega];exact hzz) e
     ·rintro(⟨rfl,rfl⟩|⟨_,rfl,j,hj,rfl⟩)
      ·exact⟨rfl,i,by omega,hzz⟩
      ·exact⟨rfl,j,by omega,rfl⟩
    have HL:=zk hl;clear hT hr2 hr hz hno hS hl M2 O2 hzz;go_wp2;go_roundw
    case rel =>
     refine⟨i+1,by omega,by go_num,HB2.out,HM2.out,?_⟩;show _=_;rw[HT.out,HL.out,HR.out];rfl
    case measure=>simp[intOf];omega
   ·rw[hl]at hS
    have hyes:zmz S i z 1:=by
     obtain⟨j,hj,e⟩:=hS.1 rfl;exact⟨rfl,j,hj,e.trans hzz⟩
    have e1:=HM.out.look (P:=prog) (t:=147) underlying147 underlying9 (k:=z) hyes false;obtain⟨w2,e2,M2,O2⟩:=HM.out.update (P:=prog) (t:=147) underlying147 underlying9 z 2;have e3:=M2.look (P:=prog) (t:=147) underlying147 underlying9 (k:=z) (v:=2) (Or.inl ⟨rfl,rfl⟩) false;have HB2:Hid (Bl w w2):=⟨O2.os.trans HB.out.os,O2.tape.trans HB.out.tape,O2.output.trans HB.out.output,by have:=HB.out.size;have:=O2.size;omega,λj hj=>(O2.block j (by omega)).trans (HB.out.block j hj)⟩;have HL:=zk hl;clear hT hr2 hr hz hyes hS hl M2 O2 hzz;go_wp2;go_ret;refine⟨?_,HB2.out⟩;rw[HT.out,HL.out];rfl
  ·have e1:i=k:=by omega
   have HE:Hid (twr S k 0=false):=by show _=_;rw[HI.out,e1,sub_self];rfl
   have i2:¬(((i:Nat):Int)<((k:Nat):Int)):=by omega
   clear e1 HI;go_wp2;go_ret;refine⟨?_,HB.out⟩;rw[HE.out];rfl
end Go.Proofs.YtlbgphjdibbkjaaGreat
namespace Go.Proofs.YtlbgphjdibbkjaaGreat
open Value (slice agg)
open Obj (cells)
open Ending (returned)
open Nat (le_refl le_trans zero_add sub_self)
open Go.Proofs.Tryz
open Go.RowKit
structure Ex where
 i:Int
 v:Nm
def NmS (w:World) (t:Nm):Prop:=Rw w t.x t.n t.c t.f t.y t.m t.d t.g/\t.n<=65536/\t.m<=65536
theorem NmS.q_ {w w' t} (h:NmS w t) (hb:Bl w w'):NmS w' t:=⟨h.1.q_ hb,h.2⟩
def exF (e:Ex):Bool:=efB e.i e.v.s e.v.f e.v.n e.v.g e.v.m
def abB (a b:Ex):Bool:=exF a && (exF b && (decide (a.i≠1) && decide (b.i ≠ -1)))
def Nm.val (t:Nm):Value:=agg #[.bool t.s,slice t.x t.n t.c,slice t.y t.m t.d]
def Ex.val (e:Ex):Value:=agg #[.int .i64 e.i,.bool e.v.s,slice e.v.x e.v.n e.v.c,slice e.v.y e.v.m e.v.d]
theorem zkD {w e} (h:NmS w e.v):Calls prog 117 #[e.val] w λr w'=>r=returned (.bool (exF e))/\Bl w w' :=
 zkF (i:=e.i) (s:=e.v.s) h.1 h.2.1 h.2.2
theorem zel {w a b} (ha:NmS w a.v) (hb:NmS w b.v):Calls prog 86 #[a.val,b.val] w λr w'=>r=returned (.bool (abB a b))/\Bl w w':=by
 have CA:=zk (λw' (hw:Bl w w')=>zkD (w:=w') (ha.q_ hw));have CB:=zk (λw' (hw:Bl w w')=>zkD (w:=w') (hb.q_ hw));obtain⟨fa,hfa⟩:∃x,exF a=x:=⟨_,rfl⟩;obtain⟨fb,hfb⟩:∃x,exF b=x:=⟨_,rfl⟩;have hR:abB a b=(fa && (fb && (decide (a.i≠1) && decide (b.i ≠ -1)))):=by simp only[abB,hfa,hfb]
 rw[hfa]at CA
 rw[hfb]at CB
 have HR:=zk hR;clear hR hfa hfb ha hb;obtain⟨i,⟨s,x,n,c,f,y,m,d,g⟩⟩:=a;obtain⟨j,⟨s2,x2,n2,c2,f2,y2,m2,d2,g2⟩⟩:=b;replace CA:Hid (∀w' (hw:Bl w w'),Calls prog 117 #[agg #[.int .i64 i,.bool s,slice x n c,slice y m d]] w' λr w2=>r=returned (.bool fa)/\Bl w' w2):=CA;replace CB:Hid (∀w' (hw:Bl w w'),Calls prog 117 #[agg #[.int .i64 j,.bool s2,slice x2 n2 c2,slice y2 m2 d2]] w' λr w2=>r=returned (.bool fb)/\Bl w' w2):=CB;replace HR:Hid (abB ⟨i,⟨s,x,n,c,f,y,m,d,g⟩⟩ ⟨j,⟨s2,x2,n2,c2,f2,y2,m2,d2,g2⟩⟩=(fa && (fb && (decide (i≠1) && decide (j ≠ -1))))):=HR;show Calls prog 86 #[agg #[.int .i64 i,.bool s,slice x n c,slice y m d],agg #[.int .i64 j,.bool s2,slice x2 n2 c2,slice y2 m2 d2]] w _;go_enter func86,ntmps86;go_wp2_with fail
 have HB0:=zk (zu (zB w (cells #[.int .i64 i,.bool s,slice x n c,slice y m d] 40)) (cells #[.int .i64 j,.bool s2,slice x2 n2 c2,slice y2 m2 d2] 40));refine(CA.out _ HB0.out).mono ?_;rintro r w1 ⟨rfl,hb1⟩;have x0:=kCb hb1 (a:=⟨w.heap.size,0,none⟩) (v:=.int .i64 i) (by simp[go_sem]);have b1:=zkR hb1;obtain⟨_,y0,y1,y2',y3⟩:=b1;replace y0:w1.cell? ⟨w.heap.size+1,0,none⟩=some (.int .i64 j):=by simpa using y0
 replace y1:w1.cell? ⟨w.heap.size+1,1,none⟩=some (.bool s2):=by simpa using y1
 replace y2':w1.cell? ⟨w.heap.size+1,2,none⟩=some (slice x2 n2 c2):=by simpa using y2'
 replace y3:w1.cell? ⟨w.heap.size+1,3,none⟩=some (slice y2 m2 d2):=by simpa using y3
 have HB1:=zJ HB0 hb1;clear hb1 HB0;cases fa
 ·go_wp2;go_ret;refine⟨?_,HB1.out⟩;rw[HR.out];rfl
 ·go_wp2_with fail
  refine(CB.out _ HB1.out).mono ?_;rintro r w2 ⟨rfl,hb2⟩;have z0:=kCb hb2 x0;have u0:=kCb hb2 y0;have HB2:=zJ HB1 hb2;clear hb2 HB1 x0 y0 y1 y2' y3;cases fb
  ·go_wp2;go_ret;refine⟨?_,HB2.out⟩;rw[HR.out];rfl
  ·by_cases h1:i=1
   ·subst h1;go_wp2;go_ret;refine⟨?_,HB2.out⟩;rw[HR.out];rfl
   ·have HI:=zk (show decide (i≠1)=true from by simp[h1]);by_cases h2:j=-1
    ·subst h2;go_wp2;go_ret;refine⟨?_,HB2.out⟩;rw[HR.out,HI.out];rfl
    ·have HJ:=zk (show decide (j ≠ -1)=true from by simp[h2]);go_wp2;go_ret;refine⟨?_,HB2.out⟩;rw[HR.out,HI.out,HJ.out];simp[h1,h2]
def Cs (w:World) (b o:Nat) (vs:List Value):Prop:=∀j v,vs[j]?=some v->w.cell? ⟨b,o+j,none⟩=some v
theorem Cs.q_ {w w' b o vs} (h:Cs w b o vs) (hb:Bl w w'):Cs w' b o vs:=λj v e=>kCb hb (h j v e)
structure Lc where
 nm:ByteArray
 cost:Nm
 lo:Ex
 hi:Ex
structure Lr where
 nm:ByteArray
 lo:Ex
 hi:Ex
 ta:Option Addr
 tk:Nat
 tc:Nat
 col:Nat->Int
 T:Nat->Nm
def Lc.vs (c:Lc):List Value:=[.string c.nm,.bool c.cost.s,slice c.cost.x c.cost.n c.cost.c,slice c.cost.y c.cost.m c.cost.d,.int .i64 c.lo.i,.bool c.lo.v.s,slice c.lo.v.x c.lo.v.n c.lo.v.c,slice c.lo.v.y c.lo.v.m c.lo.v.d,.int .i64 c.hi.i,.bool c.hi.v.s,slice c.hi.v.x c.hi.v.n c.hi.v.c,slice c.hi.v.y c.hi.v.m c.hi.v.d]
def Lr.vs (r:Lr):List Value:=[.string r.nm,.int .i64 r.lo.i,.bool r.lo.v.s,slice r.lo.v.x r.lo.v.n r.lo.v.c,slice r.lo.v.y r.lo.v.m r.lo.v.d,.int .i64 r.hi.i,.bool r.hi.v.s,slice r.hi.v.x r.hi.v.n r.hi.v.c,slice r.hi.v.y r.hi.v.m r.hi.v.d,slice r.ta r.tk r.tc]
theorem Cs.lc {w b o z s0 x0 n0 c0 f0 y0 m0 d0 g0 s1 x1 n1 c1 f1 y1 m1 d1 g1 s2 x2 n2 c2 f2 y2 m2 d2 g2 i1 i2} (h:Cs w b o (Lc.vs ⟨z,⟨s0,x0,n0,c0,f0,y0,m0,d0,g0⟩,⟨i1,⟨s1,x1,n1,c1,f1,y1,m1,d1,g1⟩⟩,⟨i2,⟨s2,x2,n2,c2,f2,y2,m2,d2,g2⟩⟩⟩)):w.cell? ⟨b,o,none⟩=some (.string z)/\w.cell? ⟨b,o+1,none⟩=some (.bool s0)/\w.cell? ⟨b,o+2,none⟩=some (slice x0 n0 c0)/\w.cell? ⟨b,o+3,none⟩=some (slice y0 m0 d0)/\w.cell? ⟨b,o+4,none⟩=some (.int .i64 i1)/\w.cell? ⟨b,o+5,none⟩=some (.bool s1)/\w.cell? ⟨b,o+6,none⟩=some (slice x1 n1 c1)/\w.cell? ⟨b,o+7,none⟩=some (slice y1 m1 d1)/\w.cell? ⟨b,o+8,none⟩=some (.int .i64 i2)/\w.cell? ⟨b,o+9,none⟩=some (.bool s2)/\w.cell? ⟨b,o+10,none⟩=some (slice x2 n2 c2)/\w.cell? ⟨b,o+11,none⟩=some (slice y2 m2 d2):=⟨h 0 _ rfl,h 1 _ rfl,h 2 _ rfl,h 3 _ rfl,h 4 _ rfl,h 5 _ rfl,h 6 _ rfl,h 7 _ rfl,h 8 _ rfl,h 9 _ rfl,h 10 _ rfl,h 11 _ rfl⟩
theorem Cs.lr {w b o z s1 x1 n1 c1 f1 y1 m1 d1 g1 s2 x2 n2 c2 f2 y2 m2 d2 g2 i1 i2 ta tk tc tcol tt} (h:Cs w b o (Lr.vs ⟨z,⟨i1,⟨s1,x1,n1,c1,f1,y1,m1,d1,g1⟩⟩,⟨i2,⟨s2,x2,n2,c2,f2,y2,m2,d2,g2⟩⟩,ta,tk,tc,tcol,tt⟩)):w.cell? ⟨b,o,none⟩=some (.string z)/\w.cell? ⟨b,o+1,none⟩=some (.int .i64 i1)/\w.cell? ⟨b,o+2,none⟩=some (.bool s1)/\w.cell? ⟨b,o+3,none⟩=some (slice x1 n1 c1)/\w.cell? ⟨b,o+4,none⟩=some (slice y1 m1 d1)/\w.cell? ⟨b,o+5,none⟩=some (.int .i64 i2)/\w.cell? ⟨b,o+6,none⟩=some (.bool s2)/\w.cell? ⟨b,o+7,none⟩=some (slice x2 n2 c2)/\w.cell? ⟨b,o+8,none⟩=some (slice y2 m2 d2)/\w.cell? ⟨b,o+9,none⟩=some (slice ta tk tc):=⟨h 0 _ rfl,h 1 _ rfl,h 2 _ rfl,h 3 _ rfl,h 4 _ rfl,h 5 _ rfl,h 6 _ rfl,h 7 _ rfl,h 8 _ rfl,h 9 _ rfl⟩
structure LcR (w:World) (c:Lc):Prop where
 cost:NmS w c.cost
 lo:NmS w c.lo.v
 hi:NmS w c.hi.v
 nm:c.nm.size<=9223372036854775807
structure LrR (w:World) (r:Lr):Prop where
 lo:NmS w r.lo.v
 hi:NmS w r.hi.v
 tl:Tl w r.ta r.tk r.col r.T
 tk:r.tk<=1048576
 nm:r.nm.size<=9223372036854775807
theorem LcR.q_ {w w' c} (h:LcR w c) (hb:Bl w w'):LcR w' c:=⟨h.cost.q_ hb,h.lo.q_ hb,h.hi.q_ hb,h.nm⟩
theorem LrR.q_ {w w' c} (h:LrR w c) (hb:Bl w w'):LrR w' c:=⟨h.lo.q_ hb,h.hi.q_ hb,h.tl.q_ hb,h.tk,h.nm⟩
def Cls (w:World) (ao:Option Addr) (k:Nat) (C:Nat->Lc):Prop:=∀j,j<k->∃b o,ao=some ⟨b,o,none⟩/\Cs w b (o+j*12) (C j).vs/\LcR w (C j)
def Rls (w:World) (ao:Option Addr) (k:Nat) (R:Nat->Lr):Prop:=∀j,j<k->∃b o,ao=some ⟨b,o,none⟩/\Cs w b (o+j*10) (R j).vs/\LrR w (R j)
theorem Cls.q_ {w w' ao k C} (h:Cls w ao k C) (hb:Bl w w'):Cls w' ao k C:=λj hj=>by
 obtain⟨b,o,e,h1,h2⟩:=h j hj;exact⟨b,o,e,h1.q_ hb,h2.q_ hb⟩
theorem Rls.q_ {w w' ao k R} (h:Rls w ao k R) (hb:Bl w w'):Rls w' ao k R:=λj hj=>by
 obtain⟨b,o,e,h1,h2⟩:=h j hj;exact⟨b,o,e,h1.q_ hb,h2.q_ hb⟩
structure Mo where
 off:Nm
 ca:Option Addr
 ck:Nat
 cc:Nat
 C:Nat->Lc
 ra:Option Addr
 rk:Nat
 rc:Nat
 R:Nat->Lr
def Mo.val (M:Mo):Value:=agg #[.bool M.off.s,slice M.off.x M.off.n M.off.c,slice M.off.y M.off.m M.off.d,slice M.ca M.ck M.cc,slice M.ra M.rk M.rc]
structure MoR (w:World) (M:Mo):Prop where
 off:NmS w M.off
 cls:Cls w M.ca M.ck M.C
 rls:Rls w M.ra M.rk M.R
 ck:M.ck<=1048576
 rk:M.rk<=1048576
theorem MoR.q_ {w w' M} (h:MoR w M) (hb:Bl w w'):MoR w' M:=⟨h.off.q_ hb,h.cls.q_ hb,h.rls.q_ hb,h.ck,h.rk⟩
def zeb (C:Nat->Lc):Nat->Nat->Bool
 | 0,_=>true
 | r+1,i=>nfB (C i).cost && (abB (C i).lo (C i).hi && zeb C r (i+1))
def zdc (R:Nat->Lr):Nat->Nat->Bool
 | 0,_=>true
 | r+1,i=>abB (R i).lo (R i).hi && (tfB (R i).tk (R i).col (R i).T && zdc R r (i+1))
def moF (M:Mo):Bool:=nfB M.off && (zeb M.C M.ck 0 && zdc M.R M.rk 0)
theorem zkg {w t} (h:NmS w t):Calls prog 60 #[t.val] w λr w'=>r=returned (.bool (nfB t))/\Bl w w' :=
 zdA (s:=t.s) h.1 (by have:=h.2.1;omega) (by have:=h.2.2;omega)
theorem znx {w M} (h:MoR w M):Calls prog 56 #[M.val] w λr w'=>r=returned (.bool (moF M))/\Bl w w':=by
 obtain⟨⟨s,x,n,c,f,y,m,d,g⟩,ca,ck,cc,C,ra,rk,rc,R⟩:=M;obtain⟨ho,hC,hR,hck,hrk⟩:=h;replace hck:ck<=1048576:=hck;replace hrk:rk<=1048576:=hrk;have HC:Hid (Cls w ca ck C):=hC;have HRL:Hid (Rls w ra rk R):=hR;have CF:=zk (λw' (hw:Bl w w')=>zkg (w:=w') (ho.q_ hw));obtain⟨fo,hfo⟩:∃z,nfB ⟨s,x,n,c,f,y,m,d,g⟩=z:=⟨_,rfl⟩;rw[hfo]at CF
 replace CF:Hid (∀w' (hw:Bl w w'),Calls prog 60 #[agg #[.bool s,slice x n c,slice y m d]] w' λr w2=>r=returned (.bool fo)/\Bl w' w2):=CF;obtain⟨ans,hans⟩:∃z,moF ⟨⟨s,x,n,c,f,y,m,d,g⟩,ca,ck,cc,C,ra,rk,rc,R⟩=z:=⟨_,rfl⟩;rw[hans];have hF:ans=(fo && (zeb C ck 0 && zdc R rk 0)):=by rw[<-hans,<-hfo];rfl
 have HF:=zk hF;clear hF hans hfo ho hC hR;show Calls prog 56 #[agg #[.bool s,slice x n c,slice y m d,slice ca ck cc,slice ra rk rc]] w _;go_enter func56,ntmps56;go_wp2_with fail
 have HB0:=zk (zB w (cells #[.bool s,slice x n c,slice y m d,slice ca ck cc,slice ra rk rc] 28));refine(CF.out _ HB0.out).mono ?_;rintro r w1 ⟨rfl,hb1⟩;have k3:=kCb hb1 (a:=⟨w.heap.size,3,none⟩) (v:=slice ca ck cc) (by simp[go_sem]);have k4:=kCb hb1 (a:=⟨w.heap.size,4,none⟩) (v:=slice ra rk rc) (by simp[go_sem]);have HB1:=zJ HB0 hb1;clear hb1 HB0 CF;cases fo
 ·go_wp2;go_ret;refine⟨?_,HB1.out⟩;rw[HF.out];rfl
 have HK4:=zk k4;clear k4;go_wp2_with fail
 go_loopw[14] (λt wr=>∃(i:Nat),i<=ck/\t=.int .i64 i/\Hid (Bl w1 wr)/\Hid (ans=(zeb C (ck-i) i && zdc R rk 0))) (λt _=>ck-(intOf t).toNat)
 case atStart=>exact⟨0,by omega,rfl,Below.refl _ _,by show _=_;rw[HF.out];rfl⟩
 case round =>
  obtain⟨i,hi,rfl,HB,HI⟩:=hrel;by_cases hlt:i<ck
  ·obtain⟨b,o,rfl,hc,hn⟩:=(HC.out.q_ (bUp HB1.out HB.out)) i hlt;obtain⟨r,hr⟩:∃r,ck-i=r+1:=⟨ck-i-1,by omega⟩;obtain⟨⟨z,⟨s0,x0,n0,c0,f0,y0,m0,d0,g0⟩,⟨i1,⟨s1,x1,n1,c1,f1,y1,m1,d1,g1⟩⟩,⟨i2,⟨s2,x2,n2,c2,f2,y2,m2,d2,g2⟩⟩⟩,hCi⟩:∃t,C i=t:=⟨_,rfl⟩;obtain⟨t1,ht1⟩:∃t,nfB (C i).cost=t:=⟨_,rfl⟩;obtain⟨t2,ht2⟩:∃t,abB (C i).lo (C i).hi=t:=⟨_,rfl⟩;have hT:ans=((t1 && (t2 && zeb C r (i+1))) && zdc R rk 0):=by rw[HI.out,hr,<-ht1,<-ht2];rfl
   have hr2:ck-(i+1)=r:=by omega
   have C1:=zk (λw' (hw:Bl wr w')=>zkg (w:=w') (hn.cost.q_ hw));have C2:=zk (λw' (hw:Bl wr w')=>zel (w:=w') (hn.lo.q_ hw) (hn.hi.q_ hw));rw[ht1]at C1
   rw[ht2]at C2
   rw[hCi]at hc C1 C2
   replace C1:Hid (∀w' (hw:Bl wr w'),Calls prog 60 #[agg #[.bool s0,slice x0 n0 c0,slice y0 m0 d0]] w' λr w2=>r=returned (.bool t1)/\Bl w' w2):=C1;replace C2:Hid (∀w' (hw:Bl wr w'),Calls prog 86 #[agg #[.int .i64 i1,.bool s1,slice x1 n1 c1,slice y1 m1 d1],agg #[.int .i64 i2,.bool s2,slice x2 n2 c2,slice y2 m2 d2]] w' λr w2=>r=returned (.bool t2)/\Bl w' w2):=C2;have q0:wr.cell? ⟨b,o+i*12,none⟩=some (.string z):=hc 0 _ rfl;have q1:wr.cell? ⟨b,o+i*12+1,none⟩=some (.bool s0):=hc 1 _ rfl;have q2:wr.cell? ⟨b,o+i*12+2,none⟩=some (slice x0 n0 c0):=hc 2 _ rfl;have q3:wr.cell? ⟨b,o+i*12+3,none⟩=some (slice y0 m0 d0):=hc 3 _ rfl;have q4:wr.cell? ⟨b,o+i*12+4,none⟩=some (.int .i64 i1):=hc 4 _ rfl;have q5:wr.cell? ⟨b,o+i*12+5,none⟩=some (.bool s1):=hc 5 _ rfl;have q6:wr.cell? ⟨b,o+i*12+6,none⟩=some (slice x1 n1 c1):=hc 6 _ rfl;have q7:wr.cell? ⟨b,o+i*12+7,none⟩=some (slice y1 m1 d1):=hc 7 _ rfl;have q8:wr.cell? ⟨b,o+i*12+8,none⟩=some (.int .i64 i2):=hc 8 _ rfl;have q9:wr.cell? ⟨b,o+i*12+9,none⟩=some (.bool s2):=hc 9 _ rfl;have q10:wr.cell? ⟨b,o+i*12+10,none⟩=some (slice x2 n2 c2):=hc 10 _ rfl;have q11:wr.cell? ⟨b,o+i*12+11,none⟩=some (slice y2 m2 d2):=hc 11 _ rfl;have HT:=zk hT;have HR:=zk hr2
   have i1':((i:Nat):Int)<((ck:Nat):Int):=by omega
   clear hT hr2 hr hCi ht1 ht2 hc hn;go_wp2_with fail
   have HB2:=zk (zB wr (cells #[.string z,.bool s0,slice x0 n0 c0,slice y0 m0 d0,.int .i64 i1,.bool s1,slice x1 n1 c1,slice y1 m1 d1,.int .i64 i2,.bool s2,slice x2 n2 c2,slice y2 m2 d2] 60));refine(C1.out _ HB2.out).mono ?_;rintro r w2 ⟨rfl,hb2⟩;have u4:=kCb hb2 (a:=⟨wr.heap.size,4,none⟩) (v:=.int .i64 i1) (by simp[go_sem]);have u5:=kCb hb2 (a:=⟨wr.heap.size,5,none⟩) (v:=.bool s1) (by simp[go_sem]);have u6:=kCb hb2 (a:=⟨wr.heap.size,6,none⟩) (v:=slice x1 n1 c1) (by simp[go_sem]);have u7:=kCb hb2 (a:=⟨wr.heap.size,7,none⟩) (v:=slice y1 m1 d1) (by simp[go_sem]);have u8:=kCb hb2 (a:=⟨wr.heap.size,8,none⟩) (v:=.int .i64 i2) (by simp[go_sem]);have u9:=kCb hb2 (a:=⟨wr.heap.size,9,none⟩) (v:=.bool s2) (by simp[go_sem]);have u10:=kCb hb2 (a:=⟨wr.heap.size,10,none⟩) (v:=slice x2 n2 c2) (by simp[go_sem]);have u11:=kCb hb2 (a:=⟨wr.heap.size,11,none⟩) (v:=slice y2 m2 d2) (by simp[go_sem]);have HB3:=zJ HB2 hb2;clear hb2 HB2 C1;cases t1
   ·go_wp2;go_ret;refine⟨?_,HB1.out.trans ((bUp HB.out HB3.out).mono HB1.out.size)⟩;rw[HT.out];rfl
   ·go_wp2_with fail
    refine(C2.out _ HB3.out).mono ?_;rintro r w3 ⟨rfl,hb3⟩;have HB4:=zk (HB.out.trans ((bUp HB3.out hb3).mono HB.out.size));clear hb3 HB3 C2;cases t2
    ·go_wp2;go_ret;refine⟨?_,bUp HB1.out HB4.out⟩;rw[HT.out];rfl
    ·go_wp2;go_roundw
     case rel =>
      refine⟨i+1,by omega,by go_num,HB4.out,?_⟩;show _=_;rw[HT.out,HR.out];rfl
     case measure=>simp[intOf];omega
  ·have e1:i=ck:=by omega
   have HE:Hid (ans=zdc R rk 0):=by show _=_;rw[HI.out,e1,sub_self];rfl
   have i2:¬(((i:Nat):Int)<((ck:Nat):Int)):=by omega
   have k4:=kCb HB.out HK4.out;have HB5:=zJ HB1 HB.out;clear e1 HI HB HC HK4 HB1 k3;generalize wr=wa at *;go_wp2_with fail
   go_loopw[34] (λt wr'=>∃(i:Nat),i<=rk/\t=.int .i64 i/\Hid (Bl wa wr')/\Hid (ans=zdc R (rk-i) i)) (λt _=>rk-(intOf t).toNat)
   case atStart=>exact⟨0,by omega,rfl,Below.refl _ _,by show _=_;rw[HE.out];rfl⟩
   case round =>
    obtain⟨i,hi,rfl,HB,HI⟩:=hrel;by_cases hlt:i<rk
    ·obtain⟨b,o,rfl,hc,hn⟩:=(HRL.out.q_ (bUp HB5.out HB.out)) i hlt;obtain⟨r,hr⟩:∃r,rk-i=r+1:=⟨rk-i-1,by omega⟩;obtain⟨⟨z,⟨i1,⟨s1,x1,n1,c1,f1,y1,m1,d1,g1⟩⟩,⟨i2,⟨s2,x2,n2,c2,f2,y2,m2,d2,g2⟩⟩,ta,tk,tc,tcol,tt⟩,hCi⟩:∃t,R i=t:=⟨_,rfl⟩;obtain⟨t1,ht1⟩:∃t,abB (R i).lo (R i).hi=t:=⟨_,rfl⟩;obtain⟨t2,ht2⟩:∃t,tfB (R i).tk (R i).col (R i).T=t:=⟨_,rfl⟩;have hT:ans=(t1 && (t2 && zdc R r (i+1))):=by rw[HI.out,hr,<-ht1,<-ht2];rfl
     have hr2:rk-(i+1)=r:=by omega
     have C1:=zk (λw' (hw:Bl wr w')=>zel (w:=w') (hn.lo.q_ hw) (hn.hi.q_ hw));have C2:=zk (λw' (hw:Bl wr w')=>zoG (w:=w') (cap:=(R i).tc) (hn.tl.q_ hw) hn.tk);rw[ht1]at C1
     rw[ht2]at C2
     rw[hCi]at hc C1 C2
     replace C1:Hid (∀w' (hw:Bl wr w'),Calls prog 86 #[agg #[.int .i64 i1,.bool s1,slice x1 n1 c1,slice y1 m1 d1],agg #[.int .i64 i2,.bool s2,slice x2 n2 c2,slice y2 m2 d2]] w' λr w2=>r=returned (.bool t1)/\Bl w' w2):=C1;replace C2:Hid (∀w' (hw:Bl wr w'),Calls prog 87 #[slice ta tk tc] w' λr w2=>r=returned (.bool t2)/\Bl w' w2):=C2;have q0:wr.cell? ⟨b,o+i*10,none⟩=some (.string z):=hc 0 _ rfl;have q1:wr.cell? ⟨b,o+i*10+1,none⟩=some (.int .i64 i1):=hc 1 _ rfl;have q2:wr.cell? ⟨b,o+i*10+2,none⟩=some (.bool s1):=hc 2 _ rfl;have q3:wr.cell? ⟨b,o+i*10+3,none⟩=some (slice x1 n1 c1):=hc 3 _ rfl;have q4:wr.cell? ⟨b,o+i*10+4,none⟩=some (slice y1 m1 d1):=hc 4 _ rfl;have q5:wr.cell? ⟨b,o+i*10+5,none⟩=some (.int .i64 i2):=hc 5 _ rfl;have q6:wr.cell? ⟨b,o+i*10+6,none⟩=some (.bool s2):=hc 6 _ rfl;have q7:wr.cell? ⟨b,o+i*10+7,none⟩=some (slice x2 n2 c2):=hc 7 _ rfl;have q8:wr.cell? ⟨b,o+i*10+8,none⟩=some (slice y2 m2 d2):=hc 8 _ rfl;have q9:wr.cell? ⟨b,o+i*10+9,none⟩=some (slice ta tk tc):=hc 9 _ rfl;have HT:=zk hT;have HR:=zk hr2
     have i1':((i:Nat):Int)<((rk:Nat):Int):=by omega
     clear hT hr2 hr hCi ht1 ht2 hc hn;go_wp2_with fail
     have HB2:=zk (zB wr (cells #[.string z,.int .i64 i1,.bool s1,slice x1 n1 c1,slice y1 m1 d1,.int .i64 i2,.bool s2,slice x2 n2 c2,slice y2 m2 d2,slice ta tk tc] 63));refine(C1.out _ HB2.out).mono ?_;rintro r w2 ⟨rfl,hb2⟩;have u9:=kCb hb2 (a:=⟨wr.heap.size,9,none⟩) (v:=slice ta tk tc) (by simp[go_sem]);have HB3:=zJ HB2 hb2;clear hb2 HB2 C1;cases t1
     ·go_wp2;go_ret;refine⟨?_,HB5.out.trans ((bUp HB.out HB3.out).mono HB5.out.size)⟩;rw[HT.out];rfl
     ·go_wp2_with fail
      refine(C2.out _ HB3.out).mono ?_;rintro r w3 ⟨rfl,hb3⟩;have HB4:=zk (HB.out.trans ((bUp HB3.out hb3).mono HB.out.size));clear hb3 HB3 C2;cases t2
      ·go_wp2;go_ret;refine⟨?_,bUp HB5.out HB4.out⟩;rw[HT.out];rfl
      ·go_wp2;go_roundw
       case rel =>
        refine⟨i+1,by omega,by go_num,HB4.out,?_⟩;show _=_;rw[HT.out,HR.out];rfl
       case measure=>simp[intOf];omega
    ·have e1:i=rk:=by omega
     have HE2:Hid (ans=true):=by show _=_;rw[HI.out,e1,sub_self];rfl
     have i2:¬(((i:Nat):Int)<((rk:Nat):Int)):=by omega
     have HB6:=zJ HB5 HB.out;clear e1 HI HB;go_wp2;go_ret;refine⟨?_,HB6.out⟩;rw[HE2.out];rfl
theorem znv:(prog.info? 65).map (λi=>(i.zero,i.size,i.bytes))=some (some (agg #[.int .i64 0,.bool false,slice none 0 0,slice none 0 0]),4,64):=by kernel_rfl
def zei (z:Int) (t:Nm):List Value:=[.int .i64 z,.bool t.s,slice t.x t.n t.c,slice t.y t.m t.d]
def zaL (l:List (Int × Nm)):List Value:=l.flatMap (λp=>zei p.1 p.2)
theorem zfL (l:List (Int × Nm)) (z:Int) (t:Nm):zaL (l++[(z,t)])=zaL l++zei z t:=by simp[zaL]
theorem RowG.slice {e sz base w v n xs} (h:RowG e sz base w v n xs):∃ao cap,v=.slice ao n cap:=by
 rcases h.2 with⟨rfl,rfl⟩|⟨g,cap,cur,rfl,_⟩
 ·exact⟨none,0,rfl⟩
 ·exact⟨_,cap,rfl⟩
def Tf (L:Nat) (w:World) (ao:Option Addr) (v:List (Int × Rat)):Prop :=
 ∀(j:Nat) (a:Int) (q:Rat),v[j]?=some (a,q)->∃b o,∃t:Nm,ao=some ⟨b,o,none⟩/\C4 w b (o+j*4) (.int .i64 a) (.bool t.s) (slice t.x t.n t.c) (slice t.y t.m t.d)/\Rn L w t.s t.x t.n t.c t.f t.y t.m t.d t.g q
theorem Tf.q_ {L w w' ao v} (h:Tf L w ao v) (hb:Bl w w'):Tf L w' ao v:=λj a q hj=>by
 obtain⟨b,o,t,e,h1,h2⟩:=h j a q hj;exact⟨b,o,t,e,h1.q_ hb,h2.q_ hb⟩
def nz (a:Int) (q:Rat):List (Int × Rat):=if q=0 then [] else [(a,q)]
def mg (r:Rat):List (Int × Rat)->List (Int × Rat)->List (Int × Rat)
 | [],[]=>[]
 | (a,q) :: v,[]=>nz a q++mg r v []
 | [],(b,p) :: w=>nz b (r*p)++mg r [] w
 | (a,q) :: v,(b,p) :: w=>if a<b then nz a q++mg r v ((b,p) :: w) else if b<a then nz b (r*p)++mg r ((a,q) :: v) w else nz a (q+r*p)++mg r v w
termination_by v w=>v.length+w.length
theorem zly {w0 w q} (h:Bl w0 w):Bl w0 (w.drewN q):=zH h q
theorem ziO {l j z t} (h:l[j]?=some (z,t)) (i:Nat) (hi:i<4):(zaL l)[j*4+i]?=(zei z t)[i]?:=by
 induction l generalizing j with
 | nil=>simp at h
 | cons p l ih =>
  have e1:zaL (p :: l)=zei p.1 p.2++zaL l:=rfl;have e2:(zei p.1 p.2).length=4:=rfl;cases j with
  | zero =>
   simp at h;subst h;rw[e1,List.getElem?_append_left (by rw[e2];omega),Nat.zero_mul,zero_add]
  | succ j =>
   rw[e1,List.getElem?_append_right (by rw[e2];omega),e2,show(j+1)*4+i-4=j*4+i by omega];exact ih (by simpa using h)
theorem zoK {col T}:∀{r i:Nat} {last:Int},tfr col T r i last=true->(∀j,i<=j->j<i+r->last<col j/\nfB (T j)=true/\0<(T j).n)/\∀j k,i<=j->j<k->k<i+r->col j<col k:=by
 intro r
 induction r with
 | zero=>intro i last _;exact⟨λj h1 h2=>by omega,λj k h1 h2 h3=>by omega⟩
 | succ r ih =>
  intro i last h;simp only[tfr,Bool.and_eq_true,decide_eq_true_eq]at h;obtain⟨h1,h2,h3,h4⟩:=h;obtain⟨k1,k2⟩:=ih h4;constructor
  ·intro j hj hj2;by_cases e:j=i
   ·subst e;exact⟨h1,h2,h3⟩
   ·obtain⟨a,b,c⟩:=k1 j (by omega) (by omega);exact⟨by omega,b,c⟩
  ·intro j k hj hjk hk;by_cases e:j=i
   ·subst e;exact(k1 k (by omega) (by omega)).1
   ·exact k2 j k (by omega) hjk (by omega)
theorem Nm.rn {w t L} (h:NmR w t) (hf:nfB t=true) (hn:t.n<=L) (hm:t.m<=L):∃q,Rn L w t.s t.x t.n t.c t.f t.y t.m t.d t.g q:=h.1.rn hf hn hm
def Rf (L:Nat) (w:World) (ao:Option Addr) (p:List Rat):Prop :=
 ∀(j:Nat) (q:Rat),p[j]?=some q->∃b o,∃t:Nm,ao=some ⟨b,o,none⟩/\C3 w b (o+j*3) (.bool t.s) (slice t.x t.n t.c) (slice t.y t.m t.d)/\Rn L w t.s t.x t.n t.c t.f t.y t.m t.d t.g q
theorem Rf.q_ {L w w' ao p} (h:Rf L w ao p) (hb:Bl w w'):Rf L w' ao p:=λj q hj=>by
 obtain⟨b,o,t,e,h1,h2⟩:=h j q hj;exact⟨b,o,t,e,h1.q_ hb,h2.q_ hb⟩
theorem zht {X}:∀{r i:Nat},afr X r i=true->∀j,i<=j->j<i+r->nfB (X j)=true:=by
 intro r
 induction r with
 | zero=>intro i _ j h1 h2;omega
 | succ r ih =>
  intro i h j hj hj2;simp only[afr,Bool.and_eq_true]at h;by_cases e:j=i
  ·subst e;exact h.1
  ·exact ih h.2 j (by omega) (by omega)
def OS (k:Nat) (pf:Bool) (L:Nat) (w':World) (ao:Option Addr) (n cap:Nat) (er:Int) (vs:List (Int × Rat)):Prop :=
 64<k/\er=2/\ao=none/\n=0/\cap=0∨k<=64/\pf=false/\er=3/\ao=none/\n=0/\cap=0∨k<=64/\pf=true/\er=0/\n=vs.length/\vs.length<=cap/\cap<=9223372036854775807/\(ao=none->vs=[]/\cap=0)/\Tf L w' ao vs
theorem Wn.lt_pw {w s x n c f v} (h:Wn w s x n c f v):((v.natAbs:Nat):Int)<pw n:=by
 have hm:=h.mag;have h1:=zar hm.lm;have h3:vf f n=((v.natAbs:Nat):Int):=hm.val;omega
theorem Wn.len_pw {w s x n c f v K} (h:Wn w s x n c f v) (hv:((v.natAbs:Nat):Int)<pw K):n<=K:=by
 have hm:=h.mag;have h3:vf f n=((v.natAbs:Nat):Int):=hm.val;by_cases hn:n<=K
 ·exact hn
 ·have h1:=zaI hm.lm (fm_of_wfB hm.wf) (by omega);have h2:=zaQ (show K<=n-1 by omega);omega
theorem zkm (N:Int) (D:Nat) (h:D≠0):(Rat.normalize N D h).num.natAbs<=N.natAbs/\(Rat.normalize N D h).den<=D:=by
 rw[Rat.normalize_eq];exact⟨Int.natAbs_ediv_le_natAbs _ _,Nat.div_le_self _ _⟩
def Lo (K:Nat) (q:Rat):Prop:=((q.num.natAbs:Nat):Int)<pw K/\((q.den:Nat):Int)<pw K
theorem Lo.mono {K L q} (h:Lo K q) (hk:K<=L):Lo L q:=⟨Int.lt_of_lt_of_le h.1 (zaQ hk),Int.lt_of_lt_of_le h.2 (zaQ hk)⟩
theorem Rn.lo {L w s x n c f y m d g q K} (h:Rn L w s x n c f y m d g q) (hn:n<=K) (hm:m<=K):Lo K q :=
 ⟨Int.lt_of_lt_of_le h.num.lt_pw (zaQ hn),Int.lt_of_lt_of_le (by have:=h.den.lt_pw;simpa using this) (zaQ hm)⟩
theorem Rn.cut {L w s x n c f y m d g q K} (h:Rn L w s x n c f y m d g q) (hq:Lo K q):Rn K w s x n c f y m d g q :=
 ⟨h.num,h.den,h.num.len_pw hq.1,h.den.len_pw (by simpa using hq.2)⟩
theorem zfo {a b:Nat} {K L} (h1:(a:Int)<pw K) (h2:(b:Int)<pw L):((a*b:Nat):Int)<=pw (K+L):=by
 rw[zbU,Int.natCast_mul];exact Int.mul_le_mul (by omega) (by omega) (by omega) (by have:=zab K;omega)
theorem zhK (K:Nat):2*pw K<pw (K+1):=by
 have:=zab K;simp only[pw];omega
theorem zfq {K L a b} (ha:Lo K a) (hb:Lo L b):Lo (K+L+1) (a*b):=by
 rw[Rat.mul_def];obtain⟨h1,h2⟩:=zkm (a.num*b.num) (a.den*b.den) (Nat.mul_ne_zero a.den_nz b.den_nz);have e1:=zfo ha.1 hb.1;have e2:=zfo ha.2 hb.2;rw[Int.natAbs_mul]at h1
 have p:=zhK (K+L);have p0:=zab (K+L);constructor <;> omega
theorem zfr {K L a b} (ha:Lo K a) (hb:Lo L b):Lo (K+L+1) (a+b):=by
 rw[Rat.add_def];obtain⟨h1,h2⟩:=zkm (a.num*b.den+b.num*a.den) (a.den*b.den) (Nat.mul_ne_zero a.den_nz b.den_nz);have e1:=zfo ha.1 hb.2;have e2:=zfo ha.2 hb.1;have e3:=zfo ha.2 hb.2;have h3:=Int.natAbs_add_le (a.num*b.den) (b.num*a.den);rw[Int.natAbs_mul,Int.natAbs_mul,Int.natAbs_natCast,Int.natAbs_natCast,Nat.mul_comm b.num.natAbs]at h3
 have p:=zhK (K+L);have p0:=zab (K+L);constructor <;> omega
theorem znp {K a} (ha:Lo K a):Lo K (-a):=by
 unfold Lo at *;rw[Rat.neg_num,Rat.neg_den,Int.natAbs_neg];exact ha
structure Sx (w:World) (B:Nat) (s:Bool) (x:Option Addr) (n c:Nat) (y:Option Addr) (m d:Nat):Prop where
 z:B<w.heap.size
 x0:w.cell? ⟨B,0,none⟩=some (.bool s)
 x1:w.cell? ⟨B,1,none⟩=some (slice x n c)
 x2:w.cell? ⟨B,2,none⟩=some (slice y m d)
 fz:∀o,w.frozen? ⟨B,o,none⟩=false
theorem Sx.q_ {w w' B s x n c y m d} (h:Sx w B s x n c y m d) (hb:Bl w w'):Sx w' B s x n c y m d:=by
 obtain⟨_,h2⟩:=zaH hb;exact⟨Nat.lt_of_lt_of_le h.z hb.size,kCb hb h.x0,kCb hb h.x1,kCb hb h.x2,λo=>(h2 _ _ h.z).trans (h.fz o)⟩
theorem Sx.rd {w B s x n c y m d u0 u1 u2 a k h} (S:Sx w B s x n c y m d) (hx:Rd .u64 w a k h):Rd .u64 (((w.setCell ⟨B,0,none⟩ u0).setCell ⟨B,1,none⟩ u1).setCell ⟨B,2,none⟩ u2) a k h :=
 zay (cell_off (by decide) (cell_off (by decide) S.x2)) (λi h=>by cases h) (zay (cell_off (by decide) S.x1) (λi h=>by cases h) (zay S.x0 (λi h=>by cases h) hx))
theorem Sx.rn {w B s x n c y m d u0 u1 u2 L s1 x1 n1 c1 f1 y1 m1 d1 g1 q} (S:Sx w B s x n c y m d) (h:Rn L w s1 x1 n1 c1 f1 y1 m1 d1 g1 q):Rn L (((w.setCell ⟨B,0,none⟩ u0).setCell ⟨B,1,none⟩ u1).setCell ⟨B,2,none⟩ u2) s1 x1 n1 c1 f1 y1 m1 d1 g1 q :=
 ⟨⟨S.rd h.num.rd,h.num.lm,h.num.wf,h.num.cap,h.num.nil,h.num.val⟩,⟨S.rd h.den.rd,h.den.lm,h.den.wf,h.den.cap,h.den.nil,h.den.val⟩,h.ln,h.ld⟩
theorem Sx.st {w B s x n c y m d s1 x1 n1 c1 y1 m1 d1} (S:Sx w B s x n c y m d):Sx (((w.setCell ⟨B,0,none⟩ (.bool s1)).setCell ⟨B,1,none⟩ (slice x1 n1 c1)).setCell ⟨B,2,none⟩ (slice y1 m1 d1)) B s1 x1 n1 c1 y1 m1 d1:=by
 have e0:=kI0 S.x0;have e1:=kI0 S.x1;have e2:=kI0 S.x2
 exact⟨by simpa[World.setCell]using S.z,kCo (by decide) (kCo (by decide) (kCe e0)),kCo (by decide) (kCe (kIs e1)),kCe (kIs (kIs e2)),λo=>kFs (kFs (kFs (S.fz o)))⟩
theorem Ob.far3 {w A B u0 u1 u2} (h:Ob w A) (hAB:B≠A):Ob (((w.setCell ⟨B,0,none⟩ u0).setCell ⟨B,1,none⟩ u1).setCell ⟨B,2,none⟩ u2) A :=
 ⟨by simpa[World.setCell]using h.z,kCs hAB (kCs hAB (kCs hAB h.z0)),kCs hAB (kCs hAB (kCs hAB h.z1)),kCs hAB (kCs hAB (kCs hAB h.z2)),λo=>kFs (kFs (kFs (h.zf o)))⟩
structure Rd1 (K:Nat) (w wy:World) (B:Nat) (s:Bool) (x:Option Addr) (n c:Nat) (f:Nat->Int) (y:Option Addr) (m d:Nat) (g:Nat->Int) (q:Rat):Prop where
 bel:Bl w wy
 sx:Sx wy B s x n c y m d
 ob:Ob wy w.heap.size
 rn:Rn K wy s x n c f y m d g q
theorem ziU {K B w w6 s x n c y m d s1 x1 n1 c1 f1 y1 m1 d1 g1 q} (hb:Bl w w6) (S:Sx w6 B s x n c y m d) (O:Ob w6 w.heap.size) (h:Rn K w6 s1 x1 n1 c1 f1 y1 m1 d1 g1 q) (hB:w.heap.size<B):Rd1 K w (((w6.setCell ⟨B,0,none⟩ (.bool s1)).setCell ⟨B,1,none⟩ (slice x1 n1 c1)).setCell ⟨B,2,none⟩ (slice y1 m1 d1)) B s1 x1 n1 c1 f1 y1 m1 d1 g1 q :=
 ⟨zU hb (by omega),S.st,O.far3 (by omega),S.rn h⟩
def atq (z:Int):List (Int × Rat)->Rat
 | []=>0
 | (a,q) :: v=>if a=z then q else atq z v
def zsC (n:Nat) (v:List (Int × Rat)):List Rat:=(List.range n).map (λ(j:Nat)=>atq (j:Int) v)
theorem zaR:(prog.info? 24).map (λi=>(i.zero,i.size,i.bytes))=some (some (agg #[.bool false,slice none 0 0,slice none 0 0]),3,56):=by kernel_rfl
theorem Rn.nm {L w q t} (h:Rn L w t.s t.x t.n t.c t.f t.y t.m t.d t.g q) (hL:L<=65536):NmR w t/\nfB t=true :=
 ⟨⟨h.rw,le_trans h.ln hL,le_trans h.ld hL⟩,h.rf⟩
theorem zqO {col T}:∀{r i:Nat} {last:Int},(∀j,i<=j->j<i+r->nfB (T j)=true/\0<(T j).n)->(∀j,i<=j->j+1<i+r->col j<col (j+1))->(0<r->last<col i)->tfr col T r i last=true:=by
 intro r
 induction r with
 | zero=>intro i last _ _ _;rfl
 | succ r ih =>
  intro i last h1 h2 h3;simp only[tfr,Bool.and_eq_true,decide_eq_true_eq];exact⟨h3 (by omega),(h1 i (by omega) (by omega)).1,(h1 i (by omega) (by omega)).2,ih (λj a b=>h1 j (by omega) (by omega)) (λj a b=>h2 j (by omega) (by omega)) (λh=>h2 i (by omega) (by omega))⟩
theorem zod {X}:∀{r i:Nat},(∀j,i<=j->j<i+r->nfB (X j)=true)->afr X r i=true:=by
 intro r
 induction r with
 | zero=>intro i _;rfl
 | succ r ih =>
  intro i h;simp only[afr,Bool.and_eq_true];exact⟨h i (by omega) (by omega),ih (λj a b=>h j (by omega) (by omega))⟩
structure Rk (w:World) (B n:Nat):Prop where
 z:B<w.heap.size
 has:∀o,o<n*3->∃u,w.cell? ⟨B,o,none⟩=some u/\∀i,u≠Value.int .u64 i
 fz:∀o,w.frozen? ⟨B,o,none⟩=false
theorem Rk.q_ {w w' B n} (h:Rk w B n) (hb:Bl w w'):Rk w' B n:=by
 obtain⟨_,h2⟩:=zaH hb;exact⟨Nat.lt_of_lt_of_le h.z hb.size,λo ho=>by obtain⟨u,h3,h4⟩:=h.has o ho;exact⟨u,kCb hb h3,h4⟩,λo=>(h2 _ _ h.z).trans (h.fz o)⟩
theorem Rk.set {w B n o u} (h:Rk w B n) (hu:∀i,u≠Value.int .u64 i):Rk (w.setCell ⟨B,o,none⟩ u) B n :=
 ⟨by simpa[World.setCell]using h.z,λo' ho'=>by
  obtain⟨u',h1,h2⟩:=h.has o' ho';by_cases e:o=o'
  ·subst e;exact⟨u,kCe (kI0 h1),hu⟩
  ·exact⟨u',kCo e h1,h2⟩,λo'=>kFs (h.fz o')⟩
theorem Rk.rd {w B n o u a k f} (h:Rk w B n) (ho:o<n*3) (hx:Rd .u64 w a k f):Rd .u64 (w.setCell ⟨B,o,none⟩ u) a k f:=by
 obtain⟨u',h1,h2⟩:=h.has o ho;exact zay h1 h2 hx
theorem znZ {w0 w B o u0 u1 u2} (hw:Bl w0 w) (hB:w0.heap.size<=B) :
  Bl w0 (((w.setCell ⟨B,o,none⟩ u0).setCell ⟨B,o+1,none⟩ u1).setCell ⟨B,o+2,none⟩ u2) :=
 zL hw hw.size ((((Turned.refl w0.heap.size (B+1) w).set (x:=⟨B,o,none⟩) hB (by simp) _).set (x:=⟨B,o+1,none⟩) hB (by simp) _).set (x:=⟨B,o+2,none⟩) hB (by simp) _) (le_refl _)
def OD (z:Int) (fv fb:Bool) (L:Nat) (w':World) (ao:Option Addr) (n cap:Nat) (er:Int) (v:List (Int × Rat)):Prop :=
 ((z<0∨64<z)/\er=1/\ao=none/\n=0/\cap=0)∨(0<=z/\z<=64/\fv=false/\er=3/\ao=none/\n=0/\cap=0)∨(0<=z/\z<=64/\fv=true/\fb=false/\er=7/\ao=none/\n=0/\cap=0)∨(0<=z/\z<=64/\fv=true/\fb=true/\er=0/\(n:Int)=z/\cap=n/\ao≠none/\Rf L w' ao (zsC n v))
theorem zrb (W:World):Calls prog 64 #[.int .i64 0] W λe w'=>zcq 4 W w' e 0:=by
 have h:=zkf (w:=W) (z:=0) (by decide) (by decide);simpa using h
theorem Rf.mono {L L' w ao p} (h:Rf L w ao p) (hL:L<=L'):Rf L' w ao p:=λj q hj=>by
 obtain⟨b,o,t,e,h1,h2⟩:=h j q hj;exact⟨b,o,t,e,h1,h2.mono hL⟩
def rcell (t:Nm):List Value:=[.bool t.s,slice t.x t.n t.c,slice t.y t.m t.d]
def rcells (l:List Nm):List Value:=l.flatMap rcell
theorem ziV {l j t} (h:l[j]?=some t) (i:Nat) (hi:i<3):(rcells l)[j*3+i]?=(rcell t)[i]?:=by
 induction l generalizing j with
 | nil=>simp at h
 | cons u l ih =>
  have e:rcells (u :: l)=rcell u++rcells l:=by simp[rcells]
  rw[e];cases j with
  | zero =>
   simp at h;subst h
   rw[Nat.zero_mul,zero_add,List.getElem?_append_left (by show i<3;exact hi)]
  | succ j =>
   rw[List.getElem?_append_right (by show 3<=_;omega),show(j+1)*3+i-(rcell u).length=j*3+i by show(j+1)*3+i-3=_;omega];exact ih (by simpa using h)
theorem zfM {P} (w:World) {ops o a K Q E} (hgd:o.guard=none) (s x:Operand) (t:TypeId) (ho:o.op=.call { callee:=.builtin .append,args:=#[s,x],argTypes:=#[t,t] }) (base:Nat) (e:TypeId) (i:TypeInfo) (z:Value) (size bytes:Nat) (ht:P.underlying t=some (.slice e)) (hi:P.info? e=some i) (hz:i.zero=some z) (hsize:i.size=size) (hby:i.bytes=bytes) (hzs:z.cells.size=size) (hsz:0<size) (hzu:NoU z.cells) (v:Value) (n:Nat) (xs:List Value) (hs:a.eval s=v) (hown:RowG e size base w v n xs) (ad:Addr) (m c:Nat) (news:List Value) (hx:a.eval x=slice (some ad) m c) (hl:news.length=m*size) (hnews:∀j u,news[j]?=some u->w.cell? (ad.add j)=some u) (h1:∀u ∈ news,u.oneCell'=true) (hnu:∀u ∈ news,∀z,u≠.int .u64 z) (hm0:0<m) (h63:n+m<=maxLen) (hbytes:(n+m)*bytes<=140737488355328) (hbase:base<=w.heap.size) (hK:∀g cap' w',RowG e size base w' (slice (some ⟨g,0,none⟩) (n+m) cap') (n+m) (xs++news)->w.grownBy w' v.ownBlock->Kp w w'->K (a.put o.dst (slice (some ⟨g,0,none⟩) (n+m) cap')) w'):if Region.wanted o (yielded ops a.tmps)=true then Oper.wp P o a w K Q else E:=by
 subst hsize;subst hby
 obtain⟨v',w',hrun,h1',h2',h3'⟩:=run_append_own (P:=P) w base t o.type e i z i.size i.bytes ht hi hz rfl rfl hzs hsz v n xs hown.owns ad m c news hl hnews h1 h63 hbytes hbase;have hlen:(xs++news).length=(n+m)*i.size:=by rw[List.length_append,hown.1,hl,Nat.add_mul]
 have hzc:∀k,NoU (Builtin.zeroCells z.cells k):=by
  intro k j y hj;simp only[Builtin.zeroCells]at hj;have hm:=Array.mem_of_getElem? hj;obtain⟨q,_,he⟩:=Array.mem_map.1 hm;have hlt:q%z.cells.size<z.cells.size:=Nat.mod_lt _ (by omega);rw[getElem!_pos z.cells (q%z.cells.size) hlt]at he
  exact hzu (q%z.cells.size) y (by rw[Array.getElem?_eq_getElem hlt,he])
 have hnu':NoU news.toArray:=zaa hnu;have hw:∃g cap' cur',v'=slice (some ⟨g,0,none⟩) (n+m) cap'/\base<=g/\w'.heap[g]?=some (cells cur' e (0,0))/\n+m<=cap'/\cap'<=maxLen/\cur'.size=cap'*i.size/\cur'.toList.take ((n+m)*i.size)=xs++news/\NoU cur'/\Kp w w':=by
  have hsm:n+m<=9223372036854775807:=by unfold maxLen at h63;omega
  rcases h1'.2 with⟨hv0,hn0⟩|⟨g',cap',cur',hv',hb',hg',hn',hc',hs',ht'⟩
  ·omega
  ·refine⟨g',cap',cur',hv',hb',hg',hn',hc',hs',ht',?_⟩;rcases hown.2 with⟨rfl,rfl⟩|⟨g,cap,cur,rfl,hbg,hg,hnc,hcm,hcs,htake,hnuc⟩
   ·have hx0:xs=[]:=List.eq_nil_of_length_eq_zero (by simpa using hown.1);subst hx0;have e1:=run_append_nil (P:=P) w t o.type e i z ht hi hz ad m c news hl hnews hm0 (by omega) (by rw[zero_add]at hbytes;omega);rw[e1]at hrun
    injection hrun with e2 e3;subst e3;rw[hv']at e2
    injection e2 with e4;injection e4 with e5;injection e5 with e6;subst e6;have e7:=heap_alloc_new w.drew (cells (news.toArray++Builtin.zeroCells z.cells (grownCap w m 0 e-m)) e);rw[show w.heap.size=w.drew.heap.size from rfl,e7]at hg'
    injection hg' with e8;injection e8 with e9;rw[<-e9];exact⟨zan hnu' (hzc _),(Kp.refl w).drew.alloc _⟩
   ·by_cases hroom:n+m<=cap
    ·have e1:=run_append_room (P:=P) w t o.type e i ht hi g n cap cur hg ad m c news hl hnews h1 hroom (by rw[hl,hcs,<-Nat.add_mul];exact Nat.mul_le_mul_right _ hroom);rw[e1]at hrun
     injection hrun with e2 e3;rw[hv']at e2
     injection e2 with e4;injection e4 with e5;injection e5 with e6;subst e6;have e7:w'.heap[g]?=some (cells (cur.toList.take (n*i.size)++news++cur.toList.drop (n*i.size+news.length)).toArray e (0,0)):=by rw[<-e3];exact setRow_heap w g cur _ e _ hg
     rw[e7]at hg'
     injection hg' with e8;injection e8 with e9;rw[<-e9];refine⟨zaa ?_,h2'.os,h2'.tape,h2'.output,h2'.size,λk hk=>?_⟩
     ·intro u hu;rcases List.mem_append.1 hu with hu|hu
      ·rcases List.mem_append.1 hu with hu|hu
       ·exact zbb hnuc u (List.mem_of_mem_take hu)
       ·exact hnu u hu
      ·exact zbb hnuc u (List.mem_of_mem_drop hu)
     ·by_cases hkg:k=g
      ·subst hkg;exact .inr ⟨cur,e,(0,0),hg,hnuc⟩
      ·exact .inl (h2'.block k hk (λe=>hkg (by simpa[Value.ownBlock]using e)))
    ·have holds:∀j u,xs[j]?=some u->w.cell? ((⟨g,0,none⟩:Addr).add j)=some u:=World.ownsRow.cells hown.owns (g:=g) rfl;have e1:=run_append_grow (P:=P) w t o.type e i z ht hi hz ⟨g,0,none⟩ n cap xs hown.1 holds ad m c news hl hnews (by omega) (by omega) (growslice_fits (by omega) hbytes);rw[e1]at hrun
     injection hrun with e2 e3;subst e3;rw[hv']at e2
     injection e2 with e4;injection e4 with e5;injection e5 with e6;subst e6;have e7:=heap_alloc_new w.drew (cells (xs.toArray++news.toArray++Builtin.zeroCells z.cells (grownCap w (n+m) cap e-(n+m))) e);rw[show w.heap.size=w.drew.heap.size from rfl,e7]at hg'
     injection hg' with e8;injection e8 with e9;rw[<-e9];refine⟨zan (zan (zaa ?_) hnu') (hzc _),(Kp.refl w).drew.alloc _⟩;intro u hu;rw[<-htake]at hu
     exact zbb hnuc u (List.mem_of_mem_take hu)
 obtain⟨g,cap',cur',rfl,a1,a2,a3,a4,a5,a6,a7,a8⟩:=hw;have hwt:Region.wanted o (yielded ops a.tmps)=true:=by simp[Region.wanted,hgd]
 rw[if_pos hwt];unfold Oper.wp execOp;simp only[ho,resolve,invoke,builtin,Sem.run_bind,Sem.run_pure,Result.andThen_ok,List.map_toArray,List.map_cons,List.map_nil,hs,hx,hrun];exact hK g cap' w' ⟨hlen,.inr ⟨g,cap',cur',rfl,a1,a2,a3,a4,a5,a6,a7⟩⟩ h2' a8
theorem zaY {P} (w0:World) {ops o a K Q E} (hgd:o.guard=none) (s x:Operand) (t:TypeId) (ho:o.op=.call { callee:=.builtin .append,args:=#[s,x],argTypes:=#[t,t] }) (base:Nat) (e:TypeId) (bytes sz:Nat) (z:Value) (ht:P.underlying t=some (.slice e)) (hi:(P.info? e).map (λi=>(i.zero,i.size,i.bytes))=some (some z,sz,bytes)) (hzs:z.cells.size=sz) (hsz:0<sz) (hzu:NoU z.cells) (v:Value) (n:Nat) (xs:List Value) (hs:a.eval s=v) (hown:RowG e sz base w0 v n xs) (c:Array Value) (hx:a.eval x=slice (some ⟨w0.heap.size,0,none⟩) 1 1) (hc:c.size=sz) (h1:∀u ∈ c.toList,u.oneCell'=true) (hnu:∀u ∈ c.toList,∀q,u≠.int .u64 q) (hn:n<=1000000) (hby:bytes<=1000) (hbase:base<=w0.heap.size) (hK:∀g cap' w',RowG e sz base w' (slice (some ⟨g,0,none⟩) (n+1) cap') (n+1) (xs++c.toList)->Kp w0 w'->(∀b0:World,Bl b0 w0->b0.heap.size<=base->Bl b0 w')->(∀k,k<w0.heap.size->v.ownBlock≠some k->w'.heap[k]?=w0.heap[k]?)->K (a.put o.dst (slice (some ⟨g,0,none⟩) (n+1) cap')) w'):if Region.wanted o (yielded ops a.tmps)=true then Oper.wp P o a (w0.alloc (cells c e)) K Q else E:=by
 obtain⟨i,hi,hz0,hz1,hz2⟩:=info_parts hi;have hal:=zB w0 (cells c e);have hblk:=heap_alloc_new w0 (cells c e);have hrow:=hown.q_ hal;refine zfM (w0.alloc (cells c e)) hgd s x t ho base e i z sz bytes ht hi hz0 hz1 hz2 hzs hsz hzu v n xs hs hrow ⟨w0.heap.size,0,none⟩ 1 1 c.toList hx (by simp[hc]) (λj u hu=>?_) h1 hnu (by decide) (by unfold maxLen;omega) ?_ (by simp;omega) ?_
 ·rw[addr_add,zero_add];simp only[World.cell?,hblk];simpa using hu
 ·have:(n+1)*bytes<=1000001*1000:=Nat.mul_le_mul (by omega) hby;omega
 ·intro g cap' w' hr hgr hkp;refine hK g cap' w' hr ((Kp.of_below hal).trans hkp) (λb0 hb hle=>?_) (λk hk hne=>(hgr.block k (by simp;omega) (λe=>hne e.symm)).trans (hal.block k hk));have h2:Bl b0 (w0.alloc (cells c e)):=bUp hb hal;exact h2.grown hgr (by have:=hb.size;simp;omega) (λk hk=>by have:=(hrow.lt k hk).1;omega)
theorem zO {P} (w0:World) {ops rest o a Q} (hgd:o.guard=none) (s x:Operand) (t:TypeId) (ho:o.op=.call { callee:=.builtin .append,args:=#[s,x],argTypes:=#[t,t] }) (base:Nat) (e:TypeId) (bytes sz:Nat) (z:Value) (ht:P.underlying t=some (.slice e)) (hi:(P.info? e).map (λi=>(i.zero,i.size,i.bytes))=some (some z,sz,bytes)) (hzs:z.cells.size=sz) (hsz:0<sz) (hzu:NoU z.cells) (v:Value) (n:Nat) (xs:List Value) (hs:a.eval s=v) (hown:RowG e sz base w0 v n xs) (c:Array Value) (hx:a.eval x=slice (some ⟨w0.heap.size,0,none⟩) 1 1) (hc:c.size=sz) (h1:∀u ∈ c.toList,u.oneCell'=true) (hnu:∀u ∈ c.toList,∀q,u≠.int .u64 q) (hn:n<=1000000) (hby:bytes<=1000) (hbase:base<=w0.heap.size) (hK:∀g cap' w',RowG e sz base w' (slice (some ⟨g,0,none⟩) (n+1) cap') (n+1) (xs++c.toList)->Kp w0 w'->(∀b0:World,Bl b0 w0->b0.heap.size<=base->Bl b0 w')->(∀k,k<w0.heap.size->v.ownBlock≠some k->w'.heap[k]?=w0.heap[k]?)->wpList P ops Q rest (a.put o.dst (slice (some ⟨g,0,none⟩) (n+1) cap')) w'):wpList P ops Q (o :: rest) a (w0.alloc (cells c e)):=by
 obtain⟨i,hi,hz0,hz1,hz2⟩:=info_parts hi;have hal:=zB w0 (cells c e);have hblk:=heap_alloc_new w0 (cells c e);have hrow:=hown.q_ hal;refine zep (w0.alloc (cells c e)) hgd s x t ho base e i z sz bytes ht hi hz0 hz1 hz2 hzs hsz hzu v n xs hs hrow ⟨w0.heap.size,0,none⟩ 1 1 c.toList hx (by simp[hc]) (λj u hu=>?_) h1 hnu (by decide) (by unfold maxLen;omega) ?_ (by simp;omega) ?_
 ·rw[addr_add,zero_add];simp only[World.cell?,hblk];simpa using hu
 ·have:(n+1)*bytes<=1000001*1000:=Nat.mul_le_mul (by omega) hby;omega
 ·intro g cap' w' hr hgr hkp;refine hK g cap' w' hr ((Kp.of_below hal).trans hkp) (λb0 hb hle=>?_) (λk hk hne=>(hgr.block k (by simp;omega) (λe=>hne e.symm)).trans (hal.block k hk));have h2:Bl b0 (w0.alloc (cells c e)):=bUp hb hal;exact h2.grown hgr (by have:=hb.size;simp;omega) (λk hk=>by have:=(hrow.lt k hk).1;omega)
theorem zpj (z:Int) (s:Bool) (x:Option Addr) (n c:Nat) (y:Option Addr) (m d:Nat):∀u ∈ (#[Value.int .i64 z,.bool s,slice x n c,slice y m d]:Array Value).toList,u.oneCell'=true:=by
 intro u hu;simp at hu;rcases hu with rfl|rfl|rfl|rfl <;> rfl
theorem zlt (z:Int) (s:Bool) (x:Option Addr) (n c:Nat) (y:Option Addr) (m d:Nat):∀u ∈ (#[Value.int .i64 z,.bool s,slice x n c,slice y m d]:Array Value).toList,∀q,u≠.int .u64 q:=by
 intro u hu q;simp at hu;rcases hu with rfl|rfl|rfl|rfl <;> simp
theorem zdo (s:Bool) (x:Option Addr) (n c:Nat) (y:Option Addr) (m d:Nat):∀u ∈ (#[Value.bool s,slice x n c,slice y m d]:Array Value).toList,u.oneCell'=true:=by
 intro u hu;simp at hu;rcases hu with rfl|rfl|rfl <;> rfl
theorem zcB (s:Bool) (x:Option Addr) (n c:Nat) (y:Option Addr) (m d:Nat):∀u ∈ (#[Value.bool s,slice x n c,slice y m d]:Array Value).toList,∀q,u≠.int .u64 q:=by
 intro u hu q;simp at hu;rcases hu with rfl|rfl|rfl <;> simp
theorem nz4:NoU (Value.agg #[.int .i64 0,.bool false,slice none 0 0,slice none 0 0]).cells:=zaa (l:=[Value.int .i64 0,.bool false,slice none 0 0,slice none 0 0]) (zlt 0 false none 0 0 none 0 0)
theorem nz3:NoU (Value.agg #[.bool false,slice none 0 0,slice none 0 0]).cells:=zaa (l:=[Value.bool false,slice none 0 0,slice none 0 0]) (zcB false none 0 0 none 0 0)
theorem Rw.kp {w w' x n c f y m d g} (h:Rw w x n c f y m d g) (hk:Kp w w'):Rw w' x n c f y m d g:=⟨h.rx.kp hk,h.lx,h.cx,h.nx,h.ry.kp hk,h.ly,h.cy,h.ny⟩
def tls (i:Nat) (col:Nat->Int) (T:Nat->Nm):List (Int × Nm):=(List.range i).map (λj=>(col j,T j))
def zaD (T:Nat->Nm) (i:Nat) (t:Nm):Nat->Nm:=λj=>if j=i then t else T j
theorem zbs (T:Nat->Nm) (i:Nat) (t:Nm):zaD T i t i=t:=by simp[zaD]
theorem putN_ne {T i j t} (h:j≠i):zaD T i t j=T j:=by simp[zaD,h]
theorem zgy (i:Nat) (col:Nat->Int) (T:Nat->Nm) (t:Nm):zaL (tls (i+1) col (zaD T i t))=zaL (tls i col T)++zei (col i) t:=by
 have e:tls (i+1) col (zaD T i t)=tls i col T++[(col i,t)]:=by
  unfold tls;rw[List.range_succ,List.map_append,List.map_singleton,zbs]
  congr 1
  apply List.map_congr_left;intro j hj;rw[putN_ne (by have:=List.mem_range.1 hj;omega)]
 rw[e,zfL]
theorem zoJ {i j col T} (h:j<i):(tls i col T)[j]?=some (col j,T j):=by simp[tls,h]
def rls (i:Nat) (T:Nat->Nm):List Nm:=(List.range i).map T
theorem zcM (i:Nat) (T:Nat->Nm) (t:Nm):rcells (rls (i+1) (zaD T i t))=rcells (rls i T)++rcell t:=by
 have e:rls (i+1) (zaD T i t)=rls i T++[t]:=by
  unfold rls;rw[List.range_succ,List.map_append,List.map_singleton,zbs]
  congr 1
  apply List.map_congr_left;intro j hj;rw[putN_ne (by have:=List.mem_range.1 hj;omega)]
 rw[e];simp[rcells]
theorem zjZ {i j T} (h:j<i):(rls i T)[j]?=some (T j):=by simp[rls,h]
theorem zgE {e base i w ao cap col T} (h:RowG e 4 base w (slice ao i cap) i (zaL (tls i col T))) {j} (hj:j<i):∃b,ao=some ⟨b,0,none⟩/\C4 w b (0+j*4) (.int .i64 (col j)) (.bool (T j).s) (.slice (T j).x (T j).n (T j).c) (.slice (T j).y (T j).m (T j).d):=by
 rcases h.2 with⟨hv,h0⟩|⟨g,cap',cur,hv,_⟩
 ·omega
 ·cases hv
  have hc:∀q,q<4->w.cell? ⟨g,0+j*4+q,none⟩=(zei (col j) (T j))[q]?:=λq hq=>by
   rw[zero_add];have e1:=ziO (zoJ (col:=col) (T:=T) hj) q hq;obtain⟨u,hu⟩:∃u,(zei (col j) (T j))[q]?=some u:=⟨_,List.getElem?_eq_getElem (by show q<4;exact hq)⟩;rw[hu]at e1 ⊢
   exact h.cells e1
  exact⟨g,rfl,⟨hc 0 (by decide),hc 1 (by decide),hc 2 (by decide),hc 3 (by decide)⟩⟩
theorem zcf {e base i w ao cap T} (h:RowG e 3 base w (slice ao i cap) i (rcells (rls i T))) {j} (hj:j<i):∃b,ao=some ⟨b,0,none⟩/\C3 w b (0+j*3) (.bool (T j).s) (.slice (T j).x (T j).n (T j).c) (.slice (T j).y (T j).m (T j).d):=by
 rcases h.2 with⟨hv,h0⟩|⟨g,cap',cur,hv,_⟩
 ·omega
 ·cases hv
  have hc:∀q,q<3->w.cell? ⟨g,0+j*3+q,none⟩=(rcell (T j))[q]?:=λq hq=>by
   rw[zero_add];have e1:=ziV (zjZ (T:=T) hj) q hq;obtain⟨u,hu⟩:∃u,(rcell (T j))[q]?=some u:=⟨_,List.getElem?_eq_getElem (by show q<3;exact hq)⟩;rw[hu]at e1 ⊢
   exact h.cells e1
  exact⟨g,rfl,⟨hc 0 (by decide),hc 1 (by decide),hc 2 (by decide)⟩⟩
theorem zku:(prog.info? 9).map (λi=>(i.zero,i.size,i.bytes))=some (some (.string .empty),1,16):=by kernel_rfl
theorem zsm (s:ByteArray):∀u ∈ (#[Value.string s]:Array Value).toList,u.oneCell'=true:=by
 intro u hu;simp at hu;subst hu;rfl
theorem zrm (s:ByteArray):∀u ∈ (#[Value.string s]:Array Value).toList,∀q,u≠.int .u64 q:=by
 intro u hu q;simp at hu;subst hu;simp
theorem nz1:NoU (Value.string .empty).cells:=zaa (l:=[Value.string .empty]) (zrm .empty)
def sls (S:Nat->ByteArray) (i:Nat):List Value:=(List.range i).map λj=>Value.string (S j)
theorem zhE (S:Nat->ByteArray) (i:Nat):sls S (i+1)=sls S i++[.string (S i)]:=by
 unfold sls;rw[List.range_succ,List.map_append,List.map_singleton]
theorem zjX {e base i w ao cap S} (h:RowG e 1 base w (slice ao i cap) i (sls S i)) (hs:∀j,j<i->(S j).size<=9223372036854775807):Sl w ao i S:=λj hj=>by
 rcases h.2 with⟨hv,h0⟩|⟨g,cap',cur,hv,_⟩
 ·omega
 ·cases hv
  refine⟨g,0,rfl,?_,hs j hj⟩;rw[zero_add];exact h.cells (by simp[sls,hj])
def zom (w w':World) (e:Ending) (M:Mo):Prop:=∃xa xc ya yc,e=returned (.tuple #[slice xa M.ck xc,slice ya M.rk yc])/\Bl w w'/\Sl w' xa M.ck (λj=>(M.C j).nm)/\Sl w' ya M.rk (λj=>(M.R j).nm)
theorem zpm {w M} (h:MoR w M) (hc64:M.ck<=1000) (hr64:M.rk<=1000):Calls prog 55 #[M.val] w λr w'=>zom w w' r M:=by
 obtain⟨⟨s,x,n,c,f,y,m,d,g⟩,ca,ck,cc,C,ra,rk,rc,R⟩:=M;obtain⟨ho,hC,hR,hck,hrk⟩:=h;replace hck:ck<=1000:=hc64;replace hrk:rk<=1000:=hr64;have HC:Hid (Cls w ca ck C):=hC;have HRL:Hid (Rls w ra rk R):=hR;have HCN:=zk (show ∀j,j<ck->(C j).nm.size<=9223372036854775807 from λj hj=>by obtain⟨_,_,_,_,h2⟩:=hC j hj;exact h2.nm);have HRN:=zk (show ∀j,j<rk->(R j).nm.size<=9223372036854775807 from λj hj=>by obtain⟨_,_,_,_,h2⟩:=hR j hj;exact h2.nm);clear ho hC hR hc64 hr64;show Calls prog 55 #[agg #[.bool s,slice x n c,slice y m d,slice ca ck cc,slice ra rk rc]] w _;go_enter func55,ntmps55;go_wp2_with fail
 have HB1:=zk (zB w (cells #[.bool s,slice x n c,slice y m d,slice ca ck cc,slice ra rk rc] 28));have HK4:=zk (show(w.alloc (cells #[.bool s,slice x n c,slice y m d,slice ca ck cc,slice ra rk rc] 28)).cell? ⟨w.heap.size,4,none⟩=some (slice ra rk rc)from by simp[go_sem]);obtain⟨w1,hw1⟩:∃z,w.alloc (cells #[.bool s,slice x n c,slice y m d,slice ca ck cc,slice ra rk rc] 28)=z:=⟨_,rfl⟩;rw[hw1]at HB1 HK4 ⊢
 clear hw1;go_loopw[2,11] (λov t wr=>∃(i:Nat),i<=ck/\t=.int .i64 i/\Hid (Bl w1 wr)/\Hid (RowG 9 1 w1.heap.size wr ov i (sls (λj=>(C j).nm) i))) (λ_ t _=>ck-(intOf t).toNat)
 case atStart=>exact⟨0,by omega,rfl,Below.refl _ _,zak _ _ _ _⟩
 case round =>
  obtain⟨i,hi,rfl,HB,HRow⟩:=hrel;by_cases hlt:i<ck
  ·obtain⟨b,o,rfl,hc,hn⟩:=(HC.out.q_ (bUp HB1.out HB.out)) i hlt;obtain⟨⟨z,⟨s0,x0,n0,c0,f0,y0,m0,d0,g0⟩,⟨i1,⟨s1,x1,n1,c1,f1,y1,m1,d1,g1⟩⟩,⟨i2,⟨s2,x2,n2,c2,f2,y2,m2,d2,g2⟩⟩⟩,hCi⟩:∃t,C i=t:=⟨_,rfl⟩;rw[hCi]at hc
   obtain⟨q0,q1,q2,q3,q4,q5,q6,q7,q8,q9,q10,q11⟩:=hc.lc;have HZ:=zk (show(C i).nm=z from by rw[hCi]);have i1':((i:Nat):Int)<((ck:Nat):Int):=by omega
   have hb5:=zB wr (cells #[.string z,.bool s0,slice x0 n0 c0,slice y0 m0 d0,.int .i64 i1,.bool s1,slice x1 n1 c1,slice y1 m1 d1,.int .i64 i2,.bool s2,slice x2 n2 c2,slice y2 m2 d2] 60);have HRow5:=zk (HRow.out.q_ hb5);have HB5:=zJ HB hb5
   have k0:=(zF wr [.string z,.bool s0,slice x0 n0 c0,slice y0 m0 d0,.int .i64 i1,.bool s1,slice x1 n1 c1,slice y1 m1 d1,.int .i64 i2,.bool s2,slice x2 n2 c2,slice y2 m2 d2] 60).cell (j:=0) rfl;clear hCi hc hn hb5;go_upto_region 4 with fail
   clear q0 q1 q2 q3 q4 q5 q6 q7 q8 q9 q10 q11 HB HRow;generalize wr.alloc (cells #[.string z,.bool s0,slice x0 n0 c0,slice y0 m0 d0,.int .i64 i1,.bool s1,slice x1 n1 c1,slice y1 m1 d1,.int .i64 i2,.bool s2,slice x2 n2 c2,slice y2 m2 d2] 60)=w6 at *;have hsz:=HB5.out.size;go_wp2_with(at_builtin;go_must (refine zO w6 rfl (.tmp 15) (.tmp 18) 111 rfl w1.heap.size 9 16 1 (.string .empty) underlying111 zku rfl (by decide) nz1 u2 i (sls (λj=>(C j).nm) i) rfl HRow5.out #[.string z] rfl rfl (zsm _) (zrm _) ?p1 (by decide) hsz ?_))
   case p1=>omega
   intro g8 cap8 w8 hr8 hk8 hb8 hg8;have HB8:=zk (hb8 w1 HB5.out (le_refl _));have HR8:Hid (RowG 9 1 w1.heap.size w8 (slice (some ⟨g8,0,none⟩) (i+1) cap8) (i+1) (sls (λj=>(C j).nm) (i+1))):=by
    show RowG _ _ _ _ _ _ _;rw[zhE,HZ.out];exact hr8
   clear hr8 hk8 hb8 hg8 HRow5 HB5 hsz k0;go_wp2;go_roundw
   case rel=>exact⟨i+1,by omega,by go_num,HB8.out,HR8.out⟩
   case measure=>simp[intOf];omega
  ·have e1:i=ck:=by omega
   have i2:¬(((i:Nat):Int)<((ck:Nat):Int)):=by omega
   rw[e1]at HRow
   obtain⟨xa,xc,rfl⟩:=HRow.out.slice;have k4:=kCb HB.out HK4.out;have HB5:=zJ HB1 HB.out;have HSX:=zk (zjX HRow.out HCN.out);clear e1 HB HC HK4 HB1 HRow;generalize wr=wa at *;go_wp2_with fail
   go_loopw[3,24] (λov t wr=>∃(i:Nat),i<=rk/\t=.int .i64 i/\Hid (Bl wa wr)/\Hid (RowG 9 1 wa.heap.size wr ov i (sls (λj=>(R j).nm) i))) (λ_ t _=>rk-(intOf t).toNat)
   case atStart=>exact⟨0,by omega,rfl,Below.refl _ _,zak _ _ _ _⟩
   case round =>
    obtain⟨i,hi,rfl,HB,HRow⟩:=hrel;by_cases hlt:i<rk
    ·obtain⟨b,o,rfl,hc,hn⟩:=(HRL.out.q_ (bUp HB5.out HB.out)) i hlt;obtain⟨⟨z,⟨i1,⟨s1,x1,n1,c1,f1,y1,m1,d1,g1⟩⟩,⟨i2,⟨s2,x2,n2,c2,f2,y2,m2,d2,g2⟩⟩,ta,tk,tc,tcol,tt⟩,hCi⟩:∃t,R i=t:=⟨_,rfl⟩;rw[hCi]at hc
     obtain⟨q0,q1,q2,q3,q4,q5,q6,q7,q8,q9⟩:=hc.lr;have HZ:=zk (show(R i).nm=z from by rw[hCi]);have i1':((i:Nat):Int)<((rk:Nat):Int):=by omega
     have hb5:=zB wr (cells #[.string z,.int .i64 i1,.bool s1,slice x1 n1 c1,slice y1 m1 d1,.int .i64 i2,.bool s2,slice x2 n2 c2,slice y2 m2 d2,slice ta tk tc] 63);have HRow5:=zk (HRow.out.q_ hb5);have HB6:=zJ HB hb5
     have k0:=(zF wr [.string z,.int .i64 i1,.bool s1,slice x1 n1 c1,slice y1 m1 d1,.int .i64 i2,.bool s2,slice x2 n2 c2,slice y2 m2 d2,slice ta tk tc] 63).cell (j:=0) rfl;clear hCi hc hn hb5;go_upto_region 9 with fail
     clear q0 q1 q2 q3 q4 q5 q6 q7 q8 q9 HB HRow;generalize wr.alloc (cells #[.string z,.int .i64 i1,.bool s1,slice x1 n1 c1,slice y1 m1 d1,.int .i64 i2,.bool s2,slice x2 n2 c2,slice y2 m2 d2,slice ta tk tc] 63)=w6 at *;have hsz:=HB6.out.size;go_wp2_with(at_builtin;go_must (refine zO w6 rfl (.tmp 28) (.tmp 31) 111 rfl wa.heap.size 9 16 1 (.string .empty) underlying111 zku rfl (by decide) nz1 u3 i (sls (λj=>(R j).nm) i) rfl HRow5.out #[.string z] rfl rfl (zsm _) (zrm _) ?p1 (by decide) hsz ?_))
     case p1=>omega
     intro g8 cap8 w8 hr8 hk8 hb8 hg8;have HB8:=zk (hb8 wa HB6.out (le_refl _));have HR8:Hid (RowG 9 1 wa.heap.size w8 (slice (some ⟨g8,0,none⟩) (i+1) cap8) (i+1) (sls (λj=>(R j).nm) (i+1))):=by
      show RowG _ _ _ _ _ _ _;rw[zhE,HZ.out];exact hr8
     clear hr8 hk8 hb8 hg8 HRow5 HB6 hsz k0;go_wp2;go_roundw
     case rel=>exact⟨i+1,by omega,by go_num,HB8.out,HR8.out⟩
     case measure=>simp[intOf];omega
    ·have e1:i=rk:=by omega
     have i2:¬(((i:Nat):Int)<((rk:Nat):Int)):=by omega
     rw[e1]at HRow
     obtain⟨ya,yc,rfl⟩:=HRow.out.slice;have HB6:=zJ HB5 HB.out;have HSY:=zk (zjX HRow.out HRN.out);have HSX2:=zk (HSX.out.q_ HB.out);clear e1 HB HRow HSX;go_wp2
     go_ret2
     exact⟨xa,xc,ya,yc,rfl,HB6.out,HSX2.out,HSY.out⟩
def lastB (k:Nat) (r:Lr):Bool:=decide (r.tk=0) || decide (r.col (r.tk-1)<(k:Int))
def alB (k:Nat) (R:Nat->Lr):Nat->Nat->Bool
 | 0,_=>true
 | r+1,i=>lastB k (R i) && alB k R r (i+1)
theorem znn {w M} (h:MoR w M):Calls prog 59 #[M.val] w λr w'=>r=returned (.bool (alB M.ck M.R M.rk 0))/\Bl w w':=by
 obtain⟨⟨s,x,n,c,f,y,m,d,g⟩,ca,ck,cc,C,ra,rk,rc,R⟩:=M;obtain⟨ho,hC,hR,hck,hrk⟩:=h;replace hck:ck<=1048576:=hck;replace hrk:rk<=1048576:=hrk;have HRL:Hid (Rls w ra rk R):=hR;clear ho hC hR;show Calls prog 59 #[agg #[.bool s,slice x n c,slice y m d,slice ca ck cc,slice ra rk rc]] w λr w'=>r=returned (.bool (alB ck R rk 0))/\Bl w w'
 obtain⟨ans,hans⟩:∃z,alB ck R rk 0=z:=⟨_,rfl⟩;rw[hans];have HF:=zk hans;clear hans;go_enter func59,ntmps59;go_wp2_with fail
 have HB1:=zk (zB w (cells #[.bool s,slice x n c,slice y m d,slice ca ck cc,slice ra rk rc] 28));have HK3:=zk (show(w.alloc (cells #[.bool s,slice x n c,slice y m d,slice ca ck cc,slice ra rk rc] 28)).cell? ⟨w.heap.size,3,none⟩=some (slice ca ck cc)from by simp[go_sem]);obtain⟨w1,hw1⟩:∃z,w.alloc (cells #[.bool s,slice x n c,slice y m d,slice ca ck cc,slice ra rk rc] 28)=z:=⟨_,rfl⟩;rw[hw1]at HB1 HK3 ⊢
 clear hw1;go_loopw[9] (λt wr=>∃(i:Nat),i<=rk/\t=.int .i64 i/\Hid (Bl w1 wr)/\Hid (ans=alB ck R (rk-i) i)) (λt _=>rk-(intOf t).toNat)
 case atStart=>exact⟨0,by omega,rfl,Below.refl _ _,HF.out.symm⟩
 case round =>
  obtain⟨i,hi,rfl,HB,HI⟩:=hrel;by_cases hlt:i<rk
  ·obtain⟨b,o,rfl,hc,hn⟩:=(HRL.out.q_ (bUp HB1.out HB.out)) i hlt;obtain⟨r,hr⟩:∃r,rk-i=r+1:=⟨rk-i-1,by omega⟩;have hT:ans=(lastB ck (R i) && alB ck R r (i+1)):=by rw[HI.out,hr];rfl
   have hr2:rk-(i+1)=r:=by omega
   obtain⟨⟨z,⟨i1,⟨s1,x1,n1,c1,f1,y1,m1,d1,g1⟩⟩,⟨i2,⟨s2,x2,n2,c2,f2,y2,m2,d2,g2⟩⟩,ta,tk,tc,tcol,tt⟩,hCi⟩:∃t,R i=t:=⟨_,rfl⟩;rw[hCi]at hc hT hn
   have hTl:Tl wr ta tk tcol tt:=hn.tl;have htk:tk<=1048576:=hn.tk;obtain⟨q0,q1,q2,q3,q4,q5,q6,q7,q8,q9⟩:=hc.lr;have HT:=zk hT;have HR:=zk hr2
   have i1':((i:Nat):Int)<((rk:Nat):Int):=by omega
   have hb5:=zB wr (cells #[.string z,.int .i64 i1,.bool s1,slice x1 n1 c1,slice y1 m1 d1,.int .i64 i2,.bool s2,slice x2 n2 c2,slice y2 m2 d2,slice ta tk tc] 63);have HB5:=zJ HB hb5;have HTL:=zk (hTl.q_ hb5);obtain⟨-,-,-,-,-,-,-,-,-,k9⟩:=zef (zF wr [.string z,.int .i64 i1,.bool s1,slice x1 n1 c1,slice y1 m1 d1,.int .i64 i2,.bool s2,slice x2 n2 c2,slice y2 m2 d2,slice ta tk tc] 63);have k3:=kCb HB5.out HK3.out;clear hCi hc hn hb5 hT hr2 hr hTl;go_upto_region 4 with fail
   clear q0 q1 q2 q3 q4 q5 q6 q7 q8 q9 HB HI;generalize wr.alloc (cells #[.string z,.int .i64 i1,.bool s1,slice x1 n1 c1,slice y1 m1 d1,.int .i64 i2,.bool s2,slice x2 n2 c2,slice y2 m2 d2,slice ta tk tc] 63)=w6 at *;rcases Nat.eq_zero_or_pos tk with h0|h0
   ·subst h0;have HL:=zk (show lastB ck ⟨z,⟨i1,⟨s1,x1,n1,c1,f1,y1,m1,d1,g1⟩⟩,⟨i2,⟨s2,x2,n2,c2,f2,y2,m2,d2,g2⟩⟩,ta,0,tc,tcol,tt⟩=true from by simp[lastB]);go_upto_region 5 with fail
    have k9':w6.drew.cell? ⟨wr.heap.size,9,none⟩=some (slice ta 0 tc):=k9;have k3':w6.drew.cell? ⟨w.heap.size,3,none⟩=some (slice ca ck cc):=k3
    go_quiet (fail)
    go_wp2;go_roundw
    case rel =>
     refine⟨i+1,by omega,by go_num,⟨HB5.out.os,HB5.out.tape,HB5.out.output,HB5.out.size,HB5.out.block⟩,?_⟩;show _=_;rw[HT.out,HL.out,HR.out];rfl
    case measure=>simp[intOf];omega
   ·obtain⟨j,rfl⟩:∃j,tk=j+1:=⟨tk-1,by omega⟩;obtain⟨tb,tq,rfl,⟨t0,_,_,_⟩,_⟩:=HTL.out j (by omega);obtain⟨v,hv⟩:∃v,tcol j=v:=⟨_,rfl⟩;rw[hv]at t0
    have hg0:decide ((((j+1:Nat):Int)) > 0)=true:=by simp
    have hsub:((j+1:Nat):Int)-1=((j:Nat):Int):=by omega
    by_cases hvk:v<(ck:Int)
    ·have HL:=zk (show lastB ck ⟨z,⟨i1,⟨s1,x1,n1,c1,f1,y1,m1,d1,g1⟩⟩,⟨i2,⟨s2,x2,n2,c2,f2,y2,m2,d2,g2⟩⟩,some ⟨tb,tq,none⟩,j+1,tc,tcol,tt⟩=true from by simp[lastB,hv,hvk]);have hd:decide (v ≥ (ck:Int))=false:=by simp;omega
     go_upto_region 5 with fail
     have k9':w6.drew.cell? ⟨wr.heap.size,9,none⟩=some (slice (some ⟨tb,tq,none⟩) (j+1) tc):=k9;have k3':w6.drew.cell? ⟨w.heap.size,3,none⟩=some (slice ca ck cc):=k3;have t0':w6.drew.cell? ⟨tb,tq+j*4,none⟩=some (.int .i64 v):=t0
     go_quiet (fail)
     go_wp2;go_roundw
     case rel =>
      refine⟨i+1,by omega,by go_num,⟨HB5.out.os,HB5.out.tape,HB5.out.output,HB5.out.size,HB5.out.block⟩,?_⟩;show _=_;rw[HT.out,HL.out,HR.out];rfl
     case measure=>simp[intOf];omega
    ·have HL:=zk (show lastB ck ⟨z,⟨i1,⟨s1,x1,n1,c1,f1,y1,m1,d1,g1⟩⟩,⟨i2,⟨s2,x2,n2,c2,f2,y2,m2,d2,g2⟩⟩,some ⟨tb,tq,none⟩,j+1,tc,tcol,tt⟩=false from by simp[lastB,hv];omega);have hd:decide (v ≥ (ck:Int))=true:=by simp;omega
     go_upto_region 5 with fail
     have k9':w6.drew.cell? ⟨wr.heap.size,9,none⟩=some (slice (some ⟨tb,tq,none⟩) (j+1) tc):=k9;have k3':w6.drew.cell? ⟨w.heap.size,3,none⟩=some (slice ca ck cc):=k3;have t0':w6.drew.cell? ⟨tb,tq+j*4,none⟩=some (.int .i64 v):=t0
     go_quiet (fail)
     go_wp2;go_ret;have HB7:=bUp HB1.out HB5.out;refine⟨?_,⟨HB7.os,HB7.tape,HB7.output,HB7.size,HB7.block⟩⟩;rw[HT.out,HL.out];rfl
  ·have e1:i=rk:=by omega
   have HE:Hid (ans=true):=by show _=_;rw[HI.out,e1,sub_self];rfl
   have i2:¬(((i:Nat):Int)<((rk:Nat):Int)):=by omega
   have HB5:=zJ HB1 HB.out;clear e1 HI HB;go_wp2;go_ret;refine⟨?_,HB5.out⟩;rw[HE.out];rfl
def ziw (l t1 t2 t3 t4 t5 t6:Bool):Int:=if l then 2 else if !t1 then 3 else if !(t2 && t3) then 5 else if t4 || t5 then 6 else if !t6 then 7 else 0
def zaF (M:Mo):Int:=ziw (decide (64<M.ck) || decide (64<M.rk)) (moF M) (nms (λj=>(M.C j).nm) M.ck 0) (nms (λj=>(M.R j).nm) M.rk 0) (twr (λj=>(M.C j).nm) M.ck 0) (twr (λj=>(M.R j).nm) M.rk 0) (alB M.ck M.R M.rk 0)
theorem zpQ {w M} (h:MoR w M):Calls prog 29 #[M.val] w λr w'=>r=returned (.int .i64 (zaF M))/\Bl w w':=by
 have hck:=h.ck;have hrk:=h.rk
 have CN:=zk (λw' (hw:Bl w w') (h1:M.ck<=1000) (h2:M.rk<=1000)=>zpm (w:=w') (h.q_ hw) h1 h2);have CI:=zk (λw' (hw:Bl w w')=>znx (w:=w') (h.q_ hw));have CL:=zk (λw' (hw:Bl w w')=>znn (w:=w') (h.q_ hw));obtain⟨t1,ht1⟩:∃z,moF M=z:=⟨_,rfl⟩;obtain⟨S,hS⟩:∃S:Nat->ByteArray,(λj=>(M.C j).nm)=S:=⟨_,rfl⟩;obtain⟨Z,hZ⟩:∃S:Nat->ByteArray,(λj=>(M.R j).nm)=S:=⟨_,rfl⟩;obtain⟨t2,ht2⟩:∃z,nms S M.ck 0=z:=⟨_,rfl⟩;obtain⟨t3,ht3⟩:∃z,nms Z M.rk 0=z:=⟨_,rfl⟩;obtain⟨t4,ht4⟩:∃z,twr S M.ck 0=z:=⟨_,rfl⟩;obtain⟨t5,ht5⟩:∃z,twr Z M.rk 0=z:=⟨_,rfl⟩;obtain⟨t6,ht6⟩:∃z,alB M.ck M.R M.rk 0=z:=⟨_,rfl⟩;obtain⟨ans,hans⟩:∃z,zaF M=z:=⟨_,rfl⟩;have hA:ans=ziw (decide (64<M.ck) || decide (64<M.rk)) t1 t2 t3 t4 t5 t6:=by rw[<-hans,zaF,hS,hZ,ht1,ht2,ht3,ht4,ht5,ht6]
 rw[hans];unfold zom at CN;rw[ht1]at CI
 rw[ht6]at CL
 rw[hS,hZ]at CN
 clear hans ht1 ht6 hS hZ h;obtain⟨⟨s,x,n,c,f,y,m,d,g⟩,ca,ck,cc,C,ra,rk,rc,R⟩:=M;replace hck:ck<=1048576:=hck;replace hrk:rk<=1048576:=hrk;have HA:Hid (ans=ziw (decide (64<ck) || decide (64<rk)) t1 t2 t3 t4 t5 t6):=hA;have H2:Hid (nms S ck 0=t2):=ht2;have H3:Hid (nms Z rk 0=t3):=ht3;have H4:Hid (twr S ck 0=t4):=ht4;have H5:Hid (twr Z rk 0=t5):=ht5;replace CN:Hid (∀w',Bl w w'->ck<=1000->rk<=1000->Calls prog 55 #[agg #[.bool s,slice x n c,slice y m d,slice ca ck cc,slice ra rk rc]] w' λe w2=>∃xa xc ya yc,e=returned (.tuple #[slice xa ck xc,slice ya rk yc])/\Bl w' w2/\Sl w2 xa ck S/\Sl w2 ya rk Z):=CN;replace CI:Hid (∀w',Bl w w'->Calls prog 56 #[agg #[.bool s,slice x n c,slice y m d,slice ca ck cc,slice ra rk rc]] w' λe w2=>e=returned (.bool t1)/\Bl w' w2):=CI;replace CL:Hid (∀w',Bl w w'->Calls prog 59 #[agg #[.bool s,slice x n c,slice y m d,slice ca ck cc,slice ra rk rc]] w' λe w2=>e=returned (.bool t6)/\Bl w' w2):=CL;clear hA ht2 ht3 ht4 ht5;show Calls prog 29 #[agg #[.bool s,slice x n c,slice y m d,slice ca ck cc,slice ra rk rc]] w _;by_cases h1:64<ck
 ·have HV:Hid (ans=2):=by show _=_;rw[HA.out];simp[ziw,h1]
  have e1:(ck:Int) > 64:=by omega
  clear HA h1;go_enter func29,ntmps29;go_wp2;go_ret;refine⟨?_,zu (Below.refl _ _) _⟩;rw[HV.out];rfl
 by_cases h2:64<rk
 ·have HV:Hid (ans=2):=by show _=_;rw[HA.out];simp[ziw,h2]
  have e1:¬(ck:Int) > 64:=by omega
  have e2:(rk:Int) > 64:=by omega
  clear HA h1 h2;go_enter func29,ntmps29;go_wp2;go_ret;refine⟨?_,zu (Below.refl _ _) _⟩;rw[HV.out];rfl
 have HV:Hid (ans=ziw false t1 t2 t3 t4 t5 t6):=by show _=_;rw[HA.out];simp[h1,h2]
 have e1:¬(ck:Int) > 64:=by omega
 have e2:¬(rk:Int) > 64:=by omega
 have l1:ck<=1000:=by omega
 have l2:rk<=1000:=by omega
 clear HA h1 h2;go_enter func29,ntmps29;go_wp2_with fail
 have HB:=zk (zB w (cells #[.bool s,slice x n c,slice y m d,slice ca ck cc,slice ra rk rc] 28));refine(CN.out _ HB.out l1 l2).mono ?_;rintro r w1 ⟨xa,xc,ya,yc,rfl,hb1,hSX,hSY⟩;have k0:=kCb hb1 (a:=⟨w.heap.size,0,none⟩) (v:=.bool s) (by simp[go_sem]);have k1:=kCb hb1 (a:=⟨w.heap.size,1,none⟩) (v:=slice x n c) (by simp[go_sem]);have k2:=kCb hb1 (a:=⟨w.heap.size,2,none⟩) (v:=slice y m d) (by simp[go_sem]);have k3:=kCb hb1 (a:=⟨w.heap.size,3,none⟩) (v:=slice ca ck cc) (by simp[go_sem]);have k4:=kCb hb1 (a:=⟨w.heap.size,4,none⟩) (v:=slice ra rk rc) (by simp[go_sem]);have HX:=zk hSX;have HY:=zk hSY
 have HB1:=zJ HB hb1;clear hb1 HB CN hSX hSY;go_wp2_with fail
 refine(CI.out _ HB1.out).mono ?_;rintro r w2 ⟨rfl,hb2⟩;replace HX:=zk (HX.out.q_ hb2);replace HY:=zk (HY.out.q_ hb2)
 replace k0:=kCb hb2 k0;replace k1:=kCb hb2 k1;replace k2:=kCb hb2 k2;replace k3:=kCb hb2 k3;replace k4:=kCb hb2 k4
 have HB2:=zJ HB1 hb2;clear hb2 HB1 CI;cases t1
 ·go_wp2;go_ret;refine⟨?_,HB2.out⟩;rw[HV.out];rfl
 have CA:=zk (zfE (cap:=xc) HX.out (by omega));rw[H2.out]at CA
 go_wp2_with fail
 refine CA.out.mono ?_;rintro r w2' ⟨rfl,rfl⟩;cases t2
 ·go_wp2;go_ret;refine⟨?_,HB2.out⟩;rw[HV.out];rfl
 have CA2:=zk (zfE (cap:=yc) HY.out (by omega));rw[H3.out]at CA2
 go_wp2_with fail
 refine CA2.out.mono ?_;rintro r w2' ⟨rfl,rfl⟩;cases t3
 ·go_wp2;go_ret;refine⟨?_,HB2.out⟩;rw[HV.out];rfl
 have CT:=zk (zfD (cap:=xc) HX.out (by omega));rw[H4.out]at CT
 go_wp2_with fail
 refine CT.out.mono ?_;rintro r w3 ⟨rfl,hb3⟩;replace HY:=zk (HY.out.q_ hb3);replace k0:=kCb hb3 k0;replace k1:=kCb hb3 k1;replace k2:=kCb hb3 k2;replace k3:=kCb hb3 k3;replace k4:=kCb hb3 k4
 have HB3:=zJ HB2 hb3;clear hb3 HX CA CA2 CT;cases t4
 case true =>
  go_wp2;go_ret;refine⟨?_,HB3.out⟩;rw[HV.out];rfl
 have CT:=zk (zfD (cap:=yc) HY.out (by omega));rw[H5.out]at CT
 go_wp2_with fail
 refine CT.out.mono ?_;rintro r w4 ⟨rfl,hb4⟩;replace k0:=kCb hb4 k0;replace k1:=kCb hb4 k1;replace k2:=kCb hb4 k2;replace k3:=kCb hb4 k3;replace k4:=kCb hb4 k4
 have HB4:=zJ HB3 hb4;clear hb4 HY CT HB2 HB3;cases t5
 case true =>
  go_wp2;go_ret;refine⟨?_,HB4.out⟩;rw[HV.out];rfl
 go_wp2_with fail
 refine(CL.out _ HB4.out).mono ?_;rintro r w5 ⟨rfl,hb5⟩;have HB5:=zJ HB4 hb5;clear hb5 HB4 k0 k1 k2 k3 k4;cases t6
 ·go_wp2;go_ret;refine⟨?_,HB5.out⟩;rw[HV.out];rfl
 ·go_wp2;go_ret;refine⟨?_,HB5.out⟩;rw[HV.out];rfl
theorem znR {w} {M:Mo} (h:64<M.ck∨64<M.rk):Calls prog 29 #[M.val] w λr w'=>r=returned (.int .i64 2)/\Bl w w':=by
 obtain⟨⟨s,x,n,c,f,y,m,d,g⟩,ca,ck,cc,C,ra,rk,rc,R⟩:=M;replace h:64<ck∨64<rk:=h;show Calls prog 29 #[agg #[.bool s,slice x n c,slice y m d,slice ca ck cc,slice ra rk rc]] w _;by_cases h1:64<ck
 ·have e1:(ck:Int) > 64:=by omega
  clear h1 h;go_enter func29,ntmps29;go_wp2;go_ret;exact⟨rfl,zu (Below.refl _ _) _⟩
 ·have e1:¬(ck:Int) > 64:=by omega
  have e2:(rk:Int) > 64:=by omega
  clear h1 h;go_enter func29,ntmps29;go_wp2;go_ret;exact⟨rfl,zu (Below.refl _ _) _⟩
def MoW (w:World) (M:Mo):Prop:=M.ck<=64->M.rk<=64->MoR w M
theorem MoW.q_ {w w' M} (h:MoW w M) (hb:Bl w w'):MoW w' M:=λh1 h2=>(h h1 h2).q_ hb
theorem zeT {w M} (h:MoW w M):Calls prog 29 #[M.val] w λr w'=>r=returned (.int .i64 (zaF M))/\Bl w w':=by
 by_cases h1:64<M.ck∨64<M.rk
 ·have e:zaF M=2:=by
   have:(decide (64<M.ck) || decide (64<M.rk))=true:=by simpa using h1
   rw[zaF,this];rfl
  rw[e];exact znR h1
 ·exact zpQ (h (by omega) (by omega))
theorem zhn {M} (h:zaF M=0):M.ck<=64/\M.rk<=64/\moF M=true/\nms (λj=>(M.C j).nm) M.ck 0=true/\nms (λj=>(M.R j).nm) M.rk 0=true/\twr (λj=>(M.C j).nm) M.ck 0=false/\twr (λj=>(M.R j).nm) M.rk 0=false/\alB M.ck M.R M.rk 0=true:=by
 unfold zaF ziw at h
 split at h
 ·cases h
 ·rename_i h0
  split at h
  ·cases h
  ·rename_i h1
   split at h
   ·cases h
   ·rename_i h2
    split at h
    ·cases h
    ·rename_i h3
     split at h
     ·cases h
     ·rename_i h4;simp at h0 h1 h2 h3 h4;exact⟨h0.1,h0.2,h1,h2.1,h2.2,h3.1,h3.2,h4⟩
theorem zgB {z y:ByteArray} (h:¬z=y):(z.toList==y.toList)=false:=by
 rw[Go.ByteArray.toList_eq,Go.ByteArray.toList_eq];refine beq_eq_false_iff_ne.2 λe=>h (ByteArray.ext (Array.toList_inj.1 e))
structure Fn (w:World) (i:Int) (s:Bool) (x:Option Addr) (n:Nat) (d:Nat->Int) (y:Option Addr) (m:Nat) (g:Nat->Int) (q:Rat):Prop where
 qn:Qn w s x n d y m g q
 inf:i=0∨(i=-1∨i=1)/\q=0
theorem Fn.q_ {w w' i s x n d y m g q} (h:Fn w i s x n d y m g q) (hb:Bl w w'):Fn w' i s x n d y m g q:=⟨h.qn.q_ hb,h.inf⟩
theorem zes {w i s x n c f y m d g} (h:Rw w x n c f y m d g) (hn:n<=17592186044416) (hm:m<=17592186044416) :
  Calls prog 24 #[agg #[.int .i64 i,.bool s,slice x n c,slice y m d]] w λe w'=>∃z c' z2 c2,e=returned (agg #[.int .i64 i,.bool s,slice z n c',slice z2 m c2])/\Bl w w'/\Rw w' z n c' f z2 m c2 g:=by
 have h1:=(zaT w (.int .i64 i) (.bool s) (slice x n c) (slice y m d) 40).alloc (cells #[.int .i64 0,.bool false,slice none 0 0,slice none 0 0] 40);have h2:=zba (w.alloc (cells #[.int .i64 i,.bool s,slice x n c,slice y m d] 40)) 40;rw[zw]at h2
 have h3:=zu (zB w (cells #[.int .i64 i,.bool s,slice x n c,slice y m d] 40)) (cells #[.int .i64 0,.bool false,slice none 0 0,slice none 0 0] 40);have h4:=h.q_ h3;clear h;go_enter func24,ntmps24;go_wp2_with fail
 generalize(w.alloc (cells #[.int .i64 i,.bool s,slice x n c,slice y m d] 40)).alloc (cells #[.int .i64 0,.bool false,slice none 0 0,slice none 0 0] 40)=w1 at *;have HN:=zk h4;have OB:=zk h2;have HW:=zk h3
 obtain⟨z,x0,x1,x2,x3⟩:=h1;obtain⟨hz,z0,z1,z2,z3,zf⟩:=h2;clear h3 h4;have C1:Hid (∀W,Bl w1 W->Calls prog 23 #[agg #[.bool s,slice x n c,slice y m d]] W λe w'=>∃z c' z2 c2,e=returned (agg #[.bool s,slice z n c',slice z2 m c2])/\Bl W w'/\Hid (Rw w' z n c' f z2 m c2 g)):=λW hW=>zdB (HN.out.q_ hW) hn hm
 go_region_held3 (λw'=>w'.cell? ⟨w.heap.size,0,none⟩=some (.int .i64 i)/\w'.cell? ⟨w.heap.size,1,none⟩=some (.bool s)/\w'.cell? ⟨w.heap.size,2,none⟩=some (slice x n c)/\w'.cell? ⟨w.heap.size,3,none⟩=some (slice y m d)/\(w'.cell? ⟨w.heap.size+1,0,none⟩).isSome=true/\(w'.cell? ⟨w.heap.size+1,1,none⟩).isSome=true/\(w'.cell? ⟨w.heap.size+1,2,none⟩).isSome=true/\(w'.cell? ⟨w.heap.size+1,3,none⟩).isSome=true/\w'.frozen? ⟨w.heap.size+1,0,none⟩=false/\w'.frozen? ⟨w.heap.size+1,1,none⟩=false/\w'.frozen? ⟨w.heap.size+1,2,none⟩=false/\w'.frozen? ⟨w.heap.size+1,3,none⟩=false)
  (refine⟨?_,?_,?_,?_,?_,?_,?_,?_,?_,?_,?_,?_⟩ <;> repeat(with_reducible first|assumption|exact zf _|exact tf _|exact kI0 z0|exact kI0 z1|exact kI0 z2|exact kI0 z3|exact kI0 t0|exact kI0 t1|exact kI0 t2|exact kI0 t3|refine kCd ?_|refine kId ?_|refine kFd ?_|refine kCs (by simp only[ne_eq];omega) ?_|refine kIs ?_|refine kFs ?_|refine kCb (by assumption) ?_|refine kIb (by assumption) ?_))
  (first|(go_at_call 23;with_reducible refine(C1.out _ zaq).mono ?_;rintro e v5 ⟨z5,c5,y5,d5,rfl,hb5,H5⟩;have Tt:Ob4 v5 (w.heap.size+1):=(by repeat(with_reducible first|exact OB.out|refine Ob4.drew ?_|refine zrw (by assumption) ?_));obtain⟨_,t0,t1,t2,t3,tf⟩:=id Tt))
 all_goals
  have hb:Bl w1 v5:=zaq;go_wp2;exact bodyPost_ret (v:=agg #[.int .i64 i,.bool s,slice z5 n c5,slice y5 m d5]) (by simp[results,results24,go_sem,t0,t1,t2,t3]) rfl ⟨z5,c5,y5,d5,rfl,zZ (bUp HW.out hb) (by omega),Tt.rw H5.out⟩
theorem zeu {L w i s x n c f y m d g q} (h:En L w i s x n c f y m d g q) (hL:L<=150000) :
  Calls prog 79 #[agg #[.int .i64 i,.bool s,slice x n c,slice y m d]] w λe w'=>∃s x n c d y m c' g,e=returned (agg #[.int .i64 i,.bool s,slice x n c,slice y m c'])/\Bl w w'/\Hid (n<=2*L/\m<=2*L/\Fn w' i s x n d y m g q):=by
 have h1:=(zaT w (.int .i64 i) (.bool s) (slice x n c) (slice y m d) 40).alloc (cells #[.int .i64 0,.bool false,slice none 0 0,slice none 0 0] 104);have h2:=zba (w.alloc (cells #[.int .i64 i,.bool s,slice x n c,slice y m d] 40)) 104;rw[zw]at h2
 have h3:=zu (zB w (cells #[.int .i64 i,.bool s,slice x n c,slice y m d] 40)) (cells #[.int .i64 0,.bool false,slice none 0 0,slice none 0 0] 104);have h4:=h.q_ h3;clear h;go_enter func79,ntmps79;go_wp2_with fail
 generalize(w.alloc (cells #[.int .i64 i,.bool s,slice x n c,slice y m d] 40)).alloc (cells #[.int .i64 0,.bool false,slice none 0 0,slice none 0 0] 104)=w1 at *;have HN:=zk h4;have OB:=zk h2;have HW:=zk h3
 obtain⟨z,x0,x1,x2,x3⟩:=h1;obtain⟨hz,z0,z1,z2,z3,zf⟩:=h2;clear h3 h4;have C1:Hid (∀W,Bl w1 W->Calls prog 78 #[agg #[.bool s,slice x n c,slice y m d]] W λe w'=>∃s x n c d y m c' g,e=returned (agg #[.bool s,slice x n c,slice y m c'])/\Bl W w'/\Hid (n<=2*L/\m<=2*L/\Qn w' s x n d y m g q)):=λW hW=>zdC (HN.out.q_ hW).rn (le_trans hL (by decide))
 go_region_held3 (λw'=>w'.cell? ⟨w.heap.size,0,none⟩=some (.int .i64 i)/\w'.cell? ⟨w.heap.size,1,none⟩=some (.bool s)/\w'.cell? ⟨w.heap.size,2,none⟩=some (slice x n c)/\w'.cell? ⟨w.heap.size,3,none⟩=some (slice y m d)/\(w'.cell? ⟨w.heap.size+1,0,none⟩).isSome=true/\(w'.cell? ⟨w.heap.size+1,1,none⟩).isSome=true/\(w'.cell? ⟨w.heap.size+1,2,none⟩).isSome=true/\(w'.cell? ⟨w.heap.size+1,3,none⟩).isSome=true/\w'.frozen? ⟨w.heap.size+1,0,none⟩=false/\w'.frozen? ⟨w.heap.size+1,1,none⟩=false/\w'.frozen? ⟨w.heap.size+1,2,none⟩=false/\w'.frozen? ⟨w.heap.size+1,3,none⟩=false)
  (refine⟨?_,?_,?_,?_,?_,?_,?_,?_,?_,?_,?_,?_⟩ <;> repeat(with_reducible first|assumption|exact zf _|exact tf _|exact kI0 z0|exact kI0 z1|exact kI0 z2|exact kI0 z3|exact kI0 t0|exact kI0 t1|exact kI0 t2|exact kI0 t3|refine kCd ?_|refine kId ?_|refine kFd ?_|refine kCs (by simp only[ne_eq];omega) ?_|refine kIs ?_|refine kFs ?_|refine kCb (by assumption) ?_|refine kIb (by assumption) ?_))
  (first|(go_at_call 78;with_reducible refine(C1.out _ zaq).mono ?_;rintro e v5 ⟨s5,x5,n5,c5,d5,y5,m5,e5,g5,rfl,hb5,H5⟩;have Tt:Ob4 v5 (w.heap.size+1):=(by repeat(with_reducible first|exact OB.out|refine Ob4.drew ?_|refine zrw (by assumption) ?_));obtain⟨_,t0,t1,t2,t3,tf⟩:=id Tt))
 all_goals
  have hb:Bl w1 v5:=zaq;go_wp2;exact bodyPost_ret (v:=agg #[.int .i64 i,.bool s5,slice x5 n5 c5,slice y5 m5 e5]) (by simp[results,results79,go_sem,t0,t1,t2,t3]) rfl ⟨s5,x5,n5,c5,d5,y5,m5,e5,g5,rfl,zZ (bUp HW.out hb) (by omega),H5.out.1,H5.out.2.1,⟨Tt.qn H5.out.2.2,HN.out.inf⟩⟩
theorem zrU {w i s x n c f y m d g q} (h:Fn w i s x n f y m g q) (hn:n<=200000) (hm:m<=200000) :
  Calls prog 48 #[agg #[.int .i64 i,.bool s,slice x n c,slice y m d]] w λe w'=>∃z k c' f z2 k2 c2 f2,e=returned (agg #[.int .i64 i,.bool s,slice z k c',slice z2 k2 c2])/\Bl w w'/\Hid (En (n+m) w' i s z k c' f z2 k2 c2 f2 q):=by
 have h1:=(zaT w (.int .i64 i) (.bool s) (slice x n c) (slice y m d) 104).alloc (cells #[.int .i64 0,.bool false,slice none 0 0,slice none 0 0] 40);have h2:=zba (w.alloc (cells #[.int .i64 i,.bool s,slice x n c,slice y m d] 104)) 40;rw[zw]at h2
 have h3:=zu (zB w (cells #[.int .i64 i,.bool s,slice x n c,slice y m d] 104)) (cells #[.int .i64 0,.bool false,slice none 0 0,slice none 0 0] 40);have h4:=h.q_ h3;clear h;go_enter func48,ntmps48;go_wp2_with fail
 generalize(w.alloc (cells #[.int .i64 i,.bool s,slice x n c,slice y m d] 104)).alloc (cells #[.int .i64 0,.bool false,slice none 0 0,slice none 0 0] 40)=w1 at *;have HN:=zk h4;have OB:=zk h2;have HW:=zk h3
 obtain⟨z,x0,x1,x2,x3⟩:=h1;obtain⟨hz,z0,z1,z2,z3,zf⟩:=h2;clear h3 h4;have C1:Hid (∀W,Bl w1 W->Calls prog 26 #[agg #[.bool s,slice x n c,slice y m d]] W λe w'=>∃z k c' f z2 k2 c2 f2,e=returned (agg #[.bool s,slice z k c',slice z2 k2 c2])/\Bl W w'/\Hid (Rn (n+m) w' s z k c' f z2 k2 c2 f2 q)):=λW hW=>zgK (HN.out.q_ hW).qn (le_trans hn (by decide)) (le_trans hm (by decide))
 go_region_held3 (λw'=>w'.cell? ⟨w.heap.size,0,none⟩=some (.int .i64 i)/\w'.cell? ⟨w.heap.size,1,none⟩=some (.bool s)/\w'.cell? ⟨w.heap.size,2,none⟩=some (slice x n c)/\w'.cell? ⟨w.heap.size,3,none⟩=some (slice y m d)/\(w'.cell? ⟨w.heap.size+1,0,none⟩).isSome=true/\(w'.cell? ⟨w.heap.size+1,1,none⟩).isSome=true/\(w'.cell? ⟨w.heap.size+1,2,none⟩).isSome=true/\(w'.cell? ⟨w.heap.size+1,3,none⟩).isSome=true/\w'.frozen? ⟨w.heap.size+1,0,none⟩=false/\w'.frozen? ⟨w.heap.size+1,1,none⟩=false/\w'.frozen? ⟨w.heap.size+1,2,none⟩=false/\w'.frozen? ⟨w.heap.size+1,3,none⟩=false)
  (refine⟨?_,?_,?_,?_,?_,?_,?_,?_,?_,?_,?_,?_⟩ <;> repeat(with_reducible first|assumption|exact zf _|exact tf _|exact kI0 z0|exact kI0 z1|exact kI0 z2|exact kI0 z3|exact kI0 t0|exact kI0 t1|exact kI0 t2|exact kI0 t3|refine kCd ?_|refine kId ?_|refine kFd ?_|refine kCs (by simp only[ne_eq];omega) ?_|refine kIs ?_|refine kFs ?_|refine kCb (by assumption) ?_|refine kIb (by assumption) ?_))
  (first|(go_at_call 26;with_reducible refine(C1.out _ zaq).mono ?_;rintro e v5 ⟨z5,k5,c5,f5,y5,m5,d5,g5,rfl,hb5,H5⟩;have Tt:Ob4 v5 (w.heap.size+1):=(by repeat(with_reducible first|exact OB.out|refine Ob4.drew ?_|refine zrw (by assumption) ?_));obtain⟨_,t0,t1,t2,t3,tf⟩:=id Tt))
 all_goals
  have hb:Bl w1 v5:=zaq;go_wp2;exact bodyPost_ret (v:=agg #[.int .i64 i,.bool s,slice z5 k5 c5,slice y5 m5 d5]) (by simp[results,results48,go_sem,t0,t1,t2,t3]) rfl ⟨z5,k5,c5,f5,y5,m5,d5,g5,rfl,zZ (bUp HW.out hb) (by omega),⟨Tt.rn H5.out,HN.out.inf⟩⟩
theorem qZero4_c {w}:Calls prog 81 #[] w λe w'=>∃s x n c d y m c' g,e=returned (agg #[.bool s,slice x n c,slice y m c'])/\Bl w w'/\Hid (n<=2/\m<=2/\Qn w' s x n d y m g 0):=by
 have h2:=zaz w 73;have h3:=zB w (cells #[.bool false,slice none 0 0,slice none 0 0] 73);go_enter func81,ntmps81;go_wp2_with fail
 generalize w.alloc (cells #[.bool false,slice none 0 0,slice none 0 0] 73)=w1 at *;have OB:=zk h2;have HW:=zk h3
 clear h2 h3;refine(zfg (z:=0) (by decide) (by decide)).mono ?_;rintro e w2 ⟨s2,x2,n2,c2,d2,y2,m2,e2,g2,rfl,hb,hl1,hl2,hq⟩;have HB:=zJ HW hb;have OB2:=zk (OB.out.q_ hb);have HQ:=zk hq
 clear hb hq;obtain⟨hz,z0,z1,z2,zf⟩:=OB2.out;go_wp2;exact bodyPost_ret (v:=agg #[.bool s2,slice x2 n2 c2,slice y2 m2 e2]) (by simp[results,results81,go_sem,z0,z1,z2]) rfl ⟨s2,x2,n2,c2,d2,y2,m2,e2,g2,rfl,zU HB.out (le_refl _),hl1,hl2,OB2.out.qn HQ.out⟩
theorem zqv {w}:Calls prog 49 #[] w λe w'=>∃s x n c d y m c' g,e=returned (agg #[.int .i64 (-1),.bool s,slice x n c,slice y m c'])/\Bl w w'/\Hid (n<=2/\m<=2/\Fn w' (-1) s x n d y m g 0):=by
 have h2:=zba w 104;have h3:=zB w (cells #[.int .i64 0,.bool false,slice none 0 0,slice none 0 0] 104);go_enter func49,ntmps49;go_wp2_with fail
 generalize w.alloc (cells #[.int .i64 0,.bool false,slice none 0 0,slice none 0 0] 104)=w1 at *;have OB:=zk h2;have HW:=zk h3
 clear h2 h3;refine qZero4_c.mono ?_;rintro e w2 ⟨s2,x2,n2,c2,d2,y2,m2,e2,g2,rfl,hb,H2⟩;have HB:=zJ HW hb;have OB2:=zk (OB.out.q_ hb)
 clear hb;obtain⟨hz,z0,z1,z2,z3,zf⟩:=OB2.out;go_wp2;exact bodyPost_ret (v:=agg #[.int .i64 (-1),.bool s2,slice x2 n2 c2,slice y2 m2 e2]) (by simp[results,results49,go_sem,z0,z1,z2,z3]) rfl ⟨s2,x2,n2,c2,d2,y2,m2,e2,g2,rfl,zZ HB.out (le_refl _),H2.out.1,H2.out.2.1,⟨OB2.out.qn H2.out.2.2,.inr ⟨by decide,rfl⟩⟩⟩
theorem zlY {w i s1 x1 n1 c1 y1 m1 d1 s2 x2 n2 c2 y2 m2 d2} (hS:∀W,Bl w W->Calls prog 16 #[agg #[.bool s1,slice x1 n1 c1,slice y1 m1 d1],agg #[.bool s2,slice x2 n2 c2,slice y2 m2 d2]] W λe w'=>e=returned (.bool true)/\Bl W w') :
  Calls prog 20 #[agg #[.int .i64 i,.bool s1,slice x1 n1 c1,slice y1 m1 d1],agg #[.int .i64 i,.bool s2,slice x2 n2 c2,slice y2 m2 d2]] w λe w'=>e=returned (.bool true)/\Bl w w':=by
 have h1:=(zaT w (.int .i64 i) (.bool s1) (slice x1 n1 c1) (slice y1 m1 d1) 40).alloc (cells #[.int .i64 i,.bool s2,slice x2 n2 c2,slice y2 m2 d2] 40);have h2:=zaT (w.alloc (cells #[.int .i64 i,.bool s1,slice x1 n1 c1,slice y1 m1 d1] 40)) (.int .i64 i) (.bool s2) (slice x2 n2 c2) (slice y2 m2 d2) 40;rw[zw]at h2
 have h3:=zu (zB w (cells #[.int .i64 i,.bool s1,slice x1 n1 c1,slice y1 m1 d1] 40)) (cells #[.int .i64 i,.bool s2,slice x2 n2 c2,slice y2 m2 d2] 40);have HS:=zk (hS _ h3);have hii:(i==i)=true:=by simp
 clear hS;go_enter func20,ntmps20;go_upto_region 1 with fail
 generalize(w.alloc (cells #[.int .i64 i,.bool s1,slice x1 n1 c1,slice y1 m1 d1] 40)).alloc (cells #[.int .i64 i,.bool s2,slice x2 n2 c2,slice y2 m2 d2] 40)=w1 at *;have HW:=zk h3;obtain⟨za,a0,a1,a2,a3⟩:=h1;obtain⟨zb,b0,b1,b2,b3⟩:=h2;clear h3;go_wp2_with fail
 refine HS.out.mono ?_;rintro e w2 ⟨rfl,hb⟩;have HB:=zJ HW hb;clear hb;go_wp2;go_ret;exact⟨rfl,HB.out⟩
theorem zoz {w L s s' n n' m m' f f' g g' x' c' y' d'} (hlg:Lm g m) (hz:Rn L w s' x' n' c' f' y' m' d' g' 0):(s=s'/\Alk n n' f f'/\Alk m m' g g') ↔ (rfB s f n g m && decide (n=0))=true:=by
 have hn':n'=0:=hz.q_zero.1 rfl;have hs':s'=false:=by
  cases s'
  ·rfl
  ·have:=zbo hz.num.wf rfl;omega
 have hden:vf g' m'=1:=hz.den.nv;have hone:=zgR hz.den.lm hz.den.fm hz.den.nv;have hm':=hone.1 rfl;constructor
 ·rintro⟨rfl,⟨h1,_⟩,h2,h3⟩;have e1:n=0:=by omega
  have e2:m=1:=by omega
  subst e1 e2;have e3:g 0=1:=by rw[h3 0 (by omega)];exact hm'.2
  have v1:vf g 1=1:=by simp[vf,pw,e3]
  have v0:vf f 0=0:=rfl;have w1:wfB s f 0=true:=(wfB_iff _ _ _).2 ⟨.inl rfl,λh=>by rw[hs']at h;cases h⟩;have w2:fmB g 1=true:=(zcW _ _).2 (.inr (by show g 0≠0;omega));simp[rfB,w1,w2,v1,v0]
 ·intro h;simp only[Bool.and_eq_true,decide_eq_true_eq]at h;obtain⟨h1,rfl⟩:=h;simp only[rfB,Bool.and_eq_true,decide_eq_true_eq]at h1;obtain⟨k1,k2,k3,k4⟩:=h1;have hs:s=false:=by
   cases s
   ·rfl
   ·have:=zbo k1 rfl;omega
  have hv:vf g m=1:=by
   have v0:vf f 0=0:=rfl;rw[v0]at k4
   have h2:(vf g m).toNat=1:=by simpa using k4
   omega
  obtain⟨e1,e2⟩:=(zgR hlg ((zcW g m).1 k2) hv).1 rfl;subst e1;refine⟨by rw[hs,hs'],⟨by omega,λj hj=>by omega⟩,⟨by omega,λj hj=>?_⟩⟩;have:j=0:=by omega
  subst this;rw[e2];exact hm'.2.symm
theorem zoB {w i s x n c f y m d g} (h:Rw w x n c f y m d g) (hn:n<=1000) (hm:m<=1000) :
  Calls prog 129 #[agg #[.int .i64 i,.bool s,slice x n c,slice y m d]] w λe w'=>e=returned (.bool (efB i s f n g m))/\Bl w w':=by
 have HR:=zk (h.alloc (cells #[.int .i64 i,.bool s,slice x n c,slice y m d] 40));have BX:=zk (zaT w (.int .i64 i) (.bool s) (slice x n c) (slice y m d) 40);have HW:=zk (zB w (cells #[.int .i64 i,.bool s,slice x n c,slice y m d] 40));have C1:Hid (∀W,Below (w.alloc (cells #[.int .i64 i,.bool s,slice x n c,slice y m d] 40)).heap.size (w.alloc (cells #[.int .i64 i,.bool s,slice x n c,slice y m d] 40)) W->Calls prog 106 #[agg #[.bool s,slice x n c,slice y m d]] W λe w'=>e=returned (.bool (rfB s f n g m))/\Bl W w'):=λW hW=>zdD (HR.out.q_ hW) hn hm
 have CZ:Hid (∀W:World,Calls prog 81 #[] W λe w'=>∃s x n c d y m c' g,e=returned (agg #[.bool s,slice x n c,slice y m c'])/\Bl W w'/\Hid (n<=2/\m<=2/\Qn w' s x n d y m g 0)):=λW=>qZero4_c
 have CT:Hid (∀(W:World) (s:Bool) (x:Option Addr) (n c:Nat) (d:Nat->Int) (y:Option Addr) (m e:Nat) (g:Nat->Int),n<=2->m<=2->Qn W s x n d y m g 0->Calls prog 26 #[agg #[.bool s,slice x n c,slice y m e]] W λen w'=>∃z k c' f z2 k2 c2 f2,en=returned (agg #[.bool s,slice z k c',slice z2 k2 c2])/\Bl W w'/\Hid (Rn 4 w' s z k c' f z2 k2 c2 f2 0)):=λW s x n c d y m e g h1 h2 h3=>(zgK h3 (by omega) (by omega)).mono (λ_ _ ⟨z,k,c',f,z2,k2,c2,f2,k1,k3,k4⟩=>⟨z,k,c',f,z2,k2,c2,f2,k1,k3,k4.out.mono (by omega)⟩)
 have CS:Hid (∀(W:World) (s':Bool) (x':Option Addr) (n' c':Nat) (f':Nat->Int) (y':Option Addr) (m' d':Nat) (g':Nat->Int),Below (w.alloc (cells #[.int .i64 i,.bool s,slice x n c,slice y m d] 40)).heap.size (w.alloc (cells #[.int .i64 i,.bool s,slice x n c,slice y m d] 40)) W->Rn 4 W s' x' n' c' f' y' m' d' g' 0->Calls prog 16 #[agg #[.bool s,slice x n c,slice y m d],agg #[.bool s',slice x' n' c',slice y' m' d']] W λe w'=>e=returned (.bool (rfB s f n g m && decide (n=0)))/\Bl W w'):=λW s' x' n' c' f' y' m' d' g' hW hz=>by
  have hr:=HR.out.q_ hW;have b1:=hz.ln;have b2:=hz.ld
  refine(zeF s x y n c m d f g s' x' y' n' c' m' d' f' g' W hr.rx hr.ry hz.num.rd hz.den.rd (by omega) (by omega) (by omega) (by omega)).mono ?_;rintro e w' ⟨b,rfl,h1,h2⟩;have:b=(rfB s f n g m && decide (n=0)):=Bool.eq_iff_iff.2 (h2.trans (zoz hr.ly hz));rw[this];exact⟨rfl,h1⟩
 clear h;by_cases h0:i=0
 ·subst h0;rw[show efB 0 s f n g m=rfB s f n g m by simp[efB]];clear CZ CT CS;go_enter func129,ntmps129;go_upto_region 1 with fail
  generalize w.alloc (cells #[.int .i64 0,.bool s,slice x n c,slice y m d] 40)=w1 at *;obtain⟨z,x0,x1,x2,x3⟩:=BX.out;go_wp2_with fail
  refine(C1.out _ (Below.refl _ _)).mono ?_;rintro e w2 ⟨rfl,hb⟩;have HB:=zJ HW hb;clear hb;go_wp2;go_ret;exact⟨rfl,HB.out⟩
 have e0:(i==0)=false:=by simp;exact h0
 by_cases h1:i=-1∨i=1
 ·have hef:efB i s f n g m=(rfB s f n g m && decide (n=0)):=by
   rcases h1 with rfl|rfl <;> simp[efB]
  rw[hef];clear hef h0 C1;generalize(rfB s f n g m && decide (n=0))=p at *;rcases h1 with rfl|rfl
  all_goals
   go_enter func129,ntmps129;go_upto_region 1 with fail
   generalize w.alloc _=w1 at *;obtain⟨z,x0,x1,x2,x3⟩:=BX.out;go_wp2_with fail
   go_region_held3 (λw'=>w'.cell? ⟨w.heap.size,1,none⟩=some (.bool s)/\w'.cell? ⟨w.heap.size,2,none⟩=some (slice x n c)/\w'.cell? ⟨w.heap.size,3,none⟩=some (slice y m d))
    (refine⟨?_,?_,?_⟩ <;> repeat(with_reducible first|assumption|refine kCd ?_|refine kCb (by assumption) ?_))
    (first
     | (go_at_call 81;with_reducible refine(CZ.out _).mono ?_;rintro e v5 ⟨s5,x5,n5,c5,d5,y5,m5,e5,g5,rfl,hb5,H5⟩)
     | (go_at_call 26;with_reducible refine(CT.out _ s5 x5 n5 c5 d5 y5 m5 e5 g5 H5.out.1 H5.out.2.1 (by repeat(with_reducible first|exact H5.out.2.2|refine kQd ?_|refine kQb (by assumption) ?_))).mono ?_;rintro e v6 ⟨x6,n6,c6,f6,y6,m6,d6,g6,rfl,hb6,H6⟩)
     | (go_at_call 16;with_reducible refine(CS.out _ s5 x6 n6 c6 f6 y6 m6 d6 g6 zaq (by repeat(with_reducible first|exact H6.out|refine zrv ?_|refine ztb (by assumption) ?_))).mono ?_;rintro e v7 ⟨rfl,hb7⟩))
   all_goals
    have hb:Bl w1 v7:=zaq;have HB:=zJ HW hb;clear hb;go_wp2;go_ret;exact⟨rfl,HB.out⟩
 ·have e1:(i == -1)=false:=by simp;omega
  have e2:(i==1)=false:=by simp;omega
  have hef:efB i s f n g m=false:=by
   simp[efB];omega
  rw[hef];clear hef h0 h1 C1 CZ CT CS;go_enter func129,ntmps129;go_upto_region 1 with fail
  generalize w.alloc (cells #[.int .i64 i,.bool s,slice x n c,slice y m d] 40)=w1 at *;obtain⟨z,x0,x1,x2,x3⟩:=BX.out;go_wp2;go_ret;exact⟨rfl,HW.out⟩
structure Li2 (w:World) (B:Nat) (a0 a1 a2 a3 b0 b1 b2 b3:Value):Prop where
 z:B<w.heap.size
 x0:w.cell? ⟨B,0,none⟩=some a0
 x1:w.cell? ⟨B,1,none⟩=some a1
 x2:w.cell? ⟨B,2,none⟩=some a2
 x3:w.cell? ⟨B,3,none⟩=some a3
 y0:w.cell? ⟨B,4,none⟩=some b0
 y1:w.cell? ⟨B,5,none⟩=some b1
 y2:w.cell? ⟨B,6,none⟩=some b2
 y3:w.cell? ⟨B,7,none⟩=some b3
theorem Li2.q_ {w w' B a0 a1 a2 a3 b0 b1 b2 b3} (h:Li2 w B a0 a1 a2 a3 b0 b1 b2 b3) (hb:Bl w w'):Li2 w' B a0 a1 a2 a3 b0 b1 b2 b3:=⟨Nat.lt_of_lt_of_le h.z hb.size,kCb hb h.x0,kCb hb h.x1,kCb hb h.x2,kCb hb h.x3,kCb hb h.y0,kCb hb h.y1,kCb hb h.y2,kCb hb h.y3⟩
theorem znq (w:World) (a0 a1 a2 a3 b0 b1 b2 b3:Value) (t:TypeId):Li2 (w.alloc (cells #[a0,a1,a2,a3,b0,b1,b2,b3] t)) w.heap.size a0 a1 a2 a3 b0 b1 b2 b3:=⟨by simp,by simp[go_sem],by simp[go_sem],by simp[go_sem],by simp[go_sem],by simp[go_sem],by simp[go_sem],by simp[go_sem],by simp[go_sem]⟩
theorem zfF {w i1 s1 x1 n1 c1 f1 y1 m1 d1 g1 i2 s2 x2 n2 c2 f2 y2 m2 d2 g2 B} (hB:Li2 w B (.int .i64 i1) (.bool s1) (slice x1 n1 c1) (slice y1 m1 d1) (.int .i64 i2) (.bool s2) (slice x2 n2 c2) (slice y2 m2 d2)) (h1:Rw w x1 n1 c1 f1 y1 m1 d1 g1) (h2:Rw w x2 n2 c2 f2 y2 m2 d2 g2) (hn1:n1<=4096) (hm1:m1<=4096) (hn2:n2<=4096) (hm2:m2<=4096) :
  Calls prog 99 #[slice (some ⟨B,0,none⟩) 2 2] w λe w'=>e=returned (.bool (efB i1 s1 f1 n1 g1 m1 && efB i2 s2 f2 n2 g2 m2))/\Bl w w':=by
 have HB:=zk hB;have HR1:=zk h1;have HR2:=zk h2
 obtain⟨p,hp⟩:∃p,efB i1 s1 f1 n1 g1 m1=p:=⟨_,rfl⟩;obtain⟨q,hq⟩:∃p,efB i2 s2 f2 n2 g2 m2=p:=⟨_,rfl⟩;have HP:=zk hp;have HQ:=zk hq
 rw[hp,hq];clear hB h1 h2 hp hq;go_enter func99,ntmps99;go_wp2;go_loopw[7] (λt wr=>∃k:Nat,k<=2/\t=.int .i64 k/\Hid (Bl w wr/\(0<k->p=true)/\(1<k->q=true))) (λt _=>2-(intOf t).toNat)
 case atStart=>exact⟨0,by omega,rfl,Below.refl _ _,λh=>by omega,λh=>by omega⟩
 case round =>
  obtain⟨k,hk,rfl,HI⟩:=hrel;have HBr:=zk HI.out.1;rcases(show k=0∨k=1∨k=2 by omega)with rfl|rfl|rfl
  ·obtain⟨z,e0,e1,e2,e3,_,_,_,_⟩:=HB.out.q_ HBr.out;have c1:=zkE (i:=i1) (s:=s1) ((HR1.out.q_ HBr.out).alloc (cells #[.int .i64 i1,.bool s1,slice x1 n1 c1,slice y1 m1 d1] 40)) hn1 hm1;rw[HP.out]at c1
   have C1:=zk c1;clear c1;cases p
   ·go_wp2_with fail
    refine C1.out.mono ?_;rintro e w2 ⟨rfl,hb⟩;have HW:=zk ((zu HBr.out _).trans (hb.mono (zu HBr.out _).size));clear hb;go_wp2;go_ret;exact⟨rfl,HW.out⟩
   ·go_wp2_with fail
    refine C1.out.mono ?_;rintro e w2 ⟨rfl,hb⟩;have HW:=zk ((zu HBr.out _).trans (hb.mono (zu HBr.out _).size));clear hb;go_wp2;go_roundw
    case rel=>exact⟨1,by omega,by go_num,HW.out,by simp,by simp⟩
    case measure=>simp[intOf]
  ·obtain⟨z,_,_,_,_,e0,e1,e2,e3⟩:=HB.out.q_ HBr.out;have hpt:=HI.out.2.1 (by omega);subst hpt;have c1:=zkE (i:=i2) (s:=s2) ((HR2.out.q_ HBr.out).alloc (cells #[.int .i64 i2,.bool s2,slice x2 n2 c2,slice y2 m2 d2] 40)) hn2 hm2;rw[HQ.out]at c1
   have C1:=zk c1;clear c1;cases q
   ·go_wp2_with fail
    refine C1.out.mono ?_;rintro e w2 ⟨rfl,hb⟩;have HW:=zk ((zu HBr.out _).trans (hb.mono (zu HBr.out _).size));clear hb;go_wp2;go_ret;exact⟨rfl,HW.out⟩
   ·go_wp2_with fail
    refine C1.out.mono ?_;rintro e w2 ⟨rfl,hb⟩;have HW:=zk ((zu HBr.out _).trans (hb.mono (zu HBr.out _).size));clear hb;go_wp2;go_roundw
    case rel=>exact⟨2,by omega,by go_num,HW.out,by simp,by simp⟩
    case measure=>simp[intOf]
  ·have hpt:=HI.out.2.1 (by omega);have hqt:=HI.out.2.2 (by omega);subst hpt hqt;go_wp2;go_ret;exact⟨rfl,HBr.out⟩
def OC (p:Bool) (i:Int) (a:Rat) (j:Int) (b:Rat) (r er:Int):Prop:=p=false/\er=3/\r=0∨p=true/\er=0/\EOrd r i a j b
def nq (t:Nm):Rat:=mkRat (wv t.s t.f t.n) (wv false t.g t.m).toNat
theorem Rn.nq {L w q} {t:Nm} (h:Rn L w t.s t.x t.n t.c t.f t.y t.m t.d t.g q):nq t=q:=by
 unfold Go.Proofs.YtlbgphjdibbkjaaGreat.nq;rw[h.num.val,h.den.val,Int.toNat_natCast,Rat.mkRat_self]
theorem zbu:(prog.info? 3).map (λi=>(i.zero,i.size,i.bytes))=some (some (.int .i64 0),1,8):=by kernel_rfl
theorem zfN (s:Int):∀u ∈ (#[Value.int .i64 s]:Array Value).toList,u.oneCell'=true:=by
 intro u hu;simp at hu;subst hu;rfl
theorem zfl (s:Int):∀u ∈ (#[Value.int .i64 s]:Array Value).toList,∀q,u≠.int .u64 q:=by
 intro u hu q;simp at hu;subst hu;simp
theorem nzi:NoU (Value.int .i64 0).cells:=zaa (l:=[Value.int .i64 0]) (zfl 0)
def Il (w:World) (ao:Option Addr) (l:List Int):Prop:=∀j v,l[j]?=some v->∃b o,ao=some ⟨b,o,none⟩/\w.cell? ⟨b,o+j,none⟩=some (.int .i64 v)
theorem Il.q_ {w w' ao l} (h:Il w ao l) (hb:Bl w w'):Il w' ao l:=λj v e=>by
 obtain⟨b,o,e1,h1⟩:=h j v e;exact⟨b,o,e1,kCb hb h1⟩
def ils (l:List Int):List Value:=l.map (Value.int .i64)
theorem zgD {e base w ao cap l} (h:RowG e 1 base w (slice ao l.length cap) l.length (ils l)):Il w ao l:=λj v hj=>by
 have hlt:j<l.length:=(List.getElem?_eq_some_iff.1 hj).1;rcases h.2 with⟨hv,h0⟩|⟨g,cap',cur,hv,_⟩
 ·omega
 ·cases hv
  refine⟨g,0,rfl,?_⟩;rw[zero_add];exact h.cells (by simp[ils,hj])
def crl (B:Nat->Bool):Nat->List Int
 | 0=>[]
 | i+1=>crl B i++(if B i then [(i:Int)] else [])
theorem zhk (B:Nat->Bool):∀i,(crl B i).length<=i
 | 0=>le_refl _
 | i+1=>by
  have:=zhk B i;unfold crl;rw[List.length_append]
  split <;> simp <;> omega
theorem zkL {B i} (h:B i=true):crl B (i+1)=crl B i++[(i:Int)]:=by simp[crl,h]
theorem znP {B i} (h:B i=false):crl B (i+1)=crl B i:=by simp[crl,h]
theorem zhm {C}:∀{r i:Nat},zeb C r i=true->∀j,i<=j->j<i+r->nfB (C j).cost=true/\abB (C j).lo (C j).hi=true
 | 0,i,_,j,h1,h2=>by omega
 | r+1,i,h,j,h1,h2=>by
  simp only[zeb,Bool.and_eq_true]at h;by_cases e:j=i
  ·subst e;exact⟨h.1,h.2.1⟩
  ·exact zhm h.2.2 j (by omega) (by omega)
theorem zeC {R}:∀{r i:Nat},zdc R r i=true->∀j,i<=j->j<i+r->abB (R j).lo (R j).hi=true/\tfB (R j).tk (R j).col (R j).T=true
 | 0,i,_,j,h1,h2=>by omega
 | r+1,i,h,j,h1,h2=>by
  simp only[zdc,Bool.and_eq_true]at h;by_cases e:j=i
  ·subst e;exact⟨h.1,h.2.1⟩
  ·exact zeC h.2.2 j (by omega) (by omega)
theorem zrI {a b} (h:abB a b=true):exF a=true/\exF b=true/\a.i≠1/\b.i ≠ -1:=by
 simp only[abB,Bool.and_eq_true,decide_eq_true_eq]at h;exact⟨h.1,h.2.1,h.2.2.1,h.2.2.2⟩
def eqs (f g:Nat->Int):Nat->Nat->Bool
 | 0,_=>true
 | r+1,i=>decide (f i=g i) && eqs f g r (i+1)
def eqlB (n m:Nat) (f g:Nat->Int):Bool:=decide (n=m) && eqs f g n 0
def sqB (a b:Nm):Bool:=decide (a.s=b.s) && (eqlB a.n b.n a.f b.f && eqlB a.m b.m a.g b.g)
def sxB (a b:Ex):Bool:=decide (a.i=b.i) && sqB a.v b.v
theorem zid {w x y n m c d f g} (hx:Rd .u64 w x n f) (hy:Rd .u64 w y m g) (hn:n<=1048576) (hm:m<=1048576) :
  Calls prog 70 #[slice x n c,slice y m d] w λe w'=>e=returned (.bool (eqlB n m f g))/\Bl w w':=by
 have HX:=zk hx;have HY:=zk hy
 clear hx hy;by_cases hnm:n=m
 case neg =>
  have HE:=zk (show eqlB n m f g=false from by simp[eqlB,hnm]);have e1:((n:Int) != (m:Int))=true:=by simp;omega
  clear hnm;go_enter func70,ntmps70;go_wp2;go_ret;refine⟨?_,Below.refl _ _⟩;rw[HE.out];rfl
 subst hnm;have HE:=zk (show eqlB n n f g=eqs f g n 0 from by simp[eqlB]);have e1:((n:Int) != (n:Int))=false:=by simp
 go_enter func70,ntmps70;go_wp2_with fail
 go_loopw[13] (λt wr=>∃(i:Nat),i<=n/\t=.int .i64 i/\Hid (Bl w wr)/\Hid (eqlB n n f g=eqs f g (n-i) i)) (λt _=>n-(intOf t).toNat)
 case atStart=>exact⟨0,by omega,rfl,Below.refl _ _,HE.out⟩
 case round =>
  obtain⟨i,hi,rfl,HB,HI⟩:=hrel;by_cases hlt:i<n
  ·obtain⟨b,o,rfl,hc⟩:=(HX.out.q_ HB.out (le_refl _)) i hlt;obtain⟨b2,o2,rfl,hc2⟩:=(HY.out.q_ HB.out (le_refl _)) i hlt;obtain⟨r,hr⟩:∃r,n-i=r+1:=⟨n-i-1,by omega⟩;have hT:eqlB n n f g=(decide (f i=g i) && eqs f g r (i+1)):=by rw[HI.out,hr];rfl
   have hr2:n-(i+1)=r:=by omega
   obtain⟨u,hu⟩:∃u,f i=u:=⟨_,rfl⟩;obtain⟨v,hv⟩:∃v,g i=v:=⟨_,rfl⟩;rw[hu,hv]at hT
   rw[hu]at hc
   rw[hv]at hc2
   have HT:=zk hT;have HR:=zk hr2
   have i1:((i:Nat):Int)<((n:Nat):Int):=by omega
   clear hT hr2 hr hu hv;by_cases huv:u=v
   ·subst huv;have e2:(u != u)=false:=by simp
    go_upto_region 6 with fail
    have k1:wr.drew.cell? ⟨b,o+i,none⟩=some (.int .u64 u):=hc;have k2:wr.drew.cell? ⟨b2,o2+i,none⟩=some (.int .u64 u):=hc2
    go_quiet (fail)
    go_wp2;go_roundw
    case rel =>
     refine⟨i+1,by omega,by go_num,(zH HB.out _),?_⟩;show _=_;rw[HT.out,HR.out];simp
    case measure=>simp[intOf];omega
   ·have e2:(u != v)=true:=by simp[huv]
    go_upto_region 6 with fail
    have k1:wr.drew.cell? ⟨b,o+i,none⟩=some (.int .u64 u):=hc;have k2:wr.drew.cell? ⟨b2,o2+i,none⟩=some (.int .u64 v):=hc2
    go_quiet (fail)
    go_wp2;go_ret;refine⟨?_,(zH HB.out _)⟩;rw[HT.out];simp[huv]
  ·have e1:i=n:=by omega
   have HE:Hid (eqlB n n f g=true):=by show _=_;rw[HI.out,e1,sub_self];rfl
   have i2:¬(((i:Nat):Int)<((n:Nat):Int)):=by omega
   clear e1 HI;go_wp2;go_ret;refine⟨?_,HB.out⟩;rw[HE.out];rfl
def scB (a b:Lc):Bool:=decide (a.nm=b.nm) && (sqB a.cost b.cost && (sxB a.lo b.lo && sxB a.hi b.hi))
def eqf {α:Type} (e:α->α->Bool) (X Y:Nat->α):Nat->Nat->Bool
 | 0,_=>true
 | r+1,i=>e (X i) (Y i) && eqf e X Y r (i+1)
def eqfB {α:Type} (e:α->α->Bool) (n m:Nat) (X Y:Nat->α):Bool:=decide (n=m) && eqf e X Y n 0
def tex (col:Nat->Int) (T:Nat->Nm) (j:Nat):Ex:=⟨col j,T j⟩
def srB (a b:Lr):Bool:=decide (a.nm=b.nm) && (sxB a.lo b.lo && (sxB a.hi b.hi && eqfB sxB a.tk b.tk (tex a.col a.T) (tex b.col b.T)))
def lstep (l e:Int):Int:=if l=0∨e≠0/\e<l then e else l
def lsf (E:Nat->Int):Nat->Int
 | 0=>0
 | i+1=>lstep (lsf E i) (E i)
def El (w:World) (ao:Option Addr) (k:Nat) (E:Nat->Int):Prop:=∀j,j<k->∃b o,ao=some ⟨b,o,none⟩/\w.cell? ⟨b,o+j,none⟩=some (.int .i64 (E j))
theorem zgX {w ao k cap E} (h:El w ao k E) (hk:k<=1048576) :
  Calls prog 28 #[slice ao k cap] w λe w'=>e=returned (.int .i64 (lsf E k))/\w'=w:=by
 have H:=zk h;clear h;go_enter func28,ntmps28;go_wp2_with fail
 go_loopw[3,8] (λl t wr=>∃(i:Nat) (v:Int),i<=k/\t=.int .i64 i/\l=.int .i64 v/\wr=w/\Hid (lsf E i=v)) (λ_ t _=>k-(intOf t).toNat)
 case atStart=>exact⟨0,0,by omega,rfl,rfl,rfl,rfl⟩
 case round =>
  obtain⟨i,v,hi,rfl,rfl,rfl,HI⟩:=hrel;by_cases hlt:i<k
  ·obtain⟨b,o,rfl,hc⟩:=H.out i hlt;obtain⟨e,he⟩:∃e,E i=e:=⟨_,rfl⟩;have hT:lsf E (i+1)=lstep v e:=by show lstep (lsf E i) (E i)=_;rw[HI.out,he]
   rw[he]at hc
   have i1:((i:Nat):Int)<((k:Nat):Int):=by omega
   clear he;by_cases h0:v=0
   ·subst h0;have HT:=zk (show lsf E (i+1)=e from by rw[hT];simp[lstep]);clear hT;go_wp2;go_roundw
    case rel=>exact⟨i+1,e,by omega,by go_num,rfl,trivial,HT.out⟩
    case measure=>simp[intOf];omega
   ·have e0:(v==0)=false:=by simpa using h0
    by_cases h1:e=0
    ·subst h1;have HT:=zk (show lsf E (i+1)=v from by rw[hT];simp[lstep,h0]);clear hT;go_wp2;go_roundw
     case rel=>exact⟨i+1,v,by omega,by go_num,rfl,trivial,HT.out⟩
     case measure=>simp[intOf];omega
    ·have e2:(e != 0)=true:=by simp[h1]
     by_cases h2:e<v
     ·have HT:=zk (show lsf E (i+1)=e from by rw[hT];simp[lstep,h1,h2]);clear hT;go_wp2;go_roundw
      case rel=>exact⟨i+1,e,by omega,by go_num,rfl,trivial,HT.out⟩
      case measure=>simp[intOf];omega
     ·have HT:=zk (show lsf E (i+1)=v from by rw[hT];simp[lstep,h0,h2]);clear hT;go_wp2;go_roundw
      case rel=>exact⟨i+1,v,by omega,by go_num,rfl,trivial,HT.out⟩
      case measure=>simp[intOf];omega
  ·have e1:i=k:=by omega
   have i2:¬(((i:Nat):Int)<((k:Nat):Int)):=by omega
   rw[e1]at HI
   clear e1;go_wp2;go_ret;refine⟨?_,rfl⟩;rw[HI.out];rfl
theorem zdL {w ao k cap E} (h:El w ao k E) (hk:k<=1048576) :
  Calls prog 75 #[slice ao k cap] w λe w'=>e=returned (.int .i64 (lsf E k))/\w'=w:=by
 have H:=zk h;clear h;go_enter func75,ntmps75;go_wp2_with fail
 go_loopw[3,8] (λl t wr=>∃(i:Nat) (v:Int),i<=k/\t=.int .i64 i/\l=.int .i64 v/\wr=w/\Hid (lsf E i=v)) (λ_ t _=>k-(intOf t).toNat)
 case atStart=>exact⟨0,0,by omega,rfl,rfl,rfl,rfl⟩
 case round =>
  obtain⟨i,v,hi,rfl,rfl,rfl,HI⟩:=hrel;by_cases hlt:i<k
  ·obtain⟨b,o,rfl,hc⟩:=H.out i hlt;obtain⟨e,he⟩:∃e,E i=e:=⟨_,rfl⟩;have hT:lsf E (i+1)=lstep v e:=by show lstep (lsf E i) (E i)=_;rw[HI.out,he]
   rw[he]at hc
   have i1:((i:Nat):Int)<((k:Nat):Int):=by omega
   clear he;by_cases h0:v=0
   ·subst h0;have HT:=zk (show lsf E (i+1)=e from by rw[hT];simp[lstep]);clear hT;by_cases h9:e=0
    ·subst h9;go_wp2;go_roundw
     case rel=>exact⟨i+1,0,by omega,by go_num,rfl,trivial,HT.out⟩
     case measure=>simp[intOf];omega
    ·have e9:(e != 0)=true:=by simp[h9]
     go_wp2;go_roundw
     case rel=>exact⟨i+1,e,by omega,by go_num,rfl,trivial,HT.out⟩
     case measure=>simp[intOf];omega
   ·have e0:(v==0)=false:=by simpa using h0
    by_cases h1:e=0
    ·subst h1;have HT:=zk (show lsf E (i+1)=v from by rw[hT];simp[lstep,h0]);clear hT;go_wp2;go_roundw
     case rel=>exact⟨i+1,v,by omega,by go_num,rfl,trivial,HT.out⟩
     case measure=>simp[intOf];omega
    ·have e2:(e != 0)=true:=by simp[h1]
     by_cases h2:e<v
     ·have HT:=zk (show lsf E (i+1)=e from by rw[hT];simp[lstep,h1,h2]);clear hT;go_wp2;go_roundw
      case rel=>exact⟨i+1,e,by omega,by go_num,rfl,trivial,HT.out⟩
      case measure=>simp[intOf];omega
     ·have HT:=zk (show lsf E (i+1)=v from by rw[hT];simp[lstep,h0,h2]);clear hT;go_wp2;go_roundw
      case rel=>exact⟨i+1,v,by omega,by go_num,rfl,trivial,HT.out⟩
      case measure=>simp[intOf];omega
  ·have e1:i=k:=by omega
   have i2:¬(((i:Nat):Int)<((k:Nat):Int)):=by omega
   rw[e1]at HI
   clear e1;go_wp2;go_ret;refine⟨?_,rfl⟩;rw[HI.out];rfl
def two (a b:Int) (j:Nat):Int:=if j=0 then a else b
theorem zdP {w:World} {a b t}:El (w.alloc (cells #[.int .i64 a,.int .i64 b] t)) (some ⟨w.heap.size,0,none⟩) 2 (two a b):=λj hj=>by
 refine⟨_,0,rfl,?_⟩
 match j,hj with
 | 0,_=>simp[go_sem,two]
 | 1,_=>simp[go_sem,two]
theorem zhz {a b} (h:lsf (two a b) 2=0):a=0/\b=0:=by
 have h':lstep (lstep 0 a) b=0:=h;have e:lstep 0 a=a:=by simp[lstep]
 rw[e]at h'
 unfold lstep at h'
 split at h' <;> omega
theorem zky {w s} (hs:s.size<=9223372036854775807):Calls prog 108 #[.string s] w λe w'=>e=returned (.bool (zaC s))/\w'=w:=by
 by_cases h1:1<=s.size
 case neg =>
  have HL:Hid (zaC s=false):=by show _=_;simp[zaC,h1]
  have e0:(s.size:Int)<1:=by omega
  clear h1;go_enter func108,ntmps108;go_wp2;go_ret;refine⟨?_,rfl⟩;rw[HL.out];rfl
 by_cases h2:s.size<=16
 case neg =>
  have HL:Hid (zaC s=false):=by show _=_;simp[zaC,h2]
  have e0:¬(s.size:Int)<1:=by omega
  have e1:(s.size:Int) > 16:=by omega
  clear h1 h2;go_enter func108,ntmps108;go_wp2;go_ret;refine⟨?_,rfl⟩;rw[HL.out];rfl
 have h0:0<s.size:=by omega
 obtain⟨x,hx⟩:∃x:Int,((s[0]'h0).toNat:Int)=x:=⟨_,rfl⟩;have hb0:bt s 0=x:=by rw[<-hx];simp[bt,h0]
 have e0:¬(s.size:Int)<1:=by omega
 have e1:¬(s.size:Int) > 16:=by omega
 by_cases ha:x<97
 ·have HL:Hid (zaC s=false):=by show _=_;simp[zaC,hb0,zcj];omega
  clear h1 h2 hb0;go_enter func108,ntmps108;go_wp2;go_ret;refine⟨?_,rfl⟩;rw[HL.out];rfl
 by_cases hz:x > 122
 ·have HL:Hid (zaC s=false):=by show _=_;simp[zaC,hb0,zcj];omega
  clear h1 h2 hb0;go_enter func108,ntmps108;go_wp2;go_ret;refine⟨?_,rfl⟩;rw[HL.out];rfl
 have HL:Hid (zaC s=zhP s s.size 0):=by
  have:zcj x=true:=by simp[zcj];omega
  show _=_;simp[zaC,hb0,this,h1,h2]
 clear h1 h2 hb0;go_enter func108,ntmps108;go_wp2_with fail
 go_loopw[3] (λt wr=>∃(i:Nat),i<=s.size/\t=.int .i64 i/\wr=w/\Hid (zaC s=zhP s (s.size-i) i)) (λt _=>s.size-(intOf t).toNat)
 case atStart=>exact⟨0,by omega,rfl,rfl,HL.out⟩
 case round =>
  obtain⟨i,hi,rfl,rfl,HI⟩:=hrel;by_cases hlt:i<s.size
  ·obtain⟨z,hz'⟩:∃z:Int,((s[i]'hlt).toNat:Int)=z:=⟨_,rfl⟩;have hbi:bt s i=z:=by rw[<-hz'];simp[bt,hlt]
   obtain⟨r,hr⟩:∃r,s.size-i=r+1:=⟨s.size-i-1,by omega⟩;have hT:zaC s=(nchr z && zhP s r (i+1)):=by rw[HI.out,hr];show(nchr (bt s i) && _)=_;rw[hbi]
   have hr2:s.size-(i+1)=r:=by omega
   have HT:=zk hT;have HR:=zk hr2
   have i1:((i:Nat):Int)<((s.size:Nat):Int):=by omega
   clear hT hr2 hr hbi;by_cases c1:z ≥ 97
   ·by_cases c2:z<=122
    ·have HN:Hid (nchr z=true):=by show _=_;simp[nchr,zcj];omega
     go_wp2;go_roundw
     case rel =>
      refine⟨i+1,by omega,by go_num,trivial,?_⟩;show _=_;rw[HT.out,HN.out,HR.out];rfl
     case measure=>simp[intOf];omega
    ·have HN:Hid (nchr z=false):=by show _=_;simp[nchr,zcj,zea];omega
     have c3:z ≥ 48:=by omega
     have c4:¬z<=57:=by omega
     have c5:(z==95)=false:=by simp;omega
     go_wp2;go_ret;refine⟨?_,rfl⟩;rw[HT.out,HN.out];rfl
   ·by_cases c3:z ≥ 48
    ·by_cases c4:z<=57
     ·have HN:Hid (nchr z=true):=by show _=_;simp[nchr,zea];omega
      go_wp2;go_roundw
      case rel =>
       refine⟨i+1,by omega,by go_num,trivial,?_⟩;show _=_;rw[HT.out,HN.out,HR.out];rfl
      case measure=>simp[intOf];omega
     ·by_cases c5:z=95
      ·subst c5;have HN:Hid (nchr 95=true):=rfl;go_wp2;go_roundw
       case rel =>
        refine⟨i+1,by omega,by go_num,trivial,?_⟩;show _=_;rw[HT.out,HN.out,HR.out];rfl
       case measure=>simp[intOf];omega
      ·have HN:Hid (nchr z=false):=by show _=_;simp[nchr,zcj,zea];omega
       have c6:(z==95)=false:=by simp[c5]
       go_wp2;go_ret;refine⟨?_,rfl⟩;rw[HT.out,HN.out];rfl
    ·have HN:Hid (nchr z=false):=by show _=_;simp[nchr,zcj,zea];omega
     have c5:(z==95)=false:=by simp;omega
     go_wp2;go_ret;refine⟨?_,rfl⟩;rw[HT.out,HN.out];rfl
  ·have e1:i=s.size:=by omega
   have HE:Hid (zaC s=true):=by show _=_;rw[HI.out,e1,sub_self];rfl
   have i2:¬(((i:Nat):Int)<((s.size:Nat):Int)):=by omega
   clear e1 HI;go_wp2;go_ret;refine⟨?_,rfl⟩;rw[HE.out];rfl
theorem zjG {w e} (h:NmS w e.v) (l:e.v.n<=1000/\e.v.m<=1000):Calls prog 129 #[e.val] w λr w'=>r=returned (.bool (exF e))/\Bl w w' :=
 zoB (i:=e.i) (s:=e.v.s) h.1 l.1 l.2
theorem zkz {e} (h:exF e=true):e.i=0∨e.i=-1∨e.i=1:=by
 simp only[exF,efB,Bool.and_eq_true,Bool.or_eq_true,decide_eq_true_eq]at h;rcases h.2 with h|⟨h|h,_⟩ <;> omega
theorem zgc {w a b} (ha:NmS w a.v) (hb:NmS w b.v) (la:a.v.n<=1000/\a.v.m<=1000) (lb:b.v.n<=1000/\b.v.m<=1000):Calls prog 107 #[a.val,b.val] w λr w'=>r=returned (.bool (abB a b))/\Bl w w':=by
 have CA:=zk (λw' (hw:Bl w w')=>zjG (w:=w') (ha.q_ hw) la);have CB:=zk (λw' (hw:Bl w w')=>zjG (w:=w') (hb.q_ hw) lb);obtain⟨fa,hfa⟩:∃x,exF a=x:=⟨_,rfl⟩;obtain⟨fb,hfb⟩:∃x,exF b=x:=⟨_,rfl⟩;have hR:abB a b=(fa && (fb && (decide (a.i≠1) && decide (b.i ≠ -1)))):=by simp only[abB,hfa,hfb]
 rw[hfa]at CA
 rw[hfb]at CB
 have HR:=zk hR;have HIa:=zk (show fa=true->a.i=0∨a.i=-1∨a.i=1 from λh=>zkz (hfa.trans h));have HIb:=zk (show fb=true->b.i=0∨b.i=-1∨b.i=1 from λh=>zkz (hfb.trans h));clear hR hfa hfb ha hb la lb;obtain⟨i,⟨s,x,n,c,f,y,m,d,g⟩⟩:=a;obtain⟨j,⟨s2,x2,n2,c2,f2,y2,m2,d2,g2⟩⟩:=b;replace CA:Hid (∀w' (hw:Bl w w'),Calls prog 129 #[agg #[.int .i64 i,.bool s,slice x n c,slice y m d]] w' λr w2=>r=returned (.bool fa)/\Bl w' w2):=CA;replace CB:Hid (∀w' (hw:Bl w w'),Calls prog 129 #[agg #[.int .i64 j,.bool s2,slice x2 n2 c2,slice y2 m2 d2]] w' λr w2=>r=returned (.bool fb)/\Bl w' w2):=CB;replace HR:Hid (abB ⟨i,⟨s,x,n,c,f,y,m,d,g⟩⟩ ⟨j,⟨s2,x2,n2,c2,f2,y2,m2,d2,g2⟩⟩=(fa && (fb && (decide (i≠1) && decide (j ≠ -1))))):=HR;replace HIa:Hid (fa=true->i=0∨i=-1∨i=1):=HIa;replace HIb:Hid (fb=true->j=0∨j=-1∨j=1):=HIb;show Calls prog 107 #[agg #[.int .i64 i,.bool s,slice x n c,slice y m d],agg #[.int .i64 j,.bool s2,slice x2 n2 c2,slice y2 m2 d2]] w _;go_enter func107,ntmps107;go_wp2_with fail
 have HB0:=zk (zu (zB w (cells #[.int .i64 i,.bool s,slice x n c,slice y m d] 40)) (cells #[.int .i64 j,.bool s2,slice x2 n2 c2,slice y2 m2 d2] 40));refine(CA.out _ HB0.out).mono ?_;rintro r w1 ⟨rfl,hb1⟩;have x0:=kCb hb1 (a:=⟨w.heap.size,0,none⟩) (v:=.int .i64 i) (by simp[go_sem]);have b1:=zkR hb1;obtain⟨_,y0,y1,y2',y3⟩:=b1;replace y0:w1.cell? ⟨w.heap.size+1,0,none⟩=some (.int .i64 j):=by simpa using y0
 replace y1:w1.cell? ⟨w.heap.size+1,1,none⟩=some (.bool s2):=by simpa using y1
 replace y2':w1.cell? ⟨w.heap.size+1,2,none⟩=some (slice x2 n2 c2):=by simpa using y2'
 replace y3:w1.cell? ⟨w.heap.size+1,3,none⟩=some (slice y2 m2 d2):=by simpa using y3
 have HB1:=zJ HB0 hb1;clear hb1 HB0;cases fa
 ·go_wp2;go_ret;refine⟨?_,HB1.out⟩;rw[HR.out];rfl
 ·go_wp2_with fail
  refine(CB.out _ HB1.out).mono ?_;rintro r w2 ⟨rfl,hb2⟩;have z0:=kCb hb2 x0;have u0:=kCb hb2 y0;have HB2:=zJ HB1 hb2;clear hb2 HB1 x0 y0 y1 y2' y3;cases fb
  ·go_wp2;go_ret;refine⟨?_,HB2.out⟩;rw[HR.out];rfl
  ·have hi:=HIa.out (by first|exact rfl|exact trivial);have hj:=HIb.out (by first|exact rfl|exact trivial);clear HIa HIb;by_cases h1:i<=0
   ·have HI:=zk (show decide (i≠1)=true from by simp;omega);by_cases h2:j ≥ 0
    ·have HJ:=zk (show decide (j ≠ -1)=true from by simp;omega);clear hi hj;go_wp2;go_ret;refine⟨?_,HB2.out⟩;rw[HR.out,HI.out,HJ.out];simp
    ·have HJ:=zk (show decide (j ≠ -1)=false from by simp;omega);clear hi hj;go_wp2;go_ret;refine⟨?_,HB2.out⟩;rw[HR.out,HI.out,HJ.out];simp[show ¬(0<=j) by omega]
   ·have HI:=zk (show decide (i≠1)=false from by simp;omega);clear hi hj;go_wp2;go_ret;refine⟨?_,HB2.out⟩;rw[HR.out,HI.out];rfl
end Go.Proofs.YtlbgphjdibbkjaaGreat
