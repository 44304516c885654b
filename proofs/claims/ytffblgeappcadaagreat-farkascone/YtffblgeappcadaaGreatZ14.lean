/-
 The walk of package farkas' Crossing, whatever it is handed (written by makers/fk7.py). The walks of package ray's slope, by values, of Recedes, Valid, whatever they are handed (written by makers/ra2.py). The walk of package ray's Along, whatever it is handed (written by makers/ra3.py). The walks of law10's num, two and first (written by makers/rf1.py). The walk of law07's awake (written by makers/f23.py). Ray's calls on values; the walks of law13's one, first, light, of the reference's Twin of a ray, of awake (written by makers/ra4.py). The walks of law12's num, one, first (written by makers/fk8.py). The reference's Same and Sames of lists with the same values. Farkas' calls by values; the walk of law12's awake (written by makers/fk9.py). The walk of law13's awake (written by makers/ra5.py). The reference's models by their values; the walk of the reference's From of a model (written by makers/f32.py).
-/
import Derived.Test.YtffblgeappcadaaGreatZ13
import Derived.Test.YtffblgeappcadaaGreatZ10
import Derived.Test.YtffblgeappcadaaGreatZ12
import Derived.Test.YtffblgeappcadaaGreatZ0
import Derived.Test.YtffblgeappcadaaGreatZ9
import Derived.Test.YtffblgeappcadaaGreatZ8
import Derived.Test.YtffblgeappcadaaGreatZ6
import Derived.BigQuiet
import Derived.Deep.RegionHeld3
import Derived.BigRegion
import Derived.Test.YtffblgeappcadaaGreatZ11
namespace Go.Proofs.YtffblgeappcadaaGreat
open Go.RowKit
def ulst (n:Nat) (j:Option Nat):List Rat:=(List.range n).map (fun i=>if j=some i then 1 else 0)
theorem ulst_len (n:Nat) (j:Option Nat):(ulst n j).length=n:=by simp [ulst]
def hdN (l:List Int):Option Nat:=l.head?.map Int.toNat
def jcl (cs:List CV):Option Nat:=hdN (crl (cvC cs) cs.length)
def jrw (cs:List CV) (rs:List RV):Option Nat:=if crl (cvC cs) cs.length=[] then hdN (crl (cvR rs) rs.length) else none
def CsgAns (w w':World) (e:Ending) (er:Int) (cs:List CV) (rs:List RV):Prop:=Below w.heap.size w w' ∧
 ((er≠0∧e=.returned (.tuple #[.agg #[.slice none 0 0,.slice none 0 0,.slice none 0 0,.slice none 0 0],.int .i64 er]))∨(er=0∧(crl (cvC cs) cs.length=[]∧crl (cvR rs) rs.length=[])∧e=.returned (.tuple #[.agg #[.slice none 0 0,.slice none 0 0,.slice none 0 0,.slice none 0 0],.int .i64 9])) ∨
  (er=0∧¬(crl (cvC cs) cs.length=[]∧crl (cvR rs) rs.length=[])∧∃B0 B1 B2 B3,e=.returned (.tuple #[.agg #[.slice (some ⟨B0,0,none⟩) rs.length rs.length,.slice (some ⟨B1,0,none⟩) rs.length rs.length,.slice (some ⟨B2,0,none⟩) cs.length cs.length,.slice (some ⟨B3,0,none⟩) cs.length cs.length],.int .i64 0]) ∧
   (Rf 4 w' (some ⟨B0,0,none⟩) (ulst rs.length (jrw cs rs))∧Rf 4 w' (some ⟨B1,0,none⟩) (ulst rs.length (jrw cs rs))∧Rf 4 w' (some ⟨B2,0,none⟩) (ulst cs.length (jcl cs))∧Rf 4 w' (some ⟨B3,0,none⟩) (ulst cs.length (jcl cs)))))
theorem rq_ulst {L w B n Q} {j:Option Nat} (h:Rq L w B n Q) (hq:∀i,i<n→Q i=if j=some i then 1 else 0):Rf L w (some ⟨B,0,none⟩) (ulst n j) :=
 h.rf (ulst_len n j) (fun i hi=>by rw [ulst,range_map_get _ _ _ hi,hq i hi])
theorem crl_head {B:Nat→Bool} {n:Nat} {z:Int} {l:List Int} (h:crl B n=z :: l):∃j:Nat,z=(j:Int)∧j<n:=by
 have hz:z ∈ crl B n:=by rw [h];exact List.mem_cons_self
 have key:∀n,∀z ∈ crl B n,∃j:Nat,z=(j:Int)∧j<n:=by
  intro n
  induction n with
  | zero=>intro z hz;cases hz
  | succ n ih =>
   intro z hz;simp only [crl,List.mem_append] at hz;rcases hz with hz | hz
   ·obtain ⟨j,h1,h2⟩:=ih z hz;exact ⟨j,h1,by omega⟩
   ·split at hz
    ·exact ⟨n,by simpa using hz,by omega⟩
    ·cases hz
 exact key n z hz
set_option maxRecDepth 100000 in
set_option maxHeartbeats 8000000 in
theorem fCrossing_v {w:World} {L:Nat} {M:Mo} {off:Rat} {cs:List CV} {rs:List RV} {er:Int} (hW:MoW w M) (hm:M.ck≤64→M.rk≤64→MoB M) (he:chkE M=er) (hv:er=0→MoV L w M off cs rs∧mvOk cs rs=true) :
  Calls Tryz.prog 20 #[M.val] w fun e w'=>CsgAns w w' e er cs rs:=by
 have CC:=hid (fun W (hW2:Below w.heap.size w W)=>crossed_c (hW.below hW2) hm);have HV:Hid (er=0→(crl (ccB M.C) M.ck=crl (cvC cs) cs.length∧crl (rcB M.R) M.rk=crl (cvR rs) rs.length)∧M.ck=cs.length∧M.rk=rs.length∧cs.length≤64∧rs.length≤64):=fun h=>by obtain ⟨v1,v2⟩:=hv h;have mp:=mvOk_p v2;exact ⟨v1.crl,v1.ck,v1.rk,mp.cl,mp.rl⟩
 clear hW hm hv;unfold CrAns at CC;rw [he] at CC;clear he;obtain ⟨⟨s,x,n,c,f,y,m,d,g⟩,ca,ck,cc,C,ra,rk,rc,R⟩:=M;dsimp only at HV CC;obtain ⟨lx,hlx⟩:∃t,crl (ccB C) ck=t:=⟨_,rfl⟩;obtain ⟨ly,hly⟩:∃t,crl (rcB R) rk=t:=⟨_,rfl⟩;rw [hlx,hly] at CC HV;have hxl:lx.length≤ck:=by rw [←hlx];exact crl_len _ _
 have hyl:ly.length≤rk:=by rw [←hly];exact crl_len _ _
 clear hlx hly;replace CC:Hid (∀W,Below w.heap.size w W→Calls Tryz.prog 50 #[.agg #[.bool s,.slice x n c,.slice y m d,.slice ca ck cc,.slice ra rk rc]] W fun e w'=>(er≠0∧e=.returned (.tuple #[.slice none 0 0,.slice none 0 0,.int .i64 er])∧Below W.heap.size W w')∨(er=0∧∃xa xc ya yc,e=.returned (.tuple #[.slice xa lx.length xc,.slice ya ly.length yc,.int .i64 0])∧Below W.heap.size W w'∧Il w' xa lx∧Il w' ya ly)):=CC;show Calls Tryz.prog 20 #[.agg #[.bool s,.slice x n c,.slice y m d,.slice ca ck cc,.slice ra rk rc]] w _;have hb:=below_alloc (below_alloc (Below.refl w.heap.size w) (.cells #[.bool s,.slice x n c,.slice y m d,.slice ca ck cc,.slice ra rk rc] 28)) (.cells #[.slice none 0 0,.slice none 0 0,.slice none 0 0,.slice none 0 0] 31);have B1:Bk ((w.alloc (.cells #[.bool s,.slice x n c,.slice y m d,.slice ca ck cc,.slice ra rk rc] 28)).alloc (.cells #[.slice none 0 0,.slice none 0 0,.slice none 0 0,.slice none 0 0] 31)) w.heap.size [.bool s,.slice x n c,.slice y m d,.slice ca ck cc,.slice ra rk rc] 28:=(bk_new w [.bool s,.slice x n c,.slice y m d,.slice ca ck cc,.slice ra rk rc] 28).below (below_alloc (Below.refl _ _) _);have B2:Bk ((w.alloc (.cells #[.bool s,.slice x n c,.slice y m d,.slice ca ck cc,.slice ra rk rc] 28)).alloc (.cells #[.slice none 0 0,.slice none 0 0,.slice none 0 0,.slice none 0 0] 31)) (w.heap.size+1) [.slice none 0 0,.slice none 0 0,.slice none 0 0,.slice none 0 0] 31:=by
  have:=bk_new (w.alloc (.cells #[.bool s,.slice x n c,.slice y m d,.slice ca ck cc,.slice ra rk rc] 28)) [.slice none 0 0,.slice none 0 0,.slice none 0 0,.slice none 0 0] 31;rw [size_alloc1] at this;exact this
 have HB:=hid hb;have BM:=hid B1;have BZ:=hid B2
 clear hb B1 B2;go_enter Tryz.func20,Tryz.ntmps20;go_upto_region 1 with fail
 generalize ((w.alloc (.cells #[.bool s,.slice x n c,.slice y m d,.slice ca ck cc,.slice ra rk rc] 28)).alloc (.cells #[.slice none 0 0,.slice none 0 0,.slice none 0 0,.slice none 0 0] 31))=w1 at *;have r0:=BM.out.cell (j:=0) rfl;have r1:=BM.out.cell (j:=1) rfl;have r2:=BM.out.cell (j:=2) rfl;have r3:=BM.out.cell (j:=3) rfl;have r4:=BM.out.cell (j:=4) rfl;go_wp2_with fail
 clear r0 r1 r2 r3 r4
 go_at_call 50
 refine (CC.out _ HB.out).mono ?_;clear CC;rintro e w2 (⟨h0,rfl,hb2⟩ | ⟨h0,xa,xc,ya,yc,rfl,hb2,hxa,hya⟩)
 ·replace HB:=hid (HB.out.trans (hb2.mono HB.out.size));replace BM:=hid (BM.out.below hb2);replace BZ:=hid (BZ.out.below hb2)
  clear hb2;have h1:(er != 0)=true:=by simpa using h0
  have H0:=hid h0;have l0:=BZ.out.cell (j:=0) rfl;have l1:=BZ.out.cell (j:=1) rfl;have l2:=BZ.out.cell (j:=2) rfl;have l3:=BZ.out.cell (j:=3) rfl;have ff:=BZ.out.frozen;obtain ⟨hx1,hx2,hx3⟩:=st_new [.slice none 0 0,.slice none 0 0,.slice none 0 0,.slice none 0 0] BZ.out (nou_list (fun u hu q=>by simp at hu;subst hu;simp)) HB.out (Nat.le_succ _);have HX:Hid (CsgAns w (stl (w.heap.size+1) 0 [.slice none 0 0,.slice none 0 0,.slice none 0 0,.slice none 0 0] w2) (.returned (.tuple #[.agg #[.slice none 0 0,.slice none 0 0,.slice none 0 0,.slice none 0 0],.int .i64 er])) er cs rs):=⟨hx1,.inl ⟨H0.out,rfl⟩⟩;clear hx1 hx2 hx3 HB BM BZ HV;go_wp2;exact bodyPost_ret (v:=.tuple #[.agg #[.slice none 0 0,.slice none 0 0,.slice none 0 0,.slice none 0 0],.int .i64 er]) (by simp [results,Tryz.results20,go_sem,l0,l1,l2,l3]) rfl HX.out
 ·replace HB:=hid (HB.out.trans (hb2.mono HB.out.size));replace BM:=hid (BM.out.below hb2);replace BZ:=hid (BZ.out.below hb2)
  clear hb2;obtain ⟨⟨ex,ey⟩,e1,e2,e3,e4⟩:=HV.out h0;subst h0;rw [e1] at hxl;rw [e2] at hyl
  subst e1;subst e2
  have HX:=hid hxa;have HY:=hid hya;have EX:=hid ex.symm;have EY:=hid ey.symm
  clear hxa hya ex ey HV;by_cases hz:lx.length+ly.length=0
  case pos =>
   have hx0:lx.length=0:=by omega
   have hy0:ly.length=0:=by omega
   rw [hx0,hy0];have l0:=BZ.out.cell (j:=0) rfl;have l1:=BZ.out.cell (j:=1) rfl;have l2:=BZ.out.cell (j:=2) rfl;have l3:=BZ.out.cell (j:=3) rfl;have ff:=BZ.out.frozen;obtain ⟨hx1,hx2,hx3⟩:=st_new [.slice none 0 0,.slice none 0 0,.slice none 0 0,.slice none 0 0] BZ.out (nou_list (fun u hu q=>by simp at hu;subst hu;simp)) HB.out (Nat.le_succ _);have HX:Hid (CsgAns w (stl (w.heap.size+1) 0 [.slice none 0 0,.slice none 0 0,.slice none 0 0,.slice none 0 0] w2) (.returned (.tuple #[.agg #[.slice none 0 0,.slice none 0 0,.slice none 0 0,.slice none 0 0],.int .i64 9])) 0 cs rs):=⟨hx1,.inr (.inl ⟨rfl,⟨EX.out.trans (List.eq_nil_of_length_eq_zero (by omega)),EY.out.trans (List.eq_nil_of_length_eq_zero (by omega))⟩,rfl⟩)⟩;clear hx1 hx2 hx3 HB BM BZ;go_wp2;exact bodyPost_ret (v:=.tuple #[.agg #[.slice none 0 0,.slice none 0 0,.slice none 0 0,.slice none 0 0],.int .i64 9]) (by simp [results,Tryz.results20,go_sem,l0,l1,l2,l3]) rfl HX.out
  have hz1:(((lx.length:Nat):Int)+((ly.length:Nat):Int)==0)=false:=by simp;omega
  have s3:=BM.out.cell (j:=3) rfl;have s4:=BM.out.cell (j:=4) rfl
  go_upto_region 6 with fail
  go_quiet (fail)
  clear s3 s4 hz1;have hbq:=below_drewN (Below.refl w2.heap.size w2) nq;generalize w2.drewN nq=w3 at *;replace HB:=hid (HB.out.trans (hbq.mono HB.out.size));replace BM:=hid (BM.out.below hbq);replace BZ:=hid (BZ.out.below hbq)
  replace HX:=hid (HX.out.below hbq);replace HY:=hid (HY.out.below hbq)
  clear hbq;have hw3:w.heap.size+1<w3.heap.size:=BZ.out.lt;go_wp2_with fail
  go_at_call 30
  refine (noughts_c e4).mono ?_;rintro e v0 ⟨B0,rfl,hB0,hb0,hk0,hq0⟩;replace HB:=hid (HB.out.trans (hb0.mono HB.out.size));replace BM:=hid (BM.out.below hb0);replace BZ:=hid (BZ.out.below hb0)
  have RK0:=hid hk0;have RQ0:=hid hq0
  have z0:=hk0.z;have hs0:=hb0.size;have HI0:=hid (hb0);clear hb0 hk0 hq0;go_wp2_with fail
  go_at_call 30
  refine (noughts_c e4).mono ?_;rintro e v1 ⟨B1,rfl,hB1,hb1,hk1,hq1⟩;replace HB:=hid (HB.out.trans (hb1.mono HB.out.size));replace BM:=hid (BM.out.below hb1);replace BZ:=hid (BZ.out.below hb1)
  replace RK0:=hid (RK0.out.below hb1);replace RQ0:=hid (RQ0.out.below hb1)
  have RK1:=hid hk1;have RQ1:=hid hq1
  have z1:=hk1.z;have hs1:=hb1.size;replace HI0:=hid (HI0.out.trans (hb1.mono HI0.out.size));clear hb1 hk1 hq1;go_wp2_with fail
  go_at_call 30
  refine (noughts_c e3).mono ?_;rintro e v2 ⟨B2,rfl,hB2,hb2,hk2,hq2⟩;replace HB:=hid (HB.out.trans (hb2.mono HB.out.size));replace BM:=hid (BM.out.below hb2);replace BZ:=hid (BZ.out.below hb2)
  replace RK0:=hid (RK0.out.below hb2);replace RQ0:=hid (RQ0.out.below hb2)
  replace RK1:=hid (RK1.out.below hb2);replace RQ1:=hid (RQ1.out.below hb2)
  have RK2:=hid hk2;have RQ2:=hid hq2
  have z2:=hk2.z;have hs2:=hb2.size;replace HI0:=hid (HI0.out.trans (hb2.mono HI0.out.size));clear hb2 hk2 hq2;go_wp2_with fail
  go_at_call 30
  refine (noughts_c e3).mono ?_;rintro e v3 ⟨B3,rfl,hB3,hb3,hk3,hq3⟩;replace HB:=hid (HB.out.trans (hb3.mono HB.out.size));replace BM:=hid (BM.out.below hb3);replace BZ:=hid (BZ.out.below hb3)
  replace RK0:=hid (RK0.out.below hb3);replace RQ0:=hid (RQ0.out.below hb3)
  replace RK1:=hid (RK1.out.below hb3);replace RQ1:=hid (RQ1.out.below hb3)
  replace RK2:=hid (RK2.out.below hb3);replace RQ2:=hid (RQ2.out.below hb3)
  have RK3:=hid hk3;have RQ3:=hid hq3
  have z3:=hk3.z;have hs3:=hb3.size;replace HI0:=hid (HI0.out.trans (hb3.mono HI0.out.size));clear hb3 hk3 hq3;have hbn:=below_alloc (Below.refl v3.heap.size v3) (.cells #[.slice (some ⟨B0,0,none⟩) rs.length rs.length,.slice (some ⟨B1,0,none⟩) rs.length rs.length,.slice (some ⟨B2,0,none⟩) cs.length cs.length,.slice (some ⟨B3,0,none⟩) cs.length cs.length] 31);have BC:=hid (bk_new v3 [.slice (some ⟨B0,0,none⟩) rs.length rs.length,.slice (some ⟨B1,0,none⟩) rs.length rs.length,.slice (some ⟨B2,0,none⟩) cs.length cs.length,.slice (some ⟨B3,0,none⟩) cs.length cs.length] 31);replace BC:Hid (Bk (v3.alloc (.cells #[.slice (some ⟨B0,0,none⟩) rs.length rs.length,.slice (some ⟨B1,0,none⟩) rs.length rs.length,.slice (some ⟨B2,0,none⟩) cs.length cs.length,.slice (some ⟨B3,0,none⟩) cs.length cs.length] 31)) v3.heap.size [.slice (some ⟨B0,0,none⟩) rs.length rs.length,.slice (some ⟨B1,0,none⟩) rs.length rs.length,.slice (some ⟨B2,0,none⟩) cs.length cs.length,.slice (some ⟨B3,0,none⟩) cs.length cs.length] 31):=BC;replace HI0:=hid (HI0.out.trans (hbn.mono HI0.out.size));replace HB:=hid (HB.out.trans (hbn.mono HB.out.size));replace BM:=hid (BM.out.below hbn);replace BZ:=hid (BZ.out.below hbn)
  replace RK0:=hid (RK0.out.below hbn);replace RQ0:=hid (RQ0.out.below hbn)
  replace RK1:=hid (RK1.out.below hbn);replace RQ1:=hid (RQ1.out.below hbn)
  replace RK2:=hid (RK2.out.below hbn);replace RQ2:=hid (RQ2.out.below hbn)
  replace RK3:=hid (RK3.out.below hbn);replace RQ3:=hid (RQ3.out.below hbn)
  clear hbn;by_cases hx:lx.length=0
  case pos =>
   have hy:¬ly.length=0:=by omega
   have i0':¬((0:Int)<((lx.length:Nat):Int)):=by omega
   have HJ:Hid (jcl cs=none):=by show _=_;rw [jcl,EX.out,List.eq_nil_of_length_eq_zero hx];rfl
   have HJ2:Hid (∀z l,ly=z :: l→jrw cs rs=some z.toNat):=fun z l h=>by rw [jrw,EX.out,if_pos (List.eq_nil_of_length_eq_zero hx),EY.out,h];rfl
   have HN:Hid (¬(crl (cvC cs) cs.length=[]∧crl (cvR rs) rs.length=[])):=fun h=>hy (by rw [←EY.out,h.2];rfl)
   obtain ⟨z,l,hl⟩:∃z l,ly=z :: l:=by
    cases hc:ly with
    | nil=>exact absurd (by rw [hc];rfl) hy
    | cons z l=>exact ⟨z,l,rfl⟩
   obtain ⟨jn,rfl,hjn⟩:=crl_head (EY.out.trans hl);obtain ⟨bi,oi,hxe,hci⟩:=HY.out 0 (jn:Int) (by rw [hl];rfl);replace hci:w3.cell? ⟨bi,oi,none⟩=some (.int .i64 jn):=hci;subst hxe;have hbi:bi<w3.heap.size:=World.block_lt_of_cell? w3 _ hci;have hci2:=kCb HI0.out hci;have i1':(0:Int)<((ly.length:Nat):Int):=by rw [hl,List.length_cons];omega
   have i3':0<ly.length:=by omega
   have i2':((jn:Nat):Int)<((rs.length:Nat):Int):=by omega
   have HLL:=hid hl;clear hci hl;go_upto_region 10 with fail
   generalize hv4:v3.alloc (.cells #[.slice (some ⟨B0,0,none⟩) rs.length rs.length,.slice (some ⟨B1,0,none⟩) rs.length rs.length,.slice (some ⟨B2,0,none⟩) cs.length cs.length,.slice (some ⟨B3,0,none⟩) cs.length cs.length] 31)=v4 at *;clear hv4;generalize v3.heap.size=xc at *;have c0:=BC.out.cell (j:=0) rfl;have c1:=BC.out.cell (j:=1) rfl
   refine wp_region_phase (S:=(fun w'=>w'.cell? ⟨xc,0,none⟩=some (.slice (some ⟨B0,0,none⟩) rs.length rs.length)∧w'.cell? ⟨xc,1,none⟩=some (.slice (some ⟨B1,0,none⟩) rs.length rs.length)∧w'.cell? ⟨bi,oi,none⟩=some (.int .i64 jn))) 15 (by kernel_rfl) ⟨kCd c0,kCd c1,kCd hci2⟩ (fun hHeld=>?_);clear c0 c1 hci2;have hbd:=Below.drew (Below.refl v4.heap.size v4);replace HB:=hid (HB.out.trans (hbd.mono HB.out.size));replace BZ:=hid (BZ.out.below hbd);replace BC:=hid (BC.out.below hbd)
   replace RK0:=hid (RK0.out.below hbd);replace RQ0:=hid (RQ0.out.below hbd)
   replace RK1:=hid (RK1.out.below hbd);replace RQ1:=hid (RQ1.out.below hbd)
   replace RK2:=hid (RK2.out.below hbd);replace RQ2:=hid (RQ2.out.below hbd)
   replace RK3:=hid (RK3.out.below hbd);replace RQ3:=hid (RQ3.out.below hbd)
   clear hbd;generalize v4.drew=v5 at *;refine wpAnyP_skim (i:=0) (v:=?_) rfl (by kernel_rfl) (by kernel_rfl) (by kernel_rfl) (by kernel_rfl) (fun _ _ _ h=>h) (Or.inl ⟨by rfl,?_⟩) (fun _=>by assumption) ?_;rotate_left
   (focus (intro w0 hSw;go_simp <;> with_reducible rfl))
   simp only [List.getElem_toArray,List.getElem_cons_zero,Act.put,List.setIfInBounds_toArray,List.set_cons_zero,List.set_cons_succ];refine wpAnyP_takeA (i:=1) (v:=?_) rfl (by kernel_rfl) (by kernel_rfl) (by kernel_rfl) (by kernel_rfl) (by kernel_rfl) (by kernel_rfl) (fun _ _ _ h=>h) (Or.inl ⟨by rfl,?_⟩) (by assumption) ?_;rotate_left
   (focus (intro w0 hSw;(try dsimp only at hSw);go_simp <;> with_reducible rfl))
   simp only [List.getElem_toArray,List.getElem_cons_succ,List.getElem_cons_zero,Act.put,List.setIfInBounds_toArray,List.set_cons_zero,List.set_cons_succ];refine wpAnyP_skim (i:=2) (v:=?_) rfl (by kernel_rfl) (by kernel_rfl) (by kernel_rfl) (by kernel_rfl) (fun _ _ _ h=>h) (Or.inl ⟨by rfl,?_⟩) (fun _=>by assumption) ?_;rotate_left
   (focus (intro w0 hSw;go_simp <;> with_reducible rfl))
   simp only [List.getElem_toArray,List.getElem_cons_succ,List.getElem_cons_zero,Act.put,List.setIfInBounds_toArray,List.set_cons_zero,List.set_cons_succ];refine wpAnyP_skim (i:=3) (v:=?_) rfl (by kernel_rfl) (by kernel_rfl) (by kernel_rfl) (by kernel_rfl) (fun _ _ _ h=>h) (Or.inl ⟨by rfl,?_⟩) (fun _=>by assumption) ?_;rotate_left
   (focus (intro w0 hSw;go_simp <;> with_reducible rfl))
   simp only [List.getElem_toArray,List.getElem_cons_succ,List.getElem_cons_zero,Act.put,List.setIfInBounds_toArray,List.set_cons_zero,List.set_cons_succ];refine wpAnyP_takeA (i:=4) (v:=?_) rfl (by kernel_rfl) (by kernel_rfl) (by kernel_rfl) (by kernel_rfl) (by kernel_rfl) (by kernel_rfl) (fun _ _ _ h=>h) (Or.inl ⟨by rfl,?_⟩) (by assumption) ?_;rotate_left
   (focus (intro w0 hSw;(try dsimp only at hSw);go_simp <;> with_reducible rfl))
   simp only [List.getElem_toArray,List.getElem_cons_succ,List.getElem_cons_zero,Act.put,List.setIfInBounds_toArray,List.set_cons_zero,List.set_cons_succ];refine wpAnyP_skim (i:=5) (v:=?_) rfl (by kernel_rfl) (by kernel_rfl) (by kernel_rfl) (by kernel_rfl) (fun _ _ _ h=>h) (Or.inl ⟨by rfl,?_⟩) (fun _=>by assumption) ?_;rotate_left
   (focus (intro w0 hSw;go_simp <;> with_reducible rfl))
   simp only [List.getElem_toArray,List.getElem_cons_succ,List.getElem_cons_zero,Act.put,List.setIfInBounds_toArray,List.set_cons_zero,List.set_cons_succ];refine wpAnyP_takeA (i:=6) (v:=?_) rfl (by kernel_rfl) (by kernel_rfl) (by kernel_rfl) (by kernel_rfl) (by kernel_rfl) (by kernel_rfl) (fun _ _ _ h=>h) (Or.inl ⟨by rfl,?_⟩) (by assumption) ?_;rotate_left
   (focus (intro w0 hSw;(try dsimp only at hSw);go_simp <;> with_reducible rfl))
   simp only [List.getElem_toArray,List.getElem_cons_succ,List.getElem_cons_zero,Act.put,List.setIfInBounds_toArray,List.set_cons_zero,List.set_cons_succ];refine wpAnyP_skim (i:=7) (v:=?_) rfl (by kernel_rfl) (by kernel_rfl) (by kernel_rfl) (by kernel_rfl) (fun _ _ _ h=>h) (Or.inl ⟨by rfl,?_⟩) (fun _=>by assumption) ?_;rotate_left
   (focus (intro w0 hSw;go_simp <;> with_reducible rfl))
   simp only [List.getElem_toArray,List.getElem_cons_succ,List.getElem_cons_zero,Act.put,List.setIfInBounds_toArray,List.set_cons_zero,List.set_cons_succ];refine wpAnyP_skim (i:=8) (v:=?_) rfl (by kernel_rfl) (by kernel_rfl) (by kernel_rfl) (by kernel_rfl) (fun _ _ _ h=>h) (Or.inl ⟨by rfl,?_⟩) (fun _=>by assumption) ?_;rotate_left
   (focus (intro w0 hSw;go_simp <;> with_reducible rfl))
   simp only [List.getElem_toArray,List.getElem_cons_succ,List.getElem_cons_zero,Act.put,List.setIfInBounds_toArray,List.set_cons_zero,List.set_cons_succ];refine wpAnyP_takeA (i:=9) (v:=?_) rfl (by kernel_rfl) (by kernel_rfl) (by kernel_rfl) (by kernel_rfl) (by kernel_rfl) (by kernel_rfl) (fun _ _ _ h=>h) (Or.inl ⟨by rfl,?_⟩) (by assumption) ?_;rotate_left
   (focus (intro w0 hSw;(try dsimp only at hSw);go_simp <;> with_reducible rfl))
   simp only [List.getElem_toArray,List.getElem_cons_succ,List.getElem_cons_zero,Act.put,List.setIfInBounds_toArray,List.set_cons_zero,List.set_cons_succ];refine wpAnyP_ready (rs:=[10]) (by kernel_rfl) (by simp) ?_;refine AllReadyP.cons (o:=_) rfl (fun K hK=>?_) ?_;rotate_left;exact AllReadyP.nil;go_simp
   go_at_call 31
   refine (rOf_c (z:=1) (by decide) (by decide)).mono ?_;rintro e v6 ⟨s8,x8,n8,c8,f8,y8,m8,d8,g8,rfl,hbj,hqj⟩
   (try go_wp2_with fail)
   have t8:=And.intro (kCb hbj hHeld.1) (And.intro (kCb hbj hHeld.2.1) (kCb hbj hHeld.2.2));refine hK.out _ _ (fun _=>t8) (fun hS9=>?_);clear hK K hS9;try simp only [Act.put,List.setIfInBounds_toArray,List.set_cons_zero,List.set_cons_succ]
   replace HB:=hid (HB.out.trans (hbj.mono HB.out.size));replace BZ:=hid (BZ.out.below hbj);replace BC:=hid (BC.out.below hbj)
   replace RK0:=hid (RK0.out.below hbj);replace RQ0:=hid (RQ0.out.below hbj)
   replace RK1:=hid (RK1.out.below hbj);replace RQ1:=hid (RQ1.out.below hbj)
   replace RK2:=hid (RK2.out.below hbj);replace RQ2:=hid (RQ2.out.below hbj)
   replace RK3:=hid (RK3.out.below hbj);replace RQ3:=hid (RQ3.out.below hbj)
   have RN8:=hid (show Rn 4 v6 s8 x8 n8 c8 f8 y8 m8 d8 g8 1 from hqj);clear hbj hqj;refine wpAnyP_ready (rs:=[11]) (by kernel_rfl) (by simp) ?_;refine AllReadyP.cons (o:=_) rfl (fun K hK=>?_) ?_;rotate_left;exact AllReadyP.nil;go_simp
   go_at_call 31
   refine (rOf_c (z:=1) (by decide) (by decide)).mono ?_;rintro e v7 ⟨s9,x9,n9,c9,f9,y9,m9,d9,g9,rfl,hbj,hqj⟩
   (try go_wp2_with fail)
   have t9:=And.intro (kCb hbj t8.1) (And.intro (kCb hbj t8.2.1) (kCb hbj t8.2.2));refine hK.out _ _ (fun _=>t9) (fun hS9=>?_);clear hK K hS9;try simp only [Act.put,List.setIfInBounds_toArray,List.set_cons_zero,List.set_cons_succ]
   replace HB:=hid (HB.out.trans (hbj.mono HB.out.size));replace BZ:=hid (BZ.out.below hbj);replace BC:=hid (BC.out.below hbj)
   replace RK0:=hid (RK0.out.below hbj);replace RQ0:=hid (RQ0.out.below hbj)
   replace RK1:=hid (RK1.out.below hbj);replace RQ1:=hid (RQ1.out.below hbj)
   replace RK2:=hid (RK2.out.below hbj);replace RQ2:=hid (RQ2.out.below hbj)
   replace RK3:=hid (RK3.out.below hbj);replace RQ3:=hid (RQ3.out.below hbj)
   replace RN8:=hid (RN8.out.below hbj);have RN9:=hid (show Rn 4 v7 s9 x9 n9 c9 f9 y9 m9 d9 g9 1 from hqj);clear hbj hqj;refine wpAnyP_ready (rs:=[12]) (by kernel_rfl) (by simp) ?_;refine AllReadyP.cons (o:=_) rfl (fun K hK=>?_) ?_;rotate_left;exact AllReadyP.nil;go_simp;refine hK.out _ _ (fun _=>t9) (fun hS9=>?_);clear hK K hS9;try simp only [Act.put,List.setIfInBounds_toArray,List.set_cons_zero,List.set_cons_succ]
   refine wpAnyP_ready (rs:=[13]) (by kernel_rfl) (by simp) ?_;refine AllReadyP.cons (o:=_) rfl (fun K hK=>?_) ?_;rotate_left;exact AllReadyP.nil;have hk:=RK0.out;have tf:=hk.fz;obtain ⟨_,k0,_⟩:=hk.has (jn*3) (by omega);obtain ⟨_,k1,_⟩:=hk.has (jn*3+1) (by omega);obtain ⟨_,k2,_⟩:=hk.has (jn*3+2) (by omega);have FG:=hid (rk_fr (s:=s8) (x:=x8) (k:=n8) (c:=c8) (y:=y8) (m:=m8) (d:=d8) hk hjn);obtain ⟨R1a,R2a⟩:=rq_st (i':=rs.length) (j:=jn) (Q':=fun i=>if some jn=some i then 1 else 0) hk RQ0.out hjn (by rw [if_pos rfl];exact RN8.out) (fun j' h1 h2=>⟨h1,by show (if _ then _ else _)=_;rw [if_neg (fun e=>h2 (Option.some.inj e).symm)]⟩);have QK0:=hid R2a;clear R1a R2a hk;go_simp;have t0:=And.intro (FG.out.cell (show ¬(xc=B0) by omega) t9.1) (And.intro (FG.out.cell (show ¬(xc=B0) by omega) t9.2.1) (FG.out.cell (show ¬(bi=B0) by omega) t9.2.2));refine hK.out _ _ (fun _=>t0) (fun hS9=>?_);clear hK K hS9;try simp only [Act.put,List.setIfInBounds_toArray,List.set_cons_zero,List.set_cons_succ]
   have HBs:=hid (below_at (o:=jn*3) (u0:=.bool s8) (u1:=.slice x8 n8 c8) (u2:=.slice y8 m8 d8) HB.out (show w.heap.size≤B0 by omega));replace BZ:=hid (FG.out.bk BZ.out (by omega));replace BC:=hid (FG.out.bk BC.out (by omega));replace RN9:=hid (FG.out.rn RN9.out)
   replace RK1:=hid (RK1.out.fr FG.out (by omega));replace RQ1:=hid (RQ1.out.fr FG.out (by omega))
   replace RK2:=hid (RK2.out.fr FG.out (by omega));replace RQ2:=hid (RQ2.out.fr FG.out (by omega))
   replace RK3:=hid (RK3.out.fr FG.out (by omega));replace RQ3:=hid (RQ3.out.fr FG.out (by omega))
   clear RK0 RQ0 FG k0 k1 k2 tf HB;generalize ((v7.setCell ⟨B0,jn*3,none⟩ (.bool s8)).setCell ⟨B0,jn*3+1,none⟩ (.slice x8 n8 c8)).setCell ⟨B0,jn*3+2,none⟩ (.slice y8 m8 d8)=v8 at *;refine wpAnyP_ready (rs:=[14]) (by kernel_rfl) (by simp) ?_;refine AllReadyP.cons (o:=_) rfl (fun K hK=>?_) ?_;rotate_left;exact AllReadyP.nil;go_simp;refine hK.out _ _ (fun _=>t0) (fun hS9=>?_);clear hK K hS9;try simp only [Act.put,List.setIfInBounds_toArray,List.set_cons_zero,List.set_cons_succ]
   refine wpAnyP_ready (rs:=[15]) (by kernel_rfl) (by simp) ?_;refine AllReadyP.cons (o:=_) rfl (fun K hK=>?_) ?_;rotate_left;exact AllReadyP.nil;have hk:=RK1.out;have tf:=hk.fz;obtain ⟨_,k0,_⟩:=hk.has (jn*3) (by omega);obtain ⟨_,k1,_⟩:=hk.has (jn*3+1) (by omega);obtain ⟨_,k2,_⟩:=hk.has (jn*3+2) (by omega);have FG:=hid (rk_fr (s:=s9) (x:=x9) (k:=n9) (c:=c9) (y:=y9) (m:=m9) (d:=d9) hk hjn);obtain ⟨R1a,R2a⟩:=rq_st (i':=rs.length) (j:=jn) (Q':=fun i=>if some jn=some i then 1 else 0) hk RQ1.out hjn (by rw [if_pos rfl];exact RN9.out) (fun j' h1 h2=>⟨h1,by show (if _ then _ else _)=_;rw [if_neg (fun e=>h2 (Option.some.inj e).symm)]⟩);have QK1:=hid R2a;clear R1a R2a hk;go_simp;refine hK.out _ _ (fun h=>by cases h) (fun _=>?_);clear hK K;try simp only [Act.put,List.setIfInBounds_toArray,List.set_cons_zero,List.set_cons_succ]
   have HBf:=hid (below_at (o:=jn*3) (u0:=.bool s9) (u1:=.slice x9 n9 c9) (u2:=.slice y9 m9 d9) HBs.out (show w.heap.size≤B1 by omega));replace BZ:=hid (FG.out.bk BZ.out (by omega));replace BC:=hid (FG.out.bk BC.out (by omega));replace QK0:=hid (QK0.out.fr FG.out (by omega))
   replace RQ2:=hid (RQ2.out.fr FG.out (by omega));replace RQ3:=hid (RQ3.out.fr FG.out (by omega));clear RK1 RK2 RK3;clear RQ1 FG k0 k1 k2 tf HBs RN8 RN9 t0 t8 t9 hHeld;refine wpAnyP_done (by kernel_rfl) ?_ _;generalize ((v8.setCell ⟨B1,jn*3,none⟩ (.bool s9)).setCell ⟨B1,jn*3+1,none⟩ (.slice x9 n9 c9)).setCell ⟨B1,jn*3+2,none⟩ (.slice y9 m9 d9)=v9 at *;have b0:=BC.out.cell (j:=0) rfl;have b1:=BC.out.cell (j:=1) rfl;have b2:=BC.out.cell (j:=2) rfl;have b3:=BC.out.cell (j:=3) rfl;have l0:=BZ.out.cell (j:=0) rfl;have l1:=BZ.out.cell (j:=1) rfl;have l2:=BZ.out.cell (j:=2) rfl;have l3:=BZ.out.cell (j:=3) rfl;have ff:=BZ.out.frozen;obtain ⟨hx1,hx2,hx3⟩:=st_new [.slice (some ⟨B0,0,none⟩) rs.length rs.length,.slice (some ⟨B1,0,none⟩) rs.length rs.length,.slice (some ⟨B2,0,none⟩) cs.length cs.length,.slice (some ⟨B3,0,none⟩) cs.length cs.length] BZ.out (nou_list (fun u hu q=>by simp at hu;subst hu;simp)) HBf.out (Nat.le_succ _);have FZ:∀{B i Q},B≠w.heap.size+1→Rq 4 v9 B i Q→Rq 4 (stl (w.heap.size+1) 0 [.slice (some ⟨B0,0,none⟩) rs.length rs.length,.slice (some ⟨B1,0,none⟩) rs.length rs.length,.slice (some ⟨B2,0,none⟩) cs.length cs.length,.slice (some ⟨B3,0,none⟩) cs.length cs.length] v9) B i Q:=fun {B i Q} hne h j hj=>by
    obtain ⟨t,⟨a0,a1,a2⟩,h2⟩:=h j hj;exact ⟨t,⟨(World.cell?_of_block (hx3 B hne)).trans a0,(World.cell?_of_block (hx3 B hne)).trans a1,(World.cell?_of_block (hx3 B hne)).trans a2⟩,h2.kp hx2⟩
   have HXX:Hid (CsgAns w (stl (w.heap.size+1) 0 [.slice (some ⟨B0,0,none⟩) rs.length rs.length,.slice (some ⟨B1,0,none⟩) rs.length rs.length,.slice (some ⟨B2,0,none⟩) cs.length cs.length,.slice (some ⟨B3,0,none⟩) cs.length cs.length] v9) (.returned (.tuple #[.agg #[.slice (some ⟨B0,0,none⟩) rs.length rs.length,.slice (some ⟨B1,0,none⟩) rs.length rs.length,.slice (some ⟨B2,0,none⟩) cs.length cs.length,.slice (some ⟨B3,0,none⟩) cs.length cs.length],.int .i64 0])) 0 cs rs):=⟨hx1,.inr (.inr ⟨rfl,HN.out,B0,B1,B2,B3,rfl,rq_ulst (FZ (by omega) QK0.out) (fun i hi=>by rw [show jrw cs rs=some jn from by rw [HJ2.out _ _ HLL.out];rfl]),rq_ulst (FZ (by omega) QK1.out) (fun i hi=>by rw [show jrw cs rs=some jn from by rw [HJ2.out _ _ HLL.out];rfl]),rq_ulst (FZ (by omega) RQ2.out) (fun i hi=>by rw [HJ.out];rfl),rq_ulst (FZ (by omega) RQ3.out) (fun i hi=>by rw [HJ.out];rfl)⟩)⟩;clear hx1 hx2 hx3 FZ HBf BM BZ BC RQ2 RQ3 QK0 QK1;go_wp2;exact bodyPost_ret (v:=.tuple #[.agg #[.slice (some ⟨B0,0,none⟩) rs.length rs.length,.slice (some ⟨B1,0,none⟩) rs.length rs.length,.slice (some ⟨B2,0,none⟩) cs.length cs.length,.slice (some ⟨B3,0,none⟩) cs.length cs.length],.int .i64 0]) (by simp [results,Tryz.results20,go_sem,l0,l1,l2,l3]) rfl HXX.out
  have i0':(0:Int)<((lx.length:Nat):Int):=by omega
  have HJ:Hid (jrw cs rs=none):=by show _=_;rw [jrw,EX.out,if_neg (fun h=>hx (by rw [h];rfl))]
  have HJ2:Hid (∀z l,lx=z :: l→jcl cs=some z.toNat):=fun z l h=>by rw [jcl,EX.out,h];rfl
  have HN:Hid (¬(crl (cvC cs) cs.length=[]∧crl (cvR rs) rs.length=[])):=fun h=>hx (by rw [←EX.out,h.1];rfl)
  obtain ⟨z,l,hl⟩:∃z l,lx=z :: l:=by
   cases hc:lx with
   | nil=>exact absurd (by rw [hc];rfl) hx
   | cons z l=>exact ⟨z,l,rfl⟩
  obtain ⟨jn,rfl,hjn⟩:=crl_head (EX.out.trans hl);obtain ⟨bi,oi,hxe,hci⟩:=HX.out 0 (jn:Int) (by rw [hl];rfl);replace hci:w3.cell? ⟨bi,oi,none⟩=some (.int .i64 jn):=hci;subst hxe;have hbi:bi<w3.heap.size:=World.block_lt_of_cell? w3 _ hci;have hci2:=kCb HI0.out hci;have i1':(0:Int)<((lx.length:Nat):Int):=by rw [hl,List.length_cons];omega
  have i3':0<lx.length:=by omega
  have i2':((jn:Nat):Int)<((cs.length:Nat):Int):=by omega
  have HLL:=hid hl;clear hci hl;go_upto_region 9 with fail
  generalize hv4:v3.alloc (.cells #[.slice (some ⟨B0,0,none⟩) rs.length rs.length,.slice (some ⟨B1,0,none⟩) rs.length rs.length,.slice (some ⟨B2,0,none⟩) cs.length cs.length,.slice (some ⟨B3,0,none⟩) cs.length cs.length] 31)=v4 at *;clear hv4;generalize v3.heap.size=xc at *;have c0:=BC.out.cell (j:=2) rfl;have c1:=BC.out.cell (j:=3) rfl
  refine wp_region_phase (S:=(fun w'=>w'.cell? ⟨xc,2,none⟩=some (.slice (some ⟨B2,0,none⟩) cs.length cs.length)∧w'.cell? ⟨xc,3,none⟩=some (.slice (some ⟨B3,0,none⟩) cs.length cs.length)∧w'.cell? ⟨bi,oi,none⟩=some (.int .i64 jn))) 15 (by kernel_rfl) ⟨kCd c0,kCd c1,kCd hci2⟩ (fun hHeld=>?_);clear c0 c1 hci2;have hbd:=Below.drew (Below.refl v4.heap.size v4);replace HB:=hid (HB.out.trans (hbd.mono HB.out.size));replace BZ:=hid (BZ.out.below hbd);replace BC:=hid (BC.out.below hbd)
  replace RK0:=hid (RK0.out.below hbd);replace RQ0:=hid (RQ0.out.below hbd)
  replace RK1:=hid (RK1.out.below hbd);replace RQ1:=hid (RQ1.out.below hbd)
  replace RK2:=hid (RK2.out.below hbd);replace RQ2:=hid (RQ2.out.below hbd)
  replace RK3:=hid (RK3.out.below hbd);replace RQ3:=hid (RQ3.out.below hbd)
  clear hbd;generalize v4.drew=v5 at *;refine wpAnyP_skim (i:=0) (v:=?_) rfl (by kernel_rfl) (by kernel_rfl) (by kernel_rfl) (by kernel_rfl) (fun _ _ _ h=>h) (Or.inl ⟨by rfl,?_⟩) (fun _=>by assumption) ?_;rotate_left
  (focus (intro w0 hSw;go_simp <;> with_reducible rfl))
  simp only [List.getElem_toArray,List.getElem_cons_zero,Act.put,List.setIfInBounds_toArray,List.set_cons_zero,List.set_cons_succ];refine wpAnyP_takeA (i:=1) (v:=?_) rfl (by kernel_rfl) (by kernel_rfl) (by kernel_rfl) (by kernel_rfl) (by kernel_rfl) (by kernel_rfl) (fun _ _ _ h=>h) (Or.inl ⟨by rfl,?_⟩) (by assumption) ?_;rotate_left
  (focus (intro w0 hSw;(try dsimp only at hSw);go_simp <;> with_reducible rfl))
  simp only [List.getElem_toArray,List.getElem_cons_succ,List.getElem_cons_zero,Act.put,List.setIfInBounds_toArray,List.set_cons_zero,List.set_cons_succ];refine wpAnyP_skim (i:=2) (v:=?_) rfl (by kernel_rfl) (by kernel_rfl) (by kernel_rfl) (by kernel_rfl) (fun _ _ _ h=>h) (Or.inl ⟨by rfl,?_⟩) (fun _=>by assumption) ?_;rotate_left
  (focus (intro w0 hSw;go_simp <;> with_reducible rfl))
  simp only [List.getElem_toArray,List.getElem_cons_succ,List.getElem_cons_zero,Act.put,List.setIfInBounds_toArray,List.set_cons_zero,List.set_cons_succ];refine wpAnyP_skim (i:=3) (v:=?_) rfl (by kernel_rfl) (by kernel_rfl) (by kernel_rfl) (by kernel_rfl) (fun _ _ _ h=>h) (Or.inl ⟨by rfl,?_⟩) (fun _=>by assumption) ?_;rotate_left
  (focus (intro w0 hSw;go_simp <;> with_reducible rfl))
  simp only [List.getElem_toArray,List.getElem_cons_succ,List.getElem_cons_zero,Act.put,List.setIfInBounds_toArray,List.set_cons_zero,List.set_cons_succ];refine wpAnyP_takeA (i:=4) (v:=?_) rfl (by kernel_rfl) (by kernel_rfl) (by kernel_rfl) (by kernel_rfl) (by kernel_rfl) (by kernel_rfl) (fun _ _ _ h=>h) (Or.inl ⟨by rfl,?_⟩) (by assumption) ?_;rotate_left
  (focus (intro w0 hSw;(try dsimp only at hSw);go_simp <;> with_reducible rfl))
  simp only [List.getElem_toArray,List.getElem_cons_succ,List.getElem_cons_zero,Act.put,List.setIfInBounds_toArray,List.set_cons_zero,List.set_cons_succ];refine wpAnyP_skim (i:=5) (v:=?_) rfl (by kernel_rfl) (by kernel_rfl) (by kernel_rfl) (by kernel_rfl) (fun _ _ _ h=>h) (Or.inl ⟨by rfl,?_⟩) (fun _=>by assumption) ?_;rotate_left
  (focus (intro w0 hSw;go_simp <;> with_reducible rfl))
  simp only [List.getElem_toArray,List.getElem_cons_succ,List.getElem_cons_zero,Act.put,List.setIfInBounds_toArray,List.set_cons_zero,List.set_cons_succ];refine wpAnyP_takeA (i:=6) (v:=?_) rfl (by kernel_rfl) (by kernel_rfl) (by kernel_rfl) (by kernel_rfl) (by kernel_rfl) (by kernel_rfl) (fun _ _ _ h=>h) (Or.inl ⟨by rfl,?_⟩) (by assumption) ?_;rotate_left
  (focus (intro w0 hSw;(try dsimp only at hSw);go_simp <;> with_reducible rfl))
  simp only [List.getElem_toArray,List.getElem_cons_succ,List.getElem_cons_zero,Act.put,List.setIfInBounds_toArray,List.set_cons_zero,List.set_cons_succ];refine wpAnyP_skim (i:=7) (v:=?_) rfl (by kernel_rfl) (by kernel_rfl) (by kernel_rfl) (by kernel_rfl) (fun _ _ _ h=>h) (Or.inl ⟨by rfl,?_⟩) (fun _=>by assumption) ?_;rotate_left
  (focus (intro w0 hSw;go_simp <;> with_reducible rfl))
  simp only [List.getElem_toArray,List.getElem_cons_succ,List.getElem_cons_zero,Act.put,List.setIfInBounds_toArray,List.set_cons_zero,List.set_cons_succ];refine wpAnyP_skim (i:=8) (v:=?_) rfl (by kernel_rfl) (by kernel_rfl) (by kernel_rfl) (by kernel_rfl) (fun _ _ _ h=>h) (Or.inl ⟨by rfl,?_⟩) (fun _=>by assumption) ?_;rotate_left
  (focus (intro w0 hSw;go_simp <;> with_reducible rfl))
  simp only [List.getElem_toArray,List.getElem_cons_succ,List.getElem_cons_zero,Act.put,List.setIfInBounds_toArray,List.set_cons_zero,List.set_cons_succ];refine wpAnyP_takeA (i:=9) (v:=?_) rfl (by kernel_rfl) (by kernel_rfl) (by kernel_rfl) (by kernel_rfl) (by kernel_rfl) (by kernel_rfl) (fun _ _ _ h=>h) (Or.inl ⟨by rfl,?_⟩) (by assumption) ?_;rotate_left
  (focus (intro w0 hSw;(try dsimp only at hSw);go_simp <;> with_reducible rfl))
  simp only [List.getElem_toArray,List.getElem_cons_succ,List.getElem_cons_zero,Act.put,List.setIfInBounds_toArray,List.set_cons_zero,List.set_cons_succ];refine wpAnyP_ready (rs:=[10]) (by kernel_rfl) (by simp) ?_;refine AllReadyP.cons (o:=_) rfl (fun K hK=>?_) ?_;rotate_left;exact AllReadyP.nil;go_simp
  go_at_call 31
  refine (rOf_c (z:=1) (by decide) (by decide)).mono ?_;rintro e v6 ⟨s8,x8,n8,c8,f8,y8,m8,d8,g8,rfl,hbj,hqj⟩
  (try go_wp2_with fail)
  have t8:=And.intro (kCb hbj hHeld.1) (And.intro (kCb hbj hHeld.2.1) (kCb hbj hHeld.2.2));refine hK.out _ _ (fun _=>t8) (fun hS9=>?_);clear hK K hS9;try simp only [Act.put,List.setIfInBounds_toArray,List.set_cons_zero,List.set_cons_succ]
  replace HB:=hid (HB.out.trans (hbj.mono HB.out.size));replace BZ:=hid (BZ.out.below hbj);replace BC:=hid (BC.out.below hbj)
  replace RK0:=hid (RK0.out.below hbj);replace RQ0:=hid (RQ0.out.below hbj)
  replace RK1:=hid (RK1.out.below hbj);replace RQ1:=hid (RQ1.out.below hbj)
  replace RK2:=hid (RK2.out.below hbj);replace RQ2:=hid (RQ2.out.below hbj)
  replace RK3:=hid (RK3.out.below hbj);replace RQ3:=hid (RQ3.out.below hbj)
  have RN8:=hid (show Rn 4 v6 s8 x8 n8 c8 f8 y8 m8 d8 g8 1 from hqj);clear hbj hqj;refine wpAnyP_ready (rs:=[11]) (by kernel_rfl) (by simp) ?_;refine AllReadyP.cons (o:=_) rfl (fun K hK=>?_) ?_;rotate_left;exact AllReadyP.nil;go_simp
  go_at_call 31
  refine (rOf_c (z:=1) (by decide) (by decide)).mono ?_;rintro e v7 ⟨s9,x9,n9,c9,f9,y9,m9,d9,g9,rfl,hbj,hqj⟩
  (try go_wp2_with fail)
  have t9:=And.intro (kCb hbj t8.1) (And.intro (kCb hbj t8.2.1) (kCb hbj t8.2.2));refine hK.out _ _ (fun _=>t9) (fun hS9=>?_);clear hK K hS9;try simp only [Act.put,List.setIfInBounds_toArray,List.set_cons_zero,List.set_cons_succ]
  replace HB:=hid (HB.out.trans (hbj.mono HB.out.size));replace BZ:=hid (BZ.out.below hbj);replace BC:=hid (BC.out.below hbj)
  replace RK0:=hid (RK0.out.below hbj);replace RQ0:=hid (RQ0.out.below hbj)
  replace RK1:=hid (RK1.out.below hbj);replace RQ1:=hid (RQ1.out.below hbj)
  replace RK2:=hid (RK2.out.below hbj);replace RQ2:=hid (RQ2.out.below hbj)
  replace RK3:=hid (RK3.out.below hbj);replace RQ3:=hid (RQ3.out.below hbj)
  replace RN8:=hid (RN8.out.below hbj);have RN9:=hid (show Rn 4 v7 s9 x9 n9 c9 f9 y9 m9 d9 g9 1 from hqj);clear hbj hqj;refine wpAnyP_ready (rs:=[12]) (by kernel_rfl) (by simp) ?_;refine AllReadyP.cons (o:=_) rfl (fun K hK=>?_) ?_;rotate_left;exact AllReadyP.nil;go_simp;refine hK.out _ _ (fun _=>t9) (fun hS9=>?_);clear hK K hS9;try simp only [Act.put,List.setIfInBounds_toArray,List.set_cons_zero,List.set_cons_succ]
  refine wpAnyP_ready (rs:=[13]) (by kernel_rfl) (by simp) ?_;refine AllReadyP.cons (o:=_) rfl (fun K hK=>?_) ?_;rotate_left;exact AllReadyP.nil;have hk:=RK2.out;have tf:=hk.fz;obtain ⟨_,k0,_⟩:=hk.has (jn*3) (by omega);obtain ⟨_,k1,_⟩:=hk.has (jn*3+1) (by omega);obtain ⟨_,k2,_⟩:=hk.has (jn*3+2) (by omega);have FG:=hid (rk_fr (s:=s8) (x:=x8) (k:=n8) (c:=c8) (y:=y8) (m:=m8) (d:=d8) hk hjn);obtain ⟨R1a,R2a⟩:=rq_st (i':=cs.length) (j:=jn) (Q':=fun i=>if some jn=some i then 1 else 0) hk RQ2.out hjn (by rw [if_pos rfl];exact RN8.out) (fun j' h1 h2=>⟨h1,by show (if _ then _ else _)=_;rw [if_neg (fun e=>h2 (Option.some.inj e).symm)]⟩);have QK2:=hid R2a;clear R1a R2a hk;go_simp;have t0:=And.intro (FG.out.cell (show ¬(xc=B2) by omega) t9.1) (And.intro (FG.out.cell (show ¬(xc=B2) by omega) t9.2.1) (FG.out.cell (show ¬(bi=B2) by omega) t9.2.2));refine hK.out _ _ (fun _=>t0) (fun hS9=>?_);clear hK K hS9;try simp only [Act.put,List.setIfInBounds_toArray,List.set_cons_zero,List.set_cons_succ]
  have HBs:=hid (below_at (o:=jn*3) (u0:=.bool s8) (u1:=.slice x8 n8 c8) (u2:=.slice y8 m8 d8) HB.out (show w.heap.size≤B2 by omega));replace BZ:=hid (FG.out.bk BZ.out (by omega));replace BC:=hid (FG.out.bk BC.out (by omega));replace RN9:=hid (FG.out.rn RN9.out)
  replace RK0:=hid (RK0.out.fr FG.out (by omega));replace RQ0:=hid (RQ0.out.fr FG.out (by omega))
  replace RK1:=hid (RK1.out.fr FG.out (by omega));replace RQ1:=hid (RQ1.out.fr FG.out (by omega))
  replace RK3:=hid (RK3.out.fr FG.out (by omega));replace RQ3:=hid (RQ3.out.fr FG.out (by omega))
  clear RK2 RQ2 FG k0 k1 k2 tf HB;generalize ((v7.setCell ⟨B2,jn*3,none⟩ (.bool s8)).setCell ⟨B2,jn*3+1,none⟩ (.slice x8 n8 c8)).setCell ⟨B2,jn*3+2,none⟩ (.slice y8 m8 d8)=v8 at *;refine wpAnyP_ready (rs:=[14]) (by kernel_rfl) (by simp) ?_;refine AllReadyP.cons (o:=_) rfl (fun K hK=>?_) ?_;rotate_left;exact AllReadyP.nil;go_simp;refine hK.out _ _ (fun _=>t0) (fun hS9=>?_);clear hK K hS9;try simp only [Act.put,List.setIfInBounds_toArray,List.set_cons_zero,List.set_cons_succ]
  refine wpAnyP_ready (rs:=[15]) (by kernel_rfl) (by simp) ?_;refine AllReadyP.cons (o:=_) rfl (fun K hK=>?_) ?_;rotate_left;exact AllReadyP.nil;have hk:=RK3.out;have tf:=hk.fz;obtain ⟨_,k0,_⟩:=hk.has (jn*3) (by omega);obtain ⟨_,k1,_⟩:=hk.has (jn*3+1) (by omega);obtain ⟨_,k2,_⟩:=hk.has (jn*3+2) (by omega);have FG:=hid (rk_fr (s:=s9) (x:=x9) (k:=n9) (c:=c9) (y:=y9) (m:=m9) (d:=d9) hk hjn);obtain ⟨R1a,R2a⟩:=rq_st (i':=cs.length) (j:=jn) (Q':=fun i=>if some jn=some i then 1 else 0) hk RQ3.out hjn (by rw [if_pos rfl];exact RN9.out) (fun j' h1 h2=>⟨h1,by show (if _ then _ else _)=_;rw [if_neg (fun e=>h2 (Option.some.inj e).symm)]⟩);have QK3:=hid R2a;clear R1a R2a hk;go_simp;refine hK.out _ _ (fun h=>by cases h) (fun _=>?_);clear hK K;try simp only [Act.put,List.setIfInBounds_toArray,List.set_cons_zero,List.set_cons_succ]
  have HBf:=hid (below_at (o:=jn*3) (u0:=.bool s9) (u1:=.slice x9 n9 c9) (u2:=.slice y9 m9 d9) HBs.out (show w.heap.size≤B3 by omega));replace BZ:=hid (FG.out.bk BZ.out (by omega));replace BC:=hid (FG.out.bk BC.out (by omega));replace QK2:=hid (QK2.out.fr FG.out (by omega))
  replace RQ0:=hid (RQ0.out.fr FG.out (by omega));replace RQ1:=hid (RQ1.out.fr FG.out (by omega));clear RK0 RK1 RK3;clear RQ3 FG k0 k1 k2 tf HBs RN8 RN9 t0 t8 t9 hHeld;refine wpAnyP_done (by kernel_rfl) ?_ _;generalize ((v8.setCell ⟨B3,jn*3,none⟩ (.bool s9)).setCell ⟨B3,jn*3+1,none⟩ (.slice x9 n9 c9)).setCell ⟨B3,jn*3+2,none⟩ (.slice y9 m9 d9)=v9 at *;have b0:=BC.out.cell (j:=0) rfl;have b1:=BC.out.cell (j:=1) rfl;have b2:=BC.out.cell (j:=2) rfl;have b3:=BC.out.cell (j:=3) rfl;have l0:=BZ.out.cell (j:=0) rfl;have l1:=BZ.out.cell (j:=1) rfl;have l2:=BZ.out.cell (j:=2) rfl;have l3:=BZ.out.cell (j:=3) rfl;have ff:=BZ.out.frozen;obtain ⟨hx1,hx2,hx3⟩:=st_new [.slice (some ⟨B0,0,none⟩) rs.length rs.length,.slice (some ⟨B1,0,none⟩) rs.length rs.length,.slice (some ⟨B2,0,none⟩) cs.length cs.length,.slice (some ⟨B3,0,none⟩) cs.length cs.length] BZ.out (nou_list (fun u hu q=>by simp at hu;subst hu;simp)) HBf.out (Nat.le_succ _);have FZ:∀{B i Q},B≠w.heap.size+1→Rq 4 v9 B i Q→Rq 4 (stl (w.heap.size+1) 0 [.slice (some ⟨B0,0,none⟩) rs.length rs.length,.slice (some ⟨B1,0,none⟩) rs.length rs.length,.slice (some ⟨B2,0,none⟩) cs.length cs.length,.slice (some ⟨B3,0,none⟩) cs.length cs.length] v9) B i Q:=fun {B i Q} hne h j hj=>by
   obtain ⟨t,⟨a0,a1,a2⟩,h2⟩:=h j hj;exact ⟨t,⟨(World.cell?_of_block (hx3 B hne)).trans a0,(World.cell?_of_block (hx3 B hne)).trans a1,(World.cell?_of_block (hx3 B hne)).trans a2⟩,h2.kp hx2⟩
  have HXX:Hid (CsgAns w (stl (w.heap.size+1) 0 [.slice (some ⟨B0,0,none⟩) rs.length rs.length,.slice (some ⟨B1,0,none⟩) rs.length rs.length,.slice (some ⟨B2,0,none⟩) cs.length cs.length,.slice (some ⟨B3,0,none⟩) cs.length cs.length] v9) (.returned (.tuple #[.agg #[.slice (some ⟨B0,0,none⟩) rs.length rs.length,.slice (some ⟨B1,0,none⟩) rs.length rs.length,.slice (some ⟨B2,0,none⟩) cs.length cs.length,.slice (some ⟨B3,0,none⟩) cs.length cs.length],.int .i64 0])) 0 cs rs):=⟨hx1,.inr (.inr ⟨rfl,HN.out,B0,B1,B2,B3,rfl,rq_ulst (FZ (by omega) RQ0.out) (fun i hi=>by rw [HJ.out];rfl),rq_ulst (FZ (by omega) RQ1.out) (fun i hi=>by rw [HJ.out];rfl),rq_ulst (FZ (by omega) QK2.out) (fun i hi=>by rw [show jcl cs=some jn from by rw [HJ2.out _ _ HLL.out];rfl]),rq_ulst (FZ (by omega) QK3.out) (fun i hi=>by rw [show jcl cs=some jn from by rw [HJ2.out _ _ HLL.out];rfl])⟩)⟩;clear hx1 hx2 hx3 FZ HBf BM BZ BC RQ0 RQ1 QK2 QK3;go_wp2;exact bodyPost_ret (v:=.tuple #[.agg #[.slice (some ⟨B0,0,none⟩) rs.length rs.length,.slice (some ⟨B1,0,none⟩) rs.length rs.length,.slice (some ⟨B2,0,none⟩) cs.length cs.length,.slice (some ⟨B3,0,none⟩) cs.length cs.length],.int .i64 0]) (by simp [results,Tryz.results20,go_sem,l0,l1,l2,l3]) rfl HXX.out
def alng (xs ds:List Rat) (t:Rat):List Rat:=List.zipWith (fun x d=>0+x+t*d) xs ds
set_option maxRecDepth 100000 in
set_option maxHeartbeats 4000000 in
theorem num12_c {w:World} {z:Int} (h0:-1000≤z) (h1:z≤1000):Calls Tryz.prog 49 #[.int .i64 z] w fun e w'=>∃v,e=.returned v∧Below w.heap.size w w'∧GX 8 0 (z:Rat) v w':=by
 have HB:=hid (below_alloc (Below.refl w.heap.size w) (.cells #[.int .i64 0,.bool false,.slice none 0 0,.slice none 0 0] 60));have BR:Hid (Bk (w.alloc (.cells #[.int .i64 0,.bool false,.slice none 0 0,.slice none 0 0] 60)) w.heap.size [.int .i64 0,.bool false,.slice none 0 0,.slice none 0 0] 60):=bk_new w [.int .i64 0,.bool false,.slice none 0 0,.slice none 0 0] 60;go_enter Tryz.func49,Tryz.ntmps49;go_wp2_with fail
 generalize w.alloc (.cells #[.int .i64 0,.bool false,.slice none 0 0,.slice none 0 0] 60)=w0 at *;refine (docOfQ_c (z:=z) (by omega) (by omega)).mono ?_;rintro e w1 ⟨s,x,n,c,f,y,m,d,g,rfl,hb,hr⟩;replace HB:=hid (HB.out.trans (hb.mono HB.out.size));replace BR:=hid (BR.out.below hb)
 obtain ⟨hx1,hx2,hx3⟩:=st_new [.int .i64 0,.bool s,.slice x n c,.slice y m d] BR.out (nou_list (fun u hu q=>by simp at hu;rcases hu with rfl | rfl | rfl | rfl <;> simp)) HB.out (Nat.le_refl _);have l0:=BR.out.cell (j:=0) rfl;have l1:=BR.out.cell (j:=1) rfl;have l2:=BR.out.cell (j:=2) rfl;have l3:=BR.out.cell (j:=3) rfl;have ff:=BR.out.frozen;have HX:Hid (Below w.heap.size w (stl w.heap.size 0 [.int .i64 0,.bool s,.slice x n c,.slice y m d] w1)∧GX 8 0 (z:Rat) (.agg #[.int .i64 0,.bool s,.slice x n c,.slice y m d]) (stl w.heap.size 0 [.int .i64 0,.bool s,.slice x n c,.slice y m d] w1)):=⟨hx1,⟨0,⟨s,x,n,c,f,y,m,d,g⟩⟩,rfl,rfl,(Rn.kp hr hx2).mono (by decide)⟩;clear hx1 hx2 hx3 hb hr HB;go_wp2;exact bodyPost_ret (v:=.agg #[.int .i64 0,.bool s,.slice x n c,.slice y m d]) (by simp [results,Tryz.results49,go_sem,l0,l1,l2,l3]) rfl ⟨_,rfl,HX.out⟩
set_option maxRecDepth 100000 in
theorem one12_c {w:World} {z:Int} (h0:-1000≤z) (h1:z≤1000):Calls Tryz.prog 18 #[.int .i64 z] w fun e w'=>∃a,e=.returned (.slice a 1 1)∧Below w.heap.size w w'∧Hid (Rf 4 w' a [(z:Rat)]):=by
 go_enter Tryz.func18,Tryz.ntmps18;go_wp2_with fail
 refine (docOfQ_c (z:=z) (by omega) (by omega)).mono ?_;rintro e w1 ⟨s,x,n,c,f,y,m,d,g,rfl,hb,hr⟩;have HR:=hid (show Rf 4 (w1.alloc (.cells #[.bool s,.slice x n c,.slice y m d] 24)) (some ⟨w1.heap.size,0,none⟩) [(z:Rat)] from (gr_one (base:=0) hr (Nat.zero_le _)).rf);have HB:=hid (below_alloc hb (.cells #[.bool s,.slice x n c,.slice y m d] 24));clear hr hb;go_wp2;go_ret;exact ⟨_,rfl,HB.out,HR.out⟩
def k1C:List CV:=[⟨⟨#[120]⟩,0,0,0,0,1⟩]
def k1R:List RV:=[⟨⟨#[114]⟩,0,2,0,9,[(0,1)]⟩]
set_option maxRecDepth 100000 in
set_option maxHeartbeats 8000000 in
theorem first12_c {w:World}:Calls Tryz.prog 19 #[] w fun e w'=>∃M:Mo,e=.returned M.val∧Below w.heap.size w w'∧Hid (MoV 8 w' M 0 k1C k1R):=by
 have HB:=hid (below_alloc (Below.refl w.heap.size w) (.cells #[.bool false,.slice none 0 0,.slice none 0 0,.slice none 0 0,.slice none 0 0] 28));have O0:Hid (Bk (w.alloc (.cells #[.bool false,.slice none 0 0,.slice none 0 0,.slice none 0 0,.slice none 0 0] 28)) w.heap.size [.bool false,.slice none 0 0,.slice none 0 0,.slice none 0 0,.slice none 0 0] 28):=bk_new w [.bool false,.slice none 0 0,.slice none 0 0,.slice none 0 0,.slice none 0 0] 28;go_enter Tryz.func19,Tryz.ntmps19;go_wp2_with fail
 generalize w.alloc (.cells #[.bool false,.slice none 0 0,.slice none 0 0,.slice none 0 0,.slice none 0 0] 28)=w0 at *;refine (docOfQ_c (z:=0) (by decide) (by decide)).mono ?_;rintro e w1 ⟨s1,x1,n1,c1,f1,y1,m1,d1,g1,rfl,hb,hr⟩;replace HB:=hid (HB.out.trans (hb.mono HB.out.size));replace O0:=hid (O0.out.below hb)
 have R1:=hid hr;clear hb hr;go_wp2_with fail
 refine (docOfQ_c (z:=0) (by decide) (by decide)).mono ?_;rintro e w2 ⟨s2,x2,n2,c2,f2,y2,m2,d2,g2,rfl,hb,hr⟩;replace HB:=hid (HB.out.trans (hb.mono HB.out.size));replace O0:=hid (O0.out.below hb);replace R1:=hid (R1.out.below hb)
 have R2:=hid hr;clear hb hr;go_wp2_with fail
 refine (num12_c (z:=0) (by decide) (by decide)).mono ?_;rintro e w3 ⟨v3,rfl,hb,⟨⟨i3,⟨s3,x3,n3,c3,f3,y3,m3,d3,g3⟩⟩,ev,hi3,hv⟩⟩;replace ev:v3=.agg #[.int .i64 i3,.bool s3,.slice x3 n3 c3,.slice y3 m3 d3]:=ev;subst ev;replace HB:=hid (HB.out.trans (hb.mono HB.out.size));replace O0:=hid (O0.out.below hb);replace R1:=hid (R1.out.below hb);replace R2:=hid (R2.out.below hb)
 replace hi3:i3=0:=hi3;subst hi3;have R3:=hid (show Rn 8 w3 s3 x3 n3 c3 f3 y3 m3 d3 g3 (0:Int) from hv);clear hb hv;go_wp2_with fail
 refine (num12_c (z:=1) (by decide) (by decide)).mono ?_;rintro e w4 ⟨v4,rfl,hb,⟨⟨i4,⟨s4,x4,n4,c4,f4,y4,m4,d4,g4⟩⟩,ev,hi4,hv⟩⟩;replace ev:v4=.agg #[.int .i64 i4,.bool s4,.slice x4 n4 c4,.slice y4 m4 d4]:=ev;subst ev;replace HB:=hid (HB.out.trans (hb.mono HB.out.size));replace O0:=hid (O0.out.below hb);replace R1:=hid (R1.out.below hb);replace R2:=hid (R2.out.below hb);replace R3:=hid (R3.out.below hb)
 replace hi4:i4=0:=hi4;subst hi4;have R4:=hid (show Rn 8 w4 s4 x4 n4 c4 f4 y4 m4 d4 g4 (1:Int) from hv);clear hb hv;have hn:=below_alloc (Below.refl w4.heap.size w4) (.cells #[.string ⟨#[120]⟩,.bool s2,.slice x2 n2 c2,.slice y2 m2 d2,.int .i64 0,.bool s3,.slice x3 n3 c3,.slice y3 m3 d3,.int .i64 0,.bool s4,.slice x4 n4 c4,.slice y4 m4 d4] 62);have HC:Hid (Cs (w4.alloc (.cells #[.string ⟨#[120]⟩,.bool s2,.slice x2 n2 c2,.slice y2 m2 d2,.int .i64 0,.bool s3,.slice x3 n3 c3,.slice y3 m3 d3,.int .i64 0,.bool s4,.slice x4 n4 c4,.slice y4 m4 d4] 62)) w4.heap.size 0 [.string ⟨#[120]⟩,.bool s2,.slice x2 n2 c2,.slice y2 m2 d2,.int .i64 0,.bool s3,.slice x3 n3 c3,.slice y3 m3 d3,.int .i64 0,.bool s4,.slice x4 n4 c4,.slice y4 m4 d4]):=cs_new w4 62 [.string ⟨#[120]⟩,.bool s2,.slice x2 n2 c2,.slice y2 m2 d2,.int .i64 0,.bool s3,.slice x3 n3 c3,.slice y3 m3 d3,.int .i64 0,.bool s4,.slice x4 n4 c4,.slice y4 m4 d4] [.string ⟨#[120]⟩,.bool s2,.slice x2 n2 c2,.slice y2 m2 d2,.int .i64 0,.bool s3,.slice x3 n3 c3,.slice y3 m3 d3,.int .i64 0,.bool s4,.slice x4 n4 c4,.slice y4 m4 d4] 0 (fun j v e=>by rw [Nat.zero_add];exact e);replace HB:=hid (HB.out.trans (hn.mono HB.out.size));replace O0:=hid (O0.out.below hn);replace R1:=hid (R1.out.below hn);replace R2:=hid (R2.out.below hn);replace R3:=hid (R3.out.below hn);replace R4:=hid (R4.out.below hn)
 clear hn;go_wp2_with fail
 generalize hw8:w4.alloc (.cells #[.string ⟨#[120]⟩,.bool s2,.slice x2 n2 c2,.slice y2 m2 d2,.int .i64 0,.bool s3,.slice x3 n3 c3,.slice y3 m3 d3,.int .i64 0,.bool s4,.slice x4 n4 c4,.slice y4 m4 d4] 62)=w8 at *;clear hw8;generalize w4.heap.size=bc at *;refine (num12_c (z:=2) (by decide) (by decide)).mono ?_;rintro e w5 ⟨v5,rfl,hb,⟨⟨i5,⟨s5,x5,n5,c5,f5,y5,m5,d5,g5⟩⟩,ev,hi5,hv⟩⟩;replace ev:v5=.agg #[.int .i64 i5,.bool s5,.slice x5 n5 c5,.slice y5 m5 d5]:=ev;subst ev;replace HB:=hid (HB.out.trans (hb.mono HB.out.size));replace O0:=hid (O0.out.below hb);replace R1:=hid (R1.out.below hb);replace R2:=hid (R2.out.below hb);replace R3:=hid (R3.out.below hb);replace R4:=hid (R4.out.below hb);replace HC:=hid (HC.out.below hb)
 replace hi5:i5=0:=hi5;subst hi5;have R5:=hid (show Rn 8 w5 s5 x5 n5 c5 f5 y5 m5 d5 g5 (2:Int) from hv);clear hb hv;go_wp2_with fail
 refine (num12_c (z:=9) (by decide) (by decide)).mono ?_;rintro e w6 ⟨v6,rfl,hb,⟨⟨i6,⟨s6,x6,n6,c6,f6,y6,m6,d6,g6⟩⟩,ev,hi6,hv⟩⟩;replace ev:v6=.agg #[.int .i64 i6,.bool s6,.slice x6 n6 c6,.slice y6 m6 d6]:=ev;subst ev;replace HB:=hid (HB.out.trans (hb.mono HB.out.size));replace O0:=hid (O0.out.below hb);replace R1:=hid (R1.out.below hb);replace R2:=hid (R2.out.below hb);replace R3:=hid (R3.out.below hb);replace R4:=hid (R4.out.below hb);replace HC:=hid (HC.out.below hb);replace R5:=hid (R5.out.below hb)
 replace hi6:i6=0:=hi6;subst hi6;have R6:=hid (show Rn 8 w6 s6 x6 n6 c6 f6 y6 m6 d6 g6 (9:Int) from hv);clear hb hv;go_wp2_with fail
 refine (docOfQ_c (z:=1) (by decide) (by decide)).mono ?_;rintro e w7 ⟨s7,x7,n7,c7,f7,y7,m7,d7,g7,rfl,hb,hr⟩;replace HB:=hid (HB.out.trans (hb.mono HB.out.size));replace O0:=hid (O0.out.below hb);replace R1:=hid (R1.out.below hb);replace R2:=hid (R2.out.below hb);replace R3:=hid (R3.out.below hb);replace R4:=hid (R4.out.below hb);replace HC:=hid (HC.out.below hb);replace R5:=hid (R5.out.below hb);replace R6:=hid (R6.out.below hb)
 have R7:=hid hr;clear hb hr;have HTs:Hid (C4 (w7.alloc (.cells #[.int .i64 0,.bool s7,.slice x7 n7 c7,.slice y7 m7 d7] 67)) w7.heap.size 0 (.int .i64 0) (.bool s7) (.slice x7 n7 c7) (.slice y7 m7 d7)):=cs4 (cs_new w7 67 [.int .i64 0,.bool s7,.slice x7 n7 c7,.slice y7 m7 d7] [.int .i64 0,.bool s7,.slice x7 n7 c7,.slice y7 m7 d7] 0 (fun j v e=>by rw [Nat.zero_add];exact e));have hn:=below_alloc (Below.refl w7.heap.size w7) (.cells #[.int .i64 0,.bool s7,.slice x7 n7 c7,.slice y7 m7 d7] 67);replace HB:=hid (HB.out.trans (hn.mono HB.out.size));replace O0:=hid (O0.out.below hn);replace R1:=hid (R1.out.below hn);replace R2:=hid (R2.out.below hn);replace R3:=hid (R3.out.below hn);replace R4:=hid (R4.out.below hn);replace HC:=hid (HC.out.below hn);replace R5:=hid (R5.out.below hn);replace R6:=hid (R6.out.below hn);replace R7:=hid (R7.out.below hn)
 clear hn;have hn:=below_alloc (Below.refl (w7.alloc (.cells #[.int .i64 0,.bool s7,.slice x7 n7 c7,.slice y7 m7 d7] 67)).heap.size (w7.alloc (.cells #[.int .i64 0,.bool s7,.slice x7 n7 c7,.slice y7 m7 d7] 67))) (.cells #[.string ⟨#[114]⟩,.int .i64 0,.bool s5,.slice x5 n5 c5,.slice y5 m5 d5,.int .i64 0,.bool s6,.slice x6 n6 c6,.slice y6 m6 d6,.slice (some ⟨w7.heap.size,0,none⟩) 1 1] 65);have HRs:Hid (Cs ((w7.alloc (.cells #[.int .i64 0,.bool s7,.slice x7 n7 c7,.slice y7 m7 d7] 67)).alloc (.cells #[.string ⟨#[114]⟩,.int .i64 0,.bool s5,.slice x5 n5 c5,.slice y5 m5 d5,.int .i64 0,.bool s6,.slice x6 n6 c6,.slice y6 m6 d6,.slice (some ⟨w7.heap.size,0,none⟩) 1 1] 65)) (w7.alloc (.cells #[.int .i64 0,.bool s7,.slice x7 n7 c7,.slice y7 m7 d7] 67)).heap.size 0 [.string ⟨#[114]⟩,.int .i64 0,.bool s5,.slice x5 n5 c5,.slice y5 m5 d5,.int .i64 0,.bool s6,.slice x6 n6 c6,.slice y6 m6 d6,.slice (some ⟨w7.heap.size,0,none⟩) 1 1]):=cs_new (w7.alloc (.cells #[.int .i64 0,.bool s7,.slice x7 n7 c7,.slice y7 m7 d7] 67)) 65 [.string ⟨#[114]⟩,.int .i64 0,.bool s5,.slice x5 n5 c5,.slice y5 m5 d5,.int .i64 0,.bool s6,.slice x6 n6 c6,.slice y6 m6 d6,.slice (some ⟨w7.heap.size,0,none⟩) 1 1] [.string ⟨#[114]⟩,.int .i64 0,.bool s5,.slice x5 n5 c5,.slice y5 m5 d5,.int .i64 0,.bool s6,.slice x6 n6 c6,.slice y6 m6 d6,.slice (some ⟨w7.heap.size,0,none⟩) 1 1] 0 (fun j v e=>by rw [Nat.zero_add];exact e);replace HB:=hid (HB.out.trans (hn.mono HB.out.size));replace O0:=hid (O0.out.below hn);replace R1:=hid (R1.out.below hn);replace R2:=hid (R2.out.below hn);replace R3:=hid (R3.out.below hn);replace R4:=hid (R4.out.below hn);replace HC:=hid (HC.out.below hn);replace R5:=hid (R5.out.below hn);replace R6:=hid (R6.out.below hn);replace R7:=hid (R7.out.below hn);replace HTs:=hid (HTs.out.below hn)
 clear hn;rw [size_alloc1] at HRs;have HMo:Hid (MoV 8 ((w7.alloc (.cells #[.int .i64 0,.bool s7,.slice x7 n7 c7,.slice y7 m7 d7] 67)).alloc (.cells #[.string ⟨#[114]⟩,.int .i64 0,.bool s5,.slice x5 n5 c5,.slice y5 m5 d5,.int .i64 0,.bool s6,.slice x6 n6 c6,.slice y6 m6 d6,.slice (some ⟨w7.heap.size,0,none⟩) 1 1] 65)) ⟨⟨s1,x1,n1,c1,f1,y1,m1,d1,g1⟩,some ⟨bc,0,none⟩,1,1,fun _=>⟨⟨#[120]⟩,⟨s2,x2,n2,c2,f2,y2,m2,d2,g2⟩,⟨0,⟨s3,x3,n3,c3,f3,y3,m3,d3,g3⟩⟩,⟨0,⟨s4,x4,n4,c4,f4,y4,m4,d4,g4⟩⟩⟩,some ⟨w7.heap.size+1,0,none⟩,1,1,fun _=>⟨⟨#[114]⟩,⟨0,⟨s5,x5,n5,c5,f5,y5,m5,d5,g5⟩⟩,⟨0,⟨s6,x6,n6,c6,f6,y6,m6,d6,g6⟩⟩,some ⟨w7.heap.size,0,none⟩,1,1,fun _=>0,fun _=>⟨s7,x7,n7,c7,f7,y7,m7,d7,g7⟩⟩⟩ 0 k1C k1R):=by
  refine ⟨R1.out.mono (by decide),rfl,rfl,fun j v e=>?_,fun j v e=>?_⟩
  ·match j,e with
   | 0,e=>cases e;exact ⟨⟨_,0,rfl,HC.out⟩,rfl,R2.out.mono (by decide),rfl,R3.out,rfl,R4.out⟩
  ·match j,e with
   | 0,e =>
    cases e
    refine ⟨⟨_,0,rfl,HRs.out⟩,rfl,rfl,R5.out,rfl,R6.out,rfl,fun p z q e=>?_⟩
    match p,e with
    | 0,e =>
     cases e
     exact ⟨rfl,R7.out.mono (by decide),_,0,rfl,HTs.out⟩
 obtain ⟨hk1,hk2⟩:=kp_st5 (v0:=.bool s1) (v1:=.slice x1 n1 c1) (v2:=.slice y1 m1 d1) (v3:=.slice (some ⟨bc,0,none⟩) 1 1) (v4:=.slice (some ⟨w7.heap.size+1,0,none⟩) 1 1) O0.out (nou5 _ _ _ _ _ _ _ _ _ _ _ _ _) rfl;have HM2:=hid (HMo.out.kp hk1 hk2 (noc5 O0.out));have HB2:=hid (below_st5 (u0:=.bool s1) (u1:=.slice x1 n1 c1) (u2:=.slice y1 m1 d1) (u3:=.slice (some ⟨bc,0,none⟩) 1 1) (u4:=.slice (some ⟨w7.heap.size+1,0,none⟩) 1 1) HB.out (Nat.le_refl w.heap.size));have l0:=O0.out.cell (j:=0) rfl;have l1:=O0.out.cell (j:=1) rfl;have l2:=O0.out.cell (j:=2) rfl;have l3:=O0.out.cell (j:=3) rfl;have l4:=O0.out.cell (j:=4) rfl;have ff:=O0.out.frozen;clear hk1 hk2 HMo HB O0 R1 R2 R3 R4 R5 R6 R7 HC HTs HRs;go_wp2;exact bodyPost_ret (v:=.agg #[.bool s1,.slice x1 n1 c1,.slice y1 m1 d1,.slice (some ⟨bc,0,none⟩) 1 1,.slice (some ⟨w7.heap.size+1,0,none⟩) 1 1]) (by simp [results,Tryz.results19,go_sem,l0,l1,l2,l3,l4]) rfl ⟨_,rfl,HB2.out,HM2.out⟩
theorem rSameEq_c {L L' w sa xa na ca fa ya ma da ga sb xb nb cb fb yb mb db gb q} (ha:Rn L w sa xa na ca fa ya ma da ga q) (hb:Rn L' w sb xb nb cb fb yb mb db gb q) (h1:L≤1048576) (h2:L'≤1048576) :
  Calls Tryz.prog 15 #[.agg #[.bool sa,.slice xa na ca,.slice ya ma da],.agg #[.bool sb,.slice xb nb cb,.slice yb mb db]] w fun e w'=>e=.returned (.bool true)∧Below w.heap.size w w':=by
 have l1:=ha.ln;have l2:=ha.ld;have l3:=hb.ln;have l4:=hb.ld
 refine (rSame_c sa xa ya na ca ma da fa ga sb xb yb nb cb mb db fb gb w ha.num.rd ha.den.rd hb.num.rd hb.den.rd (by omega) (by omega) (by omega) (by omega)).mono ?_;rintro e w' ⟨c,rfl,h3,h4⟩;refine ⟨?_,h3⟩;rw [h4.2 ((ha.inj hb).2 rfl)]
set_option maxRecDepth 100000 in
set_option maxHeartbeats 4000000 in
theorem samesEq_c {w:World} {L L':Nat} {ao bo:Option Addr} {k ca cb:Nat} {p:List Rat} (ha:Rf L w ao p) (hb:Rf L' w bo p) (hk:p.length=k) (hk2:k≤1048576) (h1:L≤1048576) (h2:L'≤1048576) :
  Calls Tryz.prog 14 #[.slice ao k ca,.slice bo k cb] w fun e w'=>e=.returned (.bool true)∧Below w.heap.size w w':=by
 have HA:=hid ha;have HB:=hid hb
 have hkk:(((k:Nat):Int) != ((k:Nat):Int))=false:=by simp
 clear ha hb;go_enter Tryz.func14,Tryz.ntmps14;go_wp2_with fail
 go_loopw [13] (fun t wr=>∃(i:Nat),i≤k∧t=.int .i64 i∧Hid (Below w.heap.size w wr)) (fun t _=>k-(intOf t).toNat)
 case atStart=>exact ⟨0,by omega,rfl,Below.refl _ _⟩
 case round =>
  obtain ⟨i,hi,rfl,HW⟩:=hrel;by_cases hlt:i<k
  ·obtain ⟨q,hq⟩:∃q,p[i]?=some q:=⟨_,List.getElem?_eq_getElem (by omega)⟩;obtain ⟨b,o,⟨ts,tx,tn,tc,tf,ty,tm,td,tg⟩,rfl,hc,hr⟩:=(HA.out.below HW.out) i q hq;obtain ⟨b',o',⟨ss,sx,sn,sc,sf,sy,sm,sd,sg⟩,rfl,hc',hr'⟩:=(HB.out.below HW.out) i q hq;obtain ⟨x0,x1,x2⟩:=hc;obtain ⟨p0,p1,p2⟩:=hc';replace x0:wr.cell? ⟨b,o+i*3,none⟩=some (.bool ts):=x0;replace x1:wr.cell? ⟨b,o+i*3+1,none⟩=some (.slice tx tn tc):=x1;replace x2:wr.cell? ⟨b,o+i*3+2,none⟩=some (.slice ty tm td):=x2;replace p0:wr.cell? ⟨b',o'+i*3,none⟩=some (.bool ss):=p0;replace p1:wr.cell? ⟨b',o'+i*3+1,none⟩=some (.slice sx sn sc):=p1;replace p2:wr.cell? ⟨b',o'+i*3+2,none⟩=some (.slice sy sm sd):=p2;have CS:Hid (∀W,Below wr.heap.size wr W→Calls Tryz.prog 15 #[.agg #[.bool ts,.slice tx tn tc,.slice ty tm td],.agg #[.bool ss,.slice sx sn sc,.slice sy sm sd]] W fun e w'=>e=.returned (.bool true)∧Below W.heap.size W w'):=fun W hW =>
    rSameEq_c (Rn.below hr hW) (Rn.below hr' hW) h1 h2
   have i2:((i:Nat):Int)<((k:Nat):Int):=by omega
   clear hr hr' hq;go_upto_region 6 with fail
   go_region_held3 (fun w'=>w'.cell? ⟨b,o+i*3,none⟩=some (.bool ts)∧w'.cell? ⟨b,o+i*3+1,none⟩=some (.slice tx tn tc)∧w'.cell? ⟨b,o+i*3+2,none⟩=some (.slice ty tm td)∧w'.cell? ⟨b',o'+i*3,none⟩=some (.bool ss)∧w'.cell? ⟨b',o'+i*3+1,none⟩=some (.slice sx sn sc)∧w'.cell? ⟨b',o'+i*3+2,none⟩=some (.slice sy sm sd))
    (refine ⟨?_,?_,?_,?_,?_,?_⟩ <;> repeat (with_reducible first | assumption | refine kCd ?_ | refine kCb (by assumption) ?_))
    ((go_at_call 15;with_reducible refine (CS.out _ (by repeat (with_reducible first | assumption | exact Below.refl _ _ | refine kBdn ?_ | refine Below.drew ?_))).mono ?_;rintro e w5 ⟨rfl,hb5⟩))
   all_goals
    (have HW5:Hid (Below w.heap.size w w5):=hid (HW.out.trans (Below.mono (show Below wr.heap.size wr w5 by repeat (with_reducible first | assumption | exact Below.refl _ _ | refine kBdn ?_ | refine Below.drew ?_ | refine kBb (by assumption) ?_)) HW.out.size))
     clear x0 x1 x2 p0 p1 p2 CS hb5;go_wp2;go_roundw
     case rel=>exact ⟨i+1,by omega,by go_num,(by first | exact HW5.out | exact HW5.out.drew | exact below_drewN HW5.out _)⟩
     case measure=>simp [intOf];omega)
  ·have i2:¬(((i:Nat):Int)<((k:Nat):Int)):=by omega
   go_wp2;go_ret;exact ⟨rfl,HW.out⟩
theorem pnE_ok {k:Nat} {X:Nat→Nm} {z:Int} (h:afB k X=true) (e:(k:Int)=z):pnE k X z=0:=by unfold pnE;rw [if_pos h,if_pos e]
theorem cbE_ok {M:Mo} {k0 k1 k2 k3:Nat} {X0 X1 X2 X3:Nat→Nm} (h:chkE M=0) (h0:afB k0 X0=true) (h1:afB k1 X1=true) (h2:afB k2 X2=true) (h3:afB k3 X3=true) (e0:k0=M.rk) (e1:k1=M.rk) (e2:k2=M.ck) (e3:k3=M.ck):cbE M k0 X0 k1 X1 k2 X2 k3 X3=0:=by
 subst e0;subst e1;subst e2;subst e3
 unfold cbE fctE;rw [h,pnE_ok h0 rfl,pnE_ok h1 rfl,pnE_ok h2 rfl,pnE_ok h3 rfl];rfl
theorem fValid_q {w:World} {L:Nat} {M:Mo} {off:Rat} {cs:List CV} {rs:List RV} {a0 a1 a2 a3:Option Addr} {k0 c0 k1 c1 k2 c2 k3 c3:Nat} {l0 l1 l2 l3:List Rat} (h:MoV L w M off cs rs) (ho:mvOk cs rs=true) (x0:Rf L w a0 l0) (x1:Rf L w a1 l1) (x2:Rf L w a2 l2) (x3:Rf L w a3 l3) (e0:l0.length=k0) (e1:l1.length=k1) (e2:l2.length=k2) (e3:l3.length=k3) (q0:k0=rs.length) (q1:k1=rs.length) (q2:k2=cs.length) (q3:k3=cs.length) (hL1:4≤L) (hL2:L≤100) :
  Calls Tryz.prog 16 #[M.val,.agg #[.slice a0 k0 c0,.slice a1 k1 c1,.slice a2 k2 c2,.slice a3 k3 c3]] w fun e w'=>e=.returned (.tuple #[.bool (vldB 0 cs.length (bdA cs rs l0 l1 l2 l3)),.int .i64 0])∧Below w.heap.size w w':=by
 obtain ⟨h1,h2⟩:=h.chk (by omega) ho;have mp:=mvOk_p ho;have hcl:=mp.cl;have hrl:=mp.rl
 obtain ⟨X0,y0,z0⟩:=rf_rl x0 (by omega);rw [e0] at y0 z0;obtain ⟨X1,y1,z1⟩:=rf_rl x1 (by omega);rw [e1] at y1 z1;obtain ⟨X2,y2,z2⟩:=rf_rl x2 (by omega);rw [e2] at y2 z2;obtain ⟨X3,y3,z3⟩:=rf_rl x3 (by omega);rw [e3] at y3 z3;have he:cbE M k0 X0 k1 X1 k2 X2 k3 X3=0:=cbE_ok h1 z0 z1 z2 z3 (by rw [h.rk];exact q0) (by rw [h.rk];exact q1) (by rw [h.ck];exact q2) (by rw [h.ck];exact q3);have hv:=fun (_:(0:Int)=0)=>And.intro h (And.intro ho (And.intro (And.intro x0 (And.intro x1 (And.intro x2 x3))) (And.intro (And.intro e0 (And.intro e1 (And.intro e2 e3))) (And.intro q0 (And.intro q1 (And.intro q2 q3))))))
 have:=fValid_v (c0:=c0) (c1:=c1) (c2:=c2) (c3:=c3) (fun _ _=>h2) y0 y1 y2 y3 (by omega) (by omega) (by omega) (by omega) he hv hL1 hL2;rw [h1] at this;exact this
theorem fCombine_q {w:World} {L:Nat} {M:Mo} {off:Rat} {cs:List CV} {rs:List RV} {a0 a1 a2 a3:Option Addr} {k0 c0 k1 c1 k2 c2 k3 c3:Nat} {l0 l1 l2 l3:List Rat} (h:MoV L w M off cs rs) (ho:mvOk cs rs=true) (x0:Rf L w a0 l0) (x1:Rf L w a1 l1) (x2:Rf L w a2 l2) (x3:Rf L w a3 l3) (e0:l0.length=k0) (e1:l1.length=k1) (e2:l2.length=k2) (e3:l3.length=k3) (q0:k0=rs.length) (q1:k1=rs.length) (q2:k2=cs.length) (q3:k3=cs.length) (hL1:4≤L) (hL2:L≤100) :
  Calls Tryz.prog 9 #[M.val,.agg #[.slice a0 k0 c0,.slice a1 k1 c1,.slice a2 k2 c2,.slice a3 k3 c3]] w fun e w'=>CmbAns L w w' e 0 cs (bdA cs rs l0 l1 l2 l3):=by
 obtain ⟨h1,h2⟩:=h.chk (by omega) ho;have mp:=mvOk_p ho;have hcl:=mp.cl;have hrl:=mp.rl
 obtain ⟨X0,y0,z0⟩:=rf_rl x0 (by omega);rw [e0] at y0 z0;obtain ⟨X1,y1,z1⟩:=rf_rl x1 (by omega);rw [e1] at y1 z1;obtain ⟨X2,y2,z2⟩:=rf_rl x2 (by omega);rw [e2] at y2 z2;obtain ⟨X3,y3,z3⟩:=rf_rl x3 (by omega);rw [e3] at y3 z3;have he:cbE M k0 X0 k1 X1 k2 X2 k3 X3=0:=cbE_ok h1 z0 z1 z2 z3 (by rw [h.rk];exact q0) (by rw [h.rk];exact q1) (by rw [h.ck];exact q2) (by rw [h.ck];exact q3);have hv:=fun (_:(0:Int)=0)=>And.intro h (And.intro ho (And.intro (And.intro x0 (And.intro x1 (And.intro x2 x3))) (And.intro (And.intro e0 (And.intro e1 (And.intro e2 e3))) (And.intro q0 (And.intro q1 (And.intro q2 q3))))))
 exact fCombine_v (c0:=c0) (c1:=c1) (c2:=c2) (c3:=c3) (fun _ _=>h2) y0 y1 y2 y3 (by omega) (by omega) (by omega) (by omega) he hv hL1 hL2
theorem fCrossing_q {w:World} {L:Nat} {M:Mo} {off:Rat} {cs:List CV} {rs:List RV} (h:MoV L w M off cs rs) (ho:mvOk cs rs=true) (hL:L≤100) :
  Calls Tryz.prog 20 #[M.val] w fun e w'=>CsgAns w w' e 0 cs rs:=by
 obtain ⟨h1,h2⟩:=h.chk (by omega) ho;exact fCrossing_v (fun _ _=>h2) (fun _ _=>h.mob hL) h1 (fun _=>⟨h,ho⟩)
theorem Rf.fr {F:Nat→Prop} {L w w' B o p} (h:Rf L w (some ⟨B,o,none⟩) p) (hf:Fr F w w') (hn:¬F B):Rf L w' (some ⟨B,o,none⟩) p:=fun j q e=>by
 obtain ⟨b,o',t,e1,h1,h2⟩:=h j q e;cases e1
 exact ⟨_,_,t,rfl,⟨hf.cell hn h1.x0,hf.cell hn h1.x1,hf.cell hn h1.x2⟩,hf.rn h2⟩
theorem k1_ok:mvOk k1C k1R=true:=by decide +kernel
def k1B:List BV:=[⟨1,0,2,false,[(0,1)]⟩,⟨0,0,9,true,[(0,1)]⟩,⟨0,0,0,false,[(0,1)]⟩,⟨1,0,1,true,[(0,1)]⟩]
theorem k1_v:vldB 0 k1C.length k1B=true:=by decide +kernel
theorem k1_i:k1B.any infB=false:=by decide +kernel
theorem k1_l:(List.range k1C.length).map (cmbQ k1B)=[((0:Int):Rat)]:=by decide +kernel
theorem k1_s:cmbS k1B=((1:Int):Rat):=by decide +kernel
theorem k1_x:crl (cvC k1C) k1C.length=[]∧crl (cvR k1R) k1R.length=[]:=by decide +kernel
set_option maxRecDepth 100000 in
set_option maxHeartbeats 8000000 in
theorem awake12_c (w:World):Calls Tryz.prog 4 #[] w fun e w'=>e=.returned (.bool true)∧Below w.heap.size w w':=by
 have HB:=hid (Below.refl w.heap.size w);go_enter Tryz.func4,Tryz.ntmps4;go_wp2_with fail
 refine (one12_c (z:=1) (by decide) (by decide)).mono ?_;rintro e v0 ⟨a0,rfl,hb,hx⟩;replace HB:=hid (HB.out.trans (hb.mono HB.out.size));have X0:=hid hx.out;clear hb hx;go_wp2_with fail
 refine (one12_c (z:=0) (by decide) (by decide)).mono ?_;rintro e v1 ⟨a1,rfl,hb,hx⟩;replace HB:=hid (HB.out.trans (hb.mono HB.out.size));replace X0:=hid (X0.out.below hb)
 have X1:=hid hx.out;clear hb hx;go_wp2_with fail
 refine (one12_c (z:=0) (by decide) (by decide)).mono ?_;rintro e v2 ⟨a2,rfl,hb,hx⟩;replace HB:=hid (HB.out.trans (hb.mono HB.out.size));replace X0:=hid (X0.out.below hb);replace X1:=hid (X1.out.below hb)
 have X2:=hid hx.out;clear hb hx;go_wp2_with fail
 refine (one12_c (z:=1) (by decide) (by decide)).mono ?_;rintro e v3 ⟨a3,rfl,hb,hx⟩;replace HB:=hid (HB.out.trans (hb.mono HB.out.size));replace X0:=hid (X0.out.below hb);replace X1:=hid (X1.out.below hb);replace X2:=hid (X2.out.below hb)
 have X3:=hid hx.out;clear hb hx;have hbn:=below_alloc (Below.refl v3.heap.size v3) (.cells #[.slice a0 1 1,.slice a1 1 1,.slice a2 1 1,.slice a3 1 1] 31);have BK:Hid (Bk (v3.alloc (.cells #[.slice a0 1 1,.slice a1 1 1,.slice a2 1 1,.slice a3 1 1] 31)) v3.heap.size [.slice a0 1 1,.slice a1 1 1,.slice a2 1 1,.slice a3 1 1] 31):=bk_new v3 [.slice a0 1 1,.slice a1 1 1,.slice a2 1 1,.slice a3 1 1] 31;replace HB:=hid (HB.out.trans (hbn.mono HB.out.size));replace X0:=hid (X0.out.below hbn);replace X1:=hid (X1.out.below hbn);replace X2:=hid (X2.out.below hbn);replace X3:=hid (X3.out.below hbn)
 clear hbn;go_upto_region 2 with fail
 generalize v3.alloc (.cells #[.slice a0 1 1,.slice a1 1 1,.slice a2 1 1,.slice a3 1 1] 31)=v4 at *;generalize v3.heap.size=xk at *;have hbd:=Below.drew (Below.refl v4.heap.size v4);replace HB:=hid (HB.out.trans (hbd.mono HB.out.size));replace X0:=hid (X0.out.below hbd);replace X1:=hid (X1.out.below hbd);replace X2:=hid (X2.out.below hbd);replace X3:=hid (X3.out.below hbd);replace BK:=hid (BK.out.below hbd)
 clear hbd;have r0:=BK.out.cell (j:=0) rfl;have r1:=BK.out.cell (j:=1) rfl;have r2:=BK.out.cell (j:=2) rfl;have r3:=BK.out.cell (j:=3) rfl;refine wp_region_held_drew (S:=(fun w'=>w'.cell? ⟨xk,0,none⟩=some (.slice a0 1 1)∧w'.cell? ⟨xk,1,none⟩=some (.slice a1 1 1)∧w'.cell? ⟨xk,2,none⟩=some (.slice a2 1 1)∧w'.cell? ⟨xk,3,none⟩=some (.slice a3 1 1))) (by kernel_rfl) ?_ (fun hHeld=>?_)
 ·exact ⟨r0,r1,r2,r3⟩
 generalize v4.drew=u0 at *;refine tkO 1 ?_;simp only [lay_,Act.put];refine wpAnyH_ready (rs:=[0]) (by kernel_rfl) (by simp) ?_;refine AllReadyH.cons (o:=_) rfl (fun K hK=>?_) ?_;rotate_left;exact AllReadyH.nil;go_simp
 go_at_call 19
 refine first12_c.mono ?_;rintro e u1 ⟨⟨⟨sm,xm,nm,cm,fm,ym,mm,dm,gm⟩,cam,ckm,ccm,Cm,ram,rkm,rcm,Rm⟩,rfl,hb,HM⟩
 (try go_wp2_with fail)
 refine hK.out _ _ ?_ (fun hH0=>?_)
 ·((try dsimp only);(refine ⟨?_,?_,?_,?_⟩ <;> repeat (with_reducible first | assumption | refine kCb (by assumption) ?_)))
 clear hK K;try simp only [lay_,Act.put]
 clear r0 r1 r2 r3;obtain ⟨r0,r1,r2,r3⟩:=id hH0;replace HB:=hid (HB.out.trans (hb.mono HB.out.size));replace X0:=hid (X0.out.below hb);replace X1:=hid (X1.out.below hb);replace X2:=hid (X2.out.below hb);replace X3:=hid (X3.out.below hb);replace BK:=hid (BK.out.below hb)
 clear hb;refine wpAnyH_ready (rs:=[2]) (by kernel_rfl) (by simp) ?_;refine AllReadyH.cons (o:=_) rfl (fun K hK=>?_) ?_;rotate_left;exact AllReadyH.nil;go_simp
 go_at_call 16
 refine (fValid_q (L:=8) HM.out k1_ok (Rf.mono X0.out (by decide)) (Rf.mono X1.out (by decide)) (Rf.mono X2.out (by decide)) (Rf.mono X3.out (by decide)) rfl rfl rfl rfl rfl rfl rfl rfl (by decide) (by decide)).mono ?_;rintro e u2 ⟨rfl,hb⟩;rw [show vldB 0 k1C.length (bdA k1C k1R [((1:Int):Rat)] [((0:Int):Rat)] [((0:Int):Rat)] [((1:Int):Rat)])=true from k1_v]
 (try go_wp2_with fail)
 refine hK.out _ _ ?_ (fun hH1=>?_)
 ·((try dsimp only);(refine ⟨?_,?_,?_,?_⟩ <;> repeat (with_reducible first | assumption | refine kCb (by assumption) ?_)))
 clear hK K;try simp only [lay_,Act.put]
 clear r0 r1 r2 r3;obtain ⟨r0,r1,r2,r3⟩:=id hH1;replace HB:=hid (HB.out.trans (hb.mono HB.out.size));replace X0:=hid (X0.out.below hb);replace X1:=hid (X1.out.below hb);replace X2:=hid (X2.out.below hb);replace X3:=hid (X3.out.below hb);replace BK:=hid (BK.out.below hb)
 clear hb HM;refine tkO 3 ?_;simp only [lay_,Act.put];refine tkO 4 ?_;simp only [lay_,Act.put];refine tkO 5 ?_;simp only [lay_,Act.put];refine tkO 6 ?_;simp only [lay_,Act.put];refine tkO 7 ?_;simp only [lay_,Act.put];refine wpAnyH_done (by kernel_rfl) ?_ _;clear hHeld hH0 hH1 r0 r1 r2 r3;go_upto_region 3 with fail
 go_cut [4,5,6] from 20 to 26 (fun p q r wx=>∃(wz:World) (B bx:Nat) (s:Bool) (x:Option Addr) (n c:Nat) (f:Nat→Int) (y:Option Addr) (m d:Nat) (g:Nat→Int),wz=wx∧p=.slice (some ⟨B,0,none⟩) 1 1∧q=.pointer (some ⟨bx,0,none⟩)∧r=.int .i64 0∧Hid (Below w.heap.size w wz)∧Hid (Rf (KC 8) wz (some ⟨B,0,none⟩) [((0:Int):Rat)])∧Hid (Sx wz bx s x n c y m d)∧Hid (Rn (KC 8) wz s x n c f y m d g ((1:Int):Rat)))
 case first =>
  have hbd:=Below.drew (Below.refl u2.heap.size u2);replace HB:=hid (HB.out.trans (hbd.mono HB.out.size));replace X0:=hid (X0.out.below hbd);replace X1:=hid (X1.out.below hbd);replace X2:=hid (X2.out.below hbd);replace X3:=hid (X3.out.below hbd);replace BK:=hid (BK.out.below hbd)
  clear hbd;have r0:=BK.out.cell (j:=0) rfl;have r1:=BK.out.cell (j:=1) rfl;have r2:=BK.out.cell (j:=2) rfl;have r3:=BK.out.cell (j:=3) rfl;refine wp_region_held_drew (S:=(fun w'=>w'.cell? ⟨xk,0,none⟩=some (.slice a0 1 1)∧w'.cell? ⟨xk,1,none⟩=some (.slice a1 1 1)∧w'.cell? ⟨xk,2,none⟩=some (.slice a2 1 1)∧w'.cell? ⟨xk,3,none⟩=some (.slice a3 1 1))) (by kernel_rfl) ?_ (fun hHeld=>?_)
  ·exact ⟨r0,r1,r2,r3⟩
  generalize u2.drew=u3 at *;refine tkO 1 ?_;simp only [lay_,Act.put];refine wpAnyH_ready (rs:=[0,7]) (by kernel_rfl) (by simp) ?_;refine AllReadyH.cons (o:=_) rfl (fun K hK=>?_) ?_
  ·go_simp
   go_at_call 19
   refine first12_c.mono ?_;rintro e u4 ⟨⟨⟨sm,xm,nm,cm,fm,ym,mm,dm,gm⟩,cam,ckm,ccm,Cm,ram,rkm,rcm,Rm⟩,rfl,hb,HM⟩
   (try go_wp2_with fail)
   refine hK.out _ _ ?_ (fun hHa=>?_)
   ·((try dsimp only);(refine ⟨?_,?_,?_,?_⟩ <;> repeat (with_reducible first | assumption | refine kCb (by assumption) ?_)))
   clear hK K;try simp only [lay_,Act.put]
   clear r0 r1 r2 r3;obtain ⟨r0,r1,r2,r3⟩:=id hHa;replace HB:=hid (HB.out.trans (hb.mono HB.out.size));replace X0:=hid (X0.out.below hb);replace X1:=hid (X1.out.below hb);replace X2:=hid (X2.out.below hb);replace X3:=hid (X3.out.below hb);replace BK:=hid (BK.out.below hb)
   clear hb;refine wpAnyH_ready (rs:=[2,7]) (by kernel_rfl) (by simp) ?_;refine AllReadyH.cons (o:=_) rfl (fun K hK=>?_) ?_
   ·go_simp
    go_at_call 9
    refine (fCombine_q (L:=8) HM.out k1_ok (Rf.mono X0.out (by decide)) (Rf.mono X1.out (by decide)) (Rf.mono X2.out (by decide)) (Rf.mono X3.out (by decide)) rfl rfl rfl rfl rfl rfl rfl rfl (by decide) (by decide)).mono ?_;rintro e u5 ⟨hb,⟨h9,_⟩ | ⟨_,h9,_⟩ | ⟨_,_,B,s7,x7,n7,c7,f7,y7,m7,d7,g7,hBB,rfl,hrf,hrn⟩⟩
    ·exact absurd rfl h9
    ·rw [show (bdA k1C k1R [((1:Int):Rat)] [((0:Int):Rat)] [((0:Int):Rat)] [((1:Int):Rat)]).any infB=false from k1_i] at h9;cases h9
    rw [show k1C.length=1 from rfl]
    (try go_wp2_with fail)
    refine hK.out _ _ ?_ (fun hHb=>?_)
    ·((try dsimp only);(refine ⟨?_,?_,?_,?_⟩ <;> repeat (with_reducible first | assumption | refine kCb (by assumption) ?_)))
    clear hK K;try simp only [lay_,Act.put]
    clear r0 r1 r2 r3;obtain ⟨r0,r1,r2,r3⟩:=id hHb;rw [show (List.range k1C.length).map (cmbQ (bdA k1C k1R [((1:Int):Rat)] [((0:Int):Rat)] [((0:Int):Rat)] [((1:Int):Rat)]))=[((0:Int):Rat)] from k1_l] at hrf;rw [show cmbS (bdA k1C k1R [((1:Int):Rat)] [((0:Int):Rat)] [((0:Int):Rat)] [((1:Int):Rat)])=((1:Int):Rat) from k1_s] at hrn;have RF:=hid hrf;have RN:=hid hrn
    have hb1:=hBB.1;have hb2:=hBB.2
    replace HB:=hid (HB.out.trans (hb.mono HB.out.size));replace X0:=hid (X0.out.below hb);replace X1:=hid (X1.out.below hb);replace X2:=hid (X2.out.below hb);replace X3:=hid (X3.out.below hb);replace BK:=hid (BK.out.below hb)
    clear hb hrf hrn HM;refine tkO 3 ?_;simp only [lay_,Act.put];refine tkO 4 ?_;simp only [lay_,Act.put];refine tkO 5 ?_;simp only [lay_,Act.put];refine tkO 6 ?_;simp only [lay_,Act.put];refine wpAnyH_ready (rs:=[7]) (by kernel_rfl) (by simp) ?_;refine AllReadyH.cons (o:=_) rfl (fun K hK=>?_) ?_;rotate_left;exact AllReadyH.nil;go_simp;have HXK:Hid (¬(xk=u5.heap.size)):=fun e=>by have:=BK.out.lt;omega
    have HWB:Hid (w.heap.size≤u5.heap.size):=HB.out.size;have hbA:=below_alloc (Below.refl u5.heap.size u5) (.cells #[.bool false,.slice none 0 0,.slice none 0 0] 24);have BX:=hid (bk_new u5 [.bool false,.slice none 0 0,.slice none 0 0] 24);replace BX:Hid (Bk (u5.alloc (.cells #[.bool false,.slice none 0 0,.slice none 0 0] 24)) u5.heap.size [.bool false,.slice none 0 0,.slice none 0 0] 24):=BX;refine hK.out _ _ ?_ (fun hHc=>?_)
    ·((try dsimp only);(refine ⟨?_,?_,?_,?_⟩ <;> repeat (with_reducible first | assumption | refine kCb (by assumption) ?_)))
    clear hK K;try simp only [lay_,Act.put]
    clear r0 r1 r2 r3;obtain ⟨r0,r1,r2,r3⟩:=id hHc;replace HB:=hid (HB.out.trans (hbA.mono HB.out.size));replace X0:=hid (X0.out.below hbA);replace X1:=hid (X1.out.below hbA);replace X2:=hid (X2.out.below hbA);replace X3:=hid (X3.out.below hbA);replace BK:=hid (BK.out.below hbA)
    have hsA:=hbA.size;replace RF:=hid (RF.out.below hbA);replace RN:=hid (RN.out.below hbA)
    generalize hWA:u5.alloc (.cells #[.bool false,.slice none 0 0,.slice none 0 0] 24)=u6 at *;clear hWA hbA;generalize hbx:u5.heap.size=bx at *;refine tkO 8 ?_;simp only [lay_,Act.put];refine wpAnyH_ready (rs:=[9]) (by kernel_rfl) (by simp) ?_;refine AllReadyH.cons (o:=_) rfl (fun K hK=>?_) ?_;rotate_left;exact AllReadyH.nil;have SX:=hid BX.out.sx;obtain ⟨sz,z0,z1,z2,zf⟩:=BX.out.sx;have FG:=hid (sx_fr (u0:=.bool s7) (u1:=.slice x7 n7 c7) (u2:=.slice y7 m7 d7) SX.out);go_simp;refine hK.out _ _ ?_ (fun hHd=>?_)
    ·exact ⟨FG.out.cell HXK.out (BK.out.cell (j:=0) rfl),FG.out.cell HXK.out (BK.out.cell (j:=1) rfl),FG.out.cell HXK.out (BK.out.cell (j:=2) rfl),FG.out.cell HXK.out (BK.out.cell (j:=3) rfl)⟩
    clear hK K;try simp only [lay_,Act.put]
    refine tkO 10 ?_;simp only [lay_,Act.put];refine wpAnyH_done (by kernel_rfl) ?_ _;have HSX:=hid (SX.out.st (s1:=s7) (x1:=x7) (n1:=n7) (c1:=c7) (y1:=y7) (m1:=m7) (d1:=d7));have HRN:=hid (FG.out.rn RN.out)
    have HRF:Hid (Rf (KC 8) _ (some ⟨B,0,none⟩) [((0:Int):Rat)]):=RF.out.fr FG.out (by omega);have HBz:=hid (Fr.below HB.out FG.out (fun k hk=>by have:=HWB.out;omega))
    (try go_wp2_with fail)
    go_meet
    exact ⟨_,B,_,s7,x7,n7,c7,f7,y7,m7,d7,g7,rfl,rfl,rfl,rfl,HBz.out,HRF.out,HSX.out,HRN.out⟩
   refine AllReadyH.cons (o:=_) rfl (fun K hK=>?_) ?_
   ·go_simp;have HXK:Hid (¬(xk=u4.heap.size)):=fun e=>by have:=BK.out.lt;omega
    have HWB:Hid (w.heap.size≤u4.heap.size):=HB.out.size;have hbA:=below_alloc (Below.refl u4.heap.size u4) (.cells #[.bool false,.slice none 0 0,.slice none 0 0] 24);have BX:=hid (bk_new u4 [.bool false,.slice none 0 0,.slice none 0 0] 24);replace BX:Hid (Bk (u4.alloc (.cells #[.bool false,.slice none 0 0,.slice none 0 0] 24)) u4.heap.size [.bool false,.slice none 0 0,.slice none 0 0] 24):=BX;refine hK.out _ _ ?_ (fun hHc=>?_)
    ·((try dsimp only);(refine ⟨?_,?_,?_,?_⟩ <;> repeat (with_reducible first | assumption | refine kCb (by assumption) ?_)))
    clear hK K;try simp only [lay_,Act.put]
    clear r0 r1 r2 r3;obtain ⟨r0,r1,r2,r3⟩:=id hHc;replace HB:=hid (HB.out.trans (hbA.mono HB.out.size));replace X0:=hid (X0.out.below hbA);replace X1:=hid (X1.out.below hbA);replace X2:=hid (X2.out.below hbA);replace X3:=hid (X3.out.below hbA);replace BK:=hid (BK.out.below hbA)
    have hsA:=hbA.size;replace HM:=hid (HM.out.below hbA);generalize hWA:u4.alloc (.cells #[.bool false,.slice none 0 0,.slice none 0 0] 24)=u7 at *;clear hWA hbA;generalize hbx:u4.heap.size=bx at *;refine wpAnyH_ready (rs:=[2]) (by kernel_rfl) (by simp) ?_;refine AllReadyH.cons (o:=_) rfl (fun K hK=>?_) ?_;rotate_left;exact AllReadyH.nil;go_simp
    go_at_call 9
    refine (fCombine_q (L:=8) HM.out k1_ok (Rf.mono X0.out (by decide)) (Rf.mono X1.out (by decide)) (Rf.mono X2.out (by decide)) (Rf.mono X3.out (by decide)) rfl rfl rfl rfl rfl rfl rfl rfl (by decide) (by decide)).mono ?_;rintro e u8 ⟨hb,⟨h9,_⟩ | ⟨_,h9,_⟩ | ⟨_,_,B,s7,x7,n7,c7,f7,y7,m7,d7,g7,hBB,rfl,hrf,hrn⟩⟩
    ·exact absurd rfl h9
    ·rw [show (bdA k1C k1R [((1:Int):Rat)] [((0:Int):Rat)] [((0:Int):Rat)] [((1:Int):Rat)]).any infB=false from k1_i] at h9;cases h9
    rw [show k1C.length=1 from rfl]
    (try go_wp2_with fail)
    refine hK.out _ _ ?_ (fun hHb=>?_)
    ·((try dsimp only);(refine ⟨?_,?_,?_,?_⟩ <;> repeat (with_reducible first | assumption | refine kCb (by assumption) ?_)))
    clear hK K;try simp only [lay_,Act.put]
    clear r0 r1 r2 r3;obtain ⟨r0,r1,r2,r3⟩:=id hHb;rw [show (List.range k1C.length).map (cmbQ (bdA k1C k1R [((1:Int):Rat)] [((0:Int):Rat)] [((0:Int):Rat)] [((1:Int):Rat)]))=[((0:Int):Rat)] from k1_l] at hrf;rw [show cmbS (bdA k1C k1R [((1:Int):Rat)] [((0:Int):Rat)] [((0:Int):Rat)] [((1:Int):Rat)])=((1:Int):Rat) from k1_s] at hrn;have RF:=hid hrf;have RN:=hid hrn
    have hb1:=hBB.1;have hb2:=hBB.2
    have hlt:=BX.out.lt;replace HB:=hid (HB.out.trans (hb.mono HB.out.size));replace X0:=hid (X0.out.below hb);replace X1:=hid (X1.out.below hb);replace X2:=hid (X2.out.below hb);replace X3:=hid (X3.out.below hb);replace BK:=hid (BK.out.below hb);replace BX:=hid (BX.out.below hb)
    clear hb hrf hrn HM;refine tkO 3 ?_;simp only [lay_,Act.put];refine tkO 4 ?_;simp only [lay_,Act.put];refine tkO 5 ?_;simp only [lay_,Act.put];refine tkO 6 ?_;simp only [lay_,Act.put];refine tkO 8 ?_;simp only [lay_,Act.put];refine wpAnyH_ready (rs:=[9]) (by kernel_rfl) (by simp) ?_;refine AllReadyH.cons (o:=_) rfl (fun K hK=>?_) ?_;rotate_left;exact AllReadyH.nil;have SX:=hid BX.out.sx;obtain ⟨sz,z0,z1,z2,zf⟩:=BX.out.sx;have FG:=hid (sx_fr (u0:=.bool s7) (u1:=.slice x7 n7 c7) (u2:=.slice y7 m7 d7) SX.out);go_simp;refine hK.out _ _ ?_ (fun hHd=>?_)
    ·exact ⟨FG.out.cell HXK.out (BK.out.cell (j:=0) rfl),FG.out.cell HXK.out (BK.out.cell (j:=1) rfl),FG.out.cell HXK.out (BK.out.cell (j:=2) rfl),FG.out.cell HXK.out (BK.out.cell (j:=3) rfl)⟩
    clear hK K;try simp only [lay_,Act.put]
    refine tkO 10 ?_;simp only [lay_,Act.put];refine wpAnyH_done (by kernel_rfl) ?_ _;have HSX:=hid (SX.out.st (s1:=s7) (x1:=x7) (n1:=n7) (c1:=c7) (y1:=y7) (m1:=m7) (d1:=d7));have HRN:=hid (FG.out.rn RN.out)
    have HRF:Hid (Rf (KC 8) _ (some ⟨B,0,none⟩) [((0:Int):Rat)]):=RF.out.fr FG.out (by omega);have HBz:=hid (Fr.below HB.out FG.out (fun k hk=>by have:=HWB.out;omega))
    (try go_wp2_with fail)
    go_meet
    exact ⟨_,B,_,s7,x7,n7,c7,f7,y7,m7,d7,g7,rfl,rfl,rfl,rfl,HBz.out,HRF.out,HSX.out,HRN.out⟩
   exact AllReadyH.nil
  refine AllReadyH.cons (o:=_) rfl (fun K hK=>?_) ?_
  ·go_simp;have HXK:Hid (¬(xk=u3.heap.size)):=fun e=>by have:=BK.out.lt;omega
   have HWB:Hid (w.heap.size≤u3.heap.size):=HB.out.size;have hbA:=below_alloc (Below.refl u3.heap.size u3) (.cells #[.bool false,.slice none 0 0,.slice none 0 0] 24);have BX:=hid (bk_new u3 [.bool false,.slice none 0 0,.slice none 0 0] 24);replace BX:Hid (Bk (u3.alloc (.cells #[.bool false,.slice none 0 0,.slice none 0 0] 24)) u3.heap.size [.bool false,.slice none 0 0,.slice none 0 0] 24):=BX;refine hK.out _ _ ?_ (fun hHc=>?_)
   ·((try dsimp only);(refine ⟨?_,?_,?_,?_⟩ <;> repeat (with_reducible first | assumption | refine kCb (by assumption) ?_)))
   clear hK K;try simp only [lay_,Act.put]
   clear r0 r1 r2 r3;obtain ⟨r0,r1,r2,r3⟩:=id hHc;replace HB:=hid (HB.out.trans (hbA.mono HB.out.size));replace X0:=hid (X0.out.below hbA);replace X1:=hid (X1.out.below hbA);replace X2:=hid (X2.out.below hbA);replace X3:=hid (X3.out.below hbA);replace BK:=hid (BK.out.below hbA)
   have hsA:=hbA.size;generalize hWA:u3.alloc (.cells #[.bool false,.slice none 0 0,.slice none 0 0] 24)=u9 at *;clear hWA hbA;generalize hbx:u3.heap.size=bx at *;refine wpAnyH_ready (rs:=[0]) (by kernel_rfl) (by simp) ?_;refine AllReadyH.cons (o:=_) rfl (fun K hK=>?_) ?_;rotate_left;exact AllReadyH.nil;go_simp
   go_at_call 19
   refine first12_c.mono ?_;rintro e u10 ⟨⟨⟨sm,xm,nm,cm,fm,ym,mm,dm,gm⟩,cam,ckm,ccm,Cm,ram,rkm,rcm,Rm⟩,rfl,hb,HM⟩
   (try go_wp2_with fail)
   refine hK.out _ _ ?_ (fun hHa=>?_)
   ·((try dsimp only);(refine ⟨?_,?_,?_,?_⟩ <;> repeat (with_reducible first | assumption | refine kCb (by assumption) ?_)))
   clear hK K;try simp only [lay_,Act.put]
   clear r0 r1 r2 r3;obtain ⟨r0,r1,r2,r3⟩:=id hHa;replace HB:=hid (HB.out.trans (hb.mono HB.out.size));replace X0:=hid (X0.out.below hb);replace X1:=hid (X1.out.below hb);replace X2:=hid (X2.out.below hb);replace X3:=hid (X3.out.below hb);replace BK:=hid (BK.out.below hb);replace BX:=hid (BX.out.below hb)
   clear hb;refine wpAnyH_ready (rs:=[2]) (by kernel_rfl) (by simp) ?_;refine AllReadyH.cons (o:=_) rfl (fun K hK=>?_) ?_;rotate_left;exact AllReadyH.nil;go_simp
   go_at_call 9
   refine (fCombine_q (L:=8) HM.out k1_ok (Rf.mono X0.out (by decide)) (Rf.mono X1.out (by decide)) (Rf.mono X2.out (by decide)) (Rf.mono X3.out (by decide)) rfl rfl rfl rfl rfl rfl rfl rfl (by decide) (by decide)).mono ?_;rintro e u11 ⟨hb,⟨h9,_⟩ | ⟨_,h9,_⟩ | ⟨_,_,B,s7,x7,n7,c7,f7,y7,m7,d7,g7,hBB,rfl,hrf,hrn⟩⟩
   ·exact absurd rfl h9
   ·rw [show (bdA k1C k1R [((1:Int):Rat)] [((0:Int):Rat)] [((0:Int):Rat)] [((1:Int):Rat)]).any infB=false from k1_i] at h9;cases h9
   rw [show k1C.length=1 from rfl]
   (try go_wp2_with fail)
   refine hK.out _ _ ?_ (fun hHb=>?_)
   ·((try dsimp only);(refine ⟨?_,?_,?_,?_⟩ <;> repeat (with_reducible first | assumption | refine kCb (by assumption) ?_)))
   clear hK K;try simp only [lay_,Act.put]
   clear r0 r1 r2 r3;obtain ⟨r0,r1,r2,r3⟩:=id hHb;rw [show (List.range k1C.length).map (cmbQ (bdA k1C k1R [((1:Int):Rat)] [((0:Int):Rat)] [((0:Int):Rat)] [((1:Int):Rat)]))=[((0:Int):Rat)] from k1_l] at hrf;rw [show cmbS (bdA k1C k1R [((1:Int):Rat)] [((0:Int):Rat)] [((0:Int):Rat)] [((1:Int):Rat)])=((1:Int):Rat) from k1_s] at hrn;have RF:=hid hrf;have RN:=hid hrn
   have hb1:=hBB.1;have hb2:=hBB.2
   have hlt:=BX.out.lt;replace HB:=hid (HB.out.trans (hb.mono HB.out.size));replace X0:=hid (X0.out.below hb);replace X1:=hid (X1.out.below hb);replace X2:=hid (X2.out.below hb);replace X3:=hid (X3.out.below hb);replace BK:=hid (BK.out.below hb);replace BX:=hid (BX.out.below hb)
   clear hb hrf hrn HM;refine tkO 3 ?_;simp only [lay_,Act.put];refine tkO 4 ?_;simp only [lay_,Act.put];refine tkO 5 ?_;simp only [lay_,Act.put];refine tkO 6 ?_;simp only [lay_,Act.put];refine tkO 8 ?_;simp only [lay_,Act.put];refine wpAnyH_ready (rs:=[9]) (by kernel_rfl) (by simp) ?_;refine AllReadyH.cons (o:=_) rfl (fun K hK=>?_) ?_;rotate_left;exact AllReadyH.nil;have SX:=hid BX.out.sx;obtain ⟨sz,z0,z1,z2,zf⟩:=BX.out.sx;have FG:=hid (sx_fr (u0:=.bool s7) (u1:=.slice x7 n7 c7) (u2:=.slice y7 m7 d7) SX.out);go_simp;refine hK.out _ _ ?_ (fun hHd=>?_)
   ·exact ⟨FG.out.cell HXK.out (BK.out.cell (j:=0) rfl),FG.out.cell HXK.out (BK.out.cell (j:=1) rfl),FG.out.cell HXK.out (BK.out.cell (j:=2) rfl),FG.out.cell HXK.out (BK.out.cell (j:=3) rfl)⟩
   clear hK K;try simp only [lay_,Act.put]
   refine tkO 10 ?_;simp only [lay_,Act.put];refine wpAnyH_done (by kernel_rfl) ?_ _;have HSX:=hid (SX.out.st (s1:=s7) (x1:=x7) (n1:=n7) (c1:=c7) (y1:=y7) (m1:=m7) (d1:=d7));have HRN:=hid (FG.out.rn RN.out)
   have HRF:Hid (Rf (KC 8) _ (some ⟨B,0,none⟩) [((0:Int):Rat)]):=RF.out.fr FG.out (by omega);have HBz:=hid (Fr.below HB.out FG.out (fun k hk=>by have:=HWB.out;omega))
   (try go_wp2_with fail)
   go_meet
   exact ⟨_,B,_,s7,x7,n7,c7,f7,y7,m7,d7,g7,rfl,rfl,rfl,rfl,HBz.out,HRF.out,HSX.out,HRN.out⟩
  exact AllReadyH.nil
 case rest =>
  obtain ⟨wz,B,bx,s2,x2,n2,c2,f2,y2,m2,d2,g2,rfl,rfl,rfl,rfl,HB,RF,SX,RN⟩:=hcut;clear X0 X1 X2 X3 BK;go_wp2_with fail
  go_at_call 19
  refine first12_c.mono ?_;rintro e wa ⟨⟨⟨sm,xm,nm,cm,fm,ym,mm,dm,gm⟩,cam,ckm,ccm,Cm,ram,rkm,rcm,Rm⟩,rfl,hb,HM⟩;replace HB:=hid (HB.out.trans (hb.mono HB.out.size));replace RF:=hid (RF.out.below hb);replace SX:=hid (SX.out.below hb);replace RN:=hid (RN.out.below hb)
  clear hb;go_wp2_with fail
  go_at_call 20
  refine (fCrossing_q (L:=8) HM.out k1_ok (by decide)).mono ?_;rintro e wb ⟨hb,⟨h9,_⟩ | ⟨_,_,rfl⟩ | ⟨_,h9,_⟩⟩
  ·exact absurd rfl h9
  rotate_left
  ·exact absurd k1_x h9
  have hbn:=below_alloc (Below.refl wb.heap.size wb) (.cells #[.slice none 0 0,.slice none 0 0,.slice none 0 0,.slice none 0 0] 31);have hbb:=hb.trans (hbn.mono hb.size);replace HB:=hid (HB.out.trans (hbb.mono HB.out.size));replace RF:=hid (RF.out.below hbb);replace SX:=hid (SX.out.below hbb);replace RN:=hid (RN.out.below hbb)
  clear hb hbn hbb HM;go_upto_region 5 with fail
  generalize wb.alloc (.cells #[.slice none 0 0,.slice none 0 0,.slice none 0 0,.slice none 0 0] 31)=w5 at *;obtain ⟨b,o,⟨s,x,n,c,f,y,m,d,g⟩,hb1,⟨p0,p1,p2⟩,hr⟩:=RF.out 0 _ rfl;cases hb1
  replace p0:w5.cell? ⟨B,0,none⟩=some (.bool s):=p0;replace p1:w5.cell? ⟨B,1,none⟩=some (.slice x n c):=p1;replace p2:w5.cell? ⟨B,2,none⟩=some (.slice y m d):=p2;have HR:Hid (Rn (KC 8) w5 s x n c f y m d g ((0:Int):Rat)):=hr;have HV:=hid RN.out;clear hr RF RN;have k0:=SX.out.x0;have k1:=SX.out.x1;have k2:=SX.out.x2;clear SX;have CD:=hid (fun W=>docOfQ_c (w:=W) (z:=0) (by decide) (by decide));have CE:=hid (fun W=>docOfQ_c (w:=W) (z:=1) (by decide) (by decide));unfold RatAns at CD CE;have CS:Hid (∀W s2 x2 n2 c2 f2 y2 m2 d2 g2,Below w5.heap.size w5 W→Rn 4 W s2 x2 n2 c2 f2 y2 m2 d2 g2 ((0:Int):Rat)→Calls Tryz.prog 15 #[.agg #[.bool s,.slice x n c,.slice y m d],.agg #[.bool s2,.slice x2 n2 c2,.slice y2 m2 d2]] W fun e w'=>e=.returned (.bool true)∧Below W.heap.size W w'):=fun W s2 x2 n2 c2 f2 y2 m2 d2 g2 hW h2=>rSameEq_c (HR.out.below hW) h2 (by decide) (by decide)
  have CT:Hid (∀W s3 x3 n3 c3 f3 y3 m3 d3 g3,Below w5.heap.size w5 W→Rn 4 W s3 x3 n3 c3 f3 y3 m3 d3 g3 ((1:Int):Rat)→Calls Tryz.prog 15 #[.agg #[.bool s2,.slice x2 n2 c2,.slice y2 m2 d2],.agg #[.bool s3,.slice x3 n3 c3,.slice y3 m3 d3]] W fun e w'=>e=.returned (.bool true)∧Below W.heap.size W w'):=fun W s3 x3 n3 c3 f3 y3 m3 d3 g3 hW h2=>rSameEq_c (HV.out.below hW) h2 (by decide) (by decide)
  go_region_held3 (fun w'=>w'.cell? ⟨B,0,none⟩=some (.bool s)∧w'.cell? ⟨B,1,none⟩=some (.slice x n c)∧w'.cell? ⟨B,2,none⟩=some (.slice y m d)∧w'.cell? ⟨bx,0,none⟩=some (.bool s2)∧w'.cell? ⟨bx,1,none⟩=some (.slice x2 n2 c2)∧w'.cell? ⟨bx,2,none⟩=some (.slice y2 m2 d2))
   (refine ⟨?_,?_,?_,?_,?_,?_⟩ <;> repeat (with_reducible first | assumption | refine kCd ?_ | refine kCb (by assumption) ?_))
   (first
    | (have h9:=H5.out;clear h9;go_at_call 21;with_reducible refine (CE.out _).mono ?_;rintro e w8 ⟨s8,x8,n8,c8,f8,y8,m8,d8,g8,rfl,hb8,H8⟩;replace H8:=hid H8)
    | (go_at_call 21;with_reducible refine (CD.out _).mono ?_;rintro e w6 ⟨s6,x6,n6,c6,f6,y6,m6,d6,g6,rfl,hb6,H6⟩;replace H6:=hid H6)
    | (have h9:=H8.out;clear h9;go_at_call 15;with_reducible refine (CT.out _ s8 x8 n8 c8 f8 y8 m8 d8 g8 (by repeat (with_reducible first | assumption | exact Below.refl _ _ | refine Below.drew ?_ | refine kBa ?_ | refine kBb (by assumption) ?_)) (H8.out.below (by repeat (with_reducible first | assumption | exact Below.refl _ _ | refine Below.drew ?_ | refine kBa ?_ | refine kBb (by assumption) ?_)))).mono ?_;rintro e w9 ⟨rfl,hb9⟩)
    | (go_at_call 15;with_reducible refine (CS.out _ s6 x6 n6 c6 f6 y6 m6 d6 g6 (by repeat (with_reducible first | assumption | exact Below.refl _ _ | refine Below.drew ?_ | refine kBa ?_ | refine kBb (by assumption) ?_)) (H6.out.below (by repeat (with_reducible first | assumption | exact Below.refl _ _ | refine Below.drew ?_ | refine kBa ?_ | refine kBb (by assumption) ?_)))).mono ?_;rintro e w7 ⟨rfl,hb7⟩;have H5:=hid True.intro))
  all_goals
   have HB9:=hid (HB.out.trans ((show Below w5.heap.size w5 w9 from (by repeat (with_reducible first | assumption | exact Below.refl _ _ | refine Below.drew ?_ | refine kBa ?_ | refine kBb (by assumption) ?_))).mono HB.out.size));clear p0 p1 p2 k0 k1 k2 CD CS CE CT HR;go_wp2;go_ret;exact ⟨by first | rfl | simp,HB9.out⟩
theorem Tq.of {K w w' ao l} (h:Tq K w ao l) (hb:l≠[]→∀b o s,ao=some ⟨b,o,s⟩→b<w.heap.size→w'.heap[b]?=w.heap[b]?) (hk:Kp w w'):Tq K w' ao l:=fun j a q hj=>by
 obtain ⟨b,o,t,e,⟨c0,c1,c2,c3⟩,h2⟩:=h j a q hj;have:=hb (fun e=>by rw [e] at hj;simp at hj) b o none e (World.block_lt_of_cell? w _ c0);exact ⟨b,o,t,e,⟨(World.cell?_of_block (a:=⟨b,o+j*4,none⟩) this).trans c0,(World.cell?_of_block (a:=⟨b,o+j*4+1,none⟩) this).trans c1,(World.cell?_of_block (a:=⟨b,o+j*4+2,none⟩) this).trans c2,(World.cell?_of_block (a:=⟨b,o+j*4+3,none⟩) this).trans c3⟩,h2.kp hk⟩
theorem Tq.lt {K w ao l} (h:Tq K w ao l) (hl:l≠[]):∀b o s,ao=some ⟨b,o,s⟩→b<w.heap.size:=fun b o s e=>by
 match l,hl with
 | (a,q) :: r,_ =>
  obtain ⟨b',o',t,e',h4,_⟩:=h 0 a q rfl;rw [e] at e';cases e'
  exact World.block_lt_of_cell? w _ h4.x0
def FN (K:Nat) (q:Rat) (v:Value) (w:World):Prop:=∃t':Nm,v=t'.val∧QnT K w t' q
def FT (K base tk:Nat) (ts:List (Int × Rat)) (v:Value) (w:World):Prop:=∃aw cw,v=.slice aw tk cw∧(∀b o s,aw=some ⟨b,o,s⟩→base≤b)∧Tq K w aw ts
theorem FN.below {K t v w w'} (h:FN K t v w) (hb:Below w.heap.size w w'):FN K t v w':=by obtain ⟨t',h1,h2⟩:=h;exact ⟨t',h1,h2.below hb⟩
theorem FT.below {K base tk ts v w w'} (h:FT K base tk ts v w) (hb:Below w.heap.size w w'):FT K base tk ts v w':=by obtain ⟨aw,cw,h1,h2,h3⟩:=h;exact ⟨aw,cw,h1,h2,h3.below hb⟩
end Go.Proofs.YtffblgeappcadaaGreat
