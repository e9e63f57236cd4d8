import Derived.Test.YtpfmeafmepgimaaGreatFkg15
import Derived.Test.YtpfmeafmepgimaaGreatFkg12
import Derived.Deep.Slices
import Derived.Deep.Strs
import Derived.Maps.Own
import Derived.Maps.OwnSet
import Derived.Maps.OwnOps
import Derived.Maps.Views
import Derived.DeepKeys4
import Derived.Maps.Range
set_option linter.unusedVariables false
set_option linter.unusedSimpArgs false
set_option maxRecDepth 100000
set_option maxHeartbeats 40000000
namespace Go.Proofs.YtpfmeafmepgimaaGreat
open Go.ChangeShapes Go.WideShapes Go.ChangeAt Go.RowKit
theorem Bx5.set2 {w:World}{b:Nat}{v0 v1 v2 v3 v4:Value}(h:Bx5 w b v0 v1 v2 v3 v4)(u:Value):Bx5 (w.setCell ⟨b,2,none⟩ u) b v0 v1 u v3 v4:=
 ⟨by simp [World.cell?_setCell_other,h.c0],by simp [World.cell?_setCell_other,h.c1],World.cell?_setCell_same _ _ _ h.c2,by simp [World.cell?_setCell_other,h.c3],by simp [World.cell?_setCell_other,h.c4],fun i=>by rw [World.frozen?_setCell];exact h.f i,by simp [World.setCell];exact h.lt⟩
theorem Bx5.set3 {w:World}{b:Nat}{v0 v1 v2 v3 v4:Value}(h:Bx5 w b v0 v1 v2 v3 v4)(u:Value):Bx5 (w.setCell ⟨b,3,none⟩ u) b v0 v1 v2 u v4:=
 ⟨by simp [World.cell?_setCell_other,h.c0],by simp [World.cell?_setCell_other,h.c1],by simp [World.cell?_setCell_other,h.c2],World.cell?_setCell_same _ _ _ h.c3,by simp [World.cell?_setCell_other,h.c4],fun i=>by rw [World.frozen?_setCell];exact h.f i,by simp [World.setCell];exact h.lt⟩
theorem Bx5.set4 {w:World}{b:Nat}{v0 v1 v2 v3 v4:Value}(h:Bx5 w b v0 v1 v2 v3 v4)(u:Value):Bx5 (w.setCell ⟨b,4,none⟩ u) b v0 v1 v2 v3 u:=
 ⟨by simp [World.cell?_setCell_other,h.c0],by simp [World.cell?_setCell_other,h.c1],by simp [World.cell?_setCell_other,h.c2],by simp [World.cell?_setCell_other,h.c3],World.cell?_setCell_same _ _ _ h.c4,fun i=>by rw [World.frozen?_setCell];exact h.f i,by simp [World.setCell];exact h.lt⟩
def LvOk (R F T:Nat ->Int)(n:Nat)(l:List Lf)(k:Nat):Prop:=∀i,i<k ->LfOk1 (gL l i)/\ hasK R F T (gL l i).r (gL l i).q (gL l i).q n=true/\ (0<i ->cmpL (gL l (i - 1)) (gL l i)<0)
def Dif (x y:Lf):Prop:=¬(x.r=y.r/\ x.q=y.q)
def Dis (l:List Lf)(k:Nat):Prop:=∀i,i<k ->∀j,j<i ->Dif (gL l j) (gL l i)
def StOk (R F T:Nat ->Int)(n:Nat)(l:List Lf):Prop:=ctxB R F T n=true/\ l.length<=1000/\ LvOk R F T n l l.length/\ Dis l l.length
theorem LvOk.step {R F T:Nat ->Int}{n:Nat}{l:List Lf}{k:Nat}(h:LvOk R F T n l k)(h1:LfOk1 (gL l k))(h2:hasK R F T (gL l k).r (gL l k).q (gL l k).q n=true)(h3:0<k ->cmpL (gL l (k - 1)) (gL l k)<0):LvOk R F T n l (k+1):=fun i hi=>by
 by_cases e:i=k
 ·subst e;exact⟨h1,h2,h3⟩
 ·exact h i (by omega)
theorem Dis.step {l:List Lf}{k:Nat}(h:Dis l k)(h1:∀j,j<k ->Dif (gL l j) (gL l k)):Dis l (k+1):=fun i hi j hj=>by
 by_cases e:i=k
 ·subst e;exact h1 j hj
 ·exact h i (by omega) j hj
theorem below_drewS {B:Nat}{a w:World}(h:Below B a w)(n:Nat):Below B a (w.drewN n):=⟨h.os,h.tape,h.output,h.size,h.block⟩
theorem specStateOk (a:Option Addr)(c:Nat)(l:List Lf)(x:Option Addr)(n d:Nat)(R F T:Nat ->Int)(w:World)(hn:l.length<=1048576)(hp:LBd l)(hm:n<=1048576)(h:LCap w a l)(h':RSeg w x n R F T):
  Calls Tryz.prog 13 #[.agg #[.slice a l.length c,.slice x n d]] w fun e w'=>e=.returned (.bool (yes (StOk R F T n l)))/\ Below w.heap.size w w':=by
 obtain⟨W,hW⟩:∃W,w.alloc (.cells #[.slice a l.length c,.slice x n d] 28)=W:=⟨_,rfl⟩;have b0:Below w.heap.size w W:=by rw [<- hW];exact(Below.refl _ _).alloc (Nat.le_refl _) _
 have zW:w.heap.size<W.heap.size:=by rw [<- hW];simp
 have k0:W.cell? ⟨w.heap.size,0,none⟩=some (.slice a l.length c):=by rw [<- hW];simp
 have k1:W.cell? ⟨w.heap.size,1,none⟩=some (.slice x n d):=by rw [<- hW];simp
 have HC:=hid (specOk x n d R F T W hm (h'.below b0));have HL:=hid (h.below b0);have HR:=hid (h'.below b0);have HB0:=hid b0;clear h h' b0;obtain⟨Y,hY⟩:∃Y,yes (StOk R F T n l)=Y:=⟨_,rfl⟩;have HY:=hid hY;rw [hY];clear hY;go_enter Tryz.func13,Tryz.ntmps13;go_wp2_with fail;try rw [hW]
 clear hW;refine HC.out.mono ?_;rintro e w1 ⟨rfl,b1⟩;have m0:=(b1.cell (p:=⟨w.heap.size,0,none⟩) zW).trans k0;have m1:=(b1.cell (p:=⟨w.heap.size,1,none⟩) zW).trans k1;have HB1:=hid (HB0.out.trans (b1.mono HB0.out.size));have HL1:=hid (HL.out.below b1);have HR1:=hid (HR.out.below b1);have z1:w.heap.size<w1.heap.size:=Nat.lt_of_lt_of_le zW b1.size;clear HC HL HR HB0 k0 k1 zW b1;obtain⟨C,hC⟩:∃C,ctxB R F T n=C:=⟨_,rfl⟩;have HC:=hid hC;rw [hC];clear hC;cases C with
 | false=>
  have HF:Hid (Y=false):=hid (by rw [<- HY.out];exact yes_f (fun h=>by have:=h.1;rw [HC.out] at this;cases this));go_wp2_with fail;go_ret;exact⟨ret_b HF.out.symm,HB1.out⟩
 | true=>
  by_cases hbig:(1000:Int)<(l.length:Int)
  ·have d0:decide ((1000:Int)<(l.length:Int))=true:=by simpa using hbig
   have HF:Hid (Y=false):=hid (by rw [<- HY.out];exact yes_f (fun h=>by have:=h.2.1;omega));go_wp2_with fail;go_ret;exact⟨ret_b HF.out.symm,HB1.out⟩
  ·have d0:decide ((1000:Int)<(l.length:Int))=false:=by simpa using hbig
   go_wp2_with fail;clear d0;go_loopw [3] (fun i wr=>∃k:Nat,k<=l.length/\ i=.int .i64 k/\ Hid (Below w1.heap.size w1 wr)/\ Hid (LvOk R F T n l k/\ Dis l k)) (fun i _=>l.length - (intOf i).toNat);case atStart=>exact⟨0,Nat.zero_le _,rfl,hid (Below.refl _ _),hid ⟨fun i hi=>by omega,fun i hi=>by omega⟩⟩
   case round=>
    obtain⟨k,hk,rfl,HBR,HI⟩:=hrel;have r0:=(HBR.out.cell (p:=⟨w.heap.size,0,none⟩) z1).trans m0;have r1:=(HBR.out.cell (p:=⟨w.heap.size,1,none⟩) z1).trans m1;by_cases hlt:k<l.length
    ·rcases HL1.out with h|⟨b,off,rfl,hb,hc⟩
     ·omega
     obtain⟨pa,pc,⟨c0,cp,cq⟩,s,c1,c2,c3,c4⟩:=hc k hlt;have x0:=(HBR.out.cell (p:=⟨b,off+k*5,none⟩) hb).trans c0;have x1:=(HBR.out.cell (p:=⟨b,off+k*5+1,none⟩) hb).trans c1;have x2:=(HBR.out.cell (p:=⟨b,off+k*5+2,none⟩) hb).trans c2;have x3:=(HBR.out.cell (p:=⟨b,off+k*5+3,none⟩) hb).trans c3;have x4:=(HBR.out.cell (p:=⟨b,off+k*5+4,none⟩) hb).trans c4;have HS:=hid (s.below HBR.out);have i1:(0:Int)<=(k:Int):=Int.natCast_nonneg _;have i2:(k:Int)<(l.length:Int):=by omega
     have HCC:=hid hc;have zr:w1.heap.size<=wr.heap.size:=HBR.out.size;clear hc c0 c1 c2 c3 c4 s m0 m1;go_wp2_with fail;obtain⟨y,hy⟩:∃y,gL l k=y:=⟨_,rfl⟩;have hpk:=hp k;rw [hy] at HS x0 x1 x2 x3 x4 cp hpk ⊢;have HE:=hid hy;clear hy;obtain⟨p,fl,r,q,v⟩:=y;dsimp only at HS x0 x1 x2 x3 x4 cp hpk ⊢;obtain⟨W2,hW2⟩:∃W2,wr.alloc (.cells #[.slice pa p.length pc,.bool fl,.int .i64 r,.int .i64 q,.string v] 65)=W2:=⟨_,rfl⟩;have b2:Below wr.heap.size wr W2:=by rw [<- hW2];exact(Below.refl _ _).alloc (Nat.le_refl _) _
     have B5:Bx5 W2 wr.heap.size (.slice pa p.length pc) (.bool fl) (.int .i64 r) (.int .i64 q) (.string v):=by rw [<- hW2];exact⟨by simp,by simp,by simp,by simp,by simp,fun i=>by simp,by simp⟩
     have t0:=(b2.cell (p:=⟨w.heap.size,0,none⟩) (show w.heap.size<wr.heap.size by omega)).trans r0;have t1:=(b2.cell (p:=⟨w.heap.size,1,none⟩) (show w.heap.size<wr.heap.size by omega)).trans r1;have y0:=B5.c0;have y1:=B5.c1;have y2:=B5.c2;have y3:=B5.c3;have y4:=B5.c4;have HB2:=hid (HBR.out.trans (b2.mono HBR.out.size));have HSP:=hid (HS.out.below b2);have HP:=hid (pathSpec p pa pc W2 hpk HSP.out);have HA:=hid (l2Has x n d R F T r q W2 hm (HR1.out.below HB2.out));have z2:wr.heap.size<W2.heap.size:=B5.lt;have HB5:=hid B5;rw [hW2];clear hW2 b2 B5 x0 x1 x2 x3 x4 r0 r1 HS HBR;refine HP.out.mono ?_;rintro e w3 ⟨rfl,rfl⟩;have HBF:=hid (HB1.out.trans (HB2.out.mono HB1.out.size));have HNO:Hid (¬(LfOk1 ⟨p,fl,r,q,v⟩/\ hasK R F T r q q n=true/\ (0<k ->cmpL (gL l (k - 1)) ⟨p,fl,r,q,v⟩<0)) ->Y=false):=hid (fun no=>by
      rw [<- HY.out];exact yes_f (fun h=>no (by have:=h.2.2.1 k hlt;rw [HE.out] at this;exact this)))
     obtain⟨Y1,hY1⟩:∃Y1,yes (PthOk p)=Y1:=⟨_,rfl⟩;have HY1:=hid hY1;rw [hY1];clear hY1 HP;cases Y1 with
     | false=>
      have HF:=hid (HNO.out (fun h=>by have:=yes_t h.1.1;rw [HY1.out] at this;cases this));clear HNO HA;go_wp2_with fail;go_ret;exact⟨ret_b HF.out.symm,HBF.out⟩
     | true=>
      by_cases hv:(200:Int)<(v.size:Int)
      ·have d1:decide ((200:Int)<(v.size:Int))=true:=by simpa using hv
       have HF:=hid (HNO.out (fun h=>by have:v.size<=200:=h.1.2.1;omega));clear HNO HA;go_wp2_with fail;go_ret;exact⟨ret_b HF.out.symm,HBF.out⟩
      ·have d1:decide ((200:Int)<(v.size:Int))=false:=by simpa using hv
       by_cases hbad:fl=true/\ v.toList.isEmpty=false
       ·obtain⟨rfl,hbad⟩:=hbad;have HF:=hid (HNO.out (fun h=>by have:v.toList.isEmpty=true:=h.1.2.2 rfl;rw [hbad] at this;cases this));clear HNO HA;go_wp2_with fail;go_ret;exact⟨ret_b HF.out.symm,HBF.out⟩
       ·have HOK:Hid (LfOk1 ⟨p,fl,r,q,v⟩):=hid ⟨yes_iff.1 HY1.out,by show v.size<=200;omega,fun e=>by
         show v.toList.isEmpty=true;by_cases h:v.toList.isEmpty=true
         ·exact h
         ·exact absurd ⟨e,by simpa using h⟩ hbad⟩
        have HRS:=hid hbad;clear hbad;clear HY1;cases fl with
        | true=>
         have he:v.toList.isEmpty=true:=by
          by_cases h:v.toList.isEmpty=true
          ·exact h
          ·exact absurd ⟨rfl,by simpa using h⟩ HRS.out
         go_wp2_with fail;refine HA.out.mono ?_;rintro e w4 ⟨rfl,b4⟩;have zt:w.heap.size<w4.heap.size:=by have:=b4.size;omega
         have zy:wr.heap.size<w4.heap.size:=by have:=b4.size;omega
         have B4:=HB5.out.below b4 z2;have t0:=(b4.cell (p:=⟨w.heap.size,0,none⟩) (show w.heap.size<w3.heap.size by omega)).trans t0;have y0:=B4.c0;have y1:=B4.c1;have y2:=B4.c2;have y3:=B4.c3;have y4:=B4.c4;have HB4:=hid (HB2.out.trans (b4.mono HB2.out.size));have HSK:=hid (HSP.out.below b4);have HBF4:=hid (HB1.out.trans (HB4.out.mono HB1.out.size));clear B4 b4 t1 HB5 HSP HBF;obtain⟨A,hA⟩:∃A,hasK R F T r q q n=A:=⟨_,rfl⟩;have HHAS:=hid hA;rw [hA];clear hA;cases A with
         | false=>
          have HF:=hid (HNO.out (fun h=>by have:=h.2.1;rw [HHAS.out] at this;cases this));clear HNO HCC;go_wp2_with fail;go_ret;exact⟨ret_b HF.out.symm,HBF4.out⟩
         | true=>
          by_cases hk0:k=0
          ·have d2:decide ((0:Int)<(k:Int))=false:=by simp;omega
           have d3:decide (0<k)=false:=by simp;omega
           have HORD:Hid (0<k ->cmpL (gL l (k - 1)) ⟨p,true,r,q,v⟩<0):=hid (fun h=>by omega);clear hk0;go_wp2_with fail;go_quiet (fail);obtain⟨w5,hw5⟩:∃w5,w4.drewN nq=w5:=⟨_,rfl⟩;have HB5:Hid (Below w1.heap.size w1 w5):=hid (by rw [<- hw5];exact below_drewS HB4.out _);have t0:w5.cell? ⟨w.heap.size,0,none⟩=some (.slice (some ⟨b,off,none⟩) l.length c):=by rw [<- hw5];exact t0
           have y2:w5.cell? ⟨wr.heap.size,2,none⟩=some (.int .i64 r):=by rw [<- hw5];exact y2
           have y3:w5.cell? ⟨wr.heap.size,3,none⟩=some (.int .i64 q):=by rw [<- hw5];exact y3
           have zt:w.heap.size<w5.heap.size:=by rw [<- hw5];exact zt
           have zy:wr.heap.size<w5.heap.size:=by rw [<- hw5];exact zy
           rw [hw5];clear hw5 d2 d3 HB4 HBF4 HSK y0 y1 y4;have HY2:Hid (∀wi,Below w5.heap.size w5 wi ->wi.cell? ⟨wr.heap.size,2,none⟩=some (.int .i64 r)):=hid (fun wi h=>(h.cell (p:=⟨wr.heap.size,2,none⟩) zy).trans y2);have HY3:Hid (∀wi,Below w5.heap.size w5 wi ->wi.cell? ⟨wr.heap.size,3,none⟩=some (.int .i64 q)):=hid (fun wi h=>(h.cell (p:=⟨wr.heap.size,3,none⟩) zy).trans y3);go_wp2_with fail;go_loopw [5] (fun i wi=>∃j:Nat,j<=k/\ i=.int .i64 j/\ Hid (Below w5.heap.size w5 wi)/\ Hid (∀t,t<j ->Dif (gL l t) (gL l k))) (fun i _=>k - (intOf i).toNat);case atStart=>exact⟨0,Nat.zero_le _,rfl,hid (Below.refl _ _),hid (fun t ht=>by omega)⟩
           case round=>
            obtain⟨j,hj,rfl,HBI,HDI⟩:=hrel;have g0:=(HBI.out.cell (p:=⟨w.heap.size,0,none⟩) zt).trans t0;have g2:=HY2.out _ HBI.out;have g3:=HY3.out _ HBI.out;by_cases hjk:j<k
            ·obtain⟨ja,jc,_,_,_,c2,c3,_⟩:=HCC.out j (by omega);have j2:=(((HB5.out.trans (HBI.out.mono HB5.out.size)).cell (p:=⟨b,off+j*5+2,none⟩) hb)).trans c2;have j3:=(((HB5.out.trans (HBI.out.mono HB5.out.size)).cell (p:=⟨b,off+j*5+3,none⟩) hb)).trans c3;obtain⟨yj,hyj⟩:∃yj,gL l j=yj:=⟨_,rfl⟩;rw [hyj] at j2 j3;have HEJ:=hid hyj;obtain⟨pj,fj,rj,qj,vj⟩:=yj;dsimp only at j2 j3;have q1:(0:Int)<=(j:Int):=Int.natCast_nonneg _;have q2:(j:Int)<(l.length:Int):=by omega
             have q3:(j:Int)<(k:Int):=by omega
             have hG:=dotGuard;have EQ:∀w:World,(binOp .eql 63 (.agg #[.int .i64 rj,.int .i64 qj]) (.agg #[.int .i64 r,.int .i64 q])).run Tryz.prog w=.ok (.bool (rj==r && qj==q)) w:=fun w=>eqlDot rj qj r q w;clear hyj c2 c3 t0 y2 y3;by_cases hr:rj=r
             ·have e1:(rj==r)=true:=by simpa using hr
              by_cases hq:qj=q
              ·have e2:(qj==q)=true:=by simpa using hq
               have EQ:∀w:World,(binOp .eql 63 (.agg #[.int .i64 rj,.int .i64 qj]) (.agg #[.int .i64 r,.int .i64 q])).run Tryz.prog w=.ok (.bool true) w:=fun w=>by rw [EQ w,e1,e2];rfl
               have HF:Hid (Y=false):=hid (by rw [<- HY.out];exact yes_f (fun h=>h.2.2.2 k hlt j hjk (by rw [HEJ.out,HE.out];exact⟨hr,hq⟩)));have HZ:=hid (HB1.out.trans ((HB5.out.trans (HBI.out.mono HB5.out.size)).mono HB1.out.size));clear HNO HDI HCC;go_wp2_with fail;go_quiet (fail);go_wp2_with fail;go_ret;exact⟨ret_b HF.out.symm,below_drewS HZ.out _⟩
              ·have e2:(qj==q)=false:=by simpa using hq
               have EQ:∀w:World,(binOp .eql 63 (.agg #[.int .i64 rj,.int .i64 qj]) (.agg #[.int .i64 r,.int .i64 q])).run Tryz.prog w=.ok (.bool false) w:=fun w=>by rw [EQ w,e1,e2];rfl
               have HD:Hid (∀t,t<j+1 ->Dif (gL l t) (gL l k)):=hid (fun t ht=>by
                by_cases e:t=j
                ·rw [e,HEJ.out,HE.out];exact fun h=>hq h.2
                ·exact HDI.out t (by omega))
               clear HNO HDI HCC;go_wp2_with fail;go_quiet (fail);have HBN:=hid (below_drewS HBI.out nq);go_wp2_with fail;go_roundw;case rel=>exact⟨j+1,hjk,by go_num,HBN,HD⟩
               case measure=>simp [intOf];omega
             ·have e1:(rj==r)=false:=by simpa using hr
              have EQ:∀w:World,(binOp .eql 63 (.agg #[.int .i64 rj,.int .i64 qj]) (.agg #[.int .i64 r,.int .i64 q])).run Tryz.prog w=.ok (.bool false) w:=fun w=>by rw [EQ w,e1];rfl
              have HD:Hid (∀t,t<j+1 ->Dif (gL l t) (gL l k)):=hid (fun t ht=>by
               by_cases e:t=j
               ·rw [e,HEJ.out,HE.out];exact fun h=>hr h.1
               ·exact HDI.out t (by omega))
              clear HNO HDI HCC;go_wp2_with fail;go_quiet (fail);have HBN:=hid (below_drewS HBI.out nq);go_wp2_with fail;go_roundw;case rel=>exact⟨j+1,hjk,by go_num,HBN,HD⟩
              case measure=>simp [intOf];omega
            ·obtain rfl:j=k:=by omega
             have HN:Hid (LvOk R F T n l (j+1)/\ Dis l (j+1)):=hid ⟨HI.out.1.step (by rw [HE.out];exact HOK.out) (by rw [HE.out];exact HHAS.out) (fun h=>by rw [HE.out];exact HORD.out h),HI.out.2.step HDI.out⟩;have HZ:=hid (HB5.out.trans (HBI.out.mono HB5.out.size));clear HNO HDI HCC t0 y2 y3 g0 g2 g3;go_wp2_with fail;go_roundw;case rel=>exact⟨j+1,hlt,by go_num,HZ,HN⟩
             case measure=>simp [intOf];omega
          ·obtain⟨j,hj⟩:∃j,k=j+1:=⟨k - 1,by omega⟩;obtain⟨pa',pc',⟨c0,cp',cq'⟩,s',c1,c2,c3,c4⟩:=HCC.out j (by omega);have q':=fun(o:Nat)=>HB4.out.cell (p:=⟨b,o,none⟩) hb;have j0:=(q' _).trans c0;have j1:=(q' _).trans c1;have j2:=(q' _).trans c2;have j3:=(q' _).trans c3;have j4:=(q' _).trans c4;have HSJ:=hid (s'.below HB4.out);have hpj:=hp j;obtain⟨y',hy'⟩:∃y',gL l j=y':=⟨_,rfl⟩;rw [hy'] at j0 j1 j2 j3 j4 HSJ hpj cp';have HEJ:=hid hy';obtain⟨p',fl',r',q',v'⟩:=y';dsimp only at j0 j1 j2 j3 j4 HSJ hpj cp';have zb:b<w4.heap.size:=by have:=HB4.out.size;omega
           have d2:decide ((0:Int)<(k:Int))=true:=by simp;omega
           have d3:decide (0<k)=true:=by simp;omega
           have hsub:(k:Int) - 1=(j:Int):=by omega
           have hwr:IntKind.i64.wrap (j:Int)=(j:Int):=by rw [IntKind.wrap_i64];omega
           have hwr2:IntKind.i64.wrap ((k:Int) - 1)=(j:Int):=by rw [hsub];exact hwr
           have q1:(0:Int)<=(j:Int):=Int.natCast_nonneg _;have q2:(j:Int)<(l.length:Int):=by omega
           have HKJ:=hid hj;obtain⟨Bf,hBf⟩:∃Bf,yes (cmpL ⟨p',fl',r',q',v'⟩ ⟨p,true,r,q,v⟩<0)=Bf:=⟨_,rfl⟩;have HBf:=hid hBf;have HLB:Hid (∀W,Below w4.heap.size w4 W ->Calls Tryz.prog 31 #[.agg #[.slice pa' p'.length pc',.bool fl',.int .i64 r',.int .i64 q',.string v'],.agg #[.slice pa p.length pc,.bool true,.int .i64 r,.int .i64 q,.string v]] W fun e w'=>e=.returned (.bool Bf)/\ Below W.heap.size W w'):=hid (fun W hB=>by rw [<- hBf];exact l3Before pa' pa pc' pc p' p fl' true r' q' r q v' v W hpj hpk cp' cp cq' cq (HSJ.out.below hB) (HSK.out.below hB));clear hBf hj hk0 c0 c1 c2 c3 c4 s' hy';go_wp2_with fail;have HCS:Hid (∀w',Below w4.heap.size w4 w' ->(Below w4.heap.size w4 w'/\ w'.cell? ⟨w.heap.size,0,none⟩=some (.slice (some ⟨b,off,none⟩) l.length c)/\ w'.cell? ⟨wr.heap.size,0,none⟩=some (.slice pa p.length pc)/\ w'.cell? ⟨wr.heap.size,1,none⟩=some (.bool true)/\ w'.cell? ⟨wr.heap.size,2,none⟩=some (.int .i64 r)/\ w'.cell? ⟨wr.heap.size,3,none⟩=some (.int .i64 q)/\ w'.cell? ⟨wr.heap.size,4,none⟩=some (.string v)/\ w'.cell? ⟨b,off+j*5,none⟩=some (.slice pa' p'.length pc')/\ w'.cell? ⟨b,off+j*5+1,none⟩=some (.bool fl')/\ w'.cell? ⟨b,off+j*5+2,none⟩=some (.int .i64 r')/\ w'.cell? ⟨b,off+j*5+3,none⟩=some (.int .i64 q')/\ w'.cell? ⟨b,off+j*5+4,none⟩=some (.string v'))):=hid (fun w' hB=>⟨hB,(hB.cell (p:=⟨w.heap.size,0,none⟩) zt).trans t0,(hB.cell (p:=⟨wr.heap.size,0,none⟩) zy).trans y0,(hB.cell (p:=⟨wr.heap.size,1,none⟩) zy).trans y1,(hB.cell (p:=⟨wr.heap.size,2,none⟩) zy).trans y2,(hB.cell (p:=⟨wr.heap.size,3,none⟩) zy).trans y3,(hB.cell (p:=⟨wr.heap.size,4,none⟩) zy).trans y4,(hB.cell (p:=⟨b,off+j*5,none⟩) zb).trans j0,(hB.cell (p:=⟨b,off+j*5+1,none⟩) zb).trans j1,(hB.cell (p:=⟨b,off+j*5+2,none⟩) zb).trans j2,(hB.cell (p:=⟨b,off+j*5+3,none⟩) zb).trans j3,(hB.cell (p:=⟨b,off+j*5+4,none⟩) zb).trans j4⟩);refine wp_region_held_drew (S:=fun w'=>Below w4.heap.size w4 w'/\ w'.cell? ⟨w.heap.size,0,none⟩=some (.slice (some ⟨b,off,none⟩) l.length c)/\ w'.cell? ⟨wr.heap.size,0,none⟩=some (.slice pa p.length pc)/\ w'.cell? ⟨wr.heap.size,1,none⟩=some (.bool true)/\ w'.cell? ⟨wr.heap.size,2,none⟩=some (.int .i64 r)/\ w'.cell? ⟨wr.heap.size,3,none⟩=some (.int .i64 q)/\ w'.cell? ⟨wr.heap.size,4,none⟩=some (.string v)/\ w'.cell? ⟨b,off+j*5,none⟩=some (.slice pa' p'.length pc')/\ w'.cell? ⟨b,off+j*5+1,none⟩=some (.bool fl')/\ w'.cell? ⟨b,off+j*5+2,none⟩=some (.int .i64 r')/\ w'.cell? ⟨b,off+j*5+3,none⟩=some (.int .i64 q')/\ w'.cell? ⟨b,off+j*5+4,none⟩=some (.string v')) (by kernel_rfl) (HCS.out _ (Below.refl _ _).drew) (fun hHeld=> ?_);refine tZ 0 55 ?_;refine tZ 1 56 ?_;refine tZ 2 57 ?_;refine tZ 3 58 ?_;refine tZ 4 59 ?_;refine tZ 5 60 ?_;refine tZ 6 61 ?_;refine tZ 7 62 ?_;refine tZ 8 63 ?_;refine tZ 9 64 ?_;refine cZ 10 ?_;intro K hK;go_simp;refine(HLB.out _ hHeld.1).mono ?_;rintro e w5 ⟨rfl,b5⟩;have hB5:=hHeld.1.trans (b5.mono hHeld.1.size);refine hK.out _ _ (HCS.out _ hB5) (fun hHeld=> ?_);clear hK K;try simp only [Act.put,sZa,sZb,sZc]
           refine tZ 11 66 ?_;refine tZ 12 67 ?_;refine wpAnyH_done (by kernel_rfl) ?_ _;have HB5:=hid (HB4.out.trans (hB5.mono HB4.out.size));have t0:=(hB5.cell (p:=⟨w.heap.size,0,none⟩) zt).trans t0;have y2:=(hB5.cell (p:=⟨wr.heap.size,2,none⟩) zy).trans y2;have y3:=(hB5.cell (p:=⟨wr.heap.size,3,none⟩) zy).trans y3;have zt:w.heap.size<w5.heap.size:=Nat.lt_of_lt_of_le zt hB5.size;have zy:wr.heap.size<w5.heap.size:=Nat.lt_of_lt_of_le zy hB5.size;clear hHeld hB5 b5 HCS HLB j0 j1 j2 j3 j4 y0 y1 y4 hsub hwr hwr2 d2 d3 HSJ HSK HB4 HBF4 q1 q2 zb;cases Bf with
           | false=>
            have HF:=hid (HNO.out (fun h=>by
             have e:=h.2.2 (by have:=HKJ.out;omega);rw [show k - 1=j by have:=HKJ.out;omega,HEJ.out] at e;have:=yes_t e;rw [HBf.out] at this;cases this))
            have HZ:=hid (HB1.out.trans (HB5.out.mono HB1.out.size));clear HNO HCC;go_wp2_with fail;go_ret;exact⟨ret_b HF.out.symm,HZ.out⟩
           | true=>
            have HORD:Hid (0<k ->cmpL (gL l (k - 1)) ⟨p,true,r,q,v⟩<0):=hid (fun _=>by
             rw [show k - 1=j by have:=HKJ.out;omega,HEJ.out];exact yes_iff.1 HBf.out)
            have HY2:Hid (∀wi,Below w5.heap.size w5 wi ->wi.cell? ⟨wr.heap.size,2,none⟩=some (.int .i64 r)):=hid (fun wi h=>(h.cell (p:=⟨wr.heap.size,2,none⟩) zy).trans y2);have HY3:Hid (∀wi,Below w5.heap.size w5 wi ->wi.cell? ⟨wr.heap.size,3,none⟩=some (.int .i64 q)):=hid (fun wi h=>(h.cell (p:=⟨wr.heap.size,3,none⟩) zy).trans y3);go_wp2_with fail;go_loopw [5] (fun i wi=>∃j:Nat,j<=k/\ i=.int .i64 j/\ Hid (Below w5.heap.size w5 wi)/\ Hid (∀t,t<j ->Dif (gL l t) (gL l k))) (fun i _=>k - (intOf i).toNat);case atStart=>exact⟨0,Nat.zero_le _,rfl,hid (Below.refl _ _),hid (fun t ht=>by omega)⟩
            case round=>
             obtain⟨j,hj,rfl,HBI,HDI⟩:=hrel;have g0:=(HBI.out.cell (p:=⟨w.heap.size,0,none⟩) zt).trans t0;have g2:=HY2.out _ HBI.out;have g3:=HY3.out _ HBI.out;by_cases hjk:j<k
             ·obtain⟨ja,jc,_,_,_,c2,c3,_⟩:=HCC.out j (by omega);have j2:=(((HB5.out.trans (HBI.out.mono HB5.out.size)).cell (p:=⟨b,off+j*5+2,none⟩) hb)).trans c2;have j3:=(((HB5.out.trans (HBI.out.mono HB5.out.size)).cell (p:=⟨b,off+j*5+3,none⟩) hb)).trans c3;obtain⟨yj,hyj⟩:∃yj,gL l j=yj:=⟨_,rfl⟩;rw [hyj] at j2 j3;have HEJ:=hid hyj;obtain⟨pj,fj,rj,qj,vj⟩:=yj;dsimp only at j2 j3;have q1:(0:Int)<=(j:Int):=Int.natCast_nonneg _;have q2:(j:Int)<(l.length:Int):=by omega
              have q3:(j:Int)<(k:Int):=by omega
              have hG:=dotGuard;have EQ:∀w:World,(binOp .eql 63 (.agg #[.int .i64 rj,.int .i64 qj]) (.agg #[.int .i64 r,.int .i64 q])).run Tryz.prog w=.ok (.bool (rj==r && qj==q)) w:=fun w=>eqlDot rj qj r q w;clear hyj c2 c3 t0 y2 y3;by_cases hr:rj=r
              ·have e1:(rj==r)=true:=by simpa using hr
               by_cases hq:qj=q
               ·have e2:(qj==q)=true:=by simpa using hq
                have EQ:∀w:World,(binOp .eql 63 (.agg #[.int .i64 rj,.int .i64 qj]) (.agg #[.int .i64 r,.int .i64 q])).run Tryz.prog w=.ok (.bool true) w:=fun w=>by rw [EQ w,e1,e2];rfl
                have HF:Hid (Y=false):=hid (by rw [<- HY.out];exact yes_f (fun h=>h.2.2.2 k hlt j hjk (by rw [HEJ.out,HE.out];exact⟨hr,hq⟩)));have HZ:=hid (HB1.out.trans ((HB5.out.trans (HBI.out.mono HB5.out.size)).mono HB1.out.size));clear HNO HDI HCC;go_wp2_with fail;go_quiet (fail);go_wp2_with fail;go_ret;exact⟨ret_b HF.out.symm,below_drewS HZ.out _⟩
               ·have e2:(qj==q)=false:=by simpa using hq
                have EQ:∀w:World,(binOp .eql 63 (.agg #[.int .i64 rj,.int .i64 qj]) (.agg #[.int .i64 r,.int .i64 q])).run Tryz.prog w=.ok (.bool false) w:=fun w=>by rw [EQ w,e1,e2];rfl
                have HD:Hid (∀t,t<j+1 ->Dif (gL l t) (gL l k)):=hid (fun t ht=>by
                 by_cases e:t=j
                 ·rw [e,HEJ.out,HE.out];exact fun h=>hq h.2
                 ·exact HDI.out t (by omega))
                clear HNO HDI HCC;go_wp2_with fail;go_quiet (fail);have HBN:=hid (below_drewS HBI.out nq);go_wp2_with fail;go_roundw;case rel=>exact⟨j+1,hjk,by go_num,HBN,HD⟩
                case measure=>simp [intOf];omega
              ·have e1:(rj==r)=false:=by simpa using hr
               have EQ:∀w:World,(binOp .eql 63 (.agg #[.int .i64 rj,.int .i64 qj]) (.agg #[.int .i64 r,.int .i64 q])).run Tryz.prog w=.ok (.bool false) w:=fun w=>by rw [EQ w,e1];rfl
               have HD:Hid (∀t,t<j+1 ->Dif (gL l t) (gL l k)):=hid (fun t ht=>by
                by_cases e:t=j
                ·rw [e,HEJ.out,HE.out];exact fun h=>hr h.1
                ·exact HDI.out t (by omega))
               clear HNO HDI HCC;go_wp2_with fail;go_quiet (fail);have HBN:=hid (below_drewS HBI.out nq);go_wp2_with fail;go_roundw;case rel=>exact⟨j+1,hjk,by go_num,HBN,HD⟩
               case measure=>simp [intOf];omega
             ·obtain rfl:j=k:=by omega
              have HN:Hid (LvOk R F T n l (j+1)/\ Dis l (j+1)):=hid ⟨HI.out.1.step (by rw [HE.out];exact HOK.out) (by rw [HE.out];exact HHAS.out) (fun h=>by rw [HE.out];exact HORD.out h),HI.out.2.step HDI.out⟩;have HZ:=hid (HB5.out.trans (HBI.out.mono HB5.out.size));clear HNO HDI HCC t0 y2 y3 g0 g2 g3;go_wp2_with fail;go_roundw;case rel=>exact⟨j+1,hlt,by go_num,HZ,HN⟩
              case measure=>simp [intOf];omega
        | false=>
         go_wp2_with fail;refine HA.out.mono ?_;rintro e w4 ⟨rfl,b4⟩;have zt:w.heap.size<w4.heap.size:=by have:=b4.size;omega
         have zy:wr.heap.size<w4.heap.size:=by have:=b4.size;omega
         have B4:=HB5.out.below b4 z2;have t0:=(b4.cell (p:=⟨w.heap.size,0,none⟩) (show w.heap.size<w3.heap.size by omega)).trans t0;have y0:=B4.c0;have y1:=B4.c1;have y2:=B4.c2;have y3:=B4.c3;have y4:=B4.c4;have HB4:=hid (HB2.out.trans (b4.mono HB2.out.size));have HSK:=hid (HSP.out.below b4);have HBF4:=hid (HB1.out.trans (HB4.out.mono HB1.out.size));clear B4 b4 t1 HB5 HSP HBF;obtain⟨A,hA⟩:∃A,hasK R F T r q q n=A:=⟨_,rfl⟩;have HHAS:=hid hA;rw [hA];clear hA;cases A with
         | false=>
          have HF:=hid (HNO.out (fun h=>by have:=h.2.1;rw [HHAS.out] at this;cases this));clear HNO HCC;go_wp2_with fail;go_ret;exact⟨ret_b HF.out.symm,HBF4.out⟩
         | true=>
          by_cases hk0:k=0
          ·have d2:decide ((0:Int)<(k:Int))=false:=by simp;omega
           have d3:decide (0<k)=false:=by simp;omega
           have HORD:Hid (0<k ->cmpL (gL l (k - 1)) ⟨p,false,r,q,v⟩<0):=hid (fun h=>by omega);clear hk0;go_wp2_with fail;go_quiet (fail);obtain⟨w5,hw5⟩:∃w5,w4.drewN nq=w5:=⟨_,rfl⟩;have HB5:Hid (Below w1.heap.size w1 w5):=hid (by rw [<- hw5];exact below_drewS HB4.out _);have t0:w5.cell? ⟨w.heap.size,0,none⟩=some (.slice (some ⟨b,off,none⟩) l.length c):=by rw [<- hw5];exact t0
           have y2:w5.cell? ⟨wr.heap.size,2,none⟩=some (.int .i64 r):=by rw [<- hw5];exact y2
           have y3:w5.cell? ⟨wr.heap.size,3,none⟩=some (.int .i64 q):=by rw [<- hw5];exact y3
           have zt:w.heap.size<w5.heap.size:=by rw [<- hw5];exact zt
           have zy:wr.heap.size<w5.heap.size:=by rw [<- hw5];exact zy
           rw [hw5];clear hw5 d2 d3 HB4 HBF4 HSK y0 y1 y4;have HY2:Hid (∀wi,Below w5.heap.size w5 wi ->wi.cell? ⟨wr.heap.size,2,none⟩=some (.int .i64 r)):=hid (fun wi h=>(h.cell (p:=⟨wr.heap.size,2,none⟩) zy).trans y2);have HY3:Hid (∀wi,Below w5.heap.size w5 wi ->wi.cell? ⟨wr.heap.size,3,none⟩=some (.int .i64 q)):=hid (fun wi h=>(h.cell (p:=⟨wr.heap.size,3,none⟩) zy).trans y3);go_wp2_with fail;go_loopw [5] (fun i wi=>∃j:Nat,j<=k/\ i=.int .i64 j/\ Hid (Below w5.heap.size w5 wi)/\ Hid (∀t,t<j ->Dif (gL l t) (gL l k))) (fun i _=>k - (intOf i).toNat);case atStart=>exact⟨0,Nat.zero_le _,rfl,hid (Below.refl _ _),hid (fun t ht=>by omega)⟩
           case round=>
            obtain⟨j,hj,rfl,HBI,HDI⟩:=hrel;have g0:=(HBI.out.cell (p:=⟨w.heap.size,0,none⟩) zt).trans t0;have g2:=HY2.out _ HBI.out;have g3:=HY3.out _ HBI.out;by_cases hjk:j<k
            ·obtain⟨ja,jc,_,_,_,c2,c3,_⟩:=HCC.out j (by omega);have j2:=(((HB5.out.trans (HBI.out.mono HB5.out.size)).cell (p:=⟨b,off+j*5+2,none⟩) hb)).trans c2;have j3:=(((HB5.out.trans (HBI.out.mono HB5.out.size)).cell (p:=⟨b,off+j*5+3,none⟩) hb)).trans c3;obtain⟨yj,hyj⟩:∃yj,gL l j=yj:=⟨_,rfl⟩;rw [hyj] at j2 j3;have HEJ:=hid hyj;obtain⟨pj,fj,rj,qj,vj⟩:=yj;dsimp only at j2 j3;have q1:(0:Int)<=(j:Int):=Int.natCast_nonneg _;have q2:(j:Int)<(l.length:Int):=by omega
             have q3:(j:Int)<(k:Int):=by omega
             have hG:=dotGuard;have EQ:∀w:World,(binOp .eql 63 (.agg #[.int .i64 rj,.int .i64 qj]) (.agg #[.int .i64 r,.int .i64 q])).run Tryz.prog w=.ok (.bool (rj==r && qj==q)) w:=fun w=>eqlDot rj qj r q w;clear hyj c2 c3 t0 y2 y3;by_cases hr:rj=r
             ·have e1:(rj==r)=true:=by simpa using hr
              by_cases hq:qj=q
              ·have e2:(qj==q)=true:=by simpa using hq
               have EQ:∀w:World,(binOp .eql 63 (.agg #[.int .i64 rj,.int .i64 qj]) (.agg #[.int .i64 r,.int .i64 q])).run Tryz.prog w=.ok (.bool true) w:=fun w=>by rw [EQ w,e1,e2];rfl
               have HF:Hid (Y=false):=hid (by rw [<- HY.out];exact yes_f (fun h=>h.2.2.2 k hlt j hjk (by rw [HEJ.out,HE.out];exact⟨hr,hq⟩)));have HZ:=hid (HB1.out.trans ((HB5.out.trans (HBI.out.mono HB5.out.size)).mono HB1.out.size));clear HNO HDI HCC;go_wp2_with fail;go_quiet (fail);go_wp2_with fail;go_ret;exact⟨ret_b HF.out.symm,below_drewS HZ.out _⟩
              ·have e2:(qj==q)=false:=by simpa using hq
               have EQ:∀w:World,(binOp .eql 63 (.agg #[.int .i64 rj,.int .i64 qj]) (.agg #[.int .i64 r,.int .i64 q])).run Tryz.prog w=.ok (.bool false) w:=fun w=>by rw [EQ w,e1,e2];rfl
               have HD:Hid (∀t,t<j+1 ->Dif (gL l t) (gL l k)):=hid (fun t ht=>by
                by_cases e:t=j
                ·rw [e,HEJ.out,HE.out];exact fun h=>hq h.2
                ·exact HDI.out t (by omega))
               clear HNO HDI HCC;go_wp2_with fail;go_quiet (fail);have HBN:=hid (below_drewS HBI.out nq);go_wp2_with fail;go_roundw;case rel=>exact⟨j+1,hjk,by go_num,HBN,HD⟩
               case measure=>simp [intOf];omega
             ·have e1:(rj==r)=false:=by simpa using hr
              have EQ:∀w:World,(binOp .eql 63 (.agg #[.int .i64 rj,.int .i64 qj]) (.agg #[.int .i64 r,.int .i64 q])).run Tryz.prog w=.ok (.bool false) w:=fun w=>by rw [EQ w,e1];rfl
              have HD:Hid (∀t,t<j+1 ->Dif (gL l t) (gL l k)):=hid (fun t ht=>by
               by_cases e:t=j
               ·rw [e,HEJ.out,HE.out];exact fun h=>hr h.1
               ·exact HDI.out t (by omega))
              clear HNO HDI HCC;go_wp2_with fail;go_quiet (fail);have HBN:=hid (below_drewS HBI.out nq);go_wp2_with fail;go_roundw;case rel=>exact⟨j+1,hjk,by go_num,HBN,HD⟩
              case measure=>simp [intOf];omega
            ·obtain rfl:j=k:=by omega
             have HN:Hid (LvOk R F T n l (j+1)/\ Dis l (j+1)):=hid ⟨HI.out.1.step (by rw [HE.out];exact HOK.out) (by rw [HE.out];exact HHAS.out) (fun h=>by rw [HE.out];exact HORD.out h),HI.out.2.step HDI.out⟩;have HZ:=hid (HB5.out.trans (HBI.out.mono HB5.out.size));clear HNO HDI HCC t0 y2 y3 g0 g2 g3;go_wp2_with fail;go_roundw;case rel=>exact⟨j+1,hlt,by go_num,HZ,HN⟩
             case measure=>simp [intOf];omega
          ·obtain⟨j,hj⟩:∃j,k=j+1:=⟨k - 1,by omega⟩;obtain⟨pa',pc',⟨c0,cp',cq'⟩,s',c1,c2,c3,c4⟩:=HCC.out j (by omega);have q':=fun(o:Nat)=>HB4.out.cell (p:=⟨b,o,none⟩) hb;have j0:=(q' _).trans c0;have j1:=(q' _).trans c1;have j2:=(q' _).trans c2;have j3:=(q' _).trans c3;have j4:=(q' _).trans c4;have HSJ:=hid (s'.below HB4.out);have hpj:=hp j;obtain⟨y',hy'⟩:∃y',gL l j=y':=⟨_,rfl⟩;rw [hy'] at j0 j1 j2 j3 j4 HSJ hpj cp';have HEJ:=hid hy';obtain⟨p',fl',r',q',v'⟩:=y';dsimp only at j0 j1 j2 j3 j4 HSJ hpj cp';have zb:b<w4.heap.size:=by have:=HB4.out.size;omega
           have d2:decide ((0:Int)<(k:Int))=true:=by simp;omega
           have d3:decide (0<k)=true:=by simp;omega
           have hsub:(k:Int) - 1=(j:Int):=by omega
           have hwr:IntKind.i64.wrap (j:Int)=(j:Int):=by rw [IntKind.wrap_i64];omega
           have hwr2:IntKind.i64.wrap ((k:Int) - 1)=(j:Int):=by rw [hsub];exact hwr
           have q1:(0:Int)<=(j:Int):=Int.natCast_nonneg _;have q2:(j:Int)<(l.length:Int):=by omega
           have HKJ:=hid hj;obtain⟨Bf,hBf⟩:∃Bf,yes (cmpL ⟨p',fl',r',q',v'⟩ ⟨p,false,r,q,v⟩<0)=Bf:=⟨_,rfl⟩;have HBf:=hid hBf;have HLB:Hid (∀W,Below w4.heap.size w4 W ->Calls Tryz.prog 31 #[.agg #[.slice pa' p'.length pc',.bool fl',.int .i64 r',.int .i64 q',.string v'],.agg #[.slice pa p.length pc,.bool false,.int .i64 r,.int .i64 q,.string v]] W fun e w'=>e=.returned (.bool Bf)/\ Below W.heap.size W w'):=hid (fun W hB=>by rw [<- hBf];exact l3Before pa' pa pc' pc p' p fl' false r' q' r q v' v W hpj hpk cp' cp cq' cq (HSJ.out.below hB) (HSK.out.below hB));clear hBf hj hk0 c0 c1 c2 c3 c4 s' hy';go_wp2_with fail;have HCS:Hid (∀w',Below w4.heap.size w4 w' ->(Below w4.heap.size w4 w'/\ w'.cell? ⟨w.heap.size,0,none⟩=some (.slice (some ⟨b,off,none⟩) l.length c)/\ w'.cell? ⟨wr.heap.size,0,none⟩=some (.slice pa p.length pc)/\ w'.cell? ⟨wr.heap.size,1,none⟩=some (.bool false)/\ w'.cell? ⟨wr.heap.size,2,none⟩=some (.int .i64 r)/\ w'.cell? ⟨wr.heap.size,3,none⟩=some (.int .i64 q)/\ w'.cell? ⟨wr.heap.size,4,none⟩=some (.string v)/\ w'.cell? ⟨b,off+j*5,none⟩=some (.slice pa' p'.length pc')/\ w'.cell? ⟨b,off+j*5+1,none⟩=some (.bool fl')/\ w'.cell? ⟨b,off+j*5+2,none⟩=some (.int .i64 r')/\ w'.cell? ⟨b,off+j*5+3,none⟩=some (.int .i64 q')/\ w'.cell? ⟨b,off+j*5+4,none⟩=some (.string v'))):=hid (fun w' hB=>⟨hB,(hB.cell (p:=⟨w.heap.size,0,none⟩) zt).trans t0,(hB.cell (p:=⟨wr.heap.size,0,none⟩) zy).trans y0,(hB.cell (p:=⟨wr.heap.size,1,none⟩) zy).trans y1,(hB.cell (p:=⟨wr.heap.size,2,none⟩) zy).trans y2,(hB.cell (p:=⟨wr.heap.size,3,none⟩) zy).trans y3,(hB.cell (p:=⟨wr.heap.size,4,none⟩) zy).trans y4,(hB.cell (p:=⟨b,off+j*5,none⟩) zb).trans j0,(hB.cell (p:=⟨b,off+j*5+1,none⟩) zb).trans j1,(hB.cell (p:=⟨b,off+j*5+2,none⟩) zb).trans j2,(hB.cell (p:=⟨b,off+j*5+3,none⟩) zb).trans j3,(hB.cell (p:=⟨b,off+j*5+4,none⟩) zb).trans j4⟩);refine wp_region_held_drew (S:=fun w'=>Below w4.heap.size w4 w'/\ w'.cell? ⟨w.heap.size,0,none⟩=some (.slice (some ⟨b,off,none⟩) l.length c)/\ w'.cell? ⟨wr.heap.size,0,none⟩=some (.slice pa p.length pc)/\ w'.cell? ⟨wr.heap.size,1,none⟩=some (.bool false)/\ w'.cell? ⟨wr.heap.size,2,none⟩=some (.int .i64 r)/\ w'.cell? ⟨wr.heap.size,3,none⟩=some (.int .i64 q)/\ w'.cell? ⟨wr.heap.size,4,none⟩=some (.string v)/\ w'.cell? ⟨b,off+j*5,none⟩=some (.slice pa' p'.length pc')/\ w'.cell? ⟨b,off+j*5+1,none⟩=some (.bool fl')/\ w'.cell? ⟨b,off+j*5+2,none⟩=some (.int .i64 r')/\ w'.cell? ⟨b,off+j*5+3,none⟩=some (.int .i64 q')/\ w'.cell? ⟨b,off+j*5+4,none⟩=some (.string v')) (by kernel_rfl) (HCS.out _ (Below.refl _ _).drew) (fun hHeld=> ?_);refine tZ 0 55 ?_;refine tZ 1 56 ?_;refine tZ 2 57 ?_;refine tZ 3 58 ?_;refine tZ 4 59 ?_;refine tZ 5 60 ?_;refine tZ 6 61 ?_;refine tZ 7 62 ?_;refine tZ 8 63 ?_;refine tZ 9 64 ?_;refine cZ 10 ?_;intro K hK;go_simp;refine(HLB.out _ hHeld.1).mono ?_;rintro e w5 ⟨rfl,b5⟩;have hB5:=hHeld.1.trans (b5.mono hHeld.1.size);refine hK.out _ _ (HCS.out _ hB5) (fun hHeld=> ?_);clear hK K;try simp only [Act.put,sZa,sZb,sZc]
           refine tZ 11 66 ?_;refine tZ 12 67 ?_;refine wpAnyH_done (by kernel_rfl) ?_ _;have HB5:=hid (HB4.out.trans (hB5.mono HB4.out.size));have t0:=(hB5.cell (p:=⟨w.heap.size,0,none⟩) zt).trans t0;have y2:=(hB5.cell (p:=⟨wr.heap.size,2,none⟩) zy).trans y2;have y3:=(hB5.cell (p:=⟨wr.heap.size,3,none⟩) zy).trans y3;have zt:w.heap.size<w5.heap.size:=Nat.lt_of_lt_of_le zt hB5.size;have zy:wr.heap.size<w5.heap.size:=Nat.lt_of_lt_of_le zy hB5.size;clear hHeld hB5 b5 HCS HLB j0 j1 j2 j3 j4 y0 y1 y4 hsub hwr hwr2 d2 d3 HSJ HSK HB4 HBF4 q1 q2 zb;cases Bf with
           | false=>
            have HF:=hid (HNO.out (fun h=>by
             have e:=h.2.2 (by have:=HKJ.out;omega);rw [show k - 1=j by have:=HKJ.out;omega,HEJ.out] at e;have:=yes_t e;rw [HBf.out] at this;cases this))
            have HZ:=hid (HB1.out.trans (HB5.out.mono HB1.out.size));clear HNO HCC;go_wp2_with fail;go_ret;exact⟨ret_b HF.out.symm,HZ.out⟩
           | true=>
            have HORD:Hid (0<k ->cmpL (gL l (k - 1)) ⟨p,false,r,q,v⟩<0):=hid (fun _=>by
             rw [show k - 1=j by have:=HKJ.out;omega,HEJ.out];exact yes_iff.1 HBf.out)
            have HY2:Hid (∀wi,Below w5.heap.size w5 wi ->wi.cell? ⟨wr.heap.size,2,none⟩=some (.int .i64 r)):=hid (fun wi h=>(h.cell (p:=⟨wr.heap.size,2,none⟩) zy).trans y2);have HY3:Hid (∀wi,Below w5.heap.size w5 wi ->wi.cell? ⟨wr.heap.size,3,none⟩=some (.int .i64 q)):=hid (fun wi h=>(h.cell (p:=⟨wr.heap.size,3,none⟩) zy).trans y3);go_wp2_with fail;go_loopw [5] (fun i wi=>∃j:Nat,j<=k/\ i=.int .i64 j/\ Hid (Below w5.heap.size w5 wi)/\ Hid (∀t,t<j ->Dif (gL l t) (gL l k))) (fun i _=>k - (intOf i).toNat);case atStart=>exact⟨0,Nat.zero_le _,rfl,hid (Below.refl _ _),hid (fun t ht=>by omega)⟩
            case round=>
             obtain⟨j,hj,rfl,HBI,HDI⟩:=hrel;have g0:=(HBI.out.cell (p:=⟨w.heap.size,0,none⟩) zt).trans t0;have g2:=HY2.out _ HBI.out;have g3:=HY3.out _ HBI.out;by_cases hjk:j<k
             ·obtain⟨ja,jc,_,_,_,c2,c3,_⟩:=HCC.out j (by omega);have j2:=(((HB5.out.trans (HBI.out.mono HB5.out.size)).cell (p:=⟨b,off+j*5+2,none⟩) hb)).trans c2;have j3:=(((HB5.out.trans (HBI.out.mono HB5.out.size)).cell (p:=⟨b,off+j*5+3,none⟩) hb)).trans c3;obtain⟨yj,hyj⟩:∃yj,gL l j=yj:=⟨_,rfl⟩;rw [hyj] at j2 j3;have HEJ:=hid hyj;obtain⟨pj,fj,rj,qj,vj⟩:=yj;dsimp only at j2 j3;have q1:(0:Int)<=(j:Int):=Int.natCast_nonneg _;have q2:(j:Int)<(l.length:Int):=by omega
              have q3:(j:Int)<(k:Int):=by omega
              have hG:=dotGuard;have EQ:∀w:World,(binOp .eql 63 (.agg #[.int .i64 rj,.int .i64 qj]) (.agg #[.int .i64 r,.int .i64 q])).run Tryz.prog w=.ok (.bool (rj==r && qj==q)) w:=fun w=>eqlDot rj qj r q w;clear hyj c2 c3 t0 y2 y3;by_cases hr:rj=r
              ·have e1:(rj==r)=true:=by simpa using hr
               by_cases hq:qj=q
               ·have e2:(qj==q)=true:=by simpa using hq
                have EQ:∀w:World,(binOp .eql 63 (.agg #[.int .i64 rj,.int .i64 qj]) (.agg #[.int .i64 r,.int .i64 q])).run Tryz.prog w=.ok (.bool true) w:=fun w=>by rw [EQ w,e1,e2];rfl
                have HF:Hid (Y=false):=hid (by rw [<- HY.out];exact yes_f (fun h=>h.2.2.2 k hlt j hjk (by rw [HEJ.out,HE.out];exact⟨hr,hq⟩)));have HZ:=hid (HB1.out.trans ((HB5.out.trans (HBI.out.mono HB5.out.size)).mono HB1.out.size));clear HNO HDI HCC;go_wp2_with fail;go_quiet (fail);go_wp2_with fail;go_ret;exact⟨ret_b HF.out.symm,below_drewS HZ.out _⟩
               ·have e2:(qj==q)=false:=by simpa using hq
                have EQ:∀w:World,(binOp .eql 63 (.agg #[.int .i64 rj,.int .i64 qj]) (.agg #[.int .i64 r,.int .i64 q])).run Tryz.prog w=.ok (.bool false) w:=fun w=>by rw [EQ w,e1,e2];rfl
                have HD:Hid (∀t,t<j+1 ->Dif (gL l t) (gL l k)):=hid (fun t ht=>by
                 by_cases e:t=j
                 ·rw [e,HEJ.out,HE.out];exact fun h=>hq h.2
                 ·exact HDI.out t (by omega))
                clear HNO HDI HCC;go_wp2_with fail;go_quiet (fail);have HBN:=hid (below_drewS HBI.out nq);go_wp2_with fail;go_roundw;case rel=>exact⟨j+1,hjk,by go_num,HBN,HD⟩
                case measure=>simp [intOf];omega
              ·have e1:(rj==r)=false:=by simpa using hr
               have EQ:∀w:World,(binOp .eql 63 (.agg #[.int .i64 rj,.int .i64 qj]) (.agg #[.int .i64 r,.int .i64 q])).run Tryz.prog w=.ok (.bool false) w:=fun w=>by rw [EQ w,e1];rfl
               have HD:Hid (∀t,t<j+1 ->Dif (gL l t) (gL l k)):=hid (fun t ht=>by
                by_cases e:t=j
                ·rw [e,HEJ.out,HE.out];exact fun h=>hr h.1
                ·exact HDI.out t (by omega))
               clear HNO HDI HCC;go_wp2_with fail;go_quiet (fail);have HBN:=hid (below_drewS HBI.out nq);go_wp2_with fail;go_roundw;case rel=>exact⟨j+1,hjk,by go_num,HBN,HD⟩
               case measure=>simp [intOf];omega
             ·obtain rfl:j=k:=by omega
              have HN:Hid (LvOk R F T n l (j+1)/\ Dis l (j+1)):=hid ⟨HI.out.1.step (by rw [HE.out];exact HOK.out) (by rw [HE.out];exact HHAS.out) (fun h=>by rw [HE.out];exact HORD.out h),HI.out.2.step HDI.out⟩;have HZ:=hid (HB5.out.trans (HBI.out.mono HB5.out.size));clear HNO HDI HCC t0 y2 y3 g0 g2 g3;go_wp2_with fail;go_roundw;case rel=>exact⟨j+1,hlt,by go_num,HZ,HN⟩
              case measure=>simp [intOf];omega
    ·obtain rfl:k=l.length:=by omega
     have HF:Hid (Y=true):=hid (by rw [<- HY.out];exact yes_t ⟨HC.out,by omega,HI.out.1,HI.out.2⟩);have HB:=hid (HB1.out.trans (HBR.out.mono HB1.out.size));clear m0 m1;go_wp2_with fail;go_ret;exact⟨ret_b HF.out.symm,HB.out⟩
end Go.Proofs.YtpfmeafmepgimaaGreat
namespace Go.Proofs.YtpfmeafmepgimaaGreat
open Go.ChangeShapes Go.WideShapes Go.ChangeAt Go.RowKit Go.Deep
structure Sx where
 l:List Lf
 n:Nat
 R:Nat ->Int
 F:Nat ->Int
 T:Nat ->Int
structure Sx.Sm (S:Sx):Prop where
 l1:S.l.length<=1048576
 p1:LBd S.l
 n1:S.n<=1048576
structure SAt (w:World)(a x:Option Addr)(S:Sx):Prop where
 lf:LSeg w a S.l
 rn:RSeg w x S.n S.R S.F S.T
theorem SAt.below {w w':World}{a x:Option Addr}{S:Sx}(h:SAt w a x S)(hb:Below w.heap.size w w'):SAt w' a x S:=⟨h.lf.below hb,h.rn.below hb⟩
structure SCt (w:World)(a x:Option Addr)(S:Sx):Prop where
 lf:LCap w a S.l
 rn:RSeg w x S.n S.R S.F S.T
theorem SCt.below {w w':World}{a x:Option Addr}{S:Sx}(h:SCt w a x S)(hb:Below w.heap.size w w'):SCt w' a x S:=⟨h.lf.below hb,h.rn.below hb⟩
theorem own_at5 {w w':World}{B e size n:Nat}{v:Value}{xs:List Value}(h:w.ownsRow B e size v n xs)(hk:∀g,v.ownBlock=some g ->w'.heap[g]? =w.heap[g]?):w'.ownsRow B e size v n xs:=by
 obtain⟨q1,q2⟩:=h;refine⟨q1,?_⟩;rcases q2 with q2|⟨g,cap,cur,e,hbg,hb,r⟩
 ·exact .inl q2
 ·subst e;exact .inr ⟨g,cap,cur,rfl,hbg,(hk g rfl).trans hb,r⟩
theorem own_weak5 {w:World}{B C e size n:Nat}{v:Value}{xs:List Value}(h:w.ownsRow B e size v n xs)(hc:C<=B):w.ownsRow C e size v n xs:=by
 obtain⟨q1,q2⟩:=h;refine⟨q1,?_⟩;rcases q2 with q2|⟨g,cap,cur,e,hbg,r⟩
 ·exact .inl q2
 ·exact .inr ⟨g,cap,cur,e,Nat.le_trans hc hbg,r⟩
theorem Bx5.new (w:World)(v0 v1 v2 v3 v4:Value)(t:TypeId):Bx5 (w.alloc (.cells #[v0,v1,v2,v3,v4] t)) w.heap.size v0 v1 v2 v3 v4:=
 ⟨by simp,by simp,by simp,by simp,by simp,fun i=>by simp,by simp⟩
theorem Bx5.up {w:World}{b:Nat}{v0 v1 v2 v3 v4:Value}(h:Bx5 w b v0 v1 v2 v3 v4)(o:Obj):Bx5 (w.alloc o) b v0 v1 v2 v3 v4:=h.below ((Below.refl w.heap.size w).alloc (Nat.le_refl _) o) h.lt
end Go.Proofs.YtpfmeafmepgimaaGreat
namespace Go.Proofs.YtpfmeafmepgimaaGreat
open Go.ChangeShapes Go.WideShapes Go.ChangeAt Go.RowKit Go.Maps
theorem laidOutS:laidOutB Tryz.prog=true:=by kernel_rfl
theorem dotKeyed:Keyed Tryz.prog 63:=Keyed.of_law (deep_law_laid laidOutS (m:=3) (by omega) (of_decide_eq_true (by kernel_rfl)) (by kernel_rfl) (by kernel_rfl))
def dotV (r q:Int):Value:=.agg #[.int .i64 r,.int .i64 q]
theorem dotKT:Tryz.prog.keyType 63=true:=by kernel_rfl
theorem dotKey {r q:Int}(hr:(Lit.int .i64 r).wf=true)(hq:(Lit.int .i64 q).wf=true):∃kl,keyOf Tryz.prog 63 (dotV r q)=some kl:=by
 unfold keyOf;rw [Tryz.underlying63];simp only [dotKT,Bool.true_and];have h0:0<Tryz.prog.types.size:=of_decide_eq_true (by kernel_rfl);obtain⟨m,hm⟩:∃m,Tryz.prog.types.size=m+1:=⟨Tryz.prog.types.size - 1,by omega⟩;rw [hm];have e2:Tryz.prog.cellsOf 63=2:=by kernel_rfl
 have ei:Tryz.prog.cellsOf 3=1:=by kernel_rfl
 simp [Value.formed,dotV,Tryz.underlying63,e2,Program.keyLits,Tryz.underlying3,ei,Value.cells,hr,hq]
theorem dotKey_inj {r q r' q':Int}{kl:Lit}(h:keyOf Tryz.prog 63 (dotV r q)=some kl)(h':keyOf Tryz.prog 63 (dotV r' q')=some kl):r=r'/\ q=q':=by
 have e:=dotKeyed.inj h h';simpa [dotV] using e
structure DotM (w:World)(bm k:Nat)(l:List Lf)(D:DataW Value):Prop where
 own:w.ownsMap Tryz.prog 63 (plainElem Tryz.prog 3) bm k D
 tidy:Tidy D
 has':∀r q kl,keyOf Tryz.prog 63 (dotV r q)=some kl ->(has D kl=true↔∃j,j<k/\ (gL l j).r=r/\ (gL l j).q=q)
 le:size D<=k
 eq:size D=k↔∀i,i<k ->∀j,j<i ->¬((gL l j).r=(gL l i).r/\ (gL l j).q=(gL l i).q)
theorem DotM.step {w w':World}{bm k:Nat}{l:List Lf}{D:DataW Value}{kl:Lit}{d:DataW Value}(h:DotM w bm k l D)(hk:keyOf Tryz.prog 63 (dotV (gL l k).r (gL l k).q)=some kl)
  (ho:w'.ownsMap Tryz.prog 63 (plainElem Tryz.prog 3) bm (k+1) (D.put kl d)):DotM w' bm (k+1) l (D.put kl d):=by
 have hlit:=dotKeyed.key hk;have hsz:=size_put (k:=kl) h.tidy d;have hh:=h.has' _ _ _ hk;refine⟨ho,h.tidy.put hlit d,fun r q kl' hk'=> ?_,?_,?_⟩
 ·by_cases e:kl'=kl
  ·subst e;obtain⟨e1,e2⟩:=dotKey_inj hk hk';rw [has_put_same h.tidy.isMap hlit];exact⟨fun _=>⟨k,by omega,e1,e2⟩,fun _=>rfl⟩
  ·rw [has_put_other e,h.has' r q kl' hk'];constructor
   ·rintro⟨j,hj,r1⟩;exact⟨j,by omega,r1⟩
   ·rintro⟨j,hj,r1,r2⟩;by_cases ej:j=k
    ·subst ej;rw [r1,r2,hk'] at hk;injection hk with hk;exact absurd hk e
    ·exact⟨j,by omega,r1,r2⟩
 ·rw [hsz];have:=h.le;split<;>omega
 ·rw [hsz];have hle:=h.le;by_cases hb:has D kl=true
  ·rw [if_pos hb];obtain⟨j,hj,r1,r2⟩:=hh.1 hb;constructor
   ·intro e;omega
   ·intro e;exact absurd ⟨r1,r2⟩ (e k (by omega) j hj)
  ·rw [if_neg hb];have hn:=fun j hj r1 r2=>hb (hh.2 ⟨j,hj,r1,r2⟩);constructor
   ·intro e i hi j hj;by_cases ei:i=k
    ·subst ei;exact fun q=>hn j hj q.1 q.2
    ·exact h.eq.1 (by omega) i (by omega) j hj
   ·intro e;have:=h.eq.2 (fun i hi j hj=>e i (by omega) j hj);omega
theorem DotM.made (w:World)(l:List Lf):DotM (w.alloc (.map #[] 0)) w.heap.size 0 l (.map []):=
 ⟨World.ownsMap_made w _ _ _,tidy_empty,fun r q kl hk=>⟨fun h=>by simp [has] at h,fun⟨j,hj,_⟩=>by omega⟩,by simp [size],⟨fun _ i hi=>by omega,fun _=>rfl⟩⟩
def allR (v:Value):Option (DataW Value×List MemPlace):=some (.held v,[])
theorem allR_inv {v:Value}{d:DataW Value}{ps:List MemPlace}(h:allR v=some (d,ps)):d=.held v:=by
 unfold allR at h;simp at h;exact h.1.symm
abbrev Ky:=ByteArray×Int
abbrev Dt:=Int×Int
def keyV (x:Ky):Value:=.agg #[.string x.1,.int .i64 x.2]
def dtV (d:Dt):Value:=dotV d.1 d.2
def mrkV:Option ByteArray ->Value
 | none=> .agg #[.string ByteArray.empty]
 | some s=> .agg #[.string s]
def nodV:Option (Nat×Nat) ->Value
 | none=> .agg #[.map none,.map none]
 | some x=> .agg #[.map (some x.1),.map (some x.2)]
theorem keyV_inj {x y:Ky}(h:keyV x=keyV y):x=y:=by
 obtain⟨a,b⟩:=x;obtain⟨c,d⟩:=y;simpa [keyV] using h
theorem dtV_inj {x y:Dt}(h:dtV x=dtV y):x=y:=by
 obtain⟨a,b⟩:=x;obtain⟨c,d⟩:=y;simpa [dtV,dotV] using h
theorem keyKeyed:Keyed Tryz.prog 102:=Keyed.of_law (deep_law_laid laidOutS (m:=3) (by omega) (of_decide_eq_true (by kernel_rfl)) (by kernel_rfl) (by kernel_rfl))
theorem keyKT:Tryz.prog.keyType 102=true:=by kernel_rfl
theorem keyKey {s:ByteArray}{k:Int}(hs:s.size<=maxLen)(hk:(Lit.int .i64 k).wf=true):∃kl,keyOf Tryz.prog 102 (keyV (s,k))=some kl:=by
 unfold keyOf;rw [Tryz.underlying102];simp only [keyKT,Bool.true_and];have h0:0<Tryz.prog.types.size:=of_decide_eq_true (by kernel_rfl);obtain⟨m,hm⟩:∃m,Tryz.prog.types.size=m+1:=⟨Tryz.prog.types.size - 1,by omega⟩;rw [hm];have e2:Tryz.prog.cellsOf 102=2:=by kernel_rfl
 have ei:Tryz.prog.cellsOf 3=1:=by kernel_rfl
 have es:Tryz.prog.cellsOf 9=1:=by kernel_rfl
 simp [Value.formed,keyV,Tryz.underlying102,e2,Program.keyLits,Tryz.underlying3,Tryz.underlying9,ei,es,Value.cells,hs,hk]
structure FM {α β:Type}(w:World)(t:TypeId)(kv:α ->Value)(vo:Option β ->Value)(b c:Nat)(f:α ->Option β)(D:DataW Value):Prop where
 own:w.ownsMap Tryz.prog t allR b c D
 at':∀x kl,keyOf Tryz.prog t (kv x)=some kl ->has D kl=(f x).isSome/\ D.atKey kl (.held (vo none))=.held (vo (f x))
 cov:∀kl,has D kl=true ->∃x,keyOf Tryz.prog t (kv x)=some kl
 ok:∀x,f x≠none ->∃kl,keyOf Tryz.prog t (kv x)=some kl
def MapF {α β:Type}(w:World)(t:TypeId)(kv:α ->Value)(vo:Option β ->Value)(b c:Nat)(f:α ->Option β):Prop:=∃D,FM w t kv vo b c f D
section
variable {α β : Type} {w : World} {t : TypeId} {kv : α -> Value} {vo : Option β -> Value} {b c : Nat} {f : α -> Option β}
theorem own_same {w w':World}{k:TypeId}{R:Value ->Option (DataW Value×List MemPlace)}{b n:Nat}{D:DataW Value}(h:w.ownsMap Tryz.prog k R b n D)(e:w'.heap[b]? =w.heap[b]?):w'.ownsMap Tryz.prog k R b n D:=by
 obtain⟨es,clock,hb,r⟩:=h;exact⟨es,clock,e.trans hb,r⟩
theorem MapF.same {w':World}(h:MapF w t kv vo b c f)(e:w'.heap[b]? =w.heap[b]?):MapF w' t kv vo b c f:=by
 obtain⟨D,h⟩:=h;exact⟨D,own_same h.own e,h.at',h.cov,h.ok⟩
theorem MapF.mono {c':Nat}(h:MapF w t kv vo b c f)(hc:c<=c'):MapF w t kv vo b c' f:=by
 obtain⟨D,h⟩:=h;exact⟨D,h.own.mono hc,h.at',h.cov,h.ok⟩
theorem MapF.lt (h:MapF w t kv vo b c f):b<w.heap.size:=by
 obtain⟨D,h⟩:=h;exact h.own.lt
theorem MapF.obj (h:MapF w t kv vo b c f):∃es clock,w.heap[b]? =some (.map es clock):=by
 obtain⟨D,h⟩:=h;obtain⟨es,clock,hb,_⟩:=h.own;exact⟨es,clock,hb⟩
theorem MapF.ext {g:α ->Option β}(h:MapF w t kv vo b c f)(e:∀x,f x=g x):MapF w t kv vo b c g:=by
 obtain rfl:f=g:=funext e;exact h
theorem MapF.look {mt e:TypeId}(h:MapF w t kv vo b c f)(K:Keyed Tryz.prog t)(ht:Tryz.prog.underlying mt=some (.map t e))(hz:(zeroValue e).run Tryz.prog w=.ok (vo none) w){x:α}{kl:Lit}(hk:keyOf Tryz.prog t (kv x)=some kl):
  (Instr.lookup mt (.map (some b)) (kv x) false).run Tryz.prog w=.ok (vo (f x)) w:=by
 obtain⟨D,h⟩:=h;obtain⟨v,ps,hrun,hv⟩:=h.own.lookup K ht hz (zd:=.held (vo none)) (zp:=[]) rfl hk;have:=allR_inv hv;rw [(h.at' x kl hk).2] at this;injection this with this;rw [<- this] at hrun;exact hrun
theorem MapF.look_ok {mt e:TypeId}(h:MapF w t kv vo b c f)(K:Keyed Tryz.prog t)(ht:Tryz.prog.underlying mt=some (.map t e))(hz:(zeroValue e).run Tryz.prog w=.ok (vo none) w){x:α}{kl:Lit}(hk:keyOf Tryz.prog t (kv x)=some kl):
  (Instr.lookup mt (.map (some b)) (kv x) true).run Tryz.prog w=.ok (.tuple #[vo (f x),.bool (f x).isSome]) w:=by
 obtain⟨D,h⟩:=h;obtain⟨v,ps,hrun,hv⟩:=h.own.look_ok K ht hz (zd:=.held (vo none)) (zp:=[]) rfl hk;have:=allR_inv hv;rw [(h.at' x kl hk).2] at this;injection this with this;rw [<- this,(h.at' x kl hk).1] at hrun;exact hrun
theorem MapF.made (w:World)(t:TypeId)(kv:α ->Value)(vo:Option β ->Value):MapF (w.alloc (.map #[] 0)) t kv vo w.heap.size 0 (fun _=>none):=
 ⟨.map [],World.ownsMap_made w _ _ _,fun x kl _=>⟨by simp [has],rfl⟩,fun kl h=>by simp [has] at h,fun x h=>absurd rfl h⟩
open Classical in
noncomputable def updF {α β:Type}(f:α ->Option β)(x:α)(v:Option β)(y:α):Option β:=if y=x then v else f y
theorem updF_same (f:α ->Option β)(x:α)(v:Option β):updF f x v x=v:=by unfold updF;simp
theorem updF_other (f:α ->Option β){x y:α}(v:Option β)(h:y≠x):updF f x v y=f y:=by unfold updF;simp [h]
theorem MapF.store {mt e:TypeId}(h:MapF w t kv vo b c f)(K:Keyed Tryz.prog t)(hi:∀x y,kv x=kv y ->x=y)(ht:Tryz.prog.underlying mt=some (.map t e))(hc:c<maxLen){x:α}{y:β}{kl:Lit}(hk:keyOf Tryz.prog t (kv x)=some kl):
  ∃w',(Instr.mapUpdate mt (.map (some b)) (kv x) (vo (some y))).run Tryz.prog w=.ok () w'/\ MapF w' t kv vo b (c+1) (updF f x (some y))/\ w.grownBy w' (some b):=by
 obtain⟨D,h⟩:=h;obtain⟨w',hrun,ho,hg⟩:=h.own.update K ht hc hk (val:=vo (some y)) (d:=.held (vo (some y))) (ps:=[]) rfl;have hlit:=K.key hk;refine⟨w',hrun,⟨_,ho,fun x' kl' hk'=> ?_,fun kl' hh=> ?_,fun x' hx'=> ?_⟩,hg⟩
 ·by_cases e1:x'=x
  ·subst e1;rw [hk] at hk';injection hk' with hk';subst hk';rw [updF_same,has_put_same h.own.isMap hlit,atKey_put_same h.own.isMap hlit];exact⟨rfl,rfl⟩
  ·have e2:kl'≠kl:=fun e=>e1 (hi _ _ (K.inj (e ▸ hk') hk));rw [updF_other _ _ e1,has_put_other e2,atKey_put_other e2];exact h.at' x' kl' hk'
 ·by_cases e2:kl'=kl
  ·subst e2;exact⟨x,hk⟩
  ·rw [has_put_other e2] at hh;exact h.cov kl' hh
 ·by_cases e1:x'=x
  ·subst e1;exact⟨kl,hk⟩
  ·rw [updF_other _ _ e1] at hx';exact h.ok x' hx'
theorem MapF.len {mt e:TypeId}(h:MapF w t kv vo b c f)(K:Keyed Tryz.prog t)(ht:Tryz.prog.underlying mt=some (.map t e)):∃n:Nat,(∀ty,(Builtin.len_ #[mt] ty #[.map (some b)]).run Tryz.prog w=.ok (.int .i64 n) w)/\ n<=c/\ (0<n↔∃x,f x≠none):=by
 obtain⟨D,h⟩:=h;refine⟨Maps.size D,fun ty=>h.own.len ht ty,h.own.size_le,?_⟩;obtain⟨es,rfl⟩:=h.own.isMap;constructor
 ·intro h0;have hk:∃kl,has (DataW.map es) kl=true:=by
   cases es with
   | nil=>simp [Maps.size] at h0
   | cons p r=>
    obtain⟨es',hD,_,hkl⟩:=h.own.entries K;have hp:WideAt.IsKeyLit p.1:=hkl p (by injection hD with hD;rw [<- hD];simp);refine⟨p.1,?_⟩;rw [has_eq];simp only [List.any_cons,Bool.or_eq_true];exact .inl (WideAt.sameKey_self hp)
  obtain⟨kl,hkl⟩:=hk;obtain⟨x,hx⟩:=h.cov kl hkl;refine⟨x,fun e=> ?_⟩;have:=(h.at' x kl hx).1;rw [hkl,e] at this;cases this
 ·rintro⟨x,hx⟩;obtain⟨kl,hkl⟩:=h.ok x hx;have:=(h.at' x kl hkl).1;cases es with
  | nil=>cases e:f x with
   | none=>exact absurd e hx
   | some y=>rw [e] at this;simp [has] at this
  | cons p r=>simp [Maps.size]
end
end Go.Proofs.YtpfmeafmepgimaaGreat
