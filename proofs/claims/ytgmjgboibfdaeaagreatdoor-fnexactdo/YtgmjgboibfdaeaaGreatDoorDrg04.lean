import Derived.Test.YtgmjgboibfdaeaaGreatDoorDrg03
import Derived.Deep.CutRange
import Derived.DeepKeys4
import Derived.Maps.Range
set_option linter.unusedVariables false
set_option linter.unusedSimpArgs false
set_option maxRecDepth 100000
set_option maxHeartbeats 40000000
namespace Go.Proofs.YtgmjgboibfdaeaaGreatDoor
open Go.ChangeShapes Go.WideShapes Go.ChangeAt Go.RowKit
variable {B b bm e g h hi i k lo n:Nat}{a:Option Addr}{l:List Lf}{p:List ByteArray}{q r:Int}{s:ByteArray}{v v0 v1 v2 v3 v4:Value}{w w' w1 wr:World}{x:Nat×Nat}{xs:List Value}
theorem Bx5.set2(h:Bx5 w b v0 v1 v2 v3 v4)(u:Value):Bx5 (w.setCell ⟨b,2,none⟩ u) b v0 v1 u v3 v4:=
 ⟨by simp [World.cell?_setCell_other,h.c0],by simp [World.cell?_setCell_other,h.c1],World.cell?_setCell_same _ _ _ h.c2,by simp [World.cell?_setCell_other,h.c3],by simp [World.cell?_setCell_other,h.c4],fun i=>by rw [World.frozen?_setCell];exact h.f i,by simp [World.setCell];exact h.lt⟩
theorem Bx5.set3(h:Bx5 w b v0 v1 v2 v3 v4)(u:Value):Bx5 (w.setCell ⟨b,3,none⟩ u) b v0 v1 v2 u v4:=
 ⟨by simp [World.cell?_setCell_other,h.c0],by simp [World.cell?_setCell_other,h.c1],by simp [World.cell?_setCell_other,h.c2],World.cell?_setCell_same _ _ _ h.c3,by simp [World.cell?_setCell_other,h.c4],fun i=>by rw [World.frozen?_setCell];exact h.f i,by simp [World.setCell];exact h.lt⟩
theorem Bx5.set4(h:Bx5 w b v0 v1 v2 v3 v4)(u:Value):Bx5 (w.setCell ⟨b,4,none⟩ u) b v0 v1 v2 v3 u:=
 ⟨by simp [World.cell?_setCell_other,h.c0],by simp [World.cell?_setCell_other,h.c1],by simp [World.cell?_setCell_other,h.c2],by simp [World.cell?_setCell_other,h.c3],World.cell?_setCell_same _ _ _ h.c4,fun i=>by rw [World.frozen?_setCell];exact h.f i,by simp [World.setCell];exact h.lt⟩
def QbT (R F T:Nat ->Int)(n:Nat)(l:List Lf)(k:Nat):Prop:=∀i,i<k ->Qc1 (gL l i)/\ QbG R F T (gL l i).r (gL l i).q (gL l i).q n=true/\ (0<i ->QaM (gL l (i - 1)) (gL l i)<0)
def Dif (x y:Lf):Prop:=¬(x.r=y.r/\ x.q=y.q)
def Dis (l:List Lf)(k:Nat):Prop:=∀i,i<k ->∀j,j<i ->Dif (gL l j) (gL l i)
def QaT (R F T:Nat ->Int)(n:Nat)(l:List Lf):Prop:=Qdh R F T n=true/\ l.length<=1000/\ QbT R F T n l l.length/\ Dis l l.length
theorem QbT.step {R F T:Nat ->Int}(h:QbT R F T n l k)(h1:Qc1 (gL l k))(h2:QbG R F T (gL l k).r (gL l k).q (gL l k).q n=true)(h3:0<k ->QaM (gL l (k - 1)) (gL l k)<0):QbT R F T n l (k+1):=fun i hi=>by
 by_cases e:i=k
 ·subst e;exact⟨h1,h2,h3⟩
 ·exact h i (by omega)
theorem Dis.step(h:Dis l k)(h1:∀j,j<k ->Dif (gL l j) (gL l k)):Dis l (k+1):=fun i hi j hj=>by
 by_cases e:i=k
 ·subst e;exact h1 j hj
 ·exact h i (by omega) j hj
theorem Qat{a:World}(h:Below B a w)(n:Nat):Below B a (w.drewN n):=⟨h.os,h.tape,h.output,h.size,h.block⟩
theorem Qbl (a:Option Addr)(c:Nat)(l:List Lf)(x:Option Addr)(n d:Nat)(R F T:Nat ->Int)(w:World)(hn:l.length<=1048576)(hp:LBd l)(hm:n<=1048576)(h:QcF w a l)(h':Qa7 w x n R F T):
  Cl 38 #[.agg #[.slice a l.length c,.slice x n d]] w (Rt w (.bool (yes (QaT R F T n l)))):=by
 obtain⟨W,hW⟩:=zE (w.alloc (.cells #[.slice a l.length c,.slice x n d] 40));have b0:Bl w W:=by rw [<- hW];exact zO _ _
 have zW:w.heap.size<W.heap.size:=by rw [<- hW];simp
 have k0:W.cell? ⟨w.heap.size,0,none⟩=some (.slice a l.length c):=by rw [<- hW];simp
 have k1:W.cell? ⟨w.heap.size,1,none⟩=some (.slice x n d):=by rw [<- hW];simp
 have HC:=hid (Qf6 x n d R F T W hm (h'.bw b0));have HL:=hid (h.bw b0);have HR:=hid (h'.bw b0);have Hk:=hid b0;clear h h' b0;obtain⟨Y,hY⟩:=zE (yes (QaT R F T n l));have HY:=hid hY;rw [hY];clear hY;go_enter Tryz.func38,Tryz.ntmps38;go_wp2_with fail;try rw [hW]
 clear hW;refine HC.mono ?_;rintro e w1 ⟨rfl,b1⟩;have m0:=(b1.cell (p:=⟨w.heap.size,0,none⟩) zW).trans k0;have m1:=(b1.cell (p:=⟨w.heap.size,1,none⟩) zW).trans k1;have E:=hid (Hk.trans (b1.mono Hk.size));have H8:=hid (HL.bw b1);have H9:=hid (HR.bw b1);have z1:w.heap.size<w1.heap.size:=Nat.lt_of_lt_of_le zW b1.size;clear HC HL HR Hk k0 k1 zW b1;obtain⟨C,hC⟩:=zE (Qdh R F T n);have HC:=hid hC;rw [hC];clear hC;cases C with
 | false=>
  have O:Hid (Y=false):=hid (by rw [<- HY.out];exact Qaf (fun h=>by have:=h.1;rw [HC.out] at this;cases this));go_wp2_with fail;go_ret;exact⟨Qay O.symm,E⟩
 | true=>
  by_cases Hf:(1000:Int)<(l.length:Int)
  ·have d0:decide ((1000:Int)<(l.length:Int))=true:=by simpa using Hf
   have O:Hid (Y=false):=hid (by rw [<- HY.out];exact Qaf (fun h=>by have:=h.2.1;omega));go_wp2_with fail;go_ret;exact⟨Qay O.symm,E⟩
  ·have d0:decide ((1000:Int)<(l.length:Int))=false:=by simpa using Hf
   go_wp2_with fail;clear d0;go_loopw [3] (fun i wr=>∃k:Nat,k<=l.length/\ i=.int .i64 k/\ Hid (Bl w1 wr)/\ Hid (QbT R F T n l k/\ Dis l k)) (fun i _=>l.length - (intOf i).toNat);case atStart=>exact⟨0,Nat.zero_le _,rfl,hid zI,hid ⟨fun i hi=>by omega,fun i hi=>by omega⟩⟩
   case round=>
    obtain⟨k,hk,rfl,g,HI⟩:=hrel;have r0:=(g.cell (p:=⟨w.heap.size,0,none⟩) z1).trans m0;have r1:=(g.cell (p:=⟨w.heap.size,1,none⟩) z1).trans m1;by_cases Hi:k<l.length
    ·rcases H8.out with h|⟨b,m,rfl,B,hc⟩
     ·omega
     obtain⟨pa,pc,⟨c0,cp,cq⟩,s,c1,N,X,c4⟩:=hc k Hi;have x0:=(g.cell (p:=⟨b,m+k*5,none⟩) B).trans c0;have x1:=(g.cell (p:=⟨b,m+k*5+1,none⟩) B).trans c1;have x2:=(g.cell (p:=⟨b,m+k*5+2,none⟩) B).trans N;have x3:=(g.cell (p:=⟨b,m+k*5+3,none⟩) B).trans X;have x4:=(g.cell (p:=⟨b,m+k*5+4,none⟩) B).trans c4;have HS:=hid (s.bw g);have i1:(0:Int)<=(k:Int):=Int.natCast_nonneg _;have i2:(k:Int)<(l.length:Int):=by omega
     have I:=hid hc;have zr:w1.heap.size<=wr.heap.size:=g.size;clear hc c0 c1 N X c4 s m0 m1;go_upto_region 7 with fail;obtain⟨y,hy⟩:=zE (gL l k);have Hj:=hp k;rw [hy] at HS x0 x1 x2 x3 x4 cp Hj ⊢;have HE:=hid hy;clear hy;obtain⟨p,fl,r,q,v⟩:=y;dsimp only at HS x0 x1 x2 x3 x4 cp Hj ⊢;obtain⟨W2,Hh⟩:=zE (wr.alloc (.cells #[.slice pa p.length pc,.bool fl,.int .i64 r,.int .i64 q,.string v] 106));have b2:Bl wr W2:=by rw [<- Hh];exact zO _ _
     have B5:Bx5 W2 wr.heap.size (.slice pa p.length pc) (.bool fl) (.int .i64 r) (.int .i64 q) (.string v):=by rw [<- Hh];exact⟨by simp,by simp,by simp,by simp,by simp,fun i=>by simp,by simp⟩
     have D:=(b2.cell (p:=⟨w.heap.size,0,none⟩) (show w.heap.size<wr.heap.size by omega)).trans r0;have t1:=(b2.cell (p:=⟨w.heap.size,1,none⟩) (show w.heap.size<wr.heap.size by omega)).trans r1;obtain⟨y0,y1,y2,y3,y4⟩:=B5.q5;have Hb:=hid (g.trans (b2.mono g.size));have Hq:=hid (HS.bw b2);have HP:=hid (QeG p pa pc W2 Hj Hq);have HA:=hid (Qlz x n d R F T r q W2 hm (H9.bw Hb));have z2:wr.heap.size<W2.heap.size:=B5.lt;have z:=hid B5;rw [Hh];clear Hh b2 B5 x0 x1 x2 x3 x4 r0 r1 HS g;have H6:=hid (E.trans (Hb.mono E.size));have Z:Hid (¬(Qc1 ⟨p,fl,r,q,v⟩/\ QbG R F T r q q n=true/\ (0<k ->QaM (gL l (k - 1)) ⟨p,fl,r,q,v⟩<0)) ->Y=false):=hid (fun no=>by
      rw [<- HY.out];exact Qaf (fun h=>no (by have:=h.2.2.1 k Hi;rw [HE.out] at this;exact this)))
     go_cut [54] from 16 to 81 (fun v5 wx=>∃A:Bool,v5=.bool (!A)/\ Hid (A=true↔Qc1 ⟨p,fl,r,q,v⟩/\ QbG R F T r q q n=true)/\ Hid (Bl W2 wx));case first=>
      go_wp2_with fail;refine HP.mono ?_;rintro e w3 ⟨rfl,rfl⟩;obtain⟨Y1,Hv⟩:=zE (yes (QaH p));have Hr:=hid Hv;rw [Hv];clear Hv HP Z;cases Y1 with
      | false=>
       go_wp2_with fail;go_meet;exact⟨false,rfl,hid ⟨fun h=>(by cases h),fun h=>(by have:=Qah h.1.1;rw [Hr.out] at this;cases this)⟩,hid zI⟩
      | true=>
       by_cases hv:(200:Int)<(v.size:Int)
       ·have d1:decide ((200:Int)<(v.size:Int))=true:=by simpa using hv
        go_wp2_with fail;go_meet;exact⟨false,rfl,hid ⟨fun h=>(by cases h),fun h=>(by have:v.size<=200:=h.1.2.1;omega)⟩,hid zI⟩
       ·have d1:decide ((200:Int)<(v.size:Int))=false:=by simpa using hv
        by_cases Ha:fl=true/\ v.toList.isEmpty=false
        ·obtain⟨rfl,Ha⟩:=Ha;go_wp2_with fail;go_meet;exact⟨false,rfl,hid ⟨fun h=>(by cases h),fun h=>(by have:v.toList.isEmpty=true:=h.1.2.2 rfl;rw [Ha] at this;cases this)⟩,hid zI⟩
        ·have he:fl=true ->v.toList.isEmpty=true:=fun e=>by
          by_cases h:v.toList.isEmpty=true
          ·exact h
          ·exact absurd ⟨e,by simpa using h⟩ Ha
         have Hg:Hid (Qc1 ⟨p,fl,r,q,v⟩):=hid ⟨Qcy.1 Hr,by show v.size<=200;omega,he⟩;clear Ha Hr;cases fl with
         | true=>
          have he:=he rfl;go_wp2_with fail;refine HA.mono ?_;rintro e U ⟨rfl,b4⟩;have M:=hid b4;clear b4;go_wp2_with fail;go_meet;exact⟨_,rfl,hid ⟨fun h=>⟨Hg,h⟩,fun h=>h.2⟩,M⟩
         | false=>
          clear he;go_wp2_with fail;refine HA.mono ?_;rintro e U ⟨rfl,b4⟩;have M:=hid b4;clear b4;go_wp2_with fail;go_meet;exact⟨_,rfl,hid ⟨fun h=>⟨Hg,h⟩,fun h=>h.2⟩,M⟩
     case rest=>
      obtain⟨A,rfl,G,u⟩:=hcut;obtain⟨U,rfl⟩:∃U,U=wc:=⟨_,rfl⟩;have zt:w.heap.size<U.heap.size:=by have:=u.size;omega
      have V:wr.heap.size<U.heap.size:=by have:=u.size;omega
      have B4:=z.bw u z2;have D:=(u.cell (p:=⟨w.heap.size,0,none⟩) (show w.heap.size<W2.heap.size by omega)).trans D;obtain⟨y0,y1,y2,y3,y4⟩:=B4.q5;have M:=hid (Hb.trans (u.mono Hb.size));have H5:=hid (Hq.bw u);have Hc:=hid (E.trans (M.mono E.size));clear B4 z Hq H6 u HP HA t1 Hb z2;cases A with
      | false=>
       have O:=hid (Z (fun h=>by have:=G.2 ⟨h.1,h.2.1⟩;cases this));clear Z I;go_wp2_with fail;go_ret;exact⟨Qay O.symm,Hc⟩
      | true=>
       have Hg:=hid (G.1 rfl).1;have Hn:=hid (G.1 rfl).2;clear G;go_upto_region 9 with fail;go_cut [67] from 16 to 81 (fun v5 wx=>∃A:Bool,v5=.bool (!A)/\ Hid (A=true↔(0<k ->QaM (gL l (k - 1)) ⟨p,fl,r,q,v⟩<0))/\ Hid (Bl U wx));case first=>
        by_cases Gd:k=0
        ·have d2:decide ((0:Int)<(k:Int))=false:=by simp;omega
         have d3:decide (0<k)=false:=by simp;omega
         go_quiet (fail);go_wp2_with fail;go_meet;exact⟨true,rfl,hid ⟨fun _ h=>by omega,fun _=>rfl⟩,hid (Qat zI _)⟩
        ·obtain⟨j,hj⟩:∃j,k=j+1:=⟨k - 1,by omega⟩;obtain⟨H1,H2,⟨c0,Hs,Gc⟩,s',c1,N,X,c4⟩:=I j (by omega);have Q:=fun(o:Nat)=>M.cell (p:=⟨b,o,none⟩) B;have j0:=(Q _).trans c0;have j1:=(Q _).trans c1;have j2:=(Q _).trans N;have j3:=(Q _).trans X;have j4:=(Q _).trans c4;have Hp:=hid (s'.bw M);have Hx:=hp j;obtain⟨y',Hz⟩:=zE (gL l j);rw [Hz] at j0 j1 j2 j3 j4 Hp Hx Hs;have Hd:=hid Hz;obtain⟨p',He,r',Q,v'⟩:=y';dsimp only at j0 j1 j2 j3 j4 Hp Hx Hs;have zb:b<U.heap.size:=by have:=M.size;omega
         have d2:decide ((0:Int)<(k:Int))=true:=by simp;omega
         have d3:decide (0<k)=true:=by simp;omega
         have Hy:(k:Int) - 1=(j:Int):=by omega
         have Ge:IntKind.i64.wrap (j:Int)=(j:Int):=by rw [IntKind.wrap_i64];omega
         have Gf:IntKind.i64.wrap ((k:Int) - 1)=(j:Int):=by rw [Hy];exact Ge
         have q1:(0:Int)<=(j:Int):=Int.natCast_nonneg _;have q2:(j:Int)<(l.length:Int):=by omega
         have H3:=hid hj;obtain⟨Bf,Hu⟩:=zE (yes (QaM ⟨p',He,r',Q,v'⟩ ⟨p,fl,r,q,v⟩<0));have H7:=hid Hu;have H4:Hid (∀W,Bl U W ->Cl 67 #[.agg #[.slice H1 p'.length H2,.bool He,.int .i64 r',.int .i64 Q,.string v'],.agg #[.slice pa p.length pc,.bool fl,.int .i64 r,.int .i64 q,.string v]] W (Rt W (.bool Bf))):=hid (fun W hB=>by rw [<- Hu];exact QgQ H1 pa H2 pc p' p He fl r' Q r q v' v W Hx Hj Hs cp Gc cq (Hp.bw hB) (H5.bw hB));clear Hu hj Gd c0 c1 N X c4 s' Hz;have Hm:Hid (∀w',Bl U w' ->(Bl U w'/\ w'.cell? ⟨w.heap.size,0,none⟩=some (.slice (some ⟨b,m,none⟩) l.length c)/\ w'.cell? ⟨wr.heap.size,0,none⟩=some (.slice pa p.length pc)/\ w'.cell? ⟨wr.heap.size,1,none⟩=some (.bool fl)/\ w'.cell? ⟨wr.heap.size,2,none⟩=some (.int .i64 r)/\ w'.cell? ⟨wr.heap.size,3,none⟩=some (.int .i64 q)/\ w'.cell? ⟨wr.heap.size,4,none⟩=some (.string v)/\ w'.cell? ⟨b,m+j*5,none⟩=some (.slice H1 p'.length H2)/\ w'.cell? ⟨b,m+j*5+1,none⟩=some (.bool He)/\ w'.cell? ⟨b,m+j*5+2,none⟩=some (.int .i64 r')/\ w'.cell? ⟨b,m+j*5+3,none⟩=some (.int .i64 Q)/\ w'.cell? ⟨b,m+j*5+4,none⟩=some (.string v'))):=hid (fun w' hB=>⟨hB,(hB.cell (p:=⟨w.heap.size,0,none⟩) zt).trans D,(hB.cell (p:=⟨wr.heap.size,0,none⟩) V).trans y0,(hB.cell (p:=⟨wr.heap.size,1,none⟩) V).trans y1,(hB.cell (p:=⟨wr.heap.size,2,none⟩) V).trans y2,(hB.cell (p:=⟨wr.heap.size,3,none⟩) V).trans y3,(hB.cell (p:=⟨wr.heap.size,4,none⟩) V).trans y4,(hB.cell (p:=⟨b,m+j*5,none⟩) zb).trans j0,(hB.cell (p:=⟨b,m+j*5+1,none⟩) zb).trans j1,(hB.cell (p:=⟨b,m+j*5+2,none⟩) zb).trans j2,(hB.cell (p:=⟨b,m+j*5+3,none⟩) zb).trans j3,(hB.cell (p:=⟨b,m+j*5+4,none⟩) zb).trans j4⟩);refine zS Hm (fun qh=> ?_);refine tZ 0 55 ?_;refine tZ 1 56 ?_;refine tZ 2 57 ?_;refine tZ 3 58 ?_;refine tZ 4 59 ?_;refine tZ 5 60 ?_;refine tZ 6 61 ?_;refine tZ 7 62 ?_;refine tZ 8 63 ?_;refine tZ 9 64 ?_;refine cZ 10 ?_;intro K hK;go_simp;refine(H4 _ qh.1).mono ?_;rintro e P ⟨rfl,b5⟩;have Ht:=qh.1.trans (b5.mono qh.1.size);refine hK.out _ _ (Hm _ Ht) (fun qh=> ?_);clear hK K;try simp only [zP]
         refine tZ 11 66 ?_;refine tZ 12 67 ?_;refine zD ?_;have z:=hid Ht;have G:Hid (Bf=true↔(0<k ->QaM (gL l (k - 1)) ⟨p,fl,r,q,v⟩<0)):=hid (by
          have e:gL l (k - 1)=⟨p',He,r',Q,v'⟩:=by rw [show k - 1=j by have:=H3.out;omega,Hd.out]
          rw [e,<- H7.out,Qcy];exact⟨fun h _=>h,fun h=>h (by have:=H3.out;omega)⟩)
         clear qh Ht b5 Hm H4 Z I;go_wp2_with fail;go_meet;exact⟨Bf,rfl,G,z⟩
       case rest=>
        obtain⟨A,rfl,G,u⟩:=hcut;obtain⟨P,rfl⟩:∃P,P=wc:=⟨_,rfl⟩;have z:=hid (M.trans (u.mono M.size));have D:=(u.cell (p:=⟨w.heap.size,0,none⟩) zt).trans D;have y2:=(u.cell (p:=⟨wr.heap.size,2,none⟩) V).trans y2;have y3:=(u.cell (p:=⟨wr.heap.size,3,none⟩) V).trans y3;have zt:w.heap.size<P.heap.size:=Nat.lt_of_lt_of_le zt u.size;have V:wr.heap.size<P.heap.size:=Nat.lt_of_lt_of_le V u.size;clear u y0 y1 y4 H5 M Hc;cases A with
        | false=>
         have O:=hid (Z (fun h=>by have:=G.2 h.2.2;cases this));have HZ:=hid (E.trans (z.mono E.size));clear Z I;go_wp2_with fail;go_ret;exact⟨Qay O.symm,HZ⟩
        | true=>
         have Ho:Hid (0<k ->QaM (gL l (k - 1)) ⟨p,fl,r,q,v⟩<0):=hid (G.1 rfl);have Ga:Hid (∀wi,Bl P wi ->wi.cell? ⟨wr.heap.size,2,none⟩=some (.int .i64 r)):=hid (fun wi h=>(h.cell (p:=⟨wr.heap.size,2,none⟩) V).trans y2);have Gb:Hid (∀wi,Bl P wi ->wi.cell? ⟨wr.heap.size,3,none⟩=some (.int .i64 q)):=hid (fun wi h=>(h.cell (p:=⟨wr.heap.size,3,none⟩) V).trans y3);go_wp2_with fail;go_loopw [5] (fun i wi=>∃j:Nat,j<=k/\ i=.int .i64 j/\ Hid (Bl P wi)/\ Hid (∀t,t<j ->Dif (gL l t) (gL l k))) (fun i _=>k - (intOf i).toNat);case atStart=>exact⟨0,Nat.zero_le _,rfl,hid zI,hid (fun t ht=>by omega)⟩
         case round=>
          obtain⟨j,hj,rfl,H,S⟩:=hrel;have g0:=(H.cell (p:=⟨w.heap.size,0,none⟩) zt).trans D;have g2:=Ga _ H;have g3:=Gb _ H;by_cases Hw:j<k
          ·obtain⟨ja,jc,_,_,_,N,X,_⟩:=I j (by omega);have j2:=(((z.trans (H.mono z.size)).cell (p:=⟨b,m+j*5+2,none⟩) B)).trans N;have j3:=(((z.trans (H.mono z.size)).cell (p:=⟨b,m+j*5+3,none⟩) B)).trans X;obtain⟨yj,H0⟩:=zE (gL l j);rw [H0] at j2 j3;have Hd:=hid H0;obtain⟨pj,fj,L,J,vj⟩:=yj;dsimp only at j2 j3;have q1:(0:Int)<=(j:Int):=Int.natCast_nonneg _;have q2:(j:Int)<(l.length:Int):=by omega
           have q3:(j:Int)<(k:Int):=by omega
           have hG:=Qjy;have EQ:∀w:World,(binOp .eql 104 (.agg #[.int .i64 L,.int .i64 J]) (.agg #[.int .i64 r,.int .i64 q])).run Tryz.prog w=.ok (.bool (L==r && J==q)) w:=fun w=>Qks L J r q w;clear H0 N X D y2 y3;by_cases hr:L=r
           ·have e1:(L==r)=true:=by simpa using hr
            by_cases hq:J=q
            ·have e2:(J==q)=true:=by simpa using hq
             have EQ:∀w:World,(binOp .eql 104 (.agg #[.int .i64 L,.int .i64 J]) (.agg #[.int .i64 r,.int .i64 q])).run Tryz.prog w=.ok (.bool true) w:=fun w=>by rw [EQ w,e1,e2];rfl
             have O:Hid (Y=false):=hid (by rw [<- HY.out];exact Qaf (fun h=>h.2.2.2 k Hi j Hw (by rw [Hd.out,HE.out];exact⟨hr,hq⟩)));have HZ:=hid (E.trans ((z.trans (H.mono z.size)).mono E.size));clear Z S I;go_wp2_with fail;go_quiet (fail);go_wp2_with fail;go_ret;exact⟨Qay O.symm,Qat HZ _⟩
            ·have e2:(J==q)=false:=by simpa using hq
             have EQ:∀w:World,(binOp .eql 104 (.agg #[.int .i64 L,.int .i64 J]) (.agg #[.int .i64 r,.int .i64 q])).run Tryz.prog w=.ok (.bool false) w:=fun w=>by rw [EQ w,e1,e2];rfl
             have HD:Hid (∀t,t<j+1 ->Dif (gL l t) (gL l k)):=hid (fun t ht=>by
              by_cases e:t=j
              ·rw [e,Hd.out,HE.out];exact fun h=>hq h.2
              ·exact S t (by omega))
             clear Z S I;go_wp2_with fail;go_quiet (fail);have Hl:=hid (Qat H nq);go_wp2_with fail;go_roundw;case rel=>exact⟨j+1,Hw,by go_num,Hl,HD⟩
             case measure=>simp [intOf];omega
           ·have e1:(L==r)=false:=by simpa using hr
            have EQ:∀w:World,(binOp .eql 104 (.agg #[.int .i64 L,.int .i64 J]) (.agg #[.int .i64 r,.int .i64 q])).run Tryz.prog w=.ok (.bool false) w:=fun w=>by rw [EQ w,e1];rfl
            have HD:Hid (∀t,t<j+1 ->Dif (gL l t) (gL l k)):=hid (fun t ht=>by
             by_cases e:t=j
             ·rw [e,Hd.out,HE.out];exact fun h=>hr h.1
             ·exact S t (by omega))
            clear Z S I;go_wp2_with fail;go_quiet (fail);have Hl:=hid (Qat H nq);go_wp2_with fail;go_roundw;case rel=>exact⟨j+1,Hw,by go_num,Hl,HD⟩
            case measure=>simp [intOf];omega
          ·obtain rfl:j=k:=by omega
           have HN:Hid (QbT R F T n l (j+1)/\ Dis l (j+1)):=hid ⟨HI.1.step (by rw [HE.out];exact Hg) (by rw [HE.out];exact Hn) (fun h=>by rw [HE.out];exact Ho h),HI.2.step S⟩;have HZ:=hid (z.trans (H.mono z.size));clear Z S I D y2 y3 g0 g2 g3;go_wp2_with fail;go_roundw;case rel=>exact⟨j+1,Hi,by go_num,HZ,HN⟩
           case measure=>simp [intOf];omega
    ·obtain rfl:k=l.length:=by omega
     have O:Hid (Y=true):=hid (by rw [<- HY.out];exact Qah ⟨HC,by omega,HI.1,HI.2⟩);have HB:=hid (E.trans (g.mono E.size));clear m0 m1;go_wp2_with fail;go_ret;exact⟨Qay O.symm,HB⟩
open Go.Deep
structure Sx where
 l:List Lf
 n:Nat
 R:Nat ->Int
 F:Nat ->Int
 T:Nat ->Int
structure Sx.Big (S:Sx):Prop where
 l1:S.l.length<=9223372036854775807
 b1:∀i,Qfa (gL S.l i)
 i1:∀i,LfI (gL S.l i)
 n1:S.n<=9223372036854775807
structure Sx.Sm (S:Sx):Prop where
 l1:S.l.length<=1048576
 p1:LBd S.l
 n1:S.n<=1048576
structure SAt (w:World)(a x:Option Addr)(S:Sx):Prop where
 lf:QbD w a S.l
 rn:Qa7 w x S.n S.R S.F S.T
theorem SAt.bw{x:Option Addr}{S:Sx}(h:SAt w a x S)(hb:Bl w w'):SAt w' a x S:=⟨h.lf.bw hb,h.rn.bw hb⟩
structure SCt (w:World)(a x:Option Addr)(S:Sx):Prop where
 lf:QcF w a S.l
 rn:Qa7 w x S.n S.R S.F S.T
theorem SCt.bw{x:Option Addr}{S:Sx}(h:SCt w a x S)(hb:Bl w w'):SCt w' a x S:=⟨h.lf.bw hb,h.rn.bw hb⟩
structure SNw (w:World)(lo hi g k:Nat)(S:Sx):Prop where
 cap:QdS w lo (some ⟨g,0,none⟩) S.l
 rn:Qa7 w (some ⟨k,0,none⟩) S.n S.R S.F S.T
 lm:LMk w lo hi g S.l
 k1:lo<=k
 k2:k<hi
 ro:∃ys,w.ownsRow lo 124 3 (.slice (some ⟨k,0,none⟩) S.n S.n) S.n ys
 hl:hi<=w.heap.size
theorem SNw.at{S:Sx}(h:SNw w lo hi g k S):SAt w (some ⟨g,0,none⟩) (some ⟨k,0,none⟩) S:=⟨h.cap.seg,h.rn⟩
theorem Qa6{size:Nat}(h:w.ownsRow B e size v n xs)(hk:∀g,v.ownBlock=some g ->w'.heap[g]? =w.heap[g]?):w'.ownsRow B e size v n xs:=by
 obtain⟨y,j⟩:=h;refine⟨y,?_⟩;rcases j with j|⟨g,k,m,e,u,q,r⟩
 ·exact .inl j
 ·subst e;exact .inr ⟨g,k,m,rfl,u,(hk g rfl).trans q,r⟩
theorem Qb2{C size:Nat}(h:w.ownsRow B e size v n xs)(hc:C<=B):w.ownsRow C e size v n xs:=by
 obtain⟨u,j⟩:=h;refine⟨u,?_⟩;rcases j with j|⟨g,k,m,e,q,r⟩
 ·exact .inl j
 ·exact .inr ⟨g,k,m,e,Nat.le_trans hc q,r⟩
theorem SNw.bw{S:Sx}(h:SNw w lo hi g k S)(hb:Bl w w'):SNw w' lo hi g k S:=
 ⟨h.cap.bw hb,h.rn.bw hb,h.lm.same (fun q _ h2=>hb.block q (Nat.lt_of_lt_of_le h2 h.hl)),h.k1,h.k2,by obtain⟨m,j⟩:=h.ro;exact⟨m,Qa6 j fun q hq=>hb.block q (j.lt q hq).2⟩,Nat.le_trans h.hl hb.size⟩
theorem SNw.set{S:Sx}(h:SNw w lo hi g k S)(q:Addr)(u:Value)(hq:q.block<lo):SNw (w.setCell q u) lo hi g k S:=
 ⟨h.cap.set q u hq,h.rn.set q u (fun x hx=>by injection hx with hx;subst hx;have:=h.k1;simp;omega),h.lm.set q u hq,h.k1,h.k2,by obtain⟨m,j⟩:=h.ro;exact⟨m,Qbr j q u (by have:=h.k1;omega)⟩,by simpa [World.setCell] using h.hl⟩
theorem SNw.wide{lo' hi':Nat}{S:Sx}(h:SNw w lo hi g k S)(h1:lo'<=lo)(h2:hi<=hi')(h3:hi'<=w.heap.size):SNw w lo' hi' g k S:=
 ⟨h.cap.move h1 zL (fun _ _ _=>rfl),h.rn,h.lm.wide h1 h2,Nat.le_trans h1 h.k1,Nat.lt_of_lt_of_le h.k2 h2,by obtain⟨m,j⟩:=h.ro;exact⟨m,Qb2 j h1⟩,h3⟩
theorem Qog (a x:Option Addr)(c d:Nat)(S:Sx)(w:World)(hm:S.Sm)(h:SAt w a x S):
  Cl 22 #[.agg #[.slice a S.l.length c,.slice x S.n d]] w fun e w'=>∃g k,e=.returned (.agg #[.slice (some ⟨g,0,none⟩) S.l.length S.l.length,.slice (some ⟨k,0,none⟩) S.n S.n])/\ SNw w' w.heap.size w'.heap.size g k S/\ Bl w w':=
 (Qkc a c S.l x S.n d S.R S.F S.T w hm.l1 hm.p1 hm.n1 h.lf h.rn).mono fun e w' ⟨g,k,h1,⟨h2,h3⟩,h4,⟨h5,h6⟩,he,h7,h8,h9⟩=>⟨g,k,he,⟨h7,h8,h3,h4,h5,h6,Nat.le_refl _⟩,h9⟩
theorem Bx5.new (w:World)(v0 v1 v2 v3 v4:Value)(t:TypeId):Bx5 (w.alloc (.cells #[v0,v1,v2,v3,v4] t)) w.heap.size v0 v1 v2 v3 v4:=
 ⟨by simp,by simp,by simp,by simp,by simp,fun i=>by simp,by simp⟩
theorem Bx5.up(h:Bx5 w b v0 v1 v2 v3 v4)(o:Obj):Bx5 (w.alloc o) b v0 v1 v2 v3 v4:=h.bw (zO w o) h.lt
theorem QbW (id:Int)(a x a' x' b y b' y':Option Addr)(c d c' d' e f e' f':Nat)(S S':Sx)(w:World)(hm:S.Sm)(hm':S'.Sm)(h:SAt w a x S)(h':SAt w a' x' S')(k:SAt w b y S)(k':SAt w b' y' S'):
  Cl 10 #[.agg #[.int .i64 id,.slice a S.l.length c,.slice x S.n d,.slice a' S'.l.length c',.slice x' S'.n d'],.agg #[.int .i64 id,.slice b S.l.length e,.slice y S.n f,.slice b' S'.l.length e',.slice y' S'.n f']] w (Rt w (.bool true)):=by
 obtain⟨W,m⟩:=zE ((w.alloc (.cells #[.int .i64 id,.slice a S.l.length c,.slice x S.n d,.slice a' S'.l.length c',.slice x' S'.n d'] 42)).alloc (.cells #[.int .i64 id,.slice b S.l.length e,.slice y S.n f,.slice b' S'.l.length e',.slice y' S'.n f'] 42));have q:Bl w W:=by rw [<- m];exact Qae _ _ _
 have v:Bx5 W w.heap.size (.int .i64 id) (.slice a S.l.length c) (.slice x S.n d) (.slice a' S'.l.length c') (.slice x' S'.n d'):=by rw [<- m];exact(Bx5.new _ _ _ _ _ _ _).up _
 have g:Bx5 W (w.heap.size+1) (.int .i64 id) (.slice b S.l.length e) (.slice y S.n f) (.slice b' S'.l.length e') (.slice y' S'.n f'):=by
  rw [<- m];have:=Bx5.new (w.alloc (.cells #[.int .i64 id,.slice a S.l.length c,.slice x S.n d,.slice a' S'.l.length c',.slice x' S'.n d'] 42)) (.int .i64 id) (.slice b S.l.length e) (.slice y S.n f) (.slice b' S'.l.length e') (.slice y' S'.n f') 42;simpa using this
 have s:Hid (∀w1,Bl W w1 ->Cl 27 #[.agg #[.slice a S.l.length c,.slice x S.n d],.agg #[.slice b S.l.length e,.slice y S.n f]] w1 (Rt w1 (.bool true))):=hid (fun w1 hb1=>by
  have B:=Qaa q hb1;exact QgH a b c e S.l x y S.n d f S.R S.F S.T w1 hm.l1 hm.p1 hm.n1 (h.lf.bw B) (k.lf.bw B) (h.rn.bw B) (k.rn.bw B))
 have A:Hid (∀w1,Bl W w1 ->Cl 27 #[.agg #[.slice a' S'.l.length c',.slice x' S'.n d'],.agg #[.slice b' S'.l.length e',.slice y' S'.n f']] w1 (Rt w1 (.bool true))):=hid (fun w1 hb1=>by
  have B:=Qaa q hb1;exact QgH a' b' c' e' S'.l x' y' S'.n d' f' S'.R S'.F S'.T w1 hm'.l1 hm'.p1 hm'.n1 (h'.lf.bw B) (k'.lf.bw B) (h'.rn.bw B) (k'.rn.bw B))
 obtain⟨U,o,V⟩:=v.q3;obtain⟨G,H,I⟩:=g.q3;have r:=hid v;have u:=hid g;have M:=hid q;have K:(id==id)=true:=by simp
 have L:(id !=id)=false:=by simp
 clear h h' k k' q v g;go_enter Tryz.func10,Tryz.ntmps10;go_wp2_with fail;try rw [m]
 clear m;refine(s W zI).mono ?_;rintro e w1 ⟨rfl,j⟩;have z:=r.bw j r.lt;have t:=u.bw j u.lt;have Y:=z.c3;have Z:=z.c4;have i:=t.c3;have J:=t.c4;have p:=hid (A w1 j);have O:=hid (Qaa M j);clear j z t U o V G H I s A r u;go_wp2_with fail;refine p.mono ?_;rintro e N ⟨rfl,E⟩;have Q:=hid (Qaa O E);clear E Y Z i J p;go_wp2_with fail;go_ret;exact⟨rfl,Q⟩
theorem QhC (id:Int)(a x a' x':Option Addr)(c d c' d':Nat)(S S':Sx)(w:World)(hm:S.Sm)(hm':S'.Sm)(h:SAt w a x S)(h':SAt w a' x' S'):
  Cl 7 #[.agg #[.int .i64 id,.slice a S.l.length c,.slice x S.n d,.slice a' S'.l.length c',.slice x' S'.n d']] w fun e w'=>∃g k i b mid,e=.returned (.agg #[.int .i64 id,.slice (some ⟨g,0,none⟩) S.l.length S.l.length,.slice (some ⟨k,0,none⟩) S.n S.n,.slice (some ⟨i,0,none⟩) S'.l.length S'.l.length,.slice (some ⟨b,0,none⟩) S'.n S'.n])/\ SNw w' w.heap.size mid g k S/\ SNw w' mid w'.heap.size i b S'/\ Bl w w':=by
 obtain⟨W,q⟩:=zE (((w.alloc (.cells #[.int .i64 id,.slice a S.l.length c,.slice x S.n d,.slice a' S'.l.length c',.slice x' S'.n d'] 29)).alloc (.cells #[.int .i64 0,.slice none 0 0,.slice none 0 0,.slice none 0 0,.slice none 0 0] 42)).alloc (.cells #[.int .i64 0,.slice none 0 0,.slice none 0 0,.slice none 0 0,.slice none 0 0] 42));have T:Bl w W:=by rw [<- q];exact((zO _ _).alloc (by simp) _).alloc (by simp;omega) _
 have O:Bx5 W w.heap.size (.int .i64 id) (.slice a S.l.length c) (.slice x S.n d) (.slice a' S'.l.length c') (.slice x' S'.n d'):=by rw [<- q];exact((Bx5.new _ _ _ _ _ _ _).up _).up _
 have P:Bx5 W (w.heap.size+1) (.int .i64 0) (.slice none 0 0) (.slice none 0 0) (.slice none 0 0) (.slice none 0 0):=by
  rw [<- q];have:=(Bx5.new (w.alloc (.cells #[.int .i64 id,.slice a S.l.length c,.slice x S.n d,.slice a' S'.l.length c',.slice x' S'.n d'] 29)) (.int .i64 0) (.slice none 0 0) (.slice none 0 0) (.slice none 0 0) (.slice none 0 0) 42).up (.cells #[.int .i64 0,.slice none 0 0,.slice none 0 0,.slice none 0 0,.slice none 0 0] 42);simpa using this
 have A:Bx5 W (w.heap.size+1+1) (.int .i64 0) (.slice none 0 0) (.slice none 0 0) (.slice none 0 0) (.slice none 0 0):=by
  rw [<- q];have:=Bx5.new ((w.alloc (.cells #[.int .i64 id,.slice a S.l.length c,.slice x S.n d,.slice a' S'.l.length c',.slice x' S'.n d'] 29)).alloc (.cells #[.int .i64 0,.slice none 0 0,.slice none 0 0,.slice none 0 0,.slice none 0 0] 42)) (.int .i64 0) (.slice none 0 0) (.slice none 0 0) (.slice none 0 0) (.slice none 0 0) 42;simpa using this
 have zW:Hid (W.heap.size=w.heap.size+3):=hid (by rw [<- q];simp);obtain⟨u,r⟩:=zE (W.setCell ⟨w.heap.size+1+1,0,none⟩ (.int .i64 id));have Q:Bl w u:=by rw [<- r];exact T.setCell (by simp;omega) _
 have p:Bx5 u w.heap.size (.int .i64 id) (.slice a S.l.length c) (.slice x S.n d) (.slice a' S'.l.length c') (.slice x' S'.n d'):=by rw [<- r];exact O.setAt _ _ (by simp;omega)
 have R:Bx5 u (w.heap.size+1) (.int .i64 0) (.slice none 0 0) (.slice none 0 0) (.slice none 0 0) (.slice none 0 0):=by rw [<- r];exact P.setAt _ _ (by simp)
 have F:Bx5 u (w.heap.size+1+1) (.int .i64 id) (.slice none 0 0) (.slice none 0 0) (.slice none 0 0) (.slice none 0 0):=by rw [<- r];exact A.set0 _
 have z1:Hid (u.heap.size=w.heap.size+3):=hid (by rw [<- r];simp [World.setCell];exact zW);have C:=hid (Qog a x c d S u hm (h.bw Q));have D:=hid (fun t(hb:Bl w t)=>Qog a' x' c' d' S' t hm' (h'.bw hb));obtain⟨k0,U,V,Y,Z⟩:=O.q5;have M:=A.c0;have E:=A.f;have m1:=p.c1;have m2:=p.c2;have Ha:=hid Q;have H:=hid p;have N:=hid R;have J:=hid F;clear T Q O P A p R F h h';go_enter Tryz.func7,Tryz.ntmps7;go_wp2_with fail;try rw [q]
 try rw [r]
 clear q r k0 U V Y Z M E m1 m2;refine C.mono ?_;rintro e t ⟨g,k,rfl,G,y⟩;have Hl:=hid G;have Hb:=hid (Qaa Ha y);have o:=hid (H.bw y H.lt);have Hf:=hid (N.bw y N.lt);have K:=hid (J.bw y J.lt);have Hi:Hid (w.heap.size+3<=t.heap.size):=hid (by have:=y.size;have:=z1.out;omega);obtain⟨j,m⟩:=zE ((t.setCell ⟨w.heap.size+1+1,1,none⟩ (.slice (some ⟨g,0,none⟩) S.l.length S.l.length)).setCell ⟨w.heap.size+1+1,2,none⟩ (.slice (some ⟨k,0,none⟩) S.n S.n));have I:Hid (Bl w j):=hid (by rw [<- m];exact(Hb.setCell (by simp;omega) _).setCell (by simp;omega) _);have s:Hid (Bx5 j w.heap.size (.int .i64 id) (.slice a S.l.length c) (.slice x S.n d) (.slice a' S'.l.length c') (.slice x' S'.n d')):=hid (by rw [<- m];exact(o.setAt _ _ (by simp;omega)).setAt _ _ (by simp;omega));have X:Hid (Bx5 j (w.heap.size+1) (.int .i64 0) (.slice none 0 0) (.slice none 0 0) (.slice none 0 0) (.slice none 0 0)):=hid (by rw [<- m];exact(Hf.setAt _ _ (by simp)).setAt _ _ (by simp));have L:Hid (Bx5 j (w.heap.size+1+1) (.int .i64 id) (.slice (some ⟨g,0,none⟩) S.l.length S.l.length) (.slice (some ⟨k,0,none⟩) S.n S.n) (.slice none 0 0) (.slice none 0 0)):=hid (by rw [<- m];exact(K.set1 _).set2 _);have Hh:Hid (SNw j (w.heap.size+3) j.heap.size g k S):=hid (by
  rw [<- m];have h1:=(G.wide (lo':=w.heap.size+3) (hi':=t.heap.size) (by rw [z1.out];exact Nat.le_refl _) zL zL);exact((h1.set _ _ (by simp)).set _ _ (by simp)).wide zL (by simp [World.setCell]) zL)
 have Hj:Hid (w.heap.size+3<=j.heap.size):=hid (by rw [<- m];simp [World.setCell];exact Hi);have U:=o.c1;have V:=o.c2;have Y:=o.c3;have Z:=o.c4;obtain⟨M,o1,o2,E⟩:=K.p3;have m3:=s.c3;have m4:=s.c4;clear G y C;go_wp2_with fail;try rw [m]
 clear m U V Y Z M o1 o2 E m3 m4;refine(D j I).mono ?_;rintro e w4 ⟨i,b,rfl,s4,z⟩;have Hk:=hid (s.bw z s.lt);have Hg:=hid (X.bw z X.lt);have He:=hid (L.bw z L.lt);have B:=hid (Hh.bw z);have Hd:=hid s4;have Hc:=hid (Qaa I z);obtain⟨r0,r1,r2,r3,r4,fr⟩:=Hg.p5;obtain⟨M,o1,o2,o3,o4,E⟩:=He.p5;clear z s4 D;go_wp2_with fail;refine zF (v:=.agg #[.int .i64 id,.slice (some ⟨g,0,none⟩) S.l.length S.l.length,.slice (some ⟨k,0,none⟩) S.n S.n,.slice (some ⟨i,0,none⟩) S'.l.length S'.l.length,.slice (some ⟨b,0,none⟩) S'.n S'.n]) (by simp [results,Tryz.results7,go_sem,r0,r1,r2,r3,r4]) ⟨g,k,i,b,j.heap.size,rfl,?_,?_,?_⟩
 ·refine SNw.wide (lo:=w.heap.size+3) (hi:=j.heap.size) ?_ (by omega) zL (by simp [World.setCell];exact B.hl);repeat (refine SNw.set ?_ _ _ (by simp;try omega))
  exact B
 ·refine SNw.wide (lo:=j.heap.size) (hi:=w4.heap.size) ?_ zL (by simp [World.setCell]) zL;have hz:=Hj.out;repeat (refine SNw.set ?_ _ _ (by simp;omega))
  exact Hd
 ·repeat (refine Below.setCell ?_ (by simp;try omega) _)
  exact Hc
theorem QmO {α:Type}{cs:Array α}(h:cs.size=5):∃c0 c1 c2 c3 c4,cs=#[c0,c1,c2,c3,c4]:=by
 obtain⟨l⟩:=cs;match l,h with
 | [c0,c1,c2,c3,c4],_=>exact⟨c0,c1,c2,c3,c4,rfl⟩
open Go.Maps
theorem QgT:laidOutB Tryz.prog=true:=by kernel_rfl
theorem Qa1:Keyed Tryz.prog 104:=Keyed.of_law (deep_law_laid QgT (m:=3) (by omega) (of_decide_eq_true (by kernel_rfl)) (by kernel_rfl) (by kernel_rfl))
def QgF (r q:Int):Value:=.agg #[.int .i64 r,.int .i64 q]
theorem Qlf:Tryz.prog.keyType 104=true:=by kernel_rfl
theorem Qfh(hr:(Lit.int .i64 r).wf=true)(hq:(Lit.int .i64 q).wf=true):∃kl,keyOf Tryz.prog 104 (QgF r q)=some kl:=by
 unfold keyOf;rw [Tryz.underlying104];simp only [Qlf,Bool.true_and];have v:0<Tryz.prog.types.size:=of_decide_eq_true (by kernel_rfl);obtain⟨m,u⟩:∃m,Tryz.prog.types.size=m+1:=⟨Tryz.prog.types.size - 1,by omega⟩;rw [u];have j:Tryz.prog.cellsOf 104=2:=by kernel_rfl
 have k:Tryz.prog.cellsOf 3=1:=by kernel_rfl
 simp [Value.formed,QgF,Tryz.underlying104,j,Program.keyLits,Tryz.underlying3,k,Value.cells,hr,hq]
theorem Qht {r' q':Int}{kl:Lit}(h:keyOf Tryz.prog 104 (QgF r q)=some kl)(h':keyOf Tryz.prog 104 (QgF r' q')=some kl):r=r'/\ q=q':=by
 have e:=Qa1.inj h h';simpa [QgF] using e
structure Qjj (w:World)(bm k:Nat)(l:List Lf)(D:DataW Value):Prop where
 own:w.ownsMap Tryz.prog 104 (plainElem Tryz.prog 3) bm k D
 tidy:Tidy D
 has':∀r q kl,keyOf Tryz.prog 104 (QgF r q)=some kl ->(has D kl=true↔∃j,j<k/\ (gL l j).r=r/\ (gL l j).q=q)
 le:size D<=k
 eq:size D=k↔∀i,i<k ->∀j,j<i ->¬((gL l j).r=(gL l i).r/\ (gL l j).q=(gL l i).q)
theorem Qjj.step{D:DataW Value}{kl:Lit}{d:DataW Value}(h:Qjj w bm k l D)(hk:keyOf Tryz.prog 104 (QgF (gL l k).r (gL l k).q)=some kl)
  (ho:w'.ownsMap Tryz.prog 104 (plainElem Tryz.prog 3) bm (k+1) (D.put kl d)):Qjj w' bm (k+1) l (D.put kl d):=by
 have y:=Qa1.key hk;have z:=size_put (k:=kl) h.tidy d;have v:=h.has' _ _ _ hk;refine⟨ho,h.tidy.put y d,fun r q kl' hk'=> ?_,?_,?_⟩
 ·by_cases e:kl'=kl
  ·subst e;obtain⟨g,t⟩:=Qht hk hk';rw [has_put_same h.tidy.isMap y];exact⟨fun _=>⟨k,by omega,g,t⟩,fun _=>rfl⟩
  ·rw [has_put_other e,h.has' r q kl' hk'];constructor
   ·rintro⟨j,m,r1⟩;exact⟨j,by omega,r1⟩
   ·rintro⟨j,m,r1,r2⟩;by_cases b:j=k
    ·subst b;rw [r1,r2,hk'] at hk;injection hk with hk;exact absurd hk e
    ·exact⟨j,by omega,r1,r2⟩
 ·rw [z];have:=h.le;split<;>omega
 ·rw [z];have s:=h.le;by_cases u:has D kl=true
  ·rw [if_pos u];obtain⟨j,m,r1,r2⟩:=v.1 u;constructor
   ·intro e;omega
   ·intro e;exact absurd ⟨r1,r2⟩ (e k (by omega) j m)
  ·rw [if_neg u];have p:=fun j m r1 r2=>u (v.2 ⟨j,m,r1,r2⟩);constructor
   ·intro e i hi j m;by_cases o:i=k
    ·subst o;exact fun q=>p j m q.1 q.2
    ·exact h.eq.1 (by omega) i (by omega) j m
   ·intro e;have:=h.eq.2 (fun i hi j m=>e i (by omega) j m);omega
theorem Qjj.made (w:World)(l:List Lf):Qjj (w.alloc (.map #[] 0)) w.heap.size 0 l (.map []):=
 ⟨World.ownsMap_made w _ _ _,tidy_empty,fun r q kl hk=>⟨fun h=>by simp [has] at h,fun⟨j,hj,_⟩=>by omega⟩,by simp [size],⟨fun _ i hi=>by omega,fun _=>rfl⟩⟩
def QhK (v:Value):Option (DataW Value×List MemPlace):=some (.held v,[])
theorem Qeq{d:DataW Value}{ps:List MemPlace}(h:QhK v=some (d,ps)):d=.held v:=by
 unfold QhK at h;simp at h;exact h.1.symm
abbrev Ky:=ByteArray×Int
abbrev Dt:=Int×Int
def Qa5 (x:Ky):Value:=.agg #[.string x.1,.int .i64 x.2]
def dtV (d:Dt):Value:=QgF d.1 d.2
def Qb1:Option ByteArray ->Value
 | none=> .agg #[.string ByteArray.empty]
 | some s=> .agg #[.string s]
def QaQ:Option (Nat×Nat) ->Value
 | none=> .agg #[.map none,.map none]
 | some x=> .agg #[.map (some x.1),.map (some x.2)]
theorem QaZ {x y:Ky}(h:Qa5 x=Qa5 y):x=y:=by
 obtain⟨a,b⟩:=x;obtain⟨c,d⟩:=y;simpa [Qa5] using h
theorem Qco {x y:Dt}(h:dtV x=dtV y):x=y:=by
 obtain⟨a,b⟩:=x;obtain⟨c,d⟩:=y;simpa [dtV,QgF] using h
theorem Qas:Keyed Tryz.prog 208:=Keyed.of_law (deep_law_laid QgT (m:=3) (by omega) (of_decide_eq_true (by kernel_rfl)) (by kernel_rfl) (by kernel_rfl))
theorem QmI:Tryz.prog.keyType 208=true:=by kernel_rfl
theorem QgN{k:Int}(hs:s.size<=maxLen)(hk:(Lit.int .i64 k).wf=true):∃kl,keyOf Tryz.prog 208 (Qa5 (s,k))=some kl:=by
 unfold keyOf;rw [Tryz.underlying208];simp only [QmI,Bool.true_and];have v:0<Tryz.prog.types.size:=of_decide_eq_true (by kernel_rfl);obtain⟨m,u⟩:∃m,Tryz.prog.types.size=m+1:=⟨Tryz.prog.types.size - 1,by omega⟩;rw [u];have j:Tryz.prog.cellsOf 208=2:=by kernel_rfl
 have q:Tryz.prog.cellsOf 3=1:=by kernel_rfl
 have r:Tryz.prog.cellsOf 9=1:=by kernel_rfl
 simp [Value.formed,Qa5,Tryz.underlying208,j,Program.keyLits,Tryz.underlying3,Tryz.underlying9,q,r,Value.cells,hs,hk]
structure FM {α β:Type}(w:World)(t:TypeId)(kv:α ->Value)(vo:Option β ->Value)(b c:Nat)(f:α ->Option β)(D:DataW Value):Prop where
 own:w.ownsMap Tryz.prog t QhK b c D
 at':∀x kl,keyOf Tryz.prog t (kv x)=some kl ->has D kl=(f x).isSome/\ D.atKey kl (.held (vo none))=.held (vo (f x))
 cov:∀kl,has D kl=true ->∃x,keyOf Tryz.prog t (kv x)=some kl
 ok:∀x,f x≠none ->∃kl,keyOf Tryz.prog t (kv x)=some kl
def Qa3 {α β:Type}(w:World)(t:TypeId)(kv:α ->Value)(vo:Option β ->Value)(b c:Nat)(f:α ->Option β):Prop:=∃D,FM w t kv vo b c f D
section
variable {α β : Type} {w : World} {t : TypeId} {kv : α -> Value} {vo : Option β -> Value} {b c : Nat} {f : α -> Option β}
theorem QeF {w w':World}{k:TypeId}{R:Value ->Option (DataW Value×List MemPlace)}{b n:Nat}{D:DataW Value}(h:w.ownsMap Tryz.prog k R b n D)(e:w'.heap[b]? =w.heap[b]?):w'.ownsMap Tryz.prog k R b n D:=by
 obtain⟨m,j,q,r⟩:=h;exact⟨m,j,e.trans q,r⟩
theorem Qa3.same {w':World}(h:Qa3 w t kv vo b c f)(e:w'.heap[b]? =w.heap[b]?):Qa3 w' t kv vo b c f:=by
 obtain⟨D,h⟩:=h;exact⟨D,QeF h.own e,h.at',h.cov,h.ok⟩
theorem Qa3.mono {c':Nat}(h:Qa3 w t kv vo b c f)(hc:c<=c'):Qa3 w t kv vo b c' f:=by
 obtain⟨D,h⟩:=h;exact⟨D,h.own.mono hc,h.at',h.cov,h.ok⟩
theorem Qa3.lt (h:Qa3 w t kv vo b c f):b<w.heap.size:=by
 obtain⟨D,h⟩:=h;exact h.own.lt
theorem Qa3.obj (h:Qa3 w t kv vo b c f):∃k j,w.heap[b]? =some (.map k j):=by
 obtain⟨D,h⟩:=h;obtain⟨k,j,m,_⟩:=h.own;exact⟨k,j,m⟩
theorem Qa3.ext {g:α ->Option β}(h:Qa3 w t kv vo b c f)(e:∀x,f x=g x):Qa3 w t kv vo b c g:=by
 obtain rfl:f=g:=funext e;exact h
theorem Qa3.look {mt e:TypeId}(h:Qa3 w t kv vo b c f)(K:Keyed Tryz.prog t)(ht:Tryz.prog.underlying mt=some (.map t e))(hz:(zeroValue e).run Tryz.prog w=.ok (vo none) w){x:α}{kl:Lit}(hk:keyOf Tryz.prog t (kv x)=some kl):
  (Instr.lookup mt (.map (some b)) (kv x) false).run Tryz.prog w=.ok (vo (f x)) w:=by
 obtain⟨D,h⟩:=h;obtain⟨v,ps,j,k⟩:=h.own.lookup K ht hz (zd:=.held (vo none)) (zp:=[]) rfl hk;have:=Qeq k;rw [(h.at' x kl hk).2] at this;injection this with this;rw [<- this] at j;exact j
theorem Qa3.look_ok {mt e:TypeId}(h:Qa3 w t kv vo b c f)(K:Keyed Tryz.prog t)(ht:Tryz.prog.underlying mt=some (.map t e))(hz:(zeroValue e).run Tryz.prog w=.ok (vo none) w){x:α}{kl:Lit}(hk:keyOf Tryz.prog t (kv x)=some kl):
  (Instr.lookup mt (.map (some b)) (kv x) true).run Tryz.prog w=.ok (.tuple #[vo (f x),.bool (f x).isSome]) w:=by
 obtain⟨D,h⟩:=h;obtain⟨v,ps,j,k⟩:=h.own.look_ok K ht hz (zd:=.held (vo none)) (zp:=[]) rfl hk;have:=Qeq k;rw [(h.at' x kl hk).2] at this;injection this with this;rw [<- this,(h.at' x kl hk).1] at j;exact j
theorem Qa3.made (w:World)(t:TypeId)(kv:α ->Value)(vo:Option β ->Value):Qa3 (w.alloc (.map #[] 0)) t kv vo w.heap.size 0 (fun _=>none):=
 ⟨.map [],World.ownsMap_made w _ _ _,fun x kl _=>⟨by simp [has],rfl⟩,fun kl h=>by simp [has] at h,fun x h=>absurd rfl h⟩
open Classical in
noncomputable def QcI {α β:Type}(f:α ->Option β)(x:α)(v:Option β)(y:α):Option β:=if y=x then v else f y
theorem Qau (f:α ->Option β)(x:α)(v:Option β):QcI f x v x=v:=by unfold QcI;simp
theorem Qam (f:α ->Option β){x y:α}(v:Option β)(h:y≠x):QcI f x v y=f y:=by unfold QcI;simp [h]
theorem Qa3.store {mt e:TypeId}(h:Qa3 w t kv vo b c f)(K:Keyed Tryz.prog t)(hi:∀x y,kv x=kv y ->x=y)(ht:Tryz.prog.underlying mt=some (.map t e))(hc:c<maxLen){x:α}{y:β}{kl:Lit}(hk:keyOf Tryz.prog t (kv x)=some kl):
  ∃w',(Instr.mapUpdate mt (.map (some b)) (kv x) (vo (some y))).run Tryz.prog w=.ok () w'/\ Qa3 w' t kv vo b (c+1) (QcI f x (some y))/\ w.grownBy w' (some b):=by
 obtain⟨D,h⟩:=h;obtain⟨w',u,r,q⟩:=h.own.update K ht hc hk (val:=vo (some y)) (d:=.held (vo (some y))) (ps:=[]) rfl;have m:=K.key hk;refine⟨w',u,⟨_,r,fun x' kl' hk'=> ?_,fun kl' hh=> ?_,fun x' hx'=> ?_⟩,q⟩
 ·by_cases j:x'=x
  ·subst j;rw [hk] at hk';injection hk' with hk';subst hk';rw [Qau,has_put_same h.own.isMap m,atKey_put_same h.own.isMap m];exact⟨rfl,rfl⟩
  ·have k:kl'≠kl:=fun e=>j (hi _ _ (K.inj (e ▸ hk') hk));rw [Qam _ _ j,has_put_other k,atKey_put_other k];exact h.at' x' kl' hk'
 ·by_cases k:kl'=kl
  ·subst k;exact⟨x,hk⟩
  ·rw [has_put_other k] at hh;exact h.cov kl' hh
 ·by_cases j:x'=x
  ·subst j;exact⟨kl,hk⟩
  ·rw [Qam _ _ j] at hx';exact h.ok x' hx'
theorem Qa3.len {mt e:TypeId}(h:Qa3 w t kv vo b c f)(K:Keyed Tryz.prog t)(ht:Tryz.prog.underlying mt=some (.map t e)):∃n:Nat,(∀ty,(Builtin.len_ #[mt] ty #[.map (some b)]).run Tryz.prog w=.ok (.int .i64 n) w)/\ n<=c/\ (0<n↔∃x,f x≠none):=by
 obtain⟨D,h⟩:=h;refine⟨Maps.size D,fun ty=>h.own.len ht ty,h.own.size_le,?_⟩;obtain⟨q,rfl⟩:=h.own.isMap;constructor
 ·intro v;have z:∃k,has (DataW.map q) k=true:=by
   cases q with
   | nil=>simp [Maps.size] at v
   | cons p r=>
    obtain⟨o,u,_,j⟩:=h.own.entries K;have g:WideAt.IsKeyLit p.1:=j p (by injection u with u;rw [<- u];simp);refine⟨p.1,?_⟩;rw [has_eq];simp only [List.any_cons,Bool.or_eq_true];exact .inl (WideAt.sameKey_self g)
  obtain⟨k,j⟩:=z;obtain⟨x,m⟩:=h.cov k j;refine⟨x,fun e=> ?_⟩;have:=(h.at' x k m).1;rw [j,e] at this;cases this
 ·rintro⟨x,m⟩;obtain⟨k,j⟩:=h.ok x m;have:=(h.at' x k j).1;cases q with
  | nil=>cases e:f x with
   | none=>exact absurd e m
   | some y=>rw [e] at this;simp [has] at this
  | cons p r=>simp [Maps.size]
end
def Qac (p:List ByteArray)(k:Int):List Ky:=(List.range p.length).map fun i=>(gS p i,if i+1<p.length then 3 else k)
theorem Qav (p:List ByteArray)(k:Int):(Qac p k).length=p.length:=by simp [Qac]
theorem QaO{k:Int}(h:i<p.length):(Qac p k)[i]? =some (gS p i,if i+1<p.length then 3 else k):=by simp [Qac,h]
theorem Qcf{k:Int}(h:i<p.length):(Qac p k).take (i+1)=(Qac p k).take i++[(gS p i,if i+1<p.length then 3 else k)]:=by
 have j:i<(Qac p k).length:=by rw [Qav];exact h
 rw [List.take_add_one,QaO h];rfl
theorem Qil {q:List ByteArray}(hl:p.length=q.length)(h:∀i,i<p.length ->gS p i=gS q i):p=q:=by
 refine List.ext_getElem hl fun i h1 h2=> ?_;have:=h i h1;simpa [gS,List.getD,h1,h2] using this
theorem QdM {q:List ByteArray}{k j:Int}(h:Qac p k=Qac q j)(h0:0<p.length):p=q/\ k=j:=by
 have r:p.length=q.length:=by have:=congrArg List.length h;simpa [Qav] using this
 have m:∀i,i<p.length ->(gS p i,if i+1<p.length then 3 else k)=(gS q i,if i+1<q.length then(3:Int) else j):=fun i hi=>by
  have:=QaO (k:=k) hi;rw [h,QaO (by omega)] at this;injection this with this;exact this.symm
 refine⟨Qil r fun i hi=>(Prod.mk.inj (m i hi)).1,?_⟩;have:=(Prod.mk.inj (m (p.length - 1) (by omega))).2;rw [if_neg (by omega),if_neg (by omega)] at this;exact this
theorem Qhk {α:Type}{l:List α}{x:α}{q:List α}(h:l.take (k+1)=l.take k++[x]):q <+:l.take (k+1)↔q <+:l.take k \/q=l.take k++[x]:=by
 rw [h];constructor
 ·intro j;rcases List.prefix_concat_iff.1 j with e|e
  ·exact .inr e
  ·exact .inl e
 ·rintro(e|e)
  ·exact e.trans (List.prefix_append _ _)
  ·rw [e];exact List.prefix_refl _
structure Tre (w:World)(B:Nat)(N:List Ky ->Option (Nat×Nat))(M:List Ky ->Dt ->Option ByteArray)(c:Nat):Prop where
 kids:∀p x,N p=some x ->Qa3 w 208 Qa5 QaQ x.1 c (fun y=>N (p++[y]))
 marks:∀p x,N p=some x ->Qa3 w 104 dtV Qb1 x.2 c (M p)
 apart:∀p q x y,N p=some x ->N q=some y ->x.1≠y.2/\ (x.1=y.1 ->p=q)/\ (x.2=y.2 ->p=q)
 lo:∀p x,N p=some x ->B<=x.1/\ B<=x.2
 none':∀p,N p=none ->M p=fun _=>none
 up:∀p y,N p=none ->N (p++[y])=none
section
variable {w w' : World} {B c : Nat} {N : List Ky -> Option (Nat × Nat)} {M : List Ky -> Dt -> Option ByteArray}
theorem Tre.same (h:Tre w B N M c)(hs:∀p x,N p=some x ->w'.heap[x.1]? =w.heap[x.1]? /\ w'.heap[x.2]? =w.heap[x.2]?):Tre w' B N M c:=
 ⟨fun p x hx=>(h.kids p x hx).same (hs p x hx).1,fun p x hx=>(h.marks p x hx).same (hs p x hx).2,h.apart,h.lo,h.none',h.up⟩
theorem Tre.lt (h:Tre w B N M c){p:List Ky}{x:Nat×Nat}(hx:N p=some x):x.1<w.heap.size/\ x.2<w.heap.size:=⟨(h.kids p x hx).lt,(h.marks p x hx).lt⟩
theorem Tre.bw (h:Tre w B N M c)(hb:Bl w w'):Tre w' B N M c:=h.same fun p x hx=>⟨hb.block _ (h.lt hx).1,hb.block _ (h.lt hx).2⟩
theorem Tre.mono {c':Nat}(h:Tre w B N M c)(hc:c<=c'):Tre w B N M c':=⟨fun p x hx=>(h.kids p x hx).mono hc,fun p x hx=>(h.marks p x hx).mono hc,h.apart,h.lo,h.none',h.up⟩
theorem Qdf {w:World}{q:Addr}{v:Value}(h:w.cell? q=some v):∀k j,w.heap[q.block]? ≠some (.map k j):=by
 intro k j e;simp [World.cell?,e] at h
theorem Tre.set (h:Tre w B N M c){q:Addr}{v:Value}(u:Value)(hc:w.cell? q=some v):Tre (w.setCell q u) B N M c:=by
 refine h.same fun p x hx=>⟨zH _ _ _ _ fun e=> ?_,zH _ _ _ _ fun e=> ?_⟩
 ·obtain⟨m,k,j⟩:=(h.kids p x hx).obj;rw [e] at j;exact Qdf hc _ _ j
 ·obtain⟨m,k,j⟩:=(h.marks p x hx).obj;rw [e] at j;exact Qdf hc _ _ j
structure Gt (B:Nat)(w w':World):Prop where
 os:w'.os=w.os
 tape:w'.tape=w.tape
 output:w'.output=w.output
 size:w.heap.size<=w'.heap.size
 block:∀g,g<w.heap.size ->(g<B \/∀es cl,w.heap[g]? ≠some (.map es cl)) ->w'.heap[g]? =w.heap[g]?
theorem Gt.refl (B:Nat)(w:World):Gt B w w:=⟨rfl,rfl,rfl,Nat.le_refl _,fun _ _ _=>rfl⟩
theorem Gt.trans {a b d:World}(h:Gt B a b)(k:Gt B b d):Gt B a d:=
 ⟨k.os.trans h.os,k.tape.trans h.tape,k.output.trans h.output,Nat.le_trans h.size k.size,fun g hg ho=>by
  have e:=h.block g hg ho;exact(k.block g (Nat.lt_of_lt_of_le hg h.size) (ho.imp id fun hn es cl=>by rw [e];exact hn es cl)).trans e⟩
theorem Gt.of_below (h:Bl w w'):Gt B w w':=⟨h.os,h.tape,h.output,h.size,fun g hg _=>h.block g hg⟩
theorem Gt.bw (h:Gt B w w')(hB:B<=w.heap.size):Below B w w':=⟨h.os,h.tape,h.output,h.size,fun g hg=>h.block g (by omega) (.inl hg)⟩
theorem Gt.cell (h:Gt B w w'){q:Addr}{v:Value}(hc:w.cell? q=some v):w'.cell? q=some v:=
 (World.cell?_of_block (h.block q.block (block_lt_of_cell hc) (.inr (Qdf hc)))).trans hc
theorem Gt.frozen (h:Gt B w w'){q r:Addr}{v:Value}(hc:w.cell? r=some v)(hr:r.block=q.block):w'.frozen? q=w.frozen? q:=
 World.frozen?_of_block (by rw [<- hr];exact h.block r.block (block_lt_of_cell hc) (.inr (Qdf hc)))
theorem Gt.grown {b:Nat}(hg:w.grownBy w' (some b))(hB:B<=b)(k:∃q m,w.heap[b]? =some (.map q m)):Gt B w w':=
 ⟨hg.os,hg.tape,hg.output,hg.size,fun g h1 j=>hg.block g h1 fun e=>by
  injection e with e;subst e;obtain⟨q,m,k⟩:=k;rcases j with j|j
  ·omega
  ·exact j _ _ k⟩
theorem Tre.add {p:List Ky}{y:Ky}{x:Nat×Nat}{s s':Nat}(h:Tre w B N M c)(hN:N p=some x)(hn:N (p++[y])=none)(hk:Qa3 w 208 (α:=Ky) Qa5 QaQ s 0 (fun _=>none))(hm:Qa3 w 104 (α:=Dt) dtV Qb1 s' 0 (fun _=>none))(hss:s≠s')
  (hs:∀p x,N p=some x ->x.1<s/\ x.2<s/\ x.1<s'/\ x.2<s') (hB:B<=s/\ B<=s')
  (hu:Qa3 w' 208 Qa5 QaQ x.1 (c+1) (QcI (fun z=>N (p++[z])) y (some (s,s')))) (hg:w.grownBy w' (some x.1)):Tre w' B (QcI N (p++[y]) (some (s,s'))) M (c+1):=by
 have b:∀q z,q≠p ->q++[z]≠p++[y]:=fun q z hq e=>hq (List.append_inj' e rfl).1;have t:∀g,g<w.heap.size ->g≠x.1 ->w'.heap[g]? =w.heap[g]? :=fun g h1 h2=>hg.block g h1 (fun e=>h2 (by injection e));have A:=hs p x hN;refine⟨fun q z hz=> ?_,fun q z hz=> ?_,fun q r u v hu' hv=> ?_,fun q z hz=> ?_,fun q hq=> ?_,fun q z hq=> ?_⟩
 ·by_cases e:q=p++[y]
  ·subst e;rw [Qau] at hz;injection hz with hz;subst hz;refine((hk.same (t _ hk.lt (by simp;omega))).mono (Nat.zero_le _)).ext fun z=> ?_;rw [Qam _ _ (by intro e;have:=congrArg List.length e;simp at this)];exact(h.up _ z hn).symm
  ·rw [Qam _ _ e] at hz;by_cases j:q=p
   ·subst j;rw [hN] at hz;injection hz with hz;subst hz;refine hu.ext fun z=> ?_;by_cases k:z=y
    ·subst k;rw [Qau,Qau]
    ·rw [Qam _ _ k,Qam _ _ (fun e=>k (by simpa using e))]
   ·have o:=h.kids q z hz;refine((o.same (t _ o.lt fun k=>j ((h.apart q p z x hz hN).2.1 k))).mono (Nat.le_succ _)).ext fun z=> ?_;rw [Qam _ _ (b q z j)]
 ·by_cases e:q=p++[y]
  ·subst e;rw [Qau] at hz;injection hz with hz;subst hz;refine((hm.same (t _ hm.lt (by simp;omega))).mono (Nat.zero_le _)).ext fun z=> ?_;rw [h.none' _ hn]
  ·rw [Qam _ _ e] at hz;have i:=h.marks q z hz;exact(i.same (t _ i.lt fun k=>(h.apart p q x z hN hz).1 k.symm)).mono (Nat.le_succ _)
 ·by_cases e:q=p++[y]
  ·by_cases m:r=p++[y]
   ·subst e;subst m;rw [Qau] at hu' hv;injection hu' with hu';injection hv with hv;subst hu';subst hv;exact⟨hss,fun _=>rfl,fun _=>rfl⟩
   ·subst e;rw [Qau] at hu';rw [Qam _ _ m] at hv;injection hu' with hu';subst hu';have:=hs r v hv;exact⟨by simp;omega,fun e=>by simp at e;omega,fun e=>by simp at e;omega⟩
  ·rw [Qam _ _ e] at hu';by_cases m:r=p++[y]
   ·subst m;rw [Qau] at hv;injection hv with hv;subst hv;have:=hs q u hu';exact⟨by simp;omega,fun e=>by simp at e;omega,fun e=>by simp at e;omega⟩
   ·rw [Qam _ _ m] at hv;exact h.apart q r u v hu' hv
 ·by_cases e:q=p++[y]
  ·subst e;rw [Qau] at hz;injection hz with hz;subst hz;exact hB
  ·rw [Qam _ _ e] at hz;exact h.lo q z hz
 ·by_cases e:q=p++[y]
  ·subst e;rw [Qau] at hq;cases hq
  ·rw [Qam _ _ e] at hq;exact h.none' q hq
 ·by_cases e:q=p++[y]
  ·subst e;rw [Qau] at hq;cases hq
  ·rw [Qam _ _ e] at hq;have j:q≠p:=fun j=>by subst j;rw [hN] at hq;cases hq
   rw [Qam _ _ (b q z j)];exact h.up q z hq
noncomputable def Qkf (M:List Ky ->Dt ->Option ByteArray)(p:List Ky)(d:Dt)(s:ByteArray)(q:List Ky):Dt ->Option ByteArray:=if yes (q=p)=true then QcI (M p) d (some s) else M q
theorem QdL (M:List Ky ->Dt ->Option ByteArray)(p:List Ky)(d:Dt)(s:ByteArray):Qkf M p d s p=QcI (M p) d (some s):=by unfold Qkf;rw [if_pos (Qah rfl)]
theorem Qce (M:List Ky ->Dt ->Option ByteArray){p q:List Ky}(d:Dt)(s:ByteArray)(h:q≠p):Qkf M p d s q=M q:=by unfold Qkf;rw [if_neg (by rw [Qaf h];simp)]
theorem Tre.mark {p:List Ky}{x:Nat×Nat}{d:Dt}{s:ByteArray}(h:Tre w B N M c)(hN:N p=some x)
  (hu:Qa3 w' 104 dtV Qb1 x.2 (c+1) (QcI (M p) d (some s))) (hg:w.grownBy w' (some x.2)):Tre w' B N (Qkf M p d s) (c+1):=by
 have j:∀g,g<w.heap.size ->g≠x.2 ->w'.heap[g]? =w.heap[g]? :=fun g h1 h2=>hg.block g h1 (fun e=>h2 (by injection e));refine⟨fun q z hz=> ?_,fun q z hz=> ?_,h.apart,h.lo,fun q hq=> ?_,h.up⟩
 ·exact((h.kids q z hz).same (j _ (h.lt hz).1 (h.apart q p z x hz hN).1)).mono (Nat.le_succ _)
 ·by_cases e:q=p
  ·subst e;rw [hN] at hz;injection hz with hz;subst hz;rw [QdL];exact hu
  ·rw [Qce _ _ _ e];exact((h.marks q z hz).same (j _ (h.lt hz).2 fun e2=>e ((h.apart q p z x hz hN).2.2 e2))).mono (Nat.le_succ _)
 ·have e:q≠p:=fun e=>by subst e;rw [hN] at hq;cases hq
  rw [Qce _ _ _ e];exact h.none' q hq
end
theorem Qaw.gt(h:Qaw w a p)(hg:Gt B w w1):Qaw w1 a p:=by
 refine h.imp id ?_;rintro⟨b,m,e,k,j⟩;exact⟨b,m,e,Nat.lt_of_lt_of_le k hg.size,fun i hi=>hg.cell (j i hi)⟩
theorem QbD.gt(h:QbD w a l)(hg:Gt B w w1):QbD w1 a l:=by
 refine h.imp id ?_;rintro⟨b,y,e,v,u⟩;refine⟨b,y,e,Nat.lt_of_lt_of_le v hg.size,fun i hi=> ?_⟩;obtain⟨z,pc,j,s,k,m,q,r⟩:=u i hi;exact⟨z,pc,hg.cell j,s.gt hg,hg.cell k,hg.cell m,hg.cell q,hg.cell r⟩
def Qar (p:List ByteArray)(k:Int)(i:Nat):Ky:=(gS p i,if i+1<p.length then 3 else k)
theorem QgO (p:List ByteArray)(a:Option Addr)(c:Nat)(k:Int)(i:Nat)(w:World)(hp:p.length<=1048576)(hi:i<p.length)(h:Qaw w a p):
  Cl 153 #[.slice a p.length c,.int .i64 i,.int .i64 k] w (Rt w (Qa5 (Qar p k i))):=by
 rcases h with h|⟨b,M,rfl,t,y⟩
 ·omega
 have x0:=y i hi;have A:(0:Int)<=(i:Int):=Int.natCast_nonneg _;have E:(i:Int)<(p.length:Int):=by omega
 obtain⟨s,u⟩:=zE (gS p i);rw [u] at x0;have j:Hid (Qar p k i=(s,if i+1<p.length then 3 else k)):=hid (by unfold Qar;rw [u]);obtain⟨m,z⟩:∃m:Nat,p.length=m+1:=⟨p.length - 1,by omega⟩;have o:IntKind.i64.wrap ((p.length:Int) - 1)=(m:Int):=by rw [IntKind.wrap_i64];omega
 clear u y;by_cases q:i+1<p.length
 ·have g:decide (i<m)=true:=by simp;omega
  have r:=hid (show Qar p k i=(s,3) by rw [j.out,if_pos q]);clear j q z;go_enter Tryz.func153,Tryz.ntmps153;go_wp2_with fail;refine zF (v:=.agg #[.string s,.int .i64 3]) (by simp [results,Tryz.results153,go_sem]) ⟨by rw [r.out];rfl,?_⟩;exact zO _ _
 ·have g:decide (i<m)=false:=by simp;omega
  have r:=hid (show Qar p k i=(s,k) by rw [j.out,if_neg q]);clear j q z;go_enter Tryz.func153,Tryz.ntmps153;go_wp2_with fail;refine zF (v:=.agg #[.string s,.int .i64 k]) (by simp [results,Tryz.results153,go_sem]) ⟨by rw [r.out];rfl,?_⟩;exact zO _ _
theorem Qd7 (w:World):
  Cl 126 #[] w fun e w'=>∃s s',e=.returned (.agg #[.map (some s),.map (some s')])/\ s≠s'/\ w.heap.size<=s/\ w.heap.size<=s'/\ Qa3 w' 208 (α:=Ky) Qa5 QaQ s 0 (fun _=>none)/\ Qa3 w' 104 (α:=Dt) dtV Qb1 s' 0 (fun _=>none)/\ Bl w w':=by
 have m:=@run_makeMap Tryz.prog;have j:=hid ((Qa3.made (α:=Ky) (w.alloc (.cells #[.map (some (w.heap.size+1)),.map (some (w.heap.size+1+1))] 156)) 208 Qa5 QaQ).same (w':=(((w.alloc (.cells #[.map (some (w.heap.size+1)),.map (some (w.heap.size+1+1))] 156)).alloc (.map #[] 0)).alloc (.map #[] 0))) (Below.heap_alloc _ _ _ (by simp)));have k:=hid (Qa3.made (α:=Dt) ((w.alloc (.cells #[.map (some (w.heap.size+1)),.map (some (w.heap.size+1+1))] 156)).alloc (.map #[] 0)) 104 dtV Qb1);go_enter Tryz.func126,Tryz.ntmps126;go_wp2_with fail;refine zF (v:=.agg #[.map (some (w.heap.size+1)),.map (some (w.heap.size+1+1))]) (by simp [results,Tryz.results126,go_sem]) ⟨_,_,rfl,by omega,by omega,by omega,by simpa using j.out,by simpa using k.out,?_⟩;exact((zO _ _).alloc (by simp) _).alloc (by simp;omega) _
structure Bx2 (w:World)(b:Nat)(v0 v1:Value):Prop where
 c0:w.cell? ⟨b,0,none⟩=some v0
 c1:w.cell? ⟨b,1,none⟩=some v1
 f:∀i,w.frozen? ⟨b,i,none⟩=false
 lt:b<w.heap.size
theorem Bx2.q2(h:Bx2 w b v0 v1):w.cell? ⟨b,0,none⟩=some v0/\ w.cell? ⟨b,1,none⟩=some v1:=⟨h.c0,h.c1⟩
theorem Bx2.p2(h:Bx2 w b v0 v1):w.cell? ⟨b,0,none⟩=some v0/\ w.cell? ⟨b,1,none⟩=some v1/\ ∀i,w.frozen? ⟨b,i,none⟩=false:=⟨h.c0,h.c1,h.f⟩
theorem Bx2.bw(h:Bx2 w b v0 v1)(hb:Below B w w')(hB:b<B):Bx2 w' b v0 v1:=
 ⟨(hb.cell (p:=⟨b,0,none⟩) hB).trans h.c0,(hb.cell (p:=⟨b,1,none⟩) hB).trans h.c1,fun i=>(hb.frozen (p:=⟨b,i,none⟩) hB).trans (h.f i),Nat.lt_of_lt_of_le h.lt hb.size⟩
theorem Bx2.gt(h:Bx2 w b v0 v1)(hg:Gt B w w'):Bx2 w' b v0 v1:=
 ⟨hg.cell h.c0,hg.cell h.c1,fun i=>(hg.frozen (q:=⟨b,i,none⟩) h.c0 rfl).trans (h.f i),Nat.lt_of_lt_of_le h.lt hg.size⟩
theorem Bx2.setAt(h:Bx2 w b v0 v1)(q:Addr)(u:Value)(hq:q.block≠b):Bx2 (w.setCell q u) b v0 v1:=
 ⟨by rw [World.cell?_setCell_far _ _ _ _ hq];exact h.c0,by rw [World.cell?_setCell_far _ _ _ _ hq];exact h.c1,fun i=>by rw [World.frozen?_setCell];exact h.f i,by simp [World.setCell];exact h.lt⟩
theorem Bx2.set0(h:Bx2 w b v0 v1)(u:Value):Bx2 (w.setCell ⟨b,0,none⟩ u) b u v1:=
 ⟨World.cell?_setCell_same _ _ _ h.c0,by simp [World.cell?_setCell_other,h.c1],fun i=>by rw [World.frozen?_setCell];exact h.f i,by simp [World.setCell];exact h.lt⟩
theorem Bx2.set1(h:Bx2 w b v0 v1)(u:Value):Bx2 (w.setCell ⟨b,1,none⟩ u) b v0 u:=
 ⟨by simp [World.cell?_setCell_other,h.c0],World.cell?_setCell_same _ _ _ h.c1,fun i=>by rw [World.frozen?_setCell];exact h.f i,by simp [World.setCell];exact h.lt⟩
theorem Bx2.set(h:Bx2 w b v0 v1)(u u':Value):Bx2 ((w.setCell ⟨b,0,none⟩ u).setCell ⟨b,1,none⟩ u') b u u':=(h.set0 u).set1 u'
theorem Bx2.made (w:World)(v0 v1:Value)(t:TypeId):Bx2 (w.alloc (.cells #[v0,v1] t)) w.heap.size v0 v1:=⟨by simp,by simp,fun i=>by simp,by simp⟩
theorem Bx2.allocs(h:Bx2 w b v0 v1)(o:Obj):Bx2 (w.alloc o) b v0 v1:=h.bw (zO _ o) h.lt
structure Bx1 (w:World)(b:Nat)(v0:Value):Prop where
 c0:w.cell? ⟨b,0,none⟩=some v0
 f:∀i,w.frozen? ⟨b,i,none⟩=false
 lt:b<w.heap.size
theorem Bx1.bw(h:Bx1 w b v0)(hb:Below B w w')(hB:b<B):Bx1 w' b v0:=
 ⟨(hb.cell (p:=⟨b,0,none⟩) hB).trans h.c0,fun i=>(hb.frozen (p:=⟨b,i,none⟩) hB).trans (h.f i),Nat.lt_of_lt_of_le h.lt hb.size⟩
theorem Bx1.gt(h:Bx1 w b v0)(hg:Gt B w w'):Bx1 w' b v0:=
 ⟨hg.cell h.c0,fun i=>(hg.frozen (q:=⟨b,i,none⟩) h.c0 rfl).trans (h.f i),Nat.lt_of_lt_of_le h.lt hg.size⟩
theorem Bx1.setAt(h:Bx1 w b v0)(q:Addr)(u:Value)(hq:q.block≠b):Bx1 (w.setCell q u) b v0:=
 ⟨by rw [World.cell?_setCell_far _ _ _ _ hq];exact h.c0,fun i=>by rw [World.frozen?_setCell];exact h.f i,by simp [World.setCell];exact h.lt⟩
theorem Bx1.made (w:World)(v0:Value)(t:TypeId):Bx1 (w.alloc (.cells #[v0] t)) w.heap.size v0:=⟨by simp,fun i=>by simp,by simp⟩
theorem Gt.set(h:Gt B w wr)(q:Addr)(u:Value)(hq:w.heap.size<=q.block):Gt B w (wr.setCell q u):=
 ⟨h.os,h.tape,h.output,by simpa [World.setCell] using h.size,fun g hg ho=>(zH _ _ _ _ (by omega)).trans (h.block g hg ho)⟩
theorem Gt.keep(h:Gt B w wr)(hb:Bl wr w1):Gt B w w1:=h.trans (Gt.of_below hb)
theorem Qap {α β:Type}(w:World){ops:Array Oper}{rest:List Oper}{o:Oper}{a:Act}{Q:Exit ->Act ->World ->Prop}
  (hg:o.guard=none) (m x v:Operand) (mt:TypeId) (hop:o.op=Op.mapUpdate mt m x v) (t e:TypeId) (K:Keyed Tryz.prog t) (kv:α ->Value) (hi:∀x y,kv x=kv y ->x=y) (ht:Tryz.prog.underlying mt=some (.map t e)) (vo:Option β ->Value) (b c:Nat) (f:α ->Option β)
  (hm:a.eval m=.map (some b)) (h:Qa3 w t kv vo b c f) (hc:c<maxLen) (k:α) (y:β) (kl:Lit) (hx:a.eval x=kv k) (hv:a.eval v=vo (some y)) (hk:keyOf Tryz.prog t (kv k)=some kl)
  (hK:∀w',Qa3 w' t kv vo b (c+1) (QcI f k (some y)) ->w.grownBy w' (some b) ->wpList Tryz.prog ops Q rest (a.put o.dst undef) w'):
  wpList Tryz.prog ops Q (o::rest) a w:=by
 refine wpList_plain hg fun K' hK'=> ?_;obtain⟨w',j,r1,r2⟩:=h.store K hi ht hc (y:=y) hk;unfold Oper.wp;simp [execOp,hop,hm,hx,hv,j,Result.andThen];exact hK' _ _ (hK w' r1 r2)
theorem Qdo (w:World):(zeroValue 156).run Tryz.prog w=.ok (QaQ none) w:=by kernel_rfl
theorem QeU (w:World):(zeroValue 165).run Tryz.prog w=.ok (Qb1 none) w:=by kernel_rfl
structure PB (w:World)(h:Nat)(x:Nat×Nat)(r q:Int)(s:ByteArray):Prop where
 n:Bx2 w h (.map (some x.1)) (.map (some x.2))
 d:Bx2 w (h+1) (.int .i64 r) (.int .i64 q)
 m:Bx1 w (h+2) (.string s)
theorem PB.bw(p:PB w h x r q s)(hb:Bl w w'):PB w' h x r q s:=⟨p.n.bw hb p.n.lt,p.d.bw hb p.d.lt,p.m.bw hb p.m.lt⟩
theorem PB.gt(p:PB w h x r q s)(hb:Gt B w w'):PB w' h x r q s:=⟨p.n.gt hb,p.d.gt hb,p.m.gt hb⟩
theorem PB.set(p:PB w h x r q s)(y:Nat×Nat):PB ((w.setCell ⟨h,0,none⟩ (.map (some y.1))).setCell ⟨h,1,none⟩ (.map (some y.2))) h y r q s:=
 ⟨p.n.set _ _,(p.d.setAt _ _ (by simp)).setAt _ _ (by simp),(p.m.setAt _ _ (by simp)).setAt _ _ (by simp)⟩
theorem PB.setAt(p:PB w h x r q s)(a:Addr)(u:Value)(ha:h+2<a.block):PB (w.setCell a u) h x r q s:=
 ⟨p.n.setAt _ _ (by omega),p.d.setAt _ _ (by omega),p.m.setAt _ _ (by omega)⟩
theorem Qof (X:Nat)(p:List ByteArray)(a:Option Addr)(cp:Nat)(k:Int)(r q:Int)(s:ByteArray)(B c:Nat)(N:List Ky ->Option (Nat×Nat))(M:List Ky ->Dt ->Option ByteArray)(x0:Nat×Nat)(w:World)
  (hp:p.length<=1048576) (hs:∀i,(gS p i).size<=1048576) (hk:(Lit.int .i64 k).wf=true) (hr:(Lit.int .i64 r).wf=true) (hq:(Lit.int .i64 q).wf=true) (hc:c<=1073741824) (hB:B<=w.heap.size) (h:Qaw w a p) (hT:Tre w B N M c) (h0:N []=some x0) (hX:X<w.heap.size) (hXN:∀z x,N z=some x ->x.1≠X/\ x.2≠X):
  Cl 128 #[.agg #[.map (some x0.1),.map (some x0.2)],.slice a p.length cp,.int .i64 k,.agg #[.int .i64 r,.int .i64 q],.agg #[.string s]] w fun e w'=>e=.returned (.tuple #[])/\ Gt B w w'/\ w'.heap[X]? =w.heap[X]? /\
   ∃N',Tre w' B N' (Qkf M (Qac p k) (r,q) s) (c+p.length+1)/\ N' []=some x0/\∀z,(N' z).isSome=true↔(N z).isSome=true \/z <+:Qac p k:=by
 obtain⟨W,hW⟩:=zE (((w.alloc (.cells #[.map (some x0.1),.map (some x0.2)] 156)).alloc (.cells #[.int .i64 r,.int .i64 q] 104)).alloc (.cells #[.string s] 165));have b0:Bl w W:=by rw [<- hW];exact((zO _ _).alloc (by simp) _).alloc (by simp;omega) _
 have P0:PB W w.heap.size x0 r q s:=by
  have d1:=Bx2.made (w.alloc (.cells #[.map (some x0.1),.map (some x0.2)] 156)) (.int .i64 r) (.int .i64 q) 104;have m1:=Bx1.made ((w.alloc (.cells #[.map (some x0.1),.map (some x0.2)] 156)).alloc (.cells #[.int .i64 r,.int .i64 q] 104)) (.string s) 165;rw [<- hW];exact⟨((Bx2.made w _ _ _).allocs _).allocs _,by simpa using d1.allocs _,by simpa using m1⟩
 have Ge:Hid (W.heap[X]? =w.heap[X]?):=hid (b0.block X hX);have He:=hid hXN;have Gg:=hid hX;have HS:=hid h;have Gb:=hid P0;have Gd:=hid (hT.bw b0);have Ga:=hid (Gt.of_below (B:=B) b0);have H0:=hid h0;have HB:=hid hB;have Hs:=hid hs;clear h hT h0 b0 P0 hs hB hX hXN;go_enter Tryz.func128,Tryz.ntmps128;go_wp2_with fail;try rw [hW]
 clear hW;go_loopw [16] (fun i wr=>∃j:Nat,j<=p.length/\ i=.int .i64 j/\ Hid (Gt B w wr)/\ (∃g x,Hid (Tre wr B g M (c+j))/\ Hid (g []=some x0)/\ Hid (g ((Qac p k).take j)=some x)/\ Hid (∀z,(g z).isSome=true↔(N z).isSome=true \/z <+:(Qac p k).take j)/\ Hid (PB wr w.heap.size x r q s)/\ Hid (wr.heap[X]? =w.heap[X]?)/\ Hid (∀z x,g z=some x ->x.1≠X/\ x.2≠X))) (fun i _=>p.length - (intOf i).toNat);case atStart=>
  refine⟨0,Nat.zero_le _,rfl,Ga,N,x0,Gd,H0,hid (by simpa using H0.out),hid (fun z=> ?_),Gb,Ge,He⟩;simp only [List.take_zero,List.prefix_nil];exact⟨fun h=> .inl h,fun h=>h.elim id (fun e=>by rw [e,H0.out];rfl)⟩
 case round=>
  clear Gd Ga Gb Ge He;obtain⟨j,hj,rfl,J,g,x,G,Hz,O,T,K,HX,Hp⟩:=hrel;have H6:Hid (X<wr.heap.size):=hid (Nat.lt_of_lt_of_le Gg J.size);have Hq:Hid (w.heap.size≠X):=hid (by have:=Gg.out;omega);by_cases Hr:j<p.length
  ·have i1:(0:Int)<=(j:Int):=Int.natCast_nonneg _;have i2:(j:Int)<(p.length:Int):=by omega
   have Hk:=hid (QgO p a cp k j wr hp Hr (HS.gt J));obtain⟨nm,t,R⟩:∃nm t,Qar p k j=(nm,t):=⟨_,_,rfl⟩;have Hx:=hid R;rw [R] at Hk;obtain⟨I,Hf⟩:∃I,keyOf Tryz.prog 208 (Qa5 (nm,t))=some I:=by
    unfold Qar at R;have e1:=(Prod.mk.inj R).1;have e2:=(Prod.mk.inj R).2;refine QgN ?_ ?_
    ·rw [<- e1];have:=Hs j;unfold maxLen;omega
    ·rw [<- e2];split
     ·decide
     ·exact hk
   have Hj:=hid Hf;clear R Hf;dsimp only [Qa5] at Hk;go_wp2_with fail;refine Hk.mono ?_;rintro e w1 ⟨rfl,b1⟩;obtain⟨u,H9⟩:=zE (w1.alloc (.cells #[.string nm,.int .i64 t] 208));have F:Bl wr u:=by rw [<- H9];exact b1.alloc b1.size _
   have Hv:Bx2 u w1.heap.size (.string nm) (.int .i64 t):=by rw [<- H9];exact Bx2.made _ _ _ _
   have Hm:=K.bw F;have Ho:=hid (G.bw F);have Ht:=hid (J.keep F);have Gf:Hid (u.heap[X]? =w.heap[X]?):=hid ((F.block X H6).trans HX);have Hc:Hid (X<u.heap.size):=hid (Nat.lt_of_lt_of_le H6 F.size);have e0:=Hm.n.c0;obtain⟨e1,e2⟩:=Hv.q2;have H2:=hid Hm;have Hw:=hid Hv;have Gn:Hid (w.heap.size+2<u.heap.size):=hid Hm.m.lt;have Hg:=(Ho.kids _ x O).look_ok (mt:=153) Qas Tryz.underlying153 (Qdo u) Hj;clear Hv Hm b1 F Hk G J K;dsimp only [Qa5] at Hg;have Gj:(Qac p k).take (j+1)=(Qac p k).take j++[(nm,t)]:=by rw [Qcf Hr];have:=Hx.out;unfold Qar at this;rw [this]
   have Hn:=hid Gj;clear Gj;cases hNy:g ((Qac p k).take j++[(nm,t)]) with
   | some y=>
    rw [hNy] at Hg;dsimp only [QaQ,Option.isSome] at Hg;have Hl:=hid hNy;clear hNy;obtain⟨Q,H⟩:=zE (u.alloc (.cells #[.map (some y.1),.map (some y.2)] 156));have o:Bl u Q:=by rw [<- H];exact zO _ _
    have KB:Bx2 Q u.heap.size (.map (some y.1)) (.map (some y.2)):=by rw [<- H];exact Bx2.made _ _ _ _
    obtain⟨g0,g1⟩:=KB.q2;have D:=H2.bw o;obtain⟨n0,n1⟩:=D.n.q2;have f0:=D.n.f 0;have f1:=D.n.f 1;have L:=hid ((Ho.bw o).set (q:=⟨w.heap.size,0,none⟩) (.map (some y.1)) n0);have Go:=hid (L.set (q:=⟨w.heap.size,1,none⟩) (.map (some y.2)) ((D.n.set0 _).c1));have Hi:=hid (((Ht.keep o).set ⟨w.heap.size,0,none⟩ (.map (some y.1)) zL).set ⟨w.heap.size,1,none⟩ (.map (some y.2)) zL);have Gm:=hid (D.set y);have Gr:Hid (((Q.setCell ⟨w.heap.size,0,none⟩ (.map (some y.1))).setCell ⟨w.heap.size,1,none⟩ (.map (some y.2))).heap[X]? =w.heap[X]?):=hid (by
     rw [zH _ _ _ _ (by exact Hq.symm),zH _ _ _ _ (by exact Hq.symm)];exact(o.block X Hc).trans Gf)
    clear o KB D L;go_wp2_with fail;go_roundw;case rel=>
     refine⟨j+1,Hr,by go_num,Hi,g,y,hid (Go.mono (by omega)),Hz,hid (by rw [Hn.out];exact Hl),hid (fun z=> ?_),Gm,Gr,Hp⟩;rw [T z,Qhk Hn.out];constructor
     ·rintro(e|e)
      ·exact .inl e
      ·exact .inr (.inl e)
     ·rintro(e|e|e)
      ·exact .inl e
      ·exact .inr e
      ·exact(T z).1 (by rw [e,Hl.out];rfl)
    case measure=>simp [intOf];omega
   | none=>
    rw [hNy] at Hg;dsimp only [QaQ,Option.isSome] at Hg;have Hl:=hid hNy;clear hNy;obtain⟨Q,H⟩:=zE (u.alloc (.cells #[.map none,.map none] 156));have o:Bl u Q:=by rw [<- H];exact zO _ _
    have KB:Bx2 Q u.heap.size (.map none) (.map none):=by rw [<- H];exact Bx2.made _ _ _ _
    have Ha:=hid KB;have Hb:=hid (Hw.bw o Hw.lt);have H1:=hid (H2.bw o);have L:=hid (Ho.bw o);have Hi:=hid (Ht.keep o);have Gw:=hid o.size;have Gq:Hid (Q.heap[X]? =w.heap[X]?):=hid ((o.block X Hc).trans Gf);have Hd:Hid (X<Q.heap.size):=hid (Nat.lt_of_lt_of_le Hc o.size);have Gp:=hid H;clear o KB H2 Ho Ht Hw H;go_wp2_with fail;rw [Gp.out];refine(Qd7 Q).mono ?_;rintro e w4 ⟨b,A,rfl,Gu,Gx,Gy,m1,m2,Z⟩;have C:=Ha.bw Z Ha.lt;obtain⟨g0,g1⟩:=C.q2;have h0:=C.f 0;have h1:=C.f 1;obtain⟨U,Y⟩:=zE ((w4.setCell ⟨u.heap.size,0,none⟩ (.map (some b))).setCell ⟨u.heap.size,1,none⟩ (.map (some A)));have G0:w1.heap.size<Q.heap.size:=Hb.lt;have Gz:=H1.m.lt;have Hh:u.heap.size≠w1.heap.size:=by rw [<- H9];simp
    have H7:PB U w.heap.size x r q s/\ w.heap.size+2<u.heap.size:=by
     have hz:w.heap.size+2<u.heap.size:=Gn.out;rw [<- Y];exact⟨((H1.bw Z).setAt _ _ hz).setAt _ _ hz,hz⟩
    have K5:Bx2 U u.heap.size (.map (some b)) (.map (some A)):=by rw [<- Y];exact C.set _ _
    have Y5:Bx2 U w1.heap.size (.string nm) (.int .i64 t):=by rw [<- Y];exact((Hb.bw Z Hb.lt).setAt _ _ Hh).setAt _ _ Hh
    have T5:Tre U B g M (c+j):=by rw [<- Y];exact((L.bw Z).set _ g0).set _ (C.set0 _).c1
    have G5:Gt B w U:=by rw [<- Y];exact((Hi.keep Z).set _ _ (by show w.heap.size<=u.heap.size;omega)).set _ _ (by show w.heap.size<=u.heap.size;omega)
    have X5:U.heap[X]? =w.heap[X]? :=by
     have Gl:X≠u.heap.size:=by have:=Hc.out;omega
     rw [<- Y,zH _ _ _ _ Gl,zH _ _ _ _ Gl];exact(Z.block X Hd).trans Gq
    have Gv:w4.heap.size=U.heap.size:=by rw [<- Y];simp [World.setCell]
    have H5:Hid (∀z x,QcI g ((Qac p k).take j++[(nm,t)]) (some (b,A)) z=some x ->x.1≠X/\ x.2≠X):=hid (fun z y hy=>by
     have h3:=Hd.out;by_cases P:z=(Qac p k).take j++[(nm,t)]
     ·rw [P,Qau] at hy;injection hy with hy;subst hy;exact⟨by show b≠X;omega,by show A≠X;omega⟩
     ·rw [Qam _ _ P] at hy;exact Hp z y hy)
    have Gh:b≠u.heap.size:=by intro e;have:=Ha.lt;omega
    have Gi:A≠u.heap.size:=by intro e;have:=Ha.lt;omega
    have M1:Qa3 U 208 (α:=Ky) Qa5 QaQ b 0 (fun _=>none):=by rw [<- Y];exact(m1.same (zH _ _ _ _ Gh)).same (zH _ _ _ _ Gh)
    have M2:Qa3 U 104 (α:=Dt) dtV Qb1 A 0 (fun _=>none):=by rw [<- Y];exact(m2.same (zH _ _ _ _ Gi)).same (zH _ _ _ _ Gi)
    have c1:=H7.1.n.c0;obtain⟨c2,c3⟩:=Y5.q2;obtain⟨c4,c5⟩:=K5.q2;have HU:Hid (∀v,Qa3 v 208 Qa5 QaQ x.1 (c+j+1) (QcI (fun z=>g ((Qac p k).take j++[z])) (nm,t) (some (b,A))) ->U.grownBy v (some x.1) ->Tre v B (QcI g ((Qac p k).take j++[(nm,t)]) (some (b,A))) M (c+j+1)/\ Gt B w v/\ PB v w.heap.size x r q s/\ Bx2 v u.heap.size (.map (some b)) (.map (some A))/\ v.heap[X]? =w.heap[X]?):=hid (fun v V E=>by
     have Gs:=(T5.lo _ x O).1;have H8:=Gt.grown E Gs (T5.kids _ x O).obj;refine⟨T5.add O Hl M1 M2 Gu (fun q z hz=> ?_) ⟨by have:=HB.out;omega,by have:=HB.out;omega⟩ V E,G5.trans H8,H7.1.gt H8,K5.gt H8,(E.block X (by have:=Hd.out;have:=Z.size;omega) (fun e=>(Hp _ x O).1 (Option.some.inj e).symm)).trans X5⟩;have:=L.lt hz;exact⟨by omega,by omega,by omega,by omega⟩)
    have Hy:=hid (T5.kids _ x O);clear H7 X5 Gv K5 Y5 T5 G5 M1 M2 m1 m2 Z C Ha Hb H1 L Hi;go_wp2_with (refine Qap _ rfl _ _ _ 153 rfl 208 156 Qas Qa5 (fun _ _=>QaZ) Tryz.underlying153 QaQ x.1 (c+j) (fun z=>g ((Qac p k).take j++[z])) rfl Hy (by unfold maxLen;omega) (nm,t) (b,A) I rfl rfl Hj ?_;intro v V E;obtain⟨T6,S,P6,K6,X6⟩:=HU v V E;have H4:=hid X6;clear X6;have H3:=hid T6;have Hu:=hid S;have Gc:=hid P6;obtain⟨t0,t1⟩:=P6.n.q2;have t2:=P6.n.f 0;have t3:=P6.n.f 1;obtain⟨t4,t5⟩:=K6.q2;clear V E T6 S P6 K6);go_roundw;case rel=>
     have T7:=(H3.set (q:=⟨w.heap.size,0,none⟩) (.map (some b)) t0).set (q:=⟨w.heap.size,1,none⟩) (.map (some A)) (Gc.n.set0 _).c1;refine⟨j+1,Hr,by go_num,hid ((Hu.set _ _ zL).set _ _ zL),QcI g ((Qac p k).take j++[(nm,t)]) (some (b,A)),(b,A),hid T7,hid ?_,hid ?_,hid (fun z=> ?_),hid (Gc.set (b,A)),hid ?_,H5⟩
     ·rw [Qam _ _ (by simp)];exact Hz
     ·rw [Hn.out,Qau]
     ·rw [Qhk Hn.out];by_cases P:z=(Qac p k).take j++[(nm,t)]
      ·rw [P,Qau];exact⟨fun _=> .inr (.inr rfl),fun _=>rfl⟩
      ·rw [Qam _ _ P,T.out z];constructor
       ·rintro(h|h)
        ·exact .inl h
        ·exact .inr (.inl h)
       ·rintro(h|h|h)
        ·exact .inl h
        ·exact .inr h
        ·exact absurd h P
     ·rw [zH _ _ _ _ (by exact Hq.symm),zH _ _ _ _ (by exact Hq.symm)];exact H4
    case measure=>simp [intOf];omega
  ·obtain rfl:j=p.length:=by omega
   have Gk:(Qac p k).take p.length=Qac p k:=List.take_of_length_le (by rw [Qav];exact Nat.le_refl _);rw [Gk] at O T;obtain⟨I,Hf⟩:∃I,keyOf Tryz.prog 104 (dtV (r,q))=some I:=Qfh hr hq;have Hj:=hid Hf;have c0:=K.n.c1;obtain⟨c1,c2⟩:=K.d.q2;have c3:=K.m.c0;have Hy:=hid (G.marks _ x O);have HU:Hid (∀v,Qa3 v 104 dtV Qb1 x.2 (c+p.length+1) (QcI (M (Qac p k)) (r,q) (some s)) ->wr.grownBy v (some x.2) ->Tre v B g (Qkf M (Qac p k) (r,q) s) (c+p.length+1)/\ Gt B w v/\ v.heap[X]? =w.heap[X]?):=hid (fun v V E=>
     ⟨G.mark O V E,J.trans (Gt.grown E (G.lo _ x O).2 (G.marks _ x O).obj),(E.block X H6 (fun e=>(Hp _ x O).2 (Option.some.inj e).symm)).trans HX⟩)
   clear Gk Hf G J K;go_wp2_with (refine Qap _ rfl _ _ _ 154 rfl 104 165 Qa1 dtV (fun _ _=>Qco) Tryz.underlying154 Qb1 x.2 (c+p.length) (M (Qac p k)) rfl Hy (by unfold maxLen;omega) (r,q) s I rfl rfl Hj ?_;intro v V E;obtain⟨T6,S,X6⟩:=HU v V E;have H4:=hid X6;clear X6;have H3:=hid T6;have Hu:=hid S;clear V E T6 S);go_end0;exact⟨rfl,Hu,H4,g,H3,Hz,T⟩
theorem Qjj.bw{D:DataW Value}(h:Qjj w bm k l D)(hb:Bl w w1):Qjj w1 bm k l D:=
 ⟨h.own.kept ⟨hb.os,hb.tape,hb.output,hb.size,fun k hk _=>hb.block k hk⟩ (by simp:some bm≠none),h.tidy,h.has',h.le,h.eq⟩
def Qmg (R F T:Nat ->Int)(n:Nat)(l:List Lf):Prop:=l.length<=1000/\ QbT R F T n l l.length/\ Dis l l.length
theorem QgU (a:Option Addr)(c:Nat)(l:List Lf)(bm n:Nat)(M:DataW Value)(G:Int ->Value)(R F T:Nat ->Int)(w:World)(hn:l.length<=1048576)(hp:LBd l)(hi:∀i,LfI (gL l i))(h:QbD w a l)
  (hG:Qaz w bm n M G (Lk R F T n)) (hs:∀r,Srt (Lk R F T n r)) (hl:∀r,(Lk R F T n r).length<=1000000):
  Cl 155 #[.slice a l.length c,.map (some bm)] w (Rt w (.bool (yes (Qmg R F T n l)))):=by
 have Gi:=@run_makeMap Tryz.prog;obtain⟨Y,hY⟩:=zE (yes (Qmg R F T n l));have HY:=hid hY;rw [hY];clear hY;have HL:=hid h;have HG:=hid hG;clear h hG;by_cases Ho:(1000:Int)<(l.length:Int)
 ·have d0:decide ((1000:Int)<(l.length:Int))=true:=by simpa using Ho
  have HF:Hid (Y=false):=hid (by rw [<- HY.out];exact Qaf (fun h=>by have:=h.1;omega));go_enter Tryz.func155,Tryz.ntmps155;go_wp2_with fail;go_ret;exact⟨Qay HF.symm,zI⟩
 ·have d0:decide ((1000:Int)<(l.length:Int))=false:=by simpa using Ho
  go_enter Tryz.func155,Tryz.ntmps155;go_wp2_with fail;clear d0;have Ga:=hid (Qjj.made w l);have H7:Hid (Bl w (w.alloc (.map #[] 0))):=hid (zO _ _);go_loopw [14] (fun i wr=>∃k:Nat,k<=l.length/\ i=.int .i64 k/\ Hid (Bl w wr)/\ (∃D,Hid (Qjj wr w.heap.size k l D))/\ Hid (QbT R F T n l k)) (fun i _=>l.length - (intOf i).toNat);case atStart=>exact⟨0,Nat.zero_le _,rfl,H7,⟨_,Ga⟩,hid (fun i hi=>by omega)⟩
  case round=>
   clear Ga H7 Gi;obtain⟨k,hk,rfl,Z,⟨D,Hk⟩,HI⟩:=hrel;by_cases Hr:k<l.length
   ·rcases HL.out with h|⟨b,g,rfl,hb,hc⟩
    ·omega
    obtain⟨U,pc,c0,s,c1,c2,c3,c4⟩:=hc k Hr;have x0:=(Z.cell (p:=⟨b,g+k*5,none⟩) hb).trans c0;have x1:=(Z.cell (p:=⟨b,g+k*5+1,none⟩) hb).trans c1;have x2:=(Z.cell (p:=⟨b,g+k*5+2,none⟩) hb).trans c2;have x3:=(Z.cell (p:=⟨b,g+k*5+3,none⟩) hb).trans c3;have x4:=(Z.cell (p:=⟨b,g+k*5+4,none⟩) hb).trans c4;have HS:=hid (s.bw Z);have i1:(0:Int)<=(k:Int):=Int.natCast_nonneg _;have i2:(k:Int)<(l.length:Int):=by omega
    have Gf:=hid hc;have zr:w.heap.size<=wr.heap.size:=Z.size;have Hj:=hi k;clear hc c0 c1 c2 c3 c4 s;obtain⟨y,hy⟩:=zE (gL l k);have Hs:=hp k;rw [hy] at HS x0 x1 x2 x3 x4 Hs Hj;have L:=hid hy;clear hy;obtain⟨p,fl,r,q,v⟩:=y;dsimp only [LfI] at HS x0 x1 x2 x3 x4 Hs Hj;go_wp2_with fail;obtain⟨E,Hq⟩:=zE (wr.alloc (.cells #[.slice U p.length pc,.bool fl,.int .i64 r,.int .i64 q,.string v] 106));have b2:Bl wr E:=by rw [<- Hq];exact zO _ _
    have B5:Bx5 E wr.heap.size (.slice U p.length pc) (.bool fl) (.int .i64 r) (.int .i64 q) (.string v):=by rw [<- Hq];exact⟨by simp,by simp,by simp,by simp,by simp,fun i=>by simp,by simp⟩
    obtain⟨y0,y1,B,C,y4⟩:=B5.q5;have u:=B5.lt;have Hd:=hid b2;have O:=hid (Z.trans (b2.mono Z.size));have Gb:=hid (HS.bw b2);have Gg:=hid (HG.bw O);rw [Hq];clear Hq b2 B5 x0 x1 x2 x3 x4 HS;have P:Hid (¬(Qc1 ⟨p,fl,r,q,v⟩/\ QbG R F T r q q n=true/\ (0<k ->QaM (gL l (k - 1)) ⟨p,fl,r,q,v⟩<0)) ->Y=false):=hid (fun no=>by
     rw [<- HY.out];exact Qaf (fun h=>no (by have:=h.2.1 k Hr;rw [L.out] at this;exact this)))
    obtain⟨Y1,H3⟩:=zE (yes (Qc1 ⟨p,fl,r,q,v⟩));have H2:=hid H3;have Hl:Hid (∀W,Bl E W ->Cl 176 #[.agg #[.slice U p.length pc,.bool fl,.int .i64 r,.int .i64 q,.string v]] W (Rt W (.bool Y1))):=hid (fun W hB=>by rw [<- H3];exact QmM U pc p fl r q v W Hs (Gb.bw hB));obtain⟨A,hA⟩:=zE (QbG R F T r q q n);have HA:=hid hA;have Hp:Hid (∀W,Bl E W ->Cl 177 #[.map (some bm),.agg #[.int .i64 r,.int .i64 q]] W (Rt W (.bool A))):=hid (fun W hB=>by rw [<- hA,<- Qe7];exact QnD (Gg.bw hB) r q Hj.1 (hs r) (hl r));clear H3 hA;cases Y1 with
    | false=>
     have z:Hid (∀w',Bl E w' ->(Bl E w'/\ w'.cell? ⟨wr.heap.size,0,none⟩=some (.slice U p.length pc)/\ w'.cell? ⟨wr.heap.size,1,none⟩=some (.bool fl)/\ w'.cell? ⟨wr.heap.size,2,none⟩=some (.int .i64 r)/\ w'.cell? ⟨wr.heap.size,3,none⟩=some (.int .i64 q)/\ w'.cell? ⟨wr.heap.size,4,none⟩=some (.string v))):=hid (fun w' hB=>⟨hB,(hB.cell (p:=⟨wr.heap.size,0,none⟩) u).trans y0,(hB.cell (p:=⟨wr.heap.size,1,none⟩) u).trans y1,(hB.cell (p:=⟨wr.heap.size,2,none⟩) u).trans B,(hB.cell (p:=⟨wr.heap.size,3,none⟩) u).trans C,(hB.cell (p:=⟨wr.heap.size,4,none⟩) u).trans y4⟩);refine zS z (fun qh=> ?_);refine tZ 0 19 ?_;refine cZ 1 ?_;intro K m;go_simp;refine(Hl _ qh.1).mono ?_;rintro e w3 ⟨rfl,N⟩;have I:=qh.1.trans (N.mono qh.1.size);refine m.out _ _ (z _ I) (fun qh=> ?_);clear m K;try simp only [zP]
     refine tZ 2 21 ?_;refine tZ 3 22 ?_;refine uZ 4 23 ?_;refine uZ 5 24 ?_;refine uZ 6 25 ?_;refine uZ 7 26 ?_;refine uZ 8 27 ?_;refine tZ 9 28 ?_;refine tZ 10 29 ?_;refine uZ 11 30 ?_;refine uZ 12 31 ?_;refine uZ 13 32 ?_;refine uZ 14 33 ?_;refine uZ 15 34 ?_;refine uZ 16 35 ?_;refine uZ 17 36 ?_;refine uZ 18 37 ?_;refine uZ 19 38 ?_;refine uZ 20 39 ?_;refine uZ 21 40 ?_;refine uZ 22 41 ?_;refine tZ 23 42 ?_;refine zD ?_;have HF:=hid (P (fun h=>by have:=Qah h.1;rw [H2.out] at this;cases this));have HZ:=hid (O.trans (I.mono O.size));clear qh z P;go_wp2_with fail;go_ret;exact⟨Qay HF.symm,HZ⟩
    | true=>
     cases A with
     | false=>
      have z:Hid (∀w',Bl E w' ->(Bl E w'/\ w'.cell? ⟨wr.heap.size,0,none⟩=some (.slice U p.length pc)/\ w'.cell? ⟨wr.heap.size,1,none⟩=some (.bool fl)/\ w'.cell? ⟨wr.heap.size,2,none⟩=some (.int .i64 r)/\ w'.cell? ⟨wr.heap.size,3,none⟩=some (.int .i64 q)/\ w'.cell? ⟨wr.heap.size,4,none⟩=some (.string v))):=hid (fun w' hB=>⟨hB,(hB.cell (p:=⟨wr.heap.size,0,none⟩) u).trans y0,(hB.cell (p:=⟨wr.heap.size,1,none⟩) u).trans y1,(hB.cell (p:=⟨wr.heap.size,2,none⟩) u).trans B,(hB.cell (p:=⟨wr.heap.size,3,none⟩) u).trans C,(hB.cell (p:=⟨wr.heap.size,4,none⟩) u).trans y4⟩);refine zS z (fun qh=> ?_);refine tZ 0 19 ?_;refine cZ 1 ?_;intro K m;go_simp;refine(Hl _ qh.1).mono ?_;rintro e w3 ⟨rfl,N⟩;have I:=qh.1.trans (N.mono qh.1.size);refine m.out _ _ (z _ I) (fun qh=> ?_);clear m K;try simp only [zP]
      refine tZ 2 21 ?_;refine tZ 3 22 ?_;refine tZ 4 23 ?_;refine tZ 5 24 ?_;refine tZ 6 25 ?_;refine cZ 7 ?_;intro K m;go_simp;refine(Hp _ qh.1).mono ?_;rintro e w4 ⟨rfl,b4⟩;have Q:=qh.1.trans (b4.mono qh.1.size);refine m.out _ _ (z _ Q) (fun qh=> ?_);clear m K;try simp only [zP]
      refine tZ 8 27 ?_;refine tZ 9 28 ?_;refine tZ 10 29 ?_;refine uZ 11 30 ?_;refine uZ 12 31 ?_;refine uZ 13 32 ?_;refine uZ 14 33 ?_;refine uZ 15 34 ?_;refine uZ 16 35 ?_;refine uZ 17 36 ?_;refine uZ 18 37 ?_;refine uZ 19 38 ?_;refine uZ 20 39 ?_;refine uZ 21 40 ?_;refine uZ 22 41 ?_;refine tZ 23 42 ?_;refine zD ?_;have HF:=hid (P (fun h=>by have:=h.2.1;rw [HA.out] at this;cases this));have HZ:=hid (O.trans (Q.mono O.size));clear qh z P;go_wp2_with fail;go_ret;exact⟨Qay HF.symm,HZ⟩
     | true=>
      by_cases Ge:k=0
      ·have d2:decide ((0:Int)<(k:Int))=false:=by simp;omega
       have d3:decide (0<k)=false:=by simp;omega
       have He:Hid (0<k ->QaM (gL l (k - 1)) ⟨p,fl,r,q,v⟩<0):=hid (fun h=>by omega);clear Ge;have z:Hid (∀w',Bl E w' ->(Bl E w'/\ w'.cell? ⟨wr.heap.size,0,none⟩=some (.slice U p.length pc)/\ w'.cell? ⟨wr.heap.size,1,none⟩=some (.bool fl)/\ w'.cell? ⟨wr.heap.size,2,none⟩=some (.int .i64 r)/\ w'.cell? ⟨wr.heap.size,3,none⟩=some (.int .i64 q)/\ w'.cell? ⟨wr.heap.size,4,none⟩=some (.string v))):=hid (fun w' hB=>⟨hB,(hB.cell (p:=⟨wr.heap.size,0,none⟩) u).trans y0,(hB.cell (p:=⟨wr.heap.size,1,none⟩) u).trans y1,(hB.cell (p:=⟨wr.heap.size,2,none⟩) u).trans B,(hB.cell (p:=⟨wr.heap.size,3,none⟩) u).trans C,(hB.cell (p:=⟨wr.heap.size,4,none⟩) u).trans y4⟩);refine zS z (fun qh=> ?_);refine tZ 0 19 ?_;refine cZ 1 ?_;intro K m;go_simp;refine(Hl _ qh.1).mono ?_;rintro e w3 ⟨rfl,N⟩;have I:=qh.1.trans (N.mono qh.1.size);refine m.out _ _ (z _ I) (fun qh=> ?_);clear m K;try simp only [zP]
       refine tZ 2 21 ?_;refine tZ 3 22 ?_;refine tZ 4 23 ?_;refine tZ 5 24 ?_;refine tZ 6 25 ?_;refine cZ 7 ?_;intro K m;go_simp;refine(Hp _ qh.1).mono ?_;rintro e w4 ⟨rfl,b4⟩;have Q:=qh.1.trans (b4.mono qh.1.size);refine m.out _ _ (z _ Q) (fun qh=> ?_);clear m K;try simp only [zP]
       refine tZ 8 27 ?_;refine tZ 9 28 ?_;refine tZ 10 29 ?_;refine tZ 11 30 ?_;refine tZ 12 31 ?_;refine tZ 13 32 ?_;refine uZ 14 33 ?_;refine uZ 15 34 ?_;refine uZ 16 35 ?_;refine uZ 17 36 ?_;refine uZ 18 37 ?_;refine uZ 19 38 ?_;refine uZ 20 39 ?_;refine uZ 21 40 ?_;refine tZ 22 41 ?_;refine tZ 23 42 ?_;refine zD ?_;have Hw:=hid Q;have B:=(Q.cell (p:=⟨wr.heap.size,2,none⟩) u).trans B;have C:=(Q.cell (p:=⟨wr.heap.size,3,none⟩) u).trans C;obtain⟨kl,Hg⟩:=Qfh Hj.1 Hj.2;have H0:=hid Hg;have Ha:=Hk.bw (Hd.trans (Q.mono Hd.size));have Hb:=Ha.own;have Hi:plainElem (H:=Value) Tryz.prog 3 (.int .i64 (k:Int))=some (.lit (.int .i64 (k:Int)),[]):=plainElem_int Tryz.underlying3 (wfI (by omega) (by omega));have Hh:keyOf Tryz.prog 104 (.agg #[.int .i64 r,.int .i64 q])=some kl:=Hg;have Hx:=hid Ha;clear qh z P Ha Hg;go_wp2_with (refine wpList_mapUpdate_own _ rfl _ _ _ 255 rfl 104 3 Qa1 Tryz.underlying255 (plainElem Tryz.prog 3) (w.heap.size) k D rfl Hb (by unfold maxLen;omega) _ _ kl rfl rfl Hh (.lit (.int .i64 (k:Int))) [] Hi ?_;intro w6 Hc Hf);have Hy:=hid (Hx.step (by rw [L.out];exact H0) Hc);have Hn:=O.trans (Hw.mono O.size);have Hv:=hid (Hn.grown Hf Hn.size (fun t e=>by injection e with e;omega));have HN:Hid (QbT R F T n l (k+1)):=hid (HI.step (by rw [L.out];exact Qcy.1 H2) (by rw [L.out];exact HA) (fun h=>by rw [L.out];exact He h));go_roundw;case rel=>exact⟨k+1,Hr,by go_num,Hv,⟨_,Hy⟩,HN⟩
       case measure=>simp [intOf];omega
      ·obtain⟨j,hj⟩:∃j,k=j+1:=⟨k - 1,by omega⟩;obtain⟨Ht,Hu,c0,s',c1,c2,c3,c4⟩:=Gf j (by omega);have V:=fun(o:Nat)=>O.cell (p:=⟨b,o,none⟩) hb;have j0:=(V _).trans c0;have j1:=(V _).trans c1;have j2:=(V _).trans c2;have j3:=(V _).trans c3;have j4:=(V _).trans c4;have H1:=hid (s'.bw O);have H4:=hp j;obtain⟨y',H6⟩:=zE (gL l j);rw [H6] at j0 j1 j2 j3 j4 H1 H4;have H9:=hid H6;obtain⟨p',Hm,r',V,v'⟩:=y';dsimp only at j0 j1 j2 j3 j4 H1 H4;have J:b<E.heap.size:=by have:=O.size;omega
       have d2:decide ((0:Int)<(k:Int))=true:=by simp;omega
       have d3:decide (0<k)=true:=by simp;omega
       have H5:(k:Int) - 1=(j:Int):=by omega
       have Gj:IntKind.i64.wrap (j:Int)=(j:Int):=by rw [IntKind.wrap_i64];omega
       have Gk:IntKind.i64.wrap ((k:Int) - 1)=(j:Int):=by rw [H5];exact Gj
       have q1:(0:Int)<=(j:Int):=Int.natCast_nonneg _;have q2:(j:Int)<(l.length:Int):=by omega
       have Hz:=hid hj;obtain⟨X,hX⟩:=zE (QaM ⟨p',Hm,r',V,v'⟩ ⟨p,fl,r,q,v⟩);have Gc:=hid hX;have H8:Hid (∀W,Bl E W ->Cl 178 #[.agg #[.slice Ht p'.length Hu,.bool Hm,.int .i64 r',.int .i64 V,.string v'],.agg #[.slice U p.length pc,.bool fl,.int .i64 r,.int .i64 q,.string v]] W (Rt W (.int .i64 X))):=hid (fun W hB=>by rw [<- hX];exact Qex Ht U Hu pc p' p Hm fl r' V r q v' v W H4 Hs (H1.bw hB) (Gb.bw hB));clear hX hj Ge c0 c1 c2 c3 c4 s' H6;by_cases Gd:(0:Int)<=X
       ·have d4:decide ((0:Int)<=X)=true:=by simpa using Gd
        have z:Hid (∀w',Bl E w' ->(Bl E w'/\ w'.cell? ⟨wr.heap.size,0,none⟩=some (.slice U p.length pc)/\ w'.cell? ⟨wr.heap.size,1,none⟩=some (.bool fl)/\ w'.cell? ⟨wr.heap.size,2,none⟩=some (.int .i64 r)/\ w'.cell? ⟨wr.heap.size,3,none⟩=some (.int .i64 q)/\ w'.cell? ⟨wr.heap.size,4,none⟩=some (.string v)/\ w'.cell? ⟨b,g+j*5,none⟩=some (.slice Ht p'.length Hu)/\ w'.cell? ⟨b,g+j*5+1,none⟩=some (.bool Hm)/\ w'.cell? ⟨b,g+j*5+2,none⟩=some (.int .i64 r')/\ w'.cell? ⟨b,g+j*5+3,none⟩=some (.int .i64 V)/\ w'.cell? ⟨b,g+j*5+4,none⟩=some (.string v'))):=hid (fun w' hB=>⟨hB,(hB.cell (p:=⟨wr.heap.size,0,none⟩) u).trans y0,(hB.cell (p:=⟨wr.heap.size,1,none⟩) u).trans y1,(hB.cell (p:=⟨wr.heap.size,2,none⟩) u).trans B,(hB.cell (p:=⟨wr.heap.size,3,none⟩) u).trans C,(hB.cell (p:=⟨wr.heap.size,4,none⟩) u).trans y4,(hB.cell (p:=⟨b,g+j*5,none⟩) J).trans j0,(hB.cell (p:=⟨b,g+j*5+1,none⟩) J).trans j1,(hB.cell (p:=⟨b,g+j*5+2,none⟩) J).trans j2,(hB.cell (p:=⟨b,g+j*5+3,none⟩) J).trans j3,(hB.cell (p:=⟨b,g+j*5+4,none⟩) J).trans j4⟩);refine zS z (fun qh=> ?_);refine tZ 0 19 ?_;refine cZ 1 ?_;intro K m;go_simp;refine(Hl _ qh.1).mono ?_;rintro e w3 ⟨rfl,N⟩;have I:=qh.1.trans (N.mono qh.1.size);refine m.out _ _ (z _ I) (fun qh=> ?_);clear m K;try simp only [zP]
        refine tZ 2 21 ?_;refine tZ 3 22 ?_;refine tZ 4 23 ?_;refine tZ 5 24 ?_;refine tZ 6 25 ?_;refine cZ 7 ?_;intro K m;go_simp;refine(Hp _ qh.1).mono ?_;rintro e w4 ⟨rfl,b4⟩;have Q:=qh.1.trans (b4.mono qh.1.size);refine m.out _ _ (z _ Q) (fun qh=> ?_);clear m K;try simp only [zP]
        refine tZ 8 27 ?_;refine tZ 9 28 ?_;refine tZ 10 29 ?_;refine tZ 11 30 ?_;refine tZ 12 31 ?_;refine tZ 13 32 ?_;refine tZ 14 33 ?_;refine tZ 15 34 ?_;refine tZ 16 35 ?_;refine tZ 17 36 ?_;refine tZ 18 37 ?_;refine tZ 19 38 ?_;refine cZ 20 ?_;intro K m;go_simp;refine(H8 _ qh.1).mono ?_;rintro e w5 ⟨rfl,b5⟩;have S:=qh.1.trans (b5.mono qh.1.size);refine m.out _ _ (z _ S) (fun qh=> ?_);clear m K;try simp only [zP]
        refine tZ 21 40 ?_;refine tZ 22 41 ?_;refine tZ 23 42 ?_;refine zD ?_;have HF:=hid (P (fun h=>by have e:=h.2.2 (by have:=Hz.out;omega);rw [show k - 1=j by have:=Hz.out;omega,H9,Gc.out] at e;omega));have HZ:=hid (O.trans (S.mono O.size));clear qh z P;go_wp2_with fail;go_ret;exact⟨Qay HF.symm,HZ⟩
       ·have d4:decide ((0:Int)<=X)=false:=by simpa using Gd
        have He:Hid (0<k ->QaM (gL l (k - 1)) ⟨p,fl,r,q,v⟩<0):=hid (fun _=>by rw [show k - 1=j by have:=Hz.out;omega,H9,Gc.out];omega);have z:Hid (∀w',Bl E w' ->(Bl E w'/\ w'.cell? ⟨wr.heap.size,0,none⟩=some (.slice U p.length pc)/\ w'.cell? ⟨wr.heap.size,1,none⟩=some (.bool fl)/\ w'.cell? ⟨wr.heap.size,2,none⟩=some (.int .i64 r)/\ w'.cell? ⟨wr.heap.size,3,none⟩=some (.int .i64 q)/\ w'.cell? ⟨wr.heap.size,4,none⟩=some (.string v)/\ w'.cell? ⟨b,g+j*5,none⟩=some (.slice Ht p'.length Hu)/\ w'.cell? ⟨b,g+j*5+1,none⟩=some (.bool Hm)/\ w'.cell? ⟨b,g+j*5+2,none⟩=some (.int .i64 r')/\ w'.cell? ⟨b,g+j*5+3,none⟩=some (.int .i64 V)/\ w'.cell? ⟨b,g+j*5+4,none⟩=some (.string v'))):=hid (fun w' hB=>⟨hB,(hB.cell (p:=⟨wr.heap.size,0,none⟩) u).trans y0,(hB.cell (p:=⟨wr.heap.size,1,none⟩) u).trans y1,(hB.cell (p:=⟨wr.heap.size,2,none⟩) u).trans B,(hB.cell (p:=⟨wr.heap.size,3,none⟩) u).trans C,(hB.cell (p:=⟨wr.heap.size,4,none⟩) u).trans y4,(hB.cell (p:=⟨b,g+j*5,none⟩) J).trans j0,(hB.cell (p:=⟨b,g+j*5+1,none⟩) J).trans j1,(hB.cell (p:=⟨b,g+j*5+2,none⟩) J).trans j2,(hB.cell (p:=⟨b,g+j*5+3,none⟩) J).trans j3,(hB.cell (p:=⟨b,g+j*5+4,none⟩) J).trans j4⟩);refine zS z (fun qh=> ?_);refine tZ 0 19 ?_;refine cZ 1 ?_;intro K m;go_simp;refine(Hl _ qh.1).mono ?_;rintro e w3 ⟨rfl,N⟩;have I:=qh.1.trans (N.mono qh.1.size);refine m.out _ _ (z _ I) (fun qh=> ?_);clear m K;try simp only [zP]
        refine tZ 2 21 ?_;refine tZ 3 22 ?_;refine tZ 4 23 ?_;refine tZ 5 24 ?_;refine tZ 6 25 ?_;refine cZ 7 ?_;intro K m;go_simp;refine(Hp _ qh.1).mono ?_;rintro e w4 ⟨rfl,b4⟩;have Q:=qh.1.trans (b4.mono qh.1.size);refine m.out _ _ (z _ Q) (fun qh=> ?_);clear m K;try simp only [zP]
        refine tZ 8 27 ?_;refine tZ 9 28 ?_;refine tZ 10 29 ?_;refine tZ 11 30 ?_;refine tZ 12 31 ?_;refine tZ 13 32 ?_;refine tZ 14 33 ?_;refine tZ 15 34 ?_;refine tZ 16 35 ?_;refine tZ 17 36 ?_;refine tZ 18 37 ?_;refine tZ 19 38 ?_;refine cZ 20 ?_;intro K m;go_simp;refine(H8 _ qh.1).mono ?_;rintro e w5 ⟨rfl,b5⟩;have S:=qh.1.trans (b5.mono qh.1.size);refine m.out _ _ (z _ S) (fun qh=> ?_);clear m K;try simp only [zP]
        refine tZ 21 40 ?_;refine tZ 22 41 ?_;refine tZ 23 42 ?_;refine zD ?_;have Hw:=hid S;have B:=(S.cell (p:=⟨wr.heap.size,2,none⟩) u).trans B;have C:=(S.cell (p:=⟨wr.heap.size,3,none⟩) u).trans C;obtain⟨kl,Hg⟩:=Qfh Hj.1 Hj.2;have H0:=hid Hg;have Ha:=Hk.bw (Hd.trans (S.mono Hd.size));have Hb:=Ha.own;have Hi:plainElem (H:=Value) Tryz.prog 3 (.int .i64 (k:Int))=some (.lit (.int .i64 (k:Int)),[]):=plainElem_int Tryz.underlying3 (wfI (by omega) (by omega));have Hh:keyOf Tryz.prog 104 (.agg #[.int .i64 r,.int .i64 q])=some kl:=Hg;have Hx:=hid Ha;clear qh z P Ha Hg;go_wp2_with (refine wpList_mapUpdate_own _ rfl _ _ _ 255 rfl 104 3 Qa1 Tryz.underlying255 (plainElem Tryz.prog 3) (w.heap.size) k D rfl Hb (by unfold maxLen;omega) _ _ kl rfl rfl Hh (.lit (.int .i64 (k:Int))) [] Hi ?_;intro w6 Hc Hf);have Hy:=hid (Hx.step (by rw [L.out];exact H0) Hc);have Hn:=O.trans (Hw.mono O.size);have Hv:=hid (Hn.grown Hf Hn.size (fun t e=>by injection e with e;omega));have HN:Hid (QbT R F T n l (k+1)):=hid (HI.step (by rw [L.out];exact Qcy.1 H2) (by rw [L.out];exact HA) (fun h=>by rw [L.out];exact He h));go_roundw;case rel=>exact⟨k+1,Hr,by go_num,Hv,⟨_,Hy⟩,HN⟩
        case measure=>simp [intOf];omega
   ·obtain rfl:k=l.length:=by omega
    have Hb:=Hk.own;have Gh:Hid (Y=((Maps.size D:Int)==(l.length:Int))):=hid (by
     rw [<- HY.out];by_cases e:Maps.size D=l.length
     ·rw [Qah ⟨by omega,HI.out,fun i hi j hj=>Hk.eq.1 e i hi j hj⟩,e];simp
     ·rw [Qaf (fun h=>e (Hk.eq.2 (fun i hi j hj=>h.2.2 i hi j hj)))];symm;simp;omega)
    have HZ:=hid Z;go_wp2_with (refine wpList_len_own _ rfl _ 255 rfl 104 3 Tryz.underlying255 _ _ _ _ rfl Hb ?_);go_ret;exact⟨Qay Gh.symm,HZ⟩
theorem QiF (a:Option Addr)(c:Nat)(l:List Lf)(x:Option Addr)(n d:Nat)(R F T:Nat ->Int)(w:World)(hn:l.length<=1048576)(hp:LBd l)(hi:∀i,LfI (gL l i))(hm:n<=1048576)(h:QbD w a l)(h':Qa7 w x n R F T):
  Cl 130 #[.agg #[.slice a l.length c,.slice x n d]] w fun e w'=>(∃M,e=.returned (.tuple #[M,.bool (yes (QaT R F T n l))]))/\ Bl w w':=by
 obtain⟨W,k⟩:=zE (w.alloc (.cells #[.slice a l.length c,.slice x n d] 40));have q:Bl w W:=by rw [<- k];exact zO _ _
 have U:w.heap.size<W.heap.size:=by rw [<- k];simp
 have k0:W.cell? ⟨w.heap.size,0,none⟩=some (.slice a l.length c):=by rw [<- k];simp
 have Q:W.cell? ⟨w.heap.size,1,none⟩=some (.slice x n d):=by rw [<- k];simp
 have V:=hid (h.bw q);have s:=hid (h'.bw q);have g:=hid q;clear h h' q;obtain⟨Y,y⟩:=zE (yes (QaT R F T n l));have u:=hid y;rw [y];clear y;cases hcx:Qdh R F T n with
 | false=>
  have b:Hid (Y=false):=hid (by rw [<- u.out];exact Qaf (fun h=>by have:=h.1;rw [hcx] at this;cases this));have m:=hid (QjS x n d R F T W hm s hcx);have J:=b.out;clear hcx b u;subst J;go_enter Tryz.func130,Tryz.ntmps130;go_wp2_with fail;try rw [k]
  clear k;refine m.mono ?_;rintro e w1 ⟨rfl,j⟩;have L:=(j.cell (p:=⟨w.heap.size,0,none⟩) U).trans k0;have v:=hid (Qaa g j);clear j m k0 Q;go_wp2_with fail;go_ret2;exact⟨⟨_,rfl⟩,v⟩
 | true=>
  have z:=Qax.1 hcx;have m:=hid (QmY x n d R F T W hm s hcx);have H:Hid (∀r,Srt (Lk R F T n r)):=hid (fun r=>(Qcg n z.1 r).1);have Z:Hid (∀r,(Lk R F T n r).length<=1000000):=hid (fun r=>by have:=Qbo R F T n r;have:=z.2;omega);have o:Hid (Y=yes (Qmg R F T n l)):=hid (by
   rw [<- u.out];by_cases e:Qmg R F T n l
   ·rw [Qah e,Qah ⟨hcx,e.1,e.2.1,e.2.2⟩]
   ·rw [Qaf e,Qaf (fun h=>e ⟨h.2.1,h.2.2.1,h.2.2.2⟩)])
  clear z hcx;go_enter Tryz.func130,Tryz.ntmps130;go_wp2_with fail;try rw [k]
  clear k;refine m.mono ?_;rintro e w1 ⟨I,D,G,rfl,O,K,j⟩;have L:=(j.cell (p:=⟨w.heap.size,0,none⟩) U).trans k0;have t:=hid (QgU a c l I n D G R F T w1 hn hp hi (V.bw j) O H Z);have v:=hid (Qaa g j);clear j m k0 Q O K;go_wp2_with fail;refine t.mono ?_;rintro e N ⟨rfl,E⟩;have A:=hid (Qaa v E);rw [<- o.out];clear E t o;cases Y with
  | true=>
   go_wp2_with fail;go_ret2;exact⟨⟨_,rfl⟩,A⟩
  | false=>
   go_wp2_with fail;go_ret2;exact⟨⟨_,rfl⟩,A⟩
end Go.Proofs.YtgmjgboibfdaeaaGreatDoor
