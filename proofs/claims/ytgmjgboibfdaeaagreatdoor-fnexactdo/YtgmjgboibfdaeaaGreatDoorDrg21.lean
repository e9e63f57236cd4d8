import Derived.Test.YtgmjgboibfdaeaaGreatDoorDrg20
set_option linter.unusedVariables false
set_option linter.unusedSimpArgs false
set_option maxRecDepth 100000
set_option maxHeartbeats 40000000
namespace Go.Proofs.YtgmjgboibfdaeaaGreatDoor
open Go.ChangeShapes Go.WideShapes Go.ChangeAt Go.RowKit Go.Deep
variable {D S:Sx}{W w w':World}{a a' x x':Option Addr}{b0 base c c' d d' g hi hi' lo lo':Nat}{held:Bool}{p:List ByteArray}{v v0 v1:Value}
def ChP (X Y:Sx)(C:Int)(w:World)(e:Ending)(w':World):Prop:=∃a m x t a' m' x' t',e=.returned (.tuple #[.agg #[.slice a X.l.length m,.slice x X.n t],.agg #[.slice a' Y.l.length m',.slice x' Y.n t'],.int .i64 C])/\ SNc w' w.heap.size a m x X/\ SNc w' w.heap.size a' m' x' Y/\ Bl w w'
theorem Qi1 (id:Int)(a x a' x' pa:Option Addr)(c d c' d' pc:Nat)(S D:Sx)(k:Int)(p:List ByteArray)(v:ByteArray)(X Y:Sx)(C:Int)(w:World)(hq:chg S id k p v=(X,Y,C))(hm:S.Sm)(hT:I64 S.T)(h1:QcF w a S.l)(h3:Qa7 w x S.n S.R S.F S.T)(hp:p.length<=1048576)(hpc:p.length<=pc/\ pc<=9223372036854775807)(hseg:Qaw w pa p)(hv:v.size<=1048576):
  Cl 19 #[.agg #[.int .i64 id,.slice a S.l.length c,.slice x S.n d,.slice a' D.l.length c',.slice x' D.n d'],.agg #[.int .i64 k,.slice pa p.length pc,.string v]] w fun e w'=>ChP X Y C w e w':=by
 obtain⟨W,m⟩:=zE ((((w.alloc (.cells #[.int .i64 id,.slice a S.l.length c,.slice x S.n d,.slice a' D.l.length c',.slice x' D.n d'] 42)).alloc (.cells #[.int .i64 k,.slice pa p.length pc,.string v] 46)).alloc (.cells #[.slice none 0 0,.slice none 0 0] 40)).alloc (.cells #[.slice none 0 0,.slice none 0 0] 40));have q:Bl w W:=by rw [<- m];exact(((Qae _ _ _).alloc (by simp;omega) _).alloc (by simp;omega) _)
 have zW:W.heap.size=w.heap.size+4:=by rw [<- m];simp
 have N:Bx5 W w.heap.size (.int .i64 id) (.slice a S.l.length c) (.slice x S.n d) (.slice a' D.l.length c') (.slice x' D.n d'):=by rw [<- m];exact(((Bx5.new w _ _ _ _ _ _).up _).up _).up _
 have O0:Bx3 W (w.heap.size+1) (.int .i64 k) (.slice pa p.length pc) (.string v):=by
  rw [<- m];have:=Bx3.made (w.alloc (.cells #[.int .i64 id,.slice a S.l.length c,.slice x S.n d,.slice a' D.l.length c',.slice x' D.n d'] 42)) (.int .i64 k) (.slice pa p.length pc) (.string v) 46;exact((by simpa using this:Bx3 _ (w.heap.size+1) _ _ _).up _).up _
 have R0:Bx2 W (w.heap.size+1+1) (.slice none 0 0) (.slice none 0 0):=by
  rw [<- m];have:=Bx2.made ((w.alloc (.cells #[.int .i64 id,.slice a S.l.length c,.slice x S.n d,.slice a' D.l.length c',.slice x' D.n d'] 42)).alloc (.cells #[.int .i64 k,.slice pa p.length pc,.string v] 46)) (.slice none 0 0) (.slice none 0 0) 40;exact(by simpa using this:Bx2 _ (w.heap.size+1+1) _ _).allocs _
 have Q0:Bx2 W (w.heap.size+1+1+1) (.slice none 0 0) (.slice none 0 0):=by
  rw [<- m];simpa using Bx2.made (((w.alloc (.cells #[.int .i64 id,.slice a S.l.length c,.slice x S.n d,.slice a' D.l.length c',.slice x' D.n d'] 42)).alloc (.cells #[.int .i64 k,.slice pa p.length pc,.string v] 46)).alloc (.cells #[.slice none 0 0,.slice none 0 0] 40)) (.slice none 0 0) (.slice none 0 0) 40
 have L:Hid ((k=1/\ Cl 35 #[.agg #[.slice a S.l.length c,.slice x S.n d],.int .i64 id,.slice pa p.length pc,.string v] W fun e w'=>ChP X Y C W e w') \/(k≠1/\ k=4/\ Cl 36 #[.agg #[.slice a S.l.length c,.slice x S.n d],.slice pa p.length pc] W fun e w'=>ChP X Y C W e w') \/k≠1/\ k≠4/\ Cl 37 #[.agg #[.slice a S.l.length c,.slice x S.n d],.int .i64 id,.slice pa p.length pc,.bool (k==2)] W fun e w'=>ChP X Y C W e w'):=hid (by
  unfold chg at hq;by_cases b:k=1
  ·rw [if_pos b] at hq;injection hq with g1 g2;injection g2 with g2 g3;subst g1 g2 g3;exact .inl ⟨b,Qf8 a c x d pa pc S id p v W hm hT (h1.bw q) (h3.bw q) hp hpc (hseg.bw q) hv⟩
  ·rw [if_neg b] at hq;by_cases Q:k=4
   ·rw [if_pos Q] at hq;injection hq with g1 g2;injection g2 with g2 g3;subst g1 g2 g3;exact .inr (.inl ⟨b,Q,Qh9 a c x d pa pc S p W hm (h1.bw q) (h3.bw q) hp hpc (hseg.bw q)⟩)
   ·rw [if_neg Q] at hq;injection hq with g1 g2;injection g2 with g2 g3;subst g1 g2 g3;exact .inr (.inr ⟨b,Q,Qgy a c x d pa pc S id p (k==2) W hm hT (h1.bw q) (h3.bw q) hp hpc (hseg.bw q)⟩))
 have HA:=hid N;have HO:=hid O0;have V:=hid R0;have U:=hid Q0;have B:=hid q;have P:Hid (w.heap.size+4<=W.heap.size):=hid (by omega);obtain⟨k0,k1,k2⟩:=N.q3;obtain⟨o0,o1,o2⟩:=O0.q3;clear q zW N O0 R0 Q0 h1 h3 hseg hpc hq;rcases L.out with ⟨rfl,h⟩|⟨b,rfl,h⟩|⟨b,Q,h⟩
 ·have s:=hid h;clear h L;go_enter Tryz.func19,Tryz.ntmps19;go_wp2_with fail;try rw [m]
  clear m;refine s.mono ?_;rintro e w4 ⟨r,y,o,g,u,z,i,t,rfl,M,O,j⟩;have I:=hid (V.bw j V.lt);have J:=hid (U.bw j U.lt);have Z:=hid (Qaa B j);have G:=hid M;have H:=hid O;clear j M O s k0 k1 k2 o0 o1 o2;obtain⟨r0,r1,rf,q0,q1,qf,K⟩:=Qeo I J (.slice r X.l.length y) (.slice o X.n g) (.slice u Y.l.length z) (.slice i Y.n t);go_wp2_with fail;obtain⟨A,E⟩:=K.out;refine zF (v:=.tuple #[.agg #[.slice r X.l.length y,.slice o X.n g],.agg #[.slice u Y.l.length z,.slice i Y.n t],.int .i64 C]) (by simp [results,Tryz.results19,go_sem,A.c0,A.c1,E.c0,E.c1]) ?_;have hz:=P.out;exact⟨r,y,o,g,u,z,i,t,rfl,QlO G (by omega) (by omega) (by omega) _ _ _ _,QlO H (by omega) (by omega) (by omega) _ _ _ _,Qbg Z (by omega) (by omega) _ _ _ _⟩
 ·have s:=hid h;clear h L;go_enter Tryz.func19,Tryz.ntmps19;go_wp2_with fail;try rw [m]
  clear m;refine s.mono ?_;rintro e w4 ⟨r,y,o,g,u,z,i,t,rfl,M,O,j⟩;have I:=hid (V.bw j V.lt);have J:=hid (U.bw j U.lt);have Z:=hid (Qaa B j);have G:=hid M;have H:=hid O;clear j M O s k0 k1 k2 o0 o1 o2;obtain⟨r0,r1,rf,q0,q1,qf,K⟩:=Qeo I J (.slice r X.l.length y) (.slice o X.n g) (.slice u Y.l.length z) (.slice i Y.n t);go_wp2_with fail;obtain⟨A,E⟩:=K.out;refine zF (v:=.tuple #[.agg #[.slice r X.l.length y,.slice o X.n g],.agg #[.slice u Y.l.length z,.slice i Y.n t],.int .i64 C]) (by simp [results,Tryz.results19,go_sem,A.c0,A.c1,E.c0,E.c1]) ?_;have hz:=P.out;exact⟨r,y,o,g,u,z,i,t,rfl,QlO G (by omega) (by omega) (by omega) _ _ _ _,QlO H (by omega) (by omega) (by omega) _ _ _ _,Qbg Z (by omega) (by omega) _ _ _ _⟩
 ·have d1:(k==1)=false:=by simpa using b
  have d4:(k==4)=false:=by simpa using Q
  obtain⟨on,Ha⟩:=zE ((k==2));rw [Ha] at h;clear b Q;have s:=hid h;clear h L;go_enter Tryz.func19,Tryz.ntmps19;go_wp2_with fail;try rw [m]
  clear m;refine s.mono ?_;rintro e w4 ⟨r,y,o,g,u,z,i,t,rfl,M,O,j⟩;have I:=hid (V.bw j V.lt);have J:=hid (U.bw j U.lt);have Z:=hid (Qaa B j);have G:=hid M;have H:=hid O;clear j M O s k0 k1 k2 o0 o1 o2;obtain⟨r0,r1,rf,q0,q1,qf,K⟩:=Qeo I J (.slice r X.l.length y) (.slice o X.n g) (.slice u Y.l.length z) (.slice i Y.n t);go_wp2_with fail;obtain⟨A,E⟩:=K.out;refine zF (v:=.tuple #[.agg #[.slice r X.l.length y,.slice o X.n g],.agg #[.slice u Y.l.length z,.slice i Y.n t],.int .i64 C]) (by simp [results,Tryz.results19,go_sem,A.c0,A.c1,E.c0,E.c1]) ?_;have hz:=P.out;exact⟨r,y,o,g,u,z,i,t,rfl,QlO G (by omega) (by omega) (by omega) _ _ _ _,QlO H (by omega) (by omega) (by omega) _ _ _ _,Qbg Z (by omega) (by omega) _ _ _ _⟩
def DoP (id:Int)(X Z:Sx)(C:Int)(w:World)(e:Ending)(w':World):Prop:=∃a ca x dx a' ca' x' dx',e=.returned (.tuple #[.agg #[.int .i64 id,.slice a X.l.length ca,.slice x X.n dx,.slice a' Z.l.length ca',.slice x' Z.n dx'],.int .i64 C])/\ SNu w' w.heap.size a x X/\ SNu w' w.heap.size a' x' Z/\ Bl w w'
theorem Qnn (id:Int)(g h g' h' lo mid hi pc:Nat)(S D:Sx)(k:Int)(pa:Option Addr)(p:List ByteArray)(v:ByteArray)(X Z:Sx)(C:Int)(w:World)(hq:doR id S D k p v=(X,Z,C))(hm:S.Sm)(hm':D.Sm)(hT:I64 S.T)(hS:SNw w lo mid g h S)(hD:SNw w mid hi g' h' D)(hp:p.length<=1048576)(hpc:p.length<=pc/\ pc<=9223372036854775807)(hseg:Qaw w pa p)(hv:v.size<=1048576):
  Cl 6 #[.agg #[.int .i64 id,.slice (some ⟨g,0,none⟩) S.l.length S.l.length,.slice (some ⟨h,0,none⟩) S.n S.n,.slice (some ⟨g',0,none⟩) D.l.length D.l.length,.slice (some ⟨h',0,none⟩) D.n D.n],.agg #[.int .i64 k,.slice pa p.length pc,.string v]] w fun e w'=>DoP id X Z C w e w':=by
 obtain⟨W,hW⟩:=zE (((w.alloc (.cells #[.int .i64 id,.slice (some ⟨g,0,none⟩) S.l.length S.l.length,.slice (some ⟨h,0,none⟩) S.n S.n,.slice (some ⟨g',0,none⟩) D.l.length D.l.length,.slice (some ⟨h',0,none⟩) D.n D.n] 42)).alloc (.cells #[.int .i64 k,.slice pa p.length pc,.string v] 46)).alloc (.cells #[.int .i64 0,.slice none 0 0,.slice none 0 0,.slice none 0 0,.slice none 0 0] 42));have y:Bl w W:=by rw [<- hW];exact(Qae _ _ _).alloc (by simp;omega) _
 have zW:W.heap.size=w.heap.size+3:=by rw [<- hW];simp
 have A0:Bx5 W w.heap.size (.int .i64 id) (.slice (some ⟨g,0,none⟩) S.l.length S.l.length) (.slice (some ⟨h,0,none⟩) S.n S.n) (.slice (some ⟨g',0,none⟩) D.l.length D.l.length) (.slice (some ⟨h',0,none⟩) D.n D.n):=by rw [<- hW];exact((Bx5.new w _ _ _ _ _ _).up _).up _
 have O0:Bx3 W (w.heap.size+1) (.int .i64 k) (.slice pa p.length pc) (.string v):=by
  rw [<- hW];have:=Bx3.made (w.alloc (.cells #[.int .i64 id,.slice (some ⟨g,0,none⟩) S.l.length S.l.length,.slice (some ⟨h,0,none⟩) S.n S.n,.slice (some ⟨g',0,none⟩) D.l.length D.l.length,.slice (some ⟨h',0,none⟩) D.n D.n] 42)) (.int .i64 k) (.slice pa p.length pc) (.string v) 46;exact(by simpa using this:Bx3 _ (w.heap.size+1) _ _ _).up _
 have R0:Bx5 W (w.heap.size+1+1) (.int .i64 0) (.slice none 0 0) (.slice none 0 0) (.slice none 0 0) (.slice none 0 0):=by
  rw [<- hW];simpa using Bx5.new ((w.alloc (.cells #[.int .i64 id,.slice (some ⟨g,0,none⟩) S.l.length S.l.length,.slice (some ⟨h,0,none⟩) S.n S.n,.slice (some ⟨g',0,none⟩) D.l.length D.l.length,.slice (some ⟨h',0,none⟩) D.n D.n] 42)).alloc (.cells #[.int .i64 k,.slice pa p.length pc,.string v] 46)) (.int .i64 0) (.slice none 0 0) (.slice none 0 0) (.slice none 0 0) (.slice none 0 0) 42
 have hl:=hm.l1;have Gb:=hm'.l1;have Hx:=hid (QeN id (some ⟨g,0,none⟩) (some ⟨h,0,none⟩) (some ⟨g',0,none⟩) (some ⟨h',0,none⟩) S.l.length S.n D.l.length D.n S D W zL (by omega) zL (by omega) hm hm' (hS.bw y).cap.cap (hS.bw y).rn (hD.bw y).cap.cap (hD.bw y).rn);have He:=hid (fun w1(hb:Bl W w1)=>Ql8 id g h g' h' lo mid hi S.l.length S.n D.l.length D.n S D w1 hm hm' (hS.bw (Qaa y hb)) (hD.bw (Qaa y hb)));have Hd:Hid (∀(w1 w2:World) (a x a' x':Option Addr) (ca dx ca' dx':Nat),Bl W w1 ->SNu w2 w1.heap.size a x S ->SNu w2 w1.heap.size a' x' D ->Bl w1 w2 ->w2.cell? ⟨w.heap.size+1+1,0,none⟩=some (.int .i64 0)/\ w2.cell? ⟨w.heap.size+1+1,1,none⟩=some (.slice none 0 0)/\ w2.cell? ⟨w.heap.size+1+1,2,none⟩=some (.slice none 0 0)/\ w2.cell? ⟨w.heap.size+1+1,3,none⟩=some (.slice none 0 0)/\ w2.cell? ⟨w.heap.size+1+1,4,none⟩=some (.slice none 0 0)/\ (∀i,w2.frozen? ⟨w.heap.size+1+1,i,none⟩=false)/\ Hid (∀C,DoP id S D C w (.returned (.tuple #[.agg #[.int .i64 id,.slice a S.l.length ca,.slice x S.n dx,.slice a' D.l.length ca',.slice x' D.n dx'],.int .i64 C])) (((((w2.setCell ⟨w.heap.size+1+1,0,none⟩ (.int .i64 id)).setCell ⟨w.heap.size+1+1,1,none⟩ (.slice a S.l.length ca)).setCell ⟨w.heap.size+1+1,2,none⟩ (.slice x S.n dx)).setCell ⟨w.heap.size+1+1,3,none⟩ (.slice a' D.l.length ca')).setCell ⟨w.heap.size+1+1,4,none⟩ (.slice x' D.n dx')))):=hid (fun w1 w2 a x a' x' ca dx ca' dx' h1 z t h2=>by
  have R2:=R0.bw (Qaa h1 h2) R0.lt;exact⟨R2.c0,R2.c1,R2.c2,R2.c3,R2.c4,R2.f,hid fun C=>⟨a,ca,x,dx,a',ca',x',dx',rfl,Qoe z t (by have:=h1.size;omega) (by omega) (Qaa y (Qaa h1 h2)) _ _ _ _ _⟩⟩)
 obtain⟨j,m,P,hc⟩:∃j m P,chg S id k p v=(j,m,P):=⟨_,_,_,rfl⟩;have H1:Hid (∀w1,Bl W w1 ->Cl 19 #[.agg #[.int .i64 id,.slice (some ⟨g,0,none⟩) S.l.length S.l.length,.slice (some ⟨h,0,none⟩) S.n S.n,.slice (some ⟨g',0,none⟩) D.l.length D.l.length,.slice (some ⟨h',0,none⟩) D.n D.n],.agg #[.int .i64 k,.slice pa p.length pc,.string v]] w1 fun e w'=>ChP j m P w1 e w'):=hid (fun w1 hb=>Qi1 id _ _ _ _ pa _ _ _ _ pc S D k p v j m P w1 hc hm hT (hS.bw (Qaa y hb)).cap.cap (hS.bw (Qaa y hb)).rn hp hpc (hseg.bw (Qaa y hb)) hv);have H2:Hid (∀w1,Bl W w1 ->SCt w1 (some ⟨g',0,none⟩) (some ⟨h',0,none⟩) D):=hid (fun w1 hb=>⟨(hD.bw (Qaa y hb)).cap.cap,(hD.bw (Qaa y hb)).rn⟩);have Hy:=hid (QfM hc);have G:=hid hq;have Ho:=hid hc;have H5:=hid hm';have HA:=hid A0;have HO:=hid O0;have HR:=hid R0;have HB:=hid y;have Ga:Hid (w.heap.size+3<=W.heap.size):=hid (by omega);obtain⟨k0,k1,k2,k3,k4⟩:=A0.q5;clear y zW A0 O0 R0 hS hD hseg hpc hq hc hl Gb hm';go_enter Tryz.func6,Tryz.ntmps6;go_wp2_with fail;try rw [hW]
 clear hW;refine Hx.mono ?_;rintro e w1 ⟨rfl,b1⟩;have q:=hid b1;have A1:=HA.bw b1 HA.lt;clear k0 k1 k2 k3 k4;obtain⟨k0,k1,k2,k3,k4⟩:=A1.q5;have O1:=HO.bw b1 HO.lt;obtain⟨o0,o1,o2⟩:=O1.q3;clear b1 A1 O1 Hx;cases hr:rpB id S D with
 | false=>
  have e:=G.out;rw [Qob hr] at e;injection e with e1 e2;injection e2 with e2 e3;subst e1 e2 e3;clear G;go_wp2_with fail;refine(He _ q).mono ?_;rintro e w5 ⟨s,M,V,Q,A,O,Y,U,rfl,z,t,o⟩;obtain⟨I,r1,r2,K,L,rf,H⟩:=Hd _ w5 s V A Y M Q O U q z t o;clear z t o;go_wp2_with fail;refine zF (v:=.tuple #[.agg #[.int .i64 id,.slice s S.l.length M,.slice V S.n Q,.slice A D.l.length O,.slice Y D.n U],.int .i64 1]) (by simp [results,Tryz.results6,go_sem,I,r1,r2,K,L]) ?_;exact H _
 | true=>
 go_upto_region 3 with fail;go_cut [33] from 14 to 33 (fun b wx=>b=.bool (!opB k v)/\ wx=w1);case first=>
  have he:v.toList.isEmpty=emB v:=rfl;obtain⟨E,hE⟩:=zE (emB v);have Hh:Hid (opB k v=(decide (1<=k) && (decide (k<=4) && (decide (k=1)||E)))):=hid (by unfold opB;rw [hE]);rw [hE] at he;clear hE;by_cases h1:k<1
  ·have d1:decide (k<1)=true:=decide_eq_true h1;go_wp2_with fail;go_meet;exact⟨by rw [Hh.out,decide_eq_false (by omega:¬1<=k)];rfl,rfl⟩
  ·have d1:decide (k<1)=false:=decide_eq_false h1;by_cases h4:4<k
   ·have d4:decide (4<k)=true:=decide_eq_true h4;go_wp2_with fail;go_meet;exact⟨by rw [Hh.out,decide_eq_false (by omega:¬k<=4),decide_eq_true (by omega:1<=k)];rfl,rfl⟩
   ·have d4:decide (4<k)=false:=decide_eq_false h4;by_cases h5:k=1
    ·subst h5;go_wp2_with fail;go_meet;exact⟨by rw [Hh.out];rfl,rfl⟩
    ·have d5:(k !=1)=true:=by simpa using h5
     have HG:Hid (opB k v=E):=hid (by rw [Hh.out,decide_eq_true (by omega:1<=k),decide_eq_true (by omega:k<=4),decide_eq_false h5];cases E<;>rfl);cases E with
     | true=>go_wp2_with fail;go_meet;exact⟨by rw [HG.out];rfl,rfl⟩
     | false=>go_wp2_with fail;go_meet;exact⟨by rw [HG.out];rfl,rfl⟩
 case rest=>
 obtain⟨rfl,rfl⟩:=hcut;cases ho:opB k v with
 | false=>
  have e:=G.out;rw [Qoc hr ho] at e;injection e with e1 e2;injection e2 with e2 e3;subst e1 e2 e3;clear G;go_wp2_with fail;refine(He _ q).mono ?_;rintro e w5 ⟨s,M,V,Q,A,O,Y,U,rfl,z,t,o⟩;obtain⟨I,r1,r2,K,L,rf,H⟩:=Hd _ w5 s V A Y M Q O U q z t o;clear z t o;go_wp2_with fail;refine zF (v:=.tuple #[.agg #[.int .i64 id,.slice s S.l.length M,.slice V S.n Q,.slice A D.l.length O,.slice Y D.n U],.int .i64 5]) (by simp [results,Tryz.results6,go_sem,I,r1,r2,K,L]) ?_;exact H _
 | true=>
 have Ht:=hid (H1 _ q);go_wp2_with fail;refine Ht.mono ?_;rintro e w3 ⟨N,xm,F,xt,Hj,Hk,Hm,Hl,rfl,s3,H0,b3⟩;obtain⟨U4,Hb⟩:=zE ((w3.alloc (.cells #[.slice N j.l.length xm,.slice F j.n xt] 40)).alloc (.cells #[.slice Hj m.l.length Hk,.slice Hm m.n Hl] 40));have b4:Bl w3 U4:=by rw [<- Hb];exact Qae _ _ _
 have N4:Bx2 U4 w3.heap.size (.slice N j.l.length xm) (.slice F j.n xt):=by rw [<- Hb];exact(Bx2.made w3 _ _ _).allocs _
 have M4:Bx2 U4 (w3.heap.size+1) (.slice Hj m.l.length Hk) (.slice Hm m.n Hl):=by
  rw [<- Hb];simpa using Bx2.made (w3.alloc (.cells #[.slice N j.l.length xm,.slice F j.n xt] 40)) (.slice Hj m.l.length Hk) (.slice Hm m.n Hl) 40
 have Hc:Hid (Bl W U4):=hid (Qaa (Qaa q b3) b4);have A4:=HA.bw Hc HA.lt;clear k0 k1 k2 k3 k4 o0 o1 o2;obtain⟨k0,k1,k2,k3,k4⟩:=A4.q5;obtain⟨n0,n1⟩:=N4.q2;obtain⟨m0,m1⟩:=M4.q2;have Hg:=hid N4;have Gc:=hid M4;have H3:=hid (s3.bw b4);have Hn:=hid (H0.bw b4);have H9:=hid q.size;clear s3 H0 b3 b4 A4 N4 M4 Ht;by_cases hC:P=0
 ·subst hC;have HJ:=hid (QiQ (some ⟨g',0,none⟩) (some ⟨h',0,none⟩) Hj Hm D.l.length D.n Hk Hl D m U4 H5 Hy.2.1 (H2 _ Hc) ⟨Hn.at.1,Hn.at.2⟩);go_wp2_with fail;try rw [Hb]
  clear Hb;refine HJ.mono ?_;rintro e w6 ⟨ja,jm,jx,jt,rfl,s6,b6,jc⟩;obtain⟨J,hJ⟩:=zE (jnZ D m);obtain⟨B,hB⟩:=zE (jnB D m);have Hz:SmI J:=by rw [<- hJ];exact Qit D m
  have Hf:Hid (jfB j D m=(B && (QcG J && QcG j))):=hid (by unfold jfB;rw [hB,hJ]);have H4:=hid hJ;rw [hJ] at s6 jc ⊢;rw [hB];obtain⟨R,Hi⟩:=zE (w6.alloc (.cells #[.slice ja J.l.length jm,.slice jx J.n jt] 40));have b7:Bl w6 R:=by rw [<- Hi];exact zO _ _
  have J7:Bx2 R w6.heap.size (.slice ja J.l.length jm) (.slice jx J.n jt):=by rw [<- Hi];exact Bx2.made _ _ _ _
  have Hq:=Qaa b6 b7;have H8:Hid (Bl W R):=hid (Qaa Hc Hq);have Ha:=hid Hq;have Hu:=hid J7;have H6:=hid (s6.bw b7);have Hv:=hid (fun u(hu:Bl R u)=>QgR ja jx jm jt J u jc.1 jc.2 Hz.1 (H6.bw hu).at.1 (H6.bw hu).at.2);have Hw:=hid (fun u(hu:Bl R u)=>QgR N F xm xt j u H3.cp.1 H3.cp.2 Hy.1.1 (H3.bw (Qaa Ha hu)).at.1 (H3.bw (Qaa Ha hu)).at.2);obtain⟨j0,j1⟩:=J7.q2;obtain⟨F1,Hr⟩:=zE (QcG J);obtain⟨F2,Hs⟩:=zE (QcG j);rw [Hr,Hs] at Hf;rw [Hr] at Hv;rw [Hs] at Hw;clear hJ hB Hr Hs s6 b6 b7 Hq jc Hz J7 HJ Hn n0 n1 m0 m1 k0 k1 k2 k3 k4;go_upto_region 9 with fail;try rw [Hi]
  clear Hi;go_cut [66] from 55 to 66 (fun b wx=>b=.bool (!jfB j D m)/\ Hid (Bl R wx));case first=>
   cases B with
   | false=>go_wp2_with fail;go_meet;exact⟨by rw [Hf.out];rfl,hid zI⟩
   | true=>
    go_wp2_with fail;refine(Hv R zI).mono ?_;rintro e u1 ⟨rfl,c1⟩;have Hp:=hid c1;have N8:=Hg.bw (Qaa Ha c1) Hg.lt;obtain⟨n0,n1⟩:=N8.q2;clear c1 N8;cases F1 with
    | false=>go_wp2_with fail;go_meet;exact⟨by rw [Hf.out];rfl,Hp⟩
    | true=>
     go_wp2_with fail;refine(Hw u1 Hp).mono ?_;rintro e u2 ⟨rfl,c2⟩;have H7:=hid (Qaa Hp c2);clear c2;go_wp2_with fail;go_meet;exact⟨by rw [Hf.out];cases F2<;>rfl,H7⟩
  case rest=>
  obtain⟨rfl,HV⟩:=hcut;have q:Hid (Bl W wc):=hid (Qaa H8 HV);have A8:=HA.bw q HA.lt;obtain⟨k0,k1,k2,k3,k4⟩:=A8.q5;cases hf:jfB j D m with
  | false=>
   have e:=G.out;rw [Qn8 hr ho Ho.out hf] at e;injection e with e1 e2;injection e2 with e2 e3;subst e1 e2 e3;clear G;go_wp2_with fail;refine(He _ q).mono ?_;rintro e w5 ⟨s,M,V,Q,A,O,Y,U,rfl,z,t,o⟩;obtain⟨I,r1,r2,K,L,rf,H⟩:=Hd _ w5 s V A Y M Q O U q z t o;clear z t o;go_wp2_with fail;refine zF (v:=.tuple #[.agg #[.int .i64 id,.slice s S.l.length M,.slice V S.n Q,.slice A D.l.length O,.slice Y D.n U],.int .i64 4]) (by simp [results,Tryz.results6,go_sem,I,r1,r2,K,L]) ?_;exact H _
  | true=>
   have e:=G.out;rw [Qoa hr ho Ho.out hf,H4.out] at e;injection e with e1 e2;injection e2 with e2 e3;subst e1 e2 e3;have N8:=Hg.bw (Qaa Ha HV) Hg.lt;have J8:=Hu.bw HV Hu.lt;obtain⟨n0,n1⟩:=N8.q2;obtain⟨j0,j1⟩:=J8.q2;have R8:=HR.bw q HR.lt;obtain⟨I,r1,r2,K,L,rf⟩:=R8.p5;have H:=hid (Qoe (w:=w) (r:=w.heap.size+1+1) (lo:=W.heap.size) (((H3.bw (Qaa Ha HV)).move H9 zL (fun _ _ _=>rfl)).nj:SNu wc W.heap.size N F j) (((H6.bw HV).move Hc.size zL (fun _ _ _=>rfl)).nj:SNu wc W.heap.size ja jx J) (by have:=Ga.out;omega) (by omega) (Qaa HB q) (.int .i64 id) (.slice N j.l.length xm) (.slice F j.n xt) (.slice ja J.l.length jm) (.slice jx J.n jt));clear A8 N8 J8 R8 G;go_wp2_with fail;refine zF (v:=.tuple #[.agg #[.int .i64 id,.slice N j.l.length xm,.slice F j.n xt,.slice ja J.l.length jm,.slice jx J.n jt],.int .i64 0]) (by simp [results,Tryz.results6,go_sem,I,r1,r2,K,L]) ?_;exact⟨N,xm,F,xt,ja,jm,jx,jt,rfl,H⟩
 ·have e:=G.out;rw [Qod hr ho Ho.out hC] at e;injection e with e1 e2;injection e2 with e2 e3;subst e1 e2 e3;clear G;have dC:(P !=0)=true:=by simpa using hC
  have q:=Hc;go_wp2_with fail;try rw [Hb]
  clear Hb;refine(He _ q).mono ?_;rintro e w5 ⟨s,M,V,Q,A,O,Y,U,rfl,z,t,o⟩;obtain⟨I,r1,r2,K,L,rf,H⟩:=Hd _ w5 s V A Y M Q O U q z t o;clear z t o;go_wp2_with fail;refine zF (v:=.tuple #[.agg #[.int .i64 id,.slice s S.l.length M,.slice V S.n Q,.slice A D.l.length O,.slice Y D.n U],.int .i64 P]) (by simp [results,Tryz.results6,go_sem,I,r1,r2,K,L]) ?_;exact H _
theorem Btw.wide(h:Btw lo hi w w')(h1:lo'<=lo)(h2:hi<=hi'):Btw lo' hi' w w':=⟨h.os,h.tape,h.output,h.size,fun g hg ho=>h.block g hg (by omega)⟩
theorem SNw.btw{k:Nat}(h:SNw w lo hi g k S)(hb:Btw lo' hi' w w')(hd:hi'<=lo):(∃m,w'.ownsRow lo 124 3 (.slice (some ⟨k,0,none⟩) S.n S.n) S.n m)/\ LMk w' lo hi g S.l:=
 ⟨by obtain⟨m,j⟩:=h.ro;exact⟨m,Qa6 j fun q hq=>hb.block q (j.lt q hq).2 (.inr (by have:=(j.lt q hq).1;omega))⟩,h.lm.same fun q h1 h2=>hb.block q (Nat.lt_of_lt_of_le h2 h.hl) (.inr (by omega))⟩
theorem QhA (id:Int)(a x a' x':Option Addr)(c d c' d':Nat)(S S':Sx)(w:World)(hb:S.Big)(hb':S'.Big)(h:SAt w a x S)(h':SAt w a' x' S'):
  Cl 4 #[.agg #[.int .i64 id,.slice a S.l.length c,.slice x S.n d,.slice a' S'.l.length c',.slice x' S'.n d'],.int .i64 1048576] w fun e w'=>(∃k',e=.returned (.int .i64 k')/\ (0<=k' ->(S.Sm/\ S'.Sm)/\ k'<=1048576))/\ Bl w w':=by
 obtain⟨W,v⟩:=zE (w.alloc (.cells #[.int .i64 id,.slice a S.l.length c,.slice x S.n d,.slice a' S'.l.length c',.slice x' S'.n d'] 29));have u:Bl w W:=by rw [<- v];exact zO _ _
 have y:Bx5 W w.heap.size (.int .i64 id) (.slice a S.l.length c) (.slice x S.n d) (.slice a' S'.l.length c') (.slice x' S'.n d'):=by rw [<- v];exact Bx5.new _ _ _ _ _ _ _
 have z:=hid (Qhj a c S.l x S.n d 1048576 W (by omega) (by omega) hb.l1 hb.n1 hb.b1 (h.lf.bw u));have s:=hid (fun k w1(h0:0<=k)(h1:k<=1048576)(hb1:Bl W w1)=>Qhj a' c' S'.l x' S'.n d' k w1 h0 h1 hb'.l1 hb'.n1 hb'.b1 (h'.lf.bw (Qaa u hb1)));obtain⟨k0,Q,U,V,Y⟩:=y.q5;have Z:=hid u;have m:=hid y;clear u y h h' hb hb';go_enter Tryz.func4,Tryz.ntmps4;go_wp2_with fail;try rw [v]
 clear v;refine z.mono ?_;rintro e w1 ⟨⟨q,rfl,F,K,g⟩,j⟩;have r:=m.bw j m.lt;have C:=r.c3;have D:=r.c4;have o:=hid (Qaa Z j);have G:=hid g;by_cases E:q<0
 ·have I:decide (q<0)=true:=by simpa using E
  clear g r m z k0 Q U V Y j;go_wp2_with fail;go_ret;exact⟨⟨_,rfl,fun h=>by omega⟩,o⟩
 ·have I:decide (q<0)=false:=by simpa using E
  have p:=hid (s q w1 (by omega) K j);clear g r m z k0 Q U V Y j s;go_wp2_with fail;refine p.mono ?_;rintro e T ⟨⟨t,rfl,P,R,O⟩,A⟩;have b:=hid (Qaa o A);have H:=hid O;clear O A p C D;by_cases M:t<0
  ·have J:decide (t<0)=true:=by simpa using M
   go_wp2_with fail;go_ret;exact⟨⟨_,rfl,fun h=>by omega⟩,b⟩
  ·have J:decide (t<0)=false:=by simpa using M
   go_wp2_with fail;go_ret;refine⟨⟨_,rfl,fun h=> ?_⟩,b⟩;obtain⟨⟨L,N⟩,X⟩:=G (by omega);obtain⟨⟨r1,r2⟩,B⟩:=H (by omega);exact⟨⟨⟨L,fun i=>(N i).1.1,X⟩,⟨r1,fun i=>(r2 i).1.1,B⟩⟩,by omega⟩
theorem Qfw (id:Int)(g k g' k' lo mid hi:Nat)(S S':Sx)(w:World)(hm:S.Sm)(hm':S'.Sm)(h:SNw w lo mid g k S)(h':SNw w mid hi g' k' S'):
  Cl 12 #[.agg #[.int .i64 id,.slice (some ⟨g,0,none⟩) S.l.length S.l.length,.slice (some ⟨k,0,none⟩) S.n S.n,.slice (some ⟨g',0,none⟩) S'.l.length S'.l.length,.slice (some ⟨k',0,none⟩) S'.n S'.n],.int .i64 1] w fun e w'=>(∃j:Nat,e=.returned (.int .i64 (j:Int))/\ j<=7000000000000)/\ Btw lo hi w w':=by
 obtain⟨W,t⟩:=zE (w.alloc (.cells #[.int .i64 id,.slice (some ⟨g,0,none⟩) S.l.length S.l.length,.slice (some ⟨k,0,none⟩) S.n S.n,.slice (some ⟨g',0,none⟩) S'.l.length S'.l.length,.slice (some ⟨k',0,none⟩) S'.n S'.n] 42));have z:Bl w W:=by rw [<- t];exact zO _ _
 have v:Bx5 W w.heap.size (.int .i64 id) (.slice (some ⟨g,0,none⟩) S.l.length S.l.length) (.slice (some ⟨k,0,none⟩) S.n S.n) (.slice (some ⟨g',0,none⟩) S'.l.length S'.l.length) (.slice (some ⟨k',0,none⟩) S'.n S'.n):=by rw [<- t];exact Bx5.new _ _ _ _ _ _ _
 have m:=h.bw z;have s:=h'.bw z;have o:Hid (lo<=mid/\ mid<=hi/\ hi<=w.heap.size):=hid ⟨by have:=h.k1;have:=h.k2;omega,by have:=h'.k1;have:=h'.k2;omega,h'.hl⟩;obtain⟨I,A⟩:=m.ro;have b:=hid (Qeg lo mid g k S.n 1 S.l I W (by omega) hm.l1 hm.p1 hm.n1 m.hl ⟨m.k1,m.k2⟩ m.lm A);have q:=hid s;have Q:=hid (Btw.bw (lo:=lo) (hi:=hi) z);have y:=hid v;have Y:=v.c1;have Z:=v.c2;clear h h' z v m s A;go_enter Tryz.func12,Tryz.ntmps12;go_wp2_with fail;try rw [t]
 clear t;refine b.mono ?_;rintro e w1 ⟨⟨j,K,rfl⟩,u⟩;have i:=u.block w.heap.size y.lt (.inr (by have:=o.out;omega));have G:=(World.cell?_of_block (a:=⟨w.heap.size,3,none⟩) i).trans y.c3;have H:=(World.cell?_of_block (a:=⟨w.heap.size,4,none⟩) i).trans y.c4;obtain⟨⟨J,E⟩,M⟩:=q.btw u zL;have p:=hid (Qeg mid hi g' k' S'.n j S'.l J w1 (by omega) hm'.l1 hm'.p1 hm'.n1 (Nat.le_trans q.hl u.size) ⟨q.k1,q.k2⟩ M E);have U:=hid (Q.trans (u.wide zL o.2.1));clear u i E M b Y Z y q;go_wp2_with fail;refine p.mono ?_;rintro e N ⟨⟨r,L,rfl⟩,O⟩;have V:=hid (U.trans (O.wide o.1 zL));clear O p G H;go_wp2_with fail;go_ret;exact⟨⟨r,rfl,by omega⟩,V⟩
theorem QiI {H:Type}{enc:TypeId×Value ->H}{fuel:Nat}{spare:Nat ->Bool}{y:DataW H×List MemPlace}
  (h:DataW.trod enc Tryz.prog W base spare held fuel 27 [v0,v1]=some y):∃a c x d S,v0=.slice a (Sx.l S).length c/\ v1=.slice x S.n d/\ S.Big/\ I64 S.T/\ SAt W a x S:=by
 obtain⟨M,O,n,_,_,j,k⟩:=trod_struct2 Tryz.underlying27 h;have u:Tryz.prog.cellsOf 22=1:=by kernel_rfl
 have v:Tryz.prog.cellsOf 25=1:=by kernel_rfl
 have z:Tryz.prog.cellsOf 23=1:=by kernel_rfl
 simp [Value.cells,u,v] at j k;obtain⟨Q,s,_,_,q⟩:=trod_struct1 Tryz.underlying25 k;simp [z] at q;obtain⟨a,l,c,r,t,o,i,b⟩:=Qh7 j;obtain⟨x,m,e,R,F,T,g,r1,r2,A,E,p⟩:=QiH q;simp at r;subst r g;exact⟨a,c,x,e,⟨l,m,R,F,T⟩,rfl,rfl,⟨t,i,b,r1⟩,p,⟨o,r2⟩⟩
theorem Qf2 {H:Type}{enc:TypeId×Value ->H}{r:Reach}{spare:Nat ->Bool}{d:DataW H}{p:List MemPlace}
  (hval:Value.okWide Tryz.prog W r b0 29 v) (h:DataW.Trod enc Tryz.prog W base spare held 29 v d p):
  ∃id a c x e S k c' m e' j,v=.agg #[.int .i64 id,.slice a (Sx.l S).length c,.slice x S.n e,.slice k (Sx.l j).length c',.slice m j.n e']/\ (Lit.int .i64 id).wf=true/\ S.Big/\ j.Big/\ I64 S.T/\ SAt W a x S/\ SAt W k m j:=by
 obtain⟨U,rfl,M⟩:=okWide_struct Tryz.underlying29 hval;obtain⟨v0,v1,v2,v3,v4,rfl⟩:=QmO (M.trans (show Tryz.prog.cellsOf 29=5 by kernel_rfl));obtain⟨V,s⟩:=h;obtain⟨Y,Z,G,n,_,_,q,u,y⟩:=trod_struct3 Tryz.underlying29 s;have g:Tryz.prog.cellsOf 3=1:=by kernel_rfl
 have t:Tryz.prog.cellsOf 27=2:=by kernel_rfl
 simp [Value.cells,g,t] at q u y;obtain⟨Q,z,_,O⟩:=DataW.trod_int Tryz.underlying3 q;simp at z;subst z;obtain⟨a,c,x,d,S,rfl,rfl,i,o,A⟩:=QiI u;obtain⟨k,c',m,d',j,rfl,rfl,b,_,E⟩:=QiI y;exact⟨Q,a,c,x,d,S,k,c',m,d',j,rfl,O,i,b,o,A,E⟩
theorem Bx3.far2{b:Nat}{v2:Value}(h:Bx3 w b v0 v1 v2)(t:Nat)(hne:t≠b)(u1 u2:Value):Bx3 ((w.setCell ⟨t,1,none⟩ u1).setCell ⟨t,2,none⟩ u2) b v0 v1 v2:=by
 have e:((w.setCell ⟨t,1,none⟩ u1).setCell ⟨t,2,none⟩ u2).heap[b]? =w.heap[b]? :=by rw [zH _ _ _ _ (Ne.symm hne),zH _ _ _ _ (Ne.symm hne)]
 exact⟨(World.cell?_of_block (a:=⟨b,0,none⟩) e).trans h.c0,(World.cell?_of_block (a:=⟨b,1,none⟩) e).trans h.c1,(World.cell?_of_block (a:=⟨b,2,none⟩) e).trans h.c2,fun i=>(World.frozen?_of_block (a:=⟨b,i,none⟩) e).trans (h.f i),by simp [World.setCell];exact h.lt⟩
theorem QmZ {H:Type}{enc:TypeId×Value ->H}{r:Reach}{spare:Nat ->Bool}{d:DataW H}{q:List MemPlace}
  (hval:Value.okWide Tryz.prog W r b0 32 v) (h:DataW.Trod enc Tryz.prog W base spare held 32 v d q):
  ∃k j p pc s,v=.agg #[.int .i64 k,.slice j (List.length p) pc,.string s]/\ Qaw W j p/\ QlZ p/\ s.size<=9223372036854775807:=by
 obtain⟨m,rfl,V⟩:=okWide_struct Tryz.underlying32 hval;have A:m.size=3:=V.trans (show Tryz.prog.cellsOf 32=3 by kernel_rfl);obtain⟨v0,v1,v2,rfl⟩:∃v0 v1 v2,m=#[v0,v1,v2]:=by
  obtain⟨l⟩:=m;match l,A with
  | [c0,c1,c2],_=>exact⟨c0,c1,c2,rfl⟩
 obtain⟨Z,O⟩:=h;obtain⟨I,J,K,n,_,_,u,y,z⟩:=trod_struct3 Tryz.underlying32 O;have i:Tryz.prog.cellsOf 3=1:=by kernel_rfl
 have b:Tryz.prog.cellsOf 30=1:=by kernel_rfl
 have E:Tryz.prog.cellsOf 9=1:=by kernel_rfl
 simp [Value.cells,i,b,E] at u y z;obtain⟨Y,o,_,G⟩:=DataW.trod_int Tryz.underlying3 u;simp at o;subst o;obtain⟨j,p,pc,g,Q,M⟩:=QgZ y;simp at g;subst g;obtain⟨s,t,_,U⟩:=DataW.trod_string Tryz.underlying9 z;simp at t;subst t;exact⟨Y,j,p,pc,s,rfl,Q,M,by unfold maxLen at U;omega⟩
theorem QnS (k:Int)(pa:Option Addr)(pc:Nat)(p:List ByteArray)(v:ByteArray)(n:Int)(w:World)(h0:0<=n)(h1:n<=1048576)(hb:QlZ p)(hv:v.size<=9223372036854775807)(h:Qaw w pa p):
  Cl 5 #[.agg #[.int .i64 k,.slice pa p.length pc,.string v],.int .i64 n] w fun e w'=>(∃k',e=.returned (.int .i64 k')/\ (0<=k' ->PSm p/\ v.size<=1048576))/\ Bl w w':=by
 obtain⟨W,j⟩:=zE (w.alloc (.cells #[.int .i64 k,.slice pa p.length pc,.string v] 32));have y:Bl w W:=by rw [<- j];exact zO _ _
 have u:Bx3 W w.heap.size (.int .i64 k) (.slice pa p.length pc) (.string v):=by rw [<- j];exact Bx3.made _ _ _ _ _
 have z:=hid (Qf9 pa pc p n W h0 h1 hb (h.bw y));have r:=hid y;have Q:=u.c1;have U:=u.c2;clear h y u hb;go_enter Tryz.func5,Tryz.ntmps5;go_wp2_with fail;try rw [j]
 clear j;refine z.mono ?_;rintro e w1 ⟨⟨m,rfl,M,O,i⟩,rfl⟩;have s:=hid i;clear i z;by_cases t:m<0
 ·have A:decide (m<0)=true:=by simpa using t
  go_wp2_with fail;go_ret;exact⟨⟨_,rfl,fun h=>by omega⟩,r⟩
 ·have A:decide (m<0)=false:=by simpa using t
  obtain⟨q,g⟩:=zE (m - (v.size:Int));have V:IntKind.i64.wrap (m - (v.size:Int))=q:=by rw [IntKind.wrap_i64];omega
  have b:=hid g;clear g;by_cases o:q<0
  ·have E:decide (q<0)=true:=by simpa using o
   go_wp2_with fail;go_ret;exact⟨⟨_,rfl,fun h=>by omega⟩,r⟩
  ·have E:decide (q<0)=false:=by simpa using o
   go_wp2_with fail;go_ret;exact⟨⟨_,rfl,fun _=>⟨s (by omega),by have:=b.out;omega⟩⟩,r⟩
structure OpN (w:World)(lo hi g:Nat)(p:List ByteArray):Prop where
 sg:Qaw w (some ⟨g,0,none⟩) p
 pm:PMk w g p.length
 l1:lo<=g
 l2:g<hi
 l3:hi<=w.heap.size
theorem OpN.same(h:OpN w lo hi g p)(hs:w.heap.size<=w'.heap.size)(e:w'.heap[g]? =w.heap[g]?):OpN w' lo hi g p:=by
 refine⟨?_,h.pm.same e,h.l1,h.l2,Nat.le_trans h.l3 hs⟩;rcases h.sg with k|⟨b,r,j,m,q⟩
 ·exact .inl k
 ·injection j with j;injection j with e1 e2 _;subst e1 e2;exact .inr ⟨_,_,rfl,Nat.lt_of_lt_of_le m hs,fun i hi=>(World.cell?_of_block (a:=⟨g,0+i,none⟩) e).trans (q i hi)⟩
theorem OpN.bw(h:OpN w lo hi g p)(hb:Bl w w'):OpN w' lo hi g p:=h.same hb.size (hb.block g (Nat.lt_of_lt_of_le h.l2 h.l3))
theorem QnU (k:Int)(pa:Option Addr)(pc:Nat)(p:List ByteArray)(v:ByteArray)(w:World)(hp:p.length<=1048576)(h:Qaw w pa p):
  Cl 8 #[.agg #[.int .i64 k,.slice pa p.length pc,.string v]] w fun e w'=>∃g,e=.returned (.agg #[.int .i64 k,.slice (some ⟨g,0,none⟩) p.length p.length,.string v])/\ OpN w' w.heap.size w'.heap.size g p/\ Bl w w':=by
 obtain⟨W,j⟩:=zE (((w.alloc (.cells #[.int .i64 k,.slice pa p.length pc,.string v] 32)).alloc (.cells #[.int .i64 0,.slice none 0 0,.string ⟨#[]⟩] 46)).alloc (.cells #[.int .i64 k,.slice none 0 0,.string ⟨#[]⟩] 46));have y:Bl w W:=by rw [<- j];exact(Qae _ _ _).alloc (by simp;omega) _
 have R:W.heap.size=w.heap.size+3:=by rw [<- j];simp
 have r:Bx3 W w.heap.size (.int .i64 k) (.slice pa p.length pc) (.string v):=by rw [<- j];exact((Bx3.made w _ _ _ _).up _).up _
 have Y:Bx3 W (w.heap.size+1) (.int .i64 0) (.slice none 0 0) (.string ⟨#[]⟩):=by
  rw [<- j];have:=Bx3.made (w.alloc (.cells #[.int .i64 k,.slice pa p.length pc,.string v] 32)) (.int .i64 0) (.slice none 0 0) (.string ⟨#[]⟩) 46;exact(by simpa using this:Bx3 _ (w.heap.size+1) _ _ _).up _
 have H:Bx3 W (w.heap.size+1+1) (.int .i64 k) (.slice none 0 0) (.string ⟨#[]⟩):=by
  rw [<- j];simpa using Bx3.made ((w.alloc (.cells #[.int .i64 k,.slice pa p.length pc,.string v] 32)).alloc (.cells #[.int .i64 0,.slice none 0 0,.string ⟨#[]⟩] 46)) (.int .i64 k) (.slice none 0 0) (.string ⟨#[]⟩) 46
 have M:=hid (QfB pa pc p W hp (h.bw y));have A:=hid r;have E:=hid Y;have O:=hid H;have K:=hid y;have B:Hid (w.heap.size+3<=W.heap.size):=hid (by omega);obtain⟨C,D⟩:=r.q2;clear h y R r Y H;go_enter Tryz.func8,Tryz.ntmps8;go_wp2_with fail;try rw [j]
 clear j;refine M.mono ?_;rintro e w1 ⟨rfl,i,q,b,xs,o⟩;obtain⟨g,z⟩:=zE W.heap.size;have t:=B.out;rw [z] at i b o t ⊢;have Q:OpN w1 g w1.heap.size g p:=⟨i,PMk.of o,Nat.le_refl _,b,Nat.le_refl _⟩;have V:=A.bw q A.lt;have Z:=E.bw q E.lt;have m:=O.bw q O.lt;have L:=hid (Qaa K q);have I:=(m.set1 (.slice (some ⟨g,0,none⟩) p.length p.length)).set2 (.string v);have S:(w1.setCell ⟨w.heap.size+1+1,1,none⟩ (.slice (some ⟨g,0,none⟩) p.length p.length)).cell? ⟨w.heap.size,2,none⟩=some (.string v):=(World.cell?_setCell_far _ _ _ _ (by simp;omega)).trans V.c2;have u:=Z.far2 (w.heap.size+1+1) (by omega) (.slice (some ⟨g,0,none⟩) p.length p.length) (.string v);have G:=u.set (.int .i64 k) (.slice (some ⟨g,0,none⟩) p.length p.length) (.string v);have x1:=m.c1;have xf:=m.f;have y2:=(m.set1 (.slice (some ⟨g,0,none⟩) p.length p.length)).c2;have yf:=(m.set1 (.slice (some ⟨g,0,none⟩) p.length p.length)).f;obtain⟨z0,Ha,z2⟩:=I.q3;obtain⟨T,r1,r2,rf⟩:=u.p3;have X:=hid G;have s:=hid Q;have N:Hid (w.heap.size+3<=g/\ g<=w1.heap.size):=hid ⟨t,by omega⟩;clear z i q b o Q V Z m I u G M C D t;go_wp2_with fail;obtain⟨F,P,J⟩:=X.q3;refine zF (v:=.agg #[.int .i64 k,.slice (some ⟨g,0,none⟩) p.length p.length,.string v]) (by simp [results,Tryz.results8,go_sem,F,P,J]) ?_;have z:=N.out;refine⟨g,rfl,?_,?_⟩
 ·have U:=s.same (w':=((((w1.setCell ⟨w.heap.size+1+1,1,none⟩ (.slice (some ⟨g,0,none⟩) p.length p.length)).setCell ⟨w.heap.size+1+1,2,none⟩ (.string v)).setCell ⟨w.heap.size+1,0,none⟩ (.int .i64 k)).setCell ⟨w.heap.size+1,1,none⟩ (.slice (some ⟨g,0,none⟩) p.length p.length)).setCell ⟨w.heap.size+1,2,none⟩ (.string v)) (by simp [World.setCell]) (by rw [zH _ _ _ _ (by simp;omega),zH _ _ _ _ (by simp;omega),zH _ _ _ _ (by simp;omega),zH _ _ _ _ (by simp;omega),zH _ _ _ _ (by simp;omega)]);exact⟨U.sg,U.pm,by omega,by have:=s.l2;simpa [World.setCell] using this,Nat.le_refl _⟩
 ·repeat (refine Below.setCell ?_ (by simp;try omega) _)
  exact L
theorem Qn9 (k:Int)(g g':Nat)(p:List ByteArray)(v:ByteArray)(w:World)(hp:p.length<=1048576)(h:Qaw w (some ⟨g,0,none⟩) p)(h':Qaw w (some ⟨g',0,none⟩) p):
  Cl 11 #[.agg #[.int .i64 k,.slice (some ⟨g,0,none⟩) p.length p.length,.string v],.agg #[.int .i64 k,.slice (some ⟨g',0,none⟩) p.length p.length,.string v]] w (Rt w (.bool true)):=by
 obtain⟨W,j⟩:=zE ((w.alloc (.cells #[.int .i64 k,.slice (some ⟨g,0,none⟩) p.length p.length,.string v] 46)).alloc (.cells #[.int .i64 k,.slice (some ⟨g',0,none⟩) p.length p.length,.string v] 46));have m:Bl w W:=by rw [<- j];exact Qae _ _ _
 have r:Bx3 W w.heap.size (.int .i64 k) (.slice (some ⟨g,0,none⟩) p.length p.length) (.string v):=by rw [<- j];exact(Bx3.made w _ _ _ _).up _
 have u:Bx3 W (w.heap.size+1) (.int .i64 k) (.slice (some ⟨g',0,none⟩) p.length p.length) (.string v):=by
  rw [<- j];simpa using Bx3.made (w.alloc (.cells #[.int .i64 k,.slice (some ⟨g,0,none⟩) p.length p.length,.string v] 46)) (.int .i64 k) (.slice (some ⟨g',0,none⟩) p.length p.length) (.string v) 46
 have i:=hid (Qfj (some ⟨g,0,none⟩) (some ⟨g',0,none⟩) p.length p.length p W hp (h.bw m) (h'.bw m));have b:=hid m;have t:=hid r;have o:=hid u;obtain⟨A,E⟩:=r.q2;obtain⟨O,Q⟩:=u.q2;have V:(k !=k)=false:=by simp
 clear h h' m r u;go_enter Tryz.func11,Tryz.ntmps11;go_wp2_with fail;try rw [j]
 clear j;try go_wp2_with fail
 refine i.mono ?_;rintro e w1 ⟨rfl,q⟩;have y:=t.bw q t.lt;have z:=o.bw q o.lt;have M:=y.c2;have U:=z.c2;have s:=hid (Qaa b q);have Z:(v.toList==v.toList)=true:=by simp
 have Y:(v.toList !=v.toList)=false:=by simp
 clear q y z i;go_wp2_with fail;go_ret;exact⟨rfl,s⟩
theorem QlB (k:Int)(lo hi g n:Nat)(p:List ByteArray)(v:ByteArray)(w:World)(hn:n<=9000000000000)(hp:p.length<=1048576)(h:OpN w lo hi g p):
  Cl 13 #[.agg #[.int .i64 k,.slice (some ⟨g,0,none⟩) p.length p.length,.string v],.int .i64 (n:Int)] w fun e w'=>(∃m:Nat,e=.returned (.int .i64 (m:Int)))/\ Btw lo hi w w':=by
 obtain⟨W,u⟩:=zE (w.alloc (.cells #[.int .i64 k,.slice (some ⟨g,0,none⟩) p.length p.length,.string v] 46));have r:Bl w W:=by rw [<- u];exact zO _ _
 have t:Bx3 W w.heap.size (.int .i64 k) (.slice (some ⟨g,0,none⟩) p.length p.length) (.string v):=by rw [<- u];exact Bx3.made _ _ _ _ _
 have z:=h.bw r;obtain⟨s,b⟩:=z.pm.wr;have y:=hid (Qcs g p.length p.length n s W (by omega) b);have E:Hid (lo<=g/\ g<hi):=hid ⟨h.l1,h.l2⟩;have A:=hid (Btw.bw (lo:=lo) (hi:=hi) r);have O:=hid r.size;have M:=t.c1;clear h r t z b;go_enter Tryz.func13,Tryz.ntmps13;go_wp2_with fail;try rw [u]
 clear u;refine y.mono ?_;rintro e w1 ⟨rfl,o,_,_⟩;have j:=hid o;obtain⟨m,i⟩:=zE (n+p.length);rw [i];clear o i y M;go_wp2_with fail;go_ret;have Q:=E.out;exact⟨⟨m,rfl⟩,A.trans ⟨j.os,j.tape,j.output,j.size,fun q hq ho=>j.block q hq (fun e=>by injection e with e;omega)⟩⟩
theorem Qfx (id:Int){mid:Nat}(hm:S.Sm)(hm':D.Sm)(h:SOw w lo mid a x d S)(h':SOw w mid hi a' x' d' D):
  Cl 12 #[.agg #[.int .i64 id,.slice a S.l.length c,.slice x S.n d,.slice a' D.l.length c',.slice x' D.n d'],.int .i64 1] w fun e w'=>e=.returned (.int .i64 (mE D (mE S 1):Int))/\ Btw lo hi w w'/\ Qjm w' lo mid a x S 1/\ Qjm w' mid hi a' x' D (mE S 1):=by
 obtain⟨W,y⟩:=zE (w.alloc (.cells #[.int .i64 id,.slice a S.l.length c,.slice x S.n d,.slice a' D.l.length c',.slice x' D.n d'] 42));have j:Bl w W:=by rw [<- y];exact zO _ _
 have r:Bx5 W w.heap.size (.int .i64 id) (.slice a S.l.length c) (.slice x S.n d) (.slice a' D.l.length c') (.slice x' D.n d'):=by rw [<- y];exact Bx5.new _ _ _ _ _ _ _
 have k:Hid (lo<=mid/\ mid<=hi/\ hi<=w.heap.size):=hid ⟨h.hl.1,h'.hl.1,h'.hl.2⟩;have I:=(QjK hm 1).1;have g:=hid (Qeh (c:=c) (h.bw j) hm 1 (by omega));have u:=hid (fun w1(t:Btw lo mid W w1)=>Qeh (c:=c') ((h'.bw j).same t.size (fun q h1 h2=>t.block q (Nat.lt_of_lt_of_le h2 (h'.bw j).hl.2) (.inr h1))) hm' (mE S 1) (by omega));have M:=hid (Btw.bw (lo:=lo) (hi:=hi) j);have v:=hid r;have U:Hid (w.heap.size<=W.heap.size):=hid j.size;obtain⟨E,i⟩:=zE (mE S 1);rw [i] at g u I ⊢;have H:mE S 1=E:=i;obtain⟨X,p⟩:=zE (mE D E);rw [p] at u ⊢;have J:=r.c1;have K:=r.c2;clear h h' j r i p H;go_enter Tryz.func12,Tryz.ntmps12;go_wp2_with fail;try rw [y]
 clear y;refine g.mono ?_;rintro e w1 ⟨rfl,m,s⟩;have o:=m.block w.heap.size v.lt (.inr (by have:=k.out;omega));have L:=(World.cell?_of_block (a:=⟨w.heap.size,3,none⟩) o).trans v.c3;have N:=(World.cell?_of_block (a:=⟨w.heap.size,4,none⟩) o).trans v.c4;have b:=hid (u w1 m);have V:=hid s;have O:=hid (M.trans (m.wide zL k.2.1));have G:Hid (hi<=w1.heap.size):=hid (by have:=m.size;have:=k.out;have:=U.out;omega);clear m s o g u J K v;go_wp2_with fail;refine b.mono ?_;rintro e B ⟨rfl,z,A⟩;have Q:=hid (O.trans (z.wide k.1 zL));have Z:=hid A;have Y:=hid (V.move z.size (fun q h1 h2=>z.block q (by have:=G.out;have:=k.out;omega) (.inl h2)));clear z A b L N;go_wp2_with fail;go_ret;exact⟨rfl,Q,Y,Z⟩
theorem Qfn (id:Int)(hm:S.Sm)(hm':D.Sm)(h:SMk w a x S 1)(h':SMk w a' x' D (mE S 1)):
  Cl 14 #[.agg #[.int .i64 id,.slice a S.l.length c,.slice x S.n d,.slice a' D.l.length c',.slice x' D.n d'],.int .i64 1] w (Rt w (.int .i64 (mE D (mE S 1):Int))):=by
 obtain⟨W,r⟩:=zE (w.alloc (.cells #[.int .i64 id,.slice a S.l.length c,.slice x S.n d,.slice a' D.l.length c',.slice x' D.n d'] 42));have m:Bl w W:=by rw [<- r];exact zO _ _
 have j:Bx5 W w.heap.size (.int .i64 id) (.slice a S.l.length c) (.slice x S.n d) (.slice a' D.l.length c') (.slice x' D.n d'):=by rw [<- r];exact Bx5.new _ _ _ _ _ _ _
 have A:=(QjK hm 1).1;have u:=hid (Qeb (c:=c) (d:=d) hm 1 (by omega) (h.bw m));have k:=hid (fun w1(hb:Bl W w1)=>Qeb (c:=c') (d:=d') hm' (mE S 1) (by omega) (h'.bw (Qaa m hb)));have b:=hid m;have v:=hid j;obtain⟨E,t⟩:=zE (mE S 1);rw [t] at u k A ⊢;obtain⟨i,o⟩:=zE (mE D E);rw [o] at k ⊢;have V:decide ((E:Int)<0)=false:=by simp
 have Y:decide ((i:Int)<0)=false:=by simp
 have M:=j.c1;have O:=j.c2;clear h h' m j t o;go_enter Tryz.func14,Tryz.ntmps14;go_wp2_with fail;try rw [r]
 clear r;refine u.mono ?_;rintro e w1 ⟨rfl,q⟩;have y:=v.bw q v.lt;have Q:=y.c3;have U:=y.c4;have z:=hid (k w1 q);have p:=hid (Qaa b q);clear q y u k M O v;go_wp2_with fail;refine z.mono ?_;rintro e Z ⟨rfl,g⟩;have s:=hid (Qaa p g);clear g z Q U;go_wp2_with fail;go_ret;exact⟨rfl,s⟩
section
variable {w wk wk' : World} {id k : Int} {a x a' x' pa : Option Addr} {c d c' d' pc : Nat} {S D X Z : Sx} {p : List ByteArray} {v : ByteArray}
structure KD (w wk:World)(id k:Int)(a x a' x' pa:Option Addr)(c d c' d' pc:Nat)(S D:Sx)(p:List ByteArray)(v:ByteArray):Prop where
 low:Bl w wk
 rb:Bx5 wk w.heap.size (.int .i64 id) (.slice a S.l.length c) (.slice x S.n d) (.slice a' D.l.length c') (.slice x' D.n d')
 ob:Bx3 wk (w.heap.size+1) (.int .i64 k) (.slice pa p.length pc) (.string v)
theorem KD.bw (h:KD w wk id k a x a' x' pa c d c' d' pc S D p v)(hb:Bl wk wk'):KD w wk' id k a x a' x' pa c d c' d' pc S D p v:=⟨Qaa h.low hb,h.rb.bw hb h.rb.lt,h.ob.bw hb h.ob.lt⟩
structure AnP (wk:World)(id:Int)(A:Nat)(sa sx sa' sx':Option Addr)(sc sd sc' sd':Nat)(X Z:Sx):Prop where
 wb:Bx5 wk A (.int .i64 id) (.slice sa X.l.length sc) (.slice sx X.n sd) (.slice sa' Z.l.length sc') (.slice sx' Z.n sd')
 s1:SAt wk sa sx X
 s2:SAt wk sa' sx' Z
theorem AnP.bw {A sc sd sc' sd':Nat}{sa sx sa' sx':Option Addr}(h:AnP wk id A sa sx sa' sx' sc sd sc' sd' X Z)(hb:Bl wk wk'):AnP wk' id A sa sx sa' sx' sc sd sc' sd' X Z:=⟨h.wb.bw hb h.wb.lt,h.s1.bw hb,h.s2.bw hb⟩
structure KG (wk:World)(id:Int)(bG lo m hi:Nat)(ia ix ia' ix':Option Addr)(ic ie ic' ie':Nat)(X Z:Sx):Prop where
 gb:Bx5 wk bG (.int .i64 id) (.slice ia X.l.length ic) (.slice ix X.n ie) (.slice ia' Z.l.length ic') (.slice ix' Z.n ie')
 s1:SOw wk lo m ia ix ie X
 s2:SOw wk m hi ia' ix' ie' Z
theorem KG.bw {bG lo m hi ic ie ic' ie':Nat}{ia ix ia' ix':Option Addr}(h:KG wk id bG lo m hi ia ix ia' ix' ic ie ic' ie' X Z)(hb:Bl wk wk'):KG wk' id bG lo m hi ia ix ia' ix' ic ie ic' ie' X Z:=⟨h.gb.bw hb h.gb.lt,h.s1.bw hb,h.s2.bw hb⟩
theorem Bx5.atB {b:Nat}{v0 v1 v2 v3 v4:Value}(h:Bx5 wk b v0 v1 v2 v3 v4)(e:wk'.heap[b]? =wk.heap[b]?)(hs:wk.heap.size<=wk'.heap.size):Bx5 wk' b v0 v1 v2 v3 v4:=
 ⟨(World.cell?_of_block (a:=⟨b,0,none⟩) e).trans h.c0,(World.cell?_of_block (a:=⟨b,1,none⟩) e).trans h.c1,(World.cell?_of_block (a:=⟨b,2,none⟩) e).trans h.c2,(World.cell?_of_block (a:=⟨b,3,none⟩) e).trans h.c3,(World.cell?_of_block (a:=⟨b,4,none⟩) e).trans h.c4,fun i=>(World.frozen?_of_block (a:=⟨b,i,none⟩) e).trans (h.f i),Nat.lt_of_lt_of_le h.lt hs⟩
theorem Bx3.atB {b:Nat}{v0 v1 v2:Value}(h:Bx3 wk b v0 v1 v2)(e:wk'.heap[b]? =wk.heap[b]?)(hs:wk.heap.size<=wk'.heap.size):Bx3 wk' b v0 v1 v2:=
 ⟨(World.cell?_of_block (a:=⟨b,0,none⟩) e).trans h.c0,(World.cell?_of_block (a:=⟨b,1,none⟩) e).trans h.c1,(World.cell?_of_block (a:=⟨b,2,none⟩) e).trans h.c2,fun i=>(World.frozen?_of_block (a:=⟨b,i,none⟩) e).trans (h.f i),Nat.lt_of_lt_of_le h.lt hs⟩
theorem KG.btw {bG lo m hi ic ie ic' ie' l1 h1:Nat}{ia ix ia' ix':Option Addr}(h:KG wk id bG lo m hi ia ix ia' ix' ic ie ic' ie' X Z)(hb:Btw l1 h1 wk wk')(g1:h1<=lo)(g2:h1<=bG):KG wk' id bG lo m hi ia ix ia' ix' ic ie ic' ie' X Z:=by
 have j:=h.s1.hl;have k:=h.s2.hl;exact⟨Bx5.atB h.gb (hb.block _ h.gb.lt (.inr g2)) hb.size,h.s1.same hb.size (fun q k1 k2=>hb.block q (by omega) (.inr (by omega))),h.s2.same hb.size (fun q k1 k2=>hb.block q (by omega) (.inr (by omega)))⟩
theorem AnP.made {v W6:World}{lo A sc sd sc' sd':Nat}{sa sx sa' sx':Option Addr}{u0 u1 u2 u3 u4:Value}(n1:SNu v lo sa sx X)(n2:SNu v lo sa' sx' Z)(hb:Bx5 W6 A u0 u1 u2 u3 u4)(hs:Bl v W6 \/W6=v)(hA:A<lo \/v.heap.size<=A):
  AnP (((((W6.setCell ⟨A,0,none⟩ (.int .i64 id)).setCell ⟨A,1,none⟩ (.slice sa X.l.length sc)).setCell ⟨A,2,none⟩ (.slice sx X.n sd)).setCell ⟨A,3,none⟩ (.slice sa' Z.l.length sc')).setCell ⟨A,4,none⟩ (.slice sx' Z.n sd')) id A sa sx sa' sx' sc sd sc' sd' X Z:=by
 have k:v.heap.size<=W6.heap.size:=by
  rcases hs with h|h
  ·exact h.size
  ·rw [h];exact Nat.le_refl _
 have j:∀q,q≠A ->q<v.heap.size ->(((((W6.setCell ⟨A,0,none⟩ (.int .i64 id)).setCell ⟨A,1,none⟩ (.slice sa X.l.length sc)).setCell ⟨A,2,none⟩ (.slice sx X.n sd)).setCell ⟨A,3,none⟩ (.slice sa' Z.l.length sc')).setCell ⟨A,4,none⟩ (.slice sx' Z.n sd')).heap[q]? =v.heap[q]? :=fun q h1 h2=>by
  rw [zH _ _ _ _ h1,zH _ _ _ _ h1,zH _ _ _ _ h1,zH _ _ _ _ h1,zH _ _ _ _ h1];rcases hs with h|h
  ·exact h.block q h2
  ·rw [h]
 exact⟨((((hb.set0 _).set1 _).set2 _).set3 _).set4 _,n1.box (by simpa [World.setCell] using k) hA j,n2.box (by simpa [World.setCell] using k) hA j⟩
end
theorem ErD.belowW(h:ErD w)(hb:Bl w w'):ErD w':=h.bw hb
theorem Qmx (id:Int)(a x a' x' pa:Option Addr)(c d c' d' pc:Nat)(S D:Sx)(k:Int)(p:List ByteArray)(v:ByteArray)(w:World)(hb:S.Big)(hb':D.Big)(hT:I64 S.T)(h:SAt w a x S)(h':SAt w a' x' D)(hid':(Lit.int .i64 id).wf=true)(hpb:QlZ p)(hvb:v.size<=9223372036854775807)(hs:Qaw w pa p)(hG:ErD w):
  Cl 3 #[.agg #[.int .i64 id,.slice a S.l.length c,.slice x S.n d,.slice a' D.l.length c',.slice x' D.n d'],.agg #[.int .i64 k,.slice pa p.length pc,.string v]] w (Rt w (.bool true)):=by
 obtain⟨W,hW⟩:=zE ((w.alloc (.cells #[.int .i64 id,.slice a S.l.length c,.slice x S.n d,.slice a' D.l.length c',.slice x' D.n d'] 29)).alloc (.cells #[.int .i64 k,.slice pa p.length pc,.string v] 32));have b0:Bl w W:=by rw [<- hW];exact Qae _ _ _
 have K0:KD w W id k a x a' x' pa c d c' d' pc S D p v:=⟨b0,by rw [<- hW];exact(Bx5.new w _ _ _ _ _ _).up _,by
  rw [<- hW];simpa using Bx3.made (w.alloc (.cells #[.int .i64 id,.slice a S.l.length c,.slice x S.n d,.slice a' D.l.length c',.slice x' D.n d'] 29)) (.int .i64 k) (.slice pa p.length pc) (.string v) 32⟩
 have Jp:=hid (QhA id a x a' x' c d c' d' S D W hb hb' (h.bw b0) (h'.bw b0));have Jn:=hid (fun n u(h0:0<=n)(h1:n<=1048576)(hu:Bl w u)=>QnS k pa pc p v n u h0 h1 hpb hvb (hs.bw hu));have Gu:Hid (S.Sm/\ D.Sm ->∀u,Bl w u ->Cl 7 #[.agg #[.int .i64 id,.slice a S.l.length c,.slice x S.n d,.slice a' D.l.length c',.slice x' D.n d']] u fun e w'=>∃g k g' k' He,e=.returned (.agg #[.int .i64 id,.slice (some ⟨g,0,none⟩) S.l.length S.l.length,.slice (some ⟨k,0,none⟩) S.n S.n,.slice (some ⟨g',0,none⟩) D.l.length D.l.length,.slice (some ⟨k',0,none⟩) D.n D.n])/\ SNw w' u.heap.size He g k S/\ SNw w' He w'.heap.size g' k' D/\ Bl u w'):=hid (fun hm u hu=>QhC id a x a' x' c d c' d' S D u hm.1 hm.2 (h.bw hu) (h'.bw hu));have Gt:Hid (PSm p ->∀u,Bl w u ->Cl 8 #[.agg #[.int .i64 k,.slice pa p.length pc,.string v]] u fun e w'=>∃g,e=.returned (.agg #[.int .i64 k,.slice (some ⟨g,0,none⟩) p.length p.length,.string v])/\ OpN w' u.heap.size w'.heap.size g p/\ Bl u w'):=hid (fun hp u hu=>QnU k pa pc p v u hp.1 (hs.bw hu));have HI:=hid (And.intro hb.i1 hb'.i1);have HT:=hid hT;have HG:=hid hG;have Jf:=hid K0;obtain⟨k0,k1,k2,k3,k4⟩:=K0.rb.q5;clear h h' hs b0 K0 hG hT hb hb' hpb;go_enter Tryz.func3,Tryz.ntmps3;go_wp2_with fail;try rw [hW]
 clear hW;refine Jp.mono ?_;rintro e w1 ⟨⟨Q,rfl,G2⟩,b1⟩;have Gg:=hid (Jf.bw b1);have H5:=hid G2;clear G2 b1 Jp Jf k0 k1 k2 k3 k4;by_cases G0:Q<0
 ·have d0:decide (Q<0)=true:=by simpa using G0
  clear H5;go_wp2_with fail;go_ret;exact⟨rfl,Gg.low⟩
 ·have d0:decide (Q<0)=false:=by simpa using G0
  obtain⟨hm,J7⟩:=H5 (by omega);have Jo:=hid (Jn Q w1 (by omega) J7 Gg.low);obtain⟨o0,o1,o2⟩:=Gg.ob.q3;clear H5 Jn;go_wp2_with fail;refine Jo.mono ?_;rintro e U ⟨⟨I,rfl,G2⟩,b2⟩;have Hg:=hid (Gg.bw b2);have H5:=hid G2;clear G2 b2 Jo Gg o0 o1 o2;by_cases Hw:I<0
  ·have d1:decide (I<0)=true:=by simpa using Hw
   clear H5;go_wp2_with fail;go_ret;exact⟨rfl,Hg.low⟩
  ·have d1:decide (I<0)=false:=by simpa using Hw
   obtain⟨Ge,K3⟩:=H5 (by omega);obtain⟨X,Z,C,hq⟩:∃X Z C,doR id S D k p v=(X,Z,C):=⟨_,_,_,rfl⟩;have Kz:SmI S:=⟨hm.1,HI.1⟩;have Ky:SmI D:=⟨hm.2,HI.2⟩;have Hq:=hid (Qmy Kz Ky hq);have HM:=hid hm;have Jm:=hid Ge.1;have Gd:=hid (Gu hm);have Hv:=hid (Gt Ge);have Gs:=hid (fun(g h g' h' lo He hi ol oh g4:Nat)(u:World)(hu:Bl w u)(M:SNw u lo He g h S)(O:SNw u He hi g' h' D)(t3:OpN u ol oh g4 p)=>Qnn id g h g' h' lo He hi p.length S D k (some ⟨g4,0,none⟩) p v X Z C u hq hm.1 hm.2 HT M O Ge.1 ⟨Nat.le_refl _,by have:=Ge.1;omega⟩ t3.sg K3);have Je:=hid (fun(g h g' h' lo He hi ol oh g4:Nat)(u:World)(hu:Bl w u)(M:SNw u lo He g h S)(O:SNw u He hi g' h' D)(t3:OpN u ol oh g4 p)=>QmC id g h g' h' lo He hi p.length S D k (some ⟨g4,0,none⟩) p v X Z C u hq Kz Ky M O Ge.1 t3.sg K3 hid' (HG.belowW hu));have G8:Hid (∀(g h g' h' lo He hi ol oh g4:Nat) (u:World),Bl w u ->SNw u lo He g h S ->SNw u He hi g' h' D ->OpN u ol oh g4 p ->Cl 9 #[.agg #[.int .i64 id,.slice (some ⟨g,0,none⟩) S.l.length S.l.length,.slice (some ⟨h,0,none⟩) S.n S.n,.slice (some ⟨g',0,none⟩) D.l.length D.l.length,.slice (some ⟨h',0,none⟩) D.n D.n],.agg #[.int .i64 k,.slice (some ⟨g4,0,none⟩) p.length p.length,.string v]] u fun e w'=>DoP id X Z C u e w'):=hid (fun g h g' h' lo He hi ol oh g4 u hu M O t3=>(Je g h g' h' lo He hi ol oh g4 u hu M O t3).mono fun e w' hh=>by
    obtain⟨a,ca,x,dx,a',J4,x',J5,He,e1,s1,s2,b⟩:=hh;exact⟨a,ca,x,dx,a',J4,x',J5,e1,s1.nu zL,s2.nu s1.hl.1,b⟩)
   have Gr:Hid (∀(V:World),KD w V id k a x a' x' pa c d c' d' pc S D p v ->∀w',Bl V w' ->(w'.cell? ⟨w.heap.size,0,none⟩=some (.int .i64 id)/\ w'.cell? ⟨w.heap.size,1,none⟩=some (.slice a S.l.length c)/\ w'.cell? ⟨w.heap.size,2,none⟩=some (.slice x S.n d)/\ w'.cell? ⟨w.heap.size,3,none⟩=some (.slice a' D.l.length c')/\ w'.cell? ⟨w.heap.size,4,none⟩=some (.slice x' D.n d')/\ w'.cell? ⟨w.heap.size+1,0,none⟩=some (.int .i64 k)/\ w'.cell? ⟨w.heap.size+1,1,none⟩=some (.slice pa p.length pc)/\ w'.cell? ⟨w.heap.size+1,2,none⟩=some (.string v))):=hid (fun V hV w' hb=>by
    have R2:=hV.rb.bw hb hV.rb.lt;have O2:=hV.ob.bw hb hV.ob.lt;exact⟨R2.c0,R2.c1,R2.c2,R2.c3,R2.c4,O2.c0,O2.c1,O2.c2⟩)
   have dC:(C !=C)=false:=by simp
   have E:=hid (Gr U Hg);clear H5 Gu Gt hq Kz Ky hm Ge K3;go_upto_region 8 with fail;go_cut [6,7] from 27 to 34 (fun v6 v7 wx=>∃A B sc P sd F sc' R sd',v6=.pointer (some ⟨A,0,none⟩)/\ v7=.int .i64 C/\ Hid (AnP wx id A B P F R sc sd sc' sd' X Z)/\ Hid (Bl U wx));case first=>
    refine zS E (fun qh=> ?_);refine tZ 0 28 ?_;refine tZ 2 30 ?_;obtain⟨z0,Gb⟩:=zE U.drew;have Hu:Bl U z0:=by rw [<- Gb];exact zI.drew
    rw [Gb];clear Gb;refine Qa0 (i:=1) (j:=8) (d:=some 29) (d':=some 6) (by kernel_rfl) (by kernel_rfl) (by kernel_rfl) ?_ ?_
    ·skip;intro o H Hp K m;simp only [gZa,gZb,gZc,gZd] at H;subst H;go_simp;refine(Gd _ (Qaa Hg.low Hu)).mono ?_;rintro e L ⟨g2,h2,g3,h3,He,rfl,M,O,q⟩;have Hf:=Qaa Hu q;have K2:=q.size;refine m.out _ _ (E _ Hf) (fun qh=> ?_);clear m K;try simp only [zP]
     clear q;refine Qa0 (i:=3) (j:=8) (d:=some 31) (d':=some 6) (by kernel_rfl) (by kernel_rfl) (by kernel_rfl) ?_ ?_
     ·skip;intro o H Hp K m;simp only [gZa,gZb,gZc,gZd] at H;subst H;go_simp;refine(Hv _ (Qaa Hg.low Hf)).mono ?_;rintro e s ⟨g4,rfl,t3,q⟩;replace M:=M.bw q
      replace O:=O.bw q
      have Hb:=Qaa Hf q;have G1:=q.size;refine m.out _ _ (E _ Hb) (fun qh=> ?_);clear m K;try simp only [zP]
      clear q;refine Qa0 (i:=4) (j:=8) (d:=some 32) (d':=some 6) (by kernel_rfl) (by kernel_rfl) (by kernel_rfl) ?_ ?_
      ·skip;intro o H Hp K m;simp only [gZa,gZb,gZc,gZd] at H;subst H;go_simp;obtain⟨l,hl⟩:=zE s.heap.size;have Hk:=Hg.low;refine(Gs _ _ _ _ _ _ _ _ _ _ _ (Qaa Hg.low Hb) M O t3).mono ?_;rintro e y ⟨B,sc,P,sd,F,sc',R,sd',rfl,Q,I,q⟩;rw [hl] at Q I;replace hl:s.heap.size<=l/\ l<=s.heap.size:=by omega
       clear Hk;have N:=Qaa Hb q;have H9:=q.size;refine m.out _ _ (E _ N) (fun qh=> ?_);clear m K;try simp only [zP]
       clear q;refine tZ 5 27 ?_;refine tZ 6 33 ?_;refine tZ 7 34 ?_;refine cZ 8 ?_;intro K m;go_simp;obtain⟨z4,z⟩:=zE (y.alloc (.cells #[.int .i64 0,.slice none 0 0,.slice none 0 0,.slice none 0 0,.slice none 0 0] 42));have J:Bl y z4:=by rw [<- z];exact zO _ _
       have r:Bx5 z4 y.heap.size (.int .i64 0) (.slice none 0 0) (.slice none 0 0) (.slice none 0 0) (.slice none 0 0):=by rw [<- z];exact Bx5.new _ _ _ _ _ _ _
       have Gc:z4.heap.size<=y.heap.size+1/\ y.heap.size+1<=z4.heap.size:=by rw [<- z];simp
       have Ga:=N.size;have Hd:=Qaa N J;obtain⟨A,Hc⟩:=zE y.heap.size;rw [Hc] at r ⊢;rw [z];clear z;replace Hc:y.heap.size<=A/\ A<=y.heap.size:=by omega
       refine m.out _ _ (E _ Hd) (fun qh=> ?_);clear m K;try simp only [zP]
       obtain⟨c0,c1,c2,c3,c4,cf⟩:=r.p5;refine cZ 9 ?_;intro K m;go_simp;have G:=AnP.made (id:=id) (sc:=sc) (sd:=sd) (sc':=sc') (sd':=sd') Q I r (.inl J) (by omega);have t:=((((Hd.setCell (p:=⟨A,0,none⟩) (by show U.heap.size<=A;omega) (.int .i64 id)).setCell (p:=⟨A,1,none⟩) (by show U.heap.size<=A;omega) (.slice B X.l.length sc)).setCell (p:=⟨A,2,none⟩) (by show U.heap.size<=A;omega) (.slice P X.n sd)).setCell (p:=⟨A,3,none⟩) (by show U.heap.size<=A;omega) (.slice F Z.l.length sc')).setCell (p:=⟨A,4,none⟩) (by show U.heap.size<=A;omega) (.slice R Z.n sd');refine m.out _ _ (E _ t) (fun qh=> ?_);clear m K;try simp only [zP]
       refine tZ 10 7 ?_;refine zD ?_;have Hi:=hid G;have Hh:=hid t;clear G t c0 c1 c2 c3 c4 cf r Q I qh;go_wp2_with fail;go_meet;exact⟨A,B,sc,P,sd,F,sc',R,sd',rfl,rfl,Hi,Hh⟩
      ·skip;intro o H Hp K m;simp only [gZa,gZb,gZc,gZd] at H;subst H;go_simp;obtain⟨y,z⟩:=zE (s.alloc (.cells #[.int .i64 0,.slice none 0 0,.slice none 0 0,.slice none 0 0,.slice none 0 0] 42));have J:Bl s y:=by rw [<- z];exact zO _ _
       have r:Bx5 y s.heap.size (.int .i64 0) (.slice none 0 0) (.slice none 0 0) (.slice none 0 0) (.slice none 0 0):=by rw [<- z];exact Bx5.new _ _ _ _ _ _ _
       have Gc:y.heap.size<=s.heap.size+1/\ s.heap.size+1<=y.heap.size:=by rw [<- z];simp
       have Ga:=Hb.size;have N:=Qaa Hb J;obtain⟨A,Hc⟩:=zE s.heap.size;rw [Hc] at r ⊢;rw [z];clear z;replace Hc:s.heap.size<=A/\ A<=s.heap.size:=by omega
       replace M:=M.bw J
       replace O:=O.bw J
       replace t3:=t3.bw J
       refine m.out _ _ (E _ N) (fun qh=> ?_);clear m K;try simp only [zP]
       clear J;refine cZ 4 ?_;intro K m;go_simp;obtain⟨l,hl⟩:=zE y.heap.size;have Hk:=Hg.low;refine(Gs _ _ _ _ _ _ _ _ _ _ _ (Qaa Hg.low N) M O t3).mono ?_;rintro e z4 ⟨B,sc,P,sd,F,sc',R,sd',rfl,Q,I,q⟩;rw [hl] at Q I;replace hl:y.heap.size<=l/\ l<=y.heap.size:=by omega
       clear Hk;have Hd:=Qaa N q;have H9:=q.size;have Ho:=r.lt;replace r:=r.bw q r.lt
       refine m.out _ _ (E _ Hd) (fun qh=> ?_);clear m K;try simp only [zP]
       clear q;refine tZ 5 27 ?_;refine tZ 6 33 ?_;refine tZ 7 34 ?_;obtain⟨c0,c1,c2,c3,c4,cf⟩:=r.p5;refine cZ 9 ?_;intro K m;go_simp;have G:=AnP.made (id:=id) (sc:=sc) (sd:=sd) (sc':=sc') (sd':=sd') Q I r (.inr rfl) (by omega);have t:=((((Hd.setCell (p:=⟨A,0,none⟩) (by show U.heap.size<=A;omega) (.int .i64 id)).setCell (p:=⟨A,1,none⟩) (by show U.heap.size<=A;omega) (.slice B X.l.length sc)).setCell (p:=⟨A,2,none⟩) (by show U.heap.size<=A;omega) (.slice P X.n sd)).setCell (p:=⟨A,3,none⟩) (by show U.heap.size<=A;omega) (.slice F Z.l.length sc')).setCell (p:=⟨A,4,none⟩) (by show U.heap.size<=A;omega) (.slice R Z.n sd');refine m.out _ _ (E _ t) (fun qh=> ?_);clear m K;try simp only [zP]
       refine tZ 10 7 ?_;refine zD ?_;have Hi:=hid G;have Hh:=hid t;clear G t c0 c1 c2 c3 c4 cf r Q I qh;go_wp2_with fail;go_meet;exact⟨A,B,sc,P,sd,F,sc',R,sd',rfl,rfl,Hi,Hh⟩
     ·skip;intro o H Hp K m;simp only [gZa,gZb,gZc,gZd] at H;subst H;go_simp;obtain⟨s,z⟩:=zE (L.alloc (.cells #[.int .i64 0,.slice none 0 0,.slice none 0 0,.slice none 0 0,.slice none 0 0] 42));have J:Bl L s:=by rw [<- z];exact zO _ _
      have r:Bx5 s L.heap.size (.int .i64 0) (.slice none 0 0) (.slice none 0 0) (.slice none 0 0) (.slice none 0 0):=by rw [<- z];exact Bx5.new _ _ _ _ _ _ _
      have Gc:s.heap.size<=L.heap.size+1/\ L.heap.size+1<=s.heap.size:=by rw [<- z];simp
      have Ga:=Hf.size;have Hb:=Qaa Hf J;obtain⟨A,Hc⟩:=zE L.heap.size;rw [Hc] at r ⊢;rw [z];clear z;replace Hc:L.heap.size<=A/\ A<=L.heap.size:=by omega
      replace M:=M.bw J
      replace O:=O.bw J
      refine m.out _ _ (E _ Hb) (fun qh=> ?_);clear m K;try simp only [zP]
      clear J;refine cZ 3 ?_;intro K m;go_simp;refine(Hv _ (Qaa Hg.low Hb)).mono ?_;rintro e y ⟨g4,rfl,t3,q⟩;replace M:=M.bw q
      replace O:=O.bw q
      have N:=Qaa Hb q;have G1:=q.size;have H8:=r.lt;replace r:=r.bw q r.lt
      refine m.out _ _ (E _ N) (fun qh=> ?_);clear m K;try simp only [zP]
      clear q;refine cZ 4 ?_;intro K m;go_simp;obtain⟨l,hl⟩:=zE y.heap.size;have Hk:=Hg.low;refine(Gs _ _ _ _ _ _ _ _ _ _ _ (Qaa Hg.low N) M O t3).mono ?_;rintro e z4 ⟨B,sc,P,sd,F,sc',R,sd',rfl,Q,I,q⟩;rw [hl] at Q I;replace hl:y.heap.size<=l/\ l<=y.heap.size:=by omega
      clear Hk;have Hd:=Qaa N q;have H9:=q.size;have Ho:=r.lt;replace r:=r.bw q r.lt
      refine m.out _ _ (E _ Hd) (fun qh=> ?_);clear m K;try simp only [zP]
      clear q;refine tZ 5 27 ?_;refine tZ 6 33 ?_;refine tZ 7 34 ?_;obtain⟨c0,c1,c2,c3,c4,cf⟩:=r.p5;refine cZ 9 ?_;intro K m;go_simp;have G:=AnP.made (id:=id) (sc:=sc) (sd:=sd) (sc':=sc') (sd':=sd') Q I r (.inr rfl) (by omega);have t:=((((Hd.setCell (p:=⟨A,0,none⟩) (by show U.heap.size<=A;omega) (.int .i64 id)).setCell (p:=⟨A,1,none⟩) (by show U.heap.size<=A;omega) (.slice B X.l.length sc)).setCell (p:=⟨A,2,none⟩) (by show U.heap.size<=A;omega) (.slice P X.n sd)).setCell (p:=⟨A,3,none⟩) (by show U.heap.size<=A;omega) (.slice F Z.l.length sc')).setCell (p:=⟨A,4,none⟩) (by show U.heap.size<=A;omega) (.slice R Z.n sd');refine m.out _ _ (E _ t) (fun qh=> ?_);clear m K;try simp only [zP]
      refine tZ 10 7 ?_;refine zD ?_;have Hi:=hid G;have Hh:=hid t;clear G t c0 c1 c2 c3 c4 cf r Q I qh;go_wp2_with fail;go_meet;exact⟨A,B,sc,P,sd,F,sc',R,sd',rfl,rfl,Hi,Hh⟩
    ·skip;intro o H Hp K m;simp only [gZa,gZb,gZc,gZd] at H;subst H;go_simp;obtain⟨L,z⟩:=zE (z0.alloc (.cells #[.int .i64 0,.slice none 0 0,.slice none 0 0,.slice none 0 0,.slice none 0 0] 42));have J:Bl z0 L:=by rw [<- z];exact zO _ _
     have r:Bx5 L z0.heap.size (.int .i64 0) (.slice none 0 0) (.slice none 0 0) (.slice none 0 0) (.slice none 0 0):=by rw [<- z];exact Bx5.new _ _ _ _ _ _ _
     have Gc:L.heap.size<=z0.heap.size+1/\ z0.heap.size+1<=L.heap.size:=by rw [<- z];simp
     have Ga:=Hu.size;have Hf:=Qaa Hu J;obtain⟨A,Hc⟩:=zE z0.heap.size;rw [Hc] at r ⊢;rw [z];clear z;replace Hc:z0.heap.size<=A/\ A<=z0.heap.size:=by omega
     refine m.out _ _ (E _ Hf) (fun qh=> ?_);clear m K;try simp only [zP]
     clear J;refine cZ 1 ?_;intro K m;go_simp;refine(Gd _ (Qaa Hg.low Hf)).mono ?_;rintro e s ⟨g2,h2,g3,h3,He,rfl,M,O,q⟩;have Hb:=Qaa Hf q;have K2:=q.size;have K1:=r.lt;replace r:=r.bw q r.lt
     refine m.out _ _ (E _ Hb) (fun qh=> ?_);clear m K;try simp only [zP]
     clear q;refine cZ 3 ?_;intro K m;go_simp;refine(Hv _ (Qaa Hg.low Hb)).mono ?_;rintro e y ⟨g4,rfl,t3,q⟩;replace M:=M.bw q
     replace O:=O.bw q
     have N:=Qaa Hb q;have G1:=q.size;have H8:=r.lt;replace r:=r.bw q r.lt
     refine m.out _ _ (E _ N) (fun qh=> ?_);clear m K;try simp only [zP]
     clear q;refine cZ 4 ?_;intro K m;go_simp;obtain⟨l,hl⟩:=zE y.heap.size;have Hk:=Hg.low;refine(Gs _ _ _ _ _ _ _ _ _ _ _ (Qaa Hg.low N) M O t3).mono ?_;rintro e z4 ⟨B,sc,P,sd,F,sc',R,sd',rfl,Q,I,q⟩;rw [hl] at Q I;replace hl:y.heap.size<=l/\ l<=y.heap.size:=by omega
     clear Hk;have Hd:=Qaa N q;have H9:=q.size;have Ho:=r.lt;replace r:=r.bw q r.lt
     refine m.out _ _ (E _ Hd) (fun qh=> ?_);clear m K;try simp only [zP]
     clear q;refine tZ 5 27 ?_;refine tZ 6 33 ?_;refine tZ 7 34 ?_;obtain⟨c0,c1,c2,c3,c4,cf⟩:=r.p5;refine cZ 9 ?_;intro K m;go_simp;have G:=AnP.made (id:=id) (sc:=sc) (sd:=sd) (sc':=sc') (sd':=sd') Q I r (.inr rfl) (by omega);have t:=((((Hd.setCell (p:=⟨A,0,none⟩) (by show U.heap.size<=A;omega) (.int .i64 id)).setCell (p:=⟨A,1,none⟩) (by show U.heap.size<=A;omega) (.slice B X.l.length sc)).setCell (p:=⟨A,2,none⟩) (by show U.heap.size<=A;omega) (.slice P X.n sd)).setCell (p:=⟨A,3,none⟩) (by show U.heap.size<=A;omega) (.slice F Z.l.length sc')).setCell (p:=⟨A,4,none⟩) (by show U.heap.size<=A;omega) (.slice R Z.n sd');refine m.out _ _ (E _ t) (fun qh=> ?_);clear m K;try simp only [zP]
     refine tZ 10 7 ?_;refine zD ?_;have Hi:=hid G;have Hh:=hid t;clear G t c0 c1 c2 c3 c4 cf r Q I qh;go_wp2_with fail;go_meet;exact⟨A,B,sc,P,sd,F,sc',R,sd',rfl,rfl,Hi,Hh⟩
   case rest=>
   obtain⟨bW,B,sc,P,sd,F,sc',R,sd',rfl,rfl,G5,G7⟩:=hcut;have Hm:=hid (Hg.bw G7);obtain⟨Y,hY⟩:=zE wc;rw [hY] at G5 Hm ⊢;clear hY E G7 Hg Gs;obtain⟨k0,k1,k2,k3,k4⟩:=Hm.rb.q5;go_wp2_with fail;refine(Gd Y Hm.low).mono ?_;rintro e w6 ⟨g4,h4,g5,h5,K4,rfl,s4,s5,b4⟩;obtain⟨W6,Gy⟩:=zE (w6.alloc (.cells #[.int .i64 id,.slice (some ⟨g4,0,none⟩) S.l.length S.l.length,.slice (some ⟨h4,0,none⟩) S.n S.n,.slice (some ⟨g5,0,none⟩) D.l.length D.l.length,.slice (some ⟨h5,0,none⟩) D.n D.n] 42));have b5:Bl w6 W6:=by rw [<- Gy];exact zO _ _
   have z6:W6.heap.size=w6.heap.size+1:=by rw [<- Gy];simp
   have X6:Bx5 W6 w6.heap.size (.int .i64 id) (.slice (some ⟨g4,0,none⟩) S.l.length S.l.length) (.slice (some ⟨h4,0,none⟩) S.n S.n) (.slice (some ⟨g5,0,none⟩) D.l.length D.l.length) (.slice (some ⟨h5,0,none⟩) D.n D.n):=by rw [<- Gy];exact Bx5.new _ _ _ _ _ _ _
   have Ji:=hid (s4.bw b5);have Jj:=hid (s5.bw b5);have Kl:=hid (Qaa b4 b5);have Kq:=hid X6;have H4:Hid (w.heap.size<Y.heap.size/\ Y.heap.size<=w6.heap.size/\ W6.heap.size=w6.heap.size+1):=hid ⟨Hm.rb.lt,b4.size,z6⟩;have Kk:=hid (Hm.bw Kl);clear b4 s4 s5 b5 X6 k0 k1 k2 k3 k4 z6;obtain⟨o0,o1,o2⟩:=Kk.ob.q3;go_wp2_with fail;try rw [Gy]
   clear Gy;refine(Hv W6 Kk.low).mono ?_;rintro e w7 ⟨go,rfl,s7,b7⟩;obtain⟨W7,Gz⟩:=zE (w7.alloc (.cells #[.int .i64 k,.slice (some ⟨go,0,none⟩) p.length p.length,.string v] 46));have b8:Bl w7 W7:=by rw [<- Gz];exact zO _ _
   have z7:W7.heap.size=w7.heap.size+1:=by rw [<- Gz];simp
   have X7:Bx3 W7 w7.heap.size (.int .i64 k) (.slice (some ⟨go,0,none⟩) p.length p.length) (.string v):=by rw [<- Gz];exact Bx3.made _ _ _ _ _
   have Gx:=Qaa b7 b8;have Kn:=hid (s7.bw b8);have Ka:=hid X7;have Kd:=hid (Ji.bw Gx);have Kf:=hid (Jj.bw Gx);have G9:=hid (Kq.bw Gx Kq.lt);have Hx:=hid (Qaa Kl Gx);have H2:Hid (W6.heap.size<=w7.heap.size/\ W7.heap.size=w7.heap.size+1):=hid ⟨b7.size,z7⟩;have Jd:=hid (Je g4 h4 g5 h5 _ _ _ _ _ go W7 (Qaa Hm.low Hx) Kd Kf Kn);clear b7 s7 b8 Gx z7 X7 o0 o1 o2 Ji Jj Kq Kl Kk;obtain⟨x0,x1,x2,x3,x4⟩:=G9.q5;obtain⟨y0,y1,y2⟩:=Ka.q3;go_wp2_with fail;try rw [Gz]
   clear Gz;refine Jd.mono ?_;rintro e w8 ⟨ia,ic,ix,ie,Kb,Gf,Kc,G3,m8,rfl,u1,u2,b8⟩;obtain⟨V,hV⟩:=zE (w8.alloc (.cells #[.int .i64 id,.slice ia X.l.length ic,.slice ix X.n ie,.slice Kb Z.l.length Gf,.slice Kc Z.n G3] 42));have b9:Bl w8 V:=by rw [<- hV];exact zO _ _
   have Gh:Hid (KG V id w8.heap.size W7.heap.size m8 w8.heap.size ia ix Kb Kc ic ie Gf G3 X Z):=hid ⟨by rw [<- hV];exact Bx5.new _ _ _ _ _ _ _,u1.bw b9,u2.bw b9⟩;have H6:=Qaa b8 b9;have Hy:=hid (Qaa Hx H6);have K6:=hid (Kd.bw H6);have K9:=hid (Kf.bw H6);have Kr:=hid (G9.bw H6 G9.lt);have Kt:=hid (Ka.bw H6 Ka.lt);have Jk:=hid (Kn.bw H6);have H3:Hid (W7.heap.size<=w8.heap.size/\ W7.heap.size<=m8/\ m8<=w8.heap.size):=hid ⟨b8.size,u1.hl.1,u1.hl.2⟩;have G4:=hid (G5.bw Hy);have HE:=hid (QbW id ia ix Kb Kc B P F R ic ie Gf G3 sc sd sc' sd' X Z V Hq.1.1 Hq.2.1 Gh.s1.at Gh.s2.at G4.s1 G4.s2);clear b8 b9 H6 u1 u2 x0 x1 x2 x3 x4 y0 y1 y2 Kd Kf G9 Ka Kn Hx Jd;obtain⟨y0,y1,y2,y3,y4⟩:=Gh.gb.q5;obtain⟨z0,L,s,y,z4⟩:=G4.wb.q5;go_wp2_with fail;try rw [hV]
   clear hV;refine HE.mono ?_;rintro e w9 ⟨rfl,b9⟩;have Gi:=hid (Gh.bw b9);have Ke:=hid (K6.bw b9);have Kg:=hid (K9.bw b9);have Gv:=hid (Kr.bw b9 Kr.lt);have Ku:=hid (Kt.bw b9 Kt.lt);have Jl:=hid (Jk.bw b9);have Hs:=hid (Qaa Hy b9);clear b9 HE Gh K6 K9 Kr Kt Jk Hy G4 y0 y1 y2 y3 y4 z0 L s y z4;go_wp2_with fail;have Hr:Hid (∀w',Bl w9 w' ->(w'.cell? ⟨w6.heap.size,0,none⟩=some (.int .i64 id)/\ w'.cell? ⟨w6.heap.size,1,none⟩=some (.slice (some ⟨g4,0,none⟩) S.l.length S.l.length)/\ w'.cell? ⟨w6.heap.size,2,none⟩=some (.slice (some ⟨h4,0,none⟩) S.n S.n)/\ w'.cell? ⟨w6.heap.size,3,none⟩=some (.slice (some ⟨g5,0,none⟩) D.l.length D.l.length)/\ w'.cell? ⟨w6.heap.size,4,none⟩=some (.slice (some ⟨h5,0,none⟩) D.n D.n)/\ w'.cell? ⟨w.heap.size,0,none⟩=some (.int .i64 id)/\ w'.cell? ⟨w.heap.size,1,none⟩=some (.slice a S.l.length c)/\ w'.cell? ⟨w.heap.size,2,none⟩=some (.slice x S.n d)/\ w'.cell? ⟨w.heap.size,3,none⟩=some (.slice a' D.l.length c')/\ w'.cell? ⟨w.heap.size,4,none⟩=some (.slice x' D.n d'))):=hid (fun w' hB=>by
    have K:=Hm.bw (Qaa Hs hB);have X:=Gv.bw hB Gv.lt;exact⟨X.c0,X.c1,X.c2,X.c3,X.c4,K.rb.c0,K.rb.c1,K.rb.c2,K.rb.c3,K.rb.c4⟩)
   refine zS Hr (fun qh=> ?_);refine tZ 0 54 ?_;refine tZ 1 55 ?_;refine cZ 2 ?_;intro K m;go_simp;have H7:Bl w9 w9.drew:=zI.drew;refine(Gd _ (Hm.bw (Qaa Hs H7)).low).mono ?_;rintro e Lh ⟨g7,h7,g8,Lg,Lc,rfl,s7,s8,Js⟩;have t:=Qaa H7 Js;refine m.out _ _ (Hr _ t) (fun qh=> ?_);clear m K;try simp only [zP]
   refine cZ 3 ?_;intro K m;go_simp;refine(QbW id _ _ _ _ _ _ _ _ S.l.length S.n D.l.length D.n S.l.length S.n D.l.length D.n S D _ HM.1 HM.2 (Ke.bw t).at (Kg.bw t).at s7.at s8.at).mono ?_;rintro e K5 ⟨rfl,Jt⟩;have Ha:=Qaa t Jt;refine m.out _ _ (Hr _ Ha) (fun qh=> ?_);clear m K;try simp only [zP]
   refine tZ 4 58 ?_;refine zD ?_;have Gj:=hid (Gi.bw Ha);have K7:=hid (Ke.bw Ha);have Ja:=hid (Kg.bw Ha);have Ks:=hid (Gv.bw Ha Gv.lt);have Gw:=hid (Ku.bw Ha Ku.lt);have Ko:=hid (Jl.bw Ha);have Ht:=hid (Qaa Hs Ha);clear qh H7 t Ha Js Jt s7 s8 Hr Gi Hs Gv Ku Jl Ke Kg;go_wp2_with fail;have Hr:Hid (∀w',Bl K5 w' ->(w'.cell? ⟨w7.heap.size,0,none⟩=some (.int .i64 k)/\ w'.cell? ⟨w7.heap.size,1,none⟩=some (.slice (some ⟨go,0,none⟩) p.length p.length)/\ w'.cell? ⟨w7.heap.size,2,none⟩=some (.string v)/\ w'.cell? ⟨w.heap.size+1,0,none⟩=some (.int .i64 k)/\ w'.cell? ⟨w.heap.size+1,1,none⟩=some (.slice pa p.length pc)/\ w'.cell? ⟨w.heap.size+1,2,none⟩=some (.string v))):=hid (fun w' hB=>by
    have K:=Hm.bw (Qaa Ht hB);have X:=Gw.bw hB Gw.lt;exact⟨X.c0,X.c1,X.c2,K.ob.c0,K.ob.c1,K.ob.c2⟩)
   refine zS Hr (fun qh=> ?_);refine tZ 0 59 ?_;refine tZ 1 60 ?_;refine cZ 2 ?_;intro K m;go_simp;have H7:Bl K5 K5.drew:=zI.drew;refine(Hv _ (Hm.bw (Qaa Ht H7)).low).mono ?_;rintro e Li ⟨gq,rfl,sq,Ju⟩;have t:=Qaa H7 Ju;refine m.out _ _ (Hr _ t) (fun qh=> ?_);clear m K;try simp only [zP]
   refine cZ 3 ?_;intro K m;go_simp;refine(Qn9 k go gq p v _ Jm (Ko.bw t).sg sq.sg).mono ?_;rintro e Ld ⟨rfl,Jv⟩;have Ha:=Qaa t Jv;refine m.out _ _ (Hr _ Ha) (fun qh=> ?_);clear m K;try simp only [zP]
   refine tZ 4 63 ?_;refine zD ?_;have Gk:=hid (Gj.bw Ha);have K8:=hid (K7.bw Ha);have Jb:=hid (Ja.bw Ha);have Jq:=hid (Ks.bw Ha Ks.lt);have Kv:=hid (Gw.bw Ha Gw.lt);have Gq:=hid (Ko.bw Ha);have Hz:=hid (Qaa Ht Ha);have Jg:=hid (Qfw id g4 h4 g5 h5 Y.heap.size K4 w6.heap.size S D Ld HM.1 HM.2 K8 Jb);obtain⟨x0,x1,x2,x3,x4⟩:=Jq.q5;clear qh H7 t Ha Ju Jv sq Hr Gj Ht Ks Gw Ko K7 Ja;go_wp2_with fail;refine Jg.mono ?_;rintro e J0 ⟨⟨m1,rfl,J6⟩,bt⟩;have e1:=H4.out;have e2:=H2.out;have e3:=H3.out;have Gl:=hid (Gk.btw bt (by omega) (by omega));have H0:Hid (Bl Y J0):=hid (Hz.trans (bt.low (by have:=Hz.size;omega)));have Jr:=hid (Bx3.atB Kv (bt.block _ Kv.lt (.inr (by omega))) bt.size);have Kp:=hid (Gq.same bt.size (bt.block _ (Nat.lt_of_lt_of_le Gq.l2 Gq.l3) (.inr (by have:=Gq.l1;omega))));have Jh:=hid (QlB k _ _ go m1 p v J0 (by omega) Jm Kp);clear bt e1 e2 e3 x0 x1 x2 x3 x4 Jg Gk Hz Kv Gq K8 Jb Jq J6;obtain⟨y0,y1,y2⟩:=Jr.q3;go_wp2_with fail;refine Jh.mono ?_;rintro e J1 ⟨⟨m2,rfl⟩,bt⟩;have e1:=H4.out;have e2:=H2.out;have e3:=H3.out;have Hn:=hid (Gl.btw bt (by omega) (by omega));have H1:Hid (Bl Y J1):=hid (H0.trans ((bt.low (by have:=H0.size;have:=Kp.l3;omega)).mono (by omega)));have G6:=hid (G5.bw H1);have HE:=hid (QbW id ia ix Kb Kc B P F R ic ie Gf G3 sc sd sc' sd' X Z J1 Hq.1.1 Hq.2.1 Hn.s1.at Hn.s2.at G6.s1 G6.s2);have dm:decide ((m2:Int)<0)=false:=by simp
   clear bt e1 e2 e3 y0 y1 y2 Jh Gl H0 Jr Kp;obtain⟨y0,y1,y2,y3,y4⟩:=Hn.gb.q5;obtain⟨z0,L,s,y,z4⟩:=G6.wb.q5;go_wp2_with fail;refine HE.mono ?_;rintro e Lj ⟨rfl,Kw⟩;have Hj:=hid (Hn.bw Kw);have Gm:=hid (Qaa H1 Kw);have Km:=hid (Qfx id (c:=ic) (c':=Gf) Hq.1.1 Hq.2.1 Hj.s1 Hj.s2);obtain⟨E2,Kx⟩:=zE (mE Z (mE X 1));rw [Kx] at Km;have J2:=hid Kx;clear Kw HE Hn H1 G6 Kx y0 y1 y2 y3 y4 z0 L s y z4;obtain⟨y0,y1,y2,y3,y4⟩:=Hj.gb.q5;go_wp2_with fail;refine Km.mono ?_;rintro e Le ⟨rfl,bt,Jy,Jz⟩;have e1:=H4.out;have e2:=H2.out;have e3:=H3.out;have Jc:=hid (Bx5.atB Hj.gb (bt.block _ Hj.gb.lt (.inr zL)) bt.size);have Gn:Hid (Bl Y Le):=hid (Gm.trans ((bt.low (by have:=Hj.s1.hl;omega)).mono (by omega)));have Ki:=hid (Qfn id (c:=ic) (d:=ie) (c':=Gf) (d':=G3) Hq.1.1 Hq.2.1 Jy.at Jz.at);rw [J2.out] at Ki;have dE:decide ((E2:Int)<0)=false:=by simp
   have Lf:((E2:Int) !=(E2:Int))=false:=by simp
   clear bt Jy Jz e1 e2 e3 Km Hj Gm y0 y1 y2 y3 y4;obtain⟨y0,y1,y2,y3,y4⟩:=Jc.q5;go_wp2_with fail;refine Ki.mono ?_;rintro e U2 ⟨rfl,Jw⟩;have Go:=hid (Qaa Gn Jw);have Hl:=hid (Hm.bw Go);have E:=hid (Gr U2 Hl);clear Jw Ki Jc Gn y0 y1 y2 y3 y4;go_upto_region 31 with fail;go_cut [15,16] from 94 to 101 (fun v6 v7 wx=>∃A B sc P sd F sc' R sd',v6=.pointer (some ⟨A,0,none⟩)/\ v7=.int .i64 C/\ Hid (AnP wx id A B P F R sc sd sc' sd' X Z)/\ Hid (Bl U2 wx));case first=>
    refine zS E (fun qh=> ?_);refine tZ 0 95 ?_;refine tZ 2 97 ?_;obtain⟨z0,Gb⟩:=zE U2.drew;have Hu:Bl U2 z0:=by rw [<- Gb];exact zI.drew
    rw [Gb];clear Gb;refine Qa0 (i:=1) (j:=8) (d:=some 96) (d':=some 15) (by kernel_rfl) (by kernel_rfl) (by kernel_rfl) ?_ ?_
    ·skip;intro o H Hp K m;simp only [gZa,gZb,gZc,gZd] at H;subst H;go_simp;refine(Gd _ (Qaa Hl.low Hu)).mono ?_;rintro e L ⟨g2,h2,g3,h3,He,rfl,M,O,q⟩;have Hf:=Qaa Hu q;have K2:=q.size;refine m.out _ _ (E _ Hf) (fun qh=> ?_);clear m K;try simp only [zP]
     clear q;refine Qa0 (i:=3) (j:=8) (d:=some 98) (d':=some 15) (by kernel_rfl) (by kernel_rfl) (by kernel_rfl) ?_ ?_
     ·skip;intro o H Hp K m;simp only [gZa,gZb,gZc,gZd] at H;subst H;go_simp;refine(Hv _ (Qaa Hl.low Hf)).mono ?_;rintro e s ⟨g4,rfl,t3,q⟩;replace M:=M.bw q
      replace O:=O.bw q
      have Hb:=Qaa Hf q;have G1:=q.size;refine m.out _ _ (E _ Hb) (fun qh=> ?_);clear m K;try simp only [zP]
      clear q;refine Qa0 (i:=4) (j:=8) (d:=some 99) (d':=some 15) (by kernel_rfl) (by kernel_rfl) (by kernel_rfl) ?_ ?_
      ·skip;intro o H Hp K m;simp only [gZa,gZb,gZc,gZd] at H;subst H;go_simp;obtain⟨l,hl⟩:=zE s.heap.size;have Hk:=Hl.low;refine(G8 _ _ _ _ _ _ _ _ _ _ _ (Qaa Hl.low Hb) M O t3).mono ?_;rintro e y ⟨B,sc,P,sd,F,sc',R,sd',rfl,Q,I,q⟩;rw [hl] at Q I;replace hl:s.heap.size<=l/\ l<=s.heap.size:=by omega
       clear Hk;have N:=Qaa Hb q;have H9:=q.size;refine m.out _ _ (E _ N) (fun qh=> ?_);clear m K;try simp only [zP]
       clear q;refine tZ 5 94 ?_;refine tZ 6 100 ?_;refine tZ 7 101 ?_;refine cZ 8 ?_;intro K m;go_simp;obtain⟨z4,z⟩:=zE (y.alloc (.cells #[.int .i64 0,.slice none 0 0,.slice none 0 0,.slice none 0 0,.slice none 0 0] 42));have J:Bl y z4:=by rw [<- z];exact zO _ _
       have r:Bx5 z4 y.heap.size (.int .i64 0) (.slice none 0 0) (.slice none 0 0) (.slice none 0 0) (.slice none 0 0):=by rw [<- z];exact Bx5.new _ _ _ _ _ _ _
       have Gc:z4.heap.size<=y.heap.size+1/\ y.heap.size+1<=z4.heap.size:=by rw [<- z];simp
       have Ga:=N.size;have Hd:=Qaa N J;obtain⟨A,Hc⟩:=zE y.heap.size;rw [Hc] at r ⊢;rw [z];clear z;replace Hc:y.heap.size<=A/\ A<=y.heap.size:=by omega
       refine m.out _ _ (E _ Hd) (fun qh=> ?_);clear m K;try simp only [zP]
       obtain⟨c0,c1,c2,c3,c4,cf⟩:=r.p5;refine cZ 9 ?_;intro K m;go_simp;have G:=AnP.made (id:=id) (sc:=sc) (sd:=sd) (sc':=sc') (sd':=sd') Q I r (.inl J) (by omega);have t:=((((Hd.setCell (p:=⟨A,0,none⟩) (by show U2.heap.size<=A;omega) (.int .i64 id)).setCell (p:=⟨A,1,none⟩) (by show U2.heap.size<=A;omega) (.slice B X.l.length sc)).setCell (p:=⟨A,2,none⟩) (by show U2.heap.size<=A;omega) (.slice P X.n sd)).setCell (p:=⟨A,3,none⟩) (by show U2.heap.size<=A;omega) (.slice F Z.l.length sc')).setCell (p:=⟨A,4,none⟩) (by show U2.heap.size<=A;omega) (.slice R Z.n sd');refine m.out _ _ (E _ t) (fun qh=> ?_);clear m K;try simp only [zP]
       refine tZ 10 16 ?_;refine zD ?_;have Hi:=hid G;have Hh:=hid t;clear G t c0 c1 c2 c3 c4 cf r Q I qh;go_wp2_with fail;go_meet;exact⟨A,B,sc,P,sd,F,sc',R,sd',rfl,rfl,Hi,Hh⟩
      ·skip;intro o H Hp K m;simp only [gZa,gZb,gZc,gZd] at H;subst H;go_simp;obtain⟨y,z⟩:=zE (s.alloc (.cells #[.int .i64 0,.slice none 0 0,.slice none 0 0,.slice none 0 0,.slice none 0 0] 42));have J:Bl s y:=by rw [<- z];exact zO _ _
       have r:Bx5 y s.heap.size (.int .i64 0) (.slice none 0 0) (.slice none 0 0) (.slice none 0 0) (.slice none 0 0):=by rw [<- z];exact Bx5.new _ _ _ _ _ _ _
       have Gc:y.heap.size<=s.heap.size+1/\ s.heap.size+1<=y.heap.size:=by rw [<- z];simp
       have Ga:=Hb.size;have N:=Qaa Hb J;obtain⟨A,Hc⟩:=zE s.heap.size;rw [Hc] at r ⊢;rw [z];clear z;replace Hc:s.heap.size<=A/\ A<=s.heap.size:=by omega
       replace M:=M.bw J
       replace O:=O.bw J
       replace t3:=t3.bw J
       refine m.out _ _ (E _ N) (fun qh=> ?_);clear m K;try simp only [zP]
       clear J;refine cZ 4 ?_;intro K m;go_simp;obtain⟨l,hl⟩:=zE y.heap.size;have Hk:=Hl.low;refine(G8 _ _ _ _ _ _ _ _ _ _ _ (Qaa Hl.low N) M O t3).mono ?_;rintro e z4 ⟨B,sc,P,sd,F,sc',R,sd',rfl,Q,I,q⟩;rw [hl] at Q I;replace hl:y.heap.size<=l/\ l<=y.heap.size:=by omega
       clear Hk;have Hd:=Qaa N q;have H9:=q.size;have Ho:=r.lt;replace r:=r.bw q r.lt
       refine m.out _ _ (E _ Hd) (fun qh=> ?_);clear m K;try simp only [zP]
       clear q;refine tZ 5 94 ?_;refine tZ 6 100 ?_;refine tZ 7 101 ?_;obtain⟨c0,c1,c2,c3,c4,cf⟩:=r.p5;refine cZ 9 ?_;intro K m;go_simp;have G:=AnP.made (id:=id) (sc:=sc) (sd:=sd) (sc':=sc') (sd':=sd') Q I r (.inr rfl) (by omega);have t:=((((Hd.setCell (p:=⟨A,0,none⟩) (by show U2.heap.size<=A;omega) (.int .i64 id)).setCell (p:=⟨A,1,none⟩) (by show U2.heap.size<=A;omega) (.slice B X.l.length sc)).setCell (p:=⟨A,2,none⟩) (by show U2.heap.size<=A;omega) (.slice P X.n sd)).setCell (p:=⟨A,3,none⟩) (by show U2.heap.size<=A;omega) (.slice F Z.l.length sc')).setCell (p:=⟨A,4,none⟩) (by show U2.heap.size<=A;omega) (.slice R Z.n sd');refine m.out _ _ (E _ t) (fun qh=> ?_);clear m K;try simp only [zP]
       refine tZ 10 16 ?_;refine zD ?_;have Hi:=hid G;have Hh:=hid t;clear G t c0 c1 c2 c3 c4 cf r Q I qh;go_wp2_with fail;go_meet;exact⟨A,B,sc,P,sd,F,sc',R,sd',rfl,rfl,Hi,Hh⟩
     ·skip;intro o H Hp K m;simp only [gZa,gZb,gZc,gZd] at H;subst H;go_simp;obtain⟨s,z⟩:=zE (L.alloc (.cells #[.int .i64 0,.slice none 0 0,.slice none 0 0,.slice none 0 0,.slice none 0 0] 42));have J:Bl L s:=by rw [<- z];exact zO _ _
      have r:Bx5 s L.heap.size (.int .i64 0) (.slice none 0 0) (.slice none 0 0) (.slice none 0 0) (.slice none 0 0):=by rw [<- z];exact Bx5.new _ _ _ _ _ _ _
      have Gc:s.heap.size<=L.heap.size+1/\ L.heap.size+1<=s.heap.size:=by rw [<- z];simp
      have Ga:=Hf.size;have Hb:=Qaa Hf J;obtain⟨A,Hc⟩:=zE L.heap.size;rw [Hc] at r ⊢;rw [z];clear z;replace Hc:L.heap.size<=A/\ A<=L.heap.size:=by omega
      replace M:=M.bw J
      replace O:=O.bw J
      refine m.out _ _ (E _ Hb) (fun qh=> ?_);clear m K;try simp only [zP]
      clear J;refine cZ 3 ?_;intro K m;go_simp;refine(Hv _ (Qaa Hl.low Hb)).mono ?_;rintro e y ⟨g4,rfl,t3,q⟩;replace M:=M.bw q
      replace O:=O.bw q
      have N:=Qaa Hb q;have G1:=q.size;have H8:=r.lt;replace r:=r.bw q r.lt
      refine m.out _ _ (E _ N) (fun qh=> ?_);clear m K;try simp only [zP]
      clear q;refine cZ 4 ?_;intro K m;go_simp;obtain⟨l,hl⟩:=zE y.heap.size;have Hk:=Hl.low;refine(G8 _ _ _ _ _ _ _ _ _ _ _ (Qaa Hl.low N) M O t3).mono ?_;rintro e z4 ⟨B,sc,P,sd,F,sc',R,sd',rfl,Q,I,q⟩;rw [hl] at Q I;replace hl:y.heap.size<=l/\ l<=y.heap.size:=by omega
      clear Hk;have Hd:=Qaa N q;have H9:=q.size;have Ho:=r.lt;replace r:=r.bw q r.lt
      refine m.out _ _ (E _ Hd) (fun qh=> ?_);clear m K;try simp only [zP]
      clear q;refine tZ 5 94 ?_;refine tZ 6 100 ?_;refine tZ 7 101 ?_;obtain⟨c0,c1,c2,c3,c4,cf⟩:=r.p5;refine cZ 9 ?_;intro K m;go_simp;have G:=AnP.made (id:=id) (sc:=sc) (sd:=sd) (sc':=sc') (sd':=sd') Q I r (.inr rfl) (by omega);have t:=((((Hd.setCell (p:=⟨A,0,none⟩) (by show U2.heap.size<=A;omega) (.int .i64 id)).setCell (p:=⟨A,1,none⟩) (by show U2.heap.size<=A;omega) (.slice B X.l.length sc)).setCell (p:=⟨A,2,none⟩) (by show U2.heap.size<=A;omega) (.slice P X.n sd)).setCell (p:=⟨A,3,none⟩) (by show U2.heap.size<=A;omega) (.slice F Z.l.length sc')).setCell (p:=⟨A,4,none⟩) (by show U2.heap.size<=A;omega) (.slice R Z.n sd');refine m.out _ _ (E _ t) (fun qh=> ?_);clear m K;try simp only [zP]
      refine tZ 10 16 ?_;refine zD ?_;have Hi:=hid G;have Hh:=hid t;clear G t c0 c1 c2 c3 c4 cf r Q I qh;go_wp2_with fail;go_meet;exact⟨A,B,sc,P,sd,F,sc',R,sd',rfl,rfl,Hi,Hh⟩
    ·skip;intro o H Hp K m;simp only [gZa,gZb,gZc,gZd] at H;subst H;go_simp;obtain⟨L,z⟩:=zE (z0.alloc (.cells #[.int .i64 0,.slice none 0 0,.slice none 0 0,.slice none 0 0,.slice none 0 0] 42));have J:Bl z0 L:=by rw [<- z];exact zO _ _
     have r:Bx5 L z0.heap.size (.int .i64 0) (.slice none 0 0) (.slice none 0 0) (.slice none 0 0) (.slice none 0 0):=by rw [<- z];exact Bx5.new _ _ _ _ _ _ _
     have Gc:L.heap.size<=z0.heap.size+1/\ z0.heap.size+1<=L.heap.size:=by rw [<- z];simp
     have Ga:=Hu.size;have Hf:=Qaa Hu J;obtain⟨A,Hc⟩:=zE z0.heap.size;rw [Hc] at r ⊢;rw [z];clear z;replace Hc:z0.heap.size<=A/\ A<=z0.heap.size:=by omega
     refine m.out _ _ (E _ Hf) (fun qh=> ?_);clear m K;try simp only [zP]
     clear J;refine cZ 1 ?_;intro K m;go_simp;refine(Gd _ (Qaa Hl.low Hf)).mono ?_;rintro e s ⟨g2,h2,g3,h3,He,rfl,M,O,q⟩;have Hb:=Qaa Hf q;have K2:=q.size;have K1:=r.lt;replace r:=r.bw q r.lt
     refine m.out _ _ (E _ Hb) (fun qh=> ?_);clear m K;try simp only [zP]
     clear q;refine cZ 3 ?_;intro K m;go_simp;refine(Hv _ (Qaa Hl.low Hb)).mono ?_;rintro e y ⟨g4,rfl,t3,q⟩;replace M:=M.bw q
     replace O:=O.bw q
     have N:=Qaa Hb q;have G1:=q.size;have H8:=r.lt;replace r:=r.bw q r.lt
     refine m.out _ _ (E _ N) (fun qh=> ?_);clear m K;try simp only [zP]
     clear q;refine cZ 4 ?_;intro K m;go_simp;obtain⟨l,hl⟩:=zE y.heap.size;have Hk:=Hl.low;refine(G8 _ _ _ _ _ _ _ _ _ _ _ (Qaa Hl.low N) M O t3).mono ?_;rintro e z4 ⟨B,sc,P,sd,F,sc',R,sd',rfl,Q,I,q⟩;rw [hl] at Q I;replace hl:y.heap.size<=l/\ l<=y.heap.size:=by omega
     clear Hk;have Hd:=Qaa N q;have H9:=q.size;have Ho:=r.lt;replace r:=r.bw q r.lt
     refine m.out _ _ (E _ Hd) (fun qh=> ?_);clear m K;try simp only [zP]
     clear q;refine tZ 5 94 ?_;refine tZ 6 100 ?_;refine tZ 7 101 ?_;obtain⟨c0,c1,c2,c3,c4,cf⟩:=r.p5;refine cZ 9 ?_;intro K m;go_simp;have G:=AnP.made (id:=id) (sc:=sc) (sd:=sd) (sc':=sc') (sd':=sd') Q I r (.inr rfl) (by omega);have t:=((((Hd.setCell (p:=⟨A,0,none⟩) (by show U2.heap.size<=A;omega) (.int .i64 id)).setCell (p:=⟨A,1,none⟩) (by show U2.heap.size<=A;omega) (.slice B X.l.length sc)).setCell (p:=⟨A,2,none⟩) (by show U2.heap.size<=A;omega) (.slice P X.n sd)).setCell (p:=⟨A,3,none⟩) (by show U2.heap.size<=A;omega) (.slice F Z.l.length sc')).setCell (p:=⟨A,4,none⟩) (by show U2.heap.size<=A;omega) (.slice R Z.n sd');refine m.out _ _ (E _ t) (fun qh=> ?_);clear m K;try simp only [zP]
     refine tZ 10 16 ?_;refine zD ?_;have Hi:=hid G;have Hh:=hid t;clear G t c0 c1 c2 c3 c4 cf r Q I qh;go_wp2_with fail;go_meet;exact⟨A,B,sc,P,sd,F,sc',R,sd',rfl,rfl,Hi,Hh⟩
   case rest=>
   obtain⟨bH,ja,jc,jx,je,J8,J9,Lb,La,rfl,rfl,Kj,G7⟩:=hcut;have Gp:=hid (Qaa Go G7);have Kh:=hid (G5.bw Gp);have HE:=hid (QbW id ja jx J8 Lb B P F R jc je J9 La sc sd sc' sd' X Z wc Hq.1.1 Hq.2.1 Kj.s1 Kj.s2 Kh.s1 Kh.s2);obtain⟨y0,y1,y2,y3,y4⟩:=Kj.wb.q5;obtain⟨z0,L,s,y,z4⟩:=Kh.wb.q5;clear E;go_wp2_with fail;refine HE.mono ?_;rintro e Lk ⟨rfl,Jx⟩;have J3:=hid (Hm.bw (Qaa Gp Jx)).low;clear Jx HE y0 y1 y2 y3 y4 z0 L s y z4;go_wp2_with fail;go_ret;exact⟨rfl,J3⟩
end Go.Proofs.YtgmjgboibfdaeaaGreatDoor
