import Derived.Test.YtmlmkaiibamabaaGreatDoorSyg09
import Derived.BigRegion
import Derived.Deep.RegionLaw
set_option linter.unusedVariables false
set_option linter.unusedSimpArgs false
set_option maxRecDepth 100000
set_option maxHeartbeats 40000000
namespace Go.Proofs.YtmlmkaiibamabaaGreatDoor
open Go.ChangeShapes Go.WideShapes Go.ChangeAt Go.RowKit Go.Maps Go.Proofs.Tryz
open Go.Value renaming slice → Uf, int → Ug, pointer → Uk, tuple → Ul, string → Um, bool → Un, agg → Uo
open Go.IntKind renaming i64 → Uh
open Go.Ending renaming returned → Ui
open Go.Obj renaming cells → Uj
open Option renaming none → Up, some → Uq
open Go renaming World → Ur, Addr → Us
open Go.World renaming setCell → UL, cell? → YO, cell?_setCell_other → UN, cell?_setCell_same → UM, frozen?_setCell → UK, ownsRow_lit → VF, drewN_zero → JA, cell?_of_block → US, frozen?_of_block → UT, cell?_setCells_out → JC, grownBy_alloc → VG
open List renaming length_append → UB, range → UW, getElem_map → JD, getElem_range → JE, replicate → JG, replicate_succ' → JI, getD → UA, map_toArray → JJ, map_cons → UD, map_nil → Vr, size_toArray → Yq, getElem?_set_ne → JK, set_cons_succ → JL, length_set → JM, getElem_set → JN, getElem_set_ne → JO
open Nat renaming le_refl → Uv, zero_add → VS, lt_of_lt_of_le → Ut, lt_succ_of_lt → JP, zero_le → Ux, le_trans → Uw, add_mul → JR, mul_le_mul_right → UR, add_assoc → UQ, le_add_right → JU, le_of_eq → JV
open Int renaming natCast_nonneg → UI, emod_nonneg → JW, emod_lt_of_pos → JX, tmod_eq_emod_of_nonneg → JY
open Go.IntKind renaming wrap_i64 → VP
open _root_.Array renaming getElem?_setIfInBounds → JZ
variable {B C b4 c c' cb d d' e g i ii k lo lo' m n off pc q r rb x:Nat}{Bo:Bool}{D S X Y:Sx}{K:Int}{P:Program}{V w w' w1 w2 wr:Ur}{a a' pa x':Option Us}{f:Nat ->Int}{l:List Rn}{p:List ByteArray}{row:Option Nat}{t':TypeId}{u v v' v0 v1 v2 v3 v4:Value}{xs:List Value}{zs:List Int}
theorem Qg6 (a:Option Us)(c:Nat)(xa:Option Us)(d:Nat)(pa:Option Us)(pc:Nat)(S:Sx)(rep:Int)(p:List ByteArray)(v:ByteArray)(w:Ur)(hm:S.Sm)(hT:I64 S.T)(h1:QbY w a S.l)(h3:QaT w xa S.n S.R S.F S.T)(hp:p.length<=1048576)(hpc:p.length<=pc/\ pc<=9223372036854775807)(hseg:QaP w pa p)(hv:v.size<=1048576):
  Cl 91 #[Uo #[Uf a S.l.length c,Uf xa S.n d],Ud rep,Uf pa p.length pc,Um v] w fun e w'=>∃a m x t a' m' x' t',e=Ui (Ul #[Uo #[Uf a (seX S rep p false true v).l.length m,Uf x (seX S rep p false true v).n t],Uo #[Uf a' (seY S rep p false true v).l.length m',Uf x' (seY S rep p false true v).n t'],Ud (seC S rep p false true v)])/\ SNc w' w.heap.size a m x (seX S rep p false true v)/\ SNc w' w.heap.size a' m' x' (seY S rep p false true v)/\ Bl w w':=by
 obtain⟨W,j⟩:=zE (((w.alloc (Uj #[Uf a S.l.length c,Uf xa S.n d] 28)).alloc (Uj #[Ue,Ue] 28)).alloc (Uj #[Ue,Ue] 28));have k:Bl w W:=j▸(Qad _ _ _).alloc oS _;have B:W.heap.size=w.heap.size+3:=j▸oP;have b:Bx2 W w.heap.size (Uf a S.l.length c) (Uf xa S.n d):=j▸((Bx2.made w _ _ _).allocs _).allocs _;have I:Bx2 W (w.heap.size+1) Ue Ue:=by
  rw [<- j];have:=Bx2.made (w.alloc (Uj #[Uf a S.l.length c,Uf xa S.n d] 28)) Ue Ue 28;exact(by simpa using this:Bx2 _ (w.heap.size+1) _ _).allocs _
 have H:Bx2 W (w.heap.size+1+1) Ue Ue:=by
  rw [<- j];simpa using Bx2.made ((w.alloc (Uj #[Uf a S.l.length c,Uf xa S.n d] 28)).alloc (Uj #[Ue,Ue] 28)) Ue Ue 28
 have Hd:=hid b;have G:=hid I;have Z:=hid H;have D:=hid k;have He:=hid B;obtain⟨k0,k1⟩:=b.q2;have s:=hid (QlK a c xa d pa pc S rep p false true v W hm hT (h1.bw k) (h3.bw k) hp hpc (hseg.bw k) hv (fun h=>by cases h));obtain⟨X,M⟩:=zE (seX S rep p false true v);obtain⟨Y,O⟩:=zE (seY S rep p false true v);obtain⟨C,E⟩:=zE (seC S rep p false true v);rw [M,O,E] at s;have A:=hid (And.intro M (And.intro O E));have Hc:Hid (w.heap.size+3<=W.heap.size):=hid oM;clear k B b I H h1 h3 hseg hpc M O E;go_enter func91,ntmps91;go_wp2_with fail;try rw [j]
 clear j;refine s.mono ?_;rintro e w4 ⟨q,u,o,z,r,y,i,g,rfl,L,N,b4⟩;have P:=hid (G.bw b4 G.lt);have Ha:=hid (Z.bw b4 Z.lt);have Q:=hid (Qaa D b4);have U:=hid L;have V:=hid N;clear b4 L N s k0 k1;obtain⟨r0,r1,rf,q0,q1,qf,Hb⟩:=QgD P Ha (Uf q X.l.length u) (Uf o X.n z) (Uf r Y.l.length y) (Uf i Y.n g);go_wp2_with fail;obtain⟨J,K⟩:=Hb.out;refine zF (v:=Ul #[Uo #[Uf q X.l.length u,Uf o X.n z],Uo #[Uf r Y.l.length y,Uf i Y.n g],Ud C]) (by simp [results,results91,go_sem,J.c0,J.c1,K.c0,K.c1]) ?_;have hz:=Hc.out;rw [A.1,A.2.1,A.2.2];first
  | exact⟨q,u,o,z,r,y,i,g,rfl,QeX U oM _ _ _ _,QeX V oM _ _ _ _,Qa5 Q _ _ _ _⟩
  | exact⟨q,u,o,z,r,y,i,⟨g,rfl⟩,QeX U oM _ _ _ _,QeX V oM _ _ _ _,Qa5 Q _ _ _ _⟩
theorem Qhs (a:Option Us)(c:Nat)(xa:Option Us)(d:Nat)(pa:Option Us)(pc:Nat)(S:Sx)(rep:Int)(p:List ByteArray)(on:Bool)(w:Ur)(hm:S.Sm)(hT:I64 S.T)(h1:QbY w a S.l)(h3:QaT w xa S.n S.R S.F S.T)(hp:p.length<=1048576)(hpc:p.length<=pc/\ pc<=9223372036854775807)(hseg:QaP w pa p):
  Cl 93 #[Uo #[Uf a S.l.length c,Uf xa S.n d],Ud rep,Uf pa p.length pc,Un on] w fun e w'=>∃a m x t a' m' x' t',e=Ui (Ul #[Uo #[Uf a (seX S rep p true on ⟨#[]⟩).l.length m,Uf x (seX S rep p true on ⟨#[]⟩).n t],Uo #[Uf a' (seY S rep p true on ⟨#[]⟩).l.length m',Uf x' (seY S rep p true on ⟨#[]⟩).n t'],Ud (seC S rep p true on ⟨#[]⟩)])/\ SNc w' w.heap.size a m x (seX S rep p true on ⟨#[]⟩)/\ SNc w' w.heap.size a' m' x' (seY S rep p true on ⟨#[]⟩)/\ Bl w w':=by
 obtain⟨W,j⟩:=zE (((w.alloc (Uj #[Uf a S.l.length c,Uf xa S.n d] 28)).alloc (Uj #[Ue,Ue] 28)).alloc (Uj #[Ue,Ue] 28));have k:Bl w W:=j▸(Qad _ _ _).alloc oS _;have N:W.heap.size=w.heap.size+3:=j▸oP;have i:Bx2 W w.heap.size (Uf a S.l.length c) (Uf xa S.n d):=j▸((Bx2.made w _ _ _).allocs _).allocs _;have H:Bx2 W (w.heap.size+1) Ue Ue:=by
  rw [<- j];have:=Bx2.made (w.alloc (Uj #[Uf a S.l.length c,Uf xa S.n d] 28)) Ue Ue 28;exact(by simpa using this:Bx2 _ (w.heap.size+1) _ _).allocs _
 have G:Bx2 W (w.heap.size+1+1) Ue Ue:=by
  rw [<- j];simpa using Bx2.made ((w.alloc (Uj #[Uf a S.l.length c,Uf xa S.n d] 28)).alloc (Uj #[Ue,Ue] 28)) Ue Ue 28
 have Hc:=hid i;have Z:=hid H;have V:=hid G;have C:=hid k;have Hd:=hid N;obtain⟨k0,k1⟩:=i.q2;have b:=hid (QlK a c xa d pa pc S rep p true on ⟨#[]⟩ W hm hT (h1.bw k) (h3.bw k) hp hpc (hseg.bw k) oD (fun _=>by simp [emB]));obtain⟨X,E⟩:=zE (seX S rep p true on ⟨#[]⟩);obtain⟨Y,M⟩:=zE (seY S rep p true on ⟨#[]⟩);obtain⟨B,A⟩:=zE (seC S rep p true on ⟨#[]⟩);rw [E,M,A] at b;have s:=hid (And.intro E (And.intro M A));have Hb:Hid (w.heap.size+3<=W.heap.size):=hid oM;clear k N i H G h1 h3 hseg hpc E M A;go_enter func93,ntmps93;go_wp2_with fail;try rw [j]
 clear j;refine b.mono ?_;rintro e w4 ⟨q,u,g,z,r,y,o,h,rfl,K,L,b4⟩;have D:=hid (Z.bw b4 Z.lt);have P:=hid (V.bw b4 V.lt);have O:=hid (Qaa C b4);have Q:=hid K;have U:=hid L;clear b4 K L b k0 k1;obtain⟨r0,r1,rf,q0,q1,qf,Ha⟩:=QgD D P (Uf q X.l.length u) (Uf g X.n z) (Uf r Y.l.length y) (Uf o Y.n h);go_wp2_with fail;obtain⟨I,J⟩:=Ha.out;refine zF (v:=Ul #[Uo #[Uf q X.l.length u,Uf g X.n z],Uo #[Uf r Y.l.length y,Uf o Y.n h],Ud B]) (by simp [results,results93,go_sem,I.c0,I.c1,J.c0,J.c1]) ?_;have hz:=Hb.out;rw [s.1,s.2.1,s.2.2];first
  | exact⟨q,u,g,z,r,y,o,h,rfl,QeX Q oM _ _ _ _,QeX U oM _ _ _ _,Qa5 O _ _ _ _⟩
  | exact⟨q,u,g,z,r,y,o,⟨h,rfl⟩,QeX Q oM _ _ _ _,QeX U oM _ _ _ _,Qa5 O _ _ _ _⟩
theorem Ql6(hs:StW S.R S.F S.T S.n S.l)(hd:StW D.R D.F D.T D.n D.l):SmI (chX S D)/\ SmI (chY S D):=by
 cases h:chF S D with
 | false=>obtain⟨j,k,_⟩:=QpC h;rw [j,k];exact⟨Qc3,Qc3⟩
 | true=>
  obtain⟨j,k,_⟩:=Qq0 h;rw [j,k];unfold chF jnF at h;simp only [Bool.and_eq_true,decide_eq_true_eq] at h;exact⟨Qev h.1.1 h.1.2 (fun x hx=>Qiw hs hd x hx),Qev h.2.1 h.2.2 (fun x hx=>QfN hd x hx)⟩
theorem Qpg (S:Sx)(p:List ByteArray):SmI (rmX S p)/\ SmI (rmY S p):=by
 by_cases h:ocC S p ⟨#[]⟩=0
 ·obtain⟨j,k,_⟩:=Qq3 h;have m:=Qd9 (QlU h).1;rw [j,k];exact Ql6 m.w (QpH m (PtO.nil S))
 ·obtain⟨j,k,_⟩:=Qqo h;rw [j,k];exact⟨Qc3,Qc3⟩
theorem Qma (S:Sx)(rep:Int)(p:List ByteArray)(fl on:Bool)(v:ByteArray)(hf:fl=true ->emB v=true):SmI (seX S rep p fl on v)/\ SmI (seY S rep p fl on v):=by
 by_cases h:ocC S p v=0
 ·have m:=QlU h;have r:=Qd9 m.1;by_cases q:QlZ S rep on
  ·obtain⟨j,k,_⟩:=Qq5 (fl:=fl) h q;rw [j,k];exact Ql6 r.w (QpH r (Qpi r m.2.1 m.2.2 hf q))
  ·obtain⟨j,k,_⟩:=Qq4 (fl:=fl) h q;rw [j,k];exact⟨Qc3,Qc3⟩
 ·obtain⟨j,k,_⟩:=Qp5 (rep:=rep) (fl:=fl) (on:=on) h;rw [j,k];exact⟨Qc3,Qc3⟩
noncomputable def chg (S:Sx)(id k:Int)(p:List ByteArray)(v:ByteArray):Sx×Sx×Int:=
 if k=1 then(seX S id p false true v,seY S id p false true v,seC S id p false true v)
 else if k=4 then(rmX S p,rmY S p,rmC S p)
 else(seX S id p true (k==2) ⟨#[]⟩,seY S id p true (k==2) ⟨#[]⟩,seC S id p true (k==2) ⟨#[]⟩)
theorem Qm9{id k:Int}{v:ByteArray}{C:Int}(h:chg S id k p v=(X,Y,C)):SmI X/\ SmI Y:=by
 unfold chg at h;split at h
 ·injection h with e1 e2;injection e2 with e2 e3;subst e1 e2;exact Qma _ _ _ _ _ _ (fun h=>by cases h)
 ·split at h
  ·injection h with e1 e2;injection e2 with e2 e3;subst e1 e2;exact Qpg _ _
  ·injection h with e1 e2;injection e2 with e2 e3;subst e1 e2;exact Qma _ _ _ _ _ _ (fun _=>by unfold emB;rw [ByteArray.toList_eq];rfl)
open Go.Deep
def Qp2 (X Y:Sx)(C:Int)(w:Ur)(e:Ending)(w':Ur):Prop:=∃a m x t a' m' x' t',e=Ui (Ul #[Uo #[Uf a X.l.length m,Uf x X.n t],Uo #[Uf a' Y.l.length m',Uf x' Y.n t'],Ud C])/\ SNc w' w.heap.size a m x X/\ SNc w' w.heap.size a' m' x' Y/\ Bl w w'
theorem Qj3 (id:Int)(a x a' x' pa:Option Us)(c d c' d' pc:Nat)(S D:Sx)(k:Int)(p:List ByteArray)(v:ByteArray)(X Y:Sx)(C:Int)(w:Ur)(hq:chg S id k p v=(X,Y,C))(hm:S.Sm)(hT:I64 S.T)(h1:QbY w a S.l)(h3:QaT w x S.n S.R S.F S.T)(hp:p.length<=1048576)(hpc:p.length<=pc/\ pc<=9223372036854775807)(hseg:QaP w pa p)(hv:v.size<=1048576):
  Cl 59 #[Uo #[Ud id,Uf a S.l.length c,Uf x S.n d,Uf a' D.l.length c',Uf x' D.n d'],Uo #[Ud k,Uf pa p.length pc,Um v]] w fun e w'=>Qp2 X Y C w e w':=by
 obtain⟨W,j⟩:=zE ((((w.alloc (Uj #[Ud id,Uf a S.l.length c,Uf x S.n d,Uf a' D.l.length c',Uf x' D.n d'] 30)).alloc (Uj #[Ud k,Uf pa p.length pc,Um v] 76)).alloc (Uj #[Ue,Ue] 28)).alloc (Uj #[Ue,Ue] 28));have m:Bl w W:=by rw [<- j];exact(((Qad _ _ _).alloc oS _).alloc oS _)
 have zW:W.heap.size=w.heap.size+4:=j▸oP;have L:Bx5 W w.heap.size (Ud id) (Uf a S.l.length c) (Uf x S.n d) (Uf a' D.l.length c') (Uf x' D.n d'):=by rw [<- j];exact(((Bx5.new w _ _ _ _ _ _).up _).up _).up _
 have P:Bx3 W (w.heap.size+1) (Ud k) (Uf pa p.length pc) (Um v):=by
  rw [<- j];have:=Bx3.made (w.alloc (Uj #[Ud id,Uf a S.l.length c,Uf x S.n d,Uf a' D.l.length c',Uf x' D.n d'] 30)) (Ud k) (Uf pa p.length pc) (Um v) 76;exact((by simpa using this:Bx3 _ (w.heap.size+1) _ _ _).up _).up _
 have R0:Bx2 W (w.heap.size+1+1) Ue Ue:=by
  rw [<- j];have:=Bx2.made ((w.alloc (Uj #[Ud id,Uf a S.l.length c,Uf x S.n d,Uf a' D.l.length c',Uf x' D.n d'] 30)).alloc (Uj #[Ud k,Uf pa p.length pc,Um v] 76)) Ue Ue 28;exact(by simpa using this:Bx2 _ (w.heap.size+1+1) _ _).allocs _
 have Q0:Bx2 W (w.heap.size+1+1+1) Ue Ue:=by
  rw [<- j];simpa using Bx2.made (((w.alloc (Uj #[Ud id,Uf a S.l.length c,Uf x S.n d,Uf a' D.l.length c',Uf x' D.n d'] 30)).alloc (Uj #[Ud k,Uf pa p.length pc,Um v] 76)).alloc (Uj #[Ue,Ue] 28)) Ue Ue 28
 have K:Hid ((k=1/\ Cl 91 #[Uo #[Uf a S.l.length c,Uf x S.n d],Ud id,Uf pa p.length pc,Um v] W fun e w'=>Qp2 X Y C W e w') \/(k≠1/\ k=4/\ Cl 92 #[Uo #[Uf a S.l.length c,Uf x S.n d],Uf pa p.length pc] W fun e w'=>Qp2 X Y C W e w') \/k≠1/\ k≠4/\ Cl 93 #[Uo #[Uf a S.l.length c,Uf x S.n d],Ud id,Uf pa p.length pc,Un (k==2)] W fun e w'=>Qp2 X Y C W e w'):=hid (by
  unfold chg at hq;by_cases i:k=1
  ·rw [if_pos i] at hq;injection hq with g1 g2;injection g2 with g2 g3;subst g1 g2 g3;exact .inl ⟨i,Qg6 a c x d pa pc S id p v W hm hT (h1.bw m) (h3.bw m) hp hpc (hseg.bw m) hv⟩
  ·rw [if_neg i] at hq;by_cases O:k=4
   ·rw [if_pos O] at hq;injection hq with g1 g2;injection g2 with g2 g3;subst g1 g2 g3;exact .inr (.inl ⟨i,O,Qi9 a c x d pa pc S p W hm (h1.bw m) (h3.bw m) hp hpc (hseg.bw m)⟩)
   ·rw [if_neg O] at hq;injection hq with g1 g2;injection g2 with g2 g3;subst g1 g2 g3;exact .inr (.inr ⟨i,O,Qhs a c x d pa pc S id p (k==2) W hm hT (h1.bw m) (h3.bw m) hp hpc (hseg.bw m)⟩))
 have HA:=hid L;have HO:=hid P;have U:=hid R0;have Q:=hid Q0;have N:=hid m;have B:Hid (w.heap.size+4<=W.heap.size):=hid oM;obtain⟨k0,k1,k2⟩:=L.q3;obtain⟨o0,o1,o2⟩:=P.q3;clear m zW L P R0 Q0 h1 h3 hseg hpc hq;rcases K.out with ⟨rfl,h⟩|⟨i,rfl,h⟩|⟨i,O,h⟩
 ·have b:=hid h;clear h K;go_enter func59,ntmps59;go_wp2_with fail;try rw [j]
  clear j;refine b.mono ?_;rintro e w4 ⟨q,u,t,z,r,y,o,g,rfl,E,M,b4⟩;have H:=hid (U.bw b4 U.lt);have I:=hid (Q.bw b4 Q.lt);have V:=hid (Qaa N b4);have Z:=hid E;have G:=hid M;clear b4 E M b k0 k1 k2 o0 o1 o2;obtain⟨r0,r1,rf,q0,q1,qf,J⟩:=QgD H I (Uf q X.l.length u) (Uf t X.n z) (Uf r Y.l.length y) (Uf o Y.n g);go_wp2_with fail;obtain⟨s,A⟩:=J.out;refine zF (v:=Ul #[Uo #[Uf q X.l.length u,Uf t X.n z],Uo #[Uf r Y.l.length y,Uf o Y.n g],Ud C]) (by simp [results,results59,go_sem,s.c0,s.c1,A.c0,A.c1]) ?_;have hz:=B.out;exact⟨q,u,t,z,r,y,o,g,rfl,Qn1 Z oM oM oM _ _ _ _,Qn1 G oM oM oM _ _ _ _,Qh7 V oM oM _ _ _ _⟩
 ·have b:=hid h;clear h K;go_enter func59,ntmps59;go_wp2_with fail;try rw [j]
  clear j;refine b.mono ?_;rintro e w4 ⟨q,u,t,z,r,y,o,g,rfl,E,M,b4⟩;have H:=hid (U.bw b4 U.lt);have I:=hid (Q.bw b4 Q.lt);have V:=hid (Qaa N b4);have Z:=hid E;have G:=hid M;clear b4 E M b k0 k1 k2 o0 o1 o2;obtain⟨r0,r1,rf,q0,q1,qf,J⟩:=QgD H I (Uf q X.l.length u) (Uf t X.n z) (Uf r Y.l.length y) (Uf o Y.n g);go_wp2_with fail;obtain⟨s,A⟩:=J.out;refine zF (v:=Ul #[Uo #[Uf q X.l.length u,Uf t X.n z],Uo #[Uf r Y.l.length y,Uf o Y.n g],Ud C]) (by simp [results,results59,go_sem,s.c0,s.c1,A.c0,A.c1]) ?_;have hz:=B.out;exact⟨q,u,t,z,r,y,o,g,rfl,Qn1 Z oM oM oM _ _ _ _,Qn1 G oM oM oM _ _ _ _,Qh7 V oM oM _ _ _ _⟩
 ·have d1:(k==1)=false:=oU i;have d4:(k==4)=false:=oU O;obtain⟨on,Ha⟩:=zE ((k==2));rw [Ha] at h;clear i O;have b:=hid h;clear h K;go_enter func59,ntmps59;go_wp2_with fail;try rw [j]
  clear j;refine b.mono ?_;rintro e w4 ⟨q,u,t,z,r,y,o,g,rfl,E,M,b4⟩;have H:=hid (U.bw b4 U.lt);have I:=hid (Q.bw b4 Q.lt);have V:=hid (Qaa N b4);have Z:=hid E;have G:=hid M;clear b4 E M b k0 k1 k2 o0 o1 o2;obtain⟨r0,r1,rf,q0,q1,qf,J⟩:=QgD H I (Uf q X.l.length u) (Uf t X.n z) (Uf r Y.l.length y) (Uf o Y.n g);go_wp2_with fail;obtain⟨s,A⟩:=J.out;refine zF (v:=Ul #[Uo #[Uf q X.l.length u,Uf t X.n z],Uo #[Uf r Y.l.length y,Uf o Y.n g],Ud C]) (by simp [results,results59,go_sem,s.c0,s.c1,A.c0,A.c1]) ?_;have hz:=B.out;exact⟨q,u,t,z,r,y,o,g,rfl,Qn1 Z oM oM oM _ _ _ _,Qn1 G oM oM oM _ _ _ _,Qh7 V oM oM _ _ _ _⟩
def mtB (S:Sx):Bool:=decide (S.l.length=0) && decide (S.n=0)
theorem QdC (w:Ur):
  Cl 57 #[] w fun e w'=>∃g k,e=Ui (Uo #[Uf (Uc g) 0 0,Uf (Uc k) 0 0])/\ Bl w w':=by
 have P:Bx2 (((w.alloc (Uj #[Uf (Uq (Ua (w.heap.size+1) 0)) 0 0,Uf (Uq (Ua (w.heap.size+1+1) 0)) 0 0] 28)).alloc (Uj #[] 85)).alloc (Uj #[] 89)) w.heap.size (Uf (Uq (Ua (w.heap.size+1) 0)) 0 0) (Uf (Uq (Ua (w.heap.size+1+1) 0)) 0 0):=((Bx2.made _ _ _ _).bw (zO _ _) oP).bw (zO _ _) oS;have j:=hid P;clear P;go_enter func57,ntmps57;go_wp2_with fail;obtain⟨m,q⟩:=j.q2;refine zF (v:=Uo #[Uf (Uq (Ua (w.heap.size+1) 0)) 0 0,Uf (Uq (Ua (w.heap.size+1+1) 0)) 0 0]) (by simp [results,results57,go_sem,m,q]) ⟨_,_,rfl,?_⟩;exact((zO _ _).alloc oP _).alloc oS _
theorem QkK (a x b y:Option Us)(c d:Nat)(S:Sx)(w:Ur)(hm:S.Sm):
  Cl 24 #[Uo #[Uf a S.l.length c,Uf x S.n d],Uo #[Uf b 0 0,Uf y 0 0]] w (Rt w (Un (mtB S))):=by
 obtain⟨W,j⟩:=zE ((w.alloc (Uj #[Uf a S.l.length c,Uf x S.n d] 28)).alloc (Uj #[Uf b 0 0,Uf y 0 0] 28));have g:Bl w W:=j▸Qad _ _ _;have E:W.cell? (Ub w.heap.size)=Uq (Uf a S.l.length c):=j▸oP;have M:W.cell? (Ua w.heap.size 1)=Uq (Uf x S.n d):=j▸oP;have Q:W.cell? (Ua (w.heap.size+1) 0)=Uq (Uf b 0 0):=j▸oP;have O:W.cell? (Ua (w.heap.size+1) 1)=Uq (Uf y 0 0):=j▸oP;have u:=hid g;have s:=hm.l1;have A:=hm.n1;have k:Hid (mtB S=(decide (S.l.length=0) && decide (S.n=0))):=hid rfl;obtain⟨B,t⟩:=zE (mtB S);rw [t] at k ⊢;obtain⟨q,v⟩:=zE S.l.length;obtain⟨r,z⟩:=zE S.n;rw [v] at k j E s;rw [z] at k j M A;rw [v,z];clear g t v z;by_cases h:q=0
 ·by_cases o:r=0
  ·have m:Hid (B=true):=hid (by rw [k.out,h,o];rfl);clear k;subst h o;go_enter func24,ntmps24;go_wp2_with fail;try rw [j]
   clear j;refine wp_loop_rounds 1 ?_;rw [rounds_succ];go_wp2_with fail;refine wp_loop_rounds 1 ?_;rw [rounds_succ];go_wp2_with fail;go_ret;exact⟨by rw [m.out];rfl,u⟩
  ·have m:Hid (B=false):=hid (by rw [k.out,show decide (r=0)=false by simp;omega];simp);have i:((r:Int) !=0)=true:=oS;have p:((r:Int)==0)=false:=oS;clear k;subst h;go_enter func24,ntmps24;go_wp2_with fail;try rw [j]
   clear j;go_ret;exact⟨by rw [m.out];rfl,u⟩
 ·have m:Hid (B=false):=hid (by rw [k.out,show decide (q=0)=false by simp;omega];simp);have i:((q:Int) !=0)=true:=oS;have p:((q:Int)==0)=false:=oS;clear k;go_enter func24,ntmps24;go_wp2_with fail;try rw [j]
  clear j;go_ret;exact⟨by rw [m.out];rfl,u⟩
structure Rq where
 id:Int
 S:Sx
 D:Sx
 a:Option Us
 c:Nat
 x:Option Us
 d:Nat
 a':Option Us
 c':Nat
 x':Option Us
 d':Nat
def Rq.vs (R:Rq):Array Value:=#[Ud R.id,Uf R.a R.S.l.length R.c,Uf R.x R.S.n R.d,Uf R.a' R.D.l.length R.c',Uf R.x' R.D.n R.d']
structure Rq.Nw (R:Rq)(w:Ur)(lo:Nat):Prop where
 s:SNc w lo R.a R.c R.x R.S
 t:SNc w lo R.a' R.c' R.x' R.D
structure Rq.At (R:Rq)(w:Ur):Prop where
 s:SCt w R.a R.x R.S
 t:SCt w R.a' R.x' R.D
 c:R.S.l.length<=R.c/\ R.c<=9223372036854775807
 c':R.D.l.length<=R.c'/\ R.c'<=9223372036854775807
 m:SmI R.S
 m':SmI R.D
abbrev Rq.ok (R:Rq):Prop:=rpB R.id R.S R.D=true
theorem Rq.At.bw {R:Rq}(h:R.At w)(hb:Bl w w'):R.At w':=⟨h.s.bw hb,h.t.bw hb,h.c,h.c',h.m,h.m'⟩
theorem Rq.Nw.move {R:Rq}(h:R.Nw w lo)(hl:lo'<=lo)(hs:w.heap.size<=w'.heap.size)(hq:∀q,lo<=q ->q<w.heap.size ->w'.heap[q]? =w.heap[q]?):R.Nw w' lo':=⟨h.s.move hl hs hq,h.t.move hl hs hq⟩
theorem QaQ(h:Qbq S=true):Qba S.R S.F S.T S.n S.l/\ (psB S.R S.F S.T S.n S.l).length<=4000/\ sxZ S=(psB S.R S.F S.T S.n S.l,0):=by
 unfold Qbq sxZ at h;by_cases j:Qba S.R S.F S.T S.n S.l
 ·by_cases k:(psB S.R S.F S.T S.n S.l).length<=4000
  ·exact⟨j,k,Qes j k⟩
  ·rw [QfD j k] at h;simp at h
 ·rw [QjJ j] at h;simp at h
theorem QdS(h:Qbq S=true):SmI S:=by
 have j:=(QaQ h).1;exact Qev j.2.1 (oH ((Qal.1 j.1).2)) (fun x hx=>QfN j.w x hx)
theorem QaX {id:Int}(h:rpB id S D=true):(0<=id/\ id<8)/\ Qbq S=true/\ Qbq D=true:=by
 unfold rpB at h;simp only [Bool.and_eq_true,decide_eq_true_eq] at h;exact⟨⟨h.1,h.2.1⟩,h.2.2.1,h.2.2.2⟩
theorem Qlh {id:Int}(h:0<=id/\ id<8)(h1:Qbq S=true)(h2:Qbq D=true):rpB id S D=true:=by
 unfold rpB;rw [decide_eq_true h.1,decide_eq_true h.2,h1,h2];rfl
theorem Rq.Nw.at {R:Rq}(h:R.Nw w lo)(hk:R.ok):R.At w:=
 ⟨⟨h.s.at.1,h.s.at.2⟩,⟨h.t.at.1,h.t.at.2⟩,h.s.cp,h.t.cp,QdS (QaX hk).2.1,QdS (QaX hk).2.2⟩
theorem Rq.Nw.five {R:Rq}(h:R.Nw w lo)(hr:r<lo)(hl:lo'<=lo)(v0 v1 v2 v3 v4:Value):R.Nw (((((w.setCell (Ub r) v0).setCell (Ua r 1) v1).setCell (Ua r 2) v2).setCell (Ua r 3) v3).setCell (Ua r 4) v4) lo':=
 h.move hl (by simp [UL]) (fun q h1 h2=>by
  have:q≠r:=oM;exact(zH _ _ _ _ this).trans ((zH _ _ _ _ this).trans ((zH _ _ _ _ this).trans ((zH _ _ _ _ this).trans (zH _ _ _ _ this)))))
theorem Qgd(h:Bl w V)(hr:w.heap.size<=r)(v0 v1 v2 v3 v4:Value):Bl w (((((V.setCell (Ub r) v0).setCell (Ua r 1) v1).setCell (Ua r 2) v2).setCell (Ua r 3) v3).setCell (Ua r 4) v4):=
 ((((h.setCell (p:=(Ub r)) hr _).setCell (p:=(Ua r 1)) hr _).setCell (p:=(Ua r 2)) hr _).setCell (p:=(Ua r 3)) hr _).setCell (p:=(Ua r 4)) hr _
theorem Cpd.snc{gx cx:Nat}{P Q:Nat ->Nat}(h:Cpd w w' S g c gx cx P Q):SNc w' w.heap.size (Uc g) c (Uc gx) S:=⟨fun v h1 h2=>by
 have m:=h.lc.move h1 h2;have r:(fS S).length=S.n:=by simp [fS,flat]
 have j:=h.fr;rw [<- r] at j;have k:FR v w.heap.size (Uf (Uc gx) (fS S).length cx) (fS S):=Qap j (fun q hq=>h2 q (World.ownsRow.lt j q hq).1 (World.ownsRow.lt j q hq).2);obtain⟨a,c',e,s,_,_⟩:=k.fs;injection e with e1 e2 e3;subst e1;exact⟨m.lcap rfl,Qhn s.rseg⟩,h.lc.cp rfl⟩
theorem Qnu(h:Qbq S=true):∀i,i<S.l.length ->1<=(gL S.l i).p.length:=fun i hi=>(Qgx (QaQ h).1 i hi).1
def CqP (id:Int)(w:Ur)(w':Ur)(R:Rq):Prop:=R.id=id/\ R.Nw w' w.heap.size/\ R.ok/\ Bl w w'
theorem Qhf (R:Rq)(w:Ur)(h:R.At w)(hk:R.ok):Cl 58 #[.agg R.vs] w fun e w'=>∃R':Rq,e=Ui (.agg R'.vs)/\ CqP R.id w w' R'/\ R'.S=R.S/\ R'.D=R.D:=by
 obtain⟨q,S,D,a,c,x,d,a',c',x',d'⟩:=R;obtain⟨v0,e0⟩:=zE (Value.int Uh q);obtain⟨v1,e1⟩:=zE (Value.slice a S.l.length c);obtain⟨v2,e2⟩:=zE (Value.slice x S.n d);obtain⟨v3,e3⟩:=zE (Value.slice a' D.l.length c');obtain⟨v4,e4⟩:=zE (Value.slice x' D.n d');show Cl 58 #[Uo #[Ud q,Uf a S.l.length c,Uf x S.n d,Uf a' D.l.length c',Uf x' D.n d']] w fun e w'=>∃R':Rq,e=Ui (.agg R'.vs)/\ CqP q w w' R'/\ R'.S=S/\ R'.D=D;obtain⟨P,I⟩:∃P:Ending ->Ur ->Prop,(fun e w'=>∃R':Rq,e=Ui (.agg R'.vs)/\ CqP q w w' R'/\ R'.S=S/\ R'.D=D)=P:=⟨_,rfl⟩;rw [I];have HP:=hid I;obtain⟨W,A⟩:=zE ((w.alloc (Uj #[Ud q,Uf a S.l.length c,Uf x S.n d,Uf a' D.l.length c',Uf x' D.n d'] 30)).alloc (Uj #[Ud 0,Ue,Ue,Ue,Ue] 30));have F:Bl w W:=A▸Qad _ _ _;have V:Bx5 W w.heap.size (Ud q) (Uf a S.l.length c) (Uf x S.n d) (Uf a' D.l.length c') (Uf x' D.n d'):=A▸(Bx5.new _ _ _ _ _ _ _).up _;have J:Bx5 W (w.heap.size+1) (Ud 0) Ue Ue Ue Ue:=by
  rw [<- A];have:=Bx5.new (w.alloc (Uj #[Ud q,Uf a S.l.length c,Uf x S.n d,Uf a' D.l.length c',Uf x' D.n d'] 30)) (Ud 0) Ue Ue Ue Ue 30;simpa using this
 have Ha:=(QaX hk).2.1;have T:=(QaX hk).2.2;have Hb:Hid (∀w1,Bl w w1 ->Cl 19 #[Uo #[Uf a S.l.length c,Uf x S.n d]] w1 fun e w'=>∃g j k u,e=Ui (Uo #[Uf (Uc g) S.l.length j,Uf (Uc k) S.n u])/\ SNc w' w1.heap.size (Uc g) j (Uc k) S/\ Bl w1 w'):=hid (fun w1 hb=>(Qf5 a x c d S w1 h.m.1 (Qnu Ha) (h.s.bw hb)).mono fun e w' ⟨g,j,k,u,P,Q,h1,h2⟩=>⟨g,j,k,u,h1,h2.snc,h2.low⟩);have Hc:Hid (∀w1,Bl w w1 ->Cl 19 #[Uo #[Uf a' D.l.length c',Uf x' D.n d']] w1 fun e w'=>∃g j k u,e=Ui (Uo #[Uf (Uc g) D.l.length j,Uf (Uc k) D.n u])/\ SNc w' w1.heap.size (Uc g) j (Uc k) D/\ Bl w1 w'):=hid (fun w1 hb=>(Qf5 a' x' c' d' D w1 h.m'.1 (Qnu T) (h.t.bw hb)).mono fun e w' ⟨g,j,k,u,P,Q,h1,h2⟩=>⟨g,j,k,u,h1,h2.snc,h2.low⟩);have N:=hid F;have M:=hid V;have Y:=hid J;have HK:=hid hk;obtain⟨q0,q1,q2,q3,q4⟩:=V.q5;clear h F V J I Ha T hk e0 e1 e2 e3 e4;go_enter func58,ntmps58;go_wp2_with fail;try rw [A]
 clear A;have E:Hid (∀w',Bl w w' ->Bx5 w' w.heap.size (Ud q) (Uf a S.l.length c) (Uf x S.n d) (Uf a' D.l.length c') (Uf x' D.n d') ->(Bl w w'/\ w'.cell? (Ub w.heap.size)=Uq (Ud q)/\ w'.cell? (Ua w.heap.size 1)=Uq (Uf a S.l.length c)/\ w'.cell? (Ua w.heap.size 2)=Uq (Uf x S.n d)/\ w'.cell? (Ua w.heap.size 3)=Uq (Uf a' D.l.length c')/\ w'.cell? (Ua w.heap.size 4)=Uq (Uf x' D.n d'))):=hid (fun w' hB X=>⟨hB,X.c0,X.c1,X.c2,X.c3,X.c4⟩);refine zB E N.drew (M.bw zI.drew M.lt) (fun qh=> ?_);refine tZ 0 3 ?_;refine tZ 1 4 ?_;refine tZ 2 5 ?_;refine tZ 3 6 ?_;refine tZ 5 8 ?_;refine tZ 6 9 ?_;refine cZ 4 ?_;intro K y;go_simp;refine(Hb _ qh.1).mono ?_;rintro e w1 ⟨g,j,k,u,rfl,s1,z⟩;have O:Bl W w1:=⟨z.os,z.tape,z.output,z.size,z.block⟩;have G:=Qaa N O;have Z:=M.bw O M.lt;have L:=Y.bw O Y.lt;have Hf:SNc w1 W.heap.size (Uc g) j (Uc k) S:=s1;refine y.out _ _ (E _ G Z) (fun qh=> ?_);clear y K;try simp only [zP]
 refine cZ 7 ?_;intro K y;go_simp;refine(Hc _ G).mono ?_;rintro e w2 ⟨b,o,p,i,rfl,s2,U⟩;have H:=Qaa G U;have C:=Z.bw U Z.lt;have F2:=L.bw U L.lt;have He:w.heap.size+1<W.heap.size:=Y.lt;have Hd:W.heap.size<=w1.heap.size:=O.size;have B:=hid (And.intro (Rq.Nw.five (R:=⟨q,S,D,Uq (Ub g),j,Uq (Ub k),u,Uq (Ub b),o,Uq (Ub p),i⟩) (lo:=W.heap.size) (lo':=w.heap.size) (r:=w.heap.size+1) ⟨Hf.bw U,s2.move Hd zL (fun _ _ _=>rfl)⟩ He oM (Ud q) (Uf (Uc g) S.l.length j) (Uf (Uc k) S.n u) (Uf (Uc b) D.l.length o) (Uf (Uc p) D.n i)) (Qgd (r:=w.heap.size+1) H oM (Ud q) (Uf (Uc g) S.l.length j) (Uf (Uc k) S.n u) (Uf (Uc b) D.l.length o) (Uf (Uc p) D.n i)));refine y.out _ _ (E _ H C) (fun qh=> ?_);clear y K;try simp only [zP]
 refine tZ 8 11 ?_;obtain⟨f0,f1,f2,f3,f4,ff⟩:=F2.p5;refine cZ 9 ?_;intro K y;go_simp;refine y.out _ _ (E _ ((((((H.setCell oP _).setCell oP _).setCell oP _).setCell oP _).setCell oP _)) (((((C.setAt _ _ oP).setAt _ _ oP).setAt _ _ oP).setAt _ _ oP).setAt _ _ oP)) (fun qh=> ?_);clear y K;try simp only [zP]
 refine zD ?_;go_wp2_with fail;refine zF (v:=Uo #[Ud q,Uf (Uc g) S.l.length j,Uf (Uc k) S.n u,Uf (Uc b) D.l.length o,Uf (Uc p) D.n i]) (by simp [results,results58,go_sem,f0,f1,f2,f3,f4]) ?_;rw [<- HP.out];exact⟨⟨q,S,D,Uq (Ub g),j,Uq (Ub k),u,Uq (Ub b),o,Uq (Ub p),i⟩,rfl,⟨rfl,B.1,HK,B.2⟩,rfl,rfl⟩
def nS (S:Sx):Sx:=⟨S.l,S.n,fun i=>if i<S.n then S.R i else 0,fun i=>if i<S.n then S.F i else 0,fun i=>if i<S.n then S.T i else 0⟩
theorem QoP{x:Option Us}(h:QaT w x S.n S.R S.F S.T):QaT w x (nS S).n (nS S).R (nS S).F (nS S).T:=by
 refine h.imp id ?_;rintro⟨b,off,e,j,k⟩;refine⟨b,off,e,j,fun i hi=> ?_⟩;have hi:i<S.n:=hi;have:=k i hi;simp only [nS,if_pos hi];exact this
theorem QmJ(h:Qbq S=true):∀i,i<S.n ->(0<=S.R i/\ S.R i<8)/\ (1<=S.F i/\ S.F i<=S.T i)/\ S.T i<=1000000000:=fun i hi=>by
 have:=((Qal.1 (QaQ h).1.1).1 i hi).1;unfold QaF at this;simp only [Bool.and_eq_true,decide_eq_true_eq] at this;omega
theorem QlS(h:Qbq S=true):I64 (nS S).T:=fun i=>by
 by_cases hi:i<S.n
 ·have:=QmJ h i hi;simp only [nS,if_pos hi];omega
 ·simp only [nS,if_neg hi];omega
theorem Qj8:Qbq Sx.mt=true:=by
 have h:Qba Sx.mt.R Sx.mt.F Sx.mt.T Sx.mt.n Sx.mt.l:=⟨rfl,by simp [Sx.mt],fun i hi=>by simp [Sx.mt] at hi,fun i hi=>by simp [Sx.mt] at hi⟩;have e:(psB Sx.mt.R Sx.mt.F Sx.mt.T Sx.mt.n Sx.mt.l).length<=4000:=by
  have k:Qet (Lk Sx.mt.R Sx.mt.F Sx.mt.T Sx.mt.n)=[0]:=by rfl
  have j:=Qkg (R:=Sx.mt.R) (F:=Sx.mt.F) (T:=Sx.mt.T) (n:=Sx.mt.n) (l:=Sx.mt.l) (fun i hi=>by simp [Sx.mt] at hi) 8 [];have m:uK Sx.mt.l [] Sx.mt.l.length=0:=rfl;rw [m] at j;unfold psB;rw [k,UB];simp at j ⊢;omega
 unfold Qbq sxZ;rw [Qes h e];rfl
def DqP (id:Int)(w:Ur)(e:Ending)(w':Ur):Prop:=∃(R:Rq) (C:Int),e=Ui (Ul #[.agg R.vs,Ud C])/\ CqP id w w' R
theorem QfK (R:Rq)(k:Int)(pa:Option Us)(pc:Nat)(p:List ByteArray)(v:ByteArray)(w:Ur)(h:R.At w)(hk:R.ok)(hop:k=1 \/(2<=k/\ k<=4)/\ v=⟨#[]⟩)(hp:p.length<=1048576)(hpc:p.length<=pc/\ pc<=9223372036854775807)(hseg:QaP w pa p)(hv:v.size<=1048576):
  Cl 35 #[.agg R.vs,Uo #[Ud k,Uf pa p.length pc,Um v]] w fun e w'=>DqP R.id w e w':=by
 obtain⟨j,S,D,a,c,x,d,a',c',x',d'⟩:=R;show Cl 35 #[Uo #[Ud j,Uf a S.l.length c,Uf x S.n d,Uf a' D.l.length c',Uf x' D.n d'],Uo #[Ud k,Uf pa p.length pc,Um v]] w fun e w'=>DqP j w e w';obtain⟨P,hP⟩:=zE (DqP j w);rw [hP];have HP:=hid hP;obtain⟨W,hW⟩:=zE (((w.alloc (Uj #[Ud j,Uf a S.l.length c,Uf x S.n d,Uf a' D.l.length c',Uf x' D.n d'] 30)).alloc (Uj #[Ud k,Uf pa p.length pc,Um v] 76)).alloc (Uj #[Ud 0,Ue,Ue,Ue,Ue] 30));have z:Bl w W:=hW▸(Qad _ _ _).alloc oS _;have zW:W.heap.size=w.heap.size+3:=hW▸oP;have A0:Bx5 W w.heap.size (Ud j) (Uf a S.l.length c) (Uf x S.n d) (Uf a' D.l.length c') (Uf x' D.n d'):=hW▸((Bx5.new w _ _ _ _ _ _).up _).up _;have O0:Bx3 W (w.heap.size+1) (Ud k) (Uf pa p.length pc) (Um v):=by
  rw [<- hW];have:=Bx3.made (w.alloc (Uj #[Ud j,Uf a S.l.length c,Uf x S.n d,Uf a' D.l.length c',Uf x' D.n d'] 30)) (Ud k) (Uf pa p.length pc) (Um v) 76;exact(by simpa using this:Bx3 _ (w.heap.size+1) _ _ _).up _
 have R0:Bx5 W (w.heap.size+1+1) (Ud 0) Ue Ue Ue Ue:=by
  rw [<- hW];simpa using Bx5.new ((w.alloc (Uj #[Ud j,Uf a S.l.length c,Uf x S.n d,Uf a' D.l.length c',Uf x' D.n d'] 30)).alloc (Uj #[Ud k,Uf pa p.length pc,Um v] 76)) (Ud 0) Ue Ue Ue Ue 30
 have Hc:=QaX hk;have Hl:=hid (QaY j a x a' x' c d c' d' S D W h.c.1 h.c.2 h.c'.1 h.c'.2 h.m.1 h.m'.1 (h.s.bw z).lf (h.s.bw z).rn (h.t.bw z).lf (h.t.bw z).rn);rw [show rpB j S D=true from hk] at Hl;have Hr:Hid (∀w1,Bl W w1 ->Cl 58 #[Uo #[Ud j,Uf a S.l.length c,Uf x S.n d,Uf a' D.l.length c',Uf x' D.n d']] w1 fun e w5=>∃o A Q M i E U O X Z,e=Ui (Uo #[Ud j,Uf o (Sx.l X).length A,Uf Q (Sx.n X) M,Uf i (Sx.l Z).length E,Uf U (Sx.n Z) O])/\ Bx5 w5 (w.heap.size+1+1) (Ud 0) Ue Ue Ue Ue/\ Hid (∀C,P (Ui (Ul #[Uo #[Ud j,Uf o X.l.length A,Uf Q X.n M,Uf i Z.l.length E,Uf U Z.n O],Ud C])) (((((w5.setCell (Ua (w.heap.size+1+1) 0) (Ud j)).setCell (Ua (w.heap.size+1+1) 1) (Uf o X.l.length A)).setCell (Ua (w.heap.size+1+1) 2) (Uf Q X.n M)).setCell (Ua (w.heap.size+1+1) 3) (Uf i Z.l.length E)).setCell (Ua (w.heap.size+1+1) 4) (Uf U Z.n O)))):=hid (fun w1 hb=>by
  refine(Qhf ⟨j,S,D,a,c,x,d,a',c',x',d'⟩ w1 (h.bw (Qaa z hb)) hk).mono ?_;rintro e w5 ⟨⟨i5,X,Z,o,A,Q,M,i,E,U,O⟩,rfl,⟨hi,hN,Ge,hB⟩,_⟩;have hi:i5=j:=hi;subst hi;have hz:=hb.size;refine⟨o,A,Q,M,i,E,U,O,X,Z,rfl,R0.bw (Qaa hb hB) R0.lt,hid fun C=> ?_⟩;rw [<- HP.out];exact⟨⟨i5,X,Z,o,A,Q,M,i,E,U,O⟩,C,rfl,rfl,hN.five oM oM _ _ _ _ _,Ge,Qgd (Qaa z (Qaa hb hB)) oM _ _ _ _ _⟩)
 obtain⟨q,y,C1,hc⟩:∃q y C1,chg (nS S) j k p v=(q,y,C1):=⟨_,_,_,rfl⟩;have H1:=hid (fun w1(hb:Bl W w1)=>Qj3 j a x a' x' pa c d c' d' pc (nS S) D k p v q y C1 w1 hc ⟨h.m.1.l1,h.m.1.p1,h.m.1.n1⟩ (QlS Hc.2.1) (h.s.bw (Qaa z hb)).lf (QoP (h.s.bw (Qaa z hb)).rn) hp hpc (hseg.bw (Qaa z hb)) hv);have H2:Hid (∀w1,Bl W w1 ->SCt w1 a' x' D):=hid (fun w1 hb=>h.t.bw (Qaa z hb));have Hw:=hid (Qm9 hc);have H7:=hid h.m'.1;have H5:=hid Hc.1;have HA:=hid A0;have HO:=hid O0;have HR:=hid R0;have HB:=hid z;have Gc:Hid (w.heap.size+3<=W.heap.size):=hid oM;have H8:=hid hop;obtain⟨k0,k1,k2,k3,k4⟩:=A0.q5;clear z zW A0 O0 R0 h hseg hpc hc hk hP Hc hop;go_enter func35,ntmps35;go_wp2_with fail;try rw [hW]
 clear hW;refine Hl.mono ?_;rintro e w1 ⟨rfl,b1⟩;have g:=hid b1;have A1:=HA.bw b1 HA.lt;clear k0 k1 k2 k3 k4;obtain⟨k0,k1,k2,k3,k4⟩:=A1.q5;have O1:=HO.bw b1 HO.lt;obtain⟨o0,o1,o2⟩:=O1.q3;clear b1 A1 O1 Hl;go_upto_region 3 with fail;go_cut [33] from 14 to 33 (fun b wx=>b=Un false/\ wx=w1);case first=>
  rcases H8.out with rfl|⟨⟨h2,h4⟩,rfl⟩
  ·go_wp2_with fail;go_meet;exact⟨rfl,rfl⟩
  ·have d1:decide (k<1)=false:=oS;have d4:decide (4<k)=false:=oS;have d5:(k !=1)=true:=oS;go_wp2_with fail;go_meet;exact⟨rfl,rfl⟩
 case rest=>
 obtain⟨rfl,rfl⟩:=hcut;have Hq:=hid (H1 _ g);go_wp2_with fail;refine Hq.mono ?_;rintro e w3 ⟨V,Y,H,G,Hg,Hh,Hj,Hi,rfl,s3,H0,b3⟩;obtain⟨U4,T⟩:=zE ((w3.alloc (Uj #[Uf V q.l.length Y,Uf H q.n G] 28)).alloc (Uj #[Uf Hg y.l.length Hh,Uf Hj y.n Hi] 28));have b4:Bl w3 U4:=T▸Qad _ _ _;have N4:Bx2 U4 w3.heap.size (Uf V q.l.length Y) (Uf H q.n G):=T▸(Bx2.made w3 _ _ _).allocs _;have M4:Bx2 U4 (w3.heap.size+1) (Uf Hg y.l.length Hh) (Uf Hj y.n Hi):=by
  rw [<- T];simpa using Bx2.made (w3.alloc (Uj #[Uf V q.l.length Y,Uf H q.n G] 28)) (Uf Hg y.l.length Hh) (Uf Hj y.n Hi) 28
 have Hd:Hid (Bl W U4):=hid (Qaa (Qaa g b3) b4);have A4:=HA.bw Hd HA.lt;clear k0 k1 k2 k3 k4 o0 o1 o2;obtain⟨k0,k1,k2,k3,k4⟩:=A4.q5;obtain⟨n0,n1⟩:=N4.q2;obtain⟨m0,m1⟩:=M4.q2;have He:=hid N4;have Gg:=hid M4;have H3:=hid (s3.bw b4);have Hk:=hid (H0.bw b4);have Gb:=hid g.size;clear s3 H0 b3 b4 A4 N4 M4 Hq;by_cases hC:C1=0
 ·subst hC;have HJ:=hid (Qey a' x' Hg Hj c' d' Hh Hi D y U4 H7 Hw.2.1 (H2 _ Hd) ⟨Hk.at.1,Hk.at.2⟩);go_wp2_with fail;try rw [T]
  clear T;refine HJ.mono ?_;rintro e w6 ⟨I,K,N,L,rfl,s6,b6,jc⟩;obtain⟨J,hJ⟩:=zE (jnZ D y);obtain⟨B,hB⟩:=zE (jnB D y);have Hy:SmI J:=hJ▸QhL D y;rw [hJ] at s6 jc ⊢;rw [hB];obtain⟨F,Hf⟩:=zE (w6.alloc (Uj #[Uf I J.l.length K,Uf N J.n L] 28));have b7:Bl w6 F:=Hf▸zO _ _;have J7:Bx2 F w6.heap.size (Uf I J.l.length K) (Uf N J.n L):=Hf▸Bx2.made _ _ _ _;have Hn:=Qaa b6 b7;have Ga:Hid (Bl W F):=hid (Qaa Hd Hn);have Ha:=hid Hn;have Ht:=hid J7;have H6:=hid (s6.bw b7);have Hu:=hid (fun u(hu:Bl F u)=>Qgt I N K L J u jc.1 jc.2 Hy.1 (H6.bw hu).at.1 (H6.bw hu).at.2);have Hv:=hid (fun u(hu:Bl F u)=>Qgt V H Y G q u H3.cp.1 H3.cp.2 Hw.1.1 (H3.bw (Qaa Ha hu)).at.1 (H3.bw (Qaa Ha hu)).at.2);obtain⟨j0,j1⟩:=J7.q2;obtain⟨F1,Ho⟩:=zE (Qbq J);obtain⟨F2,Hp⟩:=zE (Qbq q);have Hs:=hid (And.intro Ho Hp);rw [Ho] at Hu;rw [Hp] at Hv;clear hJ hB Ho Hp s6 b6 b7 Hn jc Hy J7 HJ Hk n0 n1 m0 m1 k0 k1 k2 k3 k4;go_upto_region 9 with fail;try rw [Hf]
  clear Hf;go_cut [66] from 55 to 66 (fun b wx=>Ck b (¬(F1=true/\ F2=true) \/B=false)/\ Hid (Bl F wx));case first=>
   cases B with
   | false=>go_wp2_with fail;go_meet;exact⟨Ck.t oP,hid zI⟩
   | true=>
    go_wp2_with fail;refine(Hu F zI).mono ?_;rintro e u1 ⟨rfl,c1⟩;have Hm:=hid c1;have N8:=He.bw (Qaa Ha c1) He.lt;obtain⟨n0,n1⟩:=N8.q2;clear c1 N8;cases F1 with
    | false=>go_wp2_with fail;go_meet;exact⟨Ck.t oP,Hm⟩
    | true=>
     go_wp2_with fail;refine(Hv u1 Hm).mono ?_;rintro e u2 ⟨rfl,c2⟩;have Hx:=hid (Qaa Hm c2);clear c2;cases F2 with
     | false=>go_wp2_with fail;go_meet;exact⟨Ck.t oP,Hx⟩
     | true=>go_wp2_with fail;go_meet;exact⟨Ck.f oP,Hx⟩
  case rest=>
  obtain⟨Gd,HV⟩:=hcut;have g:Hid (Bl W wc):=hid (Qaa Ga HV);have A8:=HA.bw g HA.lt;obtain⟨k0,k1,k2,k3,k4⟩:=A8.q5;obtain⟨rfl,_⟩|⟨rfl,Hz⟩:=Gd
  ·go_wp2_with fail;refine(Hr _ g).mono ?_;rintro e w5 ⟨o,A,Q,M,i,E,U,O,X,Z,rfl,R5,HF⟩;obtain⟨r0,r1,r2,r3,r4,rf⟩:=R5.p5;clear R5;go_wp2_with fail;refine zF (v:=Ul #[Uo #[Ud j,Uf o X.l.length A,Uf Q X.n M,Uf i Z.l.length E,Uf U Z.n O],Ud 4]) (by simp [results,results35,go_sem,r0,r1,r2,r3,r4]) ?_;exact HF _
  ·have Hb:F1=true/\ F2=true:=by
    by_cases h:F1=true/\ F2=true
    ·exact h
    ·exact absurd (.inl h) Hz
   have H9:Hid (rpB j q J=true):=hid (Qlh H5 (Hs.2.trans Hb.2) (Hs.1.trans Hb.1));have N8:=He.bw (Qaa Ha HV) He.lt;have J8:=Ht.bw HV Ht.lt;obtain⟨n0,n1⟩:=N8.q2;obtain⟨j0,j1⟩:=J8.q2;have R8:=HR.bw g HR.lt;obtain⟨r0,r1,r2,r3,r4,rf⟩:=R8.p5;have Gf:=Gc.out;have HF:=hid (Rq.Nw.five (R:=⟨j,q,J,V,Y,H,G,I,K,N,L⟩) (w:=wc) (lo:=W.heap.size) (lo':=w.heap.size) (r:=w.heap.size+1+1) ⟨(H3.bw (Qaa Ha HV)).move Gb zL (fun _ _ _=>rfl),(H6.bw HV).move Hd.size zL (fun _ _ _=>rfl)⟩ oM oM (Ud j) (Uf V q.l.length Y) (Uf H q.n G) (Uf I J.l.length K) (Uf N J.n L));have H4:=hid (Qgd (r:=w.heap.size+1+1) (Qaa HB g) oM (Ud j) (Uf V q.l.length Y) (Uf H q.n G) (Uf I J.l.length K) (Uf N J.n L));clear A8 N8 J8 R8 Hz Hb Gf;go_wp2_with fail;refine zF (v:=Ul #[Uo #[Ud j,Uf V q.l.length Y,Uf H q.n G,Uf I J.l.length K,Uf N J.n L],Ud 0]) (by simp [results,results35,go_sem,r0,r1,r2,r3,r4]) ?_;rw [<- HP.out];exact⟨⟨j,q,J,V,Y,H,G,I,K,N,L⟩,0,rfl,rfl,HF,H9,H4⟩
 ·have dC:(C1 !=0)=true:=oU hC;have g:=Hd;go_wp2_with fail;try rw [T]
  clear T;refine(Hr _ g).mono ?_;rintro e w5 ⟨o,A,Q,M,i,E,U,O,X,Z,rfl,R5,HF⟩;obtain⟨r0,r1,r2,r3,r4,rf⟩:=R5.p5;clear R5;go_wp2_with fail;refine zF (v:=Ul #[Uo #[Ud j,Uf o X.l.length A,Uf Q X.n M,Uf i Z.l.length E,Uf U Z.n O],Ud C1]) (by simp [results,results35,go_sem,r0,r1,r2,r3,r4]) ?_;exact HF _
noncomputable abbrev Sx.b (Y:Sx):List Int:=psB Y.R Y.F Y.T Y.n Y.l
def FqP (w:Ur)(lo:Nat)(K:Int)(v:Value)(B:Bool):Prop:=(B=false/\ K=0/\ v=Ue) \/(B=true/\ (K=2 \/K=3)/\∃(Y:Sx) (va:Option Us) (vc:Nat),Qbq Y=true/\ v=Uf va Y.b.length vc/\ Own w lo v Y.b)
def FlV (id:Int)(w:Ur)(e:Ending)(w':Ur):Prop:=∃(R:Rq) (K:Int) (v:Value) (B:Bool),e=Ui (Ul #[.agg R.vs,Uo #[Ud K,v],Un B])/\ CqP id w w' R/\ FqP w' w.heap.size K v B
theorem SNc.mtC (w:Ur)(lo:Nat)(a x:Option Us):SNc w lo a 0 x Sx.mt:=⟨fun w' _ _=>⟨.inl rfl,.inl rfl⟩,Uv _,oM⟩
theorem Qi8 (R:Rq)(w:Ur)(h:R.At w)(hk:R.ok):Cl 37 #[.agg R.vs] w (FlV R.id w):=by
 obtain⟨j,S,D,a,c,x,d,a',c',x',d'⟩:=R;show Cl 37 #[Uo #[Ud j,Uf a S.l.length c,Uf x S.n d,Uf a' D.l.length c',Uf x' D.n d']] w (FlV j w);obtain⟨P,hP⟩:=zE (FlV j w);rw [hP];have HP:=hid hP;obtain⟨W,I⟩:=zE (((w.alloc (Uj #[Ud j,Uf a S.l.length c,Uf x S.n d,Uf a' D.l.length c',Uf x' D.n d'] 30)).alloc (Uj #[Ud 0,Ue,Ue,Ue,Ue] 30)).alloc (Uj #[Ud 0,Ue] 35));have b0:Bl w W:=I▸((zO _ _).alloc oP _).alloc oS _;have B0:Bx5 W w.heap.size (Ud j) (Uf a S.l.length c) (Uf x S.n d) (Uf a' D.l.length c') (Uf x' D.n d'):=I▸((Bx5.new _ _ _ _ _ _ _).up _).up _;have R0:Bx5 W (w.heap.size+1) (Ud 0) Ue Ue Ue Ue:=by
  rw [<- I];have:=(Bx5.new (w.alloc (Uj #[Ud j,Uf a S.l.length c,Uf x S.n d,Uf a' D.l.length c',Uf x' D.n d'] 30)) (Ud 0) Ue Ue Ue Ue 30).up (Uj #[Ud 0,Ue] 35);simpa using this
 have F0:Bx2 W (w.heap.size+1+1) (Ud 0) Ue:=by
  rw [<- I];have:=Bx2.made ((w.alloc (Uj #[Ud j,Uf a S.l.length c,Uf x S.n d,Uf a' D.l.length c',Uf x' D.n d'] 30)).alloc (Uj #[Ud 0,Ue,Ue,Ue,Ue] 30)) (Ud 0) Ue 35;simpa using this
 have J:=QaX hk;have HO:Hid (∀w1,Bl W w1 ->Cl 5 #[Uo #[Ud j,Uf a S.l.length c,Uf x S.n d,Uf a' D.l.length c',Uf x' D.n d']] w1 (Rt w1 (Un true))):=hid (fun w1 hb=>by
  have r:=h.bw (Qaa b0 hb);have:=QaY j a x a' x' c d c' d' S D w1 r.c.1 r.c.2 r.c'.1 r.c'.2 r.m.1 r.m'.1 r.s.lf r.s.rn r.t.lf r.t.rn;rw [show rpB j S D=true from hk] at this;exact this)
 have Hm:Hid (∀w1,Bl W w1 ->Cl 58 #[Uo #[Ud j,Uf a S.l.length c,Uf x S.n d,Uf a' D.l.length c',Uf x' D.n d']] w1 fun e u=>∃z g o A E M O Q,e=Ui (Uo #[Ud j,Uf z S.l.length g,Uf o S.n A,Uf E D.l.length M,Uf O D.n Q])/\ SNc u w1.heap.size z g o S/\ SNc u w1.heap.size E M O D/\ Bl w1 u):=hid (fun w1 hb=>by
  refine(Qhf ⟨j,S,D,a,c,x,d,a',c',x',d'⟩ w1 (h.bw (Qaa b0 hb)) hk).mono ?_;rintro e u ⟨⟨i5,X,Z,z,g,o,A,E,M,O,Q⟩,rfl,⟨hi,hN,H2,hB⟩,hX,hZ⟩;have hi:i5=j:=hi;have hX:X=S:=hX;have hZ:Z=D:=hZ;subst hi hX hZ;exact⟨z,g,o,A,E,M,O,Q,rfl,hN.s,hN.t,hB⟩)
 have Hq:Hid (∀w1,Bl W w1 ->Cl 13 #[Uo #[Uf a' D.l.length c',Uf x' D.n d']] w1 fun e w'=>∃i p,e=Ui (Ul #[Uf i D.b.length p,Ud 0])/\ Own w' w1.heap.size (Uf i D.b.length p) D.b/\ Bl w1 w'):=hid (fun w1 hb=>by
  have r:=h.bw (Qaa b0 hb);refine(Qcl a' x' c' d' D w1 r.c'.1 r.c'.2 r.m'.1 r.t.lf r.t.rn).mono ?_;rintro e w' ⟨v,zs,k,rfl,hz,ho,b⟩;rw [(QaQ J.2.2).2.2] at hz;injection hz with e1 e2;subst e1 e2;obtain⟨i,p,rfl,_⟩:=ho.any;exact⟨i,p,rfl,ho,b⟩)
 obtain⟨MB,Hs⟩:=zE (mtB D);have Hv:Hid (∀w1 b y,Cl 24 #[Uo #[Uf a' D.l.length c',Uf x' D.n d'],Uo #[Uf b 0 0,Uf y 0 0]] w1 (Rt w1 (Un MB))):=hid (fun w1 b y=>Hs▸QkK a' x' b y c' d' D w1 h.m'.1);have G:=hid B0;have HR:=hid R0;have HF:=hid F0;have Hf:=hid b0;have HK:=hid (show rpB j S D=true from hk);have Hb:Hid (∀w',Bl W w' ->(Bl W w'/\ w'.cell? (Ub w.heap.size)=Uq (Ud j)/\ w'.cell? (Ua w.heap.size 1)=Uq (Uf a S.l.length c)/\ w'.cell? (Ua w.heap.size 2)=Uq (Uf x S.n d)/\ w'.cell? (Ua w.heap.size 3)=Uq (Uf a' D.l.length c')/\ w'.cell? (Ua w.heap.size 4)=Uq (Uf x' D.n d'))):=hid (fun w' hB=>by
  have X:=G.bw hB G.lt;exact⟨hB,X.c0,X.c1,X.c2,X.c3,X.c4⟩)
 have H1:w.heap.size+1+1<W.heap.size:=F0.lt;clear h b0 B0 R0 F0 hP J hk Hs;go_enter func37,ntmps37;go_wp2_with fail;try rw [I]
 clear I;refine zS Hb (fun qh=> ?_);refine tZ 0 8 ?_;refine cZ 1 ?_;intro K V;go_simp;refine(HO _ qh.1).mono ?_;rintro e w1 ⟨rfl,b1⟩;have Hk:=Qaa qh.1 b1;refine V.out _ _ (Hb _ Hk) (fun qh=> ?_);clear V K;try simp only [zP]
 refine tZ 2 10 ?_;refine tZ 3 11 ?_;refine tZ 4 12 ?_;refine tZ 5 13 ?_;refine cZ 6 ?_;intro K V;go_simp;refine(QdC _).mono ?_;rintro e w2 ⟨eg,ek,rfl,b2⟩;have Hl:=Qaa Hk b2;refine V.out _ _ (Hb _ Hl) (fun qh=> ?_);clear V K;try simp only [zP]
 refine cZ 7 ?_;intro K V;go_simp;refine(Hv _ _ _).mono ?_;rintro e Y ⟨rfl,b3⟩;have Hd:=Qaa Hl b3;refine V.out _ _ (Hb _ Hd) (fun qh=> ?_);clear V K;try simp only [zP]
 refine tZ 8 16 ?_;refine zD ?_;clear qh Hk Hl b1 b2 b3;have F:=hid Hd;have X3:=G.bw Hd G.lt;obtain⟨p0,p1,L,p3,p4⟩:=X3.q5;clear Hd X3;have H3:W.heap.size<=Y.heap.size:=F.size;have Hr:Hid (w.heap.size<=W.heap.size):=hid Hf.size;cases MB with
 | true=>
  clear Hq;go_wp2_with fail;refine(Hm Y F).mono ?_;rintro e N ⟨z,g,o,A,E,M,O,Q,rfl,s1,s2,b4⟩;have U:=Qaa F b4;have R4:=HR.bw U HR.lt;have F4:=HF.bw U HF.lt;obtain⟨r0,r1,r2,r3,r4,rf⟩:=R4.p5;obtain⟨f0,f1,ff⟩:=F4.p2;have Hw:=hid s1;have Hx:=hid s2;have T:=hid (Qaa Hf U);clear s1 s2 b4 U R4 F4 p0 p1 L p3 p4;go_wp2_with fail;refine zF (v:=Ul #[Uo #[Ud j,Uf z S.l.length g,Uf o S.n A,Uf E D.l.length M,Uf O D.n Q],Uo #[Ud 0,Ue],Un false]) (by simp [results,results37,go_sem,r0,r1,r2,r3,r4,f0,f1]) ?_;rw [<- HP.out];refine⟨⟨j,S,D,z,g,o,A,E,M,O,Q⟩,0,Ue,false,rfl,⟨rfl,?_,HK,?_⟩,.inl ⟨rfl,rfl,rfl⟩⟩
  ·refine Rq.Nw.move (w:=N) (lo:=Y.heap.size) ⟨Hw,Hx⟩ (oH Hr) (by simp [UL]) (fun q r h2=> ?_);repeat (rw [zH _ _ _ _ oS])
  ·repeat (refine Below.setCell ?_ (by simp;try omega) _)
   exact T
 | false=>
  go_wp2_with fail;refine(Hq Y F).mono ?_;rintro e N ⟨i,p,rfl,ho,b4⟩;have U:=Qaa F b4;have T:=hid U;have X4:=G.bw U G.lt;have Hi:=hid ho;clear p0 p1 L p3 p4 ho b4 U;obtain⟨p0,p1,L,p3,p4⟩:=X4.q5;clear X4;go_wp2_with fail;refine(Hm N T).mono ?_;rintro e u ⟨z,g,o,A,E,M,O,Q,rfl,s1,s2,b5⟩;obtain⟨C,Ha⟩:=zE (u.alloc (Uj #[Ud j,Uf z S.l.length g,Uf o S.n A,Uf E D.l.length M,Uf O D.n Q] 30));have Hc:Bl u C:=Ha▸zO _ _;have O5:Bx5 C u.heap.size (Ud j) (Uf z S.l.length g) (Uf o S.n A) (Uf E D.l.length M) (Uf O D.n Q):=Ha▸Bx5.new _ _ _ _ _ _ _;have Ht:=hid (Qaa T (Qaa b5 Hc));have Hy:=hid s1;have Hg:Hid (∀q,q<u.heap.size ->C.heap[q]? =u.heap[q]?):=hid (fun q hq=>Hc.block q hq);have H5:u.heap.size<C.heap.size:=O5.lt;have Hn:Hid (Own C Y.heap.size (Uf i D.b.length p) D.b):=hid (Qap Hi fun q hq=>(Qaa b5 Hc).block q (World.ownsRow.lt Hi q hq).2);have Hj:Hid (∀q,(Value.slice i D.b.length p).ownBlock=Uq q ->q<N.heap.size):=hid (fun q hq=>(World.ownsRow.lt Hi q hq).2);have Hp:=hid O5;have Hz:N.heap.size<=u.heap.size:=b5.size;obtain⟨o0,o1,o2,o3,o4⟩:=O5.q5;clear p0 p1 L p3 p4 s1 s2 b5 Hc O5;go_wp2_with fail;try rw [Ha]
  clear Ha;refine(QdC _).mono ?_;rintro e w6 ⟨eg,ek,rfl,H⟩;have He:=Qaa Ht H;have R6:=HR.bw He HR.lt;have F6:=HF.bw He HF.lt;have O6:=Hp.bw H Hp.lt;clear o0 o1 o2 o3 o4;obtain⟨r0,r1,r2,r3,r4,rf⟩:=R6.p5;obtain⟨f0,f1,ff⟩:=F6.p2;obtain⟨o0,o1,o2,o3,o4,of⟩:=O6.p5;have Hu:=hid (Qaa Hf He);have Hh:Hid (∀q,q<u.heap.size ->w6.heap[q]? =u.heap[q]?):=hid (fun q hq=>(H.block q oM).trans (Hg q hq));have H0:C.heap.size<=w6.heap.size:=H.size;have Ho:Hid (Own w6 Y.heap.size (Uf i D.b.length p) D.b):=hid (Qap Hn fun q hq=>H.block q (World.ownsRow.lt Hn q hq).2);have H4:W.heap.size<=N.heap.size:=T.size;clear H He R6 F6 O6;go_wp2_with fail;refine zF (v:=Ul #[Uo #[Ud j,Uf z S.l.length g,Uf o S.n A,Uf (Uc eg) 0 0,Uf (Uc ek) 0 0],Uo #[Ud 3,Uf i D.b.length p],Un true]) (by simp [results,results37,go_sem,r0,r1,r2,r3,r4,f0,f1]) ?_;rw [<- HP.out];have H6:=Hr.out;have J:=QaX HK;refine⟨⟨j,S,Sx.mt,z,g,o,A,Uq (Ub eg),0,Uq (Ub ek),0⟩,3,Uf i D.b.length p,true,rfl,⟨rfl,?_,Qlh J.1 J.2.1 Qj8,?_⟩,.inr ⟨rfl,.inr rfl,D,i,p,J.2.2,rfl,?_⟩⟩
  ·refine⟨Hy.move oQ (by simp [UL];omega) (fun q r h2=> ?_),SNc.mtC _ _ _ _⟩;repeat (rw [zH _ _ _ _ oS])
   exact Hh q h2
  ·repeat (refine Below.setCell ?_ (by simp;try omega) _)
   exact Hu
  ·refine Own.weak (B:=Y.heap.size) ?_ oM;refine Qap Ho fun q hq=> ?_;have r:=(World.ownsRow.lt Ho q hq).1;have h2:=Hj q hq;repeat (rw [zH _ _ _ _ oS])
def HqP (id:Int)(w:Ur)(e:Ending)(w':Ur):Prop:=∃(R:Rq) (v:Value) (C:Int),e=Ui (Ul #[.agg R.vs,v,Ud C])/\ CqP id w w' R
theorem Qhr (R:Rq)(K:Int)(pa:Option Us)(pc:Nat)(Y:Sx)(w:Ur)(h:R.At w)(hk:R.ok)(hK:K=2 \/K=3)(hY:Qbq Y=true)(hs:Seg w pa Y.b.length (gz Y.b))(hby:Byt (gz Y.b))(hnc:Y.b.length<=pc)(hab:∀y,pa=Uq y ->y.block<w.heap.size):
  Cl 38 #[.agg R.vs,Uo #[Ud K,Uf pa Y.b.length pc]] w fun e w'=>HqP R.id w e w':=by
 obtain⟨z,S,D,a,c,x,d,a',c',x',d'⟩:=R;obtain⟨n,hn⟩:=zE Y.b.length;show Cl 38 #[Uo #[Ud z,Uf a S.l.length c,Uf x S.n d,Uf a' D.l.length c',Uf x' D.n d'],Uo #[Ud K,Uf pa Y.b.length pc]] w fun e w'=>HqP z w e w';have hE:Enc Y (gz Y.b) Y.b.length:=⟨(QaQ hY).1,fun i hi=>by rw [VS];rfl,rfl,(QaQ hY).2.1⟩;rw [hn] at hs hnc hE ⊢;obtain⟨P,hP⟩:=zE (HqP z w);rw [hP];have HP:=hid hP;obtain⟨W,I⟩:=zE ((((w.alloc (Uj #[Ud z,Uf a S.l.length c,Uf x S.n d,Uf a' D.l.length c',Uf x' D.n d'] 30)).alloc (Uj #[Ud K,Uf pa n pc] 35)).alloc (Uj #[Ud 0,Ue,Ue,Ue,Ue] 30)).alloc (Uj #[] 35));have H:Bl w W:=I▸((Qad _ _ _).alloc oS _).alloc oS _;have zW:W.heap.size=w.heap.size+4:=I▸oP;have A0:Bx5 W w.heap.size (Ud z) (Uf a S.l.length c) (Uf x S.n d) (Uf a' D.l.length c') (Uf x' D.n d'):=by rw [<- I];exact(((Bx5.new w _ _ _ _ _ _).up _).up _).up _
 have F0:Bx2 W (w.heap.size+1) (Ud K) (Uf pa n pc):=by
  rw [<- I];have:=Bx2.made (w.alloc (Uj #[Ud z,Uf a S.l.length c,Uf x S.n d,Uf a' D.l.length c',Uf x' D.n d'] 30)) (Ud K) (Uf pa n pc) 35;exact((by simpa using this:Bx2 _ (w.heap.size+1) _ _).allocs _).allocs _
 have R0:Bx5 W (w.heap.size+1+1) (Ud 0) Ue Ue Ue Ue:=by
  rw [<- I];have:=Bx5.new ((w.alloc (Uj #[Ud z,Uf a S.l.length c,Uf x S.n d,Uf a' D.l.length c',Uf x' D.n d'] 30)).alloc (Uj #[Ud K,Uf pa n pc] 35)) (Ud 0) Ue Ue Ue Ue 30;exact(by simpa using this:Bx5 _ (w.heap.size+1+1) _ _ _ _ _).up _
 have Hq:=hid (Qhf ⟨z,S,D,a,c,x,d,a',c',x',d'⟩ W (h.bw H) hk);have Hy:Hid (∀u,Bl W u ->Cl 5 #[Uo #[Ud z,Uf a S.l.length c,Uf x S.n d,Uf a' D.l.length c',Uf x' D.n d']] u (Rt u (Un true))):=hid (fun u hb=>by
  have j:=h.bw (Qaa H hb);have:=QaY z a x a' x' c d c' d' S D u j.c.1 j.c.2 j.c'.1 j.c'.2 j.m.1 j.m'.1 j.s.lf j.s.rn j.t.lf j.t.rn;rw [show rpB z S D=true from hk] at this;exact this)
 have Hs:=hid (fun u(hb:Bl W u)=>Qlm pa n pc (gz Y.b) Y u hE hnc hby (hs.bw (Qaa H hb)) (fun y hy=>Ut (hab y hy) (Qaa H hb).size));have Hw:=hid (fun u va vc xa xc(hb:Bl W u)(hc:SCt u va xa Y)=>Qey _ _ va xa c d vc xc S Y u h.m.1 (QdS hY).1 (h.s.bw (Qaa H hb)) hc);have HA:=hid A0;have HF:=hid F0;have HR:=hid R0;have HB:=hid H;have Hx:=hid hK;have Ht:=hid (QaX hk);have Ge:Hid (w.heap.size+4<=W.heap.size):=hid oM;obtain⟨k0,k1,k2,k3,k4⟩:=A0.q5;clear H zW A0 F0 R0 h hk hs hab hP hY hnc hE hn hby hK;go_enter func38,ntmps38;go_wp2_with fail;try rw [I]
 clear I;refine Hq.mono ?_;rintro e w1 ⟨⟨k,X,Z,F,T,ox,od,M,O,G,Q⟩,rfl,⟨hi,hN,H5,b1⟩,hX,hZ⟩;have hi:k=z:=hi;have hX:X=S:=hX;have hZ:Z=D:=hZ;subst hi hX hZ;simp only [Rq.vs];obtain⟨U,hU⟩:=zE (w1.alloc (Uj #[Ud k,Uf F X.l.length T,Uf ox X.n od,Uf M Z.l.length O,Uf G Z.n Q] 30));have bU:Bl w1 U:=hU▸zO _ _;have O0:Bx5 U w1.heap.size (Ud k) (Uf F X.l.length T) (Uf ox X.n od) (Uf M Z.l.length O) (Uf G Z.n Q):=hU▸Bx5.new _ _ _ _ _ _ _;have Hk:=hid (Qaa b1 bU);have HN:=hid hN;have HO:=hid O0;have Hi:=hid H5;have H9:Hid (W.heap.size<=w1.heap.size/\ w1.heap.size<U.heap.size):=hid ⟨b1.size,O0.lt⟩;have Hp:=hid bU;have Hz:=hid (Hy U Hk);have AU:=HA.bw Hk HA.lt;clear k0 k1 k2 k3 k4;obtain⟨k0,k1,k2,k3,k4⟩:=AU.q5;clear b1 bU O0 hN H5 AU Hq Hy;go_wp2_with fail;try rw [hU]
 clear hU;refine Hz.mono ?_;rintro e w2 ⟨rfl,b2⟩;have Ga:=hid b2;have Hl:=hid (Qaa Hk b2);clear b2 Hz k0 k1 k2 k3 k4;have F2:=HF.bw Hl HF.lt;obtain⟨f0,f1⟩:=F2.q2;clear F2;go_upto_region 5 with fail;go_cut [31] from 23 to 31 (fun b wx=>b=Un false/\ wx=w2);case first=>
  have d1:(K==1)=false:=by have:=Hx.out;simp;omega
  go_wp2_with fail;go_meet;exact⟨rfl,rfl⟩
 case rest=>
 obtain⟨rfl,rfl⟩:=hcut;have Hr:=hid (Hs wc Hl);clear Hs;go_wp2_with fail;refine Hr.mono ?_;rintro e w3 ⟨va,vc,xa,xc,rfl,H4,Gf,b3⟩;obtain⟨U3,He⟩:=zE (w3.alloc (Uj #[Uf va Y.l.length vc,Uf xa Y.n xc] 28));have b4:Bl w3 U3:=He▸zO _ _;have Y3:Bx2 U3 w3.heap.size (Uf va Y.l.length vc) (Uf xa Y.n xc):=He▸Bx2.made _ _ _ _;have H0:=hid (Qaa Ga (Qaa b3 b4));have Hc:=hid (Qaa Hl (Qaa b3 b4));have Hv:=hid (Hw U3 va vc xa xc Hc (H4.bw b4));have Hm:=hid Y3;have F3:=HF.bw Hc HF.lt;clear f0 f1;have f0:=F3.c0;clear b3 b4 H4 Gf Y3 F3 Hr Hw;go_upto_region 11 with fail;try rw [He]
 clear He;go_cut [70] from 59 to 70 (fun b wx=>b=Un false/\ wx=U3);case first=>
  rcases Hx.out with rfl|rfl
  ·go_wp2_with fail;go_meet;exact⟨rfl,rfl⟩
  ·go_wp2_with fail;go_meet;exact⟨rfl,rfl⟩
 case rest=>
 obtain⟨rfl,rfl⟩:=hcut;have A3:=HA.bw Hc HA.lt;have k1:=A3.c1;have k2:=A3.c2;obtain⟨y0,y1⟩:=Hm.q2;clear A3 f0;go_wp2_with fail;refine Hv.mono ?_;rintro e w5 ⟨g,o,E,A,rfl,s5,b5,jc⟩;obtain⟨J,hJ⟩:=zE (jnZ X Y);obtain⟨B,H1⟩:=zE (jnB X Y);have H3:SmI J:=hJ▸QhL _ _;rw [hJ] at s5 jc ⊢;rw [H1];obtain⟨C,Hf⟩:=zE (w5.alloc (Uj #[Uf g J.l.length o,Uf E J.n A] 28));have b6:Bl w5 C:=Hf▸zO _ _;have J5:Bx2 C w5.heap.size (Uf g J.l.length o) (Uf E J.n A):=Hf▸Bx2.made _ _ _ _;have Gb:=hid (Qaa H0 (Qaa b5 b6));have Gc:=hid (Qaa Hc (Qaa b5 b6));have Hu:=hid J5;have Hj:=hid s5;have Hg:=hid b6;have Gd:Hid (wc.heap.size<=w5.heap.size/\ w5.heap.size<=C.heap.size/\ U.heap.size<=wc.heap.size):=hid ⟨b5.size,b6.size,H0.size⟩;have Hh:=hid (fun u(hu:Bl C u)=>Qgt g E o A J u jc.1 jc.2 H3.1 ((Hj.bw Hg).bw hu).at.1 ((Hj.bw Hg).bw hu).at.2);obtain⟨F1,Hn⟩:=zE (Qbq J);rw [Hn] at Hh;have H6:=hid Hn;obtain⟨j0,j1⟩:=J5.q2;clear hJ H1 Hn s5 b5 b6 J5 jc Hv k1 k2 y0 y1 H3;go_upto_region 14 with fail;try rw [Hf]
 clear Hf;go_cut [86] from 80 to 86 (fun b wx=>b=Un (!(B && F1))/\ Hid (Bl C wx));case first=>
  cases B with
  | false=>go_wp2_with fail;go_meet;exact⟨rfl,hid zI⟩
  | true=>
   go_wp2_with fail;refine(Hh C zI).mono ?_;rintro e u1 ⟨rfl,c1⟩;have H8:=hid c1;clear c1;go_wp2_with fail;go_meet;exact⟨by cases F1<;>rfl,H8⟩
 case rest=>
 obtain⟨rfl,L⟩:=hcut;have Hb:=hid (Qaa Gb L);have Hd:=hid (Qaa Gc L);have Ho:Hid ((B && F1)=true ->F1=true):=hid (by cases B<;>simp);obtain⟨BF,H2⟩:=zE ((B && F1));rw [H2] at Ho ⊢;clear H2 Hh j0 j1;obtain⟨N,hN⟩:∃N:Ur,N=wc:=⟨_,rfl⟩;rw [<- hN] at Hb Hd L ⊢;clear hN;have O6:=HO.bw Hb HO.lt;have R6:=HR.bw Hd HR.lt;obtain⟨o0,o1,o2,o3,o4,of⟩:=O6.p5;have h0:=Ge.out;have j:=H9.out;have h5:=Gd.out;have h6:=L.size;have h7:=Hb.size;cases BF with
 | false=>
  obtain⟨r0,r1,r2,r3,r4,rf⟩:=R6.p5;have Ha:=hid (And.intro (Rq.Nw.five (lo':=w.heap.size) (r:=w.heap.size+1+1) (HN.move (w':=N) zL oM (fun q _ h2=>(Hb.block q oM).trans (Hp.block q h2))) oM oM (Ud k) (Uf F X.l.length T) (Uf ox X.n od) (Uf M Z.l.length O) (Uf G Z.n Q)) (Qgd (r:=w.heap.size+1+1) (Qaa HB Hd) oM (Ud k) (Uf F X.l.length T) (Uf ox X.n od) (Uf M Z.l.length O) (Uf G Z.n Q)));clear O6 R6 h0 j h5 h6 h7;go_wp2_with fail;refine zF (v:=Ul #[Uo #[Ud k,Uf F X.l.length T,Uf ox X.n od,Uf M Z.l.length O,Uf G Z.n Q],Uf (Uq (Ua (w.heap.size+1+1+1) 0)) 0 0,Ud 3]) (by simp [results,results38,go_sem,r0,r1,r2,r3,r4]) ?_;rw [<- HP.out];exact⟨⟨k,X,Z,F,T,ox,od,M,O,G,Q⟩,_,3,rfl,rfl,Ha.1,Hi,Ha.2⟩
 | true=>
  have J6:=Hu.bw L Hu.lt;obtain⟨j0,j1⟩:=J6.q2;obtain⟨V,hV⟩:=zE ((N.setCell (Ua w1.heap.size 1) (Uf g J.l.length o)).setCell (Ua w1.heap.size 2) (Uf E J.n A));have OV:=(O6.set1 (Uf g J.l.length o)).set2 (Uf E J.n A);have RV:=(R6.setAt (Ua w1.heap.size 1) (Uf g J.l.length o) (by show w1.heap.size≠_;omega)).setAt (Ua w1.heap.size 2) (Uf E J.n A) (by show w1.heap.size≠_;omega);have qV:∀q,q≠w1.heap.size ->V.heap[q]? =N.heap[q]? :=fun q hq=>by rw [<- hV,zH _ _ _ _ hq,zH _ _ _ _ hq]
  have zV:V.heap.size=N.heap.size:=by rw [<- hV];simp [UL]
  have bV:Bl w V:=by rw [<- hV];exact((Qaa HB Hd).setCell (p:=(Ua w1.heap.size 1)) oQ _).setCell (p:=(Ua w1.heap.size 2)) oQ _
  rw [hV] at OV RV;have Ha:=hid (And.intro (Rq.Nw.five (R:=⟨k,J,Z,g,o,E,A,M,O,G,Q⟩) (w:=V) (lo:=W.heap.size) (lo':=w.heap.size) (r:=w.heap.size+1+1) ⟨Hj.move oM oM (fun q h3 h4=>(qV q oM).trans ((L.block q oM).trans (Hg.block q h4))),HN.t.move zL oM (fun q h3 h4=>(qV q oM).trans ((Hb.block q oM).trans (Hp.block q h4)))⟩ oM oM (Ud k) (Uf g J.l.length o) (Uf E J.n A) (Uf M Z.l.length O) (Uf G Z.n Q)) (Qgd (r:=w.heap.size+1+1) bV oM (Ud k) (Uf g J.l.length o) (Uf E J.n A) (Uf M Z.l.length O) (Uf G Z.n Q)));obtain⟨p0,p1,p2,p3,p4⟩:=OV.q5;obtain⟨r0,r1,r2,r3,r4,rf⟩:=RV.p5;have H7:=hid (((((RV.set0 (Ud k)).set1 (Uf g J.l.length o)).set2 (Uf E J.n A)).set3 (Uf M Z.l.length O)).set4 (Uf G Z.n Q));clear J6 O6 R6 OV RV qV zV bV h0 j h5 h6 h7;go_wp2_with fail;clear r0 r1 r2 r3 r4;obtain⟨r0,r1,r2,r3,r4⟩:=H7.q5;refine zF (v:=Ul #[Uo #[Ud k,Uf g J.l.length o,Uf E J.n A,Uf M Z.l.length O,Uf G Z.n Q],Uf (Uq (Ua (w.heap.size+1+1+1) 0)) 0 0,Ud 0]) (by simp [results,results38,go_sem,r0,r1,r2,r3,r4]) ?_;rw [<- HP.out];exact⟨⟨k,J,Z,g,o,E,A,M,O,G,Q⟩,_,0,rfl,rfl,Ha.1,Qlh Ht.1 (H6.trans (Ho oP)) Ht.2.2,Ha.2⟩
def Qkr (w:Ur)(cb:Nat)(a:Option Us)(n c:Nat)(x:Int):Prop:=w.cell? (Ub cb)=Uq (Uf a n c)/\ w.cell? (Ua cb 1)=Uq (Ud x)/\ w.frozen? (Ua cb 1)=false
theorem Qkr.lt{x:Int}(h:Qkr w cb a n c x):cb<w.heap.size:=by
 rcases Nat.lt_or_ge cb w.heap.size with j|j
 ·exact j
 ·have:=h.1;simp [YO,Array.getElem?_eq_none j] at this
theorem Qkr.bw{x:Int}(h:Qkr w cb a n c x)(hb:Below B w w')(hB:cb<B):Qkr w' cb a n c x:=
 ⟨(hb.cell (p:=(Ub cb)) hB).trans h.1,(hb.cell (p:=(Ua cb 1)) hB).trans h.2.1,(hb.frozen (p:=(Ua cb 1)) hB).trans h.2.2⟩
theorem Qkr.set{x:Int}(h:Qkr w cb a n c x)(y:Int):Qkr (w.setCell (Ua cb 1) (Ud y)) cb a n c y:=by
 obtain⟨j,k,m⟩:=h;refine⟨?_,?_,?_⟩
 ·simp [UN,j]
 ·exact UM _ _ _ k
 ·rw [UK];exact m
theorem QeL(h:w.grownBy w1 Up)(v:Value):w.grownBy (w1.setCell (Ua cb i) v) (Uq cb):=by
 refine⟨h.os,h.tape,h.output,?_,fun k hk hne=> ?_⟩
 ·have:=h.size;simpa [UL] using this
 ·exact(zH _ _ _ _ (fun e=>hne (by rw [e]))).trans (h.block k hk oP)
theorem Qbk (w:Ur)(n:Nat)(row:Option Nat):w.grownBy (w.drewN n) row:=⟨rfl,rfl,rfl,Uv _,fun _ _ _=>rfl⟩
theorem QaS(h1:w.grownBy w1 (Uq cb))(h2:w1.grownBy w2 (Uq cb)):w.grownBy w2 (Uq cb):=
 h1.andThen h2 (fun j hj=> .inr hj)
theorem Qbj(h1:w.grownBy w1 (Uq cb))(h2:Bl w1 w2):w.grownBy w2 (Uq cb):=
 QaS h1 ⟨h2.os,h2.tape,h2.output,h2.size,fun k hk _=>h2.block k hk⟩
def RdJ (w:Ur)(B rb:Nat)(f:Nat ->Int)(n x:Nat):Prop:=∃(a:Option Us) (c:Nat),Qkr w rb a n c (x:Int)/\ Seg w a n f/\ Byt f/\ n<=1000/\ x<=n/\ (0<n ->∀y,a=Uq y ->y.block≠rb/\ y.block<B)/\ rb<B
theorem RdJ.bw(h:RdJ w B rb f n x)(hb:Below B w w'):RdJ w' B rb f n x:=by
 obtain⟨a,c,r,j,v,z,g,m,k⟩:=h;refine⟨a,c,r.bw hb k,?_,v,z,g,m,k⟩;rcases j with j|⟨b,off,e,y,u⟩
 ·exact .inl j
 ·by_cases q:0<n
  ·exact .inr ⟨b,off,e,Ut y hb.size,fun i hi=>(hb.cell (p:=(Ua b (off+i))) (show b<B from(m q _ e).2)).trans (u i hi)⟩
  ·exact .inl oM
def rk (f:Nat ->Int)(n x:Nat):Nat:=if x<n then(f x).toNat else 0
def rx (n x:Nat):Nat:=if x<n then x+1 else x
theorem Qhl(h:RdJ w B rb f n x):rk f n x<256:=by
 obtain⟨a,c,k,m,j,_⟩:=h;unfold rk;split
 ·have:=j x;omega
 ·omega
theorem RdJ.lt(h:RdJ w B rb f n x):rb<w.heap.size/\ rb<B:=by
 obtain⟨a,c,k,_,_,_,_,_,j⟩:=h;exact⟨k.lt,j⟩
theorem QaJ (B rb:Nat)(f:Nat ->Int)(n x:Nat)(w:Ur)(h:RdJ w B rb f n x):
  Cl 15 #[Uk (Uc rb)] w fun e w'=>e=Ui (Ud (rk f n x:Int))/\ RdJ w' B rb f n (rx n x)/\ w.grownBy w' (Uq rb):=by
 obtain⟨a,c,s,u,m,A,Y,r,o⟩:=h;have q:=hid s;have t:=hid u;have y:=hid m;obtain⟨D,F,P⟩:=s;by_cases k:x<n
 ·rcases u with u|⟨b,off,rfl,H,p⟩
  ·omega
  obtain⟨z,v⟩:∃z:Nat,f x=(z:Int):=⟨(f x).toNat,oH ((m x).1)⟩;have C:z<256:=oH ((m x).2);have J:w.cell? (Ua b (off+x))=Uq (Ug .u8 (z:Int)):=by rw [p x k,v]
  have I:b≠rb:=(r oM _ rfl).1;have N:(0:Int)<=(x:Int):=UI _;have X:(x:Int)<(n:Int):=oM;have L:IntKind.i64.wrap (z:Int)=(z:Int):=Qat _ oM oM;have M:=hid v;have E:Hid (∀z:Nat,f x=(z:Int) ->rk f n x=z/\ rx n x=x+1):=hid (fun z e=>by unfold rk rx;rw [if_pos k,if_pos k,e];exact⟨oM,rfl⟩);clear v p m;go_enter func15,ntmps15;go_wp2_with fail;go_quiet (fail);go_wp2_with fail;go_quiet (fail);go_wp2_with fail;go_ret;have g:=E z M;rw [g.1,g.2];refine⟨rfl,⟨_,c,?_,?_,y,A,k,r,o⟩,?_⟩
  ·first|exact q.set _|(simp;exact q.set _)
  ·rcases t.out with Q|⟨G,Z,j,U,V⟩
   ·exact .inl Q
   ·have O:=j;injection j with j;injection j with j _ _;subst j;exact .inr ⟨_,Z,O,by simpa [UL] using U,fun i hi=>by
     try simp only [World.drewN_drewN]
     rw [World.cell?_setCell_far _ _ _ _ oS];exact V i hi⟩
  ·first|exact QeL (Qbk _ _ _) _|(simp;exact QeL (Qbk _ _ _) _)
 ·have K:decide ((x:Int)<(n:Int))=false:=oS;go_enter func15,ntmps15;go_wp2_with fail;go_quiet (fail);go_wp2_with fail;go_ret;have e:rk f n x=0/\ rx n x=x:=by unfold rk rx;rw [if_neg k,if_neg k];exact⟨rfl,rfl⟩
  rw [e.1,e.2];exact⟨rfl,⟨a,c,q,t,y,A,Y,r,o⟩,Qbk _ _ _⟩
theorem Qnx (a:Option Us)(n c:Nat)(f:Nat ->Int)(w:Ur)(hnc:n<=c)(hn:n<=9223372036854775807)(h:Seg w a n f)(hf:Byt f):
  Cl 14 #[Uf a n c] w fun e w'=>e=Ui (Uk (Uc w.heap.size))/\ RdJ w' (w.heap.size+1) w.heap.size f (min n 1000) 0/\ Bl w w':=by
 have r:=fun(o:Obj)=>zO w o;have k:=hid r;have m:=hid h;have q:=hid hf;clear r;by_cases u:n<=1000
 ·clear h hf;go_enter func14,ntmps14;go_wp2_with fail;go_ret;rw [Nat.min_eq_left u];refine⟨rfl,⟨a,c,⟨oP,oP,oP⟩,m.bw (k _),q,u,oM,fun h0 y hy=> ?_,oM⟩,k _⟩;rcases m.out with g|⟨b,off,e,j,_⟩
  ·omega
  ·rw [hy] at e;injection e with e;rw [e];exact⟨Nat.ne_of_lt j,JP j⟩
 ·have g:1000<n:=oM;rcases h with h|⟨b,off,rfl,j,p⟩
  ·omega
  clear hf p;go_enter func14,ntmps14;go_wp2_with fail;go_ret;rw [Nat.min_eq_right oM];refine⟨rfl,⟨Uq (Ua b off),c,⟨oP,oP,oP⟩,?_,q,oM,oM,fun h0 y hy=> ?_,oM⟩,k _⟩
  ·rcases (m.bw (k _)) with E|⟨v,A,z,t,s⟩
   ·omega
   ·exact .inr ⟨v,A,z,t,fun i hi=>s i oM⟩
  ·injection hy with hy;rw [<- hy];exact⟨Nat.ne_of_lt j,JP j⟩
def Qlp (f:Nat ->Int)(p L:Nat):ByteArray:=⟨((UW L).map fun i=>UInt8.ofNat (f (p+i)).toNat).toArray⟩
theorem QiA{b p L cap:Nat}(hf:Byt f)(hc:∀i,i<L ->w.cell? (Ua b (off+p+i))=Uq (Ug .u8 (f (p+i)))):
  (convert 22 9 (Uf (Uq (Ua b (off+p))) L cap)).run prog w=.ok (Um (Qlp f p L)) w:=by
 have r:((UW L).map fun i=>UInt8.ofNat (f (p+i)).toNat).length=L:=oP;have:=run_convert_bytes_back (P:=prog) w 22 9 5 (Ua b (off+p)) cap ((UW L).map fun i=>UInt8.ofNat (f (p+i)).toNat) underlying22 underlying5 underlying9 (fun j hj=>by
  have q:j<L:=oU hj;have e:(Addr.add (Ua b (off+p)) j)=(Ua b (off+p+j)):=by
   by_cases k:j=0
   ·subst k;simp [Addr.add]
   ·simp [Addr.add,k]
  rw [e,hc j q];have:=hf (p+j);simp only [JD,JE,Option.some.injEq,Value.int.injEq,true_and];have m:(UInt8.ofNat (f (p+j)).toNat).toNat=(f (p+j)).toNat%256:=oP;rw [m];omega)
 rw [r] at this;exact this
theorem QiB(ad:Us)(p cap:Nat)(f:Nat ->Int):(convert 22 9 (Uf (Uq ad) 0 cap)).run prog w=.ok (Um (Qlp f p 0)) w:=
 run_convert_bytes_back (P:=prog) w 22 9 5 ad cap [] underlying22 underlying5 underlying9 (fun j hj=>by simp at hj)
def Qq7 (w:Ur)(B:Nat)(v:Value)(zs:List Int):Prop:=Own w B v zs/\∀z∈zs,0<=z/\ z<256
theorem Qqq (w:Ur)(B:Nat)(hB:B<=w.heap.size):Own (w.alloc (Uj #[] 5)) B (Uf (Uc w.heap.size) 0 0) []:=by
 have:=VF (base:=B) (e:=5) (size:=1) w #[] 0 hB oL rfl;simpa [Own] using this
def txJ (zs:List Int):ByteArray:=Qlp (fun i=>zs.getD i 0) 0 zs.length
theorem QdH (zs:List Int):(txJ zs).size=zs.length:=by simp [txJ,Qlp,ByteArray.size]
theorem Qka(h:Qq7 w B v zs):∀k,(convert 22 9 v).run prog (w.drewN k)=.ok (Um (txJ zs)) (w.drewN k):=by
 obtain⟨m,u⟩:=h;by_cases j:zs=[]
 ·subst j;obtain⟨_,r⟩:=m;rcases r with ⟨rfl,_⟩|⟨g,cap,z,rfl,_⟩
  ·intro k;rw [run_convert_bytes_string _ _ _ 5 Up 0 0 underlying22 underlying5 underlying9];rfl
  ·exact fun k=>QiB (w:=w.drewN k) (Ub g) 0 cap (fun _=>0)
 ·obtain⟨g,cap,rfl,_,_,_,_,_,s⟩:=m.shape j;rcases s with q|⟨b,off,e,t,y⟩
  ·exact absurd (List.length_eq_zero_iff.1 q) j
  ·injection e with e;injection e with e1 e2 _;subst e1 e2;intro k;have:=QiA (w:=w.drewN k) (b:=g) (off:=0) (p:=0) (L:=zs.length) (cap:=cap) (f:=fun i=>zs.getD i 0) (Qmv u) (fun i hi=>by have:=y i hi;simpa using this);simpa [txJ] using this
def rpt (s:ByteArray)(n:Nat):List Int:=(JG n (Qa2 s)).flatten
theorem Qlj (s:ByteArray)(n:Nat):rpt s (n+1)=rpt s n++Qa2 s:=by simp [rpt,JI]
theorem Qhm (s:ByteArray)(n:Nat):(rpt s n).length=n*s.size:=by simp [rpt,Qas]
theorem Qli (s:ByteArray)(n:Nat):∀z∈rpt s n,0<=z/\ z<256:=by
 intro z j;simp only [rpt,List.mem_flatten,List.mem_replicate] at j;obtain⟨l,⟨_,rfl⟩,h⟩:=j;exact Qd6 s z h
theorem QbE (s:ByteArray)(n:Nat)(w:Ur)(hs:s.size<=1)(hn:n<=1000):
  Cl 65 #[Um s,Ud (n:Int)] w (Rt w (Um (txJ (rpt s n)))):=by
 obtain⟨X,hi,K,L,N⟩:=info_parts Tryz.infoByte;have p:=hid (Qqq w w.heap.size zL);have g:=hid (zO w (Uj #[] 5));go_enter func65,ntmps65;go_wp2_with fail;go_loopw [5,6] (fun b i wr=>∃(j:Nat) (m:List Int),j<=n/\ m.length<=j/\ i=Ud (j:Int)/\ Hid (Own wr w.heap.size b m)/\ Hid (rpt s j=m)/\ Hid (Bl w wr)) (fun _ i _=>n - (intOf i).toNat);case atStart=>exact⟨0,[],Ux _,Ux _,rfl,p,hid rfl,g⟩
 case round=>
  clear p g;obtain⟨j,m,D,F,rfl,y,v,u⟩:=hrel;have C:=u.size;by_cases I:j<n
  ·obtain⟨cap,B,J,r,P,O⟩:=QeB s wr;have z:B.ownsRow w.heap.size 5 1 u5 m.length (m.map (Value.int .u8)):=y.kept r (fun k hk=>(World.ownsRow.lt y k hk).2);have q:Hid (∀k,u5.ownBlock=Uq k ->w.heap.size<=k):=fun k hk=>(World.ownsRow.lt z k hk).1;have E:=hid O;have M:=hid (Lib.strCells_oneCell s);have A:=hid (Lib.strCells_length s);have o:=hid (u.trans (r.mono C));have S:=r.size;clear O r y u;go_wp2_with (at_builtin;refine wpList_append_own _ rfl _ _ 22 rfl w.heap.size 5 X (Ug .u8 0) 1 1 underlying22 hi K L N rfl oD _ _ _ rfl z (Ub wr.heap.size) s.size cap (Lib.strCells s) rfl (by rw [A.out];omega) E M ?c3 ?c4 ?c5 ?_);case c3=>unfold maxLen;omega
   case c4=>omega
   case c5=>omega
   ·intro v' Y V U _;have R:Hid (Own Y w.heap.size v' (m++Qa2 s)):=by
     show Own _ _ _ _;unfold Own;rw [UB,List.map_append,Qas,QbP];exact V
    have G:Hid (Bl w Y):=o.grown U oM q;have Z:Hid (rpt s (j+1)=m++Qa2 s):=hid (by rw [Qlj,v.out]);have H:(m++Qa2 s).length<=j+1:=(by rw [UB,Qas];omega);clear V U z E M A J q o;go_wp2_with fail;go_roundw;case rel=>exact⟨j+1,m++Qa2 s,I,H,oN,R,Z,G⟩
    case measure=>exact oE
  ·obtain rfl:j=n:=oM;have Q:=Qka ⟨y,by rw [<- v.out];exact Qli s j⟩ 0;rw [JA] at Q;obtain⟨t,h⟩:=zE (txJ m);have q:Hid (txJ (rpt s j)=t):=hid (by rw [v.out];exact h);rw [h] at Q;clear h v;go_wp2_with fail;go_ret;exact⟨by rw [q.out];rfl,u⟩
theorem Qnw (B rb:Nat)(f:Nat ->Int)(n x:Nat)(w:Ur)(h:RdJ w B rb f n x):
  Cl 34 #[Uk (Uc rb)] w fun e w'=>e=Ui (Ud ((n - x:Nat):Int))/\ RdJ w' B rb f n x/\ w.grownBy w' (Uq rb):=by
 have j:=hid h;obtain⟨a,c,m,u,q,y,g,r,v⟩:=h;obtain⟨t,o,i⟩:=m;obtain⟨d,k⟩:=zE (n - x:Nat);have z:IntKind.i64.wrap ((n:Int) - (x:Int))=(d:Int):=by rw [show (n:Int) - (x:Int)=(d:Int) from by omega];exact Qat _ oM oM
 rw [k];clear u q r k;go_enter func34,ntmps34;go_wp2_with fail;try (go_quiet (fail);go_wp2_with fail)
 go_ret;first|exact⟨rfl,j,Qbk _ _ _⟩|exact⟨rfl,j,Qbk _ 0 _⟩
def Qd8 (ts:List ByteArray):List Value:=ts.map Value.string
theorem Qg2 (ts:List ByteArray):(Qd8 ts).length=ts.length:=by simp [Qd8]
theorem QhZ{ts:List ByteArray}(h:w.ownsRow B 9 1 v ts.length (Qd8 ts)):∃a c,v=Uf a ts.length c/\ QaP w a ts/\ ts.length<=c/\ c<=9223372036854775807:=by
 rcases h.2 with ⟨rfl,j⟩|⟨g,cap,y,rfl,t,k,m,r,z,u⟩
 ·exact⟨Up,0,by rw [j],.inl j,oM,oM⟩
 ·refine⟨_,cap,rfl,.inr ⟨g,0,rfl,(Array.getElem?_eq_some_iff.1 k).1,fun i hi=> ?_⟩,m,by unfold maxLen at r;omega⟩;have q:w.cell? (Ua g i)=(Qd8 ts)[i]? :=by
   rw [<- u,Nat.mul_one,List.getElem?_take_of_lt hi];simp [YO,k]
  rw [VS,q];simp [Qd8,gS,UA,hi]
theorem QjF{size:Nat}(h:w.ownsRow B e size v n xs)(hk:∀g,v.ownBlock=Uq g ->w'.heap[g]? =w.heap[g]?):w'.ownsRow B e size v n xs:=by
 obtain⟨u,j⟩:=h;refine⟨u,?_⟩;rcases j with j|⟨g,cap,k,e,q,m,r⟩
 ·exact .inl j
 ·subst e;exact .inr ⟨g,cap,k,rfl,q,(hk g rfl).trans m,r⟩
theorem QkZ{size:Nat}(h:w.ownsRow B e size v n xs)(hb:Bl w w'):w'.ownsRow B e size v n xs:=QjF h fun g hg=>hb.block g (h.lt g hg).2
theorem Qp9 (base:Nat)(w:Ur)(v:Value)(xs ns:List ByteArray)(a:Us)(c:Nat)(ho:w.ownsRow base 9 1 v xs.length (Qd8 xs))(hn:∀i,i<ns.length ->w.cell? (a.add i)=Uq (Um (gS ns i)))(hm:xs.length+ns.length<=4194304)(hb:base<=w.heap.size):
  ∃v' w',(Builtin.append_ #[74,74] 74 #[v,Uf (Uq a) ns.length c]).run prog w=.ok v' w'/\ w'.ownsRow base 9 1 v' (xs++ns).length (Qd8 (xs++ns))/\ w.grownBy w' v.ownBlock/\ Below base w w'/\ (v≠Ue ->v'≠Ue):=by
 obtain⟨o,hi,h,g,t⟩:=info_parts Qdn;obtain⟨v',w',r,y,m,z⟩:=run_append_own (P:=prog) w base 74 74 9 o (Um ByteArray.empty) 1 16 underlying74 hi h g t rfl oD v xs.length (Qd8 xs) ho a ns.length c (Qd8 ns) (by rw [Qg2];omega) (fun j u hu=>by
  have q:j<ns.length:=by
   by_cases e:j<ns.length
   ·exact e
   ·rw [List.getElem?_eq_none (by rw [Qg2];omega)] at hu;cases hu
  rw [hn j q,<- hu];simp [Qd8,gS,UA,q]) (fun u hu=>by
   obtain⟨s,_,rfl⟩:=List.mem_map.1 hu;rfl) oL oM hb
 refine⟨v',w',r,?_,m,?_,fun hv e=>hv (z.1 e).1⟩
 ·rw [UB];simpa [Qd8] using y
 ·exact(Below.refl base w).grown m hb (fun k hk=>(ho.lt k hk).1)
theorem Qp0{o:Oper}{a:Act}{K:Act ->Ur ->Prop}{Q:Exit ->Act ->Ur ->Prop}(s x:Operand)(t:TypeId)(ho:o.op=.call {callee:=.builtin .append,args:=#[s,x],argTypes:=#[t,t]})(hr:(Builtin.append_ #[t,t] t' #[v,u]).run P w=.ok v' w')(hs:a.eval s=v)(hx:a.eval x=u)(ht:o.type=t')(h:K (a.put o.dst v') w'):Oper.wp P o a w K Q:=by
 subst ht;unfold Oper.wp execOp;simp only [ho,resolve,invoke,builtin,Sem.run_bind,Sem.run_pure,Result.andThen_ok,JJ,UD,Vr,hs,hx,hr];exact h
theorem QbS{ops:Array Oper}{rest:List Oper}{o:Oper}{a:Act}{Q:Exit ->Act ->Ur ->Prop}(hgd:o.guard=Up)(s x:Operand)(t:TypeId)(ho:o.op=.call {callee:=.builtin .append,args:=#[s,x],argTypes:=#[t,t]})(hr:(Builtin.append_ #[t,t] t' #[v,u]).run P w=.ok v' w')(hs:a.eval s=v)(hx:a.eval x=u)(ht:o.type=t')(h:wpList P ops Q rest (a.put o.dst v') w'):wpList P ops Q (o::rest) a w:=by
 refine wpList_plain hgd fun K hK=> ?_;exact Qp0 s x t ho hr hs hx ht (hK _ _ h)
theorem Qoa (s:ByteArray)(a b:Nat)(h:b<=c):(s.extract a b).size<=c:=by
 rw [ByteArray.size_extract];exact Uw (Nat.sub_le _ _) (Uw (Nat.min_le_left _ _) h)
theorem Qpy (f:Nat ->Int)(n x:Nat):∃v:ByteArray,v.size<=201/\∀(B rb:Nat) (w:Ur),B<=w.heap.size ->RdJ w B rb f n x ->
  Cl 61 #[Uk (Uc rb)] w fun e w'=>e=Ui (Um v)/\ RdJ w' B rb f n (rx n x)/\ w.grownBy w' (Uq rb):=by
 obtain⟨k,q⟩:=zE (rk f n x);by_cases s:k=255
 ·refine⟨txJ (rpt ⟨#[118]⟩ 201),by rw [QdH,Qhm];decide,fun B rb w hB h=> ?_⟩;have j:=hid (QaJ B rb f n x w h);rw [q] at j;have g:((k:Int)==255)=true:=oS;clear h q;go_enter func61,ntmps61;go_wp2_with fail;refine j.mono ?_;rintro e w1 ⟨rfl,y,m⟩;have z:=hid (QbE ⟨#[118]⟩ 201 w1 oD oM);go_wp2_with fail;refine z.mono ?_;rintro e i ⟨rfl,u⟩;go_wp2_with fail;go_ret;exact⟨rfl,y.bw (u.mono (oH m.size)),Qbj m u⟩
 ·by_cases A:250<=k
  ·refine⟨txJ (rpt ⟨#[118]⟩ 200),by rw [QdH,Qhm];decide,fun B rb w hB h=> ?_⟩;have j:=hid (QaJ B rb f n x w h);rw [q] at j;have g:((k:Int)==255)=false:=oS;have t:(250:Int)<=(k:Int):=oM;clear h q;go_enter func61,ntmps61;go_wp2_with fail;refine j.mono ?_;rintro e w1 ⟨rfl,y,m⟩;have z:=hid (QbE ⟨#[118]⟩ 200 w1 oD oM);go_wp2_with fail;refine z.mono ?_;rintro e i ⟨rfl,u⟩;go_wp2_with fail;go_ret;exact⟨rfl,y.bw (u.mono (oH m.size)),Qbj m u⟩
  ·obtain⟨r,o⟩:=zE (k%4:Nat);refine⟨(⟨#[119,120,121,122]⟩:ByteArray).extract r 4,Qoa _ _ _ oM,fun B rb w hB h=> ?_⟩;have j:=hid (QaJ B rb f n x w h);rw [q] at j;have g:((k:Int)==255)=false:=oS;have t:¬(250:Int)<=(k:Int):=oM;have b:(k:Int)%4=(r:Int):=oM;have p:r<4:=oM;clear h q o;go_enter func61,ntmps61;go_wp2_with fail;refine j.mono ?_;rintro e w1 ⟨rfl,y,m⟩;go_wp2_with fail;go_ret;exact⟨rfl,y,m⟩
def PR (w:Ur)(B:Nat)(v:Value)(ps:List ByteArray):Prop:=w.ownsRow B 9 1 v ps.length (Qd8 ps)
structure PtN (w:Ur)(lo:Nat)(pa:Option Us)(pc:Nat)(p:List ByteArray):Prop where
 cap:p.length<=pc/\ pc<=9223372036854775807
 seg:∀w':Ur,w.heap.size<=w'.heap.size ->(∀q,lo<=q ->q<w.heap.size ->w'.heap[q]? =w.heap[q]?) ->QaP w' pa p
theorem PtN.move(h:PtN w lo pa pc p)(hl:lo'<=lo)(hs:w.heap.size<=w1.heap.size)(hq:∀q,lo<=q ->q<w.heap.size ->w1.heap[q]? =w.heap[q]?):PtN w1 lo' pa pc p:=
 ⟨h.cap,fun w' h1 h2=>h.seg w' (Uw hs h1) (fun q h3 h4=>(h2 q (Uw hl h3) (Ut h4 hs)).trans (hq q h3 h4))⟩
theorem PtN.at(h:PtN w lo pa pc p):QaP w pa p:=h.seg w zL (fun _ _ _=>rfl)
theorem PR.ptn{ps:List ByteArray}(h:PR w B v ps)(hl:lo<=B):∃j pc,v=Uf j ps.length pc/\ PtN w lo j pc ps:=by
 obtain⟨j,pc,e,s,c⟩:=QhZ h;refine⟨j,pc,e,c,fun w' h1 h2=> ?_⟩;obtain⟨q,r,k,m,_⟩:=QhZ (QjF h (fun g hg=>h2 g (Uw hl (h.lt g hg).1) (h.lt g hg).2));rw [e] at k;injection k with e1 e2 e3;rw [e1];exact m
theorem QfO (B:Nat)(w:Ur)(v:Value)(ps:List ByteArray)(s:ByteArray)(h:PR w B v ps)(hB:B<=w.heap.size)(hl:ps.length<=100):
  ∃v' w',(Builtin.append_ #[74,74] 74 #[v,Uf (Uc w.heap.size) 1 1]).run prog (w.alloc (Uj #[Um s] 9))=.ok v' w'/\ PR w' B v' (ps++[s])/\ Below B w w':=by
 have j:Bl w (w.alloc (Uj #[Um s] 9)):=zO _ _;obtain⟨v',w',k,m,r,q,u⟩:=Qp9 B (w.alloc (Uj #[Um s] 9)) v ps [s] (Ub w.heap.size) 1 (QkZ h j) (fun i hi=>by
  obtain rfl:i=0:=by simp at hi;omega
  simp [Addr.add,gS]) oS oS
 exact⟨v',w',k,m,(j.mono hB).trans q⟩
theorem PR.lit1 (w:Ur)(s:ByteArray):PR (w.alloc (Uj #[Um s] 9)) w.heap.size (Uf (Uc w.heap.size) 1 1) [s]:=
 VF (base:=w.heap.size) (e:=9) (size:=1) w #[Um s] 1 zL oL rfl
theorem PR.lit0 (w:Ur):PR (w.alloc (Uj #[] 9)) w.heap.size (Uf (Uc w.heap.size) 0 0) []:=
 VF (base:=w.heap.size) (e:=9) (size:=1) w #[] 0 zL oL rfl
def PaP (f:Nat ->Int)(n x:Nat)(p:List ByteArray):Prop:=p.length<=9/\∀(B rb:Nat) (w:Ur),B<=w.heap.size ->RdJ w B rb f n x ->
  Cl 60 #[Uk (Uc rb)] w fun e w'=>∃pa pc,e=Ui (Uf pa p.length pc)/\ PtN w' w.heap.size pa pc p/\ RdJ w' B rb f n (rx n x)/\ w.grownBy w' (Uq rb)
theorem PaP.fin(hB:B<=w.heap.size)(r1:RdJ w1 B rb f n (rx n x))(g1:w.grownBy w1 (Uq rb))(h:PR w2 w1.heap.size v p)(b2:Bl w1 w2):∃j pc,Ending.returned v=Ui (Uf j p.length pc)/\ PtN w2 w.heap.size j pc p/\ RdJ w2 B rb f n (rx n x)/\ w.grownBy w2 (Uq rb):=by
 obtain⟨j,pc,e,k⟩:=h.ptn g1.size;exact⟨j,pc,by rw [e],k,r1.bw (b2.mono (oH g1.size)),Qbj g1 b2⟩
theorem Qqh (f:Nat ->Int)(n x k:Nat)(hk:rk f n x=k)(h1:252<=k):∃p,PaP f n x p:=by
 obtain⟨r,s⟩:=zE (k%2:Nat);obtain⟨m,b⟩:=zE (40+r:Nat);obtain⟨t,y⟩:=zE (txJ (rpt ⟨#[110]⟩ m));refine⟨[t],oP,fun B rb w hB h=> ?_⟩;have u:=hid (QaJ B rb f n x w h);rw [hk] at u;have E:(252:Int)<=(k:Int):=oM;have M:(k:Int)%2=(r:Int):=oM;have O:IntKind.i64.wrap (40+(r:Int))=(m:Int):=by rw [show (40:Int)+(r:Int)=(m:Int) by omega];exact Qat _ oM oM
 have o:Hid (m<=1000):=hid oM;have i:=hid y;clear h hk s b y;go_enter func60,ntmps60;go_wp2_with fail;refine u.mono ?_;rintro e w1 ⟨rfl,z,v⟩;have q:=hid (QbE ⟨#[110]⟩ m w1 oD o);rw [i.out] at q;go_wp2_with fail;refine q.mono ?_;rintro e A ⟨rfl,j⟩;have g:=hid (PaP.fin hB z v (QaW (PR.lit1 A t) j.size) (Qaa j (zO _ _)));clear z v j;go_wp2_with fail;go_ret;exact g
theorem Qqi (f:Nat ->Int)(n x k:Nat)(hk:rk f n x=k)(h1:¬252<=k)(h2:248<=k):∃p,PaP f n x p:=by
 obtain⟨r,Z⟩:=zE (k%2:Nat);obtain⟨m,Y⟩:=zE (8+r:Nat);refine⟨JG m ⟨#[100]⟩,oS,fun B rb w hB h=> ?_⟩;have g:=hid (QaJ B rb f n x w h);rw [hk] at g;have G:¬(252:Int)<=(k:Int):=oM;have H:(248:Int)<=(k:Int):=oM;have I:(k:Int)%2=(r:Int):=oM;have J:IntKind.i64.wrap (8+(r:Int))=(m:Int):=by rw [show (8:Int)+(r:Int)=(m:Int) by omega];exact Qat _ oM oM
 have L:m<=9:=oM;clear h hk Z Y;go_enter func60,ntmps60;go_wp2_with fail;refine g.mono ?_;rintro e w1 ⟨rfl,A,t⟩;have U:=hid A;have O:=hid t;have z:=hid (PR.lit0 w1);have y:=hid (zO w1 (Uj #[] 9));clear A t;go_wp2_with fail;go_loopw [4,5] (fun v i wr=>∃j:Nat,j<=m/\ i=Ud (j:Int)/\ Hid (PR wr w1.heap.size v (JG j ⟨#[100]⟩))/\ Hid (Bl w1 wr)) (fun _ i _=>m - (intOf i).toNat);case atStart=>exact⟨0,Ux _,rfl,z,y⟩
 case round=>
  clear z y;obtain⟨j,K,rfl,u,q⟩:=hrel;by_cases V:j<m
  ·obtain⟨v',w',o,s,b⟩:=QfO w1.heap.size wr u4 _ ⟨#[100]⟩ u q.size oS;have Q:Hid (PR w' w1.heap.size v' (JG (j+1) ⟨#[100]⟩)):=hid (by rw [JI];exact s);have E:=hid (q.trans b);clear s b u q;go_wp2_with (at_builtin;refine QbS rfl _ _ _ rfl o (by rfl) (by rfl) rfl ?_;clear o);go_roundw;case rel=>exact⟨j+1,V,oN,Q,E⟩
   case measure=>exact oE
  ·obtain rfl:j=m:=oM;have M:=hid (PaP.fin hB U O u q);clear u q;go_wp2_with fail;go_ret;exact M
theorem Qqj (f:Nat ->Int)(n x k:Nat)(hk:rk f n x=k)(h1:¬248<=k)(h2:244<=k):∃p,PaP f n x p:=by
 obtain⟨r,o⟩:=zE (k%4:Nat);have m:(([⟨#[97]⟩,⟨#[]⟩,⟨#[98]⟩]:List ByteArray).take r).length=r:=by rw [List.length_take];show min r 3=r;omega
 refine⟨([⟨#[97]⟩,⟨#[]⟩,⟨#[98]⟩]:List ByteArray).take r,oM,fun B rb w hB h=> ?_⟩;rw [m];have u:=hid (QaJ B rb f n x w h);rw [hk] at u;have b:¬(252:Int)<=(k:Int):=oM;have s:¬(248:Int)<=(k:Int):=oM;have A:(244:Int)<=(k:Int):=oM;have E:(k:Int)%4=(r:Int):=oM;have M:r<4:=oM;have q:=hid m;clear h hk o m;go_enter func60,ntmps60;go_wp2_with fail;refine u.mono ?_;rintro e w1 ⟨rfl,z,y⟩;have g:=hid z;have j:=hid y;clear z y;go_wp2_with fail;go_ret;have v:Bl w1 (w1.alloc (Uj #[Um ⟨#[97]⟩,Um ⟨#[]⟩,Um ⟨#[98]⟩] 9)):=zO _ _;refine⟨_,3,rfl,⟨by rw [q.out];omega,fun w' z1 z2=> ?_⟩,g.bw (v.mono (oH j.size)),Qbj j v⟩;have e:=z2 w1.heap.size j.size oP;refine .inr ⟨w1.heap.size,0,rfl,by simp at z1;omega,fun i hi=> ?_⟩;rw [US (a:=(Ua w1.heap.size (0+i))) e,VS];rw [q.out] at hi;have t:i<3:=oM;match i,hi,t with
 | 0,hi,_=>simp [gS,UA,hi]
 | 1,hi,_=>simp [gS,UA,hi]
 | 2,hi,_=>simp [gS,UA,hi]
theorem Qqk (f:Nat ->Int)(n x k:Nat)(hk:rk f n x=k)(h1:¬244<=k):∃p,PaP f n x p:=by
 obtain⟨j,G⟩:=zE (k%3:Nat);obtain⟨o,V⟩:=zE (j+1:Nat);obtain⟨q,Z⟩:=zE (k/3%3:Nat);obtain⟨y,H⟩:=zE (k/9%2:Nat);obtain⟨i,Y⟩:=zE (y+1:Nat);obtain⟨A,I⟩:=zE (k/18%3:Nat);have N:¬(252:Int)<=(k:Int):=oM;have X:¬(248:Int)<=(k:Int):=oM;have C:¬(244:Int)<=(k:Int):=oM;have D:(k:Int)%3=(j:Int):=oM;have F:(k:Int)/3%3=(q:Int):=oM;have P:(k:Int)/9%2=(y:Int):=oM;have R:(k:Int)/18%3=(A:Int):=oM;have S:IntKind.i64.wrap ((j:Int)+1)=(o:Int):=by rw [show (j:Int)+1=(o:Int) by omega];exact Qat _ oM oM
 have T:IntKind.i64.wrap ((y:Int)+1)=(i:Int):=by rw [show (y:Int)+1=(i:Int) by omega];exact Qat _ oM oM
 have l1:j<3:=oM;have l2:y<2:=oM;have l3:A<3:=oM;have l4:q<3:=oM;have J:o<=3/\ j<=o:=oM;have K:i<=2/\ y<=i:=oM;obtain⟨m,W⟩:=zE ((⟨#[97,98,99]⟩:ByteArray).extract j o);obtain⟨b,Ha⟩:=zE ((⟨#[97,98]⟩:ByteArray).extract y i);obtain⟨Q,Hb⟩:=zE ((⟨#[97,255,47]⟩:ByteArray).extract A 3);clear G V Z H Y I;obtain⟨Hc,Hd⟩:=J;obtain⟨He,Hf⟩:=K;by_cases q0:q=0
 ·have L:¬(0:Int)<(q:Int):=oM;have U:¬(1:Int)<(q:Int):=oM;refine⟨[m],oP,fun B rb w hB h=> ?_⟩;have r:=hid (QaJ B rb f n x w h);rw [hk] at r;clear h hk;go_enter func60,ntmps60;go_wp2_with fail;refine r.mono ?_;rintro e w1 ⟨rfl,j,u⟩;have z:=hid (PaP.fin hB j u (PR.lit1 w1 m) (zO _ _));clear j u;go_wp2_with fail;go_ret;exact z
 ·have L:(0:Int)<(q:Int):=oM;by_cases q1:q=1
  ·have U:¬(1:Int)<(q:Int):=oM;refine⟨[m]++[b],oP,fun B rb w hB h=> ?_⟩;have r:=hid (QaJ B rb f n x w h);rw [hk] at r;clear h hk;go_enter func60,ntmps60;go_wp2_with fail;refine r.mono ?_;rintro e w1 ⟨rfl,j,u⟩;obtain⟨v',w',v,t,g⟩:=QfO w1.heap.size (w1.alloc (Uj #[Um m] 9)) _ _ b (PR.lit1 w1 m) oP oP;rw [show (w1.alloc (Uj #[Um m] 9)).heap.size=w1.heap.size+1 from by simp] at v;have z:=hid (PaP.fin hB j u t ((zO _ _).trans g));clear j u t g;go_wp2_with (at_builtin;refine QbS rfl _ _ _ rfl v (by rfl) (by rfl) rfl ?_;clear v);go_ret;exact z
  ·have U:(1:Int)<(q:Int):=oM;refine⟨[m]++[b]++[Q],oP,fun B rb w hB h=> ?_⟩;have r:=hid (QaJ B rb f n x w h);rw [hk] at r;clear h hk;go_enter func60,ntmps60;go_wp2_with fail;refine r.mono ?_;rintro e w1 ⟨rfl,j,u⟩;obtain⟨v',w',v,t,g⟩:=QfO w1.heap.size (w1.alloc (Uj #[Um m] 9)) _ _ b (PR.lit1 w1 m) oP oP;rw [show (w1.alloc (Uj #[Um m] 9)).heap.size=w1.heap.size+1 from by simp] at v;have s:Bl w1 w':=(zO _ _).trans g;obtain⟨v2,w2,E,O,M⟩:=QfO w1.heap.size w' _ _ Q t s.size oP;have z:=hid (PaP.fin hB j u O (s.trans M));clear j u t g s O M;go_wp2_with (at_builtin;first|(refine QbS rfl _ _ _ rfl v (by rfl) (by rfl) rfl ?_;clear v)|(refine QbS rfl _ _ _ rfl E (by rfl) (by rfl) rfl ?_;clear E));go_ret;exact z
theorem Qql (f:Nat ->Int)(n x:Nat):∃p,PaP f n x p:=by
 by_cases j:252<=rk f n x
 ·exact Qqh f n x _ rfl j
 ·by_cases k:248<=rk f n x
  ·exact Qqi f n x _ rfl j k
  ·by_cases m:244<=rk f n x
   ·exact Qqj f n x _ rfl k m
   ·exact Qqk f n x _ rfl m
theorem Qhg (id:Int)(hi:0<=id/\ id<8)(w:Ur):Cl 33 #[Ud id] w fun e w'=>∃R:Rq,e=Ui (Ul #[.agg R.vs,Un true])/\ CqP id w w' R/\ (R.S=Sx.mt/\ R.D=Sx.mt/\ R.c=0/\ R.c'=0):=by
 obtain⟨P,q⟩:∃P:Ending ->Ur ->Prop,(fun e w'=>∃R:Rq,e=Ui (Ul #[.agg R.vs,Un true])/\ CqP id w w' R/\ (R.S=Sx.mt/\ R.D=Sx.mt/\ R.c=0/\ R.c'=0))=P:=⟨_,rfl⟩;rw [q];have E:=hid q;obtain⟨W,j⟩:=zE (w.alloc (Uj #[Ud 0,Ue,Ue,Ue,Ue] 30));have z:Bl w W:=j▸zO _ _;have u:Bx5 W w.heap.size (Ud 0) Ue Ue Ue Ue:=j▸Bx5.new _ _ _ _ _ _ _;have r:=hid u;have b:=hid z;have A:=hid hi;have Y:decide (id<0)=false:=oS;have Z:decide (8<=id)=false:=oS;clear z u q hi;go_enter func33,ntmps33;go_wp2_with fail;try rw [j]
 clear j;refine(QdC _).mono ?_;rintro e w1 ⟨g,k,rfl,h⟩;have p:=hid h;clear h;go_wp2_with fail;refine(QdC _).mono ?_;rintro e H ⟨o,i,rfl,t⟩;have m:=Qaa p t;have y:=r.bw m r.lt;obtain⟨M,O,Q,U,V,G⟩:=y.p5;have s:=hid (Qaa b m);clear t m y;go_wp2_with fail;refine zF (v:=Ul #[Uo #[Ud id,Uf (Uc g) 0 0,Uf (Uc k) 0 0,Uf (Uc o) 0 0,Uf (Uc i) 0 0],Un true]) (by simp [results,results33,go_sem,M,O,Q,U,V]) ?_;rw [<- E.out];exact⟨⟨id,Sx.mt,Sx.mt,Uq (Ub g),0,Uq (Ub k),0,Uq (Ub o),0,Uq (Ub i),0⟩,rfl,⟨rfl,⟨SNc.mtC _ _ _ _,SNc.mtC _ _ _ _⟩,Qlh A Qj8 Qj8,Qgd s zL _ _ _ _ _⟩,rfl,rfl,rfl,rfl⟩
theorem Bx3.sm3{b:Nat}(h:Bx3 w b v0 v1 v2)(e:w'.heap[b]? =w.heap[b]?)(hs:w.heap.size<=w'.heap.size):Bx3 w' b v0 v1 v2:=
 ⟨(US (a:=(Ub b)) e).trans h.c0,(US (a:=(Ua b 1)) e).trans h.c1,(US (a:=(Ua b 2)) e).trans h.c2,fun i=>(UT (a:=(Ua b i)) e).trans (h.f i),Ut h.lt hs⟩
def OqP (w:Ur)(B rb:Nat)(f:Nat ->Int)(n:Nat)(e:Ending)(w':Ur):Prop:=∃(K:Int) (pa:Option Us) (pc:Nat) (p:List ByteArray) (v:ByteArray) (x':Nat),e=Ui (Uo #[Ud K,Uf pa p.length pc,Um v])/\ (K=1 \/(2<=K/\ K<=4)/\ v=⟨#[]⟩)/\ (p.length<=9/\ v.size<=201)/\ PtN w' w.heap.size pa pc p/\ RdJ w' B rb f n x'/\ w.grownBy w' (Uq rb)
theorem Qfr (B rb:Nat)(f:Nat ->Int)(n x:Nat)(w:Ur)(hB:B<=w.heap.size)(h:RdJ w B rb f n x):Cl 36 #[Uk (Uc rb)] w fun e w'=>OqP w B rb f n e w':=by
 obtain⟨P,hP⟩:=zE (OqP w B rb f n);rw [hP];have HP:=hid hP;obtain⟨p,Hu,Ha⟩:=Qql f n (rx n x);obtain⟨v,hv,Hd⟩:=Qpy f n (rx n (rx n x));have hk:=Qhl h;obtain⟨k,Hg⟩:=zE (rk f n x);rw [Hg] at hk;obtain⟨W,L⟩:=zE (w.alloc (Uj #[Ud 0,Ue,Um ⟨#[]⟩] 76));have b0:Bl w W:=L▸zO _ _;have zW:W.heap.size=w.heap.size+1:=L▸oP;have E:Bx3 W w.heap.size (Ud 0) Ue (Um ⟨#[]⟩):=L▸Bx3.made _ _ _ _ _;have Hv:=h.lt;have HN:=hid (QaJ B rb f n x W (h.bw (b0.mono hB)));rw [Hg] at HN;have Hj:=hid Ha;have Hq:=hid Hd;have HR:=hid E;have N:=hid b0;have G:=hid (And.intro hB Hv);have z:=hid zW;clear b0 E hP h Hg Ha Hd zW;go_enter func36,ntmps36;go_wp2_with fail;try rw [L]
 clear L;refine HN.mono ?_;rintro e w1 ⟨rfl,r1,g1⟩;have Hk:=hid (Hj B rb w1 (by have:=g1.size;have:=z.out;have:=G.out;omega) r1);have Hi:=hid g1;clear r1 g1 HN;go_wp2_with fail;refine Hk.mono ?_;rintro e j ⟨u,pc,rfl,pt,r2,g2⟩;have Hn:=hid pt;have J:=hid (QaS Hi g2);have Hl:=hid r2;have A:Hid (W.heap.size<=w1.heap.size/\ w1.heap.size<=j.heap.size):=hid ⟨Hi.size,g2.size⟩;clear pt r2 g2 Hk Hj;have Hc:Hid (∀(U V Z:Ur) (K:Int) (s:ByteArray) (x':Nat),Bl j U ->U.grownBy V (Uq rb) ->RdJ V B rb f n x' ->Z.os=V.os ->Z.tape=V.tape ->Z.output=V.output ->Z.heap.size=V.heap.size ->(∀q,q≠w.heap.size ->q≠j.heap.size ->Z.heap[q]? =V.heap[q]?) ->(K=1 \/(2<=K/\ K<=4)/\ s=⟨#[]⟩) ->s.size<=201 ->P (Ui (Uo #[Ud K,Uf u p.length pc,Um s])) Z):=hid (fun U V Z K s x' y gV rV z1 z2 z3 z4 o hK hs=>by
  have hb:=G.out;have g:=z.out;have C:=A.out;have h3:=y.size;have h4:=gV.size;rw [<- HP.out];refine⟨K,u,pc,p,s,x',rfl,hK,⟨Hu,hs⟩,?_,rV.bw ⟨z1,z2,z3,oM,fun q h=>o q oM oM⟩,⟨?_,?_,?_,oM,fun q h I=> ?_⟩⟩
  ·exact Hn.move oM oM (fun q h5 h6=>(o q oM oM).trans ((gV.block q oM (fun e=>oI e)).trans (y.block q h6)))
  ·exact z1.trans (gV.os.trans (y.os.trans (J.os.trans N.os)))
  ·exact z2.trans (gV.tape.trans (y.tape.trans (J.tape.trans N.tape)))
  ·exact z3.trans (gV.output.trans (y.output.trans (J.output.trans N.output)))
  ·exact(o q oM oM).trans ((gV.block q oM I).trans ((y.block q oM).trans ((J.block q oM I).trans (N.block q h)))))
 obtain⟨r,Hx⟩:=zE (k%4:Nat);have e4:(k:Int)%4=(r:Int):=oM;have h4:r<4:=oM;go_upto_region 3 with fail;obtain⟨U,D⟩:=zE (j.alloc (Uj #[Ud (1+(r:Int)),Uf u p.length pc,Um ⟨#[]⟩] 76));have y:Bl j U:=D▸zO _ _;have OU:Bx3 U j.heap.size (Ud (1+(r:Int))) (Uf u p.length pc) (Um ⟨#[]⟩):=D▸Bx3.made _ _ _ _ _;have He:=hid OU;have H:=hid y;have Hp:=hid (Hl.bw (y.mono (by have:=A.out;have:=z.out;have:=G.out;omega)));have Hb:Hid (Bx3 U w.heap.size (Ud 0) Ue (Um ⟨#[]⟩)):=hid (by
  have e:=(y.block w.heap.size (oJ A z)).trans (J.block w.heap.size (oH z) (fun e=>by injection e with e;have:=G.out;omega));have E:=HR.out;exact⟨(US (a:=(Ub w.heap.size)) e).trans E.c0,(US (a:=(Ua w.heap.size 1)) e).trans E.c1,(US (a:=(Ua w.heap.size 2)) e).trans E.c2,fun i=>(UT (a:=(Ua w.heap.size i)) e).trans (E.f i),by have:=A.out;have:=z.out;have:=y.size;omega⟩)
 have I:j.heap.size≠w.heap.size:=oJ A z;have Hy:rb≠j.heap.size/\ rb≠w.heap.size:=by have:=A.out;have:=z.out;have:=G.out;omega
 try rw [D]
 clear D y OU;go_cut [20] from 13 to 20 (fun b wx=>Ck b (k%8<4/\ 0<r)/\ wx=U);case first=>
  by_cases h8:k%8<4
  ·have d8:decide ((k:Int)%8<4)=true:=oS;by_cases h0:0<r
   ·have d0:decide ((0:Int)<(r:Int))=true:=oS;go_wp2_with fail;go_meet;exact⟨Ck.t oM,rfl⟩
   ·have d0:decide ((0:Int)<(r:Int))=false:=oS;have d1:decide (0<r)=false:=oS;have d2:¬(0:Int)<(r:Int):=oM;go_wp2_with fail;go_meet;exact⟨Ck.f oM,rfl⟩
  ·have d8:decide ((k:Int)%8<4)=false:=oS;have d9:¬(k:Int)%8<4:=oM;go_wp2_with fail;go_meet;exact⟨Ck.f oM,rfl⟩
 case rest=>
 obtain⟨Ht,rfl⟩:=hcut;have Hh:Hid (∀(U1:Ur) (K:Int),Bx3 U1 j.heap.size (Ud K) (Uf u p.length pc) (Um ⟨#[]⟩) ->(∀q,q≠j.heap.size ->U1.heap[q]? =wc.heap[q]?) ->U1.heap.size=wc.heap.size ->U1.os=wc.os ->U1.tape=wc.tape ->U1.output=wc.output ->Cl 61 #[Uk (Uc rb)] U1 fun e m=>e=Ui (Um v)/\ Bx3 m j.heap.size (Ud K) (Uf u p.length pc) (Um ⟨#[]⟩)/\ Bx3 m w.heap.size (Ud 0) Ue (Um ⟨#[]⟩)/\ Hid (∀Z:Ur,Z.os=m.os ->Z.tape=m.tape ->Z.output=m.output ->Z.heap.size=m.heap.size ->(∀q,q≠w.heap.size ->q≠j.heap.size ->Z.heap[q]? =m.heap[q]?) ->K=1 ->P (Ui (Uo #[Ud K,Uf u p.length pc,Um v])) Z)):=hid (fun U1 K hx o hz z1 z2 z3=>by
  have hb:=G.out;have g:=z.out;have C:=A.out;have h3:=H.size;have Hm:Bl j U1:=⟨z1.trans H.os,z2.trans H.tape,z3.trans H.output,oM,fun q h=>(o q oM).trans (H.block q h)⟩;refine(Hq B rb U1 oM (Hl.bw (Hm.mono oM))).mono ?_;rintro e m ⟨rfl,Hw,g4⟩;have Hs:Bx3 U1 w.heap.size (Ud 0) Ue (Um ⟨#[]⟩):=Hb.sm3 (o _ (Ne.symm I)) oM;exact⟨rfl,hx.gr g4 (fun k e=>oI e),Hs.gr g4 (fun k e=>oI e),hid fun Z F R S y4 y5 hK=>Hc.out U1 m Z K v _ Hm g4 Hw F R S y4 y5 (.inl hK) hv⟩)
 have X:Hid (∀(V:Ur) (a0 a1 a2 b2:Value),((((V.setCell (Ua j.heap.size 2) b2).setCell (Ub w.heap.size) a0).setCell (Ua w.heap.size 1) a1).setCell (Ua w.heap.size 2) a2).heap.size=V.heap.size/\∀q,q≠w.heap.size ->q≠j.heap.size ->((((V.setCell (Ua j.heap.size 2) b2).setCell (Ub w.heap.size) a0).setCell (Ua w.heap.size 1) a1).setCell (Ua w.heap.size 2) a2).heap[q]? =V.heap[q]?):=hid (fun V a0 a1 a2 b2=>⟨by simp [UL],fun q g C=>by
  rw [zH _ _ _ _ g,zH _ _ _ _ g,zH _ _ _ _ g,zH _ _ _ _ C]⟩)
 obtain⟨o0,o1,o2,of⟩:=He.p3;obtain⟨rfl,o⟩|⟨rfl,o⟩:=Ht
 ·go_wp2_with fail;refine(Hh (wc.setCell (Ub j.heap.size) (Ud 1)) 1 (He.set0 _) (fun q h=>zH _ _ _ _ h) (by simp [UL]) rfl rfl rfl).mono ?_;rintro e m ⟨rfl,M,O,T⟩;obtain⟨p1,p2,Y,pf⟩:=M.p3;obtain⟨F,R,S,yf⟩:=O.p3;have Hr:=hid M;have Hf:=hid O;clear M O o0 o1 o2 of;go_wp2_with fail;have Q:=((Hf.sm3 (zH m (Ua j.heap.size 2) (Um v) w.heap.size (Ne.symm I)) (by simp [UL])).set (Ud 1) (Uf u p.length pc) (Um v));refine zF (v:=Uo #[Ud 1,Uf u p.length pc,Um v]) (by simp [results,results36,go_sem,Q.c0,Q.c1,Q.c2]) ?_;exact T _ rfl rfl rfl (X m _ _ _ _).1 (X m _ _ _ _).2 oP
 ·by_cases h0:r=0
  ·subst h0;go_wp2_with fail;refine(Hh wc 1 (oU He) (fun q h=>rfl) rfl rfl rfl rfl).mono ?_;rintro e m ⟨rfl,M,O,T⟩;obtain⟨p1,p2,Y,pf⟩:=M.p3;obtain⟨F,R,S,yf⟩:=O.p3;have Hr:=hid M;have Hf:=hid O;clear M O o0 o1 o2 of;go_wp2_with fail;have Q:=((Hf.sm3 (zH m (Ua j.heap.size 2) (Um v) w.heap.size (Ne.symm I)) (by simp [UL])).set (Ud 1) (Uf u p.length pc) (Um v));refine zF (v:=Uo #[Ud 1,Uf u p.length pc,Um v]) (by simp [results,results36,go_sem,Q.c0,Q.c1,Q.c2]) ?_;exact T _ rfl rfl rfl (X m _ _ _ _).1 (X m _ _ _ _).2 oP
  ·have d1:((1+(r:Int))==1)=false:=oS;obtain⟨F,R,S,yf⟩:=Hb.p3;have Ho:Hid (2<=1+(r:Int)/\ 1+(r:Int)<=4):=hid oM;go_wp2_with fail;have Q:=Hb.set (Ud (1+(r:Int))) (Uf u p.length pc) (Um ⟨#[]⟩);refine zF (v:=Uo #[Ud (1+(r:Int)),Uf u p.length pc,Um ⟨#[]⟩]) (by simp [results,results36,go_sem,Q.c0,Q.c1,Q.c2]) ?_;exact Hc wc wc _ _ ⟨#[]⟩ _ H ⟨rfl,rfl,rfl,Uv _,fun _ _ _=>rfl⟩ Hp rfl rfl rfl (by simp [UL]) (fun q g C=>by
    rw [zH _ _ _ _ g,zH _ _ _ _ g,zH _ _ _ _ g]) (.inr ⟨Ho,rfl⟩) oD
def HsP (rb:Nat)(w:Ur)(e:Ending)(w':Ur):Prop:=∃b c f,e=Ui (.map (Uq b))/\ HdM w' b c f/\ (f 1=Uq (.func (.func 77) #[Uk (Uc rb)] #[])/\ f 2=Uq (.func (.func 78) #[Uk (Uc rb)] #[])/\ f 3=Uq (.func (.func 78) #[Uk (Uc rb)] #[])/\∀k,k≠1 ->k≠2 ->k≠3 ->f k=Up)/\ Bl w w'
theorem Qjl (rb:Nat)(w:Ur):Cl 46 #[Uk (Uc rb)] w fun e w'=>HsP rb w e w':=by
 obtain⟨W,j⟩:=zE (w.alloc (.map #[] 0));have z:HdM W w.heap.size 0 (fun _=>Up):=j▸HdM.made w;have h:Bl w W:=j▸zO _ _;have u:=hid z;have m:=hid h;have E:=@run_makeMap prog;clear z h;go_enter func46,ntmps46;go_wp2_with fail;try rw [j]
 clear j E;refine Qhz (k:=1) u oD oD ?_;intro w1 i g;have v:=hid i;have q:=hid (m.grown g m.size (fun k e=>oI e));clear i g u m;go_wp2_with fail;refine Qhz (k:=2) v oD oD ?_;intro M b t;have y:=hid b;have r:=hid (q.grown t q.size (fun k e=>oI e));clear b t v q;go_wp2_with fail;refine Qhz (k:=3) y oD oD ?_;intro O p o;have A:=hid p;have s:=hid (r.grown o r.size (fun k e=>oI e));clear p o y r;go_wp2_with fail;go_ret;exact⟨_,_,_,rfl,A,⟨by simp [QbX],by simp [QbX],by simp [QbX],fun k h1 h2 h3=>by simp [QbX,h1,h2,h3]⟩,s⟩
structure ErH (w:Ur):Prop where
 e4:∃t u,w.cell? (Ub 6)=Uq (.iface t u)
 gY:w.cell? (Ub 2)=Uq (.iface 190 (Uo #[Uk (Uq (Ua 19 62))]))
theorem ErH.bw(h:ErH w)(hb:Bl w w'):ErH w':=by
 obtain⟨t,u,e⟩:=h.e4;exact⟨⟨t,u,(hb.cell (p:=(Ub 6)) (block_lt_of_cell e)).trans e⟩,(hb.cell (p:=(Ub 2)) (block_lt_of_cell h.gY)).trans h.gY⟩
theorem QgR {W:Ur}(h:Bl w W)(g:W.grownBy w' row):w.grownBy w' row:=
 ⟨g.os.trans h.os,g.tape.trans h.tape,g.output.trans h.output,Uw h.size g.size,fun k hk hne=>(g.block k (Ut hk h.size) hne).trans (h.block k hk)⟩
inductive HnQ (S:Sx) (f:Nat ->Int) (n:Nat):Int ->Sx ->Option (List Int) ->Int ->Prop where
 | hello:n=8 ->HnQ S f n 1 S (heR S f) 0
 | whole (Y:Sx):Enc Y f n ->hjB S Y=true ->HnQ S f n 2 (jnZ S Y) Up 0
 | full (Y:Sx):Enc Y f n ->hjB S Y=false ->HnQ S f n 2 S Up 3
def HdP (rb:Nat)(id:Int)(B:Nat)(v3 v4:Value)(X:Sx)(R:Option (List Int))(C:Int)(w:Ur)(e:Ending)(w':Ur):Prop:=
 ∃fv er a x c d lo hi,e=Ui (Ul #[fv,er])/\ ErC C er w'/\ Bx5 w' rb (Ud id) (Uf a X.l.length c) (Uf x X.n d) v3 v4/\ SOw w' lo hi a x d X/\ (B<=lo/\ (hi<=rb \/rb<lo))/\ RpP w' w.heap.size fv R/\ w.grownBy w' (Uq rb)
theorem QmN {hi:Nat}{id C:Int}{x:Option Us}{R:Option (List Int)}(hr:rpB id S D=true)(hm:SmI S)(hm':SmI D)(hx:Bx5 w rb (Ud id) (Uf a S.l.length c) (Uf x S.n d) (Uf a' D.l.length c') (Uf x' D.n d'))(s1:SOw w lo hi a x d S)(hB:B<=lo/\ hi<=rb)(hBw:B<=w.heap.size)(s2:SAt w a' x' D)(hq:HnQ S f n K X R C)(hf:Byt f)(hs:Seg w pa n f)(hnc:n<=pc)(hcc:pc<=9223372036854775807)(hab:∀y,pa=Uq y ->y.block<w.heap.size)(hG:ErH w):
  Cl 27 #[Uk (Uc rb),Uo #[Ud K,Uf pa n pc]] w fun e w'=>HdP rb id B (Uf a' D.l.length c') (Uf x' D.n d') X R C w e w':=by
 obtain⟨P,o⟩:=zE (HdP rb id B (Uf a' D.l.length c') (Uf x' D.n d') X R C w);rw [o];have HP:=hid o;obtain⟨W,Z⟩:=zE (w.alloc (Uj #[Ud K,Uf pa n pc] 35));have r:Bl w W:=Z▸zO _ _;have F0:Bx2 W w.heap.size (Ud K) (Uf pa n pc):=Z▸Bx2.made _ _ _ _;have R0:=hx.bw r hx.lt;have L:=hid (QcW id a x a' x' c d c' d' S D W hm.2 hm'.2 hm.1 hm'.1 (s1.at.bw r) (s2.bw r));rw [hr] at L;have M:=hid F0;have HB:=hid r;have I:Hid (K=1 ->∀u,Bl W u ->Cl 77 #[Uk (Uc rb),Uf pa n pc] u fun e w'=>∃q m,e=Ui (Ul #[q,m])/\ P (Ui (Ul #[q,m])) w'):=hid (fun i u hb=>by
  cases hq with
  | hello h8=>
   subst h8;have j:=Qaa r hb;refine(Qkz hr hm hm' (hx.bw j hx.lt) (s1.at.bw j) (s2.bw j) hf (hs.bw j)).mono ?_;rintro e w' ⟨q,rfl,k,A⟩;have z:=Qaa j A;refine⟨q,_,rfl,?_⟩;rw [<- o];exact⟨q,_,a,x,c,d,lo,hi,rfl,.inl ⟨rfl,rfl⟩,hx.bw z hx.lt,s1.bw z,⟨hB.1,.inl hB.2⟩,k.low j.size,QdY z _⟩
  | whole=>cases i
  | full=>cases i)
 have H:Hid (K=2 ->∀u,Bl W u ->Cl 78 #[Uk (Uc rb),Uf pa n pc] u fun e w'=>∃q m,e=Ui (Ul #[q,m])/\ P (Ui (Ul #[q,m])) w'):=hid (fun i u hb=>by
  have j:=Qaa r hb;obtain⟨t,v,g⟩:=(hG.bw j).e4;have go:∀Y,Enc Y f n ->Cl 78 #[Uk (Uc rb),Uf pa n pc] u fun e w'=>AbP rb id (Uf a' D.l.length c') (Uf x' D.n d') S Y u e w':=fun Y hE=>Qmq hm (hx.bw j hx.lt) (s1.at.bw j) hE hf (hs.bw j) hnc hcc (fun y hy=>Ut (hab y hy) j.size) g;have Hd:=hx.lt;have He:=j.size;cases hq with
  | hello=>cases i
  | whole Y hE hj=>
   refine(go Y hE).mono ?_;rintro e w' ⟨hg,⟨_,rfl,ja,jc,jx,jd,lj,k,A,h⟩|⟨s,_⟩⟩
   ·refine⟨_,_,rfl,?_⟩;rw [<- o];exact⟨_,_,ja,jx,jc,jd,lj,_,rfl,.inl ⟨rfl,rfl⟩,k,A,⟨oM,.inr oM⟩,rfl,QgR j hg⟩
   ·rw [hj] at s;cases s
  | full Y hE hj=>
   refine(go Y hE).mono ?_;rintro e w' ⟨hg,⟨s,_⟩|⟨_,m,rfl,k,A⟩⟩
   ·rw [hj] at s;cases s
   ·have z:=Qaa j A;refine⟨_,m,rfl,?_⟩;rw [<- o];exact⟨_,m,a,x,c,d,lo,hi,rfl,k,hx.bw z hx.lt,s1.bw z,⟨hB.1,.inl hB.2⟩,rfl,QdY z _⟩)
 have Ha:K=1 \/K=2:=by cases hq with|hello=>exact .inl rfl|whole=>exact .inr rfl|full=>exact .inr rfl
 have i:(Lit.int Uh K).wf=true:=by rcases Ha with rfl|rfl<;>decide
 obtain⟨k0,k1,k2,k3,k4⟩:=R0.q5;clear r F0 R0 hx hs hab hG hq hm hm' hf s1 s2 hr o;go_enter func27,ntmps27;go_wp2_with fail;try rw [Z]
 clear Z;refine L.mono ?_;rintro e w1 ⟨rfl,b1⟩;have H1:=hid b1;clear b1 L k0 k1 k2 k3 k4;have U:Hid (∀w',Bl w1 w' ->w'.cell? (Ub w.heap.size)=Uq (Ud K)):=hid (fun w' hb=>(M.bw (Qaa H1 hb) M.lt).c0);go_wp2_with fail;refine zS U (fun qh=> ?_);refine tZ 0 18 ?_;refine tZ 2 20 ?_;refine tZ 3 21 ?_;refine cZ 1 ?_;intro K E;go_simp;refine(Qjl rb _).mono ?_;rintro e T ⟨b,cc,ff,rfl,hM,Hb,b2⟩;have V:Bl w1 T:=Qaa zI.drew b2;have Hc:=hM.look i;refine E.out _ _ (U _ V) (fun qh=> ?_);clear E K;try simp only [zP]
 obtain⟨lv,F⟩:=zE (hdV (ff K));obtain⟨lb,N⟩:=zE ((ff K).isSome);rw [F,N] at Hc;refine cZ 4 ?_;intro K E;go_simp;refine E.out _ _ (U _ V) (fun qh=> ?_);clear E K;try simp only [zP]
 refine tZ 5 17 ?_;refine tZ 6 23 ?_;refine tZ 7 24 ?_;refine tZ 8 6 ?_;refine tZ 9 7 ?_;refine zD ?_;have G:=hid (Qaa H1 V);have Q:=hid (And.intro F N);have O:=hid Hb;have F2:=M.bw G M.lt;have f1:=F2.c1;clear qh V Hc F N Hb hM b2 U F2;rcases Ha with k|k
 ·obtain⟨rfl,rfl⟩:lv=.func (.func 77) #[Uk (Uc rb)] #[]/\ lb=true:=by
   have e:=Q.out;rw [k,O.1] at e;exact⟨e.1.symm,e.2.symm⟩
  have p:=hid (I k T G);clear I H Q O;go_wp2_with fail;refine p.mono ?_;rintro e w3 ⟨q,m,rfl,h⟩;have J:=hid h;clear h f1 p;go_wp2_with fail;exact J
 ·obtain⟨rfl,rfl⟩:lv=.func (.func 78) #[Uk (Uc rb)] #[]/\ lb=true:=by
   have e:=Q.out;rw [k,O.2.1] at e;exact⟨e.1.symm,e.2.symm⟩
  have p:=hid (H k T G);clear I H Q O;go_wp2_with fail;refine p.mono ?_;rintro e w3 ⟨q,m,rfl,h⟩;have J:=hid h;clear h f1 p;go_wp2_with fail;exact J
def HnI (id:Int)(X:Sx)(R:Option (List Int))(C:Int)(w:Ur)(e:Ending)(w':Ur):Prop:=∃a c x d a' m3 c' x' m4 d' fv,e=Ui (Ul #[Uo #[Ud id,Uf a X.l.length c,Uf x X.n d,Uf a' m3 c',Uf x' m4 d'],fv,Ud C])/\ (∀u:Ur,w'.heap.size<=u.heap.size ->(∀q,w.heap.size<=q ->q<w'.heap.size ->u.heap[q]? =w'.heap[q]?) ->SCt u a x X)/\ RpP w' w.heap.size fv R/\ Bl w w'
theorem Qje (V:Ur)(h:q≠r)(v0 v1 v2 v3 v4:Value):(((((V.setCell (Ub r) v0).setCell (Ua r 1) v1).setCell (Ua r 2) v2).setCell (Ua r 3) v3).setCell (Ua r 4) v4).heap[q]? =V.heap[q]? :=by
 rw [zH _ _ _ _ h,zH _ _ _ _ h,zH _ _ _ _ h,zH _ _ _ _ h,zH _ _ _ _ h]
theorem Qit(h:Bl w V)(hr:w.heap.size<=r)(v0 v1 v2 v3 v4:Value):Bl w (((((V.setCell (Ub r) v0).setCell (Ua r 1) v1).setCell (Ua r 2) v2).setCell (Ua r 3) v3).setCell (Ua r 4) v4):=
 ((((h.setCell (p:=(Ub r)) hr _).setCell (p:=(Ua r 1)) hr _).setCell (p:=(Ua r 2)) hr _).setCell (p:=(Ua r 3)) hr _).setCell (p:=(Ua r 4)) hr _
theorem Bx5.sm {wk wk':Ur}{b:Nat}(h:Bx5 wk b v0 v1 v2 v3 v4)(e:wk'.heap[b]? =wk.heap[b]?)(hs:wk.heap.size<=wk'.heap.size):Bx5 wk' b v0 v1 v2 v3 v4:=
 ⟨(US (a:=(Ub b)) e).trans h.c0,(US (a:=(Ua b 1)) e).trans h.c1,(US (a:=(Ua b 2)) e).trans h.c2,(US (a:=(Ua b 3)) e).trans h.c3,(US (a:=(Ua b 4)) e).trans h.c4,fun i=>(UT (a:=(Ua b i)) e).trans (h.f i),Ut h.lt hs⟩
theorem QeN{id C:Int}{x:Option Us}{R:Option (List Int)}(hr:rpB id S D=true)(hm:SmI S)(hm':SmI D)(i:SAt w a x S)(E:SAt w a' x' D)(hq:HnQ S f n K X R C)(hf:Byt f)(hs:Seg w pa n f)(hnc:n<=pc)(hcc:pc<=9223372036854775807)(hab:∀y,pa=Uq y ->y.block<w.heap.size)(hG:ErH w):
  Cl 9 #[Uo #[Ud id,Uf a S.l.length c,Uf x S.n d,Uf a' D.l.length c',Uf x' D.n d'],Uo #[Ud K,Uf pa n pc]] w fun e w'=>HnI id X R C w e w':=by
 obtain⟨W,t⟩:=zE (((w.alloc (Uj #[Ud id,Uf a S.l.length c,Uf x S.n d,Uf a' D.l.length c',Uf x' D.n d'] 30)).alloc (Uj #[Ud K,Uf pa n pc] 35)).alloc (Uj #[Ud 0,Ue,Ue,Ue,Ue] 30));have g:Bl w W:=t▸(Qad _ _ _).alloc oS _;have zW:W.heap.size=w.heap.size+3:=t▸oP;have T:Bx5 W w.heap.size (Ud id) (Uf a S.l.length c) (Uf x S.n d) (Uf a' D.l.length c') (Uf x' D.n d'):=t▸((Bx5.new w _ _ _ _ _ _).up _).up _;have O0:Bx2 W (w.heap.size+1) (Ud K) (Uf pa n pc):=by
  rw [<- t];have:=Bx2.made (w.alloc (Uj #[Ud id,Uf a S.l.length c,Uf x S.n d,Uf a' D.l.length c',Uf x' D.n d'] 30)) (Ud K) (Uf pa n pc) 35;exact(by simpa using this:Bx2 _ (w.heap.size+1) _ _).allocs _
 have R0:Bx5 W (w.heap.size+1+1) (Ud 0) Ue Ue Ue Ue:=by
  rw [<- t];simpa using Bx5.new ((w.alloc (Uj #[Ud id,Uf a S.l.length c,Uf x S.n d,Uf a' D.l.length c',Uf x' D.n d'] 30)).alloc (Uj #[Ud K,Uf pa n pc] 35)) (Ud 0) Ue Ue Ue Ue 30
 have Hb:=hid (Qgg id a x a' x' c d c' d' S D W hm.1 hm'.1 (i.bw g) (E.bw g));have Ha:=hid (fun(u:Ur)(rb m:Nat)(a x a' x':Option Us)(c d c' d':Nat)(hb:Bl W u)(h1:SOw u W.heap.size m a x d S)(hm1:m<=rb)(h2:SAt u a' x' D)(hx:Bx5 u rb (Ud id) (Uf a S.l.length c) (Uf x S.n d) (Uf a' D.l.length c') (Uf x' D.n d'))=>QmN hr hm hm' hx h1 ⟨Uv _,hm1⟩ hb.size h2 hq hf (hs.bw (Qaa g hb)) hnc hcc (fun y hy=>Ut (hab y hy) (Qaa g hb).size) (hG.bw (Qaa g hb)));have HG:=hid hG;have HO:=hid O0;have HR:=hid R0;have HB:=hid g;have Hl:Hid (w.heap.size+3<=W.heap.size):=hid oM;obtain⟨k0,k1,k2,k3,k4⟩:=T.q5;clear g zW T O0 R0 i E hs hq hG hab hf hr;go_enter func9,ntmps9;go_wp2_with fail;try rw [t]
 clear t;refine Hb.mono ?_;rintro e w1 ⟨a,N,x,B,a',j,x',z,m2,rfl,i,E,L⟩;obtain⟨U,H⟩:=zE (w1.alloc (Uj #[Ud id,Uf a S.l.length N,Uf x S.n B,Uf a' D.l.length j,Uf x' D.n z] 30));have G:Bl w1 U:=H▸zO _ _;have I:Bx5 U w1.heap.size (Ud id) (Uf a S.l.length N) (Uf x S.n B) (Uf a' D.l.length j) (Uf x' D.n z):=H▸Bx5.new _ _ _ _ _ _ _;have Q:=hid (Qaa L G);have O2:=HO.bw Q HO.lt;obtain⟨o0,o1⟩:=O2.q2;have HC:=hid (Ha U w1.heap.size m2 a x a' x' N B j z Q (i.bw G) i.hl.2 (E.at.bw G) I);have HN:Hid (W.heap.size<=w1.heap.size/\ w1.heap.size<U.heap.size):=hid ⟨L.size,I.lt⟩;clear i E L G I O2 Hb Ha k0 k1 k2 k3 k4;go_wp2_with fail;try rw [H]
 clear H;refine HC.mono ?_;rintro e M ⟨F,er,a,x,c,d,lo,hi,rfl,He,Hd,Hh,Hf,Hg,P⟩;have V:Hid (Bl W M):=hid (Q.grown P Q.size (fun k e=>by injection e with e;have:=HN.out;omega));have Y:=hid Hd;have Z:=hid (And.intro Hh Hf);have Hk:=hid Hg;have Ho:Hid (U.heap.size<=M.heap.size):=hid P.size;have Hj:Hid (∀u,Bl M u ->Cl 28 #[er] u (Rt u (Ud C))):=hid (fun u hb=>by
  rcases He with ⟨rfl,rfl⟩|⟨b,rfl,hc⟩
  ·exact Qqn u
  ·exact Qpe b C u (HG.bw (Qaa HB (Qaa V hb))).gY ((hb.cell (p:=(Ub b)) (block_lt_of_cell hc)).trans hc))
 have Hc:Hid (∀u,Bl M u ->(u.cell? (Ub w1.heap.size)=Uq (Ud id)/\ u.cell? (Ua w1.heap.size 1)=Uq (Uf a X.l.length c)/\ u.cell? (Ua w1.heap.size 2)=Uq (Uf x X.n d)/\ u.cell? (Ua w1.heap.size 3)=Uq (Uf a' D.l.length j)/\ u.cell? (Ua w1.heap.size 4)=Uq (Uf x' D.n z))):=hid (fun u hb=>by
  have s:=Y.bw hb Y.lt;exact⟨s.c0,s.c1,s.c2,s.c3,s.c4⟩)
 clear He Hd Hh Hf Hg P HC o0 o1;go_wp2_with fail;refine zS Hc (fun qh=> ?_);refine tZ 0 17 ?_;refine tZ 1 18 ?_;refine tZ 2 19 ?_;refine cZ 3 ?_;intro K A;go_simp;refine(Hj _ zI.drew).mono ?_;rintro e O ⟨rfl,b5⟩;have h:Bl M O:=Qaa zI.drew b5;refine A.out _ _ (Hc _ h) (fun qh=> ?_);clear A K;try simp only [zP]
 have J:=HR.bw (Qaa V h) HR.lt;obtain⟨r0,r1,r2,r3,r4,rf⟩:=J.p5;refine cZ 4 ?_;intro K A;go_simp;have hz:=Hl.out;have hn:=HN.out;have Hm:=h.size;have Hn:=V.size;have o:=(Y.bw h Y.lt).sm (Qje O (q:=w1.heap.size) (r:=w.heap.size+1+1) oM (Ud id) (Uf a X.l.length c) (Uf x X.n d) (Uf a' D.l.length j) (Uf x' D.n z)) (by simp [UL]);have HE:Hid (HnI id X R C w (Ui (Ul #[Uo #[Ud id,Uf a X.l.length c,Uf x X.n d,Uf a' D.l.length j,Uf x' D.n z],F,Ud C])) (((((O.setCell (Ua (w.heap.size+1+1) 0) (Ud id)).setCell (Ua (w.heap.size+1+1) 1) (Uf a X.l.length c)).setCell (Ua (w.heap.size+1+1) 2) (Uf x X.n d)).setCell (Ua (w.heap.size+1+1) 3) (Uf a' D.l.length j)).setCell (Ua (w.heap.size+1+1) 4) (Uf x' D.n z))):=hid ⟨a,c,x,d,a',D.l.length,j,x',D.n,z,F,rfl,fun u hu1 hu2=>(Z.1.bw h).nc u (by simp [UL] at hu1;omega) (fun q h1 h2=>(hu2 q (oH Z.2) (by have:=(Z.1.bw h).hl;simp [UL];omega)).trans (Qje O (oH Z.2) _ _ _ _ _)),((Hk.bw h).stay (fun q h1 h2=>Qje O oM _ _ _ _ _)).low oM,Qit (Qaa HB (Qaa V h)) oM _ _ _ _ _⟩;have Hi:=hid (((((J.set0 (Ud id)).set1 (Uf a X.l.length c)).set2 (Uf x X.n d)).set3 (Uf a' D.l.length j)).set4 (Uf x' D.n z));refine A.out _ _ ⟨o.c0,o.c1,o.c2,o.c3,o.c4⟩ (fun qh=> ?_);clear A K;try simp only [zP]
 refine tZ 5 5 ?_;refine tZ 6 6 ?_;refine zD ?_;clear o J h b5 qh hz hn Hm Hn;go_wp2_with fail;obtain⟨q0,q1,q2,q3,q4⟩:=Hi.q5;refine zF (v:=Ul #[Uo #[Ud id,Uf a X.l.length c,Uf x X.n d,Uf a' D.l.length j,Uf x' D.n z],F,Ud C]) (by simp [results,results9,go_sem,q0,q1,q2,q3,q4]) ?_;exact HE
abbrev Rq.Bx (R:Rq)(w:Ur)(b:Nat):Prop:=Bx5 w b (Ud R.id) (Uf R.a R.S.l.length R.c) (Uf R.x R.S.n R.d) (Uf R.a' R.D.l.length R.c') (Uf R.x' R.D.n R.d')
abbrev QfW (w:Ur)(b:Nat):Prop:=Bx5 w b (Ud 0) Ue Ue Ue Ue
theorem Bx5.set5{b:Nat}(h:Bx5 w b v0 v1 v2 v3 v4)(u0 u1 u2 u3 u4:Value):Bx5 (((((w.setCell (Ub b) u0).setCell (Ua b 1) u1).setCell (Ua b 2) u2).setCell (Ua b 3) u3).setCell (Ua b 4) u4) b u0 u1 u2 u3 u4:=((((h.set0 u0).set1 u1).set2 u2).set3 u3).set4 u4
theorem QcT (V:Ur)(h:q≠r)(v0 v1 v2 v3 v4:Value):(((((V.setCell (Ub r) v0).setCell (Ua r 1) v1).setCell (Ua r 2) v2).setCell (Ua r 3) v3).setCell (Ua r 4) v4).heap[q]? =V.heap[q]? :=by
 rw [zH _ _ _ _ h,zH _ _ _ _ h,zH _ _ _ _ h,zH _ _ _ _ h,zH _ _ _ _ h]
theorem QhF (V:Ur)(r:Nat)(v0 v1 v2 v3 v4:Value):(((((V.setCell (Ub r) v0).setCell (Ua r 1) v1).setCell (Ua r 2) v2).setCell (Ua r 3) v3).setCell (Ua r 4) v4).heap.size=V.heap.size:=by simp [UL]
theorem QcG (w:Ur)(p:Us)(v:Value):(w.setCell p v).os=w.os/\ (w.setCell p v).tape=w.tape/\ (w.setCell p v).output=w.output:=⟨rfl,rfl,rfl⟩
theorem Qjd (V:Ur)(r:Nat)(v0 v1 v2 v3 v4:Value):(((((V.setCell (Ub r) v0).setCell (Ua r 1) v1).setCell (Ua r 2) v2).setCell (Ua r 3) v3).setCell (Ua r 4) v4).os=V.os/\ (((((V.setCell (Ub r) v0).setCell (Ua r 1) v1).setCell (Ua r 2) v2).setCell (Ua r 3) v3).setCell (Ua r 4) v4).tape=V.tape/\ (((((V.setCell (Ub r) v0).setCell (Ua r 1) v1).setCell (Ua r 2) v2).setCell (Ua r 3) v3).setCell (Ua r 4) v4).output=V.output:=by
 refine⟨?_,?_,?_⟩
 ·rw [(QcG _ _ _).1,(QcG _ _ _).1,(QcG _ _ _).1,(QcG _ _ _).1,(QcG _ _ _).1]
 ·rw [(QcG _ _ _).2.1,(QcG _ _ _).2.1,(QcG _ _ _).2.1,(QcG _ _ _).2.1,(QcG _ _ _).2.1]
 ·rw [(QcG _ _ _).2.2,(QcG _ _ _).2.2,(QcG _ _ _).2.2,(QcG _ _ _).2.2,(QcG _ _ _).2.2]
theorem Qcs(h:QfW wr r)(v0 v1 v2 v3 v4:Value):∃Z,Z=(((((wr.setCell (Ub r) v0).setCell (Ua r 1) v1).setCell (Ua r 2) v2).setCell (Ua r 3) v3).setCell (Ua r 4) v4)/\ Bx5 Z r v0 v1 v2 v3 v4/\ (∀q,q≠r ->Z.heap[q]? =wr.heap[q]?)/\ Z.heap.size=wr.heap.size/\ Z.os=wr.os/\ Z.tape=wr.tape/\ Z.output=wr.output:=
 ⟨_,rfl,h.set5 v0 v1 v2 v3 v4,fun q hq=>QcT wr hq v0 v1 v2 v3 v4,QhF wr r v0 v1 v2 v3 v4,Qjd wr r v0 v1 v2 v3 v4⟩
structure DwI (ok:Rq ->Prop)(w wr:Ur)(B rb:Nat)(f:Nat ->Int)(n x L ba bb:Nat)(R Q:Rq):Prop where
 rd:RdJ wr B rb f n x
 gr:w.grownBy wr (Uq rb)
 a:R.Bx wr ba
 b:Q.Bx wr bb
 na:R.Nw wr L
 nb:Q.Nw wr L
 oa:ok R
 ob:ok Q
 la:w.heap.size+2<=ba/\ ba<L
 lb:w.heap.size+2<=bb/\ bb<L
 ne:ba≠bb
 lw:L<=wr.heap.size
 hb:B<=ba/\ B<=bb/\ rb<B/\ rb≠w.heap.size/\ rb≠w.heap.size+1
 r1:QfW wr w.heap.size
 r2:QfW wr (w.heap.size+1)
section
variable {ok : Rq -> Prop} {w wr w1 : Ur} {B rb : Nat} {f : Nat -> Int} {n x x1 L ba bb : Nat} {R R' Q : Rq}
theorem DwI.grow (h:DwI ok w wr B rb f n x L ba bb R Q)(g:wr.grownBy w1 (Uq rb))(r:RdJ w1 B rb f n x1):DwI ok w w1 B rb f n x1 L ba bb R Q:=by
 have j:=h.la;have k:=h.lb;have m:=h.hb;have u:=h.lw;have e:∀q,q≠rb ->q<wr.heap.size ->w1.heap[q]? =wr.heap[q]? :=fun q j k=>g.block q k (fun e=>j (by injection e));exact⟨r,QaS h.gr g,h.a.sm (e _ oM oM) g.size,h.b.sm (e _ oM oM) g.size,h.na.move zL g.size (fun q h5 h6=>e q oM h6),h.nb.move zL g.size (fun q h5 h6=>e q oM h6),h.oa,h.ob,j,k,h.ne,Uw u g.size,m,h.r1.sm (e _ oM oM) g.size,h.r2.sm (e _ oM oM) g.size⟩
theorem DwI.bw (h:DwI ok w wr B rb f n x L ba bb R Q)(b:Bl wr w1):DwI ok w w1 B rb f n x L ba bb R Q:=h.grow ⟨b.os,b.tape,b.output,b.size,fun q h1 _=>b.block q h1⟩ (h.rd.bw (b.mono (by have:=h.hb;have:=h.lw;have:=h.la;omega)))
theorem DwI.swap (h:DwI ok w wr B rb f n x L ba bb R Q):DwI ok w wr B rb f n x L bb ba Q R:=⟨h.rd,h.gr,h.b,h.a,h.nb,h.na,h.ob,h.oa,h.lb,h.la,h.ne.symm,h.lw,⟨h.hb.2.1,h.hb.1,h.hb.2.2⟩,h.r1,h.r2⟩
theorem DwI.setA (h:DwI ok w wr B rb f n x L ba bb R Q)(hN:R'.Nw wr L)(hk:ok R'):DwI ok w (((((wr.setCell (Ub ba) (Ud R'.id)).setCell (Ua ba 1) (Uf R'.a R'.S.l.length R'.c)).setCell (Ua ba 2) (Uf R'.x R'.S.n R'.d)).setCell (Ua ba 3) (Uf R'.a' R'.D.l.length R'.c')).setCell (Ua ba 4) (Uf R'.x' R'.D.n R'.d')) B rb f n x L ba bb R' Q:=by
 have A:=h.la;have E:=h.lb;have M:=h.hb;have U:=h.lw;have O:=h.ne;obtain⟨j,g⟩:=zE (Ud R'.id);obtain⟨m,t⟩:=zE (Value.slice R'.a R'.S.l.length R'.c);obtain⟨r,i⟩:=zE (Value.slice R'.x R'.S.n R'.d);obtain⟨u,p⟩:=zE (Value.slice R'.a' R'.D.l.length R'.c');obtain⟨v,s⟩:=zE (Value.slice R'.x' R'.D.n R'.d');rw [g,t,i,p,s];have X:Bx5 (((((wr.setCell (Ub ba) j).setCell (Ua ba 1) m).setCell (Ua ba 2) r).setCell (Ua ba 3) u).setCell (Ua ba 4) v) ba j m r u v:=h.a.set5 _ _ _ _ _;have z:=QhF wr ba j m r u v;have q:=fun q (hq:q≠ba)=>QcT wr hq j m r u v;have o:(((((wr.setCell (Ub ba) j).setCell (Ua ba 1) m).setCell (Ua ba 2) r).setCell (Ua ba 3) u).setCell (Ua ba 4) v).os=wr.os/\ (((((wr.setCell (Ub ba) j).setCell (Ua ba 1) m).setCell (Ua ba 2) r).setCell (Ua ba 3) u).setCell (Ua ba 4) v).tape=wr.tape/\ (((((wr.setCell (Ub ba) j).setCell (Ua ba 1) m).setCell (Ua ba 2) r).setCell (Ua ba 3) u).setCell (Ua ba 4) v).output=wr.output:=Qjd wr ba j m r u v;obtain⟨V,y⟩:=zE (((((wr.setCell (Ub ba) j).setCell (Ua ba 1) m).setCell (Ua ba 2) r).setCell (Ua ba 3) u).setCell (Ua ba 4) v);rw [y] at X z o ⊢;simp only [y] at q;clear y;have Y:=h.gr.size;refine⟨h.rd.bw ⟨o.1,o.2.1,o.2.2,oM,fun k hk=>q k oM⟩,⟨o.1.trans h.gr.os,o.2.1.trans h.gr.tape,o.2.2.trans h.gr.output,oM,fun k hk hn=>(q k oM).trans (h.gr.block k hk hn)⟩,?_,h.b.sm (q _ oM) oM,hN.move zL oM (fun k h5 _=>q k oM),h.nb.move zL oM (fun k h5 _=>q k oM),hk,h.ob,A,E,O,oM,M,h.r1.sm (q _ oM) oM,h.r2.sm (q _ oM) oM⟩;unfold Rq.Bx;rw [g,t,i,p,s];exact X
theorem DwI.sz (h:DwI ok w wr B rb f n x L ba bb R Q):B<=wr.heap.size/\ L<=wr.heap.size:=by have:=h.hb;have:=h.la;have:=h.lw;omega
theorem DwI.fin (h:DwI ok w wr B rb f n x L ba bb R Q):∃m j,m=(((((wr.setCell (Ub w.heap.size) (Ud R.id)).setCell (Ua w.heap.size 1) (Uf R.a R.S.l.length R.c)).setCell (Ua w.heap.size 2) (Uf R.x R.S.n R.d)).setCell (Ua w.heap.size 3) (Uf R.a' R.D.l.length R.c')).setCell (Ua w.heap.size 4) (Uf R.x' R.D.n R.d'))/\
  j=(((((m.setCell (Ua (w.heap.size+1) 0) (Ud Q.id)).setCell (Ua (w.heap.size+1) 1) (Uf Q.a Q.S.l.length Q.c)).setCell (Ua (w.heap.size+1) 2) (Uf Q.x Q.S.n Q.d)).setCell (Ua (w.heap.size+1) 3) (Uf Q.a' Q.D.l.length Q.c')).setCell (Ua (w.heap.size+1) 4) (Uf Q.x' Q.D.n Q.d'))/\
  (R.Bx m ba/\ Q.Bx m bb/\ QfW m (w.heap.size+1))/\ (R.Bx j ba/\ Q.Bx j bb)/\ R.Bx j w.heap.size/\ Q.Bx j (w.heap.size+1)/\ R.Nw j w.heap.size/\ Q.Nw j w.heap.size/\ (B<=w.heap.size ->RdJ j B rb f n x)/\ w.grownBy j (Uq rb):=by
 have i:=h.la;have p:=h.lb;have s:=h.hb;have A:=h.lw;have E:=h.gr.size;obtain⟨m,t,z,k,M,u⟩:=Qcs h.r1 (Ud R.id) (Uf R.a R.S.l.length R.c) (Uf R.x R.S.n R.d) (Uf R.a' R.D.l.length R.c') (Uf R.x' R.D.n R.d');have y:QfW m (w.heap.size+1):=h.r2.sm (k _ oM) oM;obtain⟨j,o,g,r,O,v⟩:=Qcs y (Ud Q.id) (Uf Q.a Q.S.l.length Q.c) (Uf Q.x Q.S.n Q.d) (Uf Q.a' Q.D.l.length Q.c') (Uf Q.x' Q.D.n Q.d');refine⟨m,j,t,o,⟨h.a.sm (k _ oM) oM,h.b.sm (k _ oM) oM,y⟩,⟨h.a.sm ((r _ oM).trans (k _ oM)) oM,h.b.sm ((r _ oM).trans (k _ oM)) oM⟩,z.sm (r _ oM) oM,g,h.na.move oM oM (fun q h5 _=>(r q oM).trans (k q oM)),h.nb.move oM oM (fun q h5 _=>(r q oM).trans (k q oM)),fun hB=>h.rd.bw ⟨v.1.trans u.1,v.2.1.trans u.2.1,v.2.2.trans u.2.2,oM,fun q hq=>(r q oM).trans (k q oM)⟩,⟨(v.1.trans u.1).trans h.gr.os,(v.2.1.trans u.2.1).trans h.gr.tape,(v.2.2.trans u.2.2).trans h.gr.output,oM,fun q hq hn=>((r q oM).trans (k q oM)).trans (h.gr.block q hq hn)⟩⟩
end
theorem Qdb(h:Own w B (Uf a zs.length c) zs):zs.length<=c/\ c<=9223372036854775807/\ (∀y,a=Uq y ->y.block<w.heap.size)/\ Seg w a zs.length (gz zs):=by
 have j:=h.any;obtain⟨p,s,e,j⟩:=j;injection e with e1 e2 e3;subst e1;refine⟨?_,?_,?_,j⟩
 ·rcases h.2 with ⟨e,u⟩|⟨v,q,r,k,g,z,o,m,i,b⟩
  ·injection e with e1 e2 e3;omega
  ·injection k with e1 e2 e3;omega
 ·rcases h.2 with ⟨e,u⟩|⟨v,q,r,k,g,z,o,m,i,b⟩
  ·injection e with e1 e2 e3;omega
  ·injection k with e1 e2 e3;unfold maxLen at m;omega
 ·intro y t;subst t;exact(World.ownsRow.lt h y.block rfl).2
theorem Qfu(h:Qbq Y=true):Byt (gz Y.b):=(By.app (Qgz (QaQ h).1.1) (Qhx (QaQ h).1.2.2.1 (QaQ h).1.lvB _ _):By Y.b).byt
structure FlI (wx:Ur)(L bn:Nat)(R':Rq)(K:Int)(v:Value)(Bo:Bool):Prop where
 x:R'.Bx wx bn
 nx:R'.Nw wx L
 ox:R'.ok
 fr:Bx2 wx (bn+1) (Ud K) v
 fq:FqP wx L K v Bo
 bl:L<=bn
theorem FqP.low(h:FqP w lo K v Bo)(hl:lo'<=lo):FqP w lo' K v Bo:=by
 rcases h with h|⟨j,k,Y,u,y,m,q,r⟩
 ·exact .inl h
 ·exact .inr ⟨j,k,Y,u,y,m,q,r.weak hl⟩
theorem FqP.stay(h:FqP w lo K v Bo)(hq:∀q,lo<=q ->q<w.heap.size ->w'.heap[q]? =w.heap[q]?):FqP w' lo K v Bo:=by
 rcases h with h|⟨j,k,Y,y,z,m,r,u⟩
 ·exact .inl h
 ·exact .inr ⟨j,k,Y,y,z,m,r,u.stay hq⟩
def DwP (w:Ur)(B rb:Nat)(f:Nat ->Int)(n:Nat)(e:Ending)(w':Ur):Prop:=∃(R Q:Rq) (x':Nat),e=Ui (Ul #[.agg R.vs,.agg Q.vs])/\ (R.Nw w' w.heap.size/\ R.ok)/\ (Q.Nw w' w.heap.size/\ Q.ok)/\ RdJ w' B rb f n x'/\ w.grownBy w' (Uq rb)
theorem Qnf (B rb:Nat)(f:Nat ->Int)(n x:Nat)(w:Ur)(hB:B<=w.heap.size)(h:RdJ w B rb f n x):Cl 16 #[Uk (Uc rb)] w fun e w'=>DwP w B rb f n e w':=by
 obtain⟨P,hP⟩:=zE (DwP w B rb f n);rw [hP];have HP:=hid hP;obtain⟨W,hW⟩:=zE ((w.alloc (Uj #[Ud 0,Ue,Ue,Ue,Ue] 30)).alloc (Uj #[Ud 0,Ue,Ue,Ue,Ue] 30));have b0:Bl w W:=hW▸Qad _ _ _;have zW:W.heap.size=w.heap.size+2:=hW▸oP;have R1:QfW W w.heap.size:=hW▸(Bx5.new _ _ _ _ _ _ _).up _;have R2:QfW W (w.heap.size+1):=by
  rw [<- hW];simpa using Bx5.new (w.alloc (Uj #[Ud 0,Ue,Ue,Ue,Ue] 30)) (Ud 0) Ue Ue Ue Ue 30
 have Gg:=hid R1;have Gh:=hid R2;have Gp:=hid b0;have HZ:=hid zW;have Kt:=hid h;have Kp:=hid (And.intro hB h.lt.2);clear hP b0 zW R1 R2 h;go_enter func16,ntmps16;go_wp2_with fail;try rw [hW]
 clear hW;refine(Qhg 0 oM W).mono ?_;rintro e w1 ⟨⟨id,S,D,a,c,x,d,a',c',x',d'⟩,rfl,⟨Kf,Kv,Kk,b1⟩,G9,G4,Hv,Kd⟩;dsimp only at Kf G9 G4 Hv Kd;subst Kf G9 G4 Hv Kd;simp only [Rq.vs];have H3:=hid b1;have Gx:=hid Kk;clear Kv Kk b1;go_wp2_with fail;obtain⟨U1,Hx⟩:=zE (w1.alloc (Uj #[Ud 0,Uf a Sx.mt.l.length 0,Uf x Sx.mt.n d,Uf a' Sx.mt.l.length 0,Uf x' Sx.mt.n d'] 30));have G2:Bl w1 U1:=Hx▸zO _ _;have A1:Rq.Bx ⟨0,Sx.mt,Sx.mt,a,0,x,d,a',0,x',d'⟩ U1 w1.heap.size:=Hx▸Bx5.new _ _ _ _ _ _ _;have H2:=hid A1;have Hq:=hid (Qaa H3 G2);have G0:Hid (W.heap.size<=w1.heap.size/\ w1.heap.size<U1.heap.size):=hid ⟨H3.size,A1.lt⟩;try rw [Hx]
 clear Hx G2 A1;refine(Qhg 1 oM U1).mono ?_;rintro e w2 ⟨⟨jd,T,E,g,k,y,m,g',k',y',m'⟩,rfl,⟨Kg,Kx,Kl,b2⟩,Ka,G5,H1,Ke⟩;dsimp only at Kg Ka G5 H1 Ke;subst Kg Ka G5 H1 Ke;simp only [Rq.vs];have H4:=hid b2;have Gy:=hid Kl;clear Kx Kl b2;go_upto_region 3 with fail;obtain⟨U2,Hy⟩:=zE (w2.alloc (Uj #[Ud 1,Uf g Sx.mt.l.length 0,Uf y Sx.mt.n m,Uf g' Sx.mt.l.length 0,Uf y' Sx.mt.n m'] 30));have G3:Bl w2 U2:=Hy▸zO _ _;have A2:Rq.Bx ⟨1,Sx.mt,Sx.mt,g,0,y,m,g',0,y',m'⟩ U2 w2.heap.size:=Hy▸Bx5.new _ _ _ _ _ _ _;obtain⟨x0,Hr⟩:∃x0,Hid (DwI Rq.ok w U2 B rb f n x0 U2.heap.size w1.heap.size w2.heap.size ⟨0,Sx.mt,Sx.mt,a,0,x,d,a',0,x',d'⟩ ⟨1,Sx.mt,Sx.mt,g,0,y,m,g',0,y',m'⟩):=⟨_,hid (by
  have h1:=HZ.out;have h2:=G0.out;have h3:=H4.size;have h4:=Kp.out;have h5:=A2.lt;have G1:=Qaa H4 G3;have b2:=Qaa Hq G1;have U:=Qaa Gp b2;exact⟨Kt.bw (U.mono hB),⟨U.os,U.tape,U.output,U.size,fun q hq _=>U.block q hq⟩,H2.bw G1 H2.lt,A2,⟨SNc.mtC _ _ _ _,SNc.mtC _ _ _ _⟩,⟨SNc.mtC _ _ _ _,SNc.mtC _ _ _ _⟩,Gx,Gy,oM,oM,oM,Uv _,⟨oM,oM,h4.2,oM,oM⟩,Gg.bw b2 Gg.lt,Gh.bw b2 Gh.lt⟩)⟩
 try rw [Hy]
 clear Hy G3 A2;obtain⟨L,hL⟩:=zE U2.heap.size;obtain⟨ba,Gk⟩:=zE w1.heap.size;obtain⟨bb,Gl⟩:=zE w2.heap.size;rw [hL,Gk,Gl] at Hr;rw [Gk,Gl];clear hL Gk Gl H2 Hq H3 H4 Gp Gx Gy G0 Gg Gh;have Gd:=hid (QaJ B rb f n _ U2 Hr.rd);have Gm:rk f n x0<256:=Qhl Hr.rd;obtain⟨kn,Ki⟩:=zE (rk f n x0);rw [Ki] at Gd Gm;clear Ki;go_wp2_with fail;refine Gd.mono ?_;rintro e w3 ⟨rfl,r3,g3⟩;have Gv:=hid (Hr.grow g3 r3);clear r3 g3 Gd Hr;obtain⟨N,hN⟩:=zE (3+kn%10:Nat);have eN:(3:Int)+(kn:Int)%10=(N:Int):=oM;have Kw:N<=12:=oM;clear hN;go_wp2_with fail;go_loopw [9] (fun i wr=>∃(j x:Nat) (R Q:Rq),j<=N/\ i=Ud (j:Int)/\ Hid (DwI Rq.ok w wr B rb f n x L ba bb R Q)) (fun i _=>N - (intOf i).toNat);case atStart=>exact⟨0,_,_,_,Ux _,rfl,Gv⟩
 case round=>
  clear Gv;obtain⟨j,xx,⟨id,S,D,a,c,x,d,a',c',x',d'⟩,⟨jd,T,E,g,k,y,m,g',k',y',m'⟩,hj,rfl,HI⟩:=hrel;go_upto_region 5 with fail;go_cut [37] from 26 to 37 (fun b wx=>(∃t:Bool,b=Un t/\ (t=true ->j<N))/\ Hid (DwI Rq.ok w wx B rb f n xx L ba bb ⟨id,S,D,a,c,x,d,a',c',x',d'⟩ ⟨jd,T,E,g,k,y,m,g',k',y',m'⟩));case first=>
   by_cases Hf:j<N
   ·have d1:decide ((j:Int)<(N:Int))=true:=oS;by_cases h3:j<3
    ·have d3:decide ((j:Int)<3)=true:=oS;go_wp2_with fail;go_meet;exact⟨⟨true,rfl,fun _=>Hf⟩,HI⟩
    ·have d3:decide ((j:Int)<3)=false:=oS;have d4:¬(j:Int)<3:=oM;have Gc:=hid (Qnw B rb f n xx wr HI.rd);obtain⟨lf,Kj⟩:=zE (n - xx);rw [Kj] at Gc;clear Kj;go_wp2_with fail;refine Gc.mono ?_;rintro e w4 ⟨rfl,r4,g4⟩;have G:=hid (HI.grow g4 r4);clear r4 g4 Gc;go_wp2_with fail;go_meet;exact⟨⟨_,rfl,fun _=>Hf⟩,G⟩
   ·have d1:decide ((j:Int)<(N:Int))=false:=oS;have d2:¬(j:Int)<(N:Int):=oM;go_wp2_with fail;go_meet;exact⟨⟨false,rfl,fun h=>by cases h⟩,HI⟩
  case rest=>
  clear HI;obtain⟨⟨t,rfl,ht⟩,HI⟩:=hcut;cases t with
  | false=>
   have M:=hid (HI.bw zI.drew);go_wp2_with fail;refine zR (S:=fun u=>u.cell? (Ub ba)=Uq (Ud id)/\ u.cell? (Ua ba 1)=Uq (Uf a S.l.length c)/\ u.cell? (Ua ba 2)=Uq (Uf x S.n d)/\ u.cell? (Ua ba 3)=Uq (Uf a' D.l.length c')/\ u.cell? (Ua ba 4)=Uq (Uf x' D.n d')/\ u.cell? (Ub bb)=Uq (Ud jd)/\ u.cell? (Ua bb 1)=Uq (Uf g T.l.length k)/\ u.cell? (Ua bb 2)=Uq (Uf y T.n m)/\ u.cell? (Ua bb 3)=Uq (Uf g' E.l.length k')/\ u.cell? (Ua bb 4)=Uq (Uf y' E.n m')) ⟨M.a.c0,M.a.c1,M.a.c2,M.a.c3,M.a.c4,M.b.c0,M.b.c1,M.b.c2,M.b.c3,M.b.c4⟩ (fun qh=> ?_);refine tZ 0 86 ?_;refine tZ 1 87 ?_;obtain⟨z0,Ko⟩:=zE wc.drew;rw [Ko] at M qh ⊢;clear Ko;obtain⟨Z1,Z2,e1,e2,⟨A1,C1,Y1⟩,⟨A2,C2⟩,HF⟩:=M.fin;dsimp only at e1 e2;have Gq:=hid e1;have Gr:=hid e2;clear e1 e2;have Kr:=hid HF;obtain⟨x0,I,J,C,F,xf⟩:=M.r1.p5;refine cZ 2 ?_;intro K z;go_simp;rw [<- Gq.out];refine z.out _ _ ⟨A1.c0,A1.c1,A1.c2,A1.c3,A1.c4,C1.c0,C1.c1,C1.c2,C1.c3,C1.c4⟩ (fun qh=> ?_);clear z K;try simp only [zP]
   clear x0 I J C F xf;obtain⟨x0,I,J,C,F,xf⟩:=Y1.p5;refine cZ 3 ?_;intro K z;go_simp;rw [<- Gr.out];refine z.out _ _ ⟨A2.c0,A2.c1,A2.c2,A2.c3,A2.c4,C2.c0,C2.c1,C2.c2,C2.c3,C2.c4⟩ (fun qh=> ?_);clear z K;try simp only [zP]
   refine zD ?_;clear x0 I J C F xf qh A1 C1 Y1 A2 C2 HF Gq Gr;go_wp2_with fail;obtain⟨u1,u2,u3,u4,u5,u6⟩:=Kr.out;refine zF (v:=Ul #[Uo #[Ud id,Uf a S.l.length c,Uf x S.n d,Uf a' D.l.length c',Uf x' D.n d'],Uo #[Ud jd,Uf g T.l.length k,Uf y T.n m,Uf g' E.l.length k',Uf y' E.n m']]) (by simp [results,results16,go_sem,u1.c0,u1.c1,u1.c2,u1.c3,u1.c4,u2.c0,u2.c1,u2.c2,u2.c3,u2.c4]) ?_;rw [<- HP.out];exact⟨_,_,_,rfl,⟨u3,HI.oa⟩,⟨u4,HI.ob⟩,u5 hB,u6⟩
  | true=>
   have Hf:=ht rfl;have Ge:=hid (QaJ B rb f n _ wc HI.rd);have K0:rk f n xx<256:=Qhl HI.rd;obtain⟨kk,Kh⟩:=zE (rk f n xx);rw [Kh] at Ge K0;clear Kh;go_wp2_with fail;refine Ge.mono ?_;rintro e w4 ⟨rfl,r4,g4⟩;have G:=hid (HI.grow g4 r4);clear r4 g4 Ge HI ht;obtain⟨r8,K4⟩:=zE (kk%8:Nat);have e8:(kk:Int)%8=(r8:Int):=oM;have h8:r8<8:=oM;clear K4;by_cases h3:r8<3
   ·have d3:decide ((r8:Int)<3)=true:=oS;have M:=hid (G.bw zI.drew);go_wp2_with fail;refine zR (S:=fun _=>True) trivial (fun qh=> ?_);refine tZ 1 47 ?_;refine QaK (i:=0) (j:=2) (d:=Uq 46) (d':=Uq 48) oK oK oK ?_ ?_
    ·
     obtain⟨x0,I,J,C,F⟩:=M.a.q5;intro o ho Gn K z;simp only [gZa,gZb,gZc,gZd] at ho;subst ho;go_simp;refine z.out _ _ trivial (fun qh=> ?_);clear z K;try simp only [zP]
     clear x0 I J C F;refine cZ 2 ?_;intro K z;go_simp;refine(Qfr B rb f n _ _ M.sz.1 M.rd).mono ?_;rintro e w5 ⟨KK,pa,pc,p,v,x5,rfl,Hl,Go,pt,r5,g5⟩;have O:=hid (M.grow g5 r5);refine z.out _ _ trivial (fun qh=> ?_);clear z K;try simp only [zP]
     refine cZ 3 ?_;intro K z;go_simp;refine(QfK ⟨id,S,D,a,c,x,d,a',c',x',d'⟩ KK pa pc p v _ (O.na.at O.oa) O.oa Hl oM pt.cap pt.at oM).mono ?_;rintro e w6 ⟨⟨zd,X,Z,ya,yc,yx,yd,Hg,Hh,Hj,Hi⟩,C6,rfl,Hm,Hd,He,b6⟩;simp only [Rq.vs];have H6:=hid (O.bw b6);have Hb:=hid (Hd.move (lo':=L) (w':=w6) O.sz.2 zL (fun _ _ _=>rfl));have Hc:=hid He;refine z.out _ _ trivial (fun qh=> ?_);clear z K;try simp only [zP]
     refine tZ 4 45 ?_;refine tZ 5 50 ?_;refine tZ 6 51 ?_;obtain⟨x0,I,J,C,F,xf⟩:=H6.a.p5;refine cZ 7 ?_;intro K z;go_simp;refine z.out _ _ trivial (fun qh=> ?_);clear z K;try simp only [zP]
     refine zD ?_;have H7:=hid (H6.setA Hb Hc);clear x0 I J C F xf qh Hd He Hm b6 pt r5 g5 M O H6 Hb Hc G;go_wp2_with fail;go_roundw;case rel=>exact⟨j+1,_,_,_,Hf,oN,H7⟩
     case measure=>exact oE
    ·
     intro o ho Gn K z;simp only [gZa,gZb,gZc,gZd] at ho;subst ho;go_simp;refine(Qfr B rb f n _ _ M.sz.1 M.rd).mono ?_;rintro e w5 ⟨KK,pa,pc,p,v,x5,rfl,Hl,Go,pt,r5,g5⟩;have O:=hid (M.grow g5 r5);refine z.out _ _ trivial (fun qh=> ?_);clear z K;try simp only [zP]
     obtain⟨x0,I,J,C,F⟩:=O.a.q5;refine cZ 0 ?_;intro K z;go_simp;refine z.out _ _ trivial (fun qh=> ?_);clear z K;try simp only [zP]
     clear x0 I J C F;refine cZ 3 ?_;intro K z;go_simp;refine(QfK ⟨id,S,D,a,c,x,d,a',c',x',d'⟩ KK pa pc p v _ (O.na.at O.oa) O.oa Hl oM pt.cap pt.at oM).mono ?_;rintro e w6 ⟨⟨zd,X,Z,ya,yc,yx,yd,Hg,Hh,Hj,Hi⟩,C6,rfl,Hm,Hd,He,b6⟩;simp only [Rq.vs];have H6:=hid (O.bw b6);have Hb:=hid (Hd.move (lo':=L) (w':=w6) O.sz.2 zL (fun _ _ _=>rfl));have Hc:=hid He;refine z.out _ _ trivial (fun qh=> ?_);clear z K;try simp only [zP]
     refine tZ 4 45 ?_;refine tZ 5 50 ?_;refine tZ 6 51 ?_;obtain⟨x0,I,J,C,F,xf⟩:=H6.a.p5;refine cZ 7 ?_;intro K z;go_simp;refine z.out _ _ trivial (fun qh=> ?_);clear z K;try simp only [zP]
     refine zD ?_;have H7:=hid (H6.setA Hb Hc);clear x0 I J C F xf qh Hd He Hm b6 pt r5 g5 M O H6 Hb Hc G;go_wp2_with fail;go_roundw;case rel=>exact⟨j+1,_,_,_,Hf,oN,H7⟩
     case measure=>exact oE
   ·have d3:decide ((r8:Int)<3)=false:=oS;have Jc:¬(r8:Int)<3:=oM;by_cases h6:r8<6
    ·have d6:decide ((r8:Int)<6)=true:=oS;have M:=hid (G.bw zI.drew);go_wp2_with fail;refine zR (S:=fun _=>True) trivial (fun qh=> ?_);refine tZ 1 57 ?_;refine QaK (i:=0) (j:=2) (d:=Uq 56) (d':=Uq 58) oK oK oK ?_ ?_
     ·
      obtain⟨x0,I,J,C,F⟩:=M.b.q5;intro o ho Gn K z;simp only [gZa,gZb,gZc,gZd] at ho;subst ho;go_simp;refine z.out _ _ trivial (fun qh=> ?_);clear z K;try simp only [zP]
      clear x0 I J C F;refine cZ 2 ?_;intro K z;go_simp;refine(Qfr B rb f n _ _ M.sz.1 M.rd).mono ?_;rintro e w5 ⟨KK,pa,pc,p,v,x5,rfl,Hl,Go,pt,r5,g5⟩;have O:=hid (M.grow g5 r5);refine z.out _ _ trivial (fun qh=> ?_);clear z K;try simp only [zP]
      refine cZ 3 ?_;intro K z;go_simp;refine(QfK ⟨jd,T,E,g,k,y,m,g',k',y',m'⟩ KK pa pc p v _ (O.nb.at O.ob) O.ob Hl oM pt.cap pt.at oM).mono ?_;rintro e w6 ⟨⟨zd,X,Z,ya,yc,yx,yd,Hg,Hh,Hj,Hi⟩,C6,rfl,Hm,Hd,He,b6⟩;simp only [Rq.vs];have H6:=hid (O.bw b6);have Hb:=hid (Hd.move (lo':=L) (w':=w6) O.sz.2 zL (fun _ _ _=>rfl));have Hc:=hid He;refine z.out _ _ trivial (fun qh=> ?_);clear z K;try simp only [zP]
      refine tZ 4 55 ?_;refine tZ 5 60 ?_;refine tZ 6 61 ?_;obtain⟨x0,I,J,C,F,xf⟩:=H6.b.p5;refine cZ 7 ?_;intro K z;go_simp;refine z.out _ _ trivial (fun qh=> ?_);clear z K;try simp only [zP]
      refine zD ?_;have H7:=hid ((H6.swap.setA Hb Hc).swap);clear x0 I J C F xf qh Hd He Hm b6 pt r5 g5 M O H6 Hb Hc G;go_wp2_with fail;go_roundw;case rel=>exact⟨j+1,_,_,_,Hf,oN,H7⟩
      case measure=>exact oE
     ·
      intro o ho Gn K z;simp only [gZa,gZb,gZc,gZd] at ho;subst ho;go_simp;refine(Qfr B rb f n _ _ M.sz.1 M.rd).mono ?_;rintro e w5 ⟨KK,pa,pc,p,v,x5,rfl,Hl,Go,pt,r5,g5⟩;have O:=hid (M.grow g5 r5);refine z.out _ _ trivial (fun qh=> ?_);clear z K;try simp only [zP]
      obtain⟨x0,I,J,C,F⟩:=O.b.q5;refine cZ 0 ?_;intro K z;go_simp;refine z.out _ _ trivial (fun qh=> ?_);clear z K;try simp only [zP]
      clear x0 I J C F;refine cZ 3 ?_;intro K z;go_simp;refine(QfK ⟨jd,T,E,g,k,y,m,g',k',y',m'⟩ KK pa pc p v _ (O.nb.at O.ob) O.ob Hl oM pt.cap pt.at oM).mono ?_;rintro e w6 ⟨⟨zd,X,Z,ya,yc,yx,yd,Hg,Hh,Hj,Hi⟩,C6,rfl,Hm,Hd,He,b6⟩;simp only [Rq.vs];have H6:=hid (O.bw b6);have Hb:=hid (Hd.move (lo':=L) (w':=w6) O.sz.2 zL (fun _ _ _=>rfl));have Hc:=hid He;refine z.out _ _ trivial (fun qh=> ?_);clear z K;try simp only [zP]
      refine tZ 4 55 ?_;refine tZ 5 60 ?_;refine tZ 6 61 ?_;obtain⟨x0,I,J,C,F,xf⟩:=H6.b.p5;refine cZ 7 ?_;intro K z;go_simp;refine z.out _ _ trivial (fun qh=> ?_);clear z K;try simp only [zP]
      refine zD ?_;have H7:=hid ((H6.swap.setA Hb Hc).swap);clear x0 I J C F xf qh Hd He Hm b6 pt r5 g5 M O H6 Hb Hc G;go_wp2_with fail;go_roundw;case rel=>exact⟨j+1,_,_,_,Hf,oN,H7⟩
      case measure=>exact oE
    ·have d6:decide ((r8:Int)<6)=false:=oS;have Jd:¬(r8:Int)<6:=oM;have Gt:=hid (Qi8 ⟨id,S,D,a,c,x,d,a',c',x',d'⟩ w4 (G.na.at G.oa) G.oa);obtain⟨p0,p1,p2,p3,p4⟩:=G.a.q5;go_wp2_with fail;refine Gt.mono ?_;rintro e w5 ⟨⟨zd,X,Z,ya,yc,yx,yd,Hg,Hh,Hj,Hi⟩,K,v,Bo,rfl,⟨Ky,G7,Km,b5⟩,Gj⟩;simp only [Rq.vs];have Gb:=hid (G.bw b5);have Hk:=hid b5;have Gw:=hid (G7.move (lo':=L) (w':=w5) G.sz.2 zL (fun _ _ _=>rfl));have Gs:=hid (Gj.low G.sz.2);have Gz:=hid Km;obtain⟨va,vn,vc,rfl⟩:∃va vn vc,v=Uf va vn vc:=by
      rcases Gj with ⟨_,_,e⟩|⟨_,_,Y,va,vc,_,e,_⟩
      ·exact⟨_,_,_,e⟩
      ·exact⟨_,_,_,e⟩
     clear p0 p1 p2 p3 p4 Gt G7 Km Gj Ky b5;go_upto_region 13 with fail;obtain⟨U5,Hu⟩:=zE ((w5.alloc (Uj #[Ud zd,Uf ya X.l.length yc,Uf yx X.n yd,Uf Hg Z.l.length Hh,Uf Hj Z.n Hi] 30)).alloc (Uj #[Ud K,Uf va vn vc] 35));have b5:Bl w5 U5:=Hu▸Qad _ _ _;obtain⟨H,Hz⟩:=zE w5.heap.size;have A:=hid (Gb.bw b5);have Hp:=hid (Qaa Hk b5);have Ht:Hid (w4.heap.size<=H):=hid (Hz▸Hk.size);have Ha:Hid (FlI U5 L H ⟨zd,X,Z,ya,yc,yx,yd,Hg,Hh,Hj,Hi⟩ K (Uf va vn vc) Bo):=hid (by
      rw [<- Hz];refine⟨?_,Gw.move zL b5.size (fun q _ h2=>b5.block q h2),Gz,?_,Gs.stay (fun q _ h2=>b5.block q h2),Gb.lw⟩
      ·rw [<- Hu];exact(Bx5.new _ _ _ _ _ _ _).up _
      ·rw [<- Hu];simpa using Bx2.made (w5.alloc (Uj #[Ud zd,Uf ya X.l.length yc,Uf yx X.n yd,Uf Hg Z.l.length Hh,Uf Hj Z.n Hi] 30)) (Ud K) (Uf va vn vc) 35)
     try rw [Hu]
     try rw [Hz]
     clear Hu b5 Hz Gb Gw Gs Gz Hk;go_upto_if 70 with fail;go_cut [13] from 38 to 76 (fun okv wx=>∃(Bo:Bool) (R':Rq) (K:Int) (va:Option Us) (vn vc:Nat),okv=Un Bo/\ Hid (DwI Rq.ok w wx B rb f n (rx n xx) L ba bb ⟨id,S,D,a,c,x,d,a',c',x',d'⟩ ⟨jd,T,E,g,k,y,m,g',k',y',m'⟩)/\ Hid (FlI wx L H R' K (Uf va vn vc) Bo));case first=>
      by_cases h7:r8=7
      ·have d7:((r8:Int)==7)=true:=oS;clear h7;have Gi:=hid (Qg5 id a x a' x' c d c' d' S D U5 (A.na.at A.oa).c.1 (A.na.at A.oa).c.2 (A.na.at A.oa).c'.1 (A.na.at A.oa).c'.2 (A.na.at A.oa).m.1 (A.na.at A.oa).m'.1 (A.na.at A.oa).s.lf (A.na.at A.oa).s.rn (A.na.at A.oa).t.lf (A.na.at A.oa).t.rn);rw [show whZ id S D=(2,S.b,true) from by unfold whZ;rw [if_pos A.oa,(QaQ (QaX A.oa).2.1).2.2]] at Gi;obtain⟨p0,p1,p2,p3,p4⟩:=A.a.q5;go_wp2_with fail;refine Gi.mono ?_;rintro e w7 ⟨K7,v7,zs,B7,rfl,hz,ho,b7⟩;injection hz with hz1 hz;injection hz with hz2 hz3;subst hz1 hz2 hz3;obtain⟨Hn,Ho,rfl,_⟩:=ho.any;have Hs:=hid (A.bw b7);have Ga:=hid (Qaa Hp b7);have F7:=Ha.fr.bw b7 Ha.fr.lt;have N7:=Ha.x.bw b7 Ha.x.lt;have HL:=hid Ha.bl;have Ku:Hid (U5.heap.size<=w7.heap.size/\ L<=U5.heap.size):=hid ⟨b7.size,A.lw⟩;have Gf:=hid ho;obtain⟨f0,f1,ff⟩:=F7.p2;have Kq:=hid F7;have Hw:=hid N7;clear p0 p1 p2 p3 p4 ho b7 F7 N7 Gi;obtain⟨p0,p1,p2,p3,p4⟩:=Hs.a.q5;obtain⟨q0,q1,q2,q3,q4,qf⟩:=Hw.p5;have Je:¬ba=H+1:=oJ HL Hs.la;have Jf:¬H+1=ba:=oM;go_wp2_with fail;go_meet;have z1:=HL.out;have z2:=Ht.out;have z3:=Ku.out;have z4:=Ha.fr.lt;have z5:=G.lw;have bT:Bl w4 ((w7.setCell (Ua (H+1) 0) (Ud 2)).setCell (Ua (H+1) 1) (Uf Hn S.b.length Ho)):=(Ga.setCell (p:=(Ua (H+1) 0)) oQ _).setCell (p:=(Ua (H+1) 1)) oQ _;have qT:∀q,q≠H+1 ->((w7.setCell (Ua (H+1) 0) (Ud 2)).setCell (Ua (H+1) 1) (Uf Hn S.b.length Ho)).heap[q]? =w7.heap[q]? :=fun q hq=>by rw [zH _ _ _ _ hq,zH _ _ _ _ hq]
       have zT:((w7.setCell (Ua (H+1) 0) (Ud 2)).setCell (Ua (H+1) 1) (Uf Hn S.b.length Ho)).heap.size=w7.heap.size:=(by simp [UL]);have FT:=Kq.set (Ud 2) (Uf Hn S.b.length Ho);have NT:=Hw.sm (qT H oM) oM;obtain⟨V,hV⟩:=zE ((w7.setCell (Ua (H+1) 0) (Ud 2)).setCell (Ua (H+1) 1) (Uf Hn S.b.length Ho));rw [hV] at bT zT FT NT ⊢;simp only [hV] at qT;clear hV;have bZ:=Qgd (r:=H) bT oM (Ud id) (Uf a S.l.length c) (Uf x S.n d) (Uf a' D.l.length c') (Uf x' D.n d');have zZ:=QhF V H (Ud id) (Uf a S.l.length c) (Uf x S.n d) (Uf a' D.l.length c') (Uf x' D.n d');exact⟨true,⟨id,S,D,a,c,x,d,a',c',x',d'⟩,2,Hn,S.b.length,Ho,rfl,hid (G.bw bZ),hid ⟨NT.set5 _ _ _ _ _,G.na.move zL bZ.size (fun q _ h2=>bZ.block q h2),G.oa,FT.sm (QcT V oM _ _ _ _ _) (Nat.le_of_eq zZ.symm),.inr ⟨rfl,.inl rfl,S,Hn,Ho,(QaX G.oa).2.1,rfl,(Gf.stay (fun q h1 h2=>(QcT V oM _ _ _ _ _).trans (qT q oM))).weak oM⟩,z1⟩⟩
      ·have d7:((r8:Int)==7)=false:=oS;go_wp2_with fail;go_meet;exact⟨Bo,_,K,va,vn,vc,rfl,A,Ha⟩
     case rest=>
     clear A Ha G Hp Ht;obtain⟨Bo,⟨zd,X,Z,ya,yc,yx,yd,Hg,Hh,Hj,Hi⟩,K,va,vn,vc,rfl,A,Ha⟩:=hcut;cases Bo with
     | false=>
      clear Ha;go_wp2_with fail;go_roundw;case rel=>exact⟨j+1,_,_,_,Hf,oN,A⟩
      case measure=>exact oE
     | true=>
      obtain⟨h,_⟩|⟨_,G6,Y,Jg,Jh,hY,hv,ho⟩:=Ha.fq
      ·cases h
      injection hv with e1 e2 e3;subst e1 e2 e3;obtain⟨Hv,H1,Kb,Kc⟩:=Qdb ho;have Gu:=hid (Qhr ⟨jd,T,E,g,k,y,m,g',k',y',m'⟩ K va vc Y wc (A.nb.at A.ob) A.ob G6 hY Kc (Qfu hY) Hv Kb);obtain⟨p0,p1,p2,p3,p4⟩:=A.b.q5;obtain⟨f0,f1⟩:=Ha.fr.q2;clear Hv H1 Kb Kc ho hY G6;go_wp2_with fail;refine Gu.mono ?_;rintro e w7 ⟨⟨td,X7,Z7,ta,tc,tx,K9,K5,K6,Ja,K8⟩,v7,C7,rfl,Kz,G8,Kn,b7⟩;simp only [Rq.vs];have Hs:=hid (A.bw b7);have Hw:=hid (G8.move (lo':=L) (w':=w7) A.lw zL (fun _ _ _=>rfl));have Gf:=hid Kn;have X8:=Ha.x.bw b7 Ha.x.lt;have Jb:=hid X8;have K1:¬H=bb/\¬bb=H:=oJ Ha.bl A.lb;obtain⟨K2,K3⟩:=K1;have H8:=hid (Hs.swap.setA Hw Gf).swap;have Ks:=hid (Rq.Nw.five (lo':=L) (r:=bb) (Ha.nx.move (w':=w7) zL b7.size (fun q _ h2=>b7.block q h2)) A.lb.2 zL (Ud td) (Uf ta X7.l.length tc) (Uf tx X7.n K9) (Uf K5 Z7.l.length K6) (Uf Ja Z7.n K8));have H9:=hid (H8.setA Ks Ha.ox);clear p0 p1 p2 p3 p4 f0 f1 b7 G8 Kn Kz Gu;obtain⟨p0,p1,p2,p3,p4,pf⟩:=Hs.b.p5;obtain⟨q0,q1,q2,q3,q4⟩:=X8.q5;obtain⟨r0,r1,r2,r3,r4,rf⟩:=H8.a.p5;dsimp only at r0 r1 r2 r3 r4 rf;clear X8;go_wp2_with fail;go_roundw;case rel=>exact⟨j+1,_,_,_,Hf,oN,H9⟩
      case measure=>exact oE
def QaN (w:Ur)(B size:Nat)(v:Value)(n:Nat)(xs:List Value):Prop:=
 ∃g off c,v=Uf (Uq (Ua g off)) n c/\ B<=g/\ g<w.heap.size/\ n<=c/\ c<=maxLen/\ xs.length=n*size/\ (∀j,j<n*size ->w.cell? (Ua g (off+j))=xs[j]?)/\ (∀j,j<c*size ->(w.cell? (Ua g (off+j))).isSome=true)/\ (∀j,j<c*size ->w.frozen? (Ua g (off+j))=false)
theorem Qi5{e:TypeId}{size:Nat}(h:w.ownsRow B e size v n xs)(hv:v≠Ue):QaN w B size v n xs:=by
 rcases h.2 with ⟨e,_⟩|⟨g,cap,k,e,m,u,y,q,r,z⟩
 ·exact absurd e hv
 ·subst e;refine⟨g,0,cap,rfl,m,(h.lt g rfl).2,y,q,h.1,fun j hj=> ?_,fun j hj=> ?_,fun j hj=> ?_⟩
  ·rw [VS];exact h.cellAt j hj
  ·rw [VS];have:j<k.size:=(by rw [r];exact hj);simp [YO,u,this]
  ·rw [VS];exact h.frozenAt j
theorem QaN.bw{size:Nat}(h:QaN w B size v n xs)(hb:Below C w w')(hC:w.heap.size<=C):QaN w' B size v n xs:=by
 obtain⟨g,off,c,e,y,m,o,z,t,q,r,u⟩:=h;have k:g<C:=Ut m hC;exact⟨g,off,c,e,y,Ut m hb.size,o,z,t,fun j hj=>(hb.cell (p:=(Ua g (off+j))) k).trans (q j hj),fun j hj=>by rw [hb.cell (p:=(Ua g (off+j))) k];exact r j hj,fun j hj=>(hb.frozen (p:=(Ua g (off+j))) k).trans (u j hj)⟩
theorem QaN.gr{size:Nat}(h:QaN w B size v n xs)(hg:w.grownBy w' row)(hne:v.ownBlock≠row):QaN w' B size v n xs:=by
 obtain⟨g,off,c,rfl,u,k,t,y,z,m,q,r⟩:=h;have e:w'.heap[g]? =w.heap[g]? :=hg.block g k hne;exact⟨g,off,c,rfl,u,Ut k hg.size,t,y,z,fun j hj=>(US e).trans (m j hj),fun j hj=>by rw [US (a:=(Ua g (off+j))) e];exact q j hj,fun j hj=>(UT (a:=(Ua g (off+j))) e).trans (r j hj)⟩
theorem QaN.weak{B' size:Nat}(h:QaN w B size v n xs)(hB:B'<=B):QaN w B' size v n xs:=by
 obtain⟨g,off,c,e,j,r⟩:=h;exact⟨g,off,c,e,Uw hB j,r⟩
theorem QaN.lt{size:Nat}(h:QaN w B size v n xs):∃g,v.ownBlock=Uq g/\ B<=g/\ g<w.heap.size:=by
 obtain⟨g,off,c,rfl,j,k,_⟩:=h;exact⟨g,rfl,j,k⟩
theorem QbA (b:Nat):∀(vs:List Value) (o:Nat) (w:Ur),w.grownBy (w.setCells b o vs) (Uq b)
 | [],o,w=>⟨rfl,rfl,rfl,Uv _,fun _ _ _=>rfl⟩
 | v::r,o,w=>by
  have j:=QbA b r (o+1) (w.setCell (Ua b o) v);have m:(w.setCell (Ua b o) v).heap.size=w.heap.size:=by simp [UL]
  exact⟨j.os,j.tape,j.output,by have:=j.size;rw [m] at this;exact this,fun k hk hne=>(j.block k (by rw [m];exact hk) hne).trans (Below.heap_setCell _ _ _ _ (fun e=>hne (by rw [e])))⟩
theorem Qho(w:Ur)(B:Nat)(t ty e:TypeId)(i:TypeInfo)(z:Value)(size bytes:Nat)(ht:P.underlying t=Uq (.slice e))(hi:P.info? e=Uq i)(hz:i.zero=Uq z)
  (hsize:i.size=size) (hby:i.bytes=bytes) (hzs:z.cells.size=size) (v:Value) (n:Nat) (xs:List Value) (hown:QaN w B size v n xs)
  (a:Us) (m c:Nat) (news:List Value) (hl:news.length=m*size) (hnews:∀j u,news[j]? =Uq u ->w.cell? (a.add j)=Uq u) (h1:∀u∈news,u.oneCell'=true)
  (h63:n+m<=maxLen) (hbytes:(n+m)*bytes<=140737488355328) (hbase:B<=w.heap.size):
  ∃v' w',(Builtin.append_ #[t,t] ty #[v,Uf (Uq a) m c]).run P w=.ok v' w'/\ QaN w' B size v' (n+m) (xs++news)/\ w.grownBy w' v.ownBlock/\ (v'.ownBlock=v.ownBlock \/v'.ownBlock=Uq w.heap.size):=by
 subst hsize;subst hby;obtain⟨g,off,cap,rfl,G,J,D,I,o,Q,U,V⟩:=hown;have O:Src P i.size t (Uf (Uq a) m c) m news w:=Src.ofSlice w ht a m c news hl hnews h1;have r:(xs++news).length=(n+m)*i.size:=by rw [UB,o,hl,JR]
 have F:(n+m)*i.size=n*i.size+m*i.size:=JR _ _ _;by_cases b:n+m<=cap
 ·have N:(n+m)*i.size<=cap*i.size:=UR _ b;have Y:∀j,j<news.length ->(w.cell? (Ua g (off+n*i.size+j))).isSome=true:=fun j q=>by rw [UQ];exact U _ oM
  have y:=run_append_room_src (P:=P) (w:=w) t t ty e i ht hi g off n cap (Uf (Uq a) m c) m news O b Y (fun j q=>by rw [UQ];exact V _ oM);have E:=World.cell?_setCells_in g news (off+n*i.size) w Y;refine⟨_,_,y,⟨g,off,cap,rfl,G,?_,b,I,r,fun j q=> ?_,fun j q=> ?_,fun j q=> ?_⟩,QbA g news _ w,.inl rfl⟩
  ·exact Ut J (QbA g news _ w).size
  ·by_cases M:j<n*i.size
   ·rw [JC g news _ w _ (fun _ _=> .inl oQ),Q j M,List.getElem?_append_left oM]
   ·have:=E (j - n*i.size) oM;rw [show off+n*i.size+(j - n*i.size)=off+j by omega] at this;rw [this,List.getElem?_append_right oM,o,List.getElem?_eq_getElem oM]
  ·by_cases M:n*i.size<=j/\ j<n*i.size+news.length
   ·have:=E (j - n*i.size) oM;rw [show off+n*i.size+(j - n*i.size)=off+j by omega] at this;rw [this];rfl
   ·rw [JC g news _ w _ (fun _ _=>oQ)];exact U j q
  ·rw [World.frozen?_setCells];exact V j q
 ·have K:(Builtin.firstCells i.size n (Uf (Uq (Ua g off)) n cap)).run P w.drew=.ok xs.toArray w.drew:=run_firstCells_some (P:=P) w.drew i.size n (Ua g off) n cap xs o (fun j u hu=>by
   have q:j<xs.length:=(List.getElem?_eq_some_iff.1 hu).1;have:=Q j oM;rw [hu] at this;have Z:((Ua g off):Us).add j=(Ua g (off+j)):=by
    by_cases p:j=0
    ·subst p;simp [Addr.add]
    ·simp [Addr.add,p]
   rw [Z];exact this)
  have y:=run_append_grow_src (P:=P) (w:=w) t t ty e i z ht hi hz (Uq (Ua g off)) n cap xs K (Uf (Uq a) m c) m news O oM (by unfold maxLen at h63;omega) (growslice_fits oM hbytes);have h:=grownCap_ge w (n+m) cap e;have A:grownCap w (n+m) cap e<=maxLen:=grownCap_le_maxLen w (n+m) cap e h63;obtain⟨C,H⟩:=zE (grownCap w (n+m) cap e);rw [H] at y h A;have X:(n+m)*i.size<=C*i.size:=UR _ h;have L:((xs++news).toArray++Builtin.zeroCells z.cells (C - (n+m))).size=C*i.size:=by
   simp only [Array.size_append,Yq,size_zeroCells,hzs];rw [r,<- JR];congr 1;omega
  have s:∀j,(w.drew.alloc (.cells ((xs++news).toArray++Builtin.zeroCells z.cells (C - (n+m))) e)).cell? (Ua w.heap.size j)=((xs++news).toArray++Builtin.zeroCells z.cells (C - (n+m)))[j]? :=fun j=>by
   have:=heap_alloc_new w.drew (.cells ((xs++news).toArray++Builtin.zeroCells z.cells (C - (n+m))) e);rw [show (w.drew).heap.size=w.heap.size from rfl] at this;unfold YO;dsimp only;rw [this];rfl
  refine⟨_,_,y,⟨w.heap.size,0,C,rfl,hbase,oP,h,A,r,fun j q=> ?_,fun j q=> ?_,fun j q=> ?_⟩,⟨rfl,rfl,rfl,oP,fun k hk _=>heap_alloc_old w.drew _ hk⟩,.inr rfl⟩
  ·rw [VS,s,Array.getElem?_append_left (by rw [Yq,r];exact q)];simp
  ·rw [VS,s,Array.getElem?_eq_getElem (by rw [L];exact q)];rfl
  ·rw [VS];have:=heap_alloc_new w.drew (.cells ((xs++news).toArray++Builtin.zeroCells z.cells (C - (n+m))) e);rw [show (w.drew).heap.size=w.heap.size from rfl] at this;unfold World.frozen?;dsimp only;rw [this];show (decide (0<=j) && decide (j<0))=false;simp
theorem Qfd{o:Oper}{a:Act}{K:Act ->Ur ->Prop}{Q:Exit ->Act ->Ur ->Prop}(s x:Operand)(t:TypeId)
  (ho:o.op=.call {callee:=.builtin .append,args:=#[s,x],argTypes:=#[t,t]})
  (base:Nat) (e:TypeId) (i:TypeInfo) (z:Value) (size bytes:Nat) (ht:P.underlying t=Uq (.slice e)) (hi:P.info? e=Uq i) (hz:i.zero=Uq z)
  (hsize:i.size=size) (hby:i.bytes=bytes) (hzs:z.cells.size=size)
  (v:Value) (n:Nat) (xs:List Value) (hs:a.eval s=v) (hown:QaN w base size v n xs)
  (ad:Us) (m c:Nat) (news:List Value) (hx:a.eval x=Uf (Uq ad) m c) (hl:news.length=m*size) (hnews:∀j u,news[j]? =Uq u ->w.cell? (ad.add j)=Uq u) (h1:∀u∈news,u.oneCell'=true)
  (h63:n+m<=maxLen) (hbytes:(n+m)*bytes<=140737488355328) (hbase:base<=w.heap.size)
  (h:∀v' w',QaN w' base size v' (n+m) (xs++news) ->w.grownBy w' v.ownBlock ->(v'.ownBlock=v.ownBlock \/v'.ownBlock=Uq w.heap.size) ->K (a.put o.dst v') w'):o.wp P a w K Q:=by
 obtain⟨v',w',y,k,q,r⟩:=Qho (P:=P) w base t o.type e i z size bytes ht hi hz hsize hby hzs v n xs hown ad m c news hl hnews h1 h63 hbytes hbase;unfold Oper.wp execOp;simp only [ho,resolve,invoke,builtin,Sem.run_bind,Sem.run_pure,Result.andThen_ok,JJ,UD,Vr,hs,hx,y];exact h v' w' k q r
theorem Qc6{ops:Array Oper}{rest:List Oper}{o:Oper}{a:Act}{Q:Exit ->Act ->Ur ->Prop}(hgd:o.guard=Up)(s x:Operand)(t:TypeId)
  (ho:o.op=.call {callee:=.builtin .append,args:=#[s,x],argTypes:=#[t,t]})
  (base:Nat) (e:TypeId) (i:TypeInfo) (z:Value) (size bytes:Nat) (ht:P.underlying t=Uq (.slice e)) (hi:P.info? e=Uq i) (hz:i.zero=Uq z)
  (hsize:i.size=size) (hby:i.bytes=bytes) (hzs:z.cells.size=size)
  (v:Value) (n:Nat) (xs:List Value) (hs:a.eval s=v) (hown:QaN w base size v n xs)
  (ad:Us) (m c:Nat) (news:List Value) (hx:a.eval x=Uf (Uq ad) m c) (hl:news.length=m*size) (hnews:∀j u,news[j]? =Uq u ->w.cell? (ad.add j)=Uq u) (h1:∀u∈news,u.oneCell'=true)
  (h63:n+m<=maxLen) (hbytes:(n+m)*bytes<=140737488355328) (hbase:base<=w.heap.size)
  (h:∀v' w',QaN w' base size v' (n+m) (xs++news) ->w.grownBy w' v.ownBlock ->(v'.ownBlock=v.ownBlock \/v'.ownBlock=Uq w.heap.size) ->wpList P ops Q rest (a.put o.dst v') w'):wpList P ops Q (o::rest) a w:=
 wpList_plain hgd fun _ hK=>Qfd s x t ho base e i z size bytes ht hi hz hsize hby hzs v n xs hs hown ad m c news hx hl hnews h1 h63 hbytes hbase fun v' w' h2 h3 h4=>hK _ _ (h v' w' h2 h3 h4)
open Go.Sort
def QbV (w:Ur)(B:Nat)(v:Value)(l:List Rn):Prop:=QaN w B 3 v l.length (Qaf l)
theorem Qjf:∀(l:List Rn) (i:Nat),i<l.length ->(Qaf l)[i*3]? =Uq (Ud (gR l i).1)/\ (Qaf l)[i*3+1]? =Uq (Ud (gR l i).2.1)/\ (Qaf l)[i*3+2]? =Uq (Ud (gR l i).2.2)
 | [],i,hi=>by simp at hi
 | a::l,0,hi=>by simp [Qaf,gR]
 | a::l,i+1,hi=>by
  have:=Qjf l i (oU hi);have e:Qaf (a::l)=Ud a.1::Ud a.2.1::Ud a.2.2::Qaf l:=by simp [Qaf]
  rw [e,show (i+1)*3=i*3+1+1+1 from by omega];simpa [gR] using this
theorem QbV.fs(h:QbV w B v l):∃g off c,v=Uf (Uq (Ua g off)) l.length c/\ FS w (Uq (Ua g off)) l/\ l.length<=c/\ c<=9223372036854775807/\ B<=g/\ g<w.heap.size:=by
 obtain⟨g,off,c,e,m,k,r,q,b,j,t,o⟩:=h;refine⟨g,off,c,e,.inr ⟨g,off,rfl,k,fun i hi=> ?_⟩,r,by unfold maxLen at q;omega,m,k⟩;obtain⟨u,y,z⟩:=Qjf l i hi;rw [j _ oM,UQ,j _ oM,UQ,j _ oM];exact⟨u,y,z⟩
def BRn (l:List Rn):Prop:=∀p∈l,0<=p.1/\ p.1<=7/\ 0<=p.2.1/\ p.2.1<=1000000000/\ 0<=p.2.2/\ p.2.2<=1000000000
theorem Qcy.br(h:Qcy l):BRn l:=fun p hp=>by
 have:=h.2 p hp;unfold Rok at this;omega
theorem QiQ (w:Ur)(a b c:Value)(t:TypeId):∀j u,[a,b,c][j]? =Uq u ->(w.alloc (Uj #[a,b,c] t)).cell? (((Ub w.heap.size):Us).add j)=Uq u:=by
 intro j u k;match j,k with
 | 0,k=>simp at k;subst k;simp [Addr.add]
 | 1,k=>simp at k;subst k;simp [Addr.add]
 | 2,k=>simp at k;subst k;simp [Addr.add]
theorem QaN.put1{size:Nat}(h:QaN w B size (Uf (Uq (Ua g off)) n c) n xs)(j:Nat)(hj:j<n*size)(a:Value):QaN (w.setCell (Ua g (off+j)) a) B size (Uf (Uq (Ua g off)) n c) n (xs.set j a):=by
 obtain⟨s,E,c',e,z,i,q,o,b,v,m,y⟩:=h;injection e with e1 _ e3;injection e1 with e1;injection e1 with e1 e2 _;subst e1 e2 e3;have A:n*size<=c*size:=UR _ q;have p:∃u,w.cell? (Ua g (off+j))=Uq u:=Option.isSome_iff_exists.1 (m j oM);obtain⟨u,r⟩:=p;refine⟨g,off,c,rfl,z,by simp [UL];exact i,q,o,by simp [b],fun t ht=> ?_,fun t ht=> ?_,fun t ht=> ?_⟩
 ·by_cases k:t=j
  ·subst k;rw [UM _ _ _ r,List.getElem?_set_self oM]
  ·rw [UN _ _ _ _ (by intro e;injection e with _ e;omega),JK (fun e=>k e.symm)];exact v t ht
 ·by_cases k:t=j
  ·subst k;rw [UM _ _ _ r];rfl
  ·rw [UN _ _ _ _ (by intro e;injection e with _ e;omega)];exact m t ht
 ·rw [UK];exact y t ht
theorem QeI:∀(l:List Rn) (i:Nat) (a b c:Int),Qaf (l.set i (a,b,c))=(((Qaf l).set (i*3) (Ud a)).set (i*3+1) (Ud b)).set (i*3+2) (Ud c)
 | [],i,a,b,c=>by simp [Qaf]
 | p::l,0,a,b,c=>by simp [Qaf]
 | p::l,i+1,a,b,c=>by
  have e:∀q:Rn,∀m:List Rn,Qaf (q::m)=Ud q.1::Ud q.2.1::Ud q.2.2::Qaf m:=fun q m=>by simp [Qaf]
  rw [JL,e,e,QeI l i a b c,show (i+1)*3=i*3+1+1+1 from by omega];simp [JL]
theorem QbV.put(h:QbV w B (Uf (Uq (Ua g off)) l.length c) l)(i:Nat)(hi:i<l.length)(a b d:Int):
  QbV (((w.setCell (Ua g (off+i*3)) (Ud a)).setCell (Ua g (off+i*3+1)) (Ud b)).setCell (Ua g (off+i*3+2)) (Ud d)) B (Uf (Uq (Ua g off)) l.length c) (l.set i (a,b,d)):=by
 have j:=QaN.put1 h (i*3) oM (Ud a);have k:=QaN.put1 j (i*3+1) oM (Ud b);have m:=QaN.put1 k (i*3+2) oM (Ud d);unfold QbV;rw [JM,QeI];exact m
structure FrB (w w':Ur)(C rb:Nat):Prop where
 os:w'.os=w.os
 tape:w'.tape=w.tape
 output:w'.output=w.output
 size:w.heap.size<=w'.heap.size
 block:∀k,k<C ->k≠rb ->w'.heap[k]? =w.heap[k]?
def BSn (l:List Rn):Prop:=∀p∈l, -100<=p.1/\ p.1<=100/\ -100<=p.2.1/\ p.2.1<=2000000000/\ -100<=p.2.2/\ p.2.2<=2000000000
theorem BRn.bs(h:BRn l):BSn l:=fun p hp=>by have:=h p hp;omega
theorem BSn.set(h:BSn l)(i:Nat)(a b c:Int)(h0: -100<=a/\ a<=100/\ -100<=b/\ b<=2000000000/\ -100<=c/\ c<=2000000000):BSn (l.set i (a,b,c)):=fun p j=>by
 rcases List.mem_or_eq_of_mem_set j with j|j
 ·exact h p j
 ·subst j;exact h0
theorem BSn.snoc(h:BSn l)(a b c:Int)(h0: -100<=a/\ a<=100/\ -100<=b/\ b<=2000000000/\ -100<=c/\ c<=2000000000):BSn (l++[(a,b,c)]):=fun p j=>by
 rcases List.mem_append.1 j with j|j
 ·exact h p j
 ·simp at j;subst j;exact h0
theorem QbV.lit1 (w:Ur)(B:Nat)(hB:B<=w.heap.size)(a b c:Int):QbV (w.alloc (Uj #[Ud a,Ud b,Ud c] 89)) B (Uf (Uc w.heap.size) 1 1) [(a,b,c)]:=by
 refine⟨w.heap.size,0,1,rfl,hB,oP,Uv _,oL,rfl,fun j hj=> ?_,fun j hj=> ?_,fun j hj=> ?_⟩
 ·have k:j<3:=oU hj;rw [VS];match j,k with
  | 0,_=>simp [Qaf]
  | 1,_=>simp [Qaf]
  | 2,_=>simp [Qaf]
 ·have k:j<3:=oU hj;rw [VS];match j,k with
  | 0,_=>simp
  | 1,_=>simp
  | 2,_=>simp
 ·simp
theorem QbV.at(h:QbV w B (Uf (Uq (Ua g off)) n c) l)(i:Nat)(hi:i<l.length):
  (w.cell? (Ua g (off+i*3))=Uq (Ud (gR l i).1)/\ w.cell? (Ua g (off+i*3+1))=Uq (Ud (gR l i).2.1)/\ w.cell? (Ua g (off+i*3+2))=Uq (Ud (gR l i).2.2))/\ w.frozen? (Ua g (off+i*3))=false/\ w.frozen? (Ua g (off+i*3+1))=false/\ w.frozen? (Ua g (off+i*3+2))=false:=by
 obtain⟨v,s,c',e,z,b,m,t,p,j,y,k⟩:=h;injection e with e1 _ e3;injection e1 with e1;injection e1 with e1 e2 _;subst e1 e2 e3;obtain⟨q,r,u⟩:=Qjf l i hi;have o:l.length*3<=c*3:=UR _ m;refine⟨⟨(j _ oM).trans q,?_,?_⟩,k _ oM,?_,?_⟩
 ·rw [UQ];exact(j _ oM).trans r
 ·rw [UQ];exact(j _ oM).trans u
 ·rw [UQ];exact k _ oM
 ·rw [UQ];exact k _ oM
theorem Qcm(h:QbV w1 C (Uf (Uq (Ua g off)) l.length c) l)(hi:ii<l.length)(m1:w1.cell? (Ub b4)=Uq Ue)(hg:g≠b4)(hC:C<=b4)(hz:b4<w1.heap.size)(a b d:Int)(o:Obj):
  QbV (((((w1.setCell (Ua g (off+ii*3)) (Ud a)).setCell (Ua g (off+ii*3+1)) (Ud b)).setCell (Ua g (off+ii*3+2)) (Ud d)).setCell (Ub b4) (Uf (Uq (Ua g off)) l.length c)).alloc o) C (Uf (Uq (Ua g off)) l.length c) (l.set ii (a,b,d))/\
  Below C w1 (((((w1.setCell (Ua g (off+ii*3)) (Ud a)).setCell (Ua g (off+ii*3+1)) (Ud b)).setCell (Ua g (off+ii*3+2)) (Ud d)).setCell (Ub b4) (Uf (Uq (Ua g off)) l.length c)).alloc o)/\
  (((((w1.setCell (Ua g (off+ii*3)) (Ud a)).setCell (Ua g (off+ii*3+1)) (Ud b)).setCell (Ua g (off+ii*3+2)) (Ud d)).setCell (Ub b4) (Uf (Uq (Ua g off)) l.length c)).alloc o).cell? (Ub b4)=Uq (Uf (Uq (Ua g off)) l.length c):=by
 obtain⟨s,t,m,_⟩:=QaN.lt h;have i:g=s:=by simpa [Value.ownBlock] using t
 subst i;have y:=h.put ii hi a b d;obtain⟨W,j⟩:=zE (((w1.setCell (Ua g (off+ii*3)) (Ud a)).setCell (Ua g (off+ii*3+1)) (Ud b)).setCell (Ua g (off+ii*3+2)) (Ud d));have z:Below C w1 W:=by rw [<- j];exact((zI.setCell (p:=(Ua g (off+ii*3))) m _).setCell (p:=(Ua g (off+ii*3+1))) m _).setCell (p:=(Ua g (off+ii*3+2))) m _
 have M:W.heap.size=w1.heap.size:=by rw [<- j];simp [UL]
 have E:W.cell? (Ub b4)=Uq Ue:=by
  rw [<- j];have q:∀(X:Ur) (o:Nat) (u:Value),(X.setCell (Ua g o) u).cell? (Ub b4)=X.cell? (Ub b4):=fun X o u=>UN _ _ _ _ (fun e=>hg (by injection e));rw [q,q,q];exact m1
 rw [j] at y ⊢;have A:W.grownBy (W.setCell (Ub b4) (Uf (Uq (Ua g off)) l.length c)) (Uq b4):=⟨rfl,rfl,rfl,by simp [UL],fun k hk hne=>zH _ _ _ _ (fun e=>hne (by rw [e]))⟩;have r:(W.setCell (Ub b4) (Uf (Uq (Ua g off)) l.length c)).heap.size=w1.heap.size:=by rw [<- M];simp [UL]
 have v:=(Below.refl w1.heap.size (W.setCell (Ub b4) (Uf (Uq (Ua g off)) l.length c))).alloc (by rw [r];exact Uv _) o;refine⟨QaN.bw (QaN.gr y A (fun e=>by simp [Value.ownBlock] at e;exact hg e)) v (by rw [r];exact Uv _),(z.setCell (p:=(Ub b4)) hC _).alloc (by rw [r];omega) o,?_⟩;exact(v.cell (p:=(Ub b4)) hz).trans (UM _ _ _ E)
theorem Qdw(h:QbV w1 C (Uf (Uq (Ua g off)) l.length c) l)(hi:ii<l.length)(m1:w1.cell? (Ub b4)=Uq Ue)(hg:g≠b4)(hC:C<=b4)(a b d:Int):
  QbV ((((w1.setCell (Ua g (off+ii*3)) (Ud a)).setCell (Ua g (off+ii*3+1)) (Ud b)).setCell (Ua g (off+ii*3+2)) (Ud d)).setCell (Ub b4) (Uf (Uq (Ua g off)) l.length c)) C (Uf (Uq (Ua g off)) l.length c) (l.set ii (a,b,d))/\
  Below C w1 ((((w1.setCell (Ua g (off+ii*3)) (Ud a)).setCell (Ua g (off+ii*3+1)) (Ud b)).setCell (Ua g (off+ii*3+2)) (Ud d)).setCell (Ub b4) (Uf (Uq (Ua g off)) l.length c))/\
  ((((w1.setCell (Ua g (off+ii*3)) (Ud a)).setCell (Ua g (off+ii*3+1)) (Ud b)).setCell (Ua g (off+ii*3+2)) (Ud d)).setCell (Ub b4) (Uf (Uq (Ua g off)) l.length c)).cell? (Ub b4)=Uq (Uf (Uq (Ua g off)) l.length c):=by
 obtain⟨t,y,j,_⟩:=QaN.lt h;have z:g=t:=by simpa [Value.ownBlock] using y
 subst z;have r:=h.put ii hi a b d;obtain⟨W,m⟩:=zE (((w1.setCell (Ua g (off+ii*3)) (Ud a)).setCell (Ua g (off+ii*3+1)) (Ud b)).setCell (Ua g (off+ii*3+2)) (Ud d));have v:Below C w1 W:=by rw [<- m];exact((zI.setCell (p:=(Ua g (off+ii*3))) j _).setCell (p:=(Ua g (off+ii*3+1))) j _).setCell (p:=(Ua g (off+ii*3+2))) j _
 have s:W.cell? (Ub b4)=Uq Ue:=by
  rw [<- m];have q:∀(X:Ur) (o:Nat) (u:Value),(X.setCell (Ua g o) u).cell? (Ub b4)=X.cell? (Ub b4):=fun X o u=>UN _ _ _ _ (fun e=>hg (by injection e));rw [q,q,q];exact m1
 rw [m] at r ⊢;have i:W.grownBy (W.setCell (Ub b4) (Uf (Uq (Ua g off)) l.length c)) (Uq b4):=⟨rfl,rfl,rfl,by simp [UL],fun k hk hne=>zH _ _ _ _ (fun e=>hne (by rw [e]))⟩;exact⟨QaN.gr r i (fun e=>by simp [Value.ownBlock] at e;exact hg e),v.setCell (p:=(Ub b4)) hC _,UM _ _ _ s⟩
theorem Qg7{ops:Array Oper}{o:Oper}{a:Act}{K:Act ->Ur ->Prop}{Q:Exit ->Act ->Ur ->Prop}{E:Prop}(hgd:o.guard=Up)(s x:Operand)(t:TypeId)
  (ho:o.op=.call {callee:=.builtin .append,args:=#[s,x],argTypes:=#[t,t]})
  (base:Nat) (e:TypeId) (i:TypeInfo) (z:Value) (size bytes:Nat) (ht:P.underlying t=Uq (.slice e)) (hi:P.info? e=Uq i) (hz:i.zero=Uq z)
  (hsize:i.size=size) (hby:i.bytes=bytes) (hzs:z.cells.size=size)
  (v:Value) (n:Nat) (xs:List Value) (hs:a.eval s=v) (hown:QaN w base size v n xs)
  (ad:Us) (m c:Nat) (news:List Value) (hx:a.eval x=Uf (Uq ad) m c) (hl:news.length=m*size) (hnews:∀j u,news[j]? =Uq u ->w.cell? (ad.add j)=Uq u) (h1:∀u∈news,u.oneCell'=true)
  (h63:n+m<=maxLen) (hbytes:(n+m)*bytes<=140737488355328) (hbase:base<=w.heap.size)
  (h:∀k q c' w',QaN w' base size (Uf (Uq (Ua k q)) (n+m) c') (n+m) (xs++news) ->w.grownBy w' v.ownBlock ->(Uq k=v.ownBlock \/Uq k=Uq w.heap.size) ->K (a.put o.dst (Uf (Uq (Ua k q)) (n+m) c')) w'):
  if Region.wanted o (yielded ops a.tmps)=true then Oper.wp P o a w K Q else E:=by
 have y:Region.wanted o (yielded ops a.tmps)=true:=by simp [Region.wanted,hgd]
 rw [if_pos y];refine Qfd s x t ho base e i z size bytes ht hi hz hsize hby hzs v n xs hs hown ad m c news hx hl hnews h1 h63 hbytes hbase (fun v' w' h2 h3 h4=> ?_);obtain⟨k,q,c',rfl,r⟩:=h2;exact h k q c' w' ⟨k,q,c',rfl,r⟩ h3 (h4.imp id id)
theorem Qez {W2 w7:Ur}{b3 b7 g7 o7 c7 ii:Nat}{L:List Rn}{u3 p0 p1 p2:Value}(hg:W2.grownBy w7 (Uq g))(ho:QbV w7 C (Uf (Uq (Ua g7 o7)) L.length c7) L)(hl:g7=g \/W2.heap.size<=g7)(h3:b3<W2.heap.size)(h4:b4<W2.heap.size)(h7:b7<W2.heap.size)(n3:g≠b3)(n4:g≠b4)(n7:g≠b7)(n34:b3≠b4)(n37:b3≠b7)(hC3:C<=b3)(hCg:C<=g)(hCW:C<=W2.heap.size)
  (c3:W2.cell? (Ub b3)=Uq u3) (f3:W2.frozen? (Ub b3)=false) (c4:W2.cell? (Ub b4)=Uq Ue) (f4:W2.frozen? (Ub b4)=false) (q0:W2.cell? (Ub b7)=Uq p0) (q1:W2.cell? (Ua b7 1)=Uq p1) (q2:W2.cell? (Ua b7 2)=Uq p2):
  (w7.cell? (Ub b3)=Uq u3/\ w7.frozen? (Ub b3)=false/\ g7≠b4/\ g7≠b3)/\∀j,w7.setCell (Ub b3) (Uf (Uq (Ua g7 o7)) L.length c7)=j ->
   j.cell? (Ub b3)=Uq (Uf (Uq (Ua g7 o7)) L.length c7)/\ j.cell? (Ub b4)=Uq Ue/\ j.frozen? (Ub b4)=false/\ j.cell? (Ub b7)=Uq p0/\ j.cell? (Ua b7 1)=Uq p1/\ j.cell? (Ua b7 2)=Uq p2/\ QbV j C (Uf (Uq (Ua g7 o7)) L.length c7) L/\ Below C W2 j:=by
 have v:=hg.block b3 h3 (fun e=>n3 (by injection e with e;exact e.symm));have y:=hg.block b4 h4 (fun e=>n4 (by injection e with e;exact e.symm));have m:=hg.block b7 h7 (fun e=>n7 (by injection e with e;exact e.symm));have r:=(US (a:=(Ub b3)) v).trans c3;refine⟨⟨r,(UT (a:=(Ub b3)) v).trans f3,by rcases hl with h|h<;>omega,by rcases hl with h|h<;>omega⟩,?_⟩;rintro j rfl;have q:∀(b o:Nat) (u:Value),b3≠b ->(w7.setCell (Ub b3) u).cell? (Ua b o)=w7.cell? (Ua b o):=fun b o u hb=>UN _ _ _ _ (fun e=>hb (by injection e));have t:∀u,w7.grownBy (w7.setCell (Ub b3) u) (Uq b3):=fun u=>⟨rfl,rfl,rfl,by simp [UL],fun k hk hne=>zH _ _ _ _ (fun e=>hne (by rw [e]))⟩;have z:Below C W2 w7:=zI.grown hg hCW (fun k e=>oI e);refine⟨UM _ _ _ r,?_,?_,?_,?_,?_,QaN.gr ho (t _) (fun e=>by simp [Value.ownBlock] at e;rcases hl with h|h<;>omega),z.setCell (p:=(Ub b3)) hC3 _⟩
 ·rw [q _ _ _ n34];exact(US (a:=(Ub b4)) y).trans c4
 ·rw [UK];exact(UT (a:=(Ub b4)) y).trans f4
 ·rw [q _ _ _ n37];exact(US (a:=(Ub b7)) m).trans q0
 ·rw [q _ _ _ n37];exact(US (a:=(Ua b7 1)) m).trans q1
 ·rw [q _ _ _ n37];exact(US (a:=(Ua b7 2)) m).trans q2
def spR (k:Nat)(p q:Rn)(l:List Rn)(i:Nat):List Rn:=
 if k%8=0 then l.set i (((k/8:Nat):Int) - 8,p.2.1,p.2.2)
 else if k%8=1 then l.set i (p.1,p.2.2+1,p.2.2)
 else if k%8=2 then l.set i (p.1,p.2.1,1000000001)
 else if k%8=3 then l.set i (p.1,0,p.2.2)
 else if k%8=4 then(l++[(p.1,p.2.2+1,p.2.2+2)]).set i p
 else if k%8=5 then(l++[p]).set i p
 else if k%8=6 then(l++[q]).set i p
 else l.set i (p.1,p.2.1 - 1,p.2.2)
def spF (k:Nat)(l:List Rn):List Rn:=if l.length=0 then [(0,0,(k:Int))] else spR k (gR l (k/8%l.length)) (gR l 0) l (k/8%l.length)
theorem Qpl(hk:k<256)(h:BRn l):(spF k l).length<=l.length+1/\ BSn (spF k l):=by
 unfold spF;split
 ·exact⟨oP,fun p j=>by simp at j;subst j;simp only;omega⟩
 ·rename_i h0;have hi:k/8%l.length<l.length:=Nat.mod_lt _ oM;have j:=h _ (QdW hi);have r:=h _ (QdW (show 0<l.length by omega));generalize k/8%l.length=i at hi j ⊢;generalize gR l i=p at j ⊢;generalize gR l 0=q at r ⊢;obtain⟨u,v,y⟩:=p;obtain⟨z,g,t⟩:=q;simp only at j r;have m:=h.bs;unfold spR;repeat' split
  all_goals refine⟨oP,?_⟩
  all_goals first|exact m.set i _ _ _ (by first|omega|(simp only;omega))|exact(m.snoc _ _ _ (by first|omega|(simp only;omega))).set i _ _ _ (by first|omega|(simp only;omega))
theorem Qpq (B rb C:Nat)(f:Nat ->Int)(n x:Nat)(v:Value)(l:List Rn)(w:Ur)(h:RdJ w B rb f n x)(hB:B<=C)(hC:C<=w.heap.size)(C0:Nat)(ho:QbV w C0 v l)(h0:l.length=0 \/C0=C)(hB0:B<=C0)(hl:l.length<=1001)(hbr:BRn l):
  Cl 66 #[Uk (Uc rb),Uo #[v]] w fun e w'=>∃v',e=Ui (Uo #[v'])/\ QbV w' C v' (spF (rk f n x) l)/\ RdJ w' B rb f n (rx n x)/\ FrB w w' C rb:=by
 obtain⟨k,Ga⟩:=zE (rk f n x);rw [Ga];obtain⟨i0,H8,Gi,Gj,Gk⟩:=info_parts Tryz.infoRun;obtain⟨g,off,c,rfl,Gz,G6,G7,H7,G8⟩:=ho.fs;clear Gz;obtain⟨W,hW⟩:=zE ((w.alloc (Uj #[Uf (Uq (Ua g off)) l.length c] 26)).alloc (Uj #[Ue] 26));have bW:Bl w W:=hW▸Qad _ _ _;have k0:W.cell? (Ub w.heap.size)=Uq (Uf (Uq (Ua g off)) l.length c):=hW▸oP;have k1:W.cell? (Ua (w.heap.size+1) 0)=Uq Ue:=hW▸oP;have f0:W.frozen? (Ub w.heap.size)=false:=hW▸oP;have f1:W.frozen? (Ua (w.heap.size+1) 0)=false:=hW▸oP;have zW:Hid (W.heap.size=w.heap.size+2):=hW▸hid oP;have Kc:=h.lt;have HR:=hid (h.bw (bW.mono oM));have HO:=hid (QaN.bw ho bW zL);have Hl:=hid bW;have hk:=Qhl HR;have Gm:=hid (QaJ B rb f n x W HR);rw [Ga] at hk Gm;clear h bW ho Ga;go_enter func66,ntmps66;go_wp2_with fail;try rw [hW]
 clear hW;refine Gm.mono ?_;rintro e w1 ⟨rfl,r1,D⟩;have z1:=D.size;have K:w.heap.size+1<w1.heap.size:=oH zW;have nb:Uq w.heap.size≠Uq rb:=fun e=>oI e;have G5:Uq (w.heap.size+1)≠Uq rb:=fun e=>oI e;have P:=D.block w.heap.size (oH zW) nb;have R:=D.block (w.heap.size+1) (oH zW) G5;have m0:=(US (a:=(Ub w.heap.size)) P).trans k0;have I:=(US (a:=(Ua (w.heap.size+1) 0)) R).trans k1;have y0:=(UT (a:=(Ub w.heap.size)) P).trans f0;have y1:=(UT (a:=(Ua (w.heap.size+1) 0)) R).trans f1;have Gb:QbV w1 C0 (Uf (Uq (Ua g off)) l.length c) l:=QaN.gr HO D (fun e=>by simp [Value.ownBlock] at e;omega);have Hh:=hid Gb;have Hf:Hid (∀W3:Ur,Below C w1 W3 ->RdJ W3 B rb f n (rx n x)/\ FrB w W3 C rb):=hid (fun W3 hb=>by
  refine⟨r1.bw (hb.mono hB),hb.os.trans (D.os.trans Hl.os),hb.tape.trans (D.tape.trans Hl.tape),hb.output.trans (D.output.trans Hl.output),Uw Hl.size (Uw D.size hb.size),fun k hk hne=> ?_⟩;have q:=Hl.size;exact(hb.block k hk).trans ((D.block k oM (fun e=>hne (by injection e))).trans (Hl.block k oM)))
 have Hq:w.heap.size<w1.heap.size:=oM;have zg:g<w1.heap.size:=oH Hl.size;have Hn:g≠w.heap.size:=oM;have Hc:g≠w.heap.size+1:=oM;clear r1 D P R k0 k1 f0 f1 HR HO;by_cases Hy:l.length=0
 ·have d0:((l.length:Int)==0)=true:=by rw [Hy];rfl
  have OL:=hid (fun(X:Ur) (hX:C<=X.heap.size)=>QbV.lit1 X C hX 0 0 (k:Int));go_wp2_with fail;have zS:∀u,(w1.setCell (Ua (w.heap.size+1) 0) u).heap.size=w1.heap.size:=fun u=>by simp [UL]
  have oo:=OL (w1.setCell (Ua (w.heap.size+1) 0) (Uf (Uc w1.heap.size) 1 1)) (by rw [zS];omega);rw [zS] at oo;have bA:=(Below.refl w1.heap.size (w1.setCell (Ua (w.heap.size+1) 0) (Uf (Uc w1.heap.size) 1 1))).alloc (by rw [zS];exact Uv _) (Uj #[Ud 0,Ud 0,Ud (k:Int)] 89);have U:=(bA.cell (p:=(Ua (w.heap.size+1) 0)) K).trans (UM _ _ _ I);obtain⟨t,o⟩:=Hf _ (((Below.refl C w1).setCell (p:=(Ua (w.heap.size+1) 0)) (show C<=w.heap.size+1 by omega) (Uf (Uc w1.heap.size) 1 1)).alloc (by rw [zS];omega) (Uj #[Ud 0,Ud 0,Ud (k:Int)] 89));refine zF (v:=Uo #[Uf (Uc w1.heap.size) 1 1]) (by simp [results,results66,go_sem,U]) ?_;exact⟨_,rfl,by unfold spF;rw [if_pos Hy];exact oo,t,o⟩
 ·obtain rfl:C=C0:=(h0.resolve_left Hy).symm;have d0:((l.length:Int)==0)=false:=by rw [beq_eq_false_iff_ne];omega
  obtain⟨mm,Hx⟩:∃mm:Int,(k:Int)/8%(l.length:Int)=mm:=⟨_,rfl⟩;have Ka:0<=mm:=Hx▸JW _ oM;have Kb:mm<(l.length:Int):=Hx▸JX _ oM;obtain⟨ii,rfl⟩:∃ii:Nat,mm=(ii:Int):=⟨mm.toNat,oM⟩;have Ho:ii<l.length:=oM;obtain⟨⟨x0,x1,x2⟩,z0,Gl,z2⟩:=Gb.at ii Ho;have hp:=hbr (gR l ii) (QdW Ho);obtain⟨y,Gg⟩:∃y:Nat,(gR l ii).1=(y:Int):=⟨((gR l ii).1).toNat,oM⟩;obtain⟨z,Gf⟩:∃z:Nat,(gR l ii).2.1=(z:Int):=⟨((gR l ii).2.1).toNat,oM⟩;obtain⟨m,Gh⟩:∃m:Nat,(gR l ii).2.2=(m:Int):=⟨((gR l ii).2.2).toNat,oM⟩;have Hj:Hid (spF k l=spR k ((y:Int),(z:Int),(m:Int)) (gR l 0) l ii):=hid (by
   have P:k/8%l.length=ii:=(by exact_mod_cast Hx);have R:gR l ii=((y:Int),(z:Int),(m:Int)):=Prod.ext Gg (Prod.ext Gf Gh);unfold spF;rw [if_neg Hy,P,R])
  rw [Gg,Gf,Gh] at hp;rw [Gg] at x0;rw [Gf] at x1;rw [Gh] at x2;have i1:(0:Int)<=(ii:Int):=UI _;have i2:(ii:Int)<(l.length:Int):=oM;have Ke:¬(l.length:Int)=0:=oM;have Kf:Int.tmod ((k:Int)/8) (l.length:Int)=(ii:Int):=by rw [JY oM];exact Hx
  have Ki:IntKind.i64.wrap (ii:Int)=(ii:Int):=by rw [VP];omega
  clear Gb h0;obtain⟨k8,G9⟩:∃k8:Nat,(k:Int)%8=(k8:Int):=⟨k%8,oM⟩;have H9:k8<8:=oM;have r:Hid (k%8=k8):=hid oM;match k8,H9 with
  | 0,_=>
   obtain⟨a,ha⟩:∃a:Int,(k:Int)/8 - 8=a:=⟨_,rfl⟩;have wa:IntKind.i64.wrap ((k:Int)/8 - 8)=a:=(by rw [VP];omega);go_wp2_with fail;obtain⟨Y,Z,U⟩:=Qcm Hh Ho I Hc oM K (a) ((z:Int)) ((m:Int)) (Uj #[Ud (a),Ud ((z:Int)),Ud ((m:Int))] 89);obtain⟨t,o⟩:=Hf _ Z;refine zF (v:=Uo #[Uf (Uq (Ua g off)) l.length c]) (by simp [results,results66,go_sem,U]) ?_;exact⟨_,rfl,by rw [Hj.out];unfold spR;rw [if_pos r.out];rw [show ((k/8:Nat):Int) - 8=a by omega];exact Y,t,o⟩
  | 1,_=>
   obtain⟨a,ha⟩:∃a:Int,(m:Int)+1=a:=⟨_,rfl⟩;have wa:IntKind.i64.wrap ((m:Int)+1)=a:=(by rw [VP];omega);go_wp2_with fail;obtain⟨Y,Z,U⟩:=Qcm Hh Ho I Hc oM K ((y:Int)) (a) ((m:Int)) (Uj #[Ud ((y:Int)),Ud (a),Ud ((m:Int))] 89);obtain⟨t,o⟩:=Hf _ Z;refine zF (v:=Uo #[Uf (Uq (Ua g off)) l.length c]) (by simp [results,results66,go_sem,U]) ?_;exact⟨_,rfl,by rw [Hj.out];unfold spR;rw [if_neg (by rw [r.out];decide)];rw [if_pos r.out];show QbV _ _ _ (l.set ii ((y:Int),(m:Int)+1,(m:Int)));rw [ha];exact Y,t,o⟩
  | 2,_=>
   go_wp2_with fail;obtain⟨Y,Z,U⟩:=Qcm Hh Ho I Hc oM K ((y:Int)) ((z:Int)) (1000000001) (Uj #[Ud ((y:Int)),Ud ((z:Int)),Ud (1000000001)] 89);obtain⟨t,o⟩:=Hf _ Z;refine zF (v:=Uo #[Uf (Uq (Ua g off)) l.length c]) (by simp [results,results66,go_sem,U]) ?_;exact⟨_,rfl,by rw [Hj.out];unfold spR;rw [if_neg (by rw [r.out];decide)];rw [if_neg (by rw [r.out];decide)];rw [if_pos r.out];exact Y,t,o⟩
  | 3,_=>
   go_wp2_with fail;obtain⟨Y,Z,U⟩:=Qcm Hh Ho I Hc oM K ((y:Int)) (0) ((m:Int)) (Uj #[Ud ((y:Int)),Ud (0),Ud ((m:Int))] 89);obtain⟨t,o⟩:=Hf _ Z;refine zF (v:=Uo #[Uf (Uq (Ua g off)) l.length c]) (by simp [results,results66,go_sem,U]) ?_;exact⟨_,rfl,by rw [Hj.out];unfold spR;rw [if_neg (by rw [r.out];decide)];rw [if_neg (by rw [r.out];decide)];rw [if_neg (by rw [r.out];decide)];rw [if_pos r.out];exact Y,t,o⟩
  | 4,_=>
   obtain⟨a1,G0⟩:∃a1:Int,(m:Int)+1=a1:=⟨_,rfl⟩;obtain⟨a2,G1⟩:∃a2:Int,(m:Int)+2=a2:=⟨_,rfl⟩;have Kg:IntKind.i64.wrap ((m:Int)+1)=a1:=(by rw [VP];omega);have Kh:IntKind.i64.wrap ((m:Int)+2)=a2:=(by rw [VP];omega);obtain⟨j,s⟩:=zE (w1.alloc (Uj #[Ud (y:Int),Ud (z:Int),Ud (m:Int)] 89));have b:Bl w1 j:=s▸zO _ _;have F:Hid (j.heap.size=w1.heap.size+1):=s▸hid oP;have q0:j.cell? (Ub w1.heap.size)=Uq (Ud (y:Int)):=s▸oP;have t:j.cell? (Ua w1.heap.size 1)=Uq (Ud (z:Int)):=s▸oP;have o:j.cell? (Ua w1.heap.size 2)=Uq (Ud (m:Int)):=s▸oP;have n0:=(b.cell (p:=(Ub w.heap.size)) Hq).trans m0;have n1:=(b.cell (p:=(Ua (w.heap.size+1) 0)) K).trans I;have u0:=(b.frozen (p:=(Ub w.heap.size)) Hq).trans y0;have u1:=(b.frozen (p:=(Ua (w.heap.size+1) 0)) K).trans y1;have Hi:=hid (QaN.bw (QaN.bw Hh b zL) (zO j (Uj #[Ud (y:Int),Ud a1,Ud a2] 89)) zL);have Hg:=hid (QiQ j (Ud (y:Int)) (Ud a1) (Ud a2) 89);have Hr:=hid b;clear b;go_wp2_with (at_builtin;refine Qc6 rfl _ _ 24 rfl C 89 i0 _ 3 24 underlying24 H8 Gi Gj Gk rfl _ _ _ rfl Hi (Ub j.heap.size) 1 1 [Ud (y:Int),Ud a1,Ud a2] ?f0 rfl ?f1 ?f2 ?f3 ?f4 ?f5 ?_);case f0=>rfl
   case f1=>exact Hg
   case f2=>intro u hu;simp at hu;rcases hu with rfl|rfl|rfl<;>rfl
   case f3=>unfold maxLen;omega
   case f4=>omega
   case f5=>have:=F.out;simp;omega
   intro v7 Q Hb Hd Ha;have gg:j.grownBy Q (Uq g):=(VG j _ _).trans Hd;obtain⟨L,S⟩:=zE (l++[((y:Int),a1,a2)]);have H:L.length=l.length+1:=S▸oP;have T:QbV Q C v7 L:=(by unfold QbV;rw [H,<- S,Qbp];exact Hb);have H1:Hid (l++[((y:Int),(m:Int)+1,(m:Int)+2)]=L):=hid (by rw [<- S,G0,G1]);obtain⟨i,G,V,rfl,_,G2,H3,G3,_⟩:=T.fs;have He:i=g \/j.heap.size<=i:=by
    rcases Ha with q|q
    ·simp [Value.ownBlock] at q;exact .inl q
    ·simp [Value.ownBlock] at q;exact .inr oM
   have H0:=F.out;obtain⟨⟨d3,H2,Hv,Go⟩,Hk⟩:=Qez gg T He (b3:=w.heap.size) (b4:=w.heap.size+1) (b7:=w1.heap.size) (ii:=ii) oM oM oM Hn Hc oM oM oM oM H7 oM n0 u0 n1 u1 q0 t o;obtain⟨A,Hm⟩:=zE (Q.setCell (Ub w.heap.size) (Uf (Uq (Ua i G)) L.length V));obtain⟨s3,s4,Hz,t0,t1,t2,J,N⟩:=Hk A Hm;obtain⟨⟨Gp,Gq,Gr⟩,Gs,Hw,Gt⟩:=J.at ii oM;have i3:(ii:Int)<(L.length:Int):=oM;have Hu:=hid J;have Hs:Hid (Below C w1 A):=hid ((Hr.mono oM).trans N);have Hp:=hid H;have HD:=hid Hv;clear Hb Hd Ha gg T H S Hk J N n0 n1 u0 u1 q0 t o x0 x1 x2 z0 Gl z2 Hi Hg H0 He m0 I y0 y1 s;go_wp2_with fail;obtain⟨Y,Z,U⟩:=Qdw (ii:=ii) Hu (oH Hp) s4 HD oM (y:Int) (z:Int) (m:Int);obtain⟨t,o⟩:=Hf _ (Hs.trans Z);refine zF (v:=Uo #[Uf (Uq (Ua i G)) L.length V]) (by simp [results,results66,go_sem,U]) ?_;exact⟨_,rfl,by rw [Hj.out];unfold spR;rw [if_neg (by rw [r.out];decide)];rw [if_neg (by rw [r.out];decide)];rw [if_neg (by rw [r.out];decide)];rw [if_neg (by rw [r.out];decide)];rw [if_pos r.out];rw [H1.out];exact Y,t,o⟩
  | 5,_=>
   obtain⟨j,s⟩:=zE (w1.alloc (Uj #[Ud (y:Int),Ud (z:Int),Ud (m:Int)] 89));have b:Bl w1 j:=s▸zO _ _;have F:Hid (j.heap.size=w1.heap.size+1):=s▸hid oP;have q0:j.cell? (Ub w1.heap.size)=Uq (Ud (y:Int)):=s▸oP;have t:j.cell? (Ua w1.heap.size 1)=Uq (Ud (z:Int)):=s▸oP;have o:j.cell? (Ua w1.heap.size 2)=Uq (Ud (m:Int)):=s▸oP;have n0:=(b.cell (p:=(Ub w.heap.size)) Hq).trans m0;have n1:=(b.cell (p:=(Ua (w.heap.size+1) 0)) K).trans I;have u0:=(b.frozen (p:=(Ub w.heap.size)) Hq).trans y0;have u1:=(b.frozen (p:=(Ua (w.heap.size+1) 0)) K).trans y1;have Hi:=hid (QaN.bw (QaN.bw Hh b zL) (zO j (Uj #[Ud (y:Int),Ud (z:Int),Ud (m:Int)] 89)) zL);have Hg:=hid (QiQ j (Ud (y:Int)) (Ud (z:Int)) (Ud (m:Int)) 89);have Hr:=hid b;clear b;go_wp2_with (at_builtin;refine Qc6 rfl _ _ 24 rfl C 89 i0 _ 3 24 underlying24 H8 Gi Gj Gk rfl _ _ _ rfl Hi (Ub j.heap.size) 1 1 [Ud (y:Int),Ud (z:Int),Ud (m:Int)] ?k0 rfl ?k1 ?k2 ?k3 ?k4 ?k5 ?_);case k0=>rfl
   case k1=>exact Hg
   case k2=>intro u hu;simp at hu;rcases hu with rfl|rfl|rfl<;>rfl
   case k3=>unfold maxLen;omega
   case k4=>omega
   case k5=>have:=F.out;simp;omega
   intro v7 Q Hb Hd Ha;have gg:j.grownBy Q (Uq g):=(VG j _ _).trans Hd;obtain⟨L,S⟩:=zE (l++[((y:Int),(z:Int),(m:Int))]);have H:L.length=l.length+1:=S▸oP;have T:QbV Q C v7 L:=(by unfold QbV;rw [H,<- S,Qbp];exact Hb);have H1:Hid (l++[((y:Int),(z:Int),(m:Int))]=L):=hid S;obtain⟨i,G,V,rfl,_,G2,H3,G3,_⟩:=T.fs;have He:i=g \/j.heap.size<=i:=by
    rcases Ha with q|q
    ·simp [Value.ownBlock] at q;exact .inl q
    ·simp [Value.ownBlock] at q;exact .inr oM
   have H0:=F.out;obtain⟨⟨d3,H2,Hv,Go⟩,Hk⟩:=Qez gg T He (b3:=w.heap.size) (b4:=w.heap.size+1) (b7:=w1.heap.size) (ii:=ii) oM oM oM Hn Hc oM oM oM oM H7 oM n0 u0 n1 u1 q0 t o;obtain⟨A,Hm⟩:=zE (Q.setCell (Ub w.heap.size) (Uf (Uq (Ua i G)) L.length V));obtain⟨s3,s4,Hz,t0,t1,t2,J,N⟩:=Hk A Hm;obtain⟨⟨Gp,Gq,Gr⟩,Gs,Hw,Gt⟩:=J.at ii oM;have i3:(ii:Int)<(L.length:Int):=oM;have Hu:=hid J;have Hs:Hid (Below C w1 A):=hid ((Hr.mono oM).trans N);have Hp:=hid H;have HD:=hid Hv;clear Hb Hd Ha gg T H S Hk J N n0 n1 u0 u1 q0 t o x0 x1 x2 z0 Gl z2 Hi Hg H0 He m0 I y0 y1 s;go_wp2_with fail;obtain⟨Y,Z,U⟩:=Qdw (ii:=ii) Hu (oH Hp) s4 HD oM (y:Int) (z:Int) (m:Int);obtain⟨t,o⟩:=Hf _ (Hs.trans Z);refine zF (v:=Uo #[Uf (Uq (Ua i G)) L.length V]) (by simp [results,results66,go_sem,U]) ?_;exact⟨_,rfl,by rw [Hj.out];unfold spR;rw [if_neg (by rw [r.out];decide)];rw [if_neg (by rw [r.out];decide)];rw [if_neg (by rw [r.out];decide)];rw [if_neg (by rw [r.out];decide)];rw [if_neg (by rw [r.out];decide)];rw [if_pos r.out];rw [H1.out];exact Y,t,o⟩
  | 6,_=>
   obtain⟨j,s⟩:=zE (w1.alloc (Uj #[Ud (y:Int),Ud (z:Int),Ud (m:Int)] 89));have b:Bl w1 j:=s▸zO _ _;have F:Hid (j.heap.size=w1.heap.size+1):=s▸hid oP;have q0:j.cell? (Ub w1.heap.size)=Uq (Ud (y:Int)):=s▸oP;have t:j.cell? (Ua w1.heap.size 1)=Uq (Ud (z:Int)):=s▸oP;have o:j.cell? (Ua w1.heap.size 2)=Uq (Ud (m:Int)):=s▸oP;have n0:=(b.cell (p:=(Ub w.heap.size)) Hq).trans m0;have n1:=(b.cell (p:=(Ua (w.heap.size+1) 0)) K).trans I;have u0:=(b.frozen (p:=(Ub w.heap.size)) Hq).trans y0;have u1:=(b.frozen (p:=(Ua (w.heap.size+1) 0)) K).trans y1;have Gc:QbV j C (Uf (Uq (Ua g off)) l.length c) l:=QaN.bw Hh b zL;obtain⟨⟨e0,P,R⟩,_⟩:=Gc.at 0 oM;rw [Nat.zero_mul,Nat.add_zero] at e0 P R;have Ge:=hbr (gR l 0) (QdW (show 0<l.length by omega));obtain⟨M,H5⟩:∃M:Int,(gR l 0).1=M:=⟨_,rfl⟩;obtain⟨E,H4⟩:∃E:Int,(gR l 0).2.1=E:=⟨_,rfl⟩;obtain⟨O,H6⟩:∃O:Int,(gR l 0).2.2=O:=⟨_,rfl⟩;have Gu:Hid (gR l 0=(M,E,O)):=hid (Prod.ext H5 (Prod.ext H4 H6));rw [H5] at e0 Ge;rw [H4] at P Ge;rw [H6] at R Ge;have Kj:w.heap.size<j.heap.size:=oH F;have Kk:g<j.heap.size:=oH F;have i4:0<l.length:=oM;have Kd:(0<l.length)=True:=oS;have Hi:=hid (QaN.bw Gc (zO j (Uj #[Ud M,Ud E,Ud O] 89)) zL);have Hg:=hid (QiQ j (Ud M) (Ud E) (Ud O) 89);have Hr:=hid b;clear b Gc H5 H4 H6;go_wp2_with fail;have Gv:Hid (∀u∈[Value.int Uh M,Ud E,Ud O],u.oneCell'=true):=hid (fun u hu=>by simp at hu;rcases hu with rfl|rfl|rfl<;>rfl);have Gw:Hid (l.length+1<=maxLen):=hid oL;have Gx:Hid ((l.length+1)*24<=140737488355328):=hid oM;have Gy:Hid (C<=((j.alloc (Uj #[Ud M,Ud E,Ud O] 89)).drew).heap.size):=hid (by have:=F.out;show C<=(j.alloc _).heap.size;simp;omega);have Gn:Hid (QaN (j.alloc (Uj #[Ud M,Ud E,Ud O] 89)).drew C 3 (Uf (Uq (Ua g off)) l.length c) l.length (Qaf l)):=hid (QaN.bw Hi zI.drew zL);have Ht:Hid (∀(i G V:Nat) (Q:Ur),QaN Q C 3 (Uf (Uq (Ua i G)) (l.length+1) V) (l.length+1) (Qaf l++[Ud M,Ud E,Ud O]) ->(j.alloc (Uj #[Ud M,Ud E,Ud O] 89)).drew.grownBy Q (Uq g) ->(Uq i=Uq g \/i=j.heap.size+1) ->(Q.cell? (Ub w.heap.size)=Uq (Uf (Uq (Ua g off)) l.length c)/\ Q.frozen? (Ub w.heap.size)=false/\ i≠w.heap.size+1/\ i≠w.heap.size)/\∀A,Q.setCell (Ub w.heap.size) (Uf (Uq (Ua i G)) (l.length+1) V)=A ->
     A.cell? (Ub w.heap.size)=Uq (Uf (Uq (Ua i G)) (l.length+1) V)/\ A.cell? (Ua (w.heap.size+1) 0)=Uq Ue/\ A.frozen? (Ua (w.heap.size+1) 0)=false/\ A.cell? (Ub w1.heap.size)=Uq (Ud (y:Int))/\ A.cell? (Ua w1.heap.size 1)=Uq (Ud (z:Int))/\ A.cell? (Ua w1.heap.size 2)=Uq (Ud (m:Int))/\ QbV A C (Uf (Uq (Ua i G)) (l.length+1) V) (l++[(M,E,O)])/\ Below C w1 A):=hid (by
    intro i G V Q Gd G4 He;have H0:=F.out;have gg:j.grownBy Q (Uq g):=(VG j _ _).trans ((show (j.alloc (Uj #[Ud M,Ud E,Ud O] 89)).grownBy (j.alloc (Uj #[Ud M,Ud E,Ud O] 89)).drew (Uq g) from⟨rfl,rfl,rfl,Uv _,fun _ _ _=>rfl⟩).trans G4);have H:(l++[(M,E,O)]).length=l.length+1:=oP;have T:QbV Q C (Uf (Uq (Ua i G)) (l++[(M,E,O)]).length V) (l++[(M,E,O)]):=(by unfold QbV;rw [H,Qbp];exact Gd);obtain⟨I,m2⟩:=Qez gg T (by rcases He with q|q;exact .inl (by injection q);exact .inr oM) (b3:=w.heap.size) (b4:=w.heap.size+1) (b7:=w1.heap.size) (ii:=ii) oM oM oM Hn Hc oM oM oM oM H7 oM n0 u0 n1 u1 q0 t o;rw [H] at m2;refine⟨I,fun A h8=> ?_⟩;obtain⟨s3,s4,Hz,t0,t1,t2,J,N⟩:=m2 A h8;exact⟨s3,s4,Hz,t0,t1,t2,J,(Hr.mono oM).trans N⟩)
   go_region_law (
    refine Qg7 (w:=(j.alloc (Uj #[Ud M,Ud E,Ud O] 89)).drew) rfl _ _ 24 rfl C 89 i0 _ 3 24 underlying24 H8 Gi Gj Gk rfl _ _ _ rfl Gn (Ub j.heap.size) 1 1 [Ud M,Ud E,Ud O] rfl rfl Hg Gv Gw Gx Gy ?_
    intro i G V Q Hb Hd Ha
    obtain⟨⟨d3,H2,Hv,Go⟩,Hk⟩:=Ht i G V Q Hb Hd (by rcases Ha with q|q;exact .inl q;exact .inr (by injection q with q;simpa using q)))
   all_goals (
    obtain⟨A,Hm⟩:=zE (Q.setCell (Ub w.heap.size) (Uf (Uq (Ua i G)) (l.length+1) V));obtain⟨s3,s4,Hz,t0,t1,t2,J,N⟩:=Hk A Hm;rw [Hm];have H:(l++[(M,E,O)]).length=l.length+1:=oP;obtain⟨⟨Gp,Gq,Gr⟩,Gs,Hw,Gt⟩:=J.at ii oM;have i3:(ii:Int)<((l.length:Nat):Int)+1:=oM;rw [<- H] at J;have Hu:=hid J;have Hs:=hid N;have Hp:=hid H;have HD:=hid Hv;clear Hb Hd Ha H Hk J N n0 n1 u0 u1 q0 t o x0 x1 x2 z0 Gl z2 Hi Gn Hg m0 I y0 y1 s Ht e0 P R Hm d3 H2;go_wp2_with fail;obtain⟨Y,Z,U⟩:=Qdw (ii:=ii) Hu (oH Hp) s4 HD oM (y:Int) (z:Int) (m:Int);rw [Hp.out] at Y Z U;obtain⟨t,o⟩:=Hf _ (Hs.trans Z);refine zF (v:=Uo #[Uf (Uq (Ua i G)) (l.length+1) V]) (by simp [results,results66,go_sem,U]) ?_;exact⟨_,rfl,by rw [Hj.out];unfold spR;rw [if_neg (by rw [r.out];decide)];rw [if_neg (by rw [r.out];decide)];rw [if_neg (by rw [r.out];decide)];rw [if_neg (by rw [r.out];decide)];rw [if_neg (by rw [r.out];decide)];rw [if_neg (by rw [r.out];decide)];rw [if_pos r.out];rw [Gu.out];exact Y,t,o⟩)
  | 7,_=>
   obtain⟨a,ha⟩:∃a:Int,(z:Int) - 1=a:=⟨_,rfl⟩;have wa:IntKind.i64.wrap ((z:Int) - 1)=a:=(by rw [VP];omega);go_wp2_with fail;obtain⟨Y,Z,U⟩:=Qcm Hh Ho I Hc oM K ((y:Int)) (a) ((m:Int)) (Uj #[Ud ((y:Int)),Ud (a),Ud ((m:Int))] 89);obtain⟨t,o⟩:=Hf _ Z;refine zF (v:=Uo #[Uf (Uq (Ua g off)) l.length c]) (by simp [results,results66,go_sem,U]) ?_;exact⟨_,rfl,by rw [Hj.out];unfold spR;rw [if_neg (by rw [r.out];decide)];rw [if_neg (by rw [r.out];decide)];rw [if_neg (by rw [r.out];decide)];rw [if_neg (by rw [r.out];decide)];rw [if_neg (by rw [r.out];decide)];rw [if_neg (by rw [r.out];decide)];rw [if_neg (by rw [r.out];decide)];show QbV _ _ _ (l.set ii ((y:Int),(z:Int) - 1,(m:Int)));rw [ha];exact Y,t,o⟩
structure Dr (S:Sx):Prop where
 vd:Vd S
 t:I64 S.T
theorem Qo0 {u:List Rn}(h:¬i<u.length):gR u i=(0,0,0):=by simp [gR,UA,h]
theorem SNc.gr{x:Option Us}(h:SNc w lo a c x S)(hg:w.grownBy w1 (Uq rb))(hr:rb<lo):SNc w1 lo a c x S:=h.move zL hg.size (fun q h1 h2=>hg.block q h2 (fun e=>by injection e with e;omega))
theorem Qbw(h1:w.grownBy w1 (Uq rb))(h2:Below B w1 w2)(hB:w.heap.size<=B):w.grownBy w2 (Uq rb):=
 ⟨h2.os.trans h1.os,h2.tape.trans h1.tape,h2.output.trans h1.output,Uw h1.size h2.size,fun k hk hne=>(h2.block k oM).trans (h1.block k hk hne)⟩
structure Gd (S:Sx):Prop where
 sm:S.Sm
 li:∀i,LfI (gL S.l i)
 t:I64 S.T
def spY (k:Nat)(y:Lf):Lf:=
 if k%8=1 then⟨y.p++[⟨#[]⟩],y.fl,y.r,y.q,y.v⟩
 else if k%8=2 then⟨y.p, !y.fl,y.r,y.q,y.v⟩
 else if k%8=3 then⟨y.p,y.fl,y.r,y.q+1,y.v⟩
 else if k%8=4 then⟨y.p,y.fl,y.r,y.q,txJ (rpt ⟨#[118]⟩ (200+k/128))⟩
 else if k%8=5 then y
 else if k%8=6 then⟨y.p,y.fl,7,y.q,y.v⟩
 else⟨y.p.set 0 ⟨#[99]⟩,y.fl,y.r,y.q,y.v⟩
def spL (k:Nat)(l:List Lf):List Lf:=(if k%8=5 then l++[gL l (k/8%l.length)] else l).set (k/8%l.length) (spY k (gL l (k/8%l.length)))
def spS (f:Nat ->Int)(n x:Nat)(S:Sx):Sx:=if rk f n x%8=0 \/S.l.length=0 then mkS S.l (spF (rk f n (rx n x)) (fS S)) else mkS (spL (rk f n x) S.l) (fS S)
def spX (f:Nat ->Int)(n x:Nat)(S:Sx):Nat:=if rk f n x%8=0 \/S.l.length=0 then rx n (rx n x) else rx n x
theorem QhH (l:List Lf)(hi:i<l.length)(y:Lf)(j:Nat):gL (l.set i y) j=if j=i then y else gL l j:=by
 by_cases e:j=i
 ·subst e;rw [if_pos rfl];simp [gL,UA,hi]
 ·rw [if_neg e];simp [gL,UA,JK (fun h=>e h.symm)]
theorem Qpm{y:Lf}(hp:y.p.length<=8)(hr:0<=y.r/\ y.r<=1000000000)(hq:0<=y.q/\ y.q<=1000000000):(spY k y).p.length<=9/\ LfI (spY k y):=by
 have a:∀r q:Int,0<=r/\ r<=1000000001 ->0<=q/\ q<=1000000001 ->∀p f v,LfI ⟨p,f,r,q,v⟩:=fun r q h1 h2 p f v=>⟨wfI (by simp only;omega) (by simp only;omega),wfI (by simp only;omega) (by simp only;omega)⟩;obtain⟨m,j,z,u,h⟩:=y;simp only at hp hr hq;unfold spY;repeat' split
 all_goals refine⟨by simp<;>omega,a _ _ (by first|omega|(dsimp only;omega)) (by first|omega|(dsimp only;omega)) _ _ _⟩
theorem Qfb(h:Vd S)(hi:i<S.l.length):1<=(gL S.l i).p.length/\ (gL S.l i).p.length<=8/\ (0<=(gL S.l i).r/\ (gL S.l i).r<=1000000000)/\ (0<=(gL S.l i).q/\ (gL S.l i).q<=1000000000):=by
 have a:=Qgx h i hi;have b:=QgS (QcD h) (QeT h _ (Qao.2 ⟨i,hi,rfl⟩));unfold Rok dtR at b;simp only at b;exact⟨a.1,a.2,oM,oM⟩
theorem Qoy {l:List Lf}(h:¬i<l.length):LfI (gL l i):=by
 rw [show gL l i=⟨[],false,0,0,ByteArray.empty⟩ by simp [gL,UA,h]];exact⟨oD,oD⟩
theorem Dr.gd(h:Dr S):Gd S:=by
 have j:=h.vd.2.1;refine⟨⟨oM,fun i=> ?_,oH ((Qal.1 h.vd.1).2)⟩,fun i=> ?_,h.t⟩
 ·by_cases hi:i<S.l.length
  ·have:=(Qfb h.vd hi).2.1;omega
  ·rw [Qjg hi];simp
 ·by_cases hi:i<S.l.length
  ·obtain⟨_,_,b,c⟩:=Qfb h.vd hi;exact⟨wfI oM oM,wfI oM oM⟩
  ·exact Qoy hi
theorem QlP {l:List Lf}{u:List Rn}(h1:l.length<=1001)(h2:∀i,i<l.length ->(gL l i).p.length<=9/\ LfI (gL l i))(h3:u.length<=1001)(h4:BSn u):Gd (mkS l u):=by
 refine⟨⟨by show l.length<=_;omega,fun i=> ?_,by show u.length<=_;omega⟩,fun i=> ?_,fun i=> ?_⟩
 ·show (gL l i).p.length<=_;by_cases hi:i<l.length
  ·have:=(h2 i hi).1;omega
  ·rw [Qjg hi];simp
 ·show LfI (gL l i);by_cases hi:i<l.length
  ·exact(h2 i hi).2
  ·exact Qoy hi
 ·show _<=(gR u i).2.2/\ (gR u i).2.2<=_;by_cases hi:i<u.length
  ·have:=h4 _ (QdW hi);omega
  ·rw [Qo0 hi];exact⟨oD,oD⟩
theorem Qmb(hS:Dr S)(hk:rk f n (rx n x)<256):Gd (spS f n x S):=by
 have z:=hS.vd.2.1;have r:=Qml hS.vd;have h:=(Qal.1 hS.vd.1).2;have q:∀i,i<S.l.length ->(gL S.l i).p.length<=9/\ LfI (gL S.l i):=fun i hi=>by
  obtain⟨_,a,b,c⟩:=Qfb hS.vd hi;exact⟨oM,wfI oM oM,wfI oM oM⟩
 have fl:=Qc2 S;unfold spS;split
 ·obtain⟨a,b⟩:=Qpl hk r.br;exact QlP oM q oM b
 ·rename_i h0;have hi:rk f n x/8%S.l.length<S.l.length:=Nat.mod_lt _ oM;unfold spL;generalize rk f n x=k at h0 hi ⊢;generalize k/8%S.l.length=i at hi ⊢;obtain⟨_,a,b,c⟩:=Qfb hS.vd hi;have u:=Qpm (k:=k) a b c;generalize spY k (gL S.l i)=y at u ⊢;have e:∀l:List Lf,l.length<=1001 ->i<l.length ->(∀j,j<l.length ->(gL l j).p.length<=9/\ LfI (gL l j)) ->Gd (mkS (l.set i y) (fS S)):=fun l h1 m h3=>by
   refine QlP (oU h1) (fun j hj=> ?_) oM r.br.bs;rw [QhH l m y j];split
   ·exact u
   ·exact h3 j (oU hj)
  split
  ·refine e _ oS oS (fun j hj=> ?_);by_cases m:j<S.l.length
   ·rw [QeK _ _ m];exact q j m
   ·have v:j=S.l.length:=(by simp at hj;omega);rw [v,QeJ];exact q i hi
  ·exact e _ oM hi q
theorem Qni (l:List Lf)(P Q:Nat ->Nat)(hi:i<l.length)(y:Lf)(p pc:Nat):
  (((((((UW (l.length*5)).map (lCp l P Q)).set (i*5) (Uf (Uc p) y.p.length pc)).set (i*5+1) (Un y.fl)).set (i*5+2) (Ud y.r)).set (i*5+3) (Ud y.q)).set (i*5+4) (Um y.v))=(UW (l.length*5)).map (lCp (l.set i y) (fun t=>if t=i then p else P t) (fun t=>if t=i then pc else Q t)):=by
 refine List.ext_getElem oP (fun j h1 h2=> ?_);have o:j<l.length*5:=oU h2;obtain⟨k,m,u,z,h⟩:=Qp4 (l.set i y) (fun t=>if t=i then p else P t) (fun t=>if t=i then pc else Q t) i;rw [QhH l hi y i] at k m u z h;simp only [if_pos] at k m u z h;rw [JD,JE];by_cases g:j/5=i
 ·obtain e|e|e|e|e:j=i*5 \/j=i*5+1 \/j=i*5+2 \/j=i*5+3 \/j=i*5+4:=oM
  ·subst e;rw [k];simp [JN]
  ·subst e;rw [m];simp [JN]
  ·subst e;rw [u];simp [JN]
  ·subst e;rw [z];simp [JN]
  ·subst e;rw [h];simp [JN]
 ·rw [JO oM,JO oM,JO oM,JO oM,JO oM,JD,JE];unfold lCp;rw [QhH l hi y,if_neg g];simp only [if_neg g]
theorem QaN.moveB{size:Nat}(h:QaN w B size v n xs)(hs:w.heap.size<=w'.heap.size)(hq:∀q,v.ownBlock=Uq q ->B<=q ->q<w.heap.size ->w'.heap[q]? =w.heap[q]?):QaN w' B size v n xs:=by
 obtain⟨g,off,c,rfl,k,m,o,z,t,r,u,y⟩:=h;have e:w'.heap[g]? =w.heap[g]? :=hq g rfl k m;exact⟨g,off,c,rfl,k,Ut m hs,o,z,t,fun j hj=>(US e).trans (r j hj),fun j hj=>by rw [US (a:=(Ua g (off+j))) e];exact u j hj,fun j hj=>(UT (a:=(Ua g (off+j))) e).trans (y j hj)⟩
theorem QlQ{ra:Option Us}{rc:Nat}{l:List Lf}{u:List Rn}{P Q:Nat ->Nat}(h:LC w lo (Uf (Uc g) l.length c) l P Q)(ho:QbV w lo (Uf ra u.length rc) u):SNc w lo (Uc g) c ra (mkS l u):=⟨fun w' h1 h2=>by
 have j:=h.move h1 h2;have k:QbV w' lo (Uf ra u.length rc) u:=QaN.moveB ho h1 (fun q _ a b=>h2 q a b);obtain⟨m,r,c',e,s,_⟩:=k.fs;injection e with e1 e2 e3;subst e1;exact⟨j.lcap rfl,s.rseg⟩,h.cp rfl⟩
structure PtY (w wx:Ur)(g b7:Nat)(y:Lf)(p pc:Nat):Prop where
 lo:w.heap.size+2<=p
 lt:p<wx.heap.size
 ng:p≠g
 nb:p≠b7
 wr:Wr wx p 9 y.p.length (fun t=> Um (gS y.p t))
 c1:y.p.length<=pc
 c2:pc<=9223372036854775807
structure SpM (w wx:Ur)(B rb:Nat)(f:Nat ->Int)(n x b7 i:Nat)(l:List Lf)(y:Lf)(u:List Rn)(g c p pc gx cx:Nat)(P Q:Nat ->Nat):Prop where
 bs:Bx2 wx w.heap.size (Uf (Uc g) l.length c) (Uf (Uc gx) u.length cx)
 br:Bx2 wx (w.heap.size+1) Ue Ue
 row:wx.ownsRow (w.heap.size+2) 85 5 (Uf (Uc g) l.length c) l.length ((UW (l.length*5)).map (lCp l P Q))
 pts:∀j,j<l.length ->j≠i ->PtY w wx g b7 (gL l j) (P j) (Q j)
 pt:PtY w wx g b7 y p pc
 ru:QbV wx (w.heap.size+2) (Uf (Uc gx) u.length cx) u
 gn:gx≠g/\ gx≠b7/\ g≠b7
 hb:w.heap.size+2<=b7
 rd:RdJ wx B rb f n x
 gr:w.grownBy wx (Uq rb)
 z:B<=w.heap.size
section
variable {w wx w1 : Ur} {B rb n x b7 i : Nat} {f : Nat -> Int} {l : List Lf} {y y' : Lf} {u : List Rn} {g c p pc gx cx p' pc' : Nat} {P Q : Nat -> Nat}
theorem PtY.same (h:PtY w wx g b7 y p pc)(hs:wx.heap.size<=w1.heap.size)(he:w1.heap[p]? =wx.heap[p]?):PtY w w1 g b7 y p pc:=⟨h.lo,Ut h.lt hs,h.ng,h.nb,h.wr.same he,h.c1,h.c2⟩
theorem SpM.glt (h:SpM w wx B rb f n x b7 i l y u g c p pc gx cx P Q):w.heap.size+2<=g/\ g<wx.heap.size:=h.row.lt g rfl
theorem SpM.chg (h:SpM w wx B rb f n x b7 i l y u g c p pc gx cx P Q){r:Nat}(hg:wx.grownBy w1 (Uq r))(hr:w.heap.size+2<=r/\ r≠g/\ r≠gx/\∀j,j<l.length ->j≠i ->P j≠r)(hpt:PtY w w1 g b7 y' p' pc'):SpM w w1 B rb f n x b7 i l y' u g c p' pc' gx cx P Q:=by
 obtain⟨t,o,s,v⟩:=hr;have m:∀b,b<wx.heap.size ->b≠r ->w1.heap[b]? =wx.heap[b]? :=fun b h1 h2=>hg.block b h1 (fun e=>h2 (by injection e));have q:Below (w.heap.size+2) wx w1:=zI.grown hg (oH h.br.lt) (fun k e=>oI e);refine⟨h.bs.grw hg oM,h.br.grw hg oM,Qap h.row (fun b hb=> ?_),fun j h1 h2=>(h.pts j h1 h2).same hg.size (m _ (h.pts j h1 h2).lt (v j h1 h2)),hpt,QaN.gr h.ru hg (fun e=>by simp [Value.ownBlock] at e;omega),h.gn,h.hb,h.rd.bw (q.mono (oH h.z)),Qbw h.gr (q.mono (JU _ _)) zL,h.z⟩;have e:g=b:=by simpa [Value.ownBlock] using hb
 exact m b (oH h.glt.2) oM
theorem SpM.bw (h:SpM w wx B rb f n x b7 i l y u g c p pc gx cx P Q)(hb:Bl wx w1):SpM w w1 B rb f n x b7 i l y u g c p pc gx cx P Q:=
 h.chg (r:=b7) ⟨hb.os,hb.tape,hb.output,hb.size,fun k hk _=>hb.block k hk⟩ ⟨h.hb,h.gn.2.2.symm,h.gn.2.1.symm,fun j h1 h2=>(h.pts j h1 h2).nb⟩ (h.pt.same hb.size (hb.block _ h.pt.lt))
theorem SpM.setB (h:SpM w wx B rb f n x b7 i l y u g c p pc gx cx P Q)(t:Nat)(v:Value)(e:y'.p=y.p):SpM w (wx.setCell (Ua b7 t) v) B rb f n x b7 i l y' u g c p pc gx cx P Q:=by
 have m:∀q,q≠b7 ->(wx.setCell (Ua b7 t) v).heap[q]? =wx.heap[q]? :=fun q hq=>zH _ _ _ _ (oU hq);refine h.chg (r:=b7) ⟨rfl,rfl,rfl,by simp [UL],fun k hk hne=>m k (fun e=>hne (by rw [e]))⟩ ⟨h.hb,h.gn.2.2.symm,h.gn.2.1.symm,fun j h1 h2=>(h.pts j h1 h2).nb⟩ ?_;have:=h.pt.same (w1:=wx.setCell (Ua b7 t) v) (by simp [UL]) (m _ h.pt.nb);exact⟨this.lo,this.lt,this.ng,this.nb,by rw [e];exact this.wr,by rw [e];exact this.c1,this.c2⟩
theorem SpM.fin (h:SpM w wx B rb f n x b7 i l y u g c p pc gx cx P Q)(hi:i<l.length){W5:Ur}(h5:((((wx.setCell (Ua g (i*5)) (Uf (Uc p) y.p.length pc)).setCell (Ua g (i*5+1)) (Un y.fl)).setCell (Ua g (i*5+2)) (Ud y.r)).setCell (Ua g (i*5+3)) (Ud y.q)).setCell (Ua g (i*5+4)) (Um y.v)=W5):
  Bx2 W5 w.heap.size (Uf (Uc g) l.length c) (Uf (Uc gx) u.length cx)/\ Bx2 W5 (w.heap.size+1) Ue Ue/\
  ∀m,(W5.setCell (Ua (w.heap.size+1) 0) (Uf (Uc g) l.length c)).setCell (Ua (w.heap.size+1) 1) (Uf (Uc gx) u.length cx)=m ->Bx2 m (w.heap.size+1) (Uf (Uc g) l.length c) (Uf (Uc gx) u.length cx)/\ SNc m w.heap.size (Uc g) c (Uc gx) (mkS (l.set i y) u)/\ RdJ m B rb f n x/\ w.grownBy m (Uq rb):=by
 have K:=h.glt;have L:=h.z;have I:W5.heap.size=wx.heap.size:=by rw [<- h5];simp [UL]
 have U:∀b,b≠g ->W5.heap[b]? =wx.heap[b]? :=fun b hb=>by
  rw [<- h5];repeat rw [zH _ _ _ _ (oU hb)]
 have s:∀(X:Ur) (o:Nat) (v:Value),X.grownBy (X.setCell (Ua g o) v) (Uq g):=fun X o v=>⟨rfl,rfl,rfl,by simp [UL],fun k hk hne=>zH _ _ _ _ (fun e=>hne (by rw [e]))⟩;have A:wx.grownBy W5 (Uq g):=by rw [<- h5];exact((((s _ _ _).trans (s _ _ _)).trans (s _ _ _)).trans (s _ _ _)).trans (s _ _ _)
 have V:=h.bs.grw A oM;have E:=h.br.grw A oM;have Y:Below (w.heap.size+1) wx W5:=zI.grown A (oH h.br.lt) (fun k e=>oI e);have H:W5.ownsRow (w.heap.size+2) 85 5 (Uf (Uc g) l.length c) l.length ((UW (l.length*5)).map (lCp (l.set i y) (fun t=>if t=i then p else P t) (fun t=>if t=i then pc else Q t))):=by
  rw [<- h5,<- Qni l P Q hi y p pc];exact(((((h.row.stored _ _).1.stored _ _).1.stored _ _).1.stored _ _).1.stored _ _).1
 have Z:LC W5 (w.heap.size+2) (Uf (Uc g) (l.set i y).length c) (l.set i y) (fun t=>if t=i then p else P t) (fun t=>if t=i then pc else Q t):=by
  have M:(l.set i y).length=l.length:=JM;refine⟨by rw [M];exact H,fun j hj=> ?_⟩;rw [M] at hj;rw [QhH l hi y j];have O:∀{z:Lf} {a b:Nat},PtY w wx g b7 z a b ->w.heap.size+2<=a/\ a<W5.heap.size/\ Uq a≠(Value.slice (Uc g) (l.set i y).length c).ownBlock/\ Wr W5 a 9 z.p.length (fun t=> Um (gS z.p t))/\ z.p.length<=b/\ b<=9223372036854775807:=fun{z a b} hp=>⟨hp.lo,by rw [I];exact hp.lt,fun e=>hp.ng (by simpa [Value.ownBlock] using e),hp.wr.same (U _ hp.ng),hp.c1,hp.c2⟩;by_cases e:j=i
  ·simp only [if_pos e];exact O h.pt
  ·simp only [if_neg e];exact O (h.pts j hj e)
 have G:QbV W5 (w.heap.size+2) (Uf (Uc gx) u.length cx) u:=QaN.gr h.ru A (fun e=>h.gn.1 (by simpa [Value.ownBlock] using e));refine⟨V,E,?_⟩;rintro m rfl;have b7:Below (w.heap.size+1) wx ((W5.setCell (Ua (w.heap.size+1) 0) (Uf (Uc g) l.length c)).setCell (Ua (w.heap.size+1) 1) (Uf (Uc gx) u.length cx)):=(Y.setCell (p:=(Ua (w.heap.size+1) 0)) zL _).setCell (p:=(Ua (w.heap.size+1) 1)) zL _;refine⟨E.set _ _,?_,h.rd.bw (b7.mono oM),Qbw h.gr (b7.mono (JU _ _)) zL⟩;have J:=QlQ Z G;refine J.move (JU _ _) (by simp [UL]) (fun q h1 h2=> ?_);rw [zH _ _ _ _ oS,zH _ _ _ _ oS]
end
theorem QaN.self{size n':Nat}(h:QaN w B size (Uf (Uq (Ua g off)) n' c) n xs):QaN w g size (Uf (Uq (Ua g off)) n' c) n xs:=by
 obtain⟨k,m,c',e,q,r⟩:=h;have j:=e;injection e with e1 _ _;injection e1 with e1;injection e1 with e1 _ _;exact⟨k,m,c',j,JV e1,r⟩
structure SpA (w wx:Ur)(B rb:Nat)(f:Nat ->Int)(n x:Nat)(S:Sx)(g c gx cx:Nat)(P Q:Nat ->Nat):Prop where
 bs:Bx2 wx w.heap.size (Uf (Uc g) S.l.length c) (Uf (Uc gx) S.n cx)
 br:Bx2 wx (w.heap.size+1) Ue Ue
 lc:LC wx (w.heap.size+2) (Uf (Uc g) S.l.length c) S.l P Q
 ow:Ow wx (w.heap.size+2) S.l P Q
 sep:Sep P S.l.length
 ru:QbV wx (w.heap.size+2) (Uf (Uc gx) S.n cx) (fS S)
 gn:g≠gx
 pn:∀i,i<S.l.length ->P i≠gx
 up:0<S.n ->g<gx/\∀i,i<S.l.length ->P i<gx
 rd:RdJ wx B rb f n x
 gr:w.grownBy wx (Uq rb)
 z:B<=w.heap.size
section
variable {w w1 w2 : Ur} {B rb n x : Nat} {f : Nat -> Int} {S : Sx} {g c gx cx : Nat} {P Q : Nat -> Nat}
theorem Cpd.spA {va vx:Value}(h:Cpd w1 w2 S g c gx cx P Q)(hA:Bx2 w1 w.heap.size va vx)(hR:Bx2 w1 (w.heap.size+1) Ue Ue)(hr:RdJ w1 B rb f n x)(hg:w.grownBy w1 (Uq rb))(hB:B<=w.heap.size):
  Bx2 w2 w.heap.size va vx/\ SpA w ((w2.setCell (Ub w.heap.size) (Uf (Uc g) S.l.length c)).setCell (Ua w.heap.size 1) (Uf (Uc gx) S.n cx)) B rb f n x S g c gx cx P Q:=by
 have u:=hR.lt;have k:=hA.bw h.low hA.lt;have j:∀b,b≠w.heap.size ->((w2.setCell (Ub w.heap.size) (Uf (Uc g) S.l.length c)).setCell (Ua w.heap.size 1) (Uf (Uc gx) S.n cx)).heap[b]? =w2.heap[b]? :=fun b hb=>by
  rw [zH _ _ _ _ (oU hb),zH _ _ _ _ (oU hb)]
 have r:((w2.setCell (Ub w.heap.size) (Uf (Uc g) S.l.length c)).setCell (Ua w.heap.size 1) (Uf (Uc gx) S.n cx)).heap.size=w2.heap.size:=by simp [UL]
 have m:Below w.heap.size w1 ((w2.setCell (Ub w.heap.size) (Uf (Uc g) S.l.length c)).setCell (Ua w.heap.size 1) (Uf (Uc gx) S.n cx)):=((h.low.mono (show w.heap.size<=w1.heap.size by omega)).setCell (p:=(Ub w.heap.size)) zL _).setCell (p:=(Ua w.heap.size 1)) zL _;refine⟨k,k.set _ _,((hR.bw h.low hR.lt).setAt _ _ oP).setAt _ _ oP,(h.lc.move (JV r.symm) (fun q h1 h2=>j q oM)).low oM,fun i hi=>QaW (Qap (h.ow i hi) (fun b hb=> ?_)) oM,h.sep,?_,h.gn,h.pn,h.up,hr.bw (m.mono hB),Qbw hg m zL,hB⟩
 ·exact j b (oH (((h.ow i hi).lt b hb).1))
 ·have o:QbV w2 w1.heap.size (Uf (Uc gx) S.n cx) (fS S):=Qi5 h.fr oP;exact QaN.weak (QaN.moveB o (JV r.symm) (fun q _ h1 h2=>j q oM)) oM
theorem SpA.ctx {wx w4:Ur}{C gy oy cy x':Nat}{u:List Rn}(h:SpA w wx B rb f n x S g c gx cx P Q)(hC:w.heap.size+2<=C/\ g<C/\∀i,i<S.l.length ->P i<C)(hf:FrB wx w4 C rb)(ho:QbV w4 C (Uf (Uq (Ua gy oy)) u.length cy) u)(hr:RdJ w4 B rb f n x')(hrb:rb<w.heap.size):
  (Bx2 w4 w.heap.size (Uf (Uc g) S.l.length c) (Uf (Uc gx) S.n cx)/\ Bx2 w4 (w.heap.size+1) Ue Ue)/\∀m,w4.setCell (Ua w.heap.size 1) (Uf (Uq (Ua gy oy)) u.length cy)=m ->(Bx2 m w.heap.size (Uf (Uc g) S.l.length c) (Uf (Uq (Ua gy oy)) u.length cy)/\ Bx2 m (w.heap.size+1) Ue Ue)/\∀j,(m.setCell (Ua (w.heap.size+1) 0) (Uf (Uc g) S.l.length c)).setCell (Ua (w.heap.size+1) 1) (Uf (Uq (Ua gy oy)) u.length cy)=j ->
   Bx2 j (w.heap.size+1) (Uf (Uc g) S.l.length c) (Uf (Uq (Ua gy oy)) u.length cy)/\ SNc j w.heap.size (Uc g) c (Uq (Ua gy oy)) (mkS S.l u)/\ RdJ j B rb f n x'/\ w.grownBy j (Uq rb):=by
 obtain⟨o,Z,E⟩:=hC;have G:=h.br.lt;have t:∀{b:Nat} {u0 u1:Value},Bx2 wx b u0 u1 ->b<C ->b≠rb ->Bx2 w4 b u0 u1:=fun{b u0 u1} hb h1 h2=>by
  have e:=hf.block b h1 h2;exact⟨(US (a:=(Ub b)) e).trans hb.c0,(US (a:=(Ua b 1)) e).trans hb.c1,fun i=>(UT (a:=(Ua b i)) e).trans (hb.f i),Ut hb.lt hf.size⟩
 have r:=t h.bs oM oM;have v:=t h.br oM oM;have Y:LC w4 (w.heap.size+2) (Uf (Uc g) S.l.length c) S.l P Q:=⟨Qap h.lc.row (fun b hb=>by
  have e:g=b:=by simpa [Value.ownBlock] using hb
  have:=(h.lc.lt g rfl).1;exact hf.block b oM oM),fun i hi=>by
  obtain⟨M,O,U,s⟩:=h.lc.pt i hi;exact⟨M,Ut O hf.size,U,s.1.same (hf.block _ (E i hi) oM),s.2⟩⟩
 have V:w.grownBy w4 (Uq rb):=by
  refine⟨hf.os.trans h.gr.os,hf.tape.trans h.gr.tape,hf.output.trans h.gr.output,Uw h.gr.size hf.size,fun k hk hne=> ?_⟩;exact(hf.block k oM (fun e=>hne (by rw [e]))).trans (h.gr.block k hk hne)
 refine⟨⟨r,v⟩,?_⟩;rintro m rfl;have A:=r.set1 (Uf (Uq (Ua gy oy)) u.length cy);have y:=v.setAt (Ua w.heap.size 1) (Uf (Uq (Ua gy oy)) u.length cy) oP;refine⟨⟨A,y⟩,?_⟩;rintro j rfl;have b7:Below w.heap.size w4 (((w4.setCell (Ua w.heap.size 1) (Uf (Uq (Ua gy oy)) u.length cy)).setCell (Ua (w.heap.size+1) 0) (Uf (Uc g) S.l.length c)).setCell (Ua (w.heap.size+1) 1) (Uf (Uq (Ua gy oy)) u.length cy)):=((zI.setCell (p:=(Ua w.heap.size 1)) zL _).setCell (p:=(Ua (w.heap.size+1) 0)) (Nat.le_succ _) _).setCell (p:=(Ua (w.heap.size+1) 1)) (Nat.le_succ _) _;refine⟨y.set _ _,?_,hr.bw (b7.mono h.z),Qbw V b7 zL⟩;refine(QlQ Y (QaN.weak ho o)).move (JU _ _) (by simp [UL]) (fun q h1 h2=> ?_);rw [zH _ _ _ _ oS,zH _ _ _ _ oS,zH _ _ _ _ oS]
theorem SpA.leaf {wx:Ur}(h:SpA w wx B rb f n x S g c gx cx P Q){i:Nat}(hi:i<S.l.length)(y:Lf)(hy:gL S.l i=y)(vs:Array Value){W4:Ur}(h4:wx.alloc (.cells vs 85)=W4):
  SpM w W4 B rb f n x wx.heap.size i S.l y (fS S) g c (P i) (Q i) gx cx P Q/\ LC W4 (w.heap.size+2) (Uf (Uc g) S.l.length c) S.l P Q/\ W4.ownsRow (w.heap.size+2) 9 1 (Uf (Uq ⟨P i,0,Up⟩) y.p.length (Q i)) y.p.length (Qck y.p):=by
 have b4:Bl wx W4:=h4▸zO _ _;have E:=h.lc.lt g rfl;have U:=h.br.lt;obtain⟨A,m,M,O⟩:=QaN.lt h.ru;have m:gx=A:=by simpa [Value.ownBlock] using m
 have r:=h.lc.bw b4;have q:∀j,j<S.l.length ->PtY w W4 g wx.heap.size (gL S.l j) (P j) (Q j):=fun j hj=>by
  obtain⟨u,k,v,t,o,s⟩:=h.lc.pt j hj;exact⟨u,Ut k b4.size,fun e=>v (by simp [Value.ownBlock,e]),oM,t.same (b4.block _ k),o,s⟩
 subst hy;refine⟨⟨?_,h.br.bw b4 h.br.lt,r.row,fun j h1 _=>q j h1,q i hi,?_,⟨h.gn.symm,oM,oM⟩,oM,h.rd.bw (b4.mono (oH h.z)),Qbw h.gr b4 (oH h.gr.size),h.z⟩,r,Qap (h.ow i hi) (fun b hb=>b4.block b ((h.ow i hi).lt b hb).2)⟩
 ·rw [Qc2];exact h.bs.bw b4 h.bs.lt
 ·rw [Qc2];exact QaN.bw h.ru b4 zL
theorem SpM.more {wx wy w3:Ur}{b7 i:Nat}{l:List Lf}{y:Lf}{u:List Rn}{p pc q' cap':Nat}{P' Q':Nat ->Nat}(h:SpM w wx B rb f n x b7 i l y u g c p pc gx cx P Q)(hb:Bl wx wy)(lc:LC w3 (w.heap.size+2) (Uf (Uc q') (l.length+1) cap') (l++[y]) P' Q')(gr:Gr wy w3 (Uf (Uc g) l.length c) (Uf (Uc q') (l.length+1) cap'))(hP:∀j,j<l.length ->P' j≠b7)(hP2:P' l.length≠b7)(hbw:b7<wx.heap.size):
  (Bx2 w3 w.heap.size (Uf (Uc g) l.length c) (Uf (Uc gx) u.length cx))/\ SpM w (w3.setCell (Ub w.heap.size) (Uf (Uc q') (l.length+1) cap')) B rb f n x b7 i (l++[y]) y u q' cap' p pc gx cx P' Q':=by
 have r:=h.bw hb;have m:wy.grownBy w3 (Uq g):=gr.g;have H:=h.glt;have K:=h.br.lt;have N:=hb.size;have L:=m.size;have o:q'=g \/wy.heap.size<=q':=by
  rcases gr.l with e|⟨q,e,o⟩
  ·exact .inl (by simpa [Value.ownBlock] using e)
  ·have e:q'=q:=(by simpa [Value.ownBlock] using e);exact .inr oM
 have t:(l++[y]).length=l.length+1:=oP;have s:=r.bs.grw m oM;have v:∀b,b≠w.heap.size ->(w3.setCell (Ub w.heap.size) (Uf (Uc q') (l.length+1) cap')).heap[b]? =w3.heap[b]? :=fun b hb=>zH _ _ _ _ (oU hb);have b3:Below w.heap.size wy w3:=zI.grown m oM (fun k e=>oI e);have E:Below w.heap.size wy (w3.setCell (Ub w.heap.size) (Uf (Uc q') (l.length+1) cap')):=b3.setCell (p:=(Ub w.heap.size)) zL _;obtain⟨G,A,I,J⟩:=QaN.lt h.ru;have A:gx=G:=by simpa [Value.ownBlock] using A
 refine⟨s,?_,((r.br.grw m oM).setAt _ _ oP),?_,fun j hj hne=> ?_,?_,?_,⟨?_,h.gn.2.1,?_⟩,h.hb,r.rd.bw (E.mono h.z),Qbw r.gr E zL,h.z⟩
 ·rw [t];exact s.set0 _
 ·rw [t];have:=lc.row;rw [t] at this;exact Qap this (fun b hb=>v b (oH ((lc.lt b hb).1)))
 ·obtain⟨M,O,U,V,Y,Z⟩:=lc.pt j hj;refine⟨M,by simpa [UL] using O,fun e=>U (by simp [Value.ownBlock,e]),?_,V.same (v _ oM),Y,Z⟩;by_cases e:j<l.length
  ·exact hP j e
  ·rw [show j=l.length by rw [t] at hj;omega];exact hP2
 ·have:=r.pt;refine⟨this.lo,by simp [UL];have:=this.lt;omega,?_,this.nb,(this.wr.same (m.block _ this.lt (fun e=>this.ng (by injection e)))).same (v _ (oH this.lo)),this.c1,this.c2⟩;rcases o with e|e
  ·rw [e];exact this.ng
  ·have:=h.pt.lt;omega
 ·refine QaN.moveB (QaN.gr r.ru m (fun e=>h.gn.1 (by simpa [Value.ownBlock] using e))) (by simp [UL]) (fun q _ a b=>v q oM)
 ·rcases o with e|e
  ·rw [e];exact h.gn.1
  ·omega
 ·rcases o with e|e
  ·rw [e];exact h.gn.2.2
  ·omega
end
theorem Qjo{cur:Array Value}{t:TypeId}(h:w.heap[g]? =Uq (.cells cur t (0,0))):(w.setCell (Ub g) u).heap[g]? =Uq (.cells (cur.setIfInBounds 0 u) t (0,0)):=by
 have j:g<w.heap.size:=(Array.getElem?_eq_some_iff.1 h).1;have e:w.heap[g]=.cells cur t (0,0):=(Array.getElem?_eq_some_iff.1 h).2;simp [UL,Array.getElem?_modify,h]
theorem Qij (B rb lo:Nat)(f:Nat ->Int)(n x:Nat)(a xx:Option Us)(c d:Nat)(S:Sx)(w:Ur)(h:RdJ w B rb f n x)(hB:B<=w.heap.size)(hS:Dr S)(hs:SNc w lo a c xx S)(hlo:rb<lo):
  Cl 40 #[Uk (Uc rb),Uo #[Uf a S.l.length c,Uf xx S.n d]] w fun e w'=>∃a' c' x' d',e=Ui (Uo #[Uf a' (spS f n x S).l.length c',Uf x' (spS f n x S).n d'])/\ SNc w' w.heap.size a' c' x' (spS f n x S)/\ RdJ w' B rb f n (spX f n x S)/\ w.grownBy w' (Uq rb):=by
 obtain⟨W,hW⟩:=zE ((w.alloc (Uj #[Uf a S.l.length c,Uf xx S.n d] 28)).alloc (Uj #[Ue,Ue] 28));have b0:Bl w W:=hW▸Qad _ _ _;have A0:Bx2 W w.heap.size (Uf a S.l.length c) (Uf xx S.n d):=hW▸(Bx2.made w _ _ _).allocs _;have R0:Bx2 W (w.heap.size+1) Ue Ue:=by rw [<- hW];simpa using Bx2.made (w.alloc (Uj #[Uf a S.l.length c,Uf xx S.n d] 28)) Ue Ue 28
 have Kv:=h.lt;have HR:=hid (h.bw (b0.mono hB));have HN:=hid (QaJ B rb f n x W HR);have hk:=Qhl HR;obtain⟨k,H2⟩:=zE (rk f n x);rw [H2] at hk HN;have Kq:=hid H2;have Ho:=hid b0;have Gm:=hid A0;have Gc:=hid R0;have Go:=hid (hs.bw b0);have Kb:=hid hS.gd;have Hq:=hid hS;have Hh:Hid (spS f n x S=(if k%8=0 \/S.l.length=0 then mkS S.l (spF (rk f n (rx n x)) (fS S)) else mkS (spL k S.l) (fS S))/\ spX f n x S=(if k%8=0 \/S.l.length=0 then rx n (rx n x) else rx n x)):=hid (by unfold spS spX;rw [H2];exact⟨rfl,rfl⟩);obtain⟨Z,hZ⟩:=zE (spS f n x S);obtain⟨ZX,Gz⟩:=zE (spX f n x S);rw [hZ,Gz] at Hh ⊢;clear b0 A0 R0 h hs hS H2 hZ Gz;go_enter func40,ntmps40;go_wp2_with fail;try rw [hW]
 clear hW;refine HN.mono ?_;rintro e w1 ⟨rfl,r1,g1⟩;have Kw:w.heap.size+2<=W.heap.size:=Gc.lt;have A1:=Gm.grw g1 oM;have R1:=Gc.grw g1 oM;have H8:Hid (w.grownBy w1 (Uq rb)):=hid ⟨g1.os.trans Ho.os,g1.tape.trans Ho.tape,g1.output.trans Ho.output,Uw Ho.size g1.size,fun q hq hne=>(g1.block q oM hne).trans (Ho.block q hq)⟩;have Gl:=Go.gr g1 hlo;have HC:=hid (Qf5 a xx c d S w1 Kb.sm (fun i hi=>(Qfb Hq.vd hi).1) ⟨Gl.at.1,Gl.at.2⟩);have G8:=hid A1;have Kd:=hid R1;have Gd:=hid r1;obtain⟨a0,a1⟩:=A1.q2;clear A1 R1 g1 r1 Gl HN HR Gm Gc Go;go_wp2_with fail;refine HC.mono ?_;rintro e w2 ⟨g,L,H,T,P,Q,rfl,G2⟩;obtain⟨A2,H4⟩:=G2.spA G8 Kd Gd H8 hB;obtain⟨s0,s1,sf⟩:=A2.p2;obtain⟨W3,Hn⟩:=zE ((w2.setCell (Ub w.heap.size) (Uf (Uc g) S.l.length L)).setCell (Ua w.heap.size 1) (Uf (Uc H) S.n T));rw [Hn] at H4;have F:=hid H4;obtain⟨t0,t1⟩:=H4.bs.q2;have Ku:S.l.length<=1000:=Hq.vd.2.1;clear a0 a1 A2 G2 H4 HC;have G6:Hid (∃C,B<=C/\ C<=W3.heap.size/\ (w.heap.size+2<=C/\ g<C/\∀i,i<S.l.length ->P i<C)/\ ((fS S).length=0 \/H=C)):=hid (by
  have hz:=F.br.lt;have G3:=F.lc.lt g rfl;obtain⟨Gf,e1,Kk,Kl⟩:=QaN.lt F.ru;have e1:H=Gf:=by simpa [Value.ownBlock] using e1
  by_cases h0:0<S.n
  ·obtain⟨u1,u2⟩:=F.up h0;exact⟨H,oM,oM,⟨oM,u1,u2⟩,.inr rfl⟩
  ·exact⟨W3.heap.size,oM,Uv _,⟨oM,G3.2,fun i hi=>(F.lc.pt i hi).2.1⟩,.inl (by rw [Qc2];omega)⟩)
 obtain⟨C,Gv,Gw,Gx,Gy⟩:=G6.out;have G9:Hid (B<=H):=hid (by
  obtain⟨Gf,e1,Kk,Kl⟩:=QaN.lt F.ru;have e1:H=Gf:=by simpa [Value.ownBlock] using e1
  omega)
 have Hm:=hid (Qpq B rb C f n (rx n x) (Uf (Uc H) S.n T) (fS S) W3 F.rd Gv Gw H (QaN.self F.ru) Gy G9 (by rw [Qc2];have:=(Qal.1 Hq.vd.1).2;omega) (Qml Hq.vd).br);have Hp:=hid Gx;clear Gv Gw Gx Gy G6;obtain⟨u,hu⟩:=zE (spF (rk f n (rx n x)) (fS S));rw [hu] at Hm Hh;clear hu;by_cases e0:k%8=0
 ·have d0:((k:Int)%8==0)=true:=by rw [beq_iff_eq];omega
  have HE:Hid (k%8=0 \/S.l.length=0):=hid (.inl e0);clear e0;go_wp2_with fail;try rw [Hn]
  clear Hn;refine Hm.mono ?_;rintro e w4 ⟨v4,rfl,o4,r4,f4⟩;obtain⟨gy,oy,cy,rfl,_⟩:=o4.fs;obtain⟨⟨A4,R4⟩,h5⟩:=F.ctx Hp f4 o4 r4 oM;obtain⟨W5,Hk⟩:=zE (w4.setCell (Ua w.heap.size 1) (Uf (Uq (Ua gy oy)) u.length cy));obtain⟨⟨A5,R5⟩,h7⟩:=h5 W5 Hk;obtain⟨q0,q1,qf⟩:=A4.p2;obtain⟨v0,v1⟩:=A5.q2;obtain⟨o0,o1,of⟩:=R5.p2;have HF:=hid (h7 _ rfl);clear o4 r4 f4 A4 R4 A5 R5 h5 h7 s0 s1 sf t0 t1 Hm F Hp;go_wp2_with fail;obtain⟨X7,Hl,r7,g7⟩:=HF.out;obtain⟨y0,y1⟩:=X7.q2;have E:Z=mkS S.l u/\ ZX=rx n (rx n x):=⟨by rw [Hh.1,if_pos HE.out],by rw [Hh.2,if_pos HE.out]⟩;obtain⟨rfl,rfl⟩:=E;refine zF (v:=Uo #[Uf (Uc g) S.l.length L,Uf (Uq (Ua gy oy)) u.length cy]) (by simp [results,results40,go_sem,y0,y1]) ?_;exact⟨_,L,_,cy,rfl,Hl,r7,g7⟩
 ·have d0:((k:Int)%8==0)=false:=by rw [beq_eq_false_iff_ne];omega
  by_cases Gh:S.l.length=0
  ·have d1:((S.l.length:Int)==0)=true:=(by rw [Gh];rfl);have HE:Hid (k%8=0 \/S.l.length=0):=hid (.inr Gh);clear e0 Gh;go_wp2_with fail;try rw [Hn]
   clear Hn;refine Hm.mono ?_;rintro e w4 ⟨v4,rfl,o4,r4,f4⟩;obtain⟨gy,oy,cy,rfl,_⟩:=o4.fs;obtain⟨⟨A4,R4⟩,h5⟩:=F.ctx Hp f4 o4 r4 oM;obtain⟨W5,Hk⟩:=zE (w4.setCell (Ua w.heap.size 1) (Uf (Uq (Ua gy oy)) u.length cy));obtain⟨⟨A5,R5⟩,h7⟩:=h5 W5 Hk;obtain⟨q0,q1,qf⟩:=A4.p2;obtain⟨v0,v1⟩:=A5.q2;obtain⟨o0,o1,of⟩:=R5.p2;have HF:=hid (h7 _ rfl);clear o4 r4 f4 A4 R4 A5 R5 h5 h7 s0 s1 sf t0 t1 Hm F Hp;go_wp2_with fail;obtain⟨X7,Hl,r7,g7⟩:=HF.out;obtain⟨y0,y1⟩:=X7.q2;have E:Z=mkS S.l u/\ ZX=rx n (rx n x):=⟨by rw [Hh.1,if_pos HE.out],by rw [Hh.2,if_pos HE.out]⟩;obtain⟨rfl,rfl⟩:=E;refine zF (v:=Uo #[Uf (Uc g) S.l.length L,Uf (Uq (Ua gy oy)) u.length cy]) (by simp [results,results40,go_sem,y0,y1]) ?_;exact⟨_,L,_,cy,rfl,Hl,r7,g7⟩
  ·have d1:((S.l.length:Int)==0)=false:=(by rw [beq_eq_false_iff_ne];omega);clear Hm Hp;obtain⟨mm,Hw⟩:∃mm:Int,(k:Int)/8%(S.l.length:Int)=mm:=⟨_,rfl⟩;have Ki:0<=mm:=Hw▸JW _ oM;have Kj:mm<(S.l.length:Int):=Hw▸JX _ oM;obtain⟨ii,rfl⟩:∃ii:Nat,mm=(ii:Int):=⟨mm.toNat,oM⟩;have He:ii<S.l.length:=oM;have HI:Hid (k/8%S.l.length=ii):=hid (by exact_mod_cast Hw);obtain⟨c0,c1,c2,c3,c4⟩:=F.lc.cell rfl He;obtain⟨y,hy⟩:=zE (gL S.l ii);have Hu:=Qfb Hq.vd He;rw [hy] at c0 c1 c2 c3 c4 Hu;obtain⟨p,hp⟩:=zE (P ii);obtain⟨pc,Gj⟩:=zE (Q ii);rw [hp,Gj] at c0;obtain⟨Y,Hv⟩:=zE (W3.alloc (Uj #[Uf (Uc p) y.p.length pc,Un y.fl,Ud y.r,Ud y.q,Um y.v] 85));have hM:=F.leaf He y hy _ Hv;have X4:Bx5 Y W3.heap.size (Uf (Uc p) y.p.length pc) (Un y.fl) (Ud y.r) (Ud y.q) (Um y.v):=Hv▸Bx5.new _ _ _ _ _ _ _;rw [hp,Gj] at hM;have Hs:Hid (∀j,j<S.l.length ->j≠ii ->P j≠p):=hid (fun j h1 h2 e=>F.sep j ii h1 He h2 (by rw [e,hp]));have Kc:Hid (P ii=p):=hid hp;have Gn:Hid (p≠H):=hid (hp▸F.pn ii He);have Ka:Hid (Z=mkS (spL k S.l) (fS S)/\ ZX=rx n x):=hid (by
    have hn:¬(k%8=0 \/S.l.length=0):=oM;exact⟨by rw [Hh.1,if_neg hn],by rw [Hh.2,if_neg hn]⟩)
   have Hg:Hid (∀(l':List Lf) (y':Lf),l'=(if k%8=5 then S.l++[y] else S.l) ->y'=spY k y ->l'.set ii y'=spL k S.l):=hid (fun l' y' e1 e2=>by unfold spL;rw [HI.out,hy,<- e1,<- e2]);have Kr:=hid hy;have N:=hid hM.1;have H9:=hid hM.2.1;have Gb:=hid hM.2.2;have V:=hid X4;have i1:(0:Int)<=(ii:Int):=UI _;have i2:(ii:Int)<(S.l.length:Int):=oM;have Ko:¬(S.l.length:Int)=0:=oM;have Kp:Int.tmod ((k:Int)/8) (S.l.length:Int)=(ii:Int):=(by rw [JY oM];exact Hw);have Kx:IntKind.i64.wrap (ii:Int)=(ii:Int):=(by rw [VP];omega);obtain⟨m,s,O,z,A⟩:=y;dsimp only at c0 c1 c2 c3 c4 V Hu Hv X4;clear hM X4 hy hp Gj Hh F Ki Kj;go_upto_if 40 with fail;try rw [Hv]
   clear Hv c0 c1 c2 c3 c4 s0 s1 sf t0 t1 Hn;obtain⟨b7,G1⟩:=zE W3.heap.size;rw [G1] at N V ⊢;clear G1;go_cut [] from 8 to 87 (fun wx=>∃(l':List Lf) (y':Lf) (g' c' p' H5:Nat) (P' Q':Nat ->Nat),Hid (SpM w wx B rb f n (rx n x) b7 ii l' y' (fS S) g' c' p' H5 H T P' Q'/\ Bx5 wx b7 (Uf (Uc p') y'.p.length H5) (Un y'.fl) (Ud y'.r) (Ud y'.q) (Um y'.v)/\ ii<l'.length/\ l'.length<=1001/\ l'.set ii y'=spL k S.l));case first=>
    obtain⟨k8,Kt⟩:∃k8:Nat,(k:Int)%8=(k8:Int):=⟨k%8,oM⟩;have Gg:k8<8:=oM;have M:Hid (k%8=k8):=hid oM;obtain⟨x0,x1,x2,x3,x4,xf⟩:=V.p5;match k8,Gg with
    | 0,_=>exact absurd M e0
    | 1,_=>
     obtain⟨W5,Hk⟩:=zE (Y.alloc (Uj #[Um ⟨#[]⟩] 9));have G:Bl Y W5:=Hk▸zO _ _;have z5:W5.cell? (Ub Y.heap.size)=Uq (Um ⟨#[]⟩):=Hk▸oP;have G7:=Qap Gb (fun b hb=>G.block b (Gb.lt b hb).2);have Km:=N.br.lt;obtain⟨q,cap,w6,Ha,Hy,g6,q1,I⟩:=QjL G7 (oH G.size) (oH Hu.2.1) ⟨#[]⟩ Y.heap.size z5;have H0:Y.grownBy w6 (Uq p):=⟨g6.os.trans G.os,g6.tape.trans G.tape,g6.output.trans G.output,Uw G.size g6.size,fun b hb hne=>(g6.block b (Ut hb G.size) hne).trans (G.block b hb)⟩;have Hc:=N.pt;have X6:Bx5 w6 b7 (Uf (Uc p) m.length pc) (Un s) (Ud O) (Ud z) (Um A):=by
      have e:w6.heap[b7]? =Y.heap[b7]? :=H0.block b7 V.lt (fun e=>Hc.nb (by injection e with e;exact e.symm));have q:=fun o=>US (w:=Y) (w':=w6) (a:=(Ua b7 o)) e;exact⟨(q 0).trans V.c0,(q 1).trans V.c1,(q 2).trans V.c2,(q 3).trans V.c3,(q 4).trans V.c4,fun i=>(UT (a:=(Ua b7 i)) e).trans (V.f i),Ut V.lt H0.size⟩
     have hq:q=p \/q=W5.heap.size:=by
      rcases I with e|e
      ·exact .inl (by simpa [Value.ownBlock] using e.symm)
      ·exact .inr e
     have G5:=(Hy.lt q rfl).2;have R:Hid (SpM w (w6.setCell (Ub b7) (Uf (Uc q) (m.length+1) cap)) B rb f n (rx n x) b7 ii S.l ⟨m++[⟨#[]⟩],s,O,z,A⟩ (fS S) g L q cap H T P Q/\ Bx5 (w6.setCell (Ub b7) (Uf (Uc q) (m.length+1) cap)) b7 (Uf (Uc q) (m++[(⟨#[]⟩:ByteArray)]).length cap) (Un s) (Ud O) (Ud z) (Um A)):=hid (by
      have G3:=N.glt;have H1:=V.lt;have Ks:=G.size;have M6:SpM w w6 B rb f n (rx n x) b7 ii S.l ⟨m++[⟨#[]⟩],s,O,z,A⟩ (fS S) g L q cap H T P Q:=by
       refine N.chg (r:=p) H0 ⟨Hc.lo,Hc.ng,Gn,Hs⟩ ⟨?_,G5,?_,?_,?_,?_,?_⟩
       ·rcases hq with e|e
        ·rw [e];exact Hc.lo
        ·omega
       ·rcases hq with e|e
        ·rw [e];exact Hc.ng
        ·omega
       ·rcases hq with e|e
        ·rw [e];exact Hc.nb
        ·omega
       ·have:=(Qdu Hy oP).2;simpa using this
       ·rcases Hy.2 with ⟨e,_⟩|⟨g',X,Hj,hv,_,_,e1,e2,_⟩
        ·cases e
        ·injection hv with _ _ e3;simp;omega
       ·rcases Hy.2 with ⟨e,_⟩|⟨g',X,Hj,hv,_,_,e1,e2,_⟩
        ·cases e
        ·injection hv with _ _ e3;unfold maxLen at e2;omega
      exact⟨M6.setB _ _ rfl,oU (X6.set0 (Uf (Uc q) (m.length+1) cap))⟩)
     have u0:=X6.c0;have uf:=X6.f;clear G z5 G7 Hy g6 H0 Hc X6 hq G5 q1 I;go_wp2_with (at_builtin;refine Qab rfl _ _ _ _ rfl Ha (by rfl) (by rfl) rfl ?_;clear Ha);go_meet;exact⟨S.l,⟨m++[⟨#[]⟩],s,O,z,A⟩,g,L,q,cap,P,Q,hid ⟨R.1,R.2,He,oM,Hg _ _ (by rw [if_neg (by rw [M.out];decide)]) (by unfold spY;rw [if_pos M.out])⟩⟩
    | 2,_=>
     have R:Hid (SpM w (Y.setCell (Ua b7 1) (Un !s)) B rb f n (rx n x) b7 ii S.l ⟨m, !s,O,z,A⟩ (fS S) g L p pc H T P Q/\ Bx5 (Y.setCell (Ua b7 1) (Un !s)) b7 (Uf (Uc p) (⟨m, !s,O,z,A⟩:Lf).p.length pc) (Un (⟨m, !s,O,z,A⟩:Lf).fl) (Ud (⟨m, !s,O,z,A⟩:Lf).r) (Ud (⟨m, !s,O,z,A⟩:Lf).q) (Um (⟨m, !s,O,z,A⟩:Lf).v)):=hid ⟨N.setB _ _ rfl,V.set1 _⟩;go_wp2_with fail;go_meet;exact⟨S.l,⟨m, !s,O,z,A⟩,g,L,p,pc,P,Q,hid ⟨R.1,R.2,He,oM,Hg _ _ (by rw [if_neg (by rw [M.out];decide)]) (by unfold spY;rw [if_neg (by rw [M.out];decide)];rw [if_pos M.out])⟩⟩
    | 3,_=>
     have wq:IntKind.i64.wrap (z+1)=z+1:=Qat _ oM oM;have R:Hid (SpM w (Y.setCell (Ua b7 3) (Ud (z+1))) B rb f n (rx n x) b7 ii S.l ⟨m,s,O,z+1,A⟩ (fS S) g L p pc H T P Q/\ Bx5 (Y.setCell (Ua b7 3) (Ud (z+1))) b7 (Uf (Uc p) (⟨m,s,O,z+1,A⟩:Lf).p.length pc) (Un (⟨m,s,O,z+1,A⟩:Lf).fl) (Ud (⟨m,s,O,z+1,A⟩:Lf).r) (Ud (⟨m,s,O,z+1,A⟩:Lf).q) (Um (⟨m,s,O,z+1,A⟩:Lf).v)):=hid ⟨N.setB _ _ rfl,V.set3 _⟩;go_wp2_with fail;go_meet;exact⟨S.l,⟨m,s,O,z+1,A⟩,g,L,p,pc,P,Q,hid ⟨R.1,R.2,He,oM,Hg _ _ (by rw [if_neg (by rw [M.out];decide)]) (by unfold spY;rw [if_neg (by rw [M.out];decide)];rw [if_neg (by rw [M.out];decide)];rw [if_pos M.out])⟩⟩
    | 4,_=>
     obtain⟨n4,G4⟩:=zE (200+k/128:Nat);have wn:IntKind.i64.wrap (200+(k:Int)/128)=(n4:Int):=(by rw [show 200+(k:Int)/128=(n4:Int) by omega];exact Qat _ oM oM);have Ge:=hid (QbE ⟨#[118]⟩ n4 Y oD oM);have Ga:=hid G4;clear G4;obtain⟨tx,Gk⟩:=zE (txJ (rpt ⟨#[118]⟩ n4));rw [Gk] at Ge;have Ke:=hid Gk;clear Gk;go_wp2_with fail;refine Ge.mono ?_;rintro e D ⟨rfl,G⟩;have X5:=V.bw G V.lt;have R:Hid (SpM w (D.setCell (Ua b7 4) (Um tx)) B rb f n (rx n x) b7 ii S.l ⟨m,s,O,z,tx⟩ (fS S) g L p pc H T P Q/\ Bx5 (D.setCell (Ua b7 4) (Um tx)) b7 (Uf (Uc p) m.length pc) (Un s) (Ud O) (Ud z) (Um tx)):=hid ⟨(N.bw G).setB _ _ rfl,X5.set4 _⟩;have u4:=X5.c4;have uf:=X5.f;clear X5 G x0 x1 x2 x3 x4 xf Ge;go_wp2_with fail;go_meet;exact⟨S.l,⟨m,s,O,z,tx⟩,g,L,p,pc,P,Q,hid ⟨R.1,R.2,He,oM,Hg _ _ (by rw [if_neg (by rw [M.out];decide)]) (by unfold spY;rw [if_neg (by rw [M.out];decide)];rw [if_neg (by rw [M.out];decide)];rw [if_neg (by rw [M.out];decide)];rw [if_pos M.out,Ga.out,Ke.out])⟩⟩
    | 5,_=>
     have Hc:=N.pt;have Km:=N.br.lt;have Hr:Hid (∀w1,Bl Y w1 ->Cl 41 #[Uo #[Uf (Uc p) m.length pc,Un s,Ud O,Ud z,Um A]] w1 fun e w'=>∃q cap,e=Ui (Uo #[Uf (Uc q) m.length cap,Un s,Ud O,Ud z,Um A])/\ Bl w1 w'/\ w1.heap.size<=q/\ q<w'.heap.size/\ Wr w' q 9 m.length (fun t=> Um (gS m t))/\ m.length<=cap/\ cap<=9223372036854775807/\ w'.ownsRow w1.heap.size 9 1 (Uf (Uc q) m.length cap) m.length (Qck m)):=hid (fun w1 hb=>by
      exact Qhd p 0 m.length pc ⟨m,s,O,z,A⟩ w1 rfl (oH Hu.2.1) (Ut Hc.lt hb.size) (fun t ht=>by rw [VS];exact(hb.cell (p:=(Ua p t)) Hc.lt).trans (Hc.wr.cell ht)))
     have Hd:Hid (∀w',Bl Y w' ->(w'.cell? (Ub b7)=Uq (Uf (Uc p) m.length pc)/\ w'.cell? (Ua b7 1)=Uq (Un s)/\ w'.cell? (Ua b7 2)=Uq (Ud O)/\ w'.cell? (Ua b7 3)=Uq (Ud z)/\ w'.cell? (Ua b7 4)=Uq (Um A))):=hid (fun w' hb=>⟨(hb.cell (p:=(Ub b7)) V.lt).trans V.c0,(hb.cell (p:=(Ua b7 1)) V.lt).trans V.c1,(hb.cell (p:=(Ua b7 2)) V.lt).trans V.c2,(hb.cell (p:=(Ua b7 3)) V.lt).trans V.c3,(hb.cell (p:=(Ua b7 4)) V.lt).trans V.c4⟩);have Ht:Hid (∀D q qc,Bl Y D ->Y.heap.size<=q ->q<D.heap.size ->Wr D q 9 m.length (fun t=> Um (gS m t)) ->(m.length<=qc/\ qc<=9223372036854775807) ->∃q' X J,(Builtin.append_ #[23,23] 23 #[Uf (Uc g) S.l.length L,Uf (Uc D.heap.size) 1 1]).run prog (D.alloc (Uj #[Uf (Uc q) m.length qc,Un s,Ud O,Ud z,Um A] 85))=.ok (Uf (Uc q') (S.l.length+1) X) J/\
       Bx2 J w.heap.size (Uf (Uc g) S.l.length L) (Uf (Uc H) (fS S).length T)/\ (∃P' Q',SpM w (J.setCell (Ub w.heap.size) (Uf (Uc q') (S.l.length+1) X)) B rb f n (rx n x) b7 ii (S.l++[⟨m,s,O,z,A⟩]) ⟨m,s,O,z,A⟩ (fS S) q' X p pc H T P' Q'/\ Bx5 (J.setCell (Ub w.heap.size) (Uf (Uc q') (S.l.length+1) X)) b7 (Uf (Uc p) m.length pc) (Un s) (Ud O) (Ud z) (Um A))/\ (J.cell? (Ub b7)=Uq (Uf (Uc p) m.length pc)/\ J.cell? (Ua b7 1)=Uq (Un s)/\ J.cell? (Ua b7 2)=Uq (Ud O)/\ J.cell? (Ua b7 3)=Uq (Ud z)/\ J.cell? (Ua b7 4)=Uq (Um A))/\ ((J.setCell (Ub w.heap.size) (Uf (Uc q') (S.l.length+1) X)).cell? (Ub b7)=Uq (Uf (Uc p) m.length pc)/\ (J.setCell (Ub w.heap.size) (Uf (Uc q') (S.l.length+1) X)).cell? (Ua b7 1)=Uq (Un s)/\ (J.setCell (Ub w.heap.size) (Uf (Uc q') (S.l.length+1) X)).cell? (Ua b7 2)=Uq (Ud O)/\ (J.setCell (Ub w.heap.size) (Uf (Uc q') (S.l.length+1) X)).cell? (Ua b7 3)=Uq (Ud z)/\ (J.setCell (Ub w.heap.size) (Uf (Uc q') (S.l.length+1) X)).cell? (Ua b7 4)=Uq (Um A))):=hid (fun D q qc hb h1 h2 h3 h4=>by
      obtain⟨q',X,J,hr,Kn,Gu⟩:=H9.app hb oM oM ⟨m,s,O,z,A⟩ q qc oM h2 (fun e=>oH ((H9.lt q e.symm).2)) h3 h4;have H1:=V.lt;have Kf:=N.gn.2.2;obtain⟨A7,M7⟩:=N.more hb Kn Gu (fun j hj=>by
       (try dsimp only)
       rw [if_neg oM];by_cases e:j=ii
       ·rw [e,Kc.out];exact Hc.nb
       ·exact(N.pts j hj e).nb) (by(try dsimp only);rw [if_pos rfl];omega) H1
      have gg:D.grownBy J (Uq g):=Gu.g;have e7:J.heap[b7]? =Y.heap[b7]? :=(gg.block b7 (Ut H1 hb.size) (fun e=>Kf (by injection e with e;exact e.symm))).trans (hb.block b7 H1);have e8:(J.setCell (Ub w.heap.size) (Uf (Uc q') (S.l.length+1) X)).heap[b7]? =Y.heap[b7]? :=(zH _ _ _ _ (by have:=N.hb;simp;omega)).trans e7;have cc:∀{w8:Ur},w8.heap[b7]? =Y.heap[b7]? ->Y.heap.size<=w8.heap.size ->Bx5 w8 b7 (Uf (Uc p) m.length pc) (Un s) (Ud O) (Ud z) (Um A):=fun{w8} e hs=>by
       have q:=fun o=>US (w:=Y) (w':=w8) (a:=(Ua b7 o)) e;exact⟨(q 0).trans V.c0,(q 1).trans V.c1,(q 2).trans V.c2,(q 3).trans V.c3,(q 4).trans V.c4,fun i=>(UT (a:=(Ua b7 i)) e).trans (V.f i),Ut V.lt hs⟩
      have s7:Y.heap.size<=J.heap.size:=Uw hb.size gg.size;have X7:=cc e7 s7;have X8:=cc e8 (by simpa [UL] using s7);exact⟨q',X,J,hr,A7,⟨_,_,M7,X8⟩,⟨X7.c0,X7.c1,X7.c2,X7.c3,X7.c4⟩,⟨X8.c0,X8.c1,X8.c2,X8.c3,X8.c4⟩⟩)
     have H6:=hid N.bs;have H7:Hid (∀w',Bl Y w' ->w'.cell? (Ub w.heap.size)=Uq (Uf (Uc g) S.l.length L)):=hid (fun w' hb=>(hb.cell (p:=(Ub w.heap.size)) H6.lt).trans H6.c0);clear Hc;have t0:=H6.c0;go_wp2_with fail;clear t0;refine zS Hd (fun qh=> ?_);clear x0 x1 x2 x3 x4 xf;refine tZ 0 73 ?_;refine tZ 2 75 ?_;refine QaK (i:=1) (j:=3) (d:=Uq 74) (d':=Uq 76) oK oK oK ?_ ?_
     ·
      have t0:=H7 _ zI.drew;intro o ho Gi K U;simp only [gZa,gZb,gZc,gZd] at ho;subst ho;go_simp;refine U.out _ _ (Hd _ zI.drew) (fun qh=> ?_);clear U K;try simp only [zP]
      clear t0;refine cZ 3 ?_;intro K U;go_simp;refine(Hr _ zI.drew).mono ?_;rintro e D ⟨q,qc,rfl,G,p1,p2,Hf,q1,I,H3⟩;have Hb:Bl Y D:=⟨G.os,G.tape,G.output,G.size,G.block⟩;have Hi:Bl Y (D.alloc (Uj #[Uf (Uc q) m.length qc,Un s,Ud O,Ud z,Um A] 85)):=Hb.alloc Hb.size _;obtain⟨q',X,J,Ha,A7,M7,c7,l7⟩:=Ht D q qc Hb p1 p2 Hf ⟨q1,I⟩;have Hz:=hid M7;refine U.out _ _ (Hd _ Hb) (fun qh=> ?_);clear U K;try simp only [zP]
      refine cZ 4 ?_;intro K U;go_simp;refine U.out _ _ (Hd _ Hi) (fun qh=> ?_);clear U K;try simp only [zP]
      refine cZ 5 ?_;intro K U;refine Qbg _ _ _ _ rfl Ha (by rfl) (by rfl) rfl ?_;refine U.out _ _ c7 (fun qh=> ?_);clear U K;try simp only [zP]
      refine tZ 6 79 ?_;have t0:=A7.c0;have tf:=A7.f;refine cZ 7 ?_;intro K U;go_simp;refine U.out _ _ l7 (fun qh=> ?_);clear U K;try simp only [zP]
      refine zD ?_;clear qh G Hb Hi Ha A7 M7 c7 l7 t0 tf Hf p1 p2 Ht Hr Hd q1 I H3;go_wp2_with fail;go_meet;obtain⟨P',Q',M8,X8⟩:=Hz.out;exact⟨S.l++[⟨m,s,O,z,A⟩],⟨m,s,O,z,A⟩,q',X,p,pc,P',Q',hid ⟨M8,X8,oS,oS,Hg _ _ (by rw [if_pos M.out]) (by unfold spY;rw [if_neg (by rw [M.out];decide)];rw [if_neg (by rw [M.out];decide)];rw [if_neg (by rw [M.out];decide)];rw [if_neg (by rw [M.out];decide)];rw [if_pos M.out])⟩⟩
     ·
      intro o ho Gi K U;simp only [gZa,gZb,gZc,gZd] at ho;subst ho;go_simp;refine(Hr _ zI.drew).mono ?_;rintro e D ⟨q,qc,rfl,G,p1,p2,Hf,q1,I,H3⟩;have Hb:Bl Y D:=⟨G.os,G.tape,G.output,G.size,G.block⟩;have Hi:Bl Y (D.alloc (Uj #[Uf (Uc q) m.length qc,Un s,Ud O,Ud z,Um A] 85)):=Hb.alloc Hb.size _;obtain⟨q',X,J,Ha,A7,M7,c7,l7⟩:=Ht D q qc Hb p1 p2 Hf ⟨q1,I⟩;have Hz:=hid M7;refine U.out _ _ (Hd _ Hb) (fun qh=> ?_);clear U K;try simp only [zP]
      refine QaK (i:=1) (j:=4) (d:=Uq 74) (d':=Uq 77) oK oK oK ?_ ?_
      ·
       have t0:=H7 _ Hb;intro o ho Gi K U;simp only [gZa,gZb,gZc,gZd] at ho;subst ho;go_simp;refine U.out _ _ (Hd _ Hb) (fun qh=> ?_);clear U K;try simp only [zP]
       clear t0;refine cZ 4 ?_;intro K U;go_simp;refine U.out _ _ (Hd _ Hi) (fun qh=> ?_);clear U K;try simp only [zP]
       refine cZ 5 ?_;intro K U;refine Qbg _ _ _ _ rfl Ha (by rfl) (by rfl) rfl ?_;refine U.out _ _ c7 (fun qh=> ?_);clear U K;try simp only [zP]
       refine tZ 6 79 ?_;have t0:=A7.c0;have tf:=A7.f;refine cZ 7 ?_;intro K U;go_simp;refine U.out _ _ l7 (fun qh=> ?_);clear U K;try simp only [zP]
       refine zD ?_;clear qh G Hb Hi Ha A7 M7 c7 l7 t0 tf Hf p1 p2 Ht Hr Hd q1 I H3;go_wp2_with fail;go_meet;obtain⟨P',Q',M8,X8⟩:=Hz.out;exact⟨S.l++[⟨m,s,O,z,A⟩],⟨m,s,O,z,A⟩,q',X,p,pc,P',Q',hid ⟨M8,X8,oS,oS,Hg _ _ (by rw [if_pos M.out]) (by unfold spY;rw [if_neg (by rw [M.out];decide)];rw [if_neg (by rw [M.out];decide)];rw [if_neg (by rw [M.out];decide)];rw [if_neg (by rw [M.out];decide)];rw [if_pos M.out])⟩⟩
      ·
       intro o ho Gi K U;simp only [gZa,gZb,gZc,gZd] at ho;subst ho;go_simp;refine U.out _ _ (Hd _ Hi) (fun qh=> ?_);clear U K;try simp only [zP]
       have t0:=H7 _ Hi;refine cZ 1 ?_;intro K U;go_simp;refine U.out _ _ (Hd _ Hi) (fun qh=> ?_);clear U K;try simp only [zP]
       clear t0;refine cZ 5 ?_;intro K U;refine Qbg _ _ _ _ rfl Ha (by rfl) (by rfl) rfl ?_;refine U.out _ _ c7 (fun qh=> ?_);clear U K;try simp only [zP]
       refine tZ 6 79 ?_;have t0:=A7.c0;have tf:=A7.f;refine cZ 7 ?_;intro K U;go_simp;refine U.out _ _ l7 (fun qh=> ?_);clear U K;try simp only [zP]
       refine zD ?_;clear qh G Hb Hi Ha A7 M7 c7 l7 t0 tf Hf p1 p2 Ht Hr Hd q1 I H3;go_wp2_with fail;go_meet;obtain⟨P',Q',M8,X8⟩:=Hz.out;exact⟨S.l++[⟨m,s,O,z,A⟩],⟨m,s,O,z,A⟩,q',X,p,pc,P',Q',hid ⟨M8,X8,oS,oS,Hg _ _ (by rw [if_pos M.out]) (by unfold spY;rw [if_neg (by rw [M.out];decide)];rw [if_neg (by rw [M.out];decide)];rw [if_neg (by rw [M.out];decide)];rw [if_neg (by rw [M.out];decide)];rw [if_pos M.out])⟩⟩
    | 6,_=>
     have R:Hid (SpM w (Y.setCell (Ua b7 2) (Ud 7)) B rb f n (rx n x) b7 ii S.l ⟨m,s,7,z,A⟩ (fS S) g L p pc H T P Q/\ Bx5 (Y.setCell (Ua b7 2) (Ud 7)) b7 (Uf (Uc p) (⟨m,s,7,z,A⟩:Lf).p.length pc) (Un (⟨m,s,7,z,A⟩:Lf).fl) (Ud (⟨m,s,7,z,A⟩:Lf).r) (Ud (⟨m,s,7,z,A⟩:Lf).q) (Um (⟨m,s,7,z,A⟩:Lf).v)):=hid ⟨N.setB _ _ rfl,V.set2 _⟩;go_wp2_with fail;go_meet;exact⟨S.l,⟨m,s,7,z,A⟩,g,L,p,pc,P,Q,hid ⟨R.1,R.2,He,oM,Hg _ _ (by rw [if_neg (by rw [M.out];decide)]) (by unfold spY;rw [if_neg (by rw [M.out];decide)];rw [if_neg (by rw [M.out];decide)];rw [if_neg (by rw [M.out];decide)];rw [if_neg (by rw [M.out];decide)];rw [if_neg (by rw [M.out];decide)];rw [if_pos M.out])⟩⟩
    | 7,_=>
     have Hf:=N.pt.wr;have Hx:0<m.length:=oH Hu.1;have i5:(0:Int)<(m.length:Int):=oM;have j0:=Hf.cell (i:=0) Hx;have jf:=Hf.frozen 0;have R:Hid (SpM w (Y.setCell (Ub p) (Um ⟨#[99]⟩)) B rb f n (rx n x) b7 ii S.l ⟨m.set 0 ⟨#[99]⟩,s,O,z,A⟩ (fS S) g L p pc H T P Q/\ Bx5 (Y.setCell (Ub p) (Um ⟨#[99]⟩)) b7 (Uf (Uc p) m.length pc) (Un s) (Ud O) (Ud z) (Um A)):=hid (by
      have hp:=N.pt;refine⟨N.chg (r:=p) ⟨rfl,rfl,rfl,by simp [UL],fun q hq hne=>zH _ _ _ _ (fun e=>hne (by rw [e]))⟩ ⟨hp.lo,hp.ng,Gn,Hs⟩ ⟨hp.lo,by simpa [UL] using hp.lt,hp.ng,hp.nb,?_,oU hp.c1,hp.c2⟩,V.setAt _ _ hp.nb⟩;obtain⟨Hj,q1,I,q3⟩:=hp.wr;have I:m.length<=Hj.size:=I;have q3:∀i,i<m.length ->Hj[i]? =Uq (Um (gS m i)):=q3;have qz:0<Hj.size:=oM;refine⟨Hj.setIfInBounds 0 (Um ⟨#[99]⟩),?_,oU I,fun t ht=> ?_⟩
      ·exact Qjo q1
      ·simp only [JM] at ht;by_cases e:t=0
       ·subst e;simp [gS,UA,Hx,JZ,qz]
       ·rw [show (Hj.setIfInBounds 0 (Um ⟨#[99]⟩))[t]? =Hj[t]? by simp [JZ,Ne.symm e],q3 t ht];simp [gS,UA,JK (Ne.symm e)])
     clear Hf;go_wp2_with fail;go_meet;have Kg:(m.set 0 (⟨#[99]⟩:ByteArray)).length=m.length:=JM;exact⟨S.l,⟨m.set 0 ⟨#[99]⟩,s,O,z,A⟩,g,L,p,pc,P,Q,hid ⟨R.1,by(try dsimp only);rw [Kg];exact R.2,He,oM,Hg _ _ (by rw [if_neg (by rw [M.out];decide)]) (by unfold spY;rw [if_neg (by rw [M.out];decide)];rw [if_neg (by rw [M.out];decide)];rw [if_neg (by rw [M.out];decide)];rw [if_neg (by rw [M.out];decide)];rw [if_neg (by rw [M.out];decide)];rw [if_neg (by rw [M.out];decide)])⟩⟩
   case rest=>
    obtain⟨l',y',g',c',p',H5,P',Q',HH⟩:=hcut;obtain⟨m1,m2,m3,m4,m5⟩:=HH.out;obtain⟨W5,Hk⟩:=zE (((((wc.setCell (Ua g' (ii*5)) (Uf (Uc p') y'.p.length H5)).setCell (Ua g' (ii*5+1)) (Un y'.fl)).setCell (Ua g' (ii*5+2)) (Ud y'.r)).setCell (Ua g' (ii*5+3)) (Ud y'.q)).setCell (Ua g' (ii*5+4)) (Um y'.v));obtain⟨A5,R5,h7⟩:=m1.fin m3 Hk;have HF:=hid (h7 _ rfl);obtain⟨q0,q1⟩:=m1.bs.q2;obtain⟨x0,x1,x2,x3,x4⟩:=m2.q5;have hw:=Qdv m1.row;obtain⟨Gp,Gq,Gr,Gs,Gt⟩:=Qp4 l' P' Q' ii;have z0:=(hw.cell (i:=ii*5) oM).trans (congrArg Uq Gp);have z1:=(hw.cell (i:=ii*5+1) oM).trans (congrArg Uq Gq);have z2:=(hw.cell (i:=ii*5+2) oM).trans (congrArg Uq Gr);have z3:=(hw.cell (i:=ii*5+3) oM).trans (congrArg Uq Gs);have z4:=(hw.cell (i:=ii*5+4) oM).trans (congrArg Uq Gt);have zf:=fun t=>hw.frozen t;obtain⟨v0,v1⟩:=A5.q2;obtain⟨o0,o1,of⟩:=R5.p2;have i4:(ii:Int)<(l'.length:Int):=oM;have HE:=hid m5;clear A5 R5 h7 m1 m2 m5 hw Gp Gq Gr Gs Gt HH N H9 Gb V Hw Kp i2 Ko d0 d1;go_wp2_with fail;obtain⟨X7,Hl,r7,g7⟩:=HF.out;obtain⟨y0,y1⟩:=X7.q2;rw [HE.out] at Hl;have Kh:(spL k S.l).length=l'.length:=(by rw [<- HE.out];simp);obtain⟨rfl,rfl⟩:=Ka.out;refine zF (v:=Uo #[Uf (Uc g') l'.length c',Uf (Uc H) (fS S).length T]) (by simp [results,results40,go_sem,y0,y1]) ?_;have G0:Ending.returned (Uo #[Uf (Uc g') l'.length c',Uf (Uc H) (fS S).length T])=Ui (Uo #[Uf (Uc g') (mkS (spL k S.l) (fS S)).l.length c',Uf (Uc H) (mkS (spL k S.l) (fS S)).n T]):=by
     rw [show (mkS (spL k S.l) (fS S)).l.length=l'.length from Kh];rfl
    first
     | exact⟨_,c',_,T,G0,Hl,r7,g7⟩
     | exact⟨_,c',_,⟨T,G0⟩,Hl,r7,g7⟩
def loV (m i:Nat):ByteArray:=txJ (rpt ⟨#[118]⟩ (if i=19 then m else 200))
def loF (m i:Nat):Lf:=⟨[txJ [97+(i:Int)]],false,0,((i+1:Nat):Int),loV m i⟩
def loL (m k:Nat):List Lf:=(UW k).map (loF m)
theorem QaI (m k:Nat):(loL m k).length=k:=by simp [loL]
theorem QkS (m k:Nat):loL m (k+1)=loL m k++[loF m k]:=by simp [loL,List.range_succ]
theorem QhW(h:i<k):gL (loL m k) i=loF m i:=by simp [gL,UA,loL,h]
def loS (m:Nat):Sx:=⟨loL m 20,1,fun _=>0,fun _=>1,fun _=>20⟩
theorem Qqd:∀i:Nat,i<20 ->0<i ->Op.bytesLess (txJ [97+((i - 1:Nat):Int)]).data.toList (txJ [97+(i:Int)]).data.toList=true:=by decide+kernel
theorem QlN(hm:m<=200):Qba (fun _=>0) (fun _=>1) (fun _=>20) 1 (loL m 20):=by
 refine⟨oD,by rw [QaI];omega,fun i hi=> ?_,fun i hi j hj=> ?_⟩
 ·rw [QaI] at hi;rw [QhW hi];refine⟨⟨⟨Uv _,by show 1<=8;omega,fun t ht=> ?_⟩,?_,fun h=>by cases h⟩,?_,fun h0=> ?_⟩
  ·obtain rfl:t=0:=(by have:t<1:=ht;omega);show 1<=(txJ [97+(i:Int)]).size/\ (txJ [97+(i:Int)]).size<=40;rw [QdH];simp
  ·show (loV m i).size<=200;unfold loV;rw [QdH,Qhm];have:(⟨#[118]⟩:ByteArray).size=1:=rfl;rw [this];split<;>omega
  ·show Qb6 (fun _=>0) (fun _=>1) (fun _=>20) 0 ((i+1:Nat):Int) ((i+1:Nat):Int) 1=true;simp [Qb6];omega
  ·rw [QhW oM];have q:ltS (txJ [97+((i - 1:Nat):Int)]) (txJ [97+(i:Int)])=true:=by
    unfold ltS;rw [ByteArray.toList_eq,ByteArray.toList_eq];exact Qqd i hi h0
   have k:QaC [txJ [97+((i - 1:Nat):Int)]] [txJ [97+(i:Int)]]= -1:=by
    unfold QaC QbI;rw [if_pos q];rfl
   show orI (QaC [txJ [97+((i - 1:Nat):Int)]] [txJ [97+(i:Int)]]) _<0;rw [k];simp [orI]
 ·rw [QaI] at hi;rw [QhW hi,QhW oM];rintro⟨_,h⟩;have:((j+1:Nat):Int)=((i+1:Nat):Int):=h;omega
theorem LC.setBo{b:Nat}{l:List Lf}{P Q:Nat ->Nat}(h:LC w lo v l P Q)(hv:v.ownBlock≠Uq b)(hP:∀j,j<l.length ->P j≠b):LC (w.setCell (Ua b i) u) lo v l P Q:=
 ⟨Qap h.row (fun g hg=>zH _ _ _ _ (fun e=>hv (by rw [hg,e]))),fun j hj=>by
  obtain⟨m,q,r,k⟩:=h.pt j hj;exact⟨m,by simpa [UL] using q,r,k.1.same (zH _ _ _ _ (fun e=>hP j hj e)),k.2⟩⟩
structure LoS (w wr:Ur)(m j g c:Nat)(P Q:Nat ->Nat):Prop where
 bx:Bx2 wr (w.heap.size+1+1) (Uf (Uc g) j c) Ue
 lc:LC wr (w.heap.size+1) (Uf (Uc g) j c) (loL m j) P Q
 gb:g≠w.heap.size+1+1
 pb:∀i,i<j ->P i≠w.heap.size+1+1
 rs:Bx2 wr w.heap.size Ue Ue
 low:Bl w wr
 sz:w.heap.size+3<=wr.heap.size
theorem LoS.bw{j:Nat}{P Q:Nat ->Nat}(h:LoS w wr m j g c P Q)(hb:Bl wr w1):LoS w w1 m j g c P Q:=
 ⟨h.bx.bw hb h.bx.lt,h.lc.bw hb,h.gb,h.pb,h.rs.bw hb h.rs.lt,Qaa h.low hb,Uw h.sz hb.size⟩
theorem QoM (k:Nat)(hk:k<16)(w:Ur):
  Cl 39 #[Ud (k:Int)] w fun e w'=>∃a c x d,e=Ui (Uo #[Uf a (loS (30+k%10)).l.length c,Uf x (loS (30+k%10)).n d])/\ SNc w' w.heap.size a c x (loS (30+k%10))/\ Bl w w':=by
 obtain⟨i0,hi,Hw,Hx,Hy⟩:=info_parts QcX;obtain⟨m,hm⟩:=zE (30+k%10);have Hv:IntKind.i64.wrap (30+(k:Int)%10)=(m:Int):=by rw [show 30+(k:Int)%10=(m:Int) by omega];exact Qat _ oM oM
 have Ht:m<=1000:=oM;rw [hm];clear hm;have H:Hid (LoS w (((w.alloc (Uj #[Ue,Ue] 28)).alloc (Uj #[] 85)).alloc (Uj #[Uf (Uq (Ua (w.heap.size+1) 0)) 0 0,Ue] 28)) m 0 (w.heap.size+1) 0 (fun _=>0) (fun _=>0)):=hid (by
  have R:=VF (base:=w.heap.size+1) (e:=85) (size:=5) (w.alloc (Uj #[Ue,Ue] 28)) #[] 0 oP oL rfl;refine⟨?_,⟨?_,fun i hi=>by simp [loL] at hi⟩,oM,fun i hi=>oM,((Bx2.made w _ _ _).allocs _).allocs _,(Qad _ _ _).alloc oS _,oP⟩
  ·simpa using Bx2.made ((w.alloc (Uj #[Ue,Ue] 28)).alloc (Uj #[] 85)) (Uf (Uq (Ua (w.heap.size+1) 0)) 0 0) Ue 28
  ·have R2:=Qap R (fun g hg=>(zO _ (Uj #[Uf (Uq (Ua (w.heap.size+1) 0)) 0 0,Ue] 28)).block g (R.lt g hg).2);simpa [loL] using R2)
 go_enter func39,ntmps39;go_wp2_with fail;obtain⟨W3,B⟩:=zE ((((w.alloc (Uj #[Ue,Ue] 28)).alloc (Uj #[] 85)).alloc (Uj #[Uf (Uq (Ua (w.heap.size+1) 0)) 0 0,Ue] 28)));rw [B] at H;try rw [B]
 clear B;go_loopw [5] (fun i wr=>∃(j g c:Nat) (P Q:Nat ->Nat),j<=20/\ i=Ud (j:Int)/\ Hid (LoS w wr m j g c P Q)) (fun i _=>20 - (intOf i).toNat);case atStart=>exact⟨0,_,_,_,_,Ux _,rfl,H⟩
 case round=>
  clear H;obtain⟨j,g,c,P,Q,hj,rfl,r⟩:=hrel;by_cases Hs:j<20
  ·have i1:(j:Int)<20:=oM;obtain⟨u,Hc⟩:=zE (97+j:Nat);have w1:IntKind.i64.wrap (97+(j:Int))=(u:Int):=(by rw [show 97+(j:Int)=(u:Int) by omega];exact Qat _ oM oM);have v1:IntKind.u8.wrap (u:Int)=(u:Int):=(by rw [IntKind.wrap_u8];omega);have Hd:[97+(j:Int)]=[(u:Int)]:=(by rw [show 97+(j:Int)=(u:Int) by omega]);go_wp2_with fail;refine(QbE ⟨#[118]⟩ 200 wr oD oM).mono ?_;rintro e u1 ⟨rfl,Hj⟩;have G:=hid Hj;clear Hj;go_upto_if 18 with fail;go_cut [6] from 15 to 22 (fun v wx=>v=Um (loV m j)/\ Hid (Bl wr wx));case first=>
    by_cases N:j=19
    ·have e1:((j:Int)==19)=true:=oS;have Hp:=hid N;clear N;go_wp2_with fail;refine(QbE ⟨#[118]⟩ m u1 oD Ht).mono ?_;rintro e u2 ⟨rfl,Hk⟩;have Hq:=hid (Qaa G Hk);clear Hk;go_wp2_with fail;go_meet;exact⟨by unfold loV;rw [if_pos Hp.out],Hq⟩
    ·have e1:((j:Int)==19)=false:=oS;go_wp2_with fail;go_meet;exact⟨by unfold loV;rw [if_neg N],G⟩
   case rest=>
   obtain⟨rfl,Hh⟩:=hcut;have J:=hid (r.bw Hh);clear r Hh G;obtain⟨wr,Hm⟩:=zE wc;rw [Hm] at J ⊢;have r:=J;clear J Hm;obtain⟨vv,Hb⟩:=zE (loV m j);rw [Hb];obtain⟨o,W⟩:=zE (txJ [97+(j:Int)]);have Hu:(convert 22 9 (Uf (Uc wr.heap.size) 1 1)).run prog (wr.alloc (Uj #[Ug .u8 (u:Int)] 5))=.ok (Um o) (wr.alloc (Uj #[Ug .u8 (u:Int)] 5)):=by
    have hO:Own (wr.alloc (Uj #[Ug .u8 (u:Int)] 5)) wr.heap.size (Uf (Uc wr.heap.size) 1 1) [97+(j:Int)]:=by
     rw [Hd];exact VF (base:=wr.heap.size) (e:=5) (size:=1) wr #[Ug .u8 (u:Int)] 1 zL oL rfl
    have:=Qka ⟨hO,fun z hz=>by rw [Hd] at hz;simp at hz;omega⟩ 0;rw [JA,W] at this;exact this
   have A:Bl wr ((wr.alloc (Uj #[Ug .u8 (u:Int)] 5)).alloc (Uj #[Um o] 9)):=Qad _ _ _;have M:((wr.alloc (Uj #[Ug .u8 (u:Int)] 5)).alloc (Uj #[Um o] 9)).heap.size=wr.heap.size+1+1:=oP;have T:=r.sz;have F:=(r.lc.lt g rfl);have hR:((wr.alloc (Uj #[Ug .u8 (u:Int)] 5)).alloc (Uj #[Um o] 9)).ownsRow (wr.heap.size+1) 9 1 (Uf (Uq (Ua (wr.heap.size+1) 0)) 1 1) 1 ((UW (1*1)).map fun t=> Um (gS [o] t)):=by
    have:=VF (base:=wr.heap.size+1) (e:=9) (size:=1) (wr.alloc (Uj #[Ug .u8 (u:Int)] 5)) #[Um o] 1 oP oL rfl;simpa [gS] using this
   obtain⟨L,c',w7,C,E,s⟩:=LC.app r.lc A oM (by rw [QaI];omega) ⟨[o],false,0,((j+1:Nat):Int),vv⟩ (wr.heap.size+1) 1 oM (by rw [M];omega) (fun e=>by simp [Value.ownBlock] at e;omega) (oU (Qdv hR)) oP;rw [M,QaI] at C;rw [QaI] at E s;have D:L≠w.heap.size+1+1:=by
    have h1:=r.gb;rcases s.l with e|⟨q,e,h⟩
    ·simp [Value.ownBlock] at e;omega
    ·simp [Value.ownBlock] at e;rw [M] at h;omega
   have X:∀i,i<j+1 ->(if i=j then wr.heap.size+1 else P i)≠w.heap.size+1+1:=fun i hi=>by
    by_cases e:i=j
    ·rw [if_pos e];omega
    ·rw [if_neg e];exact r.pb i oM
   have He:∀b,g≠b ->∀k,(Value.slice (Uc g) j c).ownBlock=Uq k ->k≠b:=fun b hb k e e2=>hb (by simp [Value.ownBlock] at e;omega);have Y:=(r.bx.bw A r.bx.lt).gr s.g (He _ r.gb);have V:=(r.rs.bw A r.rs.lt).gr s.g (He _ oM);have Ha:Bl w w7:=(r.low.trans (A.mono oM)).trans (s.bw (by rw [M];omega) (fun k e=>by simp [Value.ownBlock] at e;omega));have z7:=s.g.size;rw [M] at z7;have HN:Hid (LoS w (w7.setCell (Ua (w.heap.size+1+1) 0) (Uf (Uc L) (j+1) c')) m (j+1) L c' (fun i=>if i=j then wr.heap.size+1 else P i) (fun i=>if i=j then 1 else Q i)):=hid (by
    refine⟨Y.set0 _,?_,D,X,V.setAt _ _ oQ,Ha.setCell (p:=(Ua (w.heap.size+1+1) 0)) oS _,by simp [UL];omega⟩;have l8:loL m (j+1)=loL m j++[⟨[o],false,0,((j+1:Nat):Int),vv⟩]:=(by rw [QkS];unfold loF;rw [W,Hb]);rw [l8];exact E.setBo (fun e=>D (by simpa [Value.ownBlock] using e)) (fun i hi=>X i (by simpa [QaI] using hi)))
   have x0:=r.bx.c0;have x1:=(r.bx.allocs (Uj #[Ug .u8 (u:Int)] 5)).c0;have x2:=(r.bx.bw A r.bx.lt).c0;have y0:=Y.c0;have yf:=Y.f;have wj:IntKind.i64.wrap ((j:Int)+1)=((j+1:Nat):Int):=(by rw [show (j:Int)+1=((j+1:Nat):Int) by omega];exact Qat _ oM oM);clear Hd W A M T F hR E s D X He Y V Ha z7 Hc Hb r;go_wp2_with (at_builtin;refine Qab rfl _ _ _ _ rfl C (by rfl) (by rfl) rfl ?_;clear C);go_roundw;case rel=>exact⟨j+1,_,_,_,_,Hs,oN,HN⟩
   case measure=>exact oE
  ·obtain rfl:j=20:=oM;have i1:¬(20:Int)<20:=oM;have T:=r.sz;have F:=(r.lc.lt g rfl);obtain⟨y,U⟩:=zE (wr.alloc (Uj #[Ud 0,Ud 1,Ud 20] 89));have O:Bl wr y:=U▸zO _ _;have z5:y.heap.size=wr.heap.size+1:=U▸oP;have q0:y.cell? (Ub wr.heap.size)=Uq (Ud 0):=U▸oP;have q1:y.cell? (Ua wr.heap.size 1)=Uq (Ud 1):=U▸oP;have Z:y.cell? (Ua wr.heap.size 2)=Uq (Ud 20):=U▸oP;have K:=r.bx.bw O r.bx.lt;have Ho:=r.rs.bw O r.rs.lt;have Hn:=r.lc.bw O;have Hl:=K.set1 (Uf (Uc wr.heap.size) 1 1);have Hf:=Ho.setAt (Ua (w.heap.size+1+1) 1) (Uf (Uc wr.heap.size) 1 1) oQ;have V:=Hf.set (Uf (Uc g) 20 c) (Uf (Uc wr.heap.size) 1 1);have S:∀i,i<(loL m 20).length ->w.heap.size+1<=P i:=fun i hi=>(r.lc.pt i hi).1;have E:LC (((y.setCell (Ua (w.heap.size+1+1) 1) (Uf (Uc wr.heap.size) 1 1)).setCell (Ub w.heap.size) (Uf (Uc g) 20 c)).setCell (Ua w.heap.size 1) (Uf (Uc wr.heap.size) 1 1)) (w.heap.size+1) (Uf (Uc g) 20 c) (loL m 20) P Q:=
    ((Hn.setBo (fun e=>r.gb (by simpa [Value.ownBlock] using e)) (fun i hi=>r.pb i (by simpa [QaI] using hi))).setBo (fun e=>by simp [Value.ownBlock] at e;omega) (fun i hi=>oH (S i hi))).setBo (fun e=>by simp [Value.ownBlock] at e;omega) (fun i hi=>oH (S i hi))
   have Hi:=hid E;have Hr:=hid V;have Hg:Hid (Bl w (((y.setCell (Ua (w.heap.size+1+1) 1) (Uf (Uc wr.heap.size) 1 1)).setCell (Ub w.heap.size) (Uf (Uc g) 20 c)).setCell (Ua w.heap.size 1) (Uf (Uc wr.heap.size) 1 1))):=hid ((((Qaa r.low O).setCell (p:=(Ua (w.heap.size+1+1) 1)) oS _).setCell (p:=(Ub w.heap.size)) zL _).setCell (p:=(Ua w.heap.size 1)) zL _);have HQ:Hid ((∀i,i<3 ->(((y.setCell (Ua (w.heap.size+1+1) 1) (Uf (Uc wr.heap.size) 1 1)).setCell (Ub w.heap.size) (Uf (Uc g) 20 c)).setCell (Ua w.heap.size 1) (Uf (Uc wr.heap.size) 1 1)).cell? (Ua wr.heap.size i)=y.cell? (Ua wr.heap.size i))/\ wr.heap.size<y.heap.size/\ w.heap.size<=wr.heap.size):=hid ⟨fun i hi=>by
    rw [UN _ _ _ _ (by simp<;>omega),UN _ _ _ _ (by simp<;>omega),UN _ _ _ _ (by simp<;>omega)],oM,oM⟩
   obtain⟨x0,x1,xf⟩:=K.p2;obtain⟨y0,y1⟩:=Hl.q2;obtain⟨o0,o1,of⟩:=Hf.p2;have I:=hid (And.intro q0 (And.intro q1 Z));clear O z5 q0 q1 Z K Ho Hn Hl Hf V E S r T F;go_wp2_with fail;obtain⟨s0,s1⟩:=Hr.q2;refine zF (v:=Uo #[Uf (Uc g) 20 c,Uf (Uc wr.heap.size) 1 1]) (by simp [results,results39,go_sem,s0,s1]) ?_;have G0:Ending.returned (Uo #[Uf (Uc g) 20 c,Uf (Uc wr.heap.size) 1 1])=Ui (Uo #[Uf (Uc g) (loS m).l.length c,Uf (Uc wr.heap.size) (loS m).n 1]):=by
    rw [show (loS m).l.length=20 from QaI m 20];rfl
   have G1:SNc (((y.setCell (Ua (w.heap.size+1+1) 1) (Uf (Uc wr.heap.size) 1 1)).setCell (Ub w.heap.size) (Uf (Uc g) 20 c)).setCell (Ua w.heap.size 1) (Uf (Uc wr.heap.size) 1 1)) w.heap.size (Uc g) c (Uc wr.heap.size) (loS m):=⟨fun w' k1 k2=>by
    constructor
    ·have:=(Hi.move k1 (fun q h1 h2=>k2 q oM h2));exact this.lcap (by rw [QaI])
    ·have h:=HQ.out;have e:=k2 wr.heap.size h.2.2 (by simp [UL];exact h.2.1);refine .inr ⟨wr.heap.size,0,rfl,Ut (by simp [UL];exact h.2.1) k1,fun i hi=> ?_⟩;obtain rfl:i=0:=(by have:i<1:=hi;omega);exact⟨(US (a:=(Ua wr.heap.size (0+0*3))) e).trans ((h.1 0 oM).trans I.1),(US (a:=(Ua wr.heap.size (0+0*3+1))) e).trans ((h.1 1 oM).trans I.2.1),(US (a:=(Ua wr.heap.size (0+0*3+2))) e).trans ((h.1 2 oM).trans I.2.2)⟩,Hi.cp (QaI _ _)⟩
   first
    | exact⟨_,c,_,1,G0,G1,Hg⟩
    | exact⟨_,c,_,⟨1,G0⟩,G1,Hg⟩
end Go.Proofs.YtmlmkaiibamabaaGreatDoor
