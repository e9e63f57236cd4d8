import Derived.Test.YtmlmkaiibamabaaGreatDoorSyg10
set_option linter.unusedVariables false
set_option linter.unusedSimpArgs false
set_option maxRecDepth 100000
set_option maxHeartbeats 40000000
namespace Go.Proofs.YtmlmkaiibamabaaGreatDoor
open Go.ChangeShapes Go.WideShapes Go.ChangeAt Go.RowKit Go.Deep Go.Proofs.Tryz
open Go.Value renaming slice → Uf, int → Ug, pointer → Uk, tuple → Ul, string → Um, bool → Un, agg → Uo
open Go.IntKind renaming i64 → Uh
open Go.Ending renaming returned → Ui
open Go.Obj renaming cells → Uj
open Option renaming none → Up, some → Uq
open Go renaming World → Ur, Addr → Us
open Int renaming natCast_nonneg → UI
open Go.World renaming setCell → UL
open Nat renaming lt_of_lt_of_le → Ut, zero_le → Ux
variable {A B S:Sx}{a x:Option Us}{c lo m:Nat}{l:List Lf}{w w1:Ur}
theorem QlR {S:Sx}(r f t:Int):∀k,k<=S.n ->Qb6 (nS S).R (nS S).F (nS S).T r f t k=Qb6 S.R S.F S.T r f t k
 | 0,_=>rfl
 | k+1,h=>by
  have j:k<S.n:=oM;show (Qb6 _ _ _ r f t k||_)=(Qb6 _ _ _ r f t k||_);rw [QlR r f t k oM];simp only [nS,if_pos j]
theorem Qqf(h:Vd S):Vd (nS S):=by
 obtain⟨u,v,y,z⟩:=h;obtain⟨q,r⟩:=Qal.1 u;refine⟨Qal.2 ⟨fun i hi=> ?_,r⟩,v,fun i hi=> ?_,z⟩
 ·have hi:i<S.n:=hi;have:=q i hi;have g:i - 1<S.n:=oM;simp only [nS,if_pos hi,if_pos g];exact this
 ·obtain⟨j,k,m⟩:=y i hi;exact⟨j,(QlR _ _ _ S.n zL).trans k,m⟩
theorem QhE(h:Qbq S=true):Dr (nS S):=⟨Qqf (QaQ h).1,QlS h⟩
theorem SNc.nS {w:Ur}{lo c:Nat}{a x:Option Us}{S:Sx}(h:SNc w lo a c x S):SNc w lo a c x (nS S):=⟨fun w' h1 h2=>⟨(h.nc w' h1 h2).1,QoP (h.nc w' h1 h2).2⟩,h.cp⟩
theorem Gd.smI(h:Gd S):SmI S:=⟨h.sm,h.li⟩
def Rq.sm (R:Rq):Prop:=SmI R.S/\ SmI R.D
theorem Rq.ok_sm {R:Rq}(h:R.ok):R.sm:=⟨QdS (QaX h).2.1,QdS (QaX h).2.2⟩
theorem QoL(hm:m<=200):SmI (loS m):=Qev (by simp [loS,QaI]) (by simp [loS]) (fun x hx=>QfN (QlN hm).w x hx)
def loT (m k:Nat):Sx:=⟨(loL m 20).take k,1,fun _=>0,fun _=>1,fun _=>20⟩
theorem Qnm {k:Nat}(hm:m<=200):SmI (loT m k):=Qev (by simp [loT,QaI];omega) (by simp [loT]) (fun x hx=>QfN (QlN hm).w x (List.mem_of_mem_take hx))
theorem QbY.take(h:QbY w a l)(k:Nat):QbY w a (l.take k):=by
 rcases h with h|⟨b,off,e,m,q⟩
 ·left;simp [h]
 ·refine .inr ⟨b,off,e,m,fun i hi=> ?_⟩;have r:i<l.length:=by simp at hi;omega
  have j:gL (l.take k) i=gL l i:=by
   have u:i<k:=(by simp at hi;omega);simp [gL,List.getD,List.getElem?_take,u]
  rw [j];exact q i r
theorem Qng (k:Nat)(hk:k<256)(w:Ur):Cl 17 #[Ud (k:Int)] w fun e w'=>∃R:Rq,e=Ui (.agg R.vs)/\ R.Nw w' w.heap.size/\ R.sm/\ Bl w w':=by
 obtain⟨P,O⟩:∃P:Ending ->Ur ->Prop,(fun e w'=>∃R:Rq,e=Ui (.agg R.vs)/\ R.Nw w' w.heap.size/\ R.sm/\ Bl w w')=P:=⟨_,rfl⟩;rw [O];have HP:=hid O;obtain⟨W,i⟩:=zE (w.alloc (Uj #[Ud 0,Ue,Ue,Ue,Ue] 30));have L:Bl w W:=i▸zO _ _;have K:QfW W w.heap.size:=i▸Bx5.new _ _ _ _ _ _ _;have h:=hid K;have Hg:=hid L;clear O L K;go_enter func17,ntmps17;go_wp2_with fail;try rw [i]
 clear i;refine(Qhg 0 oM W).mono ?_;rintro e w1 ⟨⟨id,S,D,a,c,x,d,a',c',x',d'⟩,rfl,⟨He,Hl,Ho,N⟩,F,C,T,Hd⟩;dsimp only at He F C T Hd;subst He F C T Hd;simp only [Rq.vs];have H:=hid N;clear Hl Ho N;go_wp2_with fail;obtain⟨U,o⟩:=zE (w1.alloc (Uj #[Ud 0,Uf a Sx.mt.l.length 0,Uf x Sx.mt.n d,Uf a' Sx.mt.l.length 0,Uf x' Sx.mt.n d'] 30));have X:Bl w1 U:=o▸zO _ _;have A:Bx5 U w1.heap.size (Ud 0) (Uf a Sx.mt.l.length 0) (Uf x Sx.mt.n d) (Uf a' Sx.mt.l.length 0) (Uf x' Sx.mt.n d'):=o▸Bx5.new _ _ _ _ _ _ _;have G:=hid A;have I:=hid (Qaa H X);have J:Hid (W.heap.size<=w1.heap.size/\ w1.heap.size<U.heap.size):=hid ⟨H.size,A.lt⟩;try rw [o]
 clear o X A;refine(QoM 0 oM U).mono ?_;rintro e Z ⟨la,j,y,b,rfl,s,r⟩;obtain⟨g,off,rfl,_,_⟩:=s.at.1.resolve_left (by simp [loS,QaI]);have Y:(loS (30+0%10)).l.length=20:=by simp [loS,QaI]
 have Hf:(loS (30+0%10)).n=1:=rfl;have Hc:=s.cp;rw [Y] at Hc;rw [Y,Hf];have E:=G.bw r G.lt;have M:=h.bw (Qaa I r) h.lt;have Hj:=hid s;have Hh:=hid (Qaa Hg (Qaa I r));have Hk:=hid r.size;obtain⟨z,Hp⟩:=zE (k%2:Nat);have e2:(k:Int)%2=(z:Int):=oM;have t:z<2:=oM;obtain⟨m,hm⟩:=zE (19 - z:Nat);have e3:(19:Int) - (z:Int)=(m:Int):=oM;have e4:IntKind.i64.wrap ((19:Int) - (z:Int))=(m:Int):=by rw [Qat _ oM oM];omega
 have Hu:m<=19:=oM;have Hs:(0:Int)<=(m:Int):=UI _;have Ht:(m:Int)<=(j:Int):=oM;have Hr:0<j:=oM;obtain⟨a0,a1,a2,a3,a4,af⟩:=E.p5;have Hq:=hid E;have Hi:=hid M;obtain⟨r0,r1,Hv,r3,r4,rf⟩:=M.p5;have Hm:¬w.heap.size=w1.heap.size/\¬w1.heap.size=w.heap.size:=oJ J h.lt;obtain⟨Hb,Hn⟩:=Hm;clear s r E M Y Hf Hp hm;go_wp2_with fail;obtain⟨V,u⟩:=zE (((Z.setCell (Ua w1.heap.size 1) (Uf (Uq (Ua g off)) 20 j)).setCell (Ua w1.heap.size 2) (Uf y 1 b)).setCell (Ua w1.heap.size 1) (Uf (Uq (Ua g off)) m j));have qV:∀q,q≠w1.heap.size ->V.heap[q]? =Z.heap[q]? :=fun q hq=>by rw [<- u,zH _ _ _ _ hq,zH _ _ _ _ hq,zH _ _ _ _ hq]
 have zV:V.heap.size=Z.heap.size:=by rw [<- u];simp [UL]
 have z1:=J.out;have z2:=Hk.out;have z3:=h.lt;have bV:Bl w V:=by rw [<- u];exact((Hh.setCell (p:=(Ua w1.heap.size 1)) oQ _).setCell (p:=(Ua w1.heap.size 2)) oQ _).setCell (p:=(Ua w1.heap.size 1)) oQ _
 rw [u];clear u;have Q:=(Hi.sm (qV _ Hb) oM).set5 (Ud 0) (Uf (Uq (Ua g off)) m j) (Uf y 1 b) (Uf a' Sx.mt.l.length 0) (Uf x' Sx.mt.n d');refine zF (v:=Uo #[Ud 0,Uf (Uq (Ua g off)) m j,Uf y 1 b,Uf a' Sx.mt.l.length 0,Uf x' Sx.mt.n d']) (by simp [results,results17,go_sem,Q.c0,Q.c1,Q.c2,Q.c3,Q.c4]) ?_;rw [<- HP.out];have Ha:(loT 30 m).l.length=m:=by simp [loT,QaI];omega
 have sV:SNc V U.heap.size (Uq (Ua g off)) j y (loT 30 m):=by
  have B:=Hj.move (w1:=V) zL oM (fun q h1 t=>qV q oM);refine⟨fun v h1 t=>⟨?_,(B.nc v h1 t).2⟩,by rw [Ha];omega,Hc.2⟩;have:=(B.nc v h1 t).1;exact QbY.take this m
 refine⟨⟨0,loT 30 m,Sx.mt,Uq (Ua g off),j,y,b,a',0,x',d'⟩,?_,Rq.Nw.five (lo:=U.heap.size) ⟨sV,SNc.mtC _ _ _ _⟩ oM oM _ _ _ _ _,⟨Qnm oM,Qc3⟩,Qgd bV zL _ _ _ _ _⟩;simp only [Rq.vs];rw [Ha];rfl
theorem Qie (w:Ur)(p:Us)(v:Value):(w.setCell p v).os=w.os:=rfl
theorem Qig (w:Ur)(p:Us)(v:Value):(w.setCell p v).tape=w.tape:=rfl
theorem Qif (w:Ur)(p:Us)(v:Value):(w.setCell p v).output=w.output:=rfl
structure SNe (w:Ur)(E:Nat ->Prop)(a:Option Us)(c:Nat)(x:Option Us)(S:Sx):Prop where
 nc:∀w':Ur,w.heap.size<=w'.heap.size ->(∀q,q<w.heap.size ->¬E q ->w'.heap[q]? =w.heap[q]?) ->QbY w' a S.l/\ QaT w' x S.n S.R S.F S.T
 cp:S.l.length<=c/\ c<=9223372036854775807
theorem SNc.ne{E:Nat ->Prop}(h:SNc w lo a c x S)(hE:∀q,E q ->q<lo \/w.heap.size<=q):SNe w E a c x S:=⟨fun w' h1 h2=>h.nc w' h1 (fun q h3 h4=>h2 q h4 (fun e=>by have:=hE q e;omega)),h.cp⟩
theorem SNe.move{E:Nat ->Prop}(h:SNe w E a c x S)(hs:w.heap.size<=w1.heap.size)(hq:∀q,q<w.heap.size ->¬E q ->w1.heap[q]? =w.heap[q]?):SNe w1 E a c x S:=⟨fun w' h1 h2=>h.nc w' (Nat.le_trans hs h1) (fun q h3 h4=>(h2 q (Ut h3 hs) h4).trans (hq q h3 h4)),h.cp⟩
structure Rq.Ne (R:Rq)(w:Ur)(E:Nat ->Prop):Prop where
 s:SNe w E R.a R.c R.x R.S
 t:SNe w E R.a' R.c' R.x' R.D
theorem Rq.Nw.ne {R:Rq}{E:Nat ->Prop}(h:R.Nw w lo)(hE:∀q,E q ->q<lo \/w.heap.size<=q):R.Ne w E:=⟨h.s.ne hE,h.t.ne hE⟩
theorem Rq.Ne.move {R:Rq}{E:Nat ->Prop}(h:R.Ne w E)(hs:w.heap.size<=w1.heap.size)(hq:∀q,q<w.heap.size ->¬E q ->w1.heap[q]? =w.heap[q]?):R.Ne w1 E:=⟨h.s.move hs hq,h.t.move hs hq⟩
theorem Rq.Ne.at {R:Rq}{E:Nat ->Prop}(h:R.Ne w E)(hk:R.sm):R.At w:=
 have a:=h.s.nc w zL (fun _ _ _=>rfl)
 have b:=h.t.nc w zL (fun _ _ _=>rfl)
 ⟨⟨a.1,a.2⟩,⟨b.1,b.2⟩,h.s.cp,h.t.cp,hk.1,hk.2⟩
theorem QlY{B rb:Nat}{f:Nat ->Int}{n x:Nat}(h:RdJ w B rb f n x):rk f n (rx n x)<256:=by
 obtain⟨_,_,_,_,j,_⟩:=h;unfold rk;split
 ·have:=j (rx n x);omega
 ·omega
theorem QkO (B rb lo:Nat)(f:Nat ->Int)(n xx:Nat)(R:Rq)(w:Ur)(hB:B<=w.heap.size)(h:RdJ w B rb f n xx)(hN:R.Nw w lo)(hk:R.ok)(hlo:rb<lo)(hlw:lo<=w.heap.size)(E:Nat ->Prop)(hE:R.Ne w E)(hEr:E rb)(hEw:∀q,E q ->q<w.heap.size):
  Cl 18 #[Uk (Uc rb),.agg R.vs] w fun e w'=>∃(R':Rq) (x':Nat),e=Ui (.agg R'.vs)/\ R'.Ne w' E/\ R'.sm/\ RdJ w' B rb f n x'/\ w.grownBy w' (Uq rb):=by
 obtain⟨P,hP⟩:∃P:Ending ->Ur ->Prop,(fun e w'=>∃(R':Rq) (x':Nat),e=Ui (.agg R'.vs)/\ R'.Ne w' E/\ R'.sm/\ RdJ w' B rb f n x'/\ w.grownBy w' (Uq rb))=P:=⟨_,rfl⟩;rw [hP];have HP:=hid hP;have Hu:=h.lt;have Ha:Hid (∀(v Z:Ur) (R':Rq) (x':Nat),w.grownBy v (Uq rb) ->RdJ v B rb f n x' ->Z.os=v.os ->Z.tape=v.tape ->Z.output=v.output ->Z.heap.size=v.heap.size ->(∀q,q≠w.heap.size ->q≠w.heap.size+1 ->Z.heap[q]? =v.heap[q]?) ->R'.Ne Z E ->R'.sm ->P (Ui (.agg R'.vs)) Z):=hid (fun v Z R' x' g r z1 z2 z3 z4 hq hn hs=>by
  have hz:=g.size;rw [<- HP.out];exact⟨R',x',rfl,hn,hs,r.bw ⟨z1,z2,z3,oM,fun q h=>hq q oM oM⟩,z1.trans g.os,z2.trans g.tape,z3.trans g.output,oM,fun q h hne=>(hq q oM oM).trans (g.block q h hne)⟩)
 obtain⟨p,S,D,a,c,x,d,a',c',x',d'⟩:=R;simp only [Rq.vs];obtain⟨W,hW⟩:=zE ((w.alloc (Uj #[Ud p,Uf a S.l.length c,Uf x S.n d,Uf a' D.l.length c',Uf x' D.n d'] 30)).alloc (Uj #[Ud 0,Ue,Ue,Ue,Ue] 30));have b0:Bl w W:=hW▸Qad _ _ _;have zW:W.heap.size=w.heap.size+2:=hW▸oP;have A0:Bx5 W w.heap.size (Ud p) (Uf a S.l.length c) (Uf x S.n d) (Uf a' D.l.length c') (Uf x' D.n d'):=hW▸(Bx5.new _ _ _ _ _ _ _).up _;have R0:QfW W (w.heap.size+1):=by
  rw [<- hW];simpa using Bx5.new (w.alloc (Uj #[Ud p,Uf a S.l.length c,Uf x S.n d,Uf a' D.l.length c',Uf x' D.n d'] 30)) (Ud 0) Ue Ue Ue Ue 30
 have Hm:=hid (QaJ B rb f n _ W (h.bw (b0.mono hB)));have Hq:rk f n xx<256:=Qhl h;obtain⟨k,Ho⟩:=zE (rk f n xx);rw [Ho] at Hm Hq;have HN:=hid hN;have HE:=hid (And.intro hE (And.intro hEr hEw));have N:=hid hk;have HA:=hid A0;have HR:=hid R0;have Hb:=hid b0;have HZ:=hid zW;have M:=hid (And.intro hB (And.intro Hu (And.intro hlo hlw)));clear Ho hP b0 A0 R0 zW h hN hk hE hEr hEw;go_enter func18,ntmps18;go_wp2_with fail;try rw [hW]
 clear hW;refine Hm.mono ?_;rintro e w1 ⟨rfl,r1,U⟩;have H:Hid (w.grownBy w1 (Uq rb)):=hid ⟨U.os.trans Hb.os,U.tape.trans Hb.tape,U.output.trans Hb.output,Nat.le_trans Hb.size U.size,fun q hq hne=>(U.block q (Ut hq Hb.size) hne).trans (Hb.block q hq)⟩;have hz:=HZ.out;have I:=M.out;have A1:=HA.sm (U.block _ oM (fun e=>oI e)) U.size;have R1:=HR.sm (U.block _ oM (fun e=>oI e)) U.size;have Hl:=hid A1;have Hk:=hid R1;have Hc:=hid r1;have Hd:Hid (w.heap.size+2<=w1.heap.size):=hid (oH U.size);have Hn:=hid (HN.move (w':=w1) zL H.size (fun q i b=>H.block q b (fun e=>oI e)));have Hj:Hid (∀(v:Ur) {Z:Ur},w.grownBy v (Uq rb) ->Z.heap.size=v.heap.size ->(∀q,q≠w.heap.size ->q≠w.heap.size+1 ->Z.heap[q]? =v.heap[q]?) ->Rq.Ne ⟨p,S,D,a,c,x,d,a',c',x',d'⟩ Z E):=hid (fun v Z g z hq=>HE.1.move (oH g.size) (fun q i b=>(hq q oM oM).trans (g.block q i (fun e=>b (by injection e with e;rw [e];exact HE.2.1)))));obtain⟨a0,a1,a2,a3,a4,af⟩:=A1.p5;obtain⟨p0,p1,p2,p3,p4,pf⟩:=R1.p5;clear r1 U A1 R1 hz I Hm;obtain⟨G,Ht⟩:=zE (k%4:Nat);have e4:(k:Int)%4=(G:Int):=oM;have h4:G<4:=oM;obtain⟨J,Hs⟩:=zE (k/4:Nat);have f4:(k:Int)/4=(J:Int):=oM;have g4:J<64:=oM;clear Ht Hs;by_cases c0:G=0
 ·have d0:((G:Int)==0)=true:=oS;have ew:IntKind.i64.wrap ((J:Int) - 8)=(J:Int) - 8:=Qat _ oM oM;go_wp2_with fail;have Q:=(Hk.sm (zH w1 (Ub w.heap.size) (Ud ((J:Int) - 8)) (w.heap.size+1) oQ) (by simp [UL])).set5 (Ud ((J:Int) - 8)) (Uf a S.l.length c) (Uf x S.n d) (Uf a' D.l.length c') (Uf x' D.n d');refine zF (v:=Uo #[Ud ((J:Int) - 8),Uf a S.l.length c,Uf x S.n d,Uf a' D.l.length c',Uf x' D.n d']) (by simp [results,results18,go_sem,Q.c0,Q.c1,Q.c2,Q.c3,Q.c4]) ?_;refine Ha w1 _ ⟨(J:Int) - 8,S,D,a,c,x,d,a',c',x',d'⟩ _ H Hc (by simp only [Qie]) (by simp only [Qig]) (by simp only [Qif]) (by simp [UL]) (fun q i b=>by rw [zH _ _ _ _ b,zH _ _ _ _ b,zH _ _ _ _ b,zH _ _ _ _ b,zH _ _ _ _ b,zH _ _ _ _ i]) ?_ (Rq.ok_sm N.out:Rq.sm ⟨p,S,D,a,c,x,d,a',c',x',d'⟩);refine(fun(h:Rq.Ne ⟨p,S,D,a,c,x,d,a',c',x',d'⟩ _ E)=>⟨h.s,h.t⟩) ?_;refine Hj w1 H ?_ ?_
  ·simp [UL]
  ·intro q i b;rw [QcT _ b,zH _ _ _ _ i]
 ·have d0:((G:Int)==0)=false:=oS;by_cases c1:G=1
  ·have d1:((G:Int)==1)=true:=oS;have C:Hid (Cl 40 #[Uk (Uc rb),Uo #[Uf a S.l.length c,Uf x S.n d]] w1 fun e w'=>∃j m u y x5 X,e=Ui (Uo #[Uf j (Sx.l X).length m,Uf u (Sx.n X) y])/\ SNc w' w1.heap.size j m u X/\ SmI X/\ RdJ w' B rb f n x5/\ w1.grownBy w' (Uq rb)):=hid ((Qij B rb lo f n _ a x c d (nS S) w1 Hc (oJ M H.size) (QhE (QaX N).2.1) Hn.s.nS M.2.2.1).mono fun e w' ⟨j,m,u,y,i,b,h3,h4⟩=>⟨j,m,u,y,_,_,i,b,(Qmb (QhE (QaX N).2.1) (QlY Hc)).smI,h3,h4⟩);go_wp2_with fail;refine C.mono ?_;rintro e o ⟨j,m,u,y,x5,X,rfl,s5,T,r5,A⟩;have F:=Hd.out;have I:=M.out;have K:=Hl.sm (A.block _ oM (fun e=>oI e)) A.size;have O:=Hk.sm (A.block _ oM (fun e=>oI e)) A.size;have L:=hid (QaS H A);have Hh:=hid s5;have He:=hid T;have Hg:=hid r5;have Hf:=hid O;have Hi:=hid A.size;clear a0 a1 a2 a3 a4 af p0 p1 p2 p3 p4 pf;obtain⟨a0,a1,a2,a3,a4,af⟩:=K.p5;obtain⟨p0,p1,p2,p3,p4,pf⟩:=O.p5;clear K O s5 T r5 A F I C;go_wp2_with fail;have Y:∀(V:Ur) (u0 u1 u2 u3 u4 t1 t2:Value) (q:Nat),q≠w.heap.size ->q≠w.heap.size+1 ->(((((((V.setCell (Ua w.heap.size 1) t1).setCell (Ua w.heap.size 2) t2).setCell (Ua (w.heap.size+1) 0) u0).setCell (Ua (w.heap.size+1) 1) u1).setCell (Ua (w.heap.size+1) 2) u2).setCell (Ua (w.heap.size+1) 3) u3).setCell (Ua (w.heap.size+1) 4) u4).heap[q]? =V.heap[q]? :=fun V u0 u1 u2 u3 u4 t1 t2 q i b=>by rw [QcT _ b,zH _ _ _ _ i,zH _ _ _ _ i]
   have Q:=(Hf.sm (show ((o.setCell (Ua w.heap.size 1) (Uf j X.l.length m)).setCell (Ua w.heap.size 2) (Uf u X.n y)).heap[w.heap.size+1]? =o.heap[w.heap.size+1]? from by rw [zH _ _ _ _ oQ,zH _ _ _ _ oQ]) (by simp [UL])).set5 (Ud p) (Uf j X.l.length m) (Uf u X.n y) (Uf a' D.l.length c') (Uf x' D.n d');refine zF (v:=Uo #[Ud p,Uf j X.l.length m,Uf u X.n y,Uf a' D.l.length c',Uf x' D.n d']) (by simp [results,results18,go_sem,Q.c0,Q.c1,Q.c2,Q.c3,Q.c4]) ?_;have F:=Hd.out;have I:=M.out;have Hp:=Hi.out;have hM:=Hj o (Z:=((((((o.setCell (Ua w.heap.size 1) (Uf j X.l.length m)).setCell (Ua w.heap.size 2) (Uf u X.n y)).setCell (Ua (w.heap.size+1) 0) (Ud p)).setCell (Ua (w.heap.size+1) 1) (Uf j X.l.length m)).setCell (Ua (w.heap.size+1) 2) (Uf u X.n y)).setCell (Ua (w.heap.size+1) 3) (Uf a' D.l.length c')).setCell (Ua (w.heap.size+1) 4) (Uf x' D.n d')) L (by simp [UL]) (Y o _ _ _ _ _ _ _);have hX:=(Hh.move (w1:=((((((o.setCell (Ua w.heap.size 1) (Uf j X.l.length m)).setCell (Ua w.heap.size 2) (Uf u X.n y)).setCell (Ua (w.heap.size+1) 0) (Ud p)).setCell (Ua (w.heap.size+1) 1) (Uf j X.l.length m)).setCell (Ua (w.heap.size+1) 2) (Uf u X.n y)).setCell (Ua (w.heap.size+1) 3) (Uf a' D.l.length c')).setCell (Ua (w.heap.size+1) 4) (Uf x' D.n d')) (lo':=w1.heap.size) zL (by simp [UL]) (fun q i b=>Y o _ _ _ _ _ _ _ q oM oM)).ne (E:=E) (fun q hq=> .inl (oH (HE.2.2 q hq)));exact Ha o _ ⟨p,X,D,j,m,u,y,a',c',x',d'⟩ _ L Hg (by simp only [Qie]) (by simp only [Qig]) (by simp only [Qif]) (by simp [UL]) (Y o _ _ _ _ _ _ _) ⟨hX,hM.t⟩ ⟨He,(Rq.ok_sm N.out:Rq.sm ⟨p,S,D,a,c,x,d,a',c',x',d'⟩).2⟩
  ·have d1:((G:Int)==1)=false:=oS;by_cases c2:G=2
   ·have d2:((G:Int)==2)=true:=oS;have C:Hid (Cl 40 #[Uk (Uc rb),Uo #[Uf a' D.l.length c',Uf x' D.n d']] w1 fun e w'=>∃j m u y x5 X,e=Ui (Uo #[Uf j (Sx.l X).length m,Uf u (Sx.n X) y])/\ SNc w' w1.heap.size j m u X/\ SmI X/\ RdJ w' B rb f n x5/\ w1.grownBy w' (Uq rb)):=hid ((Qij B rb lo f n _ a' x' c' d' (nS D) w1 Hc (oJ M H.size) (QhE (QaX N).2.2) Hn.t.nS M.2.2.1).mono fun e w' ⟨j,m,u,y,i,b,h3,h4⟩=>⟨j,m,u,y,_,_,i,b,(Qmb (QhE (QaX N).2.2) (QlY Hc)).smI,h3,h4⟩);go_wp2_with fail;refine C.mono ?_;rintro e o ⟨j,m,u,y,x5,X,rfl,s5,T,r5,A⟩;have F:=Hd.out;have I:=M.out;have K:=Hl.sm (A.block _ oM (fun e=>oI e)) A.size;have O:=Hk.sm (A.block _ oM (fun e=>oI e)) A.size;have L:=hid (QaS H A);have Hh:=hid s5;have He:=hid T;have Hg:=hid r5;have Hf:=hid O;have Hi:=hid A.size;clear a0 a1 a2 a3 a4 af p0 p1 p2 p3 p4 pf;obtain⟨a0,a1,a2,a3,a4,af⟩:=K.p5;obtain⟨p0,p1,p2,p3,p4,pf⟩:=O.p5;clear K O s5 T r5 A F I C;go_wp2_with fail;have Y:∀(V:Ur) (u0 u1 u2 u3 u4 t1 t2:Value) (q:Nat),q≠w.heap.size ->q≠w.heap.size+1 ->(((((((V.setCell (Ua w.heap.size 3) t1).setCell (Ua w.heap.size 4) t2).setCell (Ua (w.heap.size+1) 0) u0).setCell (Ua (w.heap.size+1) 1) u1).setCell (Ua (w.heap.size+1) 2) u2).setCell (Ua (w.heap.size+1) 3) u3).setCell (Ua (w.heap.size+1) 4) u4).heap[q]? =V.heap[q]? :=fun V u0 u1 u2 u3 u4 t1 t2 q i b=>by rw [QcT _ b,zH _ _ _ _ i,zH _ _ _ _ i]
    have Q:=(Hf.sm (show ((o.setCell (Ua w.heap.size 3) (Uf j X.l.length m)).setCell (Ua w.heap.size 4) (Uf u X.n y)).heap[w.heap.size+1]? =o.heap[w.heap.size+1]? from by rw [zH _ _ _ _ oQ,zH _ _ _ _ oQ]) (by simp [UL])).set5 (Ud p) (Uf a S.l.length c) (Uf x S.n d) (Uf j X.l.length m) (Uf u X.n y);refine zF (v:=Uo #[Ud p,Uf a S.l.length c,Uf x S.n d,Uf j X.l.length m,Uf u X.n y]) (by simp [results,results18,go_sem,Q.c0,Q.c1,Q.c2,Q.c3,Q.c4]) ?_;have F:=Hd.out;have I:=M.out;have Hp:=Hi.out;have hM:=Hj o (Z:=((((((o.setCell (Ua w.heap.size 3) (Uf j X.l.length m)).setCell (Ua w.heap.size 4) (Uf u X.n y)).setCell (Ua (w.heap.size+1) 0) (Ud p)).setCell (Ua (w.heap.size+1) 1) (Uf a S.l.length c)).setCell (Ua (w.heap.size+1) 2) (Uf x S.n d)).setCell (Ua (w.heap.size+1) 3) (Uf j X.l.length m)).setCell (Ua (w.heap.size+1) 4) (Uf u X.n y)) L (by simp [UL]) (Y o _ _ _ _ _ _ _);have hX:=(Hh.move (w1:=((((((o.setCell (Ua w.heap.size 3) (Uf j X.l.length m)).setCell (Ua w.heap.size 4) (Uf u X.n y)).setCell (Ua (w.heap.size+1) 0) (Ud p)).setCell (Ua (w.heap.size+1) 1) (Uf a S.l.length c)).setCell (Ua (w.heap.size+1) 2) (Uf x S.n d)).setCell (Ua (w.heap.size+1) 3) (Uf j X.l.length m)).setCell (Ua (w.heap.size+1) 4) (Uf u X.n y)) (lo':=w1.heap.size) zL (by simp [UL]) (fun q i b=>Y o _ _ _ _ _ _ _ q oM oM)).ne (E:=E) (fun q hq=> .inl (oH (HE.2.2 q hq)));exact Ha o _ ⟨p,S,X,a,c,x,d,j,m,u,y⟩ _ L Hg (by simp only [Qie]) (by simp only [Qig]) (by simp only [Qif]) (by simp [UL]) (Y o _ _ _ _ _ _ _) ⟨hM.s,hX⟩ ⟨(Rq.ok_sm N.out:Rq.sm ⟨p,S,D,a,c,x,d,a',c',x',d'⟩).1,He⟩
   ·have d2:((G:Int)==2)=false:=oS;obtain⟨t5,Hv⟩:=zE (J%5:Nat);have e5:(J:Int)%5=(t5:Int):=oM;obtain⟨m5,Hr⟩:=zE (5+t5:Nat);have e6:(5:Int)+(t5:Int)=(m5:Int):=oM;have C:Hid (Cl 39 #[Ud (m5:Int)] w1 fun e w'=>∃j m u y x5 X,e=Ui (Uo #[Uf j (Sx.l X).length m,Uf u (Sx.n X) y])/\ SNc w' w1.heap.size j m u X/\ SmI X/\ RdJ w' B rb f n x5/\ w1.grownBy w' (Uq rb)):=hid ((QoM m5 oM w1).mono fun e w' ⟨j,m,u,y,i,b,h3⟩=>⟨j,m,u,y,_,_,i,b,QoL oM,Hc.bw (h3.mono (oJ M H.size)),⟨h3.os,h3.tape,h3.output,h3.size,fun q i _=>h3.block q i⟩⟩);clear Hv Hr;go_wp2_with fail;refine C.mono ?_;rintro e o ⟨j,m,u,y,x5,X,rfl,s5,T,r5,A⟩;have F:=Hd.out;have I:=M.out;have K:=Hl.sm (A.block _ oM (fun e=>oI e)) A.size;have O:=Hk.sm (A.block _ oM (fun e=>oI e)) A.size;have L:=hid (QaS H A);have Hh:=hid s5;have He:=hid T;have Hg:=hid r5;have Hf:=hid O;have Hi:=hid A.size;clear a0 a1 a2 a3 a4 af p0 p1 p2 p3 p4 pf;obtain⟨a0,a1,a2,a3,a4,af⟩:=K.p5;obtain⟨p0,p1,p2,p3,p4,pf⟩:=O.p5;clear K O s5 T r5 A F I C;go_wp2_with fail;have Y:∀(V:Ur) (u0 u1 u2 u3 u4 t1 t2:Value) (q:Nat),q≠w.heap.size ->q≠w.heap.size+1 ->(((((((V.setCell (Ua w.heap.size 1) t1).setCell (Ua w.heap.size 2) t2).setCell (Ua (w.heap.size+1) 0) u0).setCell (Ua (w.heap.size+1) 1) u1).setCell (Ua (w.heap.size+1) 2) u2).setCell (Ua (w.heap.size+1) 3) u3).setCell (Ua (w.heap.size+1) 4) u4).heap[q]? =V.heap[q]? :=fun V u0 u1 u2 u3 u4 t1 t2 q i b=>by rw [QcT _ b,zH _ _ _ _ i,zH _ _ _ _ i]
    have Q:=(Hf.sm (show ((o.setCell (Ua w.heap.size 1) (Uf j X.l.length m)).setCell (Ua w.heap.size 2) (Uf u X.n y)).heap[w.heap.size+1]? =o.heap[w.heap.size+1]? from by rw [zH _ _ _ _ oQ,zH _ _ _ _ oQ]) (by simp [UL])).set5 (Ud p) (Uf j X.l.length m) (Uf u X.n y) (Uf a' D.l.length c') (Uf x' D.n d');refine zF (v:=Uo #[Ud p,Uf j X.l.length m,Uf u X.n y,Uf a' D.l.length c',Uf x' D.n d']) (by simp [results,results18,go_sem,Q.c0,Q.c1,Q.c2,Q.c3,Q.c4]) ?_;have F:=Hd.out;have I:=M.out;have Hp:=Hi.out;have hM:=Hj o (Z:=((((((o.setCell (Ua w.heap.size 1) (Uf j X.l.length m)).setCell (Ua w.heap.size 2) (Uf u X.n y)).setCell (Ua (w.heap.size+1) 0) (Ud p)).setCell (Ua (w.heap.size+1) 1) (Uf j X.l.length m)).setCell (Ua (w.heap.size+1) 2) (Uf u X.n y)).setCell (Ua (w.heap.size+1) 3) (Uf a' D.l.length c')).setCell (Ua (w.heap.size+1) 4) (Uf x' D.n d')) L (by simp [UL]) (Y o _ _ _ _ _ _ _);have hX:=(Hh.move (w1:=((((((o.setCell (Ua w.heap.size 1) (Uf j X.l.length m)).setCell (Ua w.heap.size 2) (Uf u X.n y)).setCell (Ua (w.heap.size+1) 0) (Ud p)).setCell (Ua (w.heap.size+1) 1) (Uf j X.l.length m)).setCell (Ua (w.heap.size+1) 2) (Uf u X.n y)).setCell (Ua (w.heap.size+1) 3) (Uf a' D.l.length c')).setCell (Ua (w.heap.size+1) 4) (Uf x' D.n d')) (lo':=w1.heap.size) zL (by simp [UL]) (fun q i b=>Y o _ _ _ _ _ _ _ q oM oM)).ne (E:=E) (fun q hq=> .inl (oH (HE.2.2 q hq)));exact Ha o _ ⟨p,X,D,j,m,u,y,a',c',x',d'⟩ _ L Hg (by simp only [Qie]) (by simp only [Qig]) (by simp only [Qif]) (by simp [UL]) (Y o _ _ _ _ _ _ _) ⟨hX,hM.t⟩ ⟨He,(Rq.ok_sm N.out:Rq.sm ⟨p,S,D,a,c,x,d,a',c',x',d'⟩).2⟩
def Eb (z rb ba bb q:Nat):Prop:=q=z \/q=z+1 \/q=rb \/q=ba \/q=bb
structure TwI (w wr:Ur)(rb:Nat)(f:Nat ->Int)(n x ba bb:Nat)(R Q:Rq):Prop where
 rd:RdJ wr (rb+1) rb f n x
 bv:Bl w wr
 a:R.Bx wr ba
 b:Q.Bx wr bb
 na:R.Ne wr (Eb w.heap.size rb ba bb)
 nb:Q.Ne wr (Eb w.heap.size rb ba bb)
 sa:R.sm
 sb:Q.sm
 od:w.heap.size+2<=rb/\ rb<ba/\ rb<bb/\ ba≠bb
 r1:QfW wr w.heap.size
 r2:QfW wr (w.heap.size+1)
section
variable {w wr w1 : Ur} {rb : Nat} {f : Nat -> Int} {n x x1 ba bb : Nat} {R R' Q : Rq}
theorem Qft {z q:Nat}:¬Eb z rb ba bb q ->q≠z/\ q≠z+1/\ q≠rb/\ q≠ba/\ q≠bb:=fun h=>⟨fun e=>h (.inl e),fun e=>h (.inr (.inl e)),fun e=>h (.inr (.inr (.inl e))),fun e=>h (.inr (.inr (.inr (.inl e)))),fun e=>h (.inr (.inr (.inr (.inr e))))⟩
theorem TwI.grow (h:TwI w wr rb f n x ba bb R Q)(g:wr.grownBy w1 (Uq rb))(r:RdJ w1 (rb+1) rb f n x1):TwI w w1 rb f n x1 ba bb R Q:=by
 have j:=h.od;have k:=h.bv.size;have m:=h.a.lt;have u:=h.b.lt;have e:∀q,q≠rb ->q<wr.heap.size ->w1.heap[q]? =wr.heap[q]? :=fun q j k=>g.block q k (fun e=>j (by injection e));exact⟨r,⟨g.os.trans h.bv.os,g.tape.trans h.bv.tape,g.output.trans h.bv.output,Nat.le_trans k g.size,fun q hq=>(e q oM oM).trans (h.bv.block q hq)⟩,h.a.sm (e _ oM m) g.size,h.b.sm (e _ oM u) g.size,h.na.move g.size (fun q h3 h4=>e q (Qft h4).2.2.1 h3),h.nb.move g.size (fun q h3 h4=>e q (Qft h4).2.2.1 h3),h.sa,h.sb,j,h.r1.sm (e _ oM h.r1.lt) g.size,h.r2.sm (e _ oM h.r2.lt) g.size⟩
theorem TwI.bw (h:TwI w wr rb f n x ba bb R Q)(b:Bl wr w1):TwI w w1 rb f n x ba bb R Q:=h.grow ⟨b.os,b.tape,b.output,b.size,fun q h1 _=>b.block q h1⟩ (h.rd.bw (b.mono (by have:=h.od;have:=h.a.lt;omega)))
theorem TwI.swap (h:TwI w wr rb f n x ba bb R Q):TwI w wr rb f n x bb ba Q R:=by
 have u:=h.od;have e:∀q,¬Eb w.heap.size rb bb ba q ->¬Eb w.heap.size rb ba bb q:=fun q hq m=>by
  have:=Qft hq;rcases m with m|m|m|m|m<;>omega
 have r:∀{R:Rq},R.Ne wr (Eb w.heap.size rb ba bb) ->R.Ne wr (Eb w.heap.size rb bb ba):=fun k=>⟨⟨fun w' m h3=>k.s.nc w' m (fun q h4 h5=>h3 q h4 (fun j=>h5 (by rcases j with j|j|j|j|j;exact .inl j;exact .inr (.inl j);exact .inr (.inr (.inl j));exact .inr (.inr (.inr (.inr j)));exact .inr (.inr (.inr (.inl j)))))),k.s.cp⟩,⟨fun w' m h3=>k.t.nc w' m (fun q h4 h5=>h3 q h4 (fun j=>h5 (by rcases j with j|j|j|j|j;exact .inl j;exact .inr (.inl j);exact .inr (.inr (.inl j));exact .inr (.inr (.inr (.inr j)));exact .inr (.inr (.inr (.inl j)))))),k.t.cp⟩⟩;exact⟨h.rd,h.bv,h.b,h.a,r h.nb,r h.na,h.sb,h.sa,oM,h.r1,h.r2⟩
theorem TwI.put (h:TwI w wr rb f n x ba bb R Q){V:Ur}(X:R'.Bx V ba)(z:V.heap.size=wr.heap.size)(q:∀q,q≠ba ->V.heap[q]? =wr.heap[q]?)(o:V.os=wr.os/\ V.tape=wr.tape/\ V.output=wr.output)(hN:R'.Ne wr (Eb w.heap.size rb ba bb))(hk:R'.sm):TwI w V rb f n x ba bb R' Q:=by
 have j:=h.od;have r:=h.bv.size;have m:=j.2.2.2;exact⟨h.rd.bw ⟨o.1,o.2.1,o.2.2,oM,fun k hk=>q k oM⟩,⟨o.1.trans h.bv.os,o.2.1.trans h.bv.tape,o.2.2.trans h.bv.output,oM,fun k hk=>(q k oM).trans (h.bv.block k hk)⟩,X,h.b.sm (q _ (Ne.symm m)) oM,hN.move oM (fun k _ h4=>q k (Qft h4).2.2.2.1),h.nb.move oM (fun k _ h4=>q k (Qft h4).2.2.2.1),hk,h.sb,j,h.r1.sm (q _ oM) oM,h.r2.sm (q _ oM) oM⟩
theorem TwI.setA (h:TwI w wr rb f n x ba bb R Q)(hN:R'.Ne wr (Eb w.heap.size rb ba bb))(hk:R'.sm):TwI w (((((wr.setCell (Ub ba) (Ud R'.id)).setCell (Ua ba 1) (Uf R'.a R'.S.l.length R'.c)).setCell (Ua ba 2) (Uf R'.x R'.S.n R'.d)).setCell (Ua ba 3) (Uf R'.a' R'.D.l.length R'.c')).setCell (Ua ba 4) (Uf R'.x' R'.D.n R'.d')) rb f n x ba bb R' Q:=
 h.put (h.a.set5 _ _ _ _ _) (QhF _ _ _ _ _ _ _) (fun q hq=>QcT _ hq _ _ _ _ _) (Qjd _ _ _ _ _ _ _) hN hk
theorem TwI.setS {X:Sx}{b:Option Us}{c:Nat}{y:Option Us}{d:Nat}(h:TwI w wr rb f n x ba bb R Q)(hN:SNe wr (Eb w.heap.size rb ba bb) b c y X)(hk:SmI X):
  TwI w ((wr.setCell (Ua ba 1) (Uf b X.l.length c)).setCell (Ua ba 2) (Uf y X.n d)) rb f n x ba bb ⟨R.id,X,R.D,b,c,y,d,R.a',R.c',R.x',R.d'⟩ Q:=
 h.put ((h.a.set1 (Uf b X.l.length c)).set2 (Uf y X.n d)) (by simp [UL]) (fun q hq=>by rw [zH _ _ _ _ hq,zH _ _ _ _ hq]) ⟨rfl,rfl,rfl⟩ ⟨hN,h.na.t⟩ ⟨hk,h.sa.2⟩
theorem TwI.fin (h:TwI w wr rb f n x ba bb R Q):∃m j,m=(((((wr.setCell (Ub w.heap.size) (Ud R.id)).setCell (Ua w.heap.size 1) (Uf R.a R.S.l.length R.c)).setCell (Ua w.heap.size 2) (Uf R.x R.S.n R.d)).setCell (Ua w.heap.size 3) (Uf R.a' R.D.l.length R.c')).setCell (Ua w.heap.size 4) (Uf R.x' R.D.n R.d'))/\
  j=(((((m.setCell (Ua (w.heap.size+1) 0) (Ud Q.id)).setCell (Ua (w.heap.size+1) 1) (Uf Q.a Q.S.l.length Q.c)).setCell (Ua (w.heap.size+1) 2) (Uf Q.x Q.S.n Q.d)).setCell (Ua (w.heap.size+1) 3) (Uf Q.a' Q.D.l.length Q.c')).setCell (Ua (w.heap.size+1) 4) (Uf Q.x' Q.D.n Q.d'))/\
  (R.Bx m ba/\ Q.Bx m bb/\ QfW m (w.heap.size+1))/\ (R.Bx j ba/\ Q.Bx j bb)/\ R.Bx j w.heap.size/\ Q.Bx j (w.heap.size+1)/\ R.At j/\ Q.At j/\ Bl w j:=by
 have z:=h.od;have s:=h.bv.size;obtain⟨m,i,t,r,A,u⟩:=Qcs h.r1 (Ud R.id) (Uf R.a R.S.l.length R.c) (Uf R.x R.S.n R.d) (Uf R.a' R.D.l.length R.c') (Uf R.x' R.D.n R.d');have y:QfW m (w.heap.size+1):=h.r2.sm (r _ oM) oM;obtain⟨j,p,o,g,E,v⟩:=Qcs y (Ud Q.id) (Uf Q.a Q.S.l.length Q.c) (Uf Q.x Q.S.n Q.d) (Uf Q.a' Q.D.l.length Q.c') (Uf Q.x' Q.D.n Q.d');have q:=fun k (z:k≠w.heap.size) (h2:k≠w.heap.size+1)=>(g k h2).trans (r k z);exact⟨m,j,i,p,⟨h.a.sm (r _ oM) oM,h.b.sm (r _ oM) oM,y⟩,⟨h.a.sm (q _ oM oM) oM,h.b.sm (q _ oM oM) oM⟩,t.sm (g _ oM) oM,o,(h.na.move (w1:=j) oM (fun k _ h4=>q k (Qft h4).1 (Qft h4).2.1)).at h.sa,(h.nb.move (w1:=j) oM (fun k _ h4=>q k (Qft h4).1 (Qft h4).2.1)).at h.sb,⟨(v.1.trans u.1).trans h.bv.os,(v.2.1.trans u.2.1).trans h.bv.tape,(v.2.2.trans u.2.2).trans h.bv.output,oM,fun k hk=>(q k oM oM).trans (h.bv.block k hk)⟩⟩
end
def TwP (w:Ur)(e:Ending)(w':Ur):Prop:=∃R Q:Rq,e=Ui (Ul #[.agg R.vs,.agg Q.vs])/\ R.At w'/\ Q.At w'/\ Bl w w'
theorem QqN (ca:Option Us)(cn cc:Nat)(cf:Nat ->Int)(w:Ur)(hnc:cn<=cc)(hn:cn<=9223372036854775807)(h:Seg w ca cn cf)(hf:Byt cf):Cl 4 #[Uf ca cn cc] w fun e w'=>TwP w e w':=by
 obtain⟨P,hP⟩:=zE (TwP w);rw [hP];have HP:=hid hP;obtain⟨W,hW⟩:=zE ((w.alloc (Uj #[Ud 0,Ue,Ue,Ue,Ue] 30)).alloc (Uj #[Ud 0,Ue,Ue,Ue,Ue] 30));have b0:Bl w W:=hW▸Qad _ _ _;have zW:W.heap.size=w.heap.size+2:=hW▸oP;have R1:QfW W w.heap.size:=hW▸(Bx5.new _ _ _ _ _ _ _).up _;have R2:QfW W (w.heap.size+1):=by
  rw [<- hW];simpa using Bx5.new (w.alloc (Uj #[Ud 0,Ue,Ue,Ue,Ue] 30)) (Ud 0) Ue Ue Ue Ue 30
 have H6:=hid R1;have H7:=hid R2;have Hg:=hid b0;have HZ:=hid zW;have Ho:=hid (Qnx ca cn cc cf W hnc hn (h.bw b0) hf);obtain⟨f,Ga⟩:=zE cf;obtain⟨n,Gc⟩:=zE (min cn 1000);rw [Ga,Gc] at Ho;clear hP b0 R1 R2 zW h Ga Gc;go_enter func4,ntmps4;go_wp2_with fail;try rw [hW]
 clear hW;refine Ho.mono ?_;rintro e w1 ⟨rfl,r1,b1⟩;obtain⟨t,Hu⟩:=zE W.heap.size;rw [Hu] at r1 ⊢;have Hf:=hid b1;have H8:=hid Hu;have Hn:=hid (QaJ (t+1) t f n 0 w1 r1);have Gk:rk f n 0<256:=Qhl r1;have Gm:=r1.lt;obtain⟨k0,Gb⟩:=zE (rk f n 0);rw [Gb] at Hn Gk;clear Gb Hu r1 b1 Ho;go_wp2_with fail;refine Hn.mono ?_;rintro e w2 ⟨rfl,r2,g2⟩;have Ha:=hid g2;have Hx:=hid (Qnf (t+1) t f n _ w2 (oH g2.size) r2);clear r2 g2 Hn;go_wp2_with fail;refine Hx.mono ?_;rintro e w3 ⟨⟨o,S,D,a,c,x,d,a',c',x',d'⟩,⟨Q,T,E,g,k,y,m,O,V,G,Y⟩,x3,rfl,⟨n1,o1⟩,⟨n2,o2⟩,r3,g3⟩;simp only [Rq.vs];go_upto_region 4 with fail;obtain⟨U,hU⟩:=zE ((w3.alloc (Uj #[Ud o,Uf a S.l.length c,Uf x S.n d,Uf a' D.l.length c',Uf x' D.n d'] 30)).alloc (Uj #[Ud Q,Uf g T.l.length k,Uf y T.n m,Uf O E.l.length V,Uf G E.n Y] 30));have C:Bl w3 U:=hU▸Qad _ _ _;have zU:U.heap.size=w3.heap.size+2:=hU▸oP;have AU:Rq.Bx ⟨o,S,D,a,c,x,d,a',c',x',d'⟩ U w3.heap.size:=hU▸(Bx5.new _ _ _ _ _ _ _).up _;have CU:Rq.Bx ⟨Q,T,E,g,k,y,m,O,V,G,Y⟩ U (w3.heap.size+1):=by
  rw [<- hU];simpa using Bx5.new (w3.alloc (Uj #[Ud o,Uf a S.l.length c,Uf x S.n d,Uf a' D.l.length c',Uf x' D.n d'] 30)) (Ud Q) (Uf g T.l.length k) (Uf y T.n m) (Uf O E.l.length V) (Uf G E.n Y) 30
 try rw [hU]
 clear hU;obtain⟨j,Hr⟩:=zE w3.heap.size;have hE:∀q,Eb w.heap.size t j (j+1) q ->q<w2.heap.size \/w3.heap.size<=q:=fun q hq=>by
  have h1:=HZ.out;have F:=H8.out;have h4:=Ha.size;rcases hq with h|h|h|h|h<;>omega
 have Hc:Hid (TwI w U t f n x3 j (j+1) ⟨o,S,D,a,c,x,d,a',c',x',d'⟩ ⟨Q,T,E,g,k,y,m,O,V,G,Y⟩):=hid (by
  have h1:=HZ.out;have F:=H8.out;have h3:=Hf.size;have h4:=Ha.size;have h5:=g3.size;have gU:w2.grownBy U (Uq t):=Qbj g3 C;have q:∀q,q<W.heap.size ->q≠t ->U.heap[q]? =W.heap[q]? :=fun q h1 F=>(gU.block q oM (fun e=>F (by injection e))).trans ((Ha.block q oM (fun e=>F (by injection e))).trans (Hf.block q h1));rw [Hr] at AU CU;exact⟨r3.bw (C.mono oM),⟨gU.os.trans (Ha.os.trans (Hf.os.trans Hg.os)),gU.tape.trans (Ha.tape.trans (Hf.tape.trans Hg.tape)),gU.output.trans (Ha.output.trans (Hf.output.trans Hg.output)),oM,fun k hk=>(q k oM oM).trans (Hg.block k hk)⟩,AU,CU,(n1.ne hE).move C.size (fun q h _=>C.block q h),(n2.ne hE).move C.size (fun q h _=>C.block q h),Rq.ok_sm o1,Rq.ok_sm o2,oM,H6.sm (q _ oM oM) oM,H7.sm (q _ oM oM) oM⟩)
 have H2:Hid (Rq.Nw ⟨o,S,D,a,c,x,d,a',c',x',d'⟩ U w2.heap.size/\ Rq.ok ⟨o,S,D,a,c,x,d,a',c',x',d'⟩):=hid ⟨n1.move zL C.size (fun q _ F=>C.block q F),o1⟩;have Ge:Hid (Rq.ok ⟨Q,T,E,g,k,y,m,O,V,G,Y⟩):=hid o2;have Hm:Hid (t<w2.heap.size/\ w2.heap.size<=U.heap.size):=hid (oJ Ha.size g3.size);rw [Hr];clear Hr hE n1 n2 o1 o2 r3 g3 C zU AU CU Hx Hf Hg H6 H7 Ha Gm;obtain⟨Hb,Ht⟩:=zE (k0%16:Nat);have Gu:(k0:Int)%16=(Hb:Int):=oM;obtain⟨Hv,Hs⟩:=zE (k0/16:Nat);have Gv:(k0:Int)/16=(Hv:Int):=oM;have Gl:Hv<256:=oM;obtain⟨r8,Go⟩:=zE (k0%8:Nat);have e8:(k0:Int)%8=(r8:Int):=oM;obtain⟨r2,Gn⟩:=zE (k0%2:Nat);have e2:(k0:Int)%2=(r2:Int):=oM;clear Ht Hs Go Gn;go_upto_if 19 with fail;go_cut [6] from 17 to 22 (fun v wx=>v=Uk (Uc j)/\∃(R:Rq),Hid (TwI w wx t f n x3 j (j+1) R ⟨Q,T,E,g,k,y,m,O,V,G,Y⟩)/\ Hid (Hb≠15 ->R.Nw wx w2.heap.size/\ R.ok)/\ Hid (w2.heap.size<=wx.heap.size));case first=>
  by_cases H9:Hb=15
  ·have Gi:((Hb:Int)==15)=true:=oS;have Gd:=hid H9;clear H9;have Hy:=hid (Qng Hv Gl U);obtain⟨p0,p1,p2,p3,p4,pf⟩:=Hc.a.p5;go_wp2_with fail;refine Hy.mono ?_;rintro e w4 ⟨⟨zd,X,Z,ya,yc,yx,yd,Gp,Gq,Gs,Gr⟩,rfl,n4,s4,b4⟩;simp only [Rq.vs];have B:=hid (Hc.bw b4);have Hj:=hid (n4.ne (E:=Eb w.heap.size t j (j+1)) (fun q hq=>by
    have h1:=Hc.od;have F:=Hc.a.lt;have h3:=Hc.b.lt;rcases hq with h|h|h|h|h<;>omega))
   have Hp:=hid s4;have Gf:=hid b4.size;clear p0 p1 p2 p3 p4 pf n4 s4 b4 Hy;obtain⟨p0,p1,p2,p3,p4,pf⟩:=B.a.p5;have H5:=hid (B.setA Hj Hp);go_wp2_with fail;go_meet;exact⟨rfl,_,H5,hid (fun h=>absurd Gd h),hid (by have:=Gf.out;have:=Hm.out;simp [UL];omega)⟩
  ·have Gi:((Hb:Int)==15)=false:=oS;go_wp2_with fail;go_meet;exact⟨rfl,_,Hc,hid (fun _=>H2.out),hid Hm.2⟩
 case rest=>
 clear Hc H2;obtain⟨rfl,⟨o,S,D,a,c,x,d,a',c',x',d'⟩,H,H3,H1⟩:=hcut;go_upto_if 25 with fail;go_cut [6] from 23 to 28 (fun v wx=>v=Uk (Uc j)/\∃(R:Rq) (x4:Nat),Hid (TwI w wx t f n x4 j (j+1) R ⟨Q,T,E,g,k,y,m,O,V,G,Y⟩));case first=>
  by_cases Gj:Hb=14
  ·have Gh:((Hb:Int)==14)=true:=oS;have H4:=hid (H3 oM);clear Gj;have Hq:=hid (QkO (t+1) t w2.heap.size f n x3 ⟨o,S,D,a,c,x,d,a',c',x',d'⟩ wc (oJ H.od H.a.lt) H.rd H4.1 H4.2 Hm.1 H1 (Eb w.heap.size t j (j+1)) H.na (.inr (.inr (.inl rfl))) (fun q hq=>by
    have h1:=H.od;have F:=H.a.lt;have h3:=H.b.lt;rcases hq with h|h|h|h|h<;>omega))
   simp only [Rq.vs] at Hq;obtain⟨p0,p1,p2,p3,p4,pf⟩:=H.a.p5;go_wp2_with fail;refine Hq.mono ?_;rintro e w4 ⟨⟨zd,X,Z,ya,yc,yx,yd,Gp,Gq,Gs,Gr⟩,x4,rfl,n4,s4,r4,g4⟩;try simp only [Rq.vs]
   have B:=hid (H.grow g4 r4);have Hj:=hid n4;have Hp:=hid s4;clear p0 p1 p2 p3 p4 pf n4 s4 r4 g4 Hq;obtain⟨p0,p1,p2,p3,p4,pf⟩:=B.a.p5;have H5:=hid (B.setA Hj Hp);go_wp2_with fail;go_meet;exact⟨rfl,_,_,H5⟩
  ·have Gh:((Hb:Int)==14)=false:=oS;go_wp2_with fail;go_meet;exact⟨rfl,_,_,H⟩
 case rest=>
 clear H H3 H1;obtain⟨rfl,⟨o,S,D,a,c,x,d,a',c',x',d'⟩,x4,N⟩:=hcut;go_upto_if 31 with fail;go_cut [6] from 29 to 35 (fun v wx=>v=Uk (Uc j)/\∃(R:Rq),Hid (TwI w wx t f n x4 j (j+1) R ⟨Q,T,E,g,k,y,m,O,V,G,Y⟩));case first=>
  by_cases h5:r8=5
  ·have d5:((r8:Int)==5)=true:=oS;clear h5;have Hw:=hid (Qf5 g y k m T wc N.sb.1.1 (Qnu (QaX Ge).2.1) (N.nb.at N.sb).s);obtain⟨p0,p1,p2,p3,p4⟩:=N.b.q5;go_wp2_with fail;refine Hw.mono ?_;rintro e w4 ⟨g4,Gt,Gw,Gg,P4,Q4,rfl,z⟩;have B:=hid (N.bw z.low);have Hj:=hid (z.snc.ne (E:=Eb w.heap.size t j (j+1)) (fun q hq=>by
    have h1:=N.od;have F:=N.a.lt;have h3:=N.b.lt;rcases hq with h|h|h|h|h<;>omega))
   clear p0 p1 p2 p3 p4 z Hw;obtain⟨p0,p1,p2,p3,p4,pf⟩:=B.a.p5;have H5:=hid (B.setS (d:=Gg) Hj B.sb.1);go_wp2_with fail;go_meet;exact⟨rfl,_,H5⟩
  ·have d5:((r8:Int)==5)=false:=oS;go_wp2_with fail;go_meet;exact⟨rfl,_,N⟩
 case rest=>
 clear N;obtain⟨rfl,⟨o,S,D,a,c,x,d,a',c',x',d'⟩,Hz⟩:=hcut;by_cases h1:r2=1
 ·have d1:((r2:Int)==1)=true:=oS;clear h1;have r:=hid (Hz.bw zI.drew).swap;go_wp2_with fail;refine zR (S:=fun u=>u.cell? (Ua (j+1) 0)=Uq (Ud Q)/\ u.cell? (Ua (j+1) 1)=Uq (Uf g T.l.length k)/\ u.cell? (Ua (j+1) 2)=Uq (Uf y T.n m)/\ u.cell? (Ua (j+1) 3)=Uq (Uf O E.l.length V)/\ u.cell? (Ua (j+1) 4)=Uq (Uf G E.n Y)/\ u.cell? (Ub j)=Uq (Ud o)/\ u.cell? (Ua j 1)=Uq (Uf a S.l.length c)/\ u.cell? (Ua j 2)=Uq (Uf x S.n d)/\ u.cell? (Ua j 3)=Uq (Uf a' D.l.length c')/\ u.cell? (Ua j 4)=Uq (Uf x' D.n d')) ⟨r.a.c0,r.a.c1,r.a.c2,r.a.c3,r.a.c4,r.b.c0,r.b.c1,r.b.c2,r.b.c3,r.b.c4⟩ (fun qh=> ?_);refine tZ 0 39 ?_;refine tZ 1 40 ?_;obtain⟨z0,Hk⟩:=zE wc.drew;rw [Hk] at r qh ⊢;clear Hk;obtain⟨Z1,Z2,e1,e2,⟨i,A,Y1⟩,⟨p,M⟩,HF⟩:=r.fin;dsimp only at e1 e2;have Hh:=hid e1;have Hi:=hid e2;clear e1 e2;have Hl:=hid HF;obtain⟨x0,x1,x2,Hd,He,xf⟩:=r.r1.p5;refine cZ 2 ?_;intro K I;go_simp;rw [<- Hh.out];refine I.out _ _ ⟨i.c0,i.c1,i.c2,i.c3,i.c4,A.c0,A.c1,A.c2,A.c3,A.c4⟩ (fun qh=> ?_);clear I K;try simp only [zP]
  clear x0 x1 x2 Hd He xf;obtain⟨x0,x1,x2,Hd,He,xf⟩:=Y1.p5;refine cZ 3 ?_;intro K I;go_simp;rw [<- Hi.out];refine I.out _ _ ⟨p.c0,p.c1,p.c2,p.c3,p.c4,M.c0,M.c1,M.c2,M.c3,M.c4⟩ (fun qh=> ?_);clear I K;try simp only [zP]
  refine zD ?_;clear x0 x1 x2 Hd He xf qh i A Y1 p M HF Hh Hi;go_wp2_with fail;obtain⟨J,L,u3,u4,u5⟩:=Hl.out;refine zF (v:=Ul #[Uo #[Ud Q,Uf g T.l.length k,Uf y T.n m,Uf O E.l.length V,Uf G E.n Y],Uo #[Ud o,Uf a S.l.length c,Uf x S.n d,Uf a' D.l.length c',Uf x' D.n d']]) (by simp [results,results4,go_sem,J.c0,J.c1,J.c2,J.c3,J.c4,L.c0,L.c1,L.c2,L.c3,L.c4]) ?_;rw [<- HP.out];exact⟨_,_,rfl,u3,u4,u5⟩
 ·have d1:((r2:Int)==1)=false:=oS;have r:=hid (Hz.bw zI.drew);go_wp2_with fail;refine zR (S:=fun u=>u.cell? (Ub j)=Uq (Ud o)/\ u.cell? (Ua j 1)=Uq (Uf a S.l.length c)/\ u.cell? (Ua j 2)=Uq (Uf x S.n d)/\ u.cell? (Ua j 3)=Uq (Uf a' D.l.length c')/\ u.cell? (Ua j 4)=Uq (Uf x' D.n d')/\ u.cell? (Ua (j+1) 0)=Uq (Ud Q)/\ u.cell? (Ua (j+1) 1)=Uq (Uf g T.l.length k)/\ u.cell? (Ua (j+1) 2)=Uq (Uf y T.n m)/\ u.cell? (Ua (j+1) 3)=Uq (Uf O E.l.length V)/\ u.cell? (Ua (j+1) 4)=Uq (Uf G E.n Y)) ⟨r.a.c0,r.a.c1,r.a.c2,r.a.c3,r.a.c4,r.b.c0,r.b.c1,r.b.c2,r.b.c3,r.b.c4⟩ (fun qh=> ?_);refine tZ 0 41 ?_;refine tZ 1 42 ?_;obtain⟨z0,Hk⟩:=zE wc.drew;rw [Hk] at r qh ⊢;clear Hk;obtain⟨Z1,Z2,e1,e2,⟨i,A,Y1⟩,⟨p,M⟩,HF⟩:=r.fin;dsimp only at e1 e2;have Hh:=hid e1;have Hi:=hid e2;clear e1 e2;have Hl:=hid HF;obtain⟨x0,x1,x2,Hd,He,xf⟩:=r.r1.p5;refine cZ 2 ?_;intro K I;go_simp;rw [<- Hh.out];refine I.out _ _ ⟨i.c0,i.c1,i.c2,i.c3,i.c4,A.c0,A.c1,A.c2,A.c3,A.c4⟩ (fun qh=> ?_);clear I K;try simp only [zP]
  clear x0 x1 x2 Hd He xf;obtain⟨x0,x1,x2,Hd,He,xf⟩:=Y1.p5;refine cZ 3 ?_;intro K I;go_simp;rw [<- Hi.out];refine I.out _ _ ⟨p.c0,p.c1,p.c2,p.c3,p.c4,M.c0,M.c1,M.c2,M.c3,M.c4⟩ (fun qh=> ?_);clear I K;try simp only [zP]
  refine zD ?_;clear x0 x1 x2 Hd He xf qh i A Y1 p M HF Hh Hi;go_wp2_with fail;obtain⟨J,L,u3,u4,u5⟩:=Hl.out;refine zF (v:=Ul #[Uo #[Ud o,Uf a S.l.length c,Uf x S.n d,Uf a' D.l.length c',Uf x' D.n d'],Uo #[Ud Q,Uf g T.l.length k,Uf y T.n m,Uf O E.l.length V,Uf G E.n Y]]) (by simp [results,results4,go_sem,J.c0,J.c1,J.c2,J.c3,J.c4,L.c0,L.c1,L.c2,L.c3,L.c4]) ?_;rw [<- HP.out];exact⟨_,_,rfl,u3,u4,u5⟩
open Go.Maps
theorem Qox {m:List Lf}(hl:l.length=m.length)(h:∀i,i<l.length ->gL l i=gL m i):l=m:=by
 refine List.ext_getElem hl fun i h1 h2=> ?_;have:=h i h1;simpa [gL,List.getD,h1,h2] using this
theorem Qqa:prog.fieldsOf 89=match prog.underlying 89 with|some (.struct fs)=>fs|_=>#[]:=rfl
theorem Qjt:prog.stoodInHeld 89=false:=oK
theorem QoQ (r f t r' f' t':Int)(w:Ur):(binOp .neq 89 (Uo #[Ud r,Ud f,Ud t]) (Uo #[Ud r',Ud f',Ud t'])).run prog w=.ok (Un (!(r==r' && (f==f' && t==t')))) w:=by
 rw [run_neq_struct,show (10000:Nat)=9999+1 from rfl,run_equalIn_agg _ _ _ _ _ oK Qjt,Qqa,underlying89];cases h1:(r==r')<;>cases h2:(f==f')<;>simp [Op.eqFields,go_sem,underlying3,h1,h2];by_cases j:t=t'<;>simp [j]
theorem QkL (a x a' x':Option Us)(c d c' d':Nat)(A A':Sx)(w:Ur)(hm:A.Sm)(hm':A'.Sm)(h:SCt w a x A)(h':SCt w a' x' A'):
  Cl 24 #[Uo #[Uf a A.l.length c,Uf x A.n d],Uo #[Uf a' A'.l.length c',Uf x' A'.n d']] w (Rt w (Un (yes (EqS A A')))):=by
 obtain⟨W,E⟩:=zE ((w.alloc (Uj #[Uf a A.l.length c,Uf x A.n d] 28)).alloc (Uj #[Uf a' A'.l.length c',Uf x' A'.n d'] 28));have b0:Bl w W:=E▸Qad _ _ _;have X0:Bx2 W w.heap.size (Uf a A.l.length c) (Uf x A.n d):=E▸(Bx2.made w _ _ _).allocs _;have Y0:Bx2 W (w.heap.size+1) (Uf a' A'.l.length c') (Uf x' A'.n d'):=by rw [<- E];simpa using Bx2.made (w.alloc (Uj #[Uf a A.l.length c,Uf x A.n d] 28)) (Uf a' A'.l.length c') (Uf x' A'.n d') 28
 have HH:=hid (h.bw b0);have Hl:=hid (h'.bw b0);have Hc:=hid b0;have HX:=hid X0;have HY:=hid Y0;obtain⟨k0,k1⟩:=X0.q2;obtain⟨l0,l1⟩:=Y0.q2;obtain⟨B,hB⟩:=zE (yes (EqS A A'));have S:=hid hB;rw [hB];clear b0 X0 Y0 h h' hB;by_cases m:A.l.length=A'.l.length;case neg=>
  have d1:((A.l.length:Int) !=(A'.l.length:Int))=true:=oS;have Y:Hid (B=false):=hid (by rw [<- S.out];exact Qag (fun e=>m (by rw [e.1])));clear m hm hm';go_enter func24,ntmps24;go_wp2_with fail;try rw [E]
  go_ret;exact⟨Qaz Y.symm,Hc⟩
 by_cases h2:A.n=A'.n;case neg=>
  obtain⟨g,J⟩:=zE A.l.length;have L:A'.l.length=g:=oM;rw [J] at k0 E;rw [L] at l0 E;rw [J,L];have d1:((g:Int) !=(g:Int))=false:=oP;have d2:((A.n:Int) !=(A'.n:Int))=true:=oS;have Y:Hid (B=false):=hid (by rw [<- S.out];exact Qag (fun e=>h2 e.2.1));clear m h2 hm hm' J L HX HY HH Hl S;go_enter func24,ntmps24;go_wp2_with fail;try rw [E]
  go_ret;exact⟨Qaz Y.symm,Hc⟩
 obtain⟨g,J⟩:=zE A.l.length;have L:A'.l.length=g:=oM;obtain⟨G,Hh⟩:=zE A.n;have Hb:A'.n=G:=oM;have O:=hid (And.intro (And.intro J L) (And.intro Hh Hb));rw [J] at k0 E HX;rw [Hh] at k1 E HX;rw [L] at l0 E HY;rw [Hb] at l1 E HY;rw [J,L,Hh,Hb];have z1:g<=1048576:=oH hm.l1;have z2:G<=1048576:=oH hm.n1;have d1:((g:Int) !=(g:Int))=false:=oP;have d2:((G:Int) !=(G:Int))=false:=oP;clear m h2 hm hm' J L Hh Hb;go_enter func24,ntmps24;go_wp2_with fail;try rw [E]
 clear E k0 k1 l0 l1;go_loopw [5] (fun i wr=>∃j:Nat,j<=g/\ i=Ud j/\ Hid (Bl W wr)/\ Hid (∀t,t<j ->gL A.l t=gL A'.l t)) (fun i _=>g - (intOf i).toNat);case atStart=>exact⟨0,Ux _,rfl,hid zI,hid (fun t D=>oM)⟩
 case round=>
  obtain⟨j,hj,rfl,M,X⟩:=hrel;have Q:=HX.bw M HX.lt;have V:=HY.bw M HY.lt;have k0:=Q.c0;by_cases Hp:j<g
  ·have i1:(0:Int)<=(j:Int):=UI _;have i2:(j:Int)<(g:Int):=oM;obtain⟨b,off,rfl,hb,Hv⟩:=(HH.bw M).lf.resolve_left (oH O);obtain⟨pa,pc,⟨Z,d0⟩,sg,H,c2,c3,c4⟩:=Hv j (oH O);obtain⟨b',Ha,rfl,Hu,He⟩:=(Hl.bw M).lf.resolve_left (oH O);obtain⟨Hw,Hx,⟨e0,Ho⟩,Hy,e1,e2,e3,e4⟩:=He j (oH O);have Hd:=hid (fun w1 (s:Bl wr w1)=>Qj2 pa Hw pc Hx (gL A.l j).p (gL A'.l j).p (gL A.l j).fl (gL A'.l j).fl (gL A.l j).r (gL A.l j).q (gL A'.l j).r (gL A'.l j).q (gL A.l j).v (gL A'.l j).v w1 d0.1 Ho.1 d0.2 Ho.2 (sg.bw s) (Hy.bw s));obtain⟨y,hy⟩:=zE (gL A.l j);obtain⟨z,hz⟩:=zE (gL A'.l j);rw [hy] at Z H c2 c3 c4;rw [hz] at e0 e1 e2 e3 e4;rw [hy,hz] at Hd;have Hf:=hid (And.intro hy hz);obtain⟨yp,yf,yr,yq,yv⟩:=y;obtain⟨zp,zf,zr,zq,zv⟩:=z;dsimp only at Z H c2 c3 c4 e0 e1 e2 e3 e4 Hd;obtain⟨C,hC⟩:=zE (yes ((⟨yp,yf,yr,yq,yv⟩:Lf)=⟨zp,zf,zr,zq,zv⟩));have Hr:=hid hC;rw [hC] at Hd;have Hk:Hid (∀w',Bl wr w' ->(w'.cell? (Ub w.heap.size)=Uq (Uf (Uq (Ua b off)) g c)/\ w'.cell? (Ua (w.heap.size+1) 0)=Uq (Uf (Uq (Ua b' Ha)) g c')/\ w'.cell? (Ua b (off+j*5))=Uq (Uf pa yp.length pc)/\ w'.cell? (Ua b (off+j*5+1))=Uq (Un yf)/\ w'.cell? (Ua b (off+j*5+2))=Uq (Ud yr)/\ w'.cell? (Ua b (off+j*5+3))=Uq (Ud yq)/\ w'.cell? (Ua b (off+j*5+4))=Uq (Um yv)/\ w'.cell? (Ua b' (Ha+j*5))=Uq (Uf Hw zp.length Hx)/\ w'.cell? (Ua b' (Ha+j*5+1))=Uq (Un zf)/\ w'.cell? (Ua b' (Ha+j*5+2))=Uq (Ud zr)/\ w'.cell? (Ua b' (Ha+j*5+3))=Uq (Ud zq)/\ w'.cell? (Ua b' (Ha+j*5+4))=Uq (Um zv))):=hid (fun w' s=>by
    have q:=fun o=>s.cell (p:=(Ua b o)) hb;have q':=fun o=>s.cell (p:=(Ua b' o)) Hu;exact⟨(Q.bw s Q.lt).c0,(V.bw s V.lt).c0,(q _).trans Z,(q _).trans H,(q _).trans c2,(q _).trans c3,(q _).trans c4,(q' _).trans e0,(q' _).trans e1,(q' _).trans e2,(q' _).trans e3,(q' _).trans e4⟩)
   clear hy hz hC Hv He sg Hy d0 Ho;go_wp2_with fail;refine zS Hk (fun qh=> ?_);clear k0 Q V Z H c2 c3 c4 e0 e1 e2 e3 e4;refine tZ 0 32 ?_;refine tZ 1 33 ?_;refine tZ 2 34 ?_;refine tZ 3 35 ?_;refine tZ 4 36 ?_;refine tZ 5 37 ?_;refine tZ 6 38 ?_;refine tZ 7 39 ?_;refine tZ 8 40 ?_;refine tZ 9 41 ?_;refine cZ 10 ?_;intro K hK;go_simp;refine(Hd _ zI.drew).mono ?_;rintro e w1 ⟨rfl,s⟩;have Hn:Bl wr w1:=⟨s.os,s.tape,s.output,s.size,s.block⟩;refine hK.out _ _ (Hk _ Hn) (fun qh=> ?_);clear hK K;try simp only [zP]
   refine tZ 11 43 ?_;refine zD ?_;have Hq:=hid (M.trans (Hn.mono M.size));clear qh s Hn Hk Hd;cases C with
   | true=>
    have Hm:Hid (∀t,t<j+1 ->gL A.l t=gL A'.l t):=hid (fun t D=>by
     by_cases e:t=j
     ·rw [e,Hf.1,Hf.2];exact Classical.byContradiction fun hn=>by have:=Hr.out;rw [Qag hn] at this;cases this
     ·exact X t oM)
    clear X M;go_wp2_with fail;go_roundw;case rel=>exact⟨j+1,Hp,oN,Hq,Hm⟩
    case measure=>exact oE
   | false=>
    have Y:Hid (B=false):=hid (by
     rw [<- S.out];refine Qag fun e=> ?_;have:=Hr.out;rw [Qaj (by rw [<- Hf.1,<- Hf.2,e.1])] at this;cases this)
    go_wp2_with fail;go_ret;exact⟨Qaz Y.symm,Qaa Hc Hq⟩
  ·obtain rfl:j=g:=oM;have Hz:Hid (A.l=A'.l):=hid (Qox (oH O) (fun i hi=>X.out i (oH O)));obtain⟨U,hU⟩:∃U,U=wr:=⟨_,rfl⟩;subst hU;have Hs:=hid Q;have Ht:=hid V;clear Q V X;go_wp2_with fail;clear k0;go_loopw [6] (fun i wr=>∃k:Nat,k<=G/\ i=Ud k/\ Hid (Bl U wr)/\ Hid (∀t,t<k ->A.R t=A'.R t/\ A.F t=A'.F t/\ A.T t=A'.T t)) (fun i _=>G - (intOf i).toNat);case atStart=>exact⟨0,Ux _,rfl,hid zI,hid (fun t D=>oM)⟩
   case round=>
    obtain⟨k,hk,rfl,N,X⟩:=hrel;have Q:=Hs.bw N Hs.lt;have V:=Ht.bw N Ht.lt;have k1:=Q.c1;have l1:=V.c1;by_cases Hp:k<G
    ·have i1:(0:Int)<=(k:Int):=UI _;have i2:(k:Int)<(G:Int):=oM;obtain⟨b,o,rfl,hb,Z,H,c2⟩:=((HH.bw M).bw N).rn.at (k:=k) (oH O);obtain⟨b',o',rfl,Hu,e0,e1,e2⟩:=((Hl.bw M).bw N).rn.at (k:=k) (oH O);obtain⟨r,hr⟩:=zE (A.R k);obtain⟨f,hf⟩:=zE (A.F k);obtain⟨t,D⟩:=zE (A.T k);obtain⟨r',Hi⟩:=zE (A'.R k);obtain⟨f',Hg⟩:=zE (A'.F k);obtain⟨P,Hj⟩:=zE (A'.T k);rw [hr] at Z;rw [hf] at H;rw [D] at c2;rw [Hi] at e0;rw [Hg] at e1;rw [Hj] at e2;have HV:=hid (And.intro (And.intro hr (And.intro hf D)) (And.intro Hi (And.intro Hg Hj)));have NQ:∀w:Ur,(binOp .neq 89 (Uo #[Ud r,Ud f,Ud t]) (Uo #[Ud r',Ud f',Ud P])).run prog w=.ok (Un (!(r==r' && (f==f' && t==P)))) w:=fun w=>QoQ r f t r' f' P w;by_cases I:r=r'/\ f=f'/\ t=P
     ·have q1:(!(r==r' && (f==f' && t==P)))=false:=(by simp [I.1,I.2.1,I.2.2]);rw [q1] at NQ;have Hm:Hid (∀u,u<k+1 ->A.R u=A'.R u/\ A.F u=A'.F u/\ A.T u=A'.T u):=hid (fun u hu=>by
       by_cases e:u=k
       ·have m:=HV.out;rw [e,m.1.1,m.1.2.1,m.1.2.2,m.2.1,m.2.2.1,m.2.2.2];exact I
       ·exact X u oM)
      clear I q1 hr hf D Hi Hg Hj Q V;go_wp2_with fail;go_region;go_wp2_with fail;go_roundw;case rel=>exact⟨k+1,Hp,oN,hid N.drew,Hm⟩
      case measure=>exact oE
     ·have q1:(!(r==r' && (f==f' && t==P)))=true:=by
       cases hb:(r==r' && (f==f' && t==P)) with
       | false=>rfl
       | true=>exact absurd (oU hb) I
      rw [q1] at NQ;have Y:Hid (B=false):=hid (by
       rw [<- S.out];refine Qag fun e=>I ?_;have m:=HV.out;have h2:=e.2.2 k (oH O);rw [m.1.1,m.1.2.1,m.1.2.2,m.2.1,m.2.2.1,m.2.2.2] at h2;exact h2)
      clear I q1 hr hf D Hi Hg Hj Q V;go_wp2_with fail;go_region;go_wp2_with fail;go_ret;exact⟨Qaz Y.symm,Qaa Hc (Qaa M N.drew)⟩
    ·obtain rfl:k=G:=oM;have Y:Hid (B=true):=hid (by rw [<- S.out];exact Qaj ⟨Hz,oH O,fun i hi=>X.out i (oH O)⟩);clear Q V;go_wp2_with fail;go_ret;exact⟨Qaz Y.symm,Qaa Hc (Qaa M N)⟩
theorem Qhp (a x a' x':Option Us)(c d c' d':Nat)(A A':Sx)(w:Ur)(hm:A.Sm)(hm':A'.Sm)(h:SCt w a x A)(h':SCt w a' x' A'):
  Cl 7 #[Uo #[Uf a A.l.length c,Uf x A.n d],Uo #[Uf a' A'.l.length c',Uf x' A'.n d']] w (Rt w (Un (yes (EqS A A')))):=by
 obtain⟨W,j⟩:=zE ((w.alloc (Uj #[Uf a A.l.length c,Uf x A.n d] 28)).alloc (Uj #[Uf a' A'.l.length c',Uf x' A'.n d'] 28));have k:Bl w W:=j▸Qad _ _ _;have q:Bx2 W w.heap.size (Uf a A.l.length c) (Uf x A.n d):=j▸(Bx2.made w _ _ _).allocs _;have r:Bx2 W (w.heap.size+1) (Uf a' A'.l.length c') (Uf x' A'.n d'):=by rw [<- j];simpa using Bx2.made (w.alloc (Uj #[Uf a A.l.length c,Uf x A.n d] 28)) (Uf a' A'.l.length c') (Uf x' A'.n d') 28
 have m:=hid (QkL a x a' x' c d c' d' A A' W hm hm' (h.bw k) (h'.bw k));have y:=hid k;obtain⟨E,v⟩:=zE (yes (EqS A A'));rw [v] at m ⊢;obtain⟨g,t⟩:=q.q2;obtain⟨o,i⟩:=r.q2;clear k q r h h' v;go_enter func7,ntmps7;go_wp2_with fail;try rw [j]
 clear j;refine m.mono ?_;rintro e w1 ⟨rfl,u⟩;have z:=hid (Qaa y u);clear u g t o i m;go_wp2_with fail;go_ret;exact⟨rfl,z⟩
theorem QoK {R F T R' F' T':Nat ->Int}{n:Nat}(h:∀i,i<n ->R i=R' i/\ F i=F' i/\ T i=T' i):∀k,k<=n ->Lk R F T k=Lk R' F' T' k
 | 0,_=>rfl
 | k+1,hk=>by
  obtain⟨j,m,q⟩:=h k oM;show upd (Lk R F T k) (R k) _=upd (Lk R' F' T' k) (R' k) _;rw [QoK h k oM,j,m,q]
theorem Qk6(h:EqS A B):A.b=B.b:=by
 obtain⟨j,k,m⟩:=h;show Qet (Lk A.R A.F A.T A.n)++tB A.l 8 []=Qet (Lk B.R B.F B.T B.n)++tB B.l 8 [];rw [QoK m A.n zL,k,j]
theorem Qgl(h:Qbq S=true):sxZ S=(S.b,0):=(QaQ h).2.2
theorem QnZ(h:EqS A B)(ha:Qbq A=true)(hb:Qbq B=true):sxD A=sxD B:=by
 unfold sxD;rw [Qgl ha,Qgl hb,Qk6 h]
theorem Qo4 (V i:Nat)(h:i<8):gz (eB V 8) i=((V/256^(7 - i)%256:Nat):Int):=by
 unfold gz;rw [List.getD,QiZ V 8 i h];rfl
theorem QnX {V U:Nat}(hV:V<18446744073709551616)(hU:U<18446744073709551616)(h:Qdg (gz (eB V 8)) 0 8=Qdg (gz (eB U 8)) 0 8):V=U:=by
 have e:=congrArg Qa2 h;rw [Qcn (Qf0 (QdQ V 8)),Qcn (Qf0 (QdQ U 8))] at e;have k:∀i,i<8 ->V/256^(7 - i)%256=U/256^(7 - i)%256:=fun i hi=>by
  have j:=congrArg (fun l=>l[i]?) e;simp only [List.getElem?_map,List.getElem?_range hi,Option.map_some,Nat.zero_add] at j;have m:=Option.some.inj j;rw [Qo4 V i hi,Qo4 U i hi] at m;omega
 have q:=k 0 oM;have r:=k 1 oM;have u:=k 2 oM;have v:=k 3 oM;have y:=k 4 oM;have z:=k 5 oM;have g:=k 6 oM;have t:=k 7 oM;simp only [Nat.reduceSub,Nat.reducePow,Nat.div_one] at q r u v y z g t;omega
theorem QmP(h:sxD A=sxD B):heR B (gz (eB (sxD A) 8))=Up:=by
 unfold heR dgB;rw [h];simp
theorem Qo7(h:sxD A≠sxD B)(hb:Qbq B=true):heR B (gz (eB (sxD A) 8))=Uq B.b:=by
 have:dgB B (gz (eB (sxD A) 8))=false:=by
  unfold dgB;rw [beq_eq_false_iff_ne];intro e;rw [ByteArray.toList_eq,ByteArray.toList_eq] at e;refine h (QnX (Qim A) (Qim B) ?_);generalize Qdg (gz (eB (sxD A) 8)) 0 8=s1 at e ⊢;generalize Qdg (gz (eB (sxD B) 8)) 0 8=s2 at e ⊢;obtain⟨j⟩:=s1;obtain⟨k⟩:=s2;rw [show j=k from Array.toList_inj.1 e]
 unfold heR;rw [this,Qgl hb];rfl
theorem QhC {Y:Sx}(hY:Qbq Y=true):Enc Y (gz Y.b) Y.b.length:=⟨(QaQ hY).1,fun i hi=>by rw [Nat.zero_add];rfl,rfl,(QaQ hY).2.1⟩
theorem QlO (a x:Option Us)(c d:Nat)(S:Sx)(w:Ur)(hc:S.l.length<=c)(hcm:c<=9223372036854775807)(hm:SmI S)(hf:Qbq S=true)(h:SCt w a x S):
  Cl 8 #[Uo #[Uf a S.l.length c,Uf x S.n d]] w (Rt w (Ug .u64 (sxD S:Int))):=by
 obtain⟨W,m⟩:=zE (w.alloc (Uj #[Uf a S.l.length c,Uf x S.n d] 28));have j:Bl w W:=m▸zO _ _;have u:Bx2 W w.heap.size (Uf a S.l.length c) (Uf x S.n d):=m▸Bx2.made _ _ _ _;obtain⟨M,O⟩:=u.q2;have y:=hid (Qcl a x c d S W hc hcm hm.1 (h.bw j).lf (h.bw j).rn);have p:=hid j;have q:=hid hf;clear j u h;go_enter func8,ntmps8;go_wp2_with fail;try rw [m]
 clear m;refine y.mono ?_;rintro e w1 ⟨v,Y,k,rfl,r,g,z⟩;have t:=r;rw [Qgl q.out] at r;injection r with e1 e2;subst e1 e2;obtain⟨Q,U,rfl,o⟩:=g.any;have A:=hid (Qi7 Q S.b.length U (fun i=>S.b.getD i 0) w1 (by have:S.b.length<=4000:=(QaQ q).2.1;omega) (Qfu q) o);have E:Hid (dig (fun i=>S.b.getD i 0) S.b.length=(sxD S:Int)):=hid (by have:=Qkd S;rw [t] at this;exact this);have s:=hid (Qaa p z);clear M O z g o t y;go_wp2_with fail;refine A.mono ?_;rintro e V ⟨rfl,rfl⟩;rw [E.out];go_wp2_with fail;go_ret;exact⟨rfl,s⟩
theorem Qn0 (q r:Nat)(c1 c2:Nat)(a1 a2:Option Us)(m1 m2:Nat)(zs:List Int)(w:Ur)(h0:w.cell? (Ub q)=Uq (Ud 2))(h1:w.cell? (Ua q 1)=Uq (Uf a1 zs.length m1))(k0:w.cell? (Ub r)=Uq (Ud 2))(k1:w.cell? (Ua r 1)=Uq (Uf a2 zs.length m2))(hb:Byt (gz zs))(hs1:Seg w a1 zs.length (gz zs))(hs2:Seg w a2 zs.length (gz zs)):
  Cl 11 #[Uf (Uc q) 1 c1,Uf (Uc r) 1 c2] w (Rt w (Un true)):=by
 have j:Hid (∀k,(convert 22 9 (Uf a1 zs.length m1)).run prog (w.drewN k)=.ok (Um (Qdg (gz zs) 0 zs.length)) (w.drewN k)):=hid (fun k=>Qil (w:=w.drewN k) hs1 hb m1);have m:Hid (∀k,(convert 22 9 (Uf a2 zs.length m2)).run prog (w.drewN k)=.ok (Um (Qdg (gz zs) 0 zs.length)) (w.drewN k)):=hid (fun k=>Qil (w:=w.drewN k) hs2 hb m2);obtain⟨s,u⟩:=zE (Qdg (gz zs) 0 zs.length);rw [u] at j m;have v:=j.out;have y:=m.out;have z:(!(s.toList==s.toList))=false:=oP;clear hs1 hs2 u;go_enter func11,ntmps11;go_wp2_with fail;refine wp_loop_rounds 2 ?_;rw [rounds_succ];go_wp2_with fail;go_quiet (fail);go_wp2_with fail;rw [rounds_succ];go_wp2_with fail;go_ret;exact⟨rfl,QdL zI _⟩
structure SyI (w wk:Ur)(ra:Nat)(R Q:Rq):Prop where
 bv:Bl w wk
 ar:R.At wk
 aq:Q.At wk
 a:R.Bx wk ra
 b:Q.Bx wk (ra+1)
theorem SyI.bw {wk wk':Ur}{ra:Nat}{R Q:Rq}(h:SyI w wk ra R Q)(hb:Bl wk wk'):SyI w wk' ra R Q:=⟨Qaa h.bv hb,h.ar.bw hb,h.aq.bw hb,h.a.bw hb h.a.lt,h.b.bw hb h.b.lt⟩
theorem At.rok {R:Rq}(h:R.At w):Cl 5 #[.agg R.vs] w (Rt w (Un (rpB R.id R.S R.D))):=QaY R.id R.a R.x R.a' R.x' R.c R.d R.c' R.d' R.S R.D w h.c.1 h.c.2 h.c'.1 h.c'.2 h.m.1 h.m'.1 h.s.lf h.s.rn h.t.lf h.t.rn
def Qp1 (w:Ur)(b:Nat)(v0 v1:Value):Prop:=w.cell? (Ub b)=Uq v0/\ w.cell? (Ua b 1)=Uq v1
theorem Qp1.bw {w':Ur}{b:Nat}{v0 v1:Value}(h:Qp1 w b v0 v1)(hb:Bl w w'):Qp1 w' b v0 v1:=⟨(hb.cell (p:=(Ub b)) (block_lt_of_cell h.1)).trans h.1,(hb.cell (p:=(Ua b 1)) (block_lt_of_cell h.2)).trans h.2⟩
theorem Qlq (w:Ur)(ca:Option Us)(cn cc:Nat)(cf:Nat ->Int)(hn:cn<=9223372036854775807)(hc:cn<=cc)(hs:Seg w ca cn cf)(hf:Byt cf)(hE:ErH w):
  Cl 3 #[Uf ca cn cc] w (Rt w (Un true)):=by
 by_cases v:cn<=1048576
 ·have i1:¬(1048576:Int)<(cn:Int):=oM;have HT:=hid (QqN ca cn cc cf w hc hn hs hf);have HG:=hid hE;clear hs hf hE;go_enter func3,ntmps3;go_wp2_with fail;refine HT.mono ?_;rintro e v1 ⟨⟨H,S,D,a,c,x,d,a',c',x',d'⟩,⟨jd,T,E,g,k,y,m,g',k',y',W⟩,rfl,t1,t2,z⟩;simp only [Rq.vs];clear HT;go_upto_region 4 with fail;obtain⟨U,hU⟩:=zE ((v1.alloc (Uj #[Ud H,Uf a S.l.length c,Uf x S.n d,Uf a' D.l.length c',Uf x' D.n d'] 30)).alloc (Uj #[Ud jd,Uf g T.l.length k,Uf y T.n m,Uf g' E.l.length k',Uf y' E.n W] 30));have bU:Bl v1 U:=hU▸Qad _ _ _;have AU:Rq.Bx ⟨H,S,D,a,c,x,d,a',c',x',d'⟩ U v1.heap.size:=hU▸(Bx5.new _ _ _ _ _ _ _).up _;have CU:Rq.Bx ⟨jd,T,E,g,k,y,m,g',k',y',W⟩ U (v1.heap.size+1):=by
   rw [<- hU];simpa using Bx5.new (v1.alloc (Uj #[Ud H,Uf a S.l.length c,Uf x S.n d,Uf a' D.l.length c',Uf x' D.n d'] 30)) (Ud jd) (Uf g T.l.length k) (Uf y T.n m) (Uf g' E.l.length k') (Uf y' E.n W) 30
  have Hk:=hid (⟨Qaa z bU,t1.bw bU,t2.bw bU,AU,CU⟩:SyI w U v1.heap.size ⟨H,S,D,a,c,x,d,a',c',x',d'⟩ ⟨jd,T,E,g,k,y,m,g',k',y',W⟩);try rw [hU]
  clear hU bU AU CU t1 t2 z;obtain⟨ra,K6⟩:=zE v1.heap.size;rw [K6] at Hk ⊢;clear K6;have H3:=hid (At.rok Hk.ar);simp only [Rq.vs] at H3;obtain⟨Va,Ga⟩:=zE (rpB H S D);rw [Ga] at H3;obtain⟨a0,a1,a2,a3,a4⟩:=Hk.a.q5;go_wp2_with fail;refine H3.mono ?_;rintro e v2 ⟨rfl,A⟩;have B:=hid (Hk.bw A);clear a0 a1 a2 a3 a4 A H3 Hk;have Gj:=hid (Qjp H a x a' x' c d c' d' S D v2 B.ar.m.2 B.ar.m'.2 B.ar.m.1 B.ar.m'.1 ⟨B.ar.s.lf.seg,B.ar.s.rn⟩ ⟨B.ar.t.lf.seg,B.ar.t.rn⟩);rw [show heZ H S D=if Va=true then(1,eB (sxD S) 8,true) else(0,[],false) from by unfold heZ;rw [Ga]] at Gj;obtain⟨a0,a1,a2,a3,a4⟩:=B.a.q5;go_wp2_with fail;refine Gj.mono ?_;rintro e v3 ⟨K3,f3,z3,B3,rfl,Gb,G4,b3⟩;have Kf:=hid (B.bw b3);obtain⟨pa,pc,rfl,Jj⟩:=G4.any;obtain⟨Kz,K0,Ky,K2⟩:=Qdb G4;have Kr:=hid Ga;clear a0 a1 a2 a3 a4 b3 Gj B Ga Jj;go_upto_region 6 with fail;obtain⟨U3,Hd⟩:=zE (v3.alloc (Uj #[Ud K3,Uf pa z3.length pc] 35));have P:Bl v3 U3:=Hd▸zO _ _;have H1:Hid (Bx2 U3 v3.heap.size (Ud K3) (Uf pa z3.length pc)):=hid (Hd▸Bx2.made _ _ _ _);have Hl:=hid (Kf.bw P);have H6:Hid (Seg U3 pa z3.length (gz z3)/\ (z3.length<=pc/\ pc<=9223372036854775807)/\∀y,pa=Uq y ->y.block<U3.heap.size):=hid ⟨K2.bw P,⟨Kz,K0⟩,fun y hy=>Ut (Ky y hy) P.size⟩;try rw [Hd]
  clear Hd P Kf K2 Kz K0 Ky G4;obtain⟨fb,Kw⟩:=zE v3.heap.size;rw [Kw] at H1 ⊢;clear Kw;cases Va with
  | false=>
   have e:=Gb;rw [if_neg oP] at e;injection e with e1 e2;injection e2 with e2 e3;subst e1 e2 e3;clear Gb;go_wp2_with fail;go_ret;exact⟨rfl,Hl.bv⟩
  | true=>
  have e:=Gb;rw [if_pos rfl] at e;injection e with e1 e2;injection e2 with e2 e3;subst e1 e2 e3;clear Gb;have H4:=hid (At.rok Hl.aq);simp only [Rq.vs] at H4;obtain⟨Vb,Gx⟩:=zE (rpB jd T E);rw [Gx] at H4;obtain⟨b0,z,A,b3,b4⟩:=Hl.b.q5;go_wp2_with fail;refine H4.mono ?_;rintro e v5 ⟨rfl,G⟩;have Hc:=hid (Hl.bw G);have H0:=hid (H1.bw G H1.lt);have Ho:Hid (Seg v5 pa (eB (sxD S) 8).length (gz (eB (sxD S) 8))/\ ((eB (sxD S) 8).length<=pc/\ pc<=9223372036854775807)/\∀y,pa=Uq y ->y.block<v5.heap.size):=hid ⟨H6.1.bw G,H6.2.1,fun y hy=>Ut (H6.2.2 y hy) G.size⟩;have Gt:=hid Gx;clear b0 z A b3 b4 G H4 Gx Hl H1 H6;cases Vb with
  | false=>
   go_wp2_with fail;go_ret;exact⟨rfl,Hc.bv⟩
  | true=>
  rw [QdR] at H0 Ho;have Kt:=hid (QaX Kr);have Hg:=hid (QaX Gt);have Gr:=hid (Qhp a x g y c d k m S T v5 Hc.ar.m.1 Hc.aq.m.1 Hc.ar.s Hc.aq.s);obtain⟨sm,G7⟩:=zE (yes (EqS S T));rw [G7] at Gr;have Je:Hid (sm=true ->sxD S=sxD T):=hid (fun h=>QnZ (Classical.byContradiction fun hn=>by rw [<- G7,Qag hn] at h;cases h) Kt.2.1 Hg.2.1);clear G7;obtain⟨a0,a1,a2,a3,a4⟩:=Hc.a.q5;obtain⟨b0,z,A,b3,b4⟩:=Hc.b.q5;go_wp2_with fail;refine Gr.mono ?_;rintro e v6 ⟨rfl,b6⟩;have M:=hid (Hc.bw b6);have Gg:=hid (H0.bw b6 H0.lt);have H5:Hid (Seg v6 pa 8 (gz (eB (sxD S) 8))/\ (8<=pc/\ pc<=9223372036854775807)/\∀y,pa=Uq y ->y.block<v6.heap.size):=hid ⟨Ho.1.bw b6,Ho.2.1,fun y hy=>Ut (Ho.2.2 y hy) b6.size⟩;clear a0 a1 a2 a3 a4 b0 z A b3 b4 b6 Gr Hc H0 Ho;go_upto_region 11 with fail;go_cut [61] from 36 to 61 (fun bb wx=>Ck bb (sm=false/\ sxD S=sxD T)/\ Hid (Bl v6 wx));case first=>
   cases sm with
   | true=>
    go_wp2_with fail;refine zR (S:=fun _=>True) trivial (fun qh=> ?_);refine tZ 0 51 ?_;refine tZ 1 52 ?_;refine tZ 2 53 ?_;refine uZ 3 54 ?_;refine uZ 4 55 ?_;refine uZ 5 56 ?_;refine uZ 6 57 ?_;refine uZ 7 58 ?_;refine uZ 8 59 ?_;refine uZ 9 60 ?_;refine tZ 10 61 ?_;refine zD ?_;go_wp2_with fail;go_meet;exact⟨Ck.f oP,hid zI.drew⟩
   | false=>
    have Kk:=hid (fun u(hu:Bl v6 u)=>QlO a x c d S u M.ar.c.1 M.ar.c.2 M.ar.m Kt.2.1 (M.ar.bw hu).s);have Kl:=hid (fun u(hu:Bl v6 u)=>QlO g y k m T u M.aq.c.1 M.aq.c.2 M.aq.m Hg.2.1 (M.aq.bw hu).s);have N:Hid (∀u,Bl v6 u ->(u.cell? (Ua ra 1)=Uq (Uf a S.l.length c)/\ u.cell? (Ua ra 2)=Uq (Uf x S.n d)/\ u.cell? (Ua (ra+1) 1)=Uq (Uf g T.l.length k)/\ u.cell? (Ua (ra+1) 2)=Uq (Uf y T.n m))):=hid (fun u hu=>⟨(M.bw hu).a.c1,(M.bw hu).a.c2,(M.bw hu).b.c1,(M.bw hu).b.c2⟩);obtain⟨da,Gy⟩:=zE (sxD S);obtain⟨db,Gz⟩:=zE (sxD T);rw [Gy] at Kk;rw [Gz] at Kl;have Hz:=hid (And.intro Gy Gz);clear Gy Gz;go_wp2_with fail;refine zS N (fun qh=> ?_);refine tZ 0 51 ?_;refine tZ 1 52 ?_;refine tZ 2 53 ?_;refine tZ 3 54 ?_;refine tZ 4 55 ?_;refine tZ 6 57 ?_;refine tZ 7 58 ?_;refine cZ 5 ?_;intro K r;go_simp;refine(Kk _ zI.drew).mono ?_;rintro e v7 ⟨rfl,b7⟩;have h7:Bl v6 v7:=Qaa zI.drew b7;refine r.out _ _ (N _ h7) (fun qh=> ?_);clear r K;try simp only [zP]
    refine cZ 8 ?_;intro K r;go_simp;refine(Kl _ h7).mono ?_;rintro e v8 ⟨rfl,b8⟩;have h8:Bl v6 v8:=Qaa h7 b8;refine r.out _ _ (N _ h8) (fun qh=> ?_);clear r K;try simp only [zP]
    refine tZ 9 60 ?_;refine tZ 10 61 ?_;refine zD ?_;have H8:=hid h8;clear h7 h8 b7 b8 qh;by_cases G0:da=db
    ·have dd:((da:Int)==(db:Int))=true:=oS;have HD:=hid G0;clear G0;go_wp2_with fail;go_meet;rw [dd];exact⟨Ck.t ⟨oP,Hz.1.trans (HD.trans Hz.2.symm)⟩,H8⟩
    ·have dd:((da:Int)==(db:Int))=false:=oS;go_wp2_with fail;go_meet;rw [dd];exact⟨Ck.f (fun h=>G0 (Hz.1.symm.trans (h.2.trans Hz.2))),H8⟩
  case rest=>
  obtain⟨Jf,HV⟩:=hcut;have F:=hid (M.bw HV);have Ka:=hid (Gg.bw HV Gg.lt);have Hp:Hid (Seg wc pa 8 (gz (eB (sxD S) 8))/\ (8<=pc/\ pc<=9223372036854775807)/\∀y,pa=Uq y ->y.block<wc.heap.size):=hid ⟨H5.1.bw HV,H5.2.1,fun y hy=>Ut (H5.2.2 y hy) HV.size⟩;clear M Gg H5 HV;obtain⟨rfl,hq⟩|⟨rfl,hq⟩:=Jf
  ·go_wp2_with fail;go_ret;exact⟨rfl,F.bv⟩
  have HQ:=hid hq;clear hq;have Ke:=hid (QeN (c:=k) (d:=m) (c':=k') (d':=W) (a:=g) (x:=y) (a':=g') (x':=y') Gt F.aq.m F.aq.m' ⟨F.aq.s.lf.seg,F.aq.s.rn⟩ ⟨F.aq.t.lf.seg,F.aq.t.rn⟩ (HnQ.hello (S:=T) (f:=gz (eB (sxD S) 8)) rfl) (Qf0 (QdQ _ 8)) Hp.1 Hp.2.1.1 Hp.2.1.2 Hp.2.2 (HG.bw F.bv));obtain⟨b0,z,A,b3,b4⟩:=F.b.q5;obtain⟨f0,f1⟩:=Ka.q2;go_wp2_with fail;refine Ke.mono ?_;rintro e v9 ⟨V,I,Y,L,Hu,m3,Hv,Hx,m4,Hw,fv,rfl,_,Hb,b9⟩;have Gk:=hid (F.bw b9);clear b0 z A b3 b4 f0 f1 Ke F Ka Hp;cases sm with
  | true=>
   rw [QmP (Je rfl)] at Hb;have Hb:fv=Ue:=Hb;subst Hb;have bN:∀o,Bl w (v9.alloc o):=fun o=>Qaa Gk.bv (zO _ _);have K8:=hid bN;clear bN b9;go_wp2_with fail;go_ret;exact⟨rfl,K8 _⟩
  | false=>
  have Ge:Hid (sxD S≠sxD T):=hid (fun h=>HQ.out ⟨rfl,h⟩);rw [Qo7 Ge.out Hg.2.1] at Hb;obtain⟨q,va,vc,rfl,Jh,G5,K4,K5⟩:=Hb;go_upto_region 14 with fail;obtain⟨U9,Gw⟩:=zE (v9.alloc (Uj #[Ud jd,Uf V T.l.length I,Uf Y T.n L,Uf Hu m3 Hv,Uf Hx m4 Hw] 30));have Hs:Bl v9 U9:=Gw▸zO _ _;have O:=hid (Gk.bw Hs);have G6:q<v9.heap.size:=block_lt_of_cell G5;have Gq:Hid (Qp1 U9 q (Ud 2) (Uf va T.b.length vc)/\ Own U9 0 (Uf va T.b.length vc) T.b):=hid ⟨⟨(Hs.cell (p:=(Ub q)) G6).trans G5,(Hs.cell (p:=(Ua q 1)) G6).trans K4⟩,(QaA Hs K5).weak (Ux _)⟩;try rw [Gw]
  clear Gw Hs Gk Jh G5 K4 K5 b9 G6;have Gu:=hid (Qg5 jd g y g' y' k m k' W T E U9 O.aq.c.1 O.aq.c.2 O.aq.c'.1 O.aq.c'.2 O.aq.m.1 O.aq.m'.1 O.aq.s.lf O.aq.s.rn O.aq.t.lf O.aq.t.rn);rw [show whZ jd T E=(2,T.b,true) from by unfold whZ;rw [if_pos Gt.out,Qgl Hg.2.1]] at Gu;obtain⟨b0,z,A,b3,b4⟩:=O.b.q5;go_wp2_with fail;refine Gu.mono ?_;rintro e w1 ⟨K1,Jk,Jm,B1,rfl,R,G3,z⟩;injection R with e1 e2;injection e2 with e2 e3;subst e1 e2 e3;obtain⟨wa,Hy,rfl,_⟩:=G3.any;have Kg:=hid (O.bw z);have Gm:=hid (And.intro (Gq.1.bw z) (QaA z Gq.2));clear b0 z A b3 b4 Gu O Gq;go_upto_region 19 with fail;obtain⟨U1,H7⟩:=zE (w1.alloc (Uj #[Ud 2,Uf wa T.b.length Hy] 35));have Ku:Bl w1 U1:=H7▸zO _ _;have WB:Bx2 U1 w1.heap.size (Ud 2) (Uf wa T.b.length Hy):=H7▸Bx2.made _ _ _ _;obtain⟨U2,H9⟩:=zE (U1.alloc (Uj #[Ud 2,Uf wa T.b.length Hy] 35));have Kv:Bl U1 U2:=H9▸zO _ _;have WC:Bx2 U2 U1.heap.size (Ud 2) (Uf wa T.b.length Hy):=H9▸Bx2.made _ _ _ _;have Hr:=Qaa Ku Kv;have Kh:=hid (Kg.bw Hr);have Hh:=hid (And.intro (Gm.1.bw Hr) (QaA Hr Gm.2));have Ko:=hid (Qn0 q U1.heap.size 1 1 va wa vc Hy T.b U2 Hh.1.1 Hh.1.2 WC.c0 WC.c1 (Qfu Hg.2.1) (Qdb Hh.2).2.2.2 (Qdb (QaA Hr G3)).2.2.2);obtain⟨f0,f1⟩:=WB.q2;try rw [H7]
  clear H7 Hr Ku Kv WB WC G3 z Kg Gm;go_wp2_with fail;try rw [H9]
  clear H9 f0 f1;refine Ko.mono ?_;rintro e v2 ⟨rfl,A⟩;have Hf:=hid (Kh.bw A);have Gn:=hid (And.intro (Hh.1.bw A) (QaA A Hh.2));clear A Ko Kh Hh;have Gl:=hid (Qey a x g y c d k m S T v2 Hf.ar.m.1 Hf.aq.m.1 Hf.ar.s Hf.aq.s);have H2:=hid (QhL S T);obtain⟨J,hJ⟩:=zE (jnZ S T);obtain⟨jb,G1⟩:=zE (jnB S T);have Kd:Hid (hjB S T=(jb && Qbq J)):=hid (by unfold hjB;rw [G1,hJ]);have Ja:=hid hJ;rw [hJ,G1] at Gl;rw [hJ] at H2;clear hJ G1;obtain⟨a0,a1,a2,a3,a4⟩:=Hf.a.q5;obtain⟨b0,z,A,b3,b4⟩:=Hf.b.q5;go_wp2_with fail;refine Gl.mono ?_;rintro e v3 ⟨ja,jm,jx,jt,rfl,s3,b3,jc⟩;have Ki:=hid (Hf.bw b3);have Go:=hid (And.intro (Gn.1.bw b3) (QaA b3 Gn.2));clear a0 a1 a2 a3 a4 b0 z A b3 b4 Gl Hf Gn;go_upto_region 22 with fail;obtain⟨U3,Hd⟩:=zE (v3.alloc (Uj #[Uf ja J.l.length jm,Uf jx J.n jt] 28));have P:Bl v3 U3:=Hd▸zO _ _;have GB:Bx2 U3 v3.heap.size (Uf ja J.l.length jm) (Uf jx J.n jt):=Hd▸Bx2.made _ _ _ _;have Kj:=hid (Ki.bw P);have Gp:=hid (And.intro (Go.1.bw P) (QaA P Go.2));have sJ:SCt U3 ja jx J:=⟨(s3.bw P).at.1,(s3.bw P).at.2⟩;have Km:=hid (Qcl ja jx jm jt J U3 jc.1 jc.2 H2.1 sJ.lf sJ.rn);have Kp:=hid sJ;have Gh:=hid GB;obtain⟨g0,g1⟩:=GB.q2;try rw [Hd]
  clear Hd P s3 b3 jc sJ GB Ki Go;go_wp2_with fail;refine Km.mono ?_;rintro e v4 ⟨Jl,Jn,k4,rfl,K7,_,b4⟩;have Kb:Hid (Qbq J=decide (k4=0)):=hid (by unfold Qbq;rw [K7]);have Hm:=hid (Kj.bw b4);have Kn:=hid (And.intro (Gp.1.bw b4) (QaA b4 Gp.2));have Gi:=hid (Gh.bw b4 Gh.lt);have Jc:=hid (Kp.bw b4);clear g0 g1 K7 b4 Km Kj Gp Gh Kp;obtain⟨gb,Kx⟩:=zE v3.heap.size;rw [Kx] at Gi ⊢;clear Kx;obtain⟨X,C,Jb,Gv⟩:∃X C,Hid (HnQ S (gz T.b) T.b.length 2 X Up C)/\ Hid ((hjB S T=true/\ X=J/\ C=0) \/(hjB S T=false/\ X=S/\ C=3)):=by
   cases hh:hjB S T with
   | true=>exact⟨J,0,hid (by rw [<- Ja.out];exact HnQ.whole T (QhC Hg.2.1) hh),hid (.inl ⟨rfl,rfl,rfl⟩)⟩
   | false=>exact⟨S,3,hid (HnQ.full T (QhC Hg.2.1) hh),hid (.inr ⟨rfl,rfl,rfl⟩)⟩
  have Kc:Hid (∀u,Bl v4 u ->Cl 9 #[Uo #[Ud H,Uf a S.l.length c,Uf x S.n d,Uf a' D.l.length c',Uf x' D.n d'],Uo #[Ud 2,Uf va T.b.length vc]] u fun e w'=>HnI H X Up C u e w'):=hid (fun u hu=>by
   have v:=Hm.ar.bw hu;have h2:=Qdb (QaA hu Kn.2);exact QeN Kr v.m v.m' ⟨v.s.lf.seg,v.s.rn⟩ ⟨v.t.lf.seg,v.t.rn⟩ Jb (Qfu Hg.2.1) h2.2.2.2 h2.1 h2.2.1 h2.2.2.1 (HG.bw (Qaa Hm.bv hu)))
  have N:Hid (∀u,Bl v4 u ->(u.cell? (Ub ra)=Uq (Ud H)/\ u.cell? (Ua ra 1)=Uq (Uf a S.l.length c)/\ u.cell? (Ua ra 2)=Uq (Uf x S.n d)/\ u.cell? (Ua ra 3)=Uq (Uf a' D.l.length c')/\ u.cell? (Ua ra 4)=Uq (Uf x' D.n d')/\ u.cell? (Ub q)=Uq (Ud 2)/\ u.cell? (Ua q 1)=Uq (Uf va T.b.length vc))):=hid (fun u hu=>by
   have v:=(Hm.bw hu).a;have h2:=Kn.1.bw hu;exact⟨v.c0,v.c1,v.c2,v.c3,v.c4,h2.1,h2.2⟩)
  have Ks:Hid (SmI X):=hid (by rcases Gv with ⟨_,rfl,_⟩|⟨_,rfl,_⟩;exact H2;exact Hm.ar.m);go_upto_region 23 with fail;go_cut [18,20] from 104 to 119 (fun bv cv wx=>∃(bN:Nat) (V:Option Us) (I:Nat) (Y:Option Us) (L:Nat),bv=Uk (Uc bN)/\ cv=Ud C/\ wx.cell? (Ua bN 1)=Uq (Uf V X.l.length I)/\ wx.cell? (Ua bN 2)=Uq (Uf Y X.n L)/\ Hid (SCt wx V Y X)/\ Hid (Bl v4 wx));case first=>
   refine zS N (fun qh=> ?_);refine tZ 0 112 ?_;refine tZ 1 113 ?_;refine tZ 2 114 ?_;refine tZ 3 115 ?_;obtain⟨z0,G8⟩:=zE v4.drew;have h0:Bl v4 z0:=G8▸zI.drew;rw [G8] at qh ⊢;clear G8;refine QaK (i:=4) (j:=9) (d:=Uq 116) (d':=Uq 18) oK oK oK ?_ ?_
   ·
    intro o ho Jg K r;simp only [gZa,gZb,gZc,gZd] at ho;subst ho;go_simp;refine(Kc z0 h0).mono ?_;rintro e v5 ⟨V,I,Y,L,Hu,m3,Hv,Hx,m4,Hw,fv,rfl,Ht,Hb,G⟩;have Q:Bl v4 v5:=Qaa h0 G;refine r.out _ _ (N _ Q) (fun qh=> ?_);clear r K;try simp only [zP]
    refine tZ 5 111 ?_;refine tZ 6 117 ?_;refine tZ 7 118 ?_;refine tZ 8 119 ?_;refine cZ 9 ?_;intro K r;go_simp;obtain⟨z1,R⟩:=zE (v5.alloc (Uj #[Ud 0,Ue,Ue,Ue,Ue] 30));have Ha:Bl v5 z1:=R▸zO _ _;have Z0:QfW z1 v5.heap.size:=R▸Bx5.new _ _ _ _ _ _ _;rw [R];clear R;refine r.out _ _ (N _ (Qaa Q Ha)) (fun qh=> ?_);clear r K;try simp only [zP]
    obtain⟨Z,eZ,XZ,qZ,zZ,oZ⟩:=Qcs Z0 (Ud H) (Uf V X.l.length I) (Uf Y X.n L) (Uf Hu m3 Hv) (Uf Hx m4 Hw);have Hj:=hid eZ;clear eZ;obtain⟨x0,x1,x2,x3,x4,xf⟩:=Z0.p5;refine cZ 10 ?_;intro K r;go_simp;rw [<- Hj.out];have He:Bl v5 Z:=⟨oZ.1.trans Ha.os,oZ.2.1.trans Ha.tape,oZ.2.2.trans Ha.output,oH Ha.size,fun k hk=>(qZ k oM).trans (Ha.block k hk)⟩;refine r.out _ _ (N _ (Qaa Q He)) (fun qh=> ?_);clear r K;try simp only [zP]
    refine tZ 11 19 ?_;refine tZ 12 20 ?_;refine zD ?_;have Gs:=hid (Ht Z He.size (fun k _ h2=>He.block k h2));have Gd:=hid (Qaa Q He);have Hq:=hid XZ;clear x0 x1 x2 x3 x4 xf qh Q G Ha Z0 XZ qZ zZ oZ Ht Hb He Hj;go_wp2_with fail;go_meet;exact⟨_,V,I,Y,L,rfl,rfl,Hq.c1,Hq.c2,Gs,Gd⟩
   ·
    intro o ho Jg K r;simp only [gZa,gZb,gZc,gZd] at ho;subst ho;go_simp;obtain⟨z1,R⟩:=zE (z0.alloc (Uj #[Ud 0,Ue,Ue,Ue,Ue] 30));have Ha:Bl z0 z1:=R▸zO _ _;have Z1:QfW z1 z0.heap.size:=R▸Bx5.new _ _ _ _ _ _ _;rw [R];clear R;have v:=Qaa h0 Ha;refine r.out _ _ (N _ v) (fun qh=> ?_);clear r K;try simp only [zP]
    refine cZ 4 ?_;intro K r;go_simp;refine(Kc z1 v).mono ?_;rintro e v5 ⟨V,I,Y,L,Hu,m3,Hv,Hx,m4,Hw,fv,rfl,Ht,Hb,G⟩;have Q:Bl v4 v5:=Qaa v G;refine r.out _ _ (N _ Q) (fun qh=> ?_);clear r K;try simp only [zP]
    refine tZ 5 111 ?_;refine tZ 6 117 ?_;refine tZ 7 118 ?_;refine tZ 8 119 ?_;have Z0:=Z1.bw G Z1.lt;obtain⟨Z,eZ,XZ,qZ,zZ,oZ⟩:=Qcs Z0 (Ud H) (Uf V X.l.length I) (Uf Y X.n L) (Uf Hu m3 Hv) (Uf Hx m4 Hw);have Hj:=hid eZ;clear eZ;obtain⟨x0,x1,x2,x3,x4,xf⟩:=Z0.p5;refine cZ 10 ?_;intro K r;go_simp;rw [<- Hj.out];have He:Bl v4 Z:=⟨oZ.1.trans Q.os,oZ.2.1.trans Q.tape,oZ.2.2.trans Q.output,oH Q.size,fun k hk=>(qZ k (oH h0.size)).trans (Q.block k hk)⟩;refine r.out _ _ (N _ He) (fun qh=> ?_);clear r K;try simp only [zP]
    refine tZ 11 19 ?_;refine tZ 12 20 ?_;refine zD ?_;have Gs:=hid (Ht Z oM (fun k h6 _=>qZ k (oH Z1.lt)));have Gd:=hid He;have Hq:=hid XZ;clear x0 x1 x2 x3 x4 xf qh Q v G Ha Z1 Z0 XZ qZ zZ oZ Ht Hb He Hj;go_wp2_with fail;go_meet;exact⟨_,V,I,Y,L,rfl,rfl,Hq.c1,Hq.c2,Gs,Gd⟩
  case rest=>
  obtain⟨bN,V,I,Y,L,rfl,rfl,n1,n2,Kq,HV⟩:=hcut;have Hn:=hid (Hm.bw HV);have K9:=hid (Gi.bw HV Gi.lt);have Jd:=hid (Jc.bw HV);have Gf:=hid (Qhp V Y a x I L c d X S wc Ks.1 Hn.ar.m.1 Kq Hn.ar.s);have G9:=hid (Qhp V Y ja jx I L jm jt X J wc Ks.1 H2.1 Kq Jd);rcases Gv.out with ⟨hh,hX,rfl⟩|⟨hh,hX,rfl⟩
  ·subst hX;have Hi:=Kd.symm.trans hh;obtain⟨rfl,G2⟩:jb=true/\ k4=0:=by
    rw [Kb.out] at Hi;simpa using Hi
   subst G2;rw [Qaj (EqS.refl X)] at G9;obtain⟨g0,g1⟩:=K9.q2;clear hh Hi Gv Gf;go_wp2_with fail;refine G9.mono ?_;rintro e u ⟨rfl,bu⟩;have Gc:=hid (Qaa Hn.bv bu);clear bu;go_wp2_with fail;go_ret;exact⟨rfl,Gc⟩
  ·subst hX;have Hi:=Kd.symm.trans hh;rw [Kb.out] at Hi;rw [Qaj (EqS.refl X)] at Gf;go_upto_region 24 with fail;go_cut [125] from 120 to 125 (fun bb wx=>bb=Un true/\ wx=wc);case first=>
    cases jb with
    | false=>go_wp2_with fail;go_meet;exact⟨rfl,rfl⟩
    | true=>
     have G2:(k4 !=0)=true:=oU Hi;go_wp2_with fail;go_meet;exact⟨by first|rfl|rw [G2],rfl⟩
   case rest=>
   obtain⟨rfl,Ji⟩:=hcut;subst Ji;obtain⟨a0,a1,a2,a3,a4⟩:=Hn.a.q5;go_wp2_with fail;refine Gf.mono ?_;rintro e u ⟨rfl,bu⟩;have Gc:=hid (Qaa Hn.bv bu);clear bu;go_wp2_with fail;go_ret;exact⟨rfl,Gc⟩
 ·have i1:(1048576:Int)<(cn:Int):=oM;go_enter func3,ntmps3;go_wp2_with fail;go_ret;exact⟨rfl,zI⟩
end Go.Proofs.YtmlmkaiibamabaaGreatDoor
