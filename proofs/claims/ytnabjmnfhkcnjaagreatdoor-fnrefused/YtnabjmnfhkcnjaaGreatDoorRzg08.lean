import Derived.Test.YtnabjmnfhkcnjaaGreatDoorRzg07
import Derived.Test.YtnabjmnfhkcnjaaGreatDoorCards
import Derived.JoinedOf
set_option linter.unusedVariables false
set_option linter.unusedSimpArgs false
set_option maxRecDepth 100000
set_option maxHeartbeats 40000000
namespace Go.Proofs.YtnabjmnfhkcnjaaGreatDoor
open Go.ChangeShapes Go.WideShapes Go.ChangeAt Go.RowKit Go.Deep Go.Proofs.Tryz
open Go.Value renaming slice->Uf,int->Ug,pointer->Uk,tuple->Ul,string->Um,bool->Un,agg->Uo
open Go.IntKind renaming i64->Uh
open Go.Ending renaming returned->Ui
open Go.Obj renaming cells->Uj
open Option renaming none->Up,some->Uq
open Go.RowKit renaming Hid->aA
open Go renaming World->Ur,Addr->Us
open Int renaming natCast_nonneg->VH
open Go.World renaming setCell->Vr
open Nat renaming lt_of_lt_of_le->Ut,zero_le->UB,le_refl->Ux
open List renaming eq_nil_of_length_eq_zero->UO,mem_cons_self->Vf
variable {A D S X Y:Sx}{B c c' d d' hi k lo m mid n pc rb z:Nat}{V w w' w1:Ur}{a a' pa x x':Option Us}{f:Nat->Int}{l:List Lf}{o0 u:Value}{p:List ByteArray}{t:TypeId}{v:ByteArray}{y:Lf}
theorem Sq(h:bM S=true):Dr (nS S):=⟨Py (iW h).1,Rr h⟩
theorem aT.nS{w:Ur}{lo c:Nat}{a x:Option Us}{S:Sx}(h:aT w lo a c x S):aT w lo a c x (nS S):=⟨λw' h1 h2=>⟨(h.nc w' h1 h2).1,Pz (h.nc w' h1 h2).2⟩,h.cp⟩
theorem Gd.smI(h:Gd S):dR S:=⟨h.sm,h.li⟩
structure Gx(S:Sx):Prop where
 m:dR S
 t:lC S.T
 p:P1 S
theorem Dr.gx(h:Dr S):Gx S:=⟨h.gd.smI,h.t,λi hi=>(rU h.vd hi).1⟩
theorem GA(h:1<=y.p.length):1<=(jP k y).p.length:=by
 unfold jP;repeat' split
 all_goals first|exact h|(simp;done)|(simp;omega)
theorem Rx(u:List Rn)(hl:∀y∈l,1<=y.p.length):P1 (cT l u):=λi hi=>hl _ (bJ.2 ⟨i,hi,rfl⟩)
theorem GD{x:Nat}(h:P1 S):P1 (lL f n x S):=by
 have v:∀y∈S.l,1<=y.p.length:=λy j=>by obtain⟨i,hi,e⟩:=bJ.1 j;rw[<-e];exact h i hi
 unfold lL;split
 .exact Rx _ v
 .rename_i h0;refine Rx _<|λy j=>?_;have k:=v _ (bJ.2 ⟨_,Nat.mod_lt (rk f n x/8) (by omega:0<S.l.length),rfl⟩);unfold kX at j;rcases List.mem_or_eq_of_mem_set j with j|rfl
  .split at j
   .rcases List.mem_append.1 j with j|j
    .exact v y j
    .rw[List.mem_singleton.1 j];exact k
   .exact v y j
  .exact GA k
theorem Rf{x:Nat}(h:Dr S)(hk:rk f n (rx n x)<256):Gx (lL f n x S):=⟨(Rg h hk).smI,(Rg h hk).t,GD h.gx.p⟩
structure Rq.sm(R:Rq):Prop where
 s:Gx R.S
 t:Gx R.D
 i: -9<=R.id/\R.id<=99
theorem EO(hm:m<=200):Gx (jA m):=⟨rY (by simp[jA,jL]) (by simp[jA]) (λx hx=>jU (Ch hm).w x hx),λi=>by simp[jA],λi hi=>(sA (Ch hm) i hi).1⟩
def pS(m k:Nat):Sx:=⟨(gP m 20).take k,1,λ_=>0,λ_=>1,λ_=>20⟩
theorem FF(hm:m<=200):Gx (pS m k):=⟨rY (by simp[pS,jL];omega) (by simp[pS]) (λx hx=>jU (Ch hm).w x (List.mem_of_mem_take hx)),λi=>by simp[pS],λi hi=>by
 obtain⟨j,q,e⟩:=bJ.1 (List.mem_of_mem_take (bJ.2 ⟨i,hi,rfl⟩:gL ((gP m 20).take k) i∈(gP m 20).take k));show 1<=(gL ((gP m 20).take k) i).p.length;rw[<-e];exact(sA (S:=jA m) (Ch hm) j q).1⟩
theorem Bk:Gx Sx.mt:=⟨mC,λi=>by simp[Sx.mt],λi hi=>by simp[Sx.mt]at hi⟩
theorem dH.take(h:dH w a l)(k:Nat):dH w a (l.take k):=by
 rcases h with h|⟨b,off,e,m,q⟩
 .left;simp[h]
 .refine .inr ⟨b,off,e,m,λi hi=>?_⟩;have r:i<l.length:=by simp at hi;omega
  have j:gL (l.take k) i=gL l i:=by
   have u:i<k:=(by simp at hi;omega);simp[gL,List.getD,List.getElem?_take,u]
  rw[j];exact q i r
theorem Tf(k:Nat)(hk:k<256)(w:Ur):Cl 19 #[Ud (k:Int)] w λe w'=>∃R:Rq,e=Ui (.agg R.vs)/\R.Nw w' w.1.size/\R.sm/\Bl w w':=by
 obtain⟨P,O⟩:∃P:Ending->Ur->Prop,(λe w'=>∃R:Rq,e=Ui (.agg R.vs)/\R.Nw w' w.1.size/\R.sm/\Bl w w')=P:=⟨_,rfl⟩;rw[O];have HP:=aC O;obtain⟨W,i⟩:=zE (w.alloc (Uj #[Ud 0,Ue,Ue,Ue,Ue] 30));have L:Bl w W:=i▸zO _ _;have K:kQ W w.1.size:=i▸aF.new _ _ _ _ _ _ _;have h:=aC K;have Hg:=aC L;clear O L K;go_enter func19,ntmps19;go_wp2_with fail;try rw[i]
 clear i;refine(Mc 0 oM W).mono ?_;rintro e w1⟨⟨id,S,D,a,c,x,d,r,c',x',d'⟩,rfl,⟨He,Hl,Ho,N⟩,F,C,T,Hd⟩;dsimp only at He F C T Hd;subst He F C T Hd;simp only[Rq.vs];have H:=aC N;clear Hl Ho N;go_wp2_with fail;obtain⟨U,o⟩:=zE (w1.alloc (Uj #[Ud 0,Uf a Sx.mt.l.length 0,Uf x Sx.mt.n d,Uf r Sx.mt.l.length 0,Uf x' Sx.mt.n d'] 30));have X:Bl w1 U:=o▸zO _ _;have A:aF U w1.1.size (Ud 0) (Uf a Sx.mt.l.length 0) (Uf x Sx.mt.n d) (Uf r Sx.mt.l.length 0) (Uf x' Sx.mt.n d'):=o▸aF.new _ _ _ _ _ _ _;have G:=aC A;have I:=aC<|aE H X;have J:aA (W.1.size<=w1.1.size/\w1.1.size<U.1.size):=aC ⟨H.size,A.lt⟩;try rw[o]
 clear o X A;refine(P7 0 oM U).mono ?_;rintro e Z⟨la,j,z,b,rfl,s,u⟩;obtain⟨g,off,rfl,_,_⟩:=s.at.1.resolve_left (by simp[jA,jL]);have Y:(jA (30+0%10)).l.length=20:=by simp[jA,jL]
 have Hf:(jA (30+0%10)).n=1:=rfl;have Hc:=s.cp;rw[Y]at Hc;rw[Y,Hf];have E:=G.bw u G.lt;have M:=h.bw (aE I u) h.lt;have Hj:=aC s;have Hh:=aC<|aE Hg (aE I u);have Hk:=aC u.size;obtain⟨r2,Hp⟩:=zE (k%2:Nat);have e2:(k:Int)%2=(r2:Int):=oM;have t:r2<2:=oM;obtain⟨m,hm⟩:=zE (19-r2:Nat);have e3:(19:Int)-(r2:Int)=(m:Int):=oM;have e4:IntKind.i64.wrap ((19:Int)-(r2:Int))=(m:Int):=by rw[cK _ oM oM];omega
 have Hu:m<=19:=oM;have Hs:(0:Int)<=(m:Int):=VH _;have Ht:(m:Int)<=(j:Int):=oM;have Hr:0<j:=oM;obtain⟨a0,a1,a2,a3,a4,af⟩:=E.p5;have Hq:=aC E;have Hi:=aC M;obtain⟨r0,r1,Hv,r3,r4,rf⟩:=M.p5;have Hm:¬w.1.size=w1.1.size/\¬w1.1.size=w.1.size:=oJ J h.lt;obtain⟨Hb,Hn⟩:=Hm;clear s u E M Y Hf Hp hm;go_wp2_with fail;obtain⟨V,y⟩:=zE (((Z.setCell (Ua w1.1.size 1) (Uf (Uq (Ua g off)) 20 j)).setCell (Ua w1.1.size 2) (Uf z 1 b)).setCell (Ua w1.1.size 1) (Uf (Uq (Ua g off)) m j));have qV:∀q,q≠w1.1.size->V.1[q]? =Z.1[q]? :=λq hq=>by rw[<-y,zH _ _ _ _ hq,zH _ _ _ _ hq,zH _ _ _ _ hq]
 have zV:V.1.size=Z.1.size:=by rw[<-y];simp[Vr]
 have z1:=J.out;have z2:=Hk.out;have z3:=h.lt;have bV:Bl w V:=by rw[<-y];exact((Hh.setCell (p:=(Ua w1.1.size 1)) oQ _).setCell (p:=(Ua w1.1.size 2)) oQ _).setCell (p:=(Ua w1.1.size 1)) oQ _
 rw[y];clear y;have Q:=(Hi.sm (qV _ Hb) oM).set5 (Ud 0) (Uf (Uq (Ua g off)) m j) (Uf z 1 b) (Uf r Sx.mt.l.length 0)<|Uf x' Sx.mt.n d';refine zF (v:=Uo #[Ud 0,Uf (Uq (Ua g off)) m j,Uf z 1 b,Uf r Sx.mt.l.length 0,Uf x' Sx.mt.n d']) (by simp[results,results19,go_sem,Q.c0,Q.c1,Q.c2,Q.c3,Q.c4]) ?_;rw[<-HP.out];have Ha:(pS 30 m).l.length=m:=by simp[pS,jL];omega
 have sV:aT V U.1.size (Uq (Ua g off)) j z (pS 30 m):=by
  have B:=Hj.move (w1:=V) zL oM<|λq h1 t=>qV q oM;refine⟨λv h1 t=>⟨?_,(B.nc v h1 t).2⟩,by rw[Ha];omega,Hc.2⟩;have:=(B.nc v h1 t).1;exact dH.take this m
 refine⟨⟨0,pS 30 m,Sx.mt,Uq (Ua g off),j,z,b,r,0,x',d'⟩,?_,Rq.Nw.five (lo:=U.1.size) ⟨sV,aT.mtC _ _ _ _⟩ oM oM _ _ _ _ _,⟨FF oM,Bk,oP⟩,nW bV zL _ _ _ _ _⟩;simp only[Rq.vs];rw[Ha];rfl
theorem Is(w:Ur)(p:Us)(v:Value):(w.setCell p v).os=w.os:=rfl
theorem Iq(w:Ur)(p:Us)(v:Value):(w.setCell p v).tape=w.tape:=rfl
theorem Ir(w:Ur)(p:Us)(v:Value):(w.setCell p v).output=w.output:=rfl
structure nN(w:Ur)(E:Nat->Prop)(a:Option Us)(c:Nat)(x:Option Us)(S:Sx):Prop where
 nc:∀w':Ur,w.1.size<=w'.1.size->(∀q,q<w.1.size->¬E q->w'.1[q]? =w.1[q]?)->dH w' a S.l/\bI w' x S.n S.R S.F S.T
 cp:S.l.length<=c/\c<=9223372036854775807
theorem aT.ne{E:Nat->Prop}(h:aT w lo a c x S)(hE:∀q,E q->q<lo\/w.1.size<=q):nN w E a c x S:=⟨λw' h1 h2=>h.nc w' h1 (λq h3 h4=>h2 q h4 (λe=>by have:=hE q e;omega)),h.cp⟩
theorem nN.move{E:Nat->Prop}(h:nN w E a c x S)(hs:w.1.size<=w1.1.size)(hq:∀q,q<w.1.size->¬E q->w1.1[q]? =w.1[q]?):nN w1 E a c x S:=⟨λw' h1 h2=>h.nc w' (Nat.le_trans hs h1) (λq h3 h4=>(h2 q (Ut h3 hs) h4).trans (hq q h3 h4)),h.cp⟩
structure Rq.Ne(R:Rq)(w:Ur)(E:Nat->Prop):Prop where
 s:nN w E R.a R.c R.x R.S
 t:nN w E R.a' R.c' R.x' R.D
theorem Rq.Nw.ne{R:Rq}{E:Nat->Prop}(h:R.Nw w lo)(hE:∀q,E q->q<lo\/w.1.size<=q):R.Ne w E:=⟨h.s.ne hE,h.t.ne hE⟩
theorem Rq.Ne.move{R:Rq}{E:Nat->Prop}(h:R.Ne w E)(hs:w.1.size<=w1.1.size)(hq:∀q,q<w.1.size->¬E q->w1.1[q]? =w.1[q]?):R.Ne w1 E:=⟨h.s.move hs hq,h.t.move hs hq⟩
theorem Rq.Ne.at{R:Rq}{E:Nat->Prop}(h:R.Ne w E)(hk:R.sm):R.At w:=
 have a:=h.s.nc w zL<|λ_ _ _=>rfl
 have b:=h.t.nc w zL<|λ_ _ _=>rfl
 ⟨⟨a.1,a.2⟩,⟨b.1,b.2⟩,h.s.cp,h.t.cp,hk.s.m,hk.t.m⟩
theorem Rj{x:Nat}(h:cA w B rb f n x):rk f n (rx n x)<256:=by
 obtain⟨_,_,_,_,j,_⟩:=h;unfold rk;split
 .have:=j (rx n x);omega
 .omega
theorem Pj{Q:Prop}(h:Q:=by
 go_wp2_with fail;refine F.mono ?_;rintro e o⟨j,m,u,y,x5,X,rfl,s5,Hb,r5,A⟩;have T:=He.out;have J:=O.out;have N:=Hm.sm (A.block _ oM (λe=>oI e)) A.size;have U:=Hl.sm (A.block _ oM (λe=>oI e)) A.size;have C:=aC<|sW I A;have Hi:=aC s5;have Hf:=aC Hb;have Hh:=aC r5;have Hg:=aC U;have Hj:=aC A.size;clear a0 a1 a2 a3 a4 af p0 p1 p2 p3 p4 pf;obtain⟨a0,a1,a2,a3,a4,af⟩:=N.p5;obtain⟨p0,p1,p2,p3,p4,pf⟩:=U.p5;clear N U s5 Hb r5 A T J F;go_wp2_with fail;have G:∀(V:Ur) (u0 u1 u2 u3 u4 t1 t2:Value) (q:Nat),q≠w.1.size->q≠w.1.size+1->(((((((V.setCell (Ua w.1.size 1) t1).setCell (Ua w.1.size 2) t2).setCell (Ua (w.1.size+1) 0) u0).setCell (Ua (w.1.size+1) 1) u1).setCell (Ua (w.1.size+1) 2) u2).setCell (Ua (w.1.size+1) 3) u3).setCell (Ua (w.1.size+1) 4) u4).1[q]? =V.1[q]? :=λV u0 u1 u2 u3 u4 t1 t2 q i b=>by rw[mT _ b,zH _ _ _ _ i,zH _ _ _ _ i]
 have Q:=(Hg.sm (show((o.setCell (Ua w.1.size 1) (Uf j X.l.length m)).setCell (Ua w.1.size 2) (Uf u X.n y)).1[w.1.size+1]? =o.1[w.1.size+1]? from by rw[zH _ _ _ _ oQ,zH _ _ _ _ oQ]) (by simp[Vr])).set5 (Ud p) (Uf j X.l.length m) (Uf u X.n y) (Uf M D.l.length c') (Uf x' D.n d');refine zF (v:=Uo #[Ud p,Uf j X.l.length m,Uf u X.n y,Uf M D.l.length c',Uf x' D.n d']) (by simp[results,results41,go_sem,Q.c0,Q.c1,Q.c2,Q.c3,Q.c4]) ?_;have T:=He.out;have J:=O.out;have Hr:=Hj.out;have hM:=Hk o (Z:=((((((o.setCell (Ua w.1.size 1) (Uf j X.l.length m)).setCell (Ua w.1.size 2) (Uf u X.n y)).setCell (Ua (w.1.size+1) 0) (Ud p)).setCell (Ua (w.1.size+1) 1) (Uf j X.l.length m)).setCell (Ua (w.1.size+1) 2) (Uf u X.n y)).setCell (Ua (w.1.size+1) 3) (Uf M D.l.length c')).setCell (Ua (w.1.size+1) 4) (Uf x' D.n d')) C (by simp[Vr]) (G o _ _ _ _ _ _ _);have hX:=(Hi.move (w1:=((((((o.setCell (Ua w.1.size 1) (Uf j X.l.length m)).setCell (Ua w.1.size 2) (Uf u X.n y)).setCell (Ua (w.1.size+1) 0) (Ud p)).setCell (Ua (w.1.size+1) 1) (Uf j X.l.length m)).setCell (Ua (w.1.size+1) 2) (Uf u X.n y)).setCell (Ua (w.1.size+1) 3) (Uf M D.l.length c')).setCell (Ua (w.1.size+1) 4) (Uf x' D.n d')) (lo':=w1.1.size) zL (by simp[Vr]) (λq i b=>G o _ _ _ _ _ _ _ q oM oM)).ne (E:=E) (λq hq=> .inl (oH (HE.2.2 q hq)));exact Ha o _ ⟨p,X,D,j,m,u,y,M,c',x',d'⟩ _ C Hh (by simp only[Is]) (by simp only[Iq]) (by simp only[Ir]) (by simp[Vr]) (G o _ _ _ _ _ _ _) ⟨hX,hM.t⟩ ⟨Hf,L.2.1.gx,Hn⟩):Q:=h
theorem PO(B rb lo:Nat)(f:Nat->Int)(n xx:Nat)(R:Rq)(w:Ur)(hB:B<=w.1.size)(h:cA w B rb f n xx)(hN:R.Nw w lo)(hk:Dr R.S/\Dr R.D/\0<=R.id/\R.id<8)(hlo:rb<lo)(hlw:lo<=w.1.size)(E:Nat->Prop)(hE:R.Ne w E)(hEr:E rb)(hEw:∀q,E q->q<w.1.size):
  Cl 41 #[Uk (Uc rb),.agg R.vs] w λe w'=>∃(R':Rq) (x':Nat),e=Ui (.agg R'.vs)/\R'.Ne w' E/\R'.sm/\cA w' B rb f n x'/\w.grownBy w' (Uq rb):=by
 obtain⟨P,hP⟩:∃P:Ending->Ur->Prop,(λe w'=>∃(R':Rq) (x':Nat),e=Ui (.agg R'.vs)/\R'.Ne w' E/\R'.sm/\cA w' B rb f n x'/\w.grownBy w' (Uq rb))=P:=⟨_,rfl⟩;rw[hP];have HP:=aC hP;have Hw:=h.lt;have Ha:aA (∀(v Z:Ur) (R':Rq) (x':Nat),w.grownBy v (Uq rb)->cA v B rb f n x'->Z.os=v.os->Z.tape=v.tape->Z.output=v.output->Z.1.size=v.1.size->(∀q,q≠w.1.size->q≠w.1.size+1->Z.1[q]? =v.1[q]?)->R'.Ne Z E->R'.sm->P (Ui (.agg R'.vs)) Z):=aC (λv Z R' x' g r z1 z2 z3 z4 hq hn hs=>by
  have hz:=g.size;rw[<-HP.out];exact⟨R',x',rfl,hn,hs,r.bw ⟨z1,z2,z3,oM,λq h=>hq q oM oM⟩,z1.trans g.os,z2.trans g.tape,z3.trans g.output,oM,λq h hne=>(hq q oM oM).trans (g.block q h hne)⟩)
 obtain⟨p,S,D,a,c,x,d,M,c',x',d'⟩:=R;simp only[Rq.vs];obtain⟨W,hW⟩:=zE ((w.alloc (Uj #[Ud p,Uf a S.l.length c,Uf x S.n d,Uf M D.l.length c',Uf x' D.n d'] 30)).alloc (Uj #[Ud 0,Ue,Ue,Ue,Ue] 30));have b0:Bl w W:=hW▸aU _ _ _;have zW:W.1.size=w.1.size+2:=hW▸oP;have A0:aF W w.1.size (Ud p) (Uf a S.l.length c) (Uf x S.n d) (Uf M D.l.length c') (Uf x' D.n d'):=hW▸(aF.new _ _ _ _ _ _ _).up _;have R0:kQ W (w.1.size+1):=by
  rw[<-hW];simpa using aF.new (w.alloc (Uj #[Ud p,Uf a S.l.length c,Uf x S.n d,Uf M D.l.length c',Uf x' D.n d'] 30)) (Ud 0) Ue Ue Ue Ue 30
 have Ho:=aC<|jW B rb f n _ W (h.bw (b0.mono hB));have Hs:rk f n xx<256:=qA h;obtain⟨k,Hq⟩:=zE (rk f n xx);rw[Hq]at Ho Hs;have HN:=aC hN;have HE:=aC<|And.intro hE (And.intro hEr hEw);have L:=aC hk;have Hn:aA (-9<=p/\p<=99):=aC (by have:=hk.2.2;simp only at this;omega);have HA:=aC A0;have HR:=aC R0;have Hc:=aC b0;have HZ:=aC zW;have O:=aC<|And.intro hB (And.intro Hw (And.intro hlo hlw));clear Hq hP b0 A0 R0 zW h hN hk hE hEr hEw;go_enter func41,ntmps41;go_wp2_with fail;try rw[hW]
 clear hW;refine Ho.mono ?_;rintro e w1⟨rfl,r1,Y⟩;have I:aA (w.grownBy w1 (Uq rb)):=aC ⟨Y.os.trans Hc.os,Y.tape.trans Hc.tape,Y.output.trans Hc.output,Nat.le_trans Hc.size Y.size,λq hq hne=>(Y.block q (Ut hq Hc.size) hne).trans (Hc.block q hq)⟩;have hz:=HZ.out;have J:=O.out;have A1:=HA.sm (Y.block _ oM (λe=>oI e)) Y.size;have R1:=HR.sm (Y.block _ oM (λe=>oI e)) Y.size;have Hm:=aC A1;have Hl:=aC R1;have Hd:=aC r1;have He:aA (w.1.size+2<=w1.1.size):=aC<|oH Y.size;have Hp:=aC<|HN.move (w':=w1) zL I.size (λq i b=>I.block q b (λe=>oI e));have Hk:aA (∀(v:Ur) {Z:Ur},w.grownBy v (Uq rb)->Z.1.size=v.1.size->(∀q,q≠w.1.size->q≠w.1.size+1->Z.1[q]? =v.1[q]?)->Rq.Ne ⟨p,S,D,a,c,x,d,M,c',x',d'⟩ Z E):=aC (λv Z g z hq=>HE.1.move (oH g.size) (λq i b=>(hq q oM oM).trans (g.block q i (λe=>b (by injection e with e;rw[e];exact HE.2.1)))));obtain⟨a0,a1,a2,a3,a4,af⟩:=A1.p5;obtain⟨p0,p1,p2,p3,p4,pf⟩:=R1.p5;clear r1 Y A1 R1 hz J Ho;obtain⟨H,Hv⟩:=zE (k%4:Nat);have e4:(k:Int)%4=(H:Int):=oM;have h4:H<4:=oM;obtain⟨K,Hu⟩:=zE (k/4:Nat);have f4:(k:Int)/4=(K:Int):=oM;have g4:K<64:=oM;clear Hv Hu;by_cases c0:H=0
 .have d0:((H:Int)==0)=true:=oS;have ew:IntKind.i64.wrap ((K:Int)-8)=(K:Int)-8:=cK _ oM oM;go_wp2_with fail;have Q:=(Hl.sm (zH w1 (Ub w.1.size) (Ud ((K:Int)-8)) (w.1.size+1) oQ) (by simp[Vr])).set5 (Ud ((K:Int)-8)) (Uf a S.l.length c) (Uf x S.n d) (Uf M D.l.length c')<|Uf x' D.n d';refine zF (v:=Uo #[Ud ((K:Int)-8),Uf a S.l.length c,Uf x S.n d,Uf M D.l.length c',Uf x' D.n d']) (by simp[results,results41,go_sem,Q.c0,Q.c1,Q.c2,Q.c3,Q.c4]) ?_;refine Ha w1 _ ⟨(K:Int)-8,S,D,a,c,x,d,M,c',x',d'⟩ _ I Hd (by simp only[Is]) (by simp only[Iq]) (by simp only[Ir]) (by simp[Vr]) (λq i b=>by rw[zH _ _ _ _ b,zH _ _ _ _ b,zH _ _ _ _ b,zH _ _ _ _ b,zH _ _ _ _ b,zH _ _ _ _ i]) ?_ ⟨L.1.gx,L.2.1.gx,by simp only;omega⟩;refine(fun(h:Rq.Ne ⟨p,S,D,a,c,x,d,M,c',x',d'⟩ _ E)=>⟨h.s,h.t⟩) ?_;refine Hk w1 I ?_ ?_
  .simp[Vr]
  .intro q i b;rw[mT _ b,zH _ _ _ _ i]
 .have d0:((H:Int)==0)=false:=oS;by_cases c1:H=1
  .have d1:((H:Int)==1)=true:=oS;have F:aA (Cl 71 #[Uk (Uc rb),Uo #[Uf a S.l.length c,Uf x S.n d]] w1 λe w'=>∃j m u y x5 X,e=Ui (Uo #[Uf j (Sx.l X).length m,Uf u (Sx.n X) y])/\aT w' w1.1.size j m u X/\Gx X/\cA w' B rb f n x5/\w1.grownBy w' (Uq rb)):=aC<|(Xd B rb lo f n _ a x c d S w1 Hd (oJ O I.size) L.1 Hp.s O.2.2.1).mono λe w' ⟨j,m,u,y,i,b,h3,h4⟩=>⟨j,m,u,y,_,_,i,b,Rf L.1 (Rj Hd),h3,h4⟩;exact Pj
  .have d1:((H:Int)==1)=false:=oS;by_cases c2:H=2
   .have d2:((H:Int)==2)=true:=oS;have F:aA (Cl 71 #[Uk (Uc rb),Uo #[Uf M D.l.length c',Uf x' D.n d']] w1 λe w'=>∃j m u y x5 X,e=Ui (Uo #[Uf j (Sx.l X).length m,Uf u (Sx.n X) y])/\aT w' w1.1.size j m u X/\Gx X/\cA w' B rb f n x5/\w1.grownBy w' (Uq rb)):=aC<|(Xd B rb lo f n _ M x' c' d' D w1 Hd (oJ O I.size) L.2.1 Hp.t O.2.2.1).mono λe w' ⟨j,m,u,y,i,b,h3,h4⟩=>⟨j,m,u,y,_,_,i,b,Rf L.2.1 (Rj Hd),h3,h4⟩;go_wp2_with fail;refine F.mono ?_;rintro e o⟨j,m,u,y,x5,X,rfl,s5,Hb,r5,A⟩;have T:=He.out;have J:=O.out;have N:=Hm.sm (A.block _ oM (λe=>oI e)) A.size;have U:=Hl.sm (A.block _ oM (λe=>oI e)) A.size;have C:=aC<|sW I A;have Hi:=aC s5;have Hf:=aC Hb;have Hh:=aC r5;have Hg:=aC U;have Hj:=aC A.size;clear a0 a1 a2 a3 a4 af p0 p1 p2 p3 p4 pf;obtain⟨a0,a1,a2,a3,a4,af⟩:=N.p5;obtain⟨p0,p1,p2,p3,p4,pf⟩:=U.p5;clear N U s5 Hb r5 A T J F;go_wp2_with fail;have G:∀(V:Ur) (u0 u1 u2 u3 u4 t1 t2:Value) (q:Nat),q≠w.1.size->q≠w.1.size+1->(((((((V.setCell (Ua w.1.size 3) t1).setCell (Ua w.1.size 4) t2).setCell (Ua (w.1.size+1) 0) u0).setCell (Ua (w.1.size+1) 1) u1).setCell (Ua (w.1.size+1) 2) u2).setCell (Ua (w.1.size+1) 3) u3).setCell (Ua (w.1.size+1) 4) u4).1[q]? =V.1[q]? :=λV u0 u1 u2 u3 u4 t1 t2 q i b=>by rw[mT _ b,zH _ _ _ _ i,zH _ _ _ _ i]
    have Q:=(Hg.sm (show((o.setCell (Ua w.1.size 3) (Uf j X.l.length m)).setCell (Ua w.1.size 4) (Uf u X.n y)).1[w.1.size+1]? =o.1[w.1.size+1]? from by rw[zH _ _ _ _ oQ,zH _ _ _ _ oQ]) (by simp[Vr])).set5 (Ud p) (Uf a S.l.length c) (Uf x S.n d) (Uf j X.l.length m)<|Uf u X.n y;refine zF (v:=Uo #[Ud p,Uf a S.l.length c,Uf x S.n d,Uf j X.l.length m,Uf u X.n y]) (by simp[results,results41,go_sem,Q.c0,Q.c1,Q.c2,Q.c3,Q.c4]) ?_;have T:=He.out;have J:=O.out;have Hr:=Hj.out;have hM:=Hk o (Z:=((((((o.setCell (Ua w.1.size 3) (Uf j X.l.length m)).setCell (Ua w.1.size 4) (Uf u X.n y)).setCell (Ua (w.1.size+1) 0) (Ud p)).setCell (Ua (w.1.size+1) 1) (Uf a S.l.length c)).setCell (Ua (w.1.size+1) 2) (Uf x S.n d)).setCell (Ua (w.1.size+1) 3) (Uf j X.l.length m)).setCell (Ua (w.1.size+1) 4) (Uf u X.n y)) C (by simp[Vr])<|G o _ _ _ _ _ _ _;have hX:=(Hi.move (w1:=((((((o.setCell (Ua w.1.size 3) (Uf j X.l.length m)).setCell (Ua w.1.size 4) (Uf u X.n y)).setCell (Ua (w.1.size+1) 0) (Ud p)).setCell (Ua (w.1.size+1) 1) (Uf a S.l.length c)).setCell (Ua (w.1.size+1) 2) (Uf x S.n d)).setCell (Ua (w.1.size+1) 3) (Uf j X.l.length m)).setCell (Ua (w.1.size+1) 4) (Uf u X.n y)) (lo':=w1.1.size) zL (by simp[Vr]) (λq i b=>G o _ _ _ _ _ _ _ q oM oM)).ne (E:=E)<|λq hq=> .inl (oH (HE.2.2 q hq));exact Ha o _ ⟨p,S,X,a,c,x,d,j,m,u,y⟩ _ C Hh (by simp only[Is]) (by simp only[Iq]) (by simp only[Ir]) (by simp[Vr]) (G o _ _ _ _ _ _ _) ⟨hM.s,hX⟩ ⟨L.1.gx,Hf,Hn⟩
   .have d2:((H:Int)==2)=false:=oS;obtain⟨t5,Hx⟩:=zE (K%5:Nat);have e5:(K:Int)%5=(t5:Int):=oM;obtain⟨m5,Ht⟩:=zE (5+t5:Nat);have e6:(5:Int)+(t5:Int)=(m5:Int):=oM;have F:aA (Cl 43 #[Ud (m5:Int)] w1 λe w'=>∃j m u y x5 X,e=Ui (Uo #[Uf j (Sx.l X).length m,Uf u (Sx.n X) y])/\aT w' w1.1.size j m u X/\Gx X/\cA w' B rb f n x5/\w1.grownBy w' (Uq rb)):=aC<|(P7 m5 oM w1).mono λe w' ⟨j,m,u,y,i,b,h3⟩=>⟨j,m,u,y,_,_,i,b,EO oM,Hd.bw (h3.mono (oJ O I.size)),⟨h3.os,h3.tape,h3.output,h3.size,λq i _=>h3.block q i⟩⟩;clear Hx Ht;exact Pj
theorem nN.less{E E':Nat->Prop}(h:nN w E a c x S)(hE:∀q,E' q->E q):nN w E' a c x S:=⟨λw' h1 h2=>h.nc w' h1 (λq h3 h4=>h2 q h3 (λe=>h4 (hE q e))),h.cp⟩
def BU(w:Ur)(B rb:Nat)(f:Nat->Int)(n:Nat)(e:Ending)(w':Ur):Prop:=∃(R:Rq) (x':Nat),e=Ui (.agg R.vs)/\R.Ne w' (λq=>q<w.1.size+1)/\R.sm/\cA w' B rb f n x'/\w.grownBy w' (Uq rb)
theorem RF(B rb:Nat)(f:Nat->Int)(n x:Nat)(w:Ur)(hB:B<=w.1.size)(h:cA w B rb f n x):Cl 18 #[Uk (Uc rb)] w (BU w B rb f n):=by
 obtain⟨P,hP⟩:=zE (BU w B rb f n);rw[hP];have HP:=aC hP;have Ho:=h.lt;have Ha:aA (∀(V:Ur) (R:Rq) (x':Nat) (v0 v1 v2 v3 v4:Value),R.Ne V (λq=>q<w.1.size+1)->R.sm->cA V B rb f n x'->w.grownBy V (Uq rb)->P (Ui (.agg R.vs)) (((((V.setCell (Ub w.1.size) v0).setCell (Ua w.1.size 1) v1).setCell (Ua w.1.size 2) v2).setCell (Ua w.1.size 3) v3).setCell (Ua w.1.size 4) v4)):=aC (λV R x' v0 v1 v2 v3 v4 p I hr g=>by
  rw[<-HP.out];have z:=B3 V w.1.size v0 v1 v2 v3 v4;have o:=Ia V w.1.size v0 v1 v2 v3 v4;exact⟨R,x',rfl,p.move oM (λq _ h2=>mT V oM _ _ _ _ _),I,hr.bw ⟨o.1,o.2.1,o.2.2,oM,λq h1=>mT V oM _ _ _ _ _⟩,⟨o.1.trans g.os,o.2.1.trans g.tape,o.2.2.trans g.output,oH g.size,λq h1 h2=>(mT V oM _ _ _ _ _).trans (g.block q h1 h2)⟩⟩)
 obtain⟨W,G⟩:=zE (w.alloc (Uj #[Ud 0,Ue,Ue,Ue,Ue] 30));have b0:Bl w W:=G▸zO _ _;have R0:kQ W w.1.size:=G▸aF.new _ _ _ _ _ _ _;have C:=aC<|jW B rb f n x W (h.bw (b0.mono hB));have Hq:=qA h;obtain⟨k,Hn⟩:=zE (rk f n x);rw[Hn]at C Hq;have F:=aC R0;have Hi:=aC b0;have r:=aC<|And.intro hB Ho;clear hP Hn h b0 R0 Ho;go_enter func18,ntmps18;go_wp2_with fail;try rw[G]
 clear G;refine C.mono ?_;rintro e w1⟨rfl,r1,g1⟩;have Hk:=aC g1;have j:aA (w.1.size<W.1.size/\W.1.size<=w1.1.size):=aC ⟨F.lt,g1.size⟩;have Hj:=aC<|NI B rb f n _ w1 (oH j) r1;clear r1 g1 C;go_wp2_with fail;refine Hj.mono ?_;rintro e i⟨⟨m,S,D,a,c,x,d,u,c',x',d'⟩,⟨jd,T,E,ja,jc,jx,jt,Hs,Ht,Hv,Hu⟩,x3,rfl,⟨n1,o1⟩,_,y,M⟩;simp only[Rq.vs];go_upto_region 3 with fail;obtain⟨U,Y⟩:=zE ((i.alloc (Uj #[Ud m,Uf a S.l.length c,Uf x S.n d,Uf u D.l.length c',Uf x' D.n d'] 30)).alloc (Uj #[Ud jd,Uf ja T.l.length jc,Uf jx T.n jt,Uf Hs E.l.length Ht,Uf Hv E.n Hu] 30));have b:Bl i U:=Y▸aU _ _ _;have K:aF U i.1.size (Ud m) (Uf a S.l.length c) (Uf x S.n d) (Uf u D.l.length c') (Uf x' D.n d'):=Y▸(aF.new _ _ _ _ _ _ _).up _;have Q:w1.grownBy U (Uq rb):=uX M b;have Hl:aA (w.grownBy U (Uq rb)):=aC<|AJ Hi (sW Hk Q);have H:=kD o1;have N:aA (Rq.Nw ⟨m,nS S,nS D,a,c,x,d,u,c',x',d'⟩ U w1.1.size):=aC<|Rq.Nw.move (w:=i) ⟨n1.s.nS,n1.t.nS⟩ zL b.size (λq _ h2=>b.block q h2);have A:aA (Dr (nS S)/\Dr (nS D)/\0<=m/\m<8):=aC ⟨Sq H.2.1,Sq H.2.2,H.1⟩;have Hm:=aC (y.bw (b.mono (by have:=r.out;have:=j.out;have:=M.size;omega)));have Hb:=aC (F.sm ((Q.block _ (oH j) (λe=>by injection e with e;have:=r.out;omega)).trans (Hk.block _ F.lt (λe=>by injection e with e;have:=r.out;omega))) (oJ j Q.size));have Hp:=aC K;have Hd:aA (w1.1.size<=i.1.size/\i.1.size<U.1.size):=aC ⟨M.size,K.lt⟩;try rw[Y]
 clear Y b K Q H n1 o1 y M Hj Hi;obtain⟨a0,a1,a2,a3,a4⟩:=Hp.q5;obtain⟨J,Hr⟩:=zE (k%6:Nat);have e6:(k:Int)%6=(J:Int):=oM;clear Hr;by_cases h5:J=5
 .have d5:((J:Int)==5)=true:=oS;have Hc:=aC (PO B rb w1.1.size f n x3 ⟨m,nS S,nS D,a,c,x,d,u,c',x',d'⟩ U (by have:=r.out;have:=j.out;have:=Hd.out;omega) Hm N A (oJ r j) (oH Hd) (λq=>q<w1.1.size) (N.ne λq hq=> .inl hq) (oJ r j) (λq hq=>oH Hd));simp only[Rq.vs,nS]at Hc;go_wp2_with fail;refine Hc.mono ?_;rintro e w4⟨⟨zd,X,Z,ya,yc,yx,yd,He,Hf,Hh,Hg⟩,x4,rfl,p,I,r4,O⟩;have R4:=Hb.sm (O.block _ Hb.lt (λe=>by injection e with e;have:=r.out;omega)) O.size;have L:=aC<|Ha w4 ⟨zd,X,Z,ya,yc,yx,yd,He,Hf,Hh,Hg⟩ x4 (Ud zd) (Uf ya X.l.length yc) (Uf yx X.n yd) (Uf He Z.l.length Hf) (Uf Hh Z.n Hg) ⟨p.s.less (λq hq=>oH j),p.t.less (λq hq=>oH j)⟩ I r4 (sW Hl O);obtain⟨r0,r1,r2,y,r5,rf⟩:=R4.p5;clear p I r4 O R4 a0 a1 a2 a3 a4 Hc;go_wp2_with fail;refine zF (v:=Uo #[Ud zd,Uf ya X.l.length yc,Uf yx X.n yd,Uf He Z.l.length Hf,Uf Hh Z.n Hg]) (by simp[results,results18,go_sem,r0,r1,r2,y,r5]) ?_;exact L
 .have d5:((J:Int)==5)=false:=oS;have L:=aC (Ha U ⟨m,nS S,nS D,a,c,x,d,u,c',x',d'⟩ x3 (Ud m) (Uf a S.l.length c) (Uf x S.n d) (Uf u D.l.length c') (Uf x' D.n d') (N.ne λq hq=> .inl (oH j)) ⟨A.1.gx,A.2.1.gx,by have:=A.2.2;simp only;omega⟩ Hm Hl);obtain⟨r0,r1,r2,y,r5,rf⟩:=Hb.p5;go_wp2_with fail;refine zF (v:=Uo #[Ud m,Uf a S.l.length c,Uf x S.n d,Uf u D.l.length c',Uf x' D.n d']) (by simp[results,results18,go_sem,r0,r1,r2,y,r5]) ?_;exact L
def BT(w:Ur)(e:Ending)(w':Ur):Prop:=∃(R:Rq) (K:Int) (pa:Option Us) (pc:Nat) (p:List ByteArray) (v:ByteArray),e=Ui (Ul #[.agg R.vs,Uo #[Ud K,Uf pa p.length pc,Um v]])/\(R.At w'/\R.sm)/\(p.length<=9/\v.size<=300)/\(p.length<=pc/\pc<=9223372036854775807)/\aV w' pa p/\Bl w w'
structure Ex(V Z:Ur)(z:Nat):Prop where
 sz:Z.1.size=V.1.size
 hp:∀q,¬q<z+2\/q<z->Z.1[q]? =V.1[q]?
 o:Z.os=V.os/\Z.tape=V.tape/\Z.output=V.output
theorem Cj(V:Ur):iO (V.alloc (Uj #[Um ⟨#[122,122]⟩] 9)) V.1.size (Uc V.1.size) 1 [⟨#[122,122]⟩]:=by
 obtain⟨m,q,j,k⟩:=(PR.lit1 V ⟨#[122,122]⟩).ptn zL;injection j with e1 e2 e3;subst e1 e3;exact k
theorem S7(V:Ur){q:Nat}(h:q≠z)(u0 u1 u2:Value):(((V.setCell (Ub z) u0).setCell (Ua z 1) u1).setCell (Ua z 2) u2).1[q]? =V.1[q]? :=by
 rw[zH _ _ _ _ h,zH _ _ _ _ h,zH _ _ _ _ h]
theorem Ce{k m:Value}(h1:kQ V z)(h2:aH V (z+1) o0 k m)(v0 v1 v2 v3 v4 u0 u1 u2:Value):∃j Z2,j=(((((V.setCell (Ub z) v0).setCell (Ua z 1) v1).setCell (Ua z 2) v2).setCell (Ua z 3) v3).setCell (Ua z 4) v4)/\Z2=((j.setCell (Ua (z+1) 0) u0).setCell (Ua (z+1) 1) u1).setCell (Ua (z+1) 2) u2/\aH j (z+1) o0 k m/\(∀q,q≠z->j.1[q]? =V.1[q]?)/\(∀q,q≠z->q≠z+1->Z2.1[q]? =V.1[q]?)/\(j.1.size=V.1.size/\Z2.1.size=V.1.size)/\aF Z2 z v0 v1 v2 v3 v4/\aH Z2 (z+1) u0 u1 u2/\Ex V Z2 z:=by
 obtain⟨j,t,i,r,v,k,m,o⟩:=Dn h1 v0 v1 v2 v3 v4;have y:=h2.sm3 (r _ oM) oM;have u:=λq hq=>S7 j (z:=z+1) (q:=q) hq u0 u1 u2;have g:(((j.setCell (Ua (z+1) 0) u0).setCell (Ua (z+1) 1) u1).setCell (Ua (z+1) 2) u2).1.size=j.1.size:=by simp[Vr]
 exact⟨j,_,t,rfl,y,r,λq h3 h4=>(u q h4).trans (r q h3),⟨v,g.trans v⟩,i.sm (u _ oM) oM,y.set u0 u1 u2,g.trans v,λq h=>(u q oM).trans (r q oM),(dU _ _ _).1.trans ((dU _ _ _).1.trans ((dU _ _ _).1.trans k)),(dU _ _ _).2.1.trans ((dU _ _ _).2.1.trans ((dU _ _ _).2.1.trans m)),(dU _ _ _).2.2.trans ((dU _ _ _).2.2.trans ((dU _ _ _).2.2.trans o))⟩
theorem MR{m r:Value}(h1:kQ V z)(h2:aH V (z+1) o0 m r)(v0 v1 v2 v3 v4 u0 u1 u2:Value)(o:Obj):∃j Y Z2,j=(((((V.setCell (Ub z) v0).setCell (Ua z 1) v1).setCell (Ua z 2) v2).setCell (Ua z 3) v3).setCell (Ua z 4) v4)/\Y=j.alloc o/\Z2=((Y.setCell (Ua (z+1) 0) u0).setCell (Ua (z+1) 1) u1).setCell (Ua (z+1) 2) u2/\aH Y (z+1) o0 m r/\(∀q,q≠z->j.1[q]? =V.1[q]?)/\(∀q,q<V.1.size->q≠z->Y.1[q]? =V.1[q]?)/\(∀q,q<V.1.size->q≠z->q≠z+1->Z2.1[q]? =V.1[q]?)/\(j.1.size=V.1.size/\Y.1.size=V.1.size+1/\Z2.1.size=V.1.size+1)/\aF Z2 z v0 v1 v2 v3 v4/\aH Z2 (z+1) u0 u1 u2/\Ex (V.alloc o) Z2 z:=by
 obtain⟨j,s,M,k,i,m,r,E⟩:=Dn h1 v0 v1 v2 v3 v4;have t:=(h2.sm3 (k _ oM) oM).up o;have w1:=M.up o;have Q:=h1.lt;have U:=h2.lt;have v:∀q,q<V.1.size->(j.alloc o).1[q]? =j.1[q]? :=λq hq=>Below.heap_alloc j o q oM;have b:∀q,q≠z->(j.alloc o).1[q]? =(V.alloc o).1[q]? :=λq hq=>by
  by_cases p:q<V.1.size
  .rw[v q p,k q hq,Below.heap_alloc V o q p]
  .simp only[World.alloc,Array.getElem?_push,i];split
   .rfl
   .exact k q hq
 have g:(j.alloc o).1.size=V.1.size+1:=by simp[i]
 have Z:(V.alloc o).1.size=V.1.size+1:=oP;have u:(j.alloc o).os=(V.alloc o).os/\(j.alloc o).tape=(V.alloc o).tape/\(j.alloc o).output=(V.alloc o).output:=⟨m,r,E⟩;generalize A:j.alloc o=Y at t w1 v b g u;have y:=λq hq=>S7 Y (z:=z+1) (q:=q) hq u0 u1 u2;have O:(((Y.setCell (Ua (z+1) 0) u0).setCell (Ua (z+1) 1) u1).setCell (Ua (z+1) 2) u2).1.size=Y.1.size:=by simp[Vr]
 exact⟨j,Y,_,s,A.symm,rfl,t,k,λq h3 h4=>(v q h3).trans (k q h4),λq h3 h4 h5=>(y q h5).trans ((v q h3).trans (k q h4)),⟨i,g,O.trans g⟩,w1.sm (y _ oM) oM,t.set u0 u1 u2,oM,λq h=>(y q oM).trans (b q oM),(dU _ _ _).1.trans ((dU _ _ _).1.trans ((dU _ _ _).1.trans u.1)),(dU _ _ _).2.1.trans ((dU _ _ _).2.1.trans ((dU _ _ _).2.1.trans u.2.1)),(dU _ _ _).2.2.trans ((dU _ _ _).2.2.trans ((dU _ _ _).2.2.trans u.2.2))⟩
theorem vZ{Q:Prop}(h:Q:=by go_wp2_with fail;obtain⟨E,I⟩:=Hm.out;refine zF (v:=Ul #[Uo #[Ud 1,Ue,Ue,Uf F X.l.length T,Uf yx X.n yd],Uo #[Ud 1,Uf (Uc J.1.size) 1 1,Um tv]]) (by simp[results,results4,go_sem,E.c0,E.c1,E.c2,E.c3,E.c4,I.c0,I.c1,I.c2]) ?_;exact HE):Q:=h
theorem MG(ca:Option Us)(cn cc:Nat)(cf:Nat->Int)(w:Ur)(hnc:cn<=cc)(hn:cn<=9223372036854775807)(h:bY w ca cn cf)(hf:dO cf):Cl 4 #[Uf ca cn cc] w (BT w):=by
 obtain⟨P,hP⟩:=zE (BT w);rw[hP];have HP:=aC hP;have Hg:aA (∀(V Z:Ur) (R:Rq) (K:Int) (N:Option Us) (pc:Nat) (p:List ByteArray) (v:ByteArray),Ex V Z w.1.size->R.Ne V (λq=>q<w.1.size+2)->R.sm->(p.length<=9/\v.size<=300)->iO V (w.1.size+2) N pc p->Bl w V->P (Ui (Ul #[.agg R.vs,Uo #[Ud K,Uf N p.length pc,Um v]])) Z):=aC (λV Z R K N pc p v e hN hs hb pt b=>by
  rw[<-HP.out];have z:=e.sz;exact⟨R,K,N,pc,p,v,rfl,⟨(hN.move oM (λk _ h2=>e.hp k (.inl h2))).at hs,hs⟩,hb,pt.cap,pt.seg _ oM (λk h1 _=>e.hp k (.inl oM)),⟨e.o.1.trans b.os,e.o.2.1.trans b.tape,e.o.2.2.trans b.output,oH b.size,λk hk=>(e.hp k (.inr hk)).trans (b.block k hk)⟩⟩)
 obtain⟨W,hW⟩:=zE ((w.alloc (Uj #[Ud 0,Ue,Ue,Ue,Ue] 30)).alloc (Uj #[Ud 0,Ue,Um ⟨#[]⟩] 33));have b0:Bl w W:=hW▸aU _ _ _;have zW:W.1.size=w.1.size+2:=hW▸oP;have R1:kQ W w.1.size:=hW▸(aF.new _ _ _ _ _ _ _).up _;have R2:aH W (w.1.size+1) (Ud 0) Ue (Um ⟨#[]⟩):=by
  rw[<-hW];simpa using aH.made (w.alloc (Uj #[Ud 0,Ue,Ue,Ue,Ue] 30)) (Ud 0) Ue (Um ⟨#[]⟩) 33
 have Gh:=aC R1;have Gi:=aC R2;have Gq:=aC b0;have HZ:=aC zW;have Gg:=aC<|MU ca cn cc cf W hnc hn (h.bw b0) hf;obtain⟨f,G2⟩:=zE cf;obtain⟨n,G5⟩:=zE (min cn 1000);rw[G2,G5]at Gg;clear hP b0 R1 R2 zW h G2 G5;go_enter func4,ntmps4;go_wp2_with fail;try rw[hW]
 clear hW;refine Gg.mono ?_;rintro e w1⟨rfl,r1,b1⟩;obtain⟨rb,Go⟩:=zE W.1.size;rw[Go]at r1⊢;have H9:=aC b1;have Gj:=aC Go;have Ge:=aC<|jW (rb+1) rb f n 0 w1 r1;have G3:rk f n 0<256:=qA r1;have Ke:=r1.lt;obtain⟨k0,G4⟩:=zE (rk f n 0);rw[G4]at Ge G3;clear G4 Go r1 b1 Gg;go_wp2_with fail;refine Ge.mono ?_;rintro e w2⟨rfl,r2,g2⟩;have Gv:=aC g2;have Hr:aA (rb+1<=w2.1.size):=aC<|oH g2.size;have Gt:=aC<|Nq (rb+1) rb f n _ w2 Hr r2;clear r2 g2 Ge;go_wp2_with fail;refine Gt.mono ?_;rintro e w3⟨K,N,pc,p,v,x3,rfl,_,⟨G6,Kf⟩,pt,r3,g3⟩;obtain⟨U3,H3⟩:=zE (w3.alloc (Uj #[Ud K,Uf N p.length pc,Um v] 33));have H2:Bl w3 U3:=H3▸zO _ _;have O3:aH U3 w3.1.size (Ud K) (Uf N p.length pc) (Um v):=H3▸aH.made _ _ _ _ _;have Gw:=aC<|uX g3 H2;have Gf:=aC O3;have G9:=aC pt;have Hv:=aC H2;have Hz:aA (w2.1.size<=w3.1.size/\w3.1.size<U3.1.size):=aC ⟨g3.size,O3.lt⟩;have Gy:aA (p.length<=9/\v.size<=300):=aC ⟨G6,oM⟩;have Gs:=aC<|RF (rb+1) rb f n x3 U3 (oJ Hr Hz) (r3.bw (H2.mono (oJ Hr Hz)));clear pt r3 g3 H2 O3 G6 Kf Gt;go_wp2_with fail;try rw[H3]
 clear H3;refine Gs.mono ?_;rintro e w4⟨⟨id,S,D,a,c,x,d,a',c',x',d'⟩,x4,rfl,hN,hs,r4,g4⟩;simp only[Rq.vs];go_upto_region 5 with fail;obtain⟨U,hU⟩:=zE (w4.alloc (Uj #[Ud id,Uf a S.l.length c,Uf x S.n d,Uf a' D.l.length c',Uf x' D.n d'] 30));have bU:Bl w4 U:=hU▸zO _ _;have A4:aF U w4.1.size (Ud id) (Uf a S.l.length c) (Uf x S.n d) (Uf a' D.l.length c') (Uf x' D.n d'):=hU▸aF.new _ _ _ _ _ _ _;try rw[hU]
 clear hU;have g5:=uX g4 bU;have Gb:aA (Bl W U):=aC (by
  have e:=Gj.out;have h2:=H9.grown Gv H9.size (λk e=>oI e);have h3:=h2.grown Gw h2.size (λk e=>oI e);exact h3.grown g5 h3.size (λk e=>oI e))
 obtain⟨y,H4⟩:=zE w3.1.size;obtain⟨ab,Gk⟩:=zE w4.1.size;have Ki:=aC H4;have Hi:aA (w.1.size+2<=y/\y<ab/\ab<U.1.size):=aC (by have:=HZ.out;have:=Gj.out;have:=Hr.out;have:=Hz.out;have:=g4.size;have:=A4.lt;omega);have H1:aA (aH U y (Ud K) (Uf N p.length pc) (Um v)):=aC (by
  rw[<-H4];exact Gf.sm3 (g5.block _ Gf.lt (λe=>by injection e with e;have:=Hr.out;have:=Hz.out;omega)) g5.size)
 have Gp:aA (aF U ab (Ud id) (Uf a S.l.length c) (Uf x S.n d) (Uf a' D.l.length c') (Uf x' D.n d')):=aC (Gk▸A4);have HV:aA (∀V:Ur,U.1.size<=V.1.size->(∀q,¬q<w.1.size+2->q≠y->q<U.1.size->V.1[q]? =U.1[q]?)->Rq.Ne ⟨id,S,D,a,c,x,d,a',c',x',d'⟩ V (λq=>q<w.1.size+2)/\iO V (w.1.size+2) N pc p):=aC (λV h1 h2=>by
  have z1:=HZ.out;have z2:=Gj.out;have z3:=Hr.out;have z4:=Hz.out;have z5:=g5.size;have z6:=bU.size;have z7:=Hi.out;have hM:Rq.Ne ⟨id,S,D,a,c,x,d,a',c',x',d'⟩ V (λq=>q<U3.1.size+1):=hN.move oM (λq h3 h4=>(h2 q oM oM oM).trans (bU.block q h3));exact⟨⟨hM.s.less (λq hq=>oM),hM.t.less (λq hq=>oM)⟩,G9.move oM oM (λq h3 h4=>(h2 q oM oM oM).trans ((g5.block q oM (λe=>oI e)).trans (Hv.block q h4)))⟩)
 have HS:=aC hs;have Gz:=aC<|Gh.bw Gb Gh.lt;have Gx:=aC<|Gi.bw Gb Gi.lt;have Gr:=aC<|aE Gq Gb;rw[H4,Gk];clear H4 Gk bU A4 g4 g5 hN hs r4 Gs Hv Gv Gw H9 Gq Gf Gh Gi Ke;obtain⟨Hd,Gn⟩:=zE (k0%16:Nat);have Kj:(k0:Int)%16=(Hd:Int):=oM;obtain⟨Hb,Gm⟩:=zE (k0/16:Nat);have Kk:(k0:Int)/16=(Hb:Int):=oM;have Kp:Hb<16:=oM;have ew:IntKind.i64.wrap ((Hb:Int)-4)=(Hb:Int)-4:=cK _ oM oM;clear Gn Gm G3;obtain⟨o0,o1,o2,of⟩:=H1.p3;go_upto_if 19 with fail;go_cut [6]from 17 to 23 (λv6 wx=>v6=Uk (Uc y)/\∃K',aA (aH wx y (Ud K') (Uf N p.length pc) (Um v)/\wx.1.size=U.1.size/\(∀q,q≠y->wx.1[q]? =U.1[q]?)/\Bl w wx));case first=>
  by_cases Ko:Hd=15
  .have Kd:((Hd:Int)==15)=true:=oS;have HM:aA (aH (U.setCell (Ub y) (Ud ((Hb:Int)-4))) y (Ud ((Hb:Int)-4)) (Uf N p.length pc) (Um v)/\(U.setCell (Ub y) (Ud ((Hb:Int)-4))).1.size=U.1.size/\(∀q,q≠y->(U.setCell (Ub y) (Ud ((Hb:Int)-4))).1[q]? =U.1[q]?)/\Bl w (U.setCell (Ub y) (Ud ((Hb:Int)-4)))):=aC ⟨H1.set0 _,by simp[Vr],λq hq=>zH _ _ _ _ hq,Gr.setCell (p:=(Ub y)) (by show w.1.size<=y;have:=Hi.out;omega) _⟩;go_wp2_with fail;go_meet;exact⟨rfl,_,HM⟩
  .have Kd:((Hd:Int)==15)=false:=oS;go_wp2_with fail;go_meet;exact⟨rfl,K,aC ⟨H1,rfl,λ_ _=>rfl,Gr⟩⟩
 case rest=>
 obtain⟨rfl,K',g⟩:=hcut;clear o0 o1 o2 of;obtain⟨o0,o1,o2,of⟩:=g.1.p3;go_upto_if 26 with fail;go_cut [6]from 24 to 27 (λv6 wx=>v6=Uk (Uc y)/\∃v',aA (aH wx y (Ud K') (Uf N p.length pc) (Um v')/\wx.1.size=U.1.size/\(∀q,q≠y->wx.1[q]? =U.1[q]?)/\Bl w wx/\v'.size<=300));case first=>
  by_cases Kn:Hd=14
  .have Kc:((Hd:Int)==14)=true:=oS;have HM:aA (aH (wc.setCell (Ua y 2) (Um ⟨#[120]⟩)) y (Ud K') (Uf N p.length pc) (Um ⟨#[120]⟩)/\(wc.setCell (Ua y 2) (Um ⟨#[120]⟩)).1.size=U.1.size/\(∀q,q≠y->(wc.setCell (Ua y 2) (Um ⟨#[120]⟩)).1[q]? =U.1[q]?)/\Bl w (wc.setCell (Ua y 2) (Um ⟨#[120]⟩))/\(⟨#[120]⟩:ByteArray).size<=300):=aC ⟨g.1.set2 _,by simpa[Vr]using g.2.1,λq hq=>(zH _ _ _ _ hq).trans (g.2.2.1 q hq),g.2.2.2.setCell (p:=(Ua y 2)) (by show w.1.size<=y;have:=Hi.out;omega) _,oD⟩;go_wp2_with fail;go_meet;exact⟨rfl,_,HM⟩
  .have Kc:((Hd:Int)==14)=false:=oS;go_wp2_with fail;go_meet;exact⟨rfl,v,aC ⟨g.1,g.2.1,g.2.2.1,g.2.2.2,Gy.2⟩⟩
 case rest=>
 clear g o0 o1 o2 of;obtain⟨rfl,v',g⟩:=hcut;have L:=aC<|Gz.sm (g.2.2.1 _ (oH Hi)) (oH g.2.1);have Hh:=aC<|Gx.sm3 (g.2.2.1 _ (oH Hi)) (oH g.2.1);have G7:=aC<|Gp.sm (g.2.2.1 _ (oH Hi)) (oH g.2.1);clear Gz Gx Gp H1;by_cases Km:Hd=13
 .have Kb:((Hd:Int)==13)=true:=oS;have Hw:=aC<|Tf 0 oM wc;go_wp2_with fail;refine Hw.mono ?_;rintro e B⟨⟨zd,X,Z,F,T,yx,yd,H5,H6,H8,H7⟩,rfl,n5,s5,b5⟩;simp only[Rq.vs];obtain⟨w6,h6⟩:=zE (B.alloc (Uj #[Um ⟨#[122,122]⟩] 9));have b6:Bl B w6:=h6▸zO _ _;have p6:iO w6 B.1.size (Uc B.1.size) 1 [⟨#[122,122]⟩]:=h6▸Cj B;obtain⟨m,hm⟩:=zE (27+Hb:Nat);have em:(27:Int)+(Hb:Int)=(m:Int):=oM;have Ho:=aC<|qI ⟨#[118]⟩ m w6 oD oM;have Hp:(eL (gF ⟨#[118]⟩ m)).size<=300:=by rw[uH,yR];show m*1<=300;omega
  obtain⟨tv,H0⟩:=zE (eL (gF ⟨#[118]⟩ m));rw[H0]at Ho Hp;have Gc:=aC n5;have Hx:=aC s5;have Ha:=aC b5;have Ga:=aC b6;have G8:=aC p6;have Hy:=aC Hp;clear n5 s5 b5 b6 p6 hm H0 Hp Hw;go_wp2_with fail;try rw[h6]
  clear h6;refine Ho.mono ?_;rintro e J⟨rfl,b7⟩;have H:=aE Ha<|aE Ga b7;obtain⟨Z1,Z2,e1,e2,Y1,q1,q2,Hj,X2,Y2,Hc⟩:=Ce (L.bw H L.lt) (Hh.bw H Hh.lt) (Ud zd) (Uf F X.l.length T) (Uf yx X.n yd) (Uf H5 Z.l.length H6) (Uf H8 Z.n H7) (Ud 1) (Uf (Uc B.1.size) 1 1) (Um tv);have HE:=aC (Hg J Z2 ⟨zd,X,Z,F,T,yx,yd,H5,H6,H8,H7⟩ 1 (Uc B.1.size) 1 [⟨#[122,122]⟩] tv Hc ((Rq.Nw.move (w:=B) Gc zL (aE Ga b7).size (λq _ h2=>(aE Ga b7).block q h2)).ne (λq hq=> .inl (oJ g.2.1 Hi))) Hx ⟨oP,Hy⟩ ((G8.bw b7).move (by have:=g.2.1;have:=Hi.out;have:=Ha.size;omega) zL (λ_ _ _=>rfl)) (aE g.2.2.2.1 H));have R7:=L.bw H L.lt;obtain⟨x0,x1,x2,x3,x4,xf⟩:=R7.p5;obtain⟨y0,y1,y2,yf⟩:=Y1.p3;have Hm:=aC<|And.intro X2 Y2;subst e1;clear Y1 q1 q2 Hj X2 Y2 Hc H b7 Ho R7;go_wp2_with fail;rw[<-e2];obtain⟨E,I⟩:=Hm.out;refine zF (v:=Ul #[Uo #[Ud zd,Uf F X.l.length T,Uf yx X.n yd,Uf H5 Z.l.length H6,Uf H8 Z.n H7],Uo #[Ud 1,Uf (Uc B.1.size) 1 1,Um tv]]) (by simp[results,results4,go_sem,E.c0,E.c1,E.c2,E.c3,E.c4,I.c0,I.c1,I.c2]) ?_;exact HE
 .have Kb:((Hd:Int)==13)=false:=oS;by_cases Kl:Hd=12
  .have Ka:((Hd:Int)==12)=true:=oS;have Hw:=aC (Tf 0 oM wc);go_wp2_with fail;refine Hw.mono ?_;rintro e B⟨⟨zd,X,Z,F,T,yx,yd,H5,H6,H8,H7⟩,rfl,n5,s5,b5⟩;simp only[Rq.vs];obtain⟨V5,h5⟩:=zE (B.alloc (Uj #[Ud 1,Ue,Ue,Uf F X.l.length T,Uf yx X.n yd] 30));have bV:Bl B V5:=h5▸zO _ _;have M5:aF V5 B.1.size (Ud 1) Ue Ue (Uf F X.l.length T) (Uf yx X.n yd):=h5▸aF.new _ _ _ _ _ _ _;obtain⟨m,hm⟩:=zE (24+Hb:Nat);have ev:IntKind.i64.wrap (Hb:Int)=(Hb:Int):=cK _ oM oM;have em:IntKind.i64.wrap ((24:Int)+(Hb:Int))=(m:Int):=(by rw[cK _ oM oM];omega);have Ho:=aC (λu=>qI ⟨#[118]⟩ m u oD oM);have Hp:(eL (gF ⟨#[118]⟩ m)).size<=300:=(by rw[uH,yR];show m*1<=300;omega);obtain⟨tv,H0⟩:=zE (eL (gF ⟨#[118]⟩ m));rw[H0]at Ho Hp;have Gc:=aC n5;have Hx:=aC s5;have Ha:=aC b5;have Hq:=aC bV;have Hk:=aC M5;have Hy:=aC Hp;have Hl:aA (∀u,Bl V5 u->(u.cell? (Ub B.1.size)=Uq (Ud 1)/\u.cell? (Ua B.1.size 1)=Uq Ue/\u.cell? (Ua B.1.size 2)=Uq Ue/\u.cell? (Ua B.1.size 3)=Uq (Uf F X.l.length T)/\u.cell? (Ua B.1.size 4)=Uq (Uf yx X.n yd))):=aC (λu hu=>by
    have M:=Hk.bw hu Hk.lt;exact⟨M.c0,M.c1,M.c2,M.c3,M.c4⟩)
   clear n5 s5 b5 bV M5 hm H0 Hp Hw;go_wp2_with fail;try rw[h5]
   clear h5;refine zS Hl<|λqh=>?_;refine tZ 0 48 ?_;refine tZ 2 50 ?_;refine tZ 3 51 ?_;refine tZ 4 52 ?_;have zz:=g.2.1;have z4:=Hi.out;have z5:=Ha.size;have z6:=Hk.lt;have Gd:aA (∀V,Bl V5 V->Rq.Ne ⟨1,Sx.mt,X,Up,0,Up,0,F,T,yx,yd⟩ V (λq=>q<w.1.size+2)):=aC<|λV hV=>Rq.Nw.ne (lo:=wc.1.size) ⟨aT.mtC _ _ _ _,Gc.s.move zL (aE Hq hV).size (λq _ h2=>(aE Hq hV).block q h2)⟩ (λq hq=> .inl oM);refine fU (i:=1) (j:=5) (d:=Uq 49) (d':=Uq 53) oK oK oK ?_ ?_
   all_goals skip;intro o ho Gl K r;simp only[eB,dZ,dY,eU]at ho;subst ho;go_simp
   .obtain⟨w6,h6⟩:=zE ((V5.alloc (Uj #[Um ⟨#[122,122]⟩] 9)).drew);have b6:Bl V5 w6:=h6▸(zO _ _).drew;have p6:iO w6 V5.1.size (Uc V5.1.size) 1 [⟨#[122,122]⟩]:=h6▸(Cj V5).bw zI.drew;rw[h6];clear h6;refine r.out _ _ (Hl _ b6)<|λqh=>?_;clear r K;try simp only[zP]
    refine cZ 5 ?_;intro K r;go_simp;refine(Ho _).mono ?_;rintro e J⟨rfl,b7⟩;have C:=aE b6 b7;refine r.out _ _ (Hl _ C)<|λqh=>?_;clear r K;try simp only[zP]
    refine tZ 6 54 ?_;have H:=aE Ha<|aE Hq C;have z7:=C.size;obtain⟨Z1,Z2,e1,e2,Y1,q1,q2,Hj,X2,Y2,Hc⟩:=Ce (L.bw H L.lt) (Hh.bw H Hh.lt) (Ud 1) Ue Ue (Uf F X.l.length T) (Uf yx X.n yd) (Ud 1) (Uf (Uc V5.1.size) 1 1) (Um tv);have HE:=aC<|Hg J Z2 ⟨1,Sx.mt,X,Up,0,Up,0,F,T,yx,yd⟩ 1 (Uc V5.1.size) 1 [⟨#[122,122]⟩] tv Hc (Gd J C) ⟨Bk,Hx.s,oP⟩ ⟨oP,Hy⟩ ((p6.bw b7).move oM zL (λ_ _ _=>rfl)) (aE g.2.2.2.1 H);have R7:=L.bw H L.lt;have M7:=Hk.bw C Hk.lt;have Q:=M7.sm (q1 _ oM) oM;have G:=M7.sm (q2 _ oM oM) oM;obtain⟨x0,x1,x2,x3,x4,xf⟩:=R7.p5;have Hm:=aC<|And.intro X2 Y2;have He:=aC e1;have Hf:=aC e2;clear e1 e2 M7 R7 X2 Y2 q1 q2 Hj Hc;refine cZ 7 ?_;intro K r;go_simp;rw[<-He.out];refine r.out _ _ ⟨Q.c0,Q.c1,Q.c2,Q.c3,Q.c4⟩<|λqh=>?_;clear r K;try simp only[zP]
    clear x0 x1 x2 x3 x4 xf;obtain⟨y0,y1,y2,yf⟩:=Y1.p3;refine cZ 8 ?_;intro K r;go_simp;rw[<-Hf.out];refine r.out _ _ ⟨G.c0,G.c1,G.c2,G.c3,G.c4⟩<|λqh=>?_;clear r K;try simp only[zP]
    refine zD ?_;clear y0 y1 y2 yf qh Q G Y1 He Hf p6 C H b6 b7;go_wp2_with fail;obtain⟨E,I⟩:=Hm.out;refine zF (v:=Ul #[Uo #[Ud 1,Ue,Ue,Uf F X.l.length T,Uf yx X.n yd],Uo #[Ud 1,Uf (Uc V5.1.size) 1 1,Um tv]]) (by simp[results,results4,go_sem,E.c0,E.c1,E.c2,E.c3,E.c4,I.c0,I.c1,I.c2]) ?_;exact HE
   .obtain⟨z0,Hn⟩:=zE V5.drew;have Hs:Bl V5 z0:=Hn▸zI.drew;rw[Hn];clear Hn;refine(Ho _).mono ?_;rintro e J⟨rfl,b7⟩;have Ht:=aE Hs b7;have z8:=Ht.size;refine r.out _ _ (Hl _ Ht)<|λqh=>?_;clear r K;try simp only[zP]
    refine fU (i:=1) (j:=7) (d:=Uq 49) (d':=Up) oK oK oK ?_ ?_
    all_goals skip;intro o ho Gl K r;simp only[eB,dZ,dY,eU]at ho;subst ho
    focus
     go_simp;obtain⟨w8,h6⟩:=zE ((J.alloc (Uj #[Um ⟨#[122,122]⟩] 9)));have b6:Bl J w8:=h6▸(zO _ _);have p6:iO w8 J.1.size (Uc J.1.size) 1 [⟨#[122,122]⟩]:=h6▸Cj J;rw[h6];clear h6;have C:=aE Ht b6;refine r.out _ _ (Hl _ C)<|λqh=>?_;clear r K;try simp only[zP]
     refine tZ 6 54 ?_;have H:=aE Ha<|aE Hq C;have z7:=C.size;obtain⟨Z1,Z2,e1,e2,Y1,q1,q2,Hj,X2,Y2,Hc⟩:=Ce (L.bw H L.lt) (Hh.bw H Hh.lt) (Ud 1) Ue Ue (Uf F X.l.length T) (Uf yx X.n yd) (Ud 1) (Uf (Uc J.1.size) 1 1) (Um tv);have HE:=aC<|Hg w8 Z2 ⟨1,Sx.mt,X,Up,0,Up,0,F,T,yx,yd⟩ 1 (Uc J.1.size) 1 [⟨#[122,122]⟩] tv Hc (Gd w8 C) ⟨Bk,Hx.s,oP⟩ ⟨oP,Hy⟩ (p6.move oM zL (λ_ _ _=>rfl)) (aE g.2.2.2.1 H);have R7:=L.bw H L.lt;have M7:=Hk.bw C Hk.lt;have Q:=M7.sm (q1 _ oM) oM;have G:=M7.sm (q2 _ oM oM) oM
    rotate_left;have H:=aE Ha<|aE Hq Ht;obtain⟨Z1,Y,Z2,e1,e2,e3,Y1,q1,qY,q2,Hj,X2,Y2,Hc⟩:=MR (L.bw H L.lt) (Hh.bw H Hh.lt) (Ud 1) Ue Ue (Uf F X.l.length T) (Uf yx X.n yd) (Ud 1) (Uf (Uc J.1.size) 1 1) (Um tv) (Uj #[Um ⟨#[122,122]⟩] 9);have C:Bl V5 (J.alloc (Uj #[Um ⟨#[122,122]⟩] 9)):=aE Ht<|zO _ _;have HE:=aC<|Hg _ Z2 ⟨1,Sx.mt,X,Up,0,Up,0,F,T,yx,yd⟩ 1 (Uc J.1.size) 1 [⟨#[122,122]⟩] tv Hc (Gd _ C) ⟨Bk,Hx.s,oP⟩ ⟨oP,Hy⟩ ((Cj J).move oM zL (λ_ _ _=>rfl)) (aE g.2.2.2.1 (aE Ha (aE Hq C)));have R7:=L.bw H L.lt;have M7:=Hk.bw Ht Hk.lt;have Q:=M7.sm (q1 _ oM) oM;have NY:=M7.sm (qY _ oM oM) oM;have G:=M7.sm (q2 _ oM oM oM) oM;rotate_left
    all_goals obtain⟨x0,x1,x2,x3,x4,xf⟩:=R7.p5;have Hm:=aC<|And.intro X2 Y2;have He:=aC e1;have Hf:=aC e2
    clear e1 e2 M7 R7 X2 Y2 q1 q2 Hj Hc;refine cZ 7 ?_;intro K r;rotate_left;have Gu:=aC e3;have Kg:Z1.1.size=J.1.size:=Hj.1;clear e1 e2 e3 M7 R7 X2 Y2 q1 qY q2 Hj Hc C;rotate_left
    all_goals
     go_simp;rw[<-He.out];refine r.out _ _ ⟨Q.c0,Q.c1,Q.c2,Q.c3,Q.c4⟩<|λqh=>?_;clear r K;try simp only[zP]
     clear x0 x1 x2 x3 x4 xf
    rotate_left
    focus
     refine cZ 1 ?_;intro K r;go_simp;rw[<-Hf.out];clear Kg;refine r.out _ _ ⟨NY.c0,NY.c1,NY.c2,NY.c3,NY.c4⟩<|λqh=>?_;clear r K;try simp only[zP]
     refine tZ 6 54 ?_
    rotate_left
    all_goals obtain⟨y0,y1,y2,yf⟩:=Y1.p3;refine cZ 8 ?_;intro K r;go_simp
    rw[<-Hf.out];rotate_left;rw[<-Gu.out];rotate_left
    all_goals
     refine r.out _ _ ⟨G.c0,G.c1,G.c2,G.c3,G.c4⟩<|λqh=>?_;clear r K;try simp only[zP]
     refine zD ?_
    .clear y0 y1 y2 yf qh Q G Y1 He Hf p6 C H b6 b7;exact vZ
    .clear y0 y1 y2 yf qh Q NY G Y1 He Hf Gu H b7;exact vZ
  .have Ka:((Hd:Int)==12)=false:=oS;have Hl:aA (∀u:Ur,u.1[ab]? =wc.1[ab]?->u.1[y]? =wc.1[y]?->wc.1.size<=u.1.size->((u.cell? (Ub ab)=Uq (Ud id)/\u.cell? (Ua ab 1)=Uq (Uf a S.l.length c)/\u.cell? (Ua ab 2)=Uq (Uf x S.n d)/\u.cell? (Ua ab 3)=Uq (Uf a' D.l.length c')/\u.cell? (Ua ab 4)=Uq (Uf x' D.n d'))/\u.cell? (Ub y)=Uq (Ud K')/\u.cell? (Ua y 1)=Uq (Uf N p.length pc)/\u.cell? (Ua y 2)=Uq (Um v'))):=aC (λu h1 h2 h3=>by
    have A:=G7.sm h1 h3;have O:=g.1.sm3 h2 h3;exact⟨⟨A.c0,A.c1,A.c2,A.c3,A.c4⟩,O.c0,O.c1,O.c2⟩)
   go_wp2_with fail;refine zR (S:=λu=>(u.cell? (Ub ab)=Uq (Ud id)/\u.cell? (Ua ab 1)=Uq (Uf a S.l.length c)/\u.cell? (Ua ab 2)=Uq (Uf x S.n d)/\u.cell? (Ua ab 3)=Uq (Uf a' D.l.length c')/\u.cell? (Ua ab 4)=Uq (Uf x' D.n d'))/\u.cell? (Ub y)=Uq (Ud K')/\u.cell? (Ua y 1)=Uq (Uf N p.length pc)/\u.cell? (Ua y 2)=Uq (Um v')) (Hl _ rfl rfl zL)<|λqh=>?_;refine tZ 0 55 ?_;refine tZ 1 56 ?_;obtain⟨z0,Hn⟩:=zE wc.drew;have Hs:Bl wc z0:=Hn▸zI.drew;have Kh:z0.1.size=wc.1.size:=(by rw[<-Hn];rfl);have Hu:z0.heap=wc.heap:=(by rw[<-Hn];rfl);rw[Hn];clear Hn;have R7:=L.bw Hs L.lt;obtain⟨Z1,Z2,e1,e2,Y1,q1,q2,Hj,X2,Y2,Hc⟩:=Ce R7 (Hh.bw Hs Hh.lt) (Ud id) (Uf a S.l.length c) (Uf x S.n d) (Uf a' D.l.length c') (Uf x' D.n d') (Ud K') (Uf N p.length pc) (Um v');have zz:=g.2.1;have z4:=Hi.out;obtain⟨G0,G1⟩:=HV z0 oM (λq h1 h2 h3=>by rw[Hu];exact g.2.2.1 q h2);have HE:=aC<|Hg z0 Z2 ⟨id,S,D,a,c,x,d,a',c',x',d'⟩ K' N pc p v' Hc G0 HS ⟨Gy.1,g.2.2.2.2⟩ G1 (aE g.2.2.2.1 Hs);have Q:=Hl Z1 (by rw[q1 _ oM,Hu]) (by rw[q1 _ oM,Hu]) oM;have G:=Hl Z2 (by rw[q2 _ oM oM,Hu]) (by rw[q2 _ oM oM,Hu]) oM;obtain⟨x0,x1,x2,x3,x4,xf⟩:=R7.p5;have Hm:=aC<|And.intro X2 Y2;have He:=aC e1;have Hf:=aC e2;clear e1 e2 R7 X2 Y2 q1 q2 Hj Hc G0 G1 Hu Kh;refine cZ 2 ?_;intro K r;go_simp;rw[<-He.out];refine r.out _ _ Q<|λqh=>?_;clear r K;try simp only[zP]
   clear x0 x1 x2 x3 x4 xf;obtain⟨y0,y1,y2,yf⟩:=Y1.p3;refine cZ 3 ?_;intro K r;go_simp;rw[<-Hf.out];refine r.out _ _ G<|λqh=>?_;clear r K;try simp only[zP]
   refine zD ?_;clear y0 y1 y2 yf qh Q G Y1 He Hf Hs;go_wp2_with fail;obtain⟨E,I⟩:=Hm.out;refine zF (v:=Ul #[Uo #[Ud id,Uf a S.l.length c,Uf x S.n d,Uf a' D.l.length c',Uf x' D.n d'],Uo #[Ud K',Uf N p.length pc,Um v']]) (by simp[results,results4,go_sem,E.c0,E.c1,E.c2,E.c3,E.c4,I.c0,I.c1,I.c2]) ?_;exact HE
open Go.Maps
theorem EP{x:Lf}:x=y↔aY x y=0/\x.v=y.v:=by
 rw[Ig];constructor
 .rintro rfl;exact⟨rfl,rfl⟩
 .rintro⟨u,r⟩;obtain⟨j,k,m,q⟩:=U6 u;obtain⟨z,h,g,t,o⟩:=x;obtain⟨i,b,p,s,A⟩:=y;dsimp only at j k m q r;subst j;subst k;subst m;subst q;subst r;rfl
theorem Sn{m:List Lf}(hl:l.length=m.length)(h:∀i,i<l.length->gL l i=gL m i):l=m:=by
 refine List.ext_getElem hl λi h1 h2=>?_;have:=h i h1;simpa[gL,List.getD,h1,h2]using this
theorem SL(a a':Option Us)(c c':Nat)(p p':List ByteArray)(fl fl':Bool)(r q r' q':Int)(v v':ByteArray)(w:Ur)(hn:p.length<=1048576)(hn':p'.length<=1048576)(h:aV w a p)(h':aV w a' p'):
  Cl 62 #[Uo #[Uf a p.length c,Un fl,Ud r,Ud q,Um v],Uo #[Uf a' p'.length c',Un fl',Ud r',Ud q',Um v']] w (Rt w (Un (yes ((⟨p,fl,r,q,v⟩:Lf)=⟨p',fl',r',q',v'⟩)))):=by
 obtain⟨W,y⟩:=zE ((w.alloc (Uj #[Uf a p.length c,Un fl,Ud r,Ud q,Um v] 101)).alloc (Uj #[Uf a' p'.length c',Un fl',Ud r',Ud q',Um v'] 101));have g:Bl w W:=y▸aU _ _ _;have b:aF W w.1.size (Uf a p.length c) (Un fl) (Ud r) (Ud q) (Um v):=y▸(aF.new _ _ _ _ _ _ _).up _;have s:aF W (w.1.size+1) (Uf a' p'.length c') (Un fl') (Ud r') (Ud q') (Um v'):=by
  rw[<-y];simpa using aF.new (w.alloc (Uj #[Uf a p.length c,Un fl,Ud r,Ud q,Um v] 101)) (Uf a' p'.length c') (Un fl') (Ud r') (Ud q') (Um v') 101
 have i:=aC (AW a a' c c' p p' fl fl' r q r' q' v v' W hn hn' (h.bw g) (h'.bw g));have M:=aC g;have O:=aC b;have Q:=aC s;obtain⟨Y,Z,G,H,I⟩:=b.q5;obtain⟨J,K,L,N,X⟩:=s.q5;have k:aA (yes ((⟨p,fl,r,q,v⟩:Lf)=⟨p',fl',r',q',v'⟩)=true↔aY ⟨p,fl,r,q,v⟩ ⟨p',fl',r',q',v'⟩=0/\v=v'):=aC (by
  rw[<-show((⟨p,fl,r,q,v⟩:Lf)=⟨p',fl',r',q',v'⟩↔aY ⟨p,fl,r,q,v⟩ ⟨p',fl',r',q',v'⟩=0/\v=v')from EP];exact⟨λe=>Classical.byContradiction (λhn=>by rw[aJ hn]at e;cases e),λe=>aN e⟩)
 obtain⟨B,A⟩:=zE (yes ((⟨p,fl,r,q,v⟩:Lf)=⟨p',fl',r',q',v'⟩));obtain⟨x,E⟩:=zE (aY ⟨p,fl,r,q,v⟩ ⟨p',fl',r',q',v'⟩);rw[A,E]at k;rw[E]at i;rw[A];clear g h h' A E b s;go_enter func62,ntmps62;go_wp2_with fail;try rw[y]
 clear y;refine i.mono ?_;rintro e w1⟨rfl,t⟩;have o:=aC (aE M t);have C:=(O.bw t O.lt).c4;have D:=(Q.bw t Q.lt).c4;have z:¬(x=0/\v=v')->aA (B=false):=λhn=>aC (by
  cases hb:B with
  |false=>rfl
  |true=>exact absurd (k.1 hb) hn)
 clear t Y Z G H I J K L N X i M;by_cases j:x=0
 .have U:(x==0)=true:=by simp[j]
  by_cases m:v=v';have V:(v.toList==v'.toList)=true:=(by simp[m]);have u:aA (B=true):=aC<|k.2 ⟨j,m⟩;rotate_left;have V:(v.toList==v'.toList)=false:=(by simpa using λh=>m (sO h));have u:=z<|λh=>m h.2;rotate_left
  all_goals clear k z j m;go_wp2_with fail;go_ret;exact⟨cG u.symm,o⟩
 .have U:(x==0)=false:=oU j;have u:=z<|λh=>j h.1;clear k z j;go_wp2_with fail;go_ret;exact⟨cG u.symm,o⟩
theorem ME(a a':Option Us)(c c':Nat)(l l':List Lf)(w:Ur)(hl:l.length<=1048576)(hl':l'.length<=1048576)(hp:iP l)(hp':iP l')(h:gA w a l)(h':gA w a' l'):
  Cl 61 #[Uf a l.length c,Uf a' l'.length c',.func (.func 62) #[] #[]] w (Rt w (Un (yes (l=l')))):=by
 obtain⟨B,D⟩:=zE (yes (l=l'));have G:=aC D;rw[D];clear D;by_cases Hb:l.length=l'.length
 .obtain⟨n,P⟩:=zE l.length;have R:l'.length=n:=oM;rw[P,R];have Hp:n<=1048576:=oM;have d0:((n:Int) !=(n:Int))=false:=oP;have m:=aC<|And.intro P R;have HL:=aC h;have Hk:=aC h';have HP:=aC hp;have Hm:=aC hp';clear h h' hp hp' Hb P R hl hl';go_enter func61,ntmps61;go_wp2_with fail;go_loopw [17] (λi wr=>∃j:Nat,j<=n/\i=Ud j/\aA (Bl w wr)/\aA (∀t,t<j->gL l t=gL l' t)) (λi _=>n-(intOf i).toNat);case atStart=>exact⟨0,UB _,rfl,aC zI,aC (λt ht=>oM)⟩
  case round=>
   obtain⟨j,hj,rfl,k,H⟩:=hrel;by_cases Ho:j<n
   .have i1:(0:Int)<=(j:Int):=VH _;have i2:(j:Int)<(n:Int):=oM;obtain⟨b,off,rfl,hb,Hi⟩:=(HL.bw k).resolve_left (oH m);obtain⟨W,pc,J,sg,K,L,N,X⟩:=Hi j (oH m);obtain⟨b',A,rfl,Hn,Ha⟩:=(Hk.bw k).resolve_left (oH m);obtain⟨Hc,Hd,M,Hj,O,Q,U,V⟩:=Ha j (oH m);have g:=aC<|λw1 (u:Bl wr w1)=>SL W Hc pc Hd (gL l j).p (gL l' j).p (gL l j).fl (gL l' j).fl (gL l j).r (gL l j).q (gL l' j).r (gL l' j).q (gL l j).v (gL l' j).v w1 (HP j) (Hm j) (sg.bw u) (Hj.bw u);obtain⟨y,Y⟩:=zE (gL l j);obtain⟨z,Z⟩:=zE (gL l' j);rw[Y]at J K L N X;rw[Z]at M O Q U V;rw[Y,Z]at g;have E:=aC<|And.intro Y Z;obtain⟨yp,yf,yr,yq,yv⟩:=y;obtain⟨zp,zf,zr,zq,zv⟩:=z;dsimp only at J K L N X M O Q U V g;obtain⟨C,F⟩:=zE (yes ((⟨yp,yf,yr,yq,yv⟩:Lf)=⟨zp,zf,zr,zq,zv⟩));have Hg:=aC F;rw[F]at g;obtain⟨w1,S⟩:=zE (wr.alloc (Uj #[Uf W yp.length pc,Un yf,Ud yr,Ud yq,Um yv] 101));have u:Bl wr w1:=S▸zO _ _;have Hh:aA (aF w1 wr.1.size (Uf W yp.length pc) (Un yf) (Ud yr) (Ud yq) (Um yv)):=aC<|S▸aF.new _ _ _ _ _ _ _;have q:=λo=>u.cell (p:=(Ua b' o)) Hn;have g0:=(q (A+j*5)).trans M;have g1:=(q (A+j*5+1)).trans O;have g2:=(q (A+j*5+2)).trans Q;have g3:=(q (A+j*5+3)).trans U;have g4:=(q (A+j*5+4)).trans V;obtain⟨w2,T⟩:=zE (w1.alloc (Uj #[Uf Hc zp.length Hd,Un zf,Ud zr,Ud zq,Um zv] 101));have I:Bl w1 w2:=T▸zO _ _;have X2:=Hh.bw I Hh.lt;have Y2:aF w2 w1.1.size (Uf Hc zp.length Hd) (Un zf) (Ud zr) (Ud zq) (Um zv):=T▸aF.new _ _ _ _ _ _ _;have He:=aC<|aE u I;obtain⟨x0,x1,x2,x3,x4⟩:=X2.q5;obtain⟨y0,y1,y2,y3,y4⟩:=Y2.q5;clear Y Z F Hi Ha sg Hj q M O Q U V u I X2 Y2;go_wp2_with fail;refine(g w2 He).mono ?_;rintro e w3⟨rfl,b3⟩;have Hf:=aC<|k.trans ((aE He b3).mono k.size);clear x0 x1 x2 x3 x4 y0 y1 y2 y3 y4 g0 g1 g2 g3 g4 J K L N X b3 g S T;cases C with
    |true=>
     have Hl:aA (∀t,t<j+1->gL l t=gL l' t):=aC (λt ht=>by
      by_cases e:t=j
      .rw[e,E.1,E.2];exact Classical.byContradiction λhn=>by have:=Hg.out;rw[aJ hn]at this;cases this
      .exact H t oM)
     clear H k;go_wp2_with fail;go_roundw;case rel=>exact⟨j+1,Ho,oN,Hf,Hl⟩
     case measure=>exact oE
    |false=>
     have s:aA (B=false):=aC (by
      rw[<-G.out];refine aJ λe=>?_;have:=Hg.out;rw[aN (by rw[<-E.1,<-E.2,e])]at this;cases this)
     go_wp2_with fail;go_ret;exact⟨cG s.symm,Hf⟩
   .obtain rfl:j=n:=oM;have s:aA (B=true):=aC (by rw[<-G.out];exact aN (Sn (oH m) (λi hi=>H.out i (oH m))));go_wp2_with fail;go_ret;exact⟨cG s.symm,k⟩
 .have d0:((l.length:Int) !=(l'.length:Int))=true:=oS;have s:aA (B=false):=aC (by rw[<-G.out];exact aJ (λe=>Hb (by rw[e])));go_enter func61,ntmps61;go_wp2_with fail;go_ret;exact⟨cG s.symm,zI⟩
theorem ET:prog.fieldsOf 103=match prog.underlying 103 with|some (.struct fs)=>fs|_=>#[]:=rfl
theorem SD:prog.stoodInHeld 103=false:=oK
theorem Rp(r f t r' f' t':Int)(w:Ur):(binOp .neq 103 (Uo #[Ud r,Ud f,Ud t]) (Uo #[Ud r',Ud f',Ud t'])).run prog w=.ok (Un (!(r==r'&&(f==f'&&t==t')))) w:=by
 rw[run_neq_struct,show(10000:Nat)=9999+1 from rfl,run_equalIn_agg _ _ _ _ _ oK SD,ET,underlying103];cases h1:(r==r')<;>cases h2:(f==f')<;>simp[Op.eqFields,go_sem,underlying3,h1,h2];by_cases j:t=t'<;>simp[j]
def Ei(n:Nat)(R F T:Nat->Int)(n':Nat)(R' F' T':Nat->Int):Prop:=n=n'/\∀i,i<n->R i=R' i/\F i=F' i/\T i=T' i
theorem MD(a a':Option Us)(c c' n n':Nat)(R F T R' F' T':Nat->Int)(w:Ur)(hl:n<=1048576)(hl':n'<=1048576)(h:bI w a n R F T)(h':bI w a' n' R' F' T'):
  Cl 63 #[Uf a n c,Uf a' n' c'] w (Rt w (Un (yes (Ei n R F T n' R' F' T')))):=by
 obtain⟨B,U⟩:=zE (yes (Ei n R F T n' R' F' T'));have Q:=aC U;rw[U];clear U;by_cases I:n=n'
 .subst I;have D:((n:Int) !=(n:Int))=false:=oP;have J:=aC h;have K:=aC h';clear h h' hl';go_enter func63,ntmps63;go_wp2_with fail;go_loopw [13] (λi wr=>∃j:Nat,j<=n/\i=Ud j/\aA (Bl w wr)/\aA (∀t,t<j->R t=R' t/\F t=F' t/\T t=T' t)) (λi _=>n-(intOf i).toNat);case atStart=>exact⟨0,UB _,rfl,aC zI,aC (λt z=>oM)⟩
  case round=>
   obtain⟨j,hj,rfl,v,V⟩:=hrel;by_cases A:j<n
   .have i1:(0:Int)<=(j:Int):=VH _;have i2:(j:Int)<(n:Int):=oM;obtain⟨b,o,rfl,H,N,X,C⟩:=(J.bw v).at A;obtain⟨b',o',rfl,Ha,P,S,W⟩:=(K.bw v).at A;obtain⟨r,E⟩:=zE (R j);obtain⟨f,p⟩:=zE (F j);obtain⟨t,z⟩:=zE (T j);obtain⟨r',M⟩:=zE (R' j);obtain⟨f',s⟩:=zE (F' j);obtain⟨q,O⟩:=zE (T' j);rw[E]at N;rw[p]at X;rw[z]at C;rw[M]at P;rw[s]at S;rw[O]at W;have Y:=aC (And.intro (And.intro E (And.intro p z)) (And.intro M (And.intro s O)));have Z:∀w:Ur,(binOp .neq 103 (Uo #[Ud r,Ud f,Ud t]) (Uo #[Ud r',Ud f',Ud q])).run prog w=.ok (Un (!(r==r'&&(f==f'&&t==q)))) w:=λw=>Rp r f t r' f' q w;by_cases m:r=r'/\f=f'/\t=q;have g:(!(r==r'&&(f==f'&&t==q)))=false:=(by simp[m.1,m.2.1,m.2.2]);rw[g]at Z;have L:aA (∀u,u<j+1->R u=R' u/\F u=F' u/\T u=T' u):=aC (λu hu=>by
     by_cases e:u=j
     .have k:=Y.out;rw[e,k.1.1,k.1.2.1,k.1.2.2,k.2.1,k.2.2.1,k.2.2.2];exact m
     .exact V u oM)
    rotate_left;have g:(!(r==r'&&(f==f'&&t==q)))=true:=by
     cases H:(r==r'&&(f==f'&&t==q))with
     |false=>rfl
     |true=>exact absurd (oU H) m
    rw[g]at Z;have y:aA (B=false):=aC (by
     rw[<-Q.out];refine aJ λe=>m ?_;have k:=Y.out;have G:=e.2 j A;rw[k.1.1,k.1.2.1,k.1.2.2,k.2.1,k.2.2.1,k.2.2.2]at G;exact G)
    rotate_left
    all_goals clear m g E p z M s O;go_wp2_with fail;go_region;go_wp2_with fail
    .go_roundw;case rel=>exact⟨j+1,A,oN,aC v.drew,L⟩
     case measure=>exact oE
    .go_ret;exact⟨cG y.symm,v.drew⟩
   .obtain rfl:j=n:=oM;have y:aA (B=true):=aC (by rw[<-Q.out];exact aN ⟨rfl,V⟩);go_wp2_with fail;go_ret;exact⟨cG y.symm,v⟩
 .have D:((n:Int) !=(n':Int))=true:=oS;have y:aA (B=false):=aC (by rw[<-Q.out];exact aJ (λe=>I e.1));go_enter func63,ntmps63;go_wp2_with fail;go_ret;exact⟨cG y.symm,zI⟩
theorem AG(a x a' x':Option Us)(c d c' d':Nat)(A A':Sx)(w:Ur)(hm:A.Sm)(hm':A'.Sm)(h:cX w a x A)(h':cX w a' x' A'):
  Cl 33 #[Uo #[Uf a A.l.length c,Uf x A.n d],Uo #[Uf a' A'.l.length c',Uf x' A'.n d']] w (Rt w (Un (yes (bS A A')))):=by
 obtain⟨W,q⟩:=zE ((w.alloc (Uj #[Uf a A.l.length c,Uf x A.n d] 28)).alloc (Uj #[Uf a' A'.l.length c',Uf x' A'.n d'] 28));have k:Bl w W:=q▸aU _ _ _;have y:aD W w.1.size (Uf a A.l.length c) (Uf x A.n d):=q▸(aD.made w _ _ _).allocs _;have z:aD W (w.1.size+1) (Uf a' A'.l.length c') (Uf x' A'.n d'):=by rw[<-q];simpa using aD.made (w.alloc (Uj #[Uf a A.l.length c,Uf x A.n d] 28)) (Uf a' A'.l.length c') (Uf x' A'.n d') 28
 have s:=aC (ME a a' c c' A.l A'.l W hm.l1 hm'.l1 hm.p1 hm'.p1 (h.bw k).lf (h'.bw k).lf);have E:=aC (λw1 (j:Bl W w1)=>MD x x' d d' A.n A'.n A.R A.F A.T A'.R A'.F A'.T w1 hm.n1 hm'.n1 ((h.bw k).bw j).rn ((h'.bw k).bw j).rn);have V:=aC k;have M:=aC y;have O:=aC z;obtain⟨G,H⟩:=y.q2;obtain⟨I,U⟩:=z.q2;obtain⟨B,g⟩:=zE (yes (bS A A'));obtain⟨i,t⟩:=zE (yes (A.l=A'.l));obtain⟨b,o⟩:=zE (yes (Ei A.n A.R A.F A.T A'.n A'.R A'.F A'.T));have r:aA (B=(i&&b)):=aC (by
  rw[<-g,<-t,<-o];by_cases m:A.l=A'.l
  .by_cases u:Ei A.n A.R A.F A.T A'.n A'.R A'.F A'.T
   .rw[aN m,aN u,aN (show bS A A' from⟨m,u⟩)];rfl
   .rw[aN m,aJ u,aJ (λe:bS A A'=>u e.2)];rfl
  .rw[aJ m,aJ (λe:bS A A'=>m e.1)];rfl)
 rw[t]at s;rw[o]at E;rw[g];clear k y z h h' g t o;go_enter func33,ntmps33;go_wp2_with fail;try rw[q]
 clear q;refine s.mono ?_;rintro e w1⟨rfl,j⟩;have p:=aC<|aE V j;cases i with
 |false=>
  have v:aA (B=false):=aC r;clear r j;go_wp2_with fail;go_ret;exact⟨cG v.symm,p⟩
 |true=>
  have J:=(M.bw j M.lt).c1;have K:=(O.bw j O.lt).c1;have Z:=aC<|E w1 j;clear j;go_wp2_with fail;refine Z.mono ?_;rintro e L⟨rfl,Q⟩;have Y:=aC<|aE p Q;have v:aA (B=b):=aC (by have:=r.out;simpa using this);clear r Q;go_wp2_with fail;go_ret;exact⟨cG v.symm,Y⟩
theorem Xs(a x a' x':Option Us)(c d c' d':Nat)(A A':Sx)(w:Ur)(hm:A.Sm)(hm':A'.Sm)(h:eP w a x A)(h':eP w a' x' A'):
  Cl 29 #[Uo #[Uf a A.l.length c,Uf x A.n d],Uo #[Uf a' A'.l.length c',Uf x' A'.n d']] w (Rt w (Un (yes (bS A A')))):=by
 obtain⟨W,E⟩:=zE ((w.alloc (Uj #[Uf a A.l.length c,Uf x A.n d] 28)).alloc (Uj #[Uf a' A'.l.length c',Uf x' A'.n d'] 28));have b0:Bl w W:=E▸aU _ _ _;have X0:aD W w.1.size (Uf a A.l.length c) (Uf x A.n d):=E▸(aD.made w _ _ _).allocs _;have Y0:aD W (w.1.size+1) (Uf a' A'.l.length c') (Uf x' A'.n d'):=by rw[<-E];simpa using aD.made (w.alloc (Uj #[Uf a A.l.length c,Uf x A.n d] 28)) (Uf a' A'.l.length c') (Uf x' A'.n d') 28
 have HH:=aC<|h.bw b0;have Hl:=aC<|h'.bw b0;have Hc:=aC b0;have HX:=aC X0;have HY:=aC Y0;obtain⟨k0,k1⟩:=X0.q2;obtain⟨l0,l1⟩:=Y0.q2;obtain⟨B,hB⟩:=zE (yes (bS A A'));have S:=aC hB;rw[hB];clear b0 X0 Y0 h h' hB;by_cases m:A.l.length=A'.l.length;case neg=>
  have d1:((A.l.length:Int) !=(A'.l.length:Int))=true:=oS;have Y:aA (B=false):=aC (by rw[<-S.out];exact aJ (λe=>m (by rw[e.1])));clear m hm hm';go_enter func29,ntmps29;go_wp2_with fail;try rw[E]
  go_ret;exact⟨cG Y.symm,Hc⟩
 by_cases h2:A.n=A'.n;case neg=>
  obtain⟨g,J⟩:=zE A.l.length;have L:A'.l.length=g:=oM;rw[J]at k0 E;rw[L]at l0 E;rw[J,L];have d1:((g:Int) !=(g:Int))=false:=oP;have d2:((A.n:Int) !=(A'.n:Int))=true:=oS;have Y:aA (B=false):=aC (by rw[<-S.out];exact aJ (λe=>h2 e.2.1));clear m h2 hm hm' J L HX HY HH Hl S;go_enter func29,ntmps29;go_wp2_with fail;try rw[E]
  go_ret;exact⟨cG Y.symm,Hc⟩
 obtain⟨g,J⟩:=zE A.l.length;have L:A'.l.length=g:=oM;obtain⟨G,Hh⟩:=zE A.n;have Hb:A'.n=G:=oM;have O:=aC<|And.intro (And.intro J L) (And.intro Hh Hb);rw[J]at k0 E HX;rw[Hh]at k1 E HX;rw[L]at l0 E HY;rw[Hb]at l1 E HY;rw[J,L,Hh,Hb];have z1:g<=1048576:=oH hm.l1;have z2:G<=1048576:=oH hm.n1;have d1:((g:Int) !=(g:Int))=false:=oP;have d2:((G:Int) !=(G:Int))=false:=oP;clear m h2 hm hm' J L Hh Hb;go_enter func29,ntmps29;go_wp2_with fail;try rw[E]
 clear E k0 k1 l0 l1;go_loopw [5] (λi wr=>∃j:Nat,j<=g/\i=Ud j/\aA (Bl W wr)/\aA (∀t,t<j->gL A.l t=gL A'.l t)) (λi _=>g-(intOf i).toNat);case atStart=>exact⟨0,UB _,rfl,aC zI,aC (λt D=>oM)⟩
 case round=>
  obtain⟨j,hj,rfl,M,X⟩:=hrel;have Q:=HX.bw M HX.lt;have V:=HY.bw M HY.lt;have k0:=Q.c0;by_cases Hp:j<g
  .have i1:(0:Int)<=(j:Int):=VH _;have i2:(j:Int)<(g:Int):=oM;obtain⟨b,off,rfl,hb,Hv⟩:=(HH.bw M).lf.resolve_left (oH O);obtain⟨pa,pc,⟨Z,d0⟩,sg,H,c2,c3,c4⟩:=Hv j (oH O);obtain⟨b',Ha,rfl,Hu,He⟩:=(Hl.bw M).lf.resolve_left (oH O);obtain⟨Hw,Hx,⟨e0,Ho⟩,Hy,e1,e2,e3,e4⟩:=He j (oH O);have Hd:=aC (λw1 (s:Bl wr w1)=>Tg pa Hw pc Hx (gL A.l j).p (gL A'.l j).p (gL A.l j).fl (gL A'.l j).fl (gL A.l j).r (gL A.l j).q (gL A'.l j).r (gL A'.l j).q (gL A.l j).v (gL A'.l j).v w1 d0.1 Ho.1 d0.2 Ho.2 (sg.bw s) (Hy.bw s));obtain⟨y,hy⟩:=zE (gL A.l j);obtain⟨z,hz⟩:=zE (gL A'.l j);rw[hy]at Z H c2 c3 c4;rw[hz]at e0 e1 e2 e3 e4;rw[hy,hz]at Hd;have Hf:=aC (And.intro hy hz);obtain⟨yp,yf,yr,yq,yv⟩:=y;obtain⟨zp,zf,zr,zq,zv⟩:=z;dsimp only at Z H c2 c3 c4 e0 e1 e2 e3 e4 Hd;obtain⟨C,hC⟩:=zE (yes ((⟨yp,yf,yr,yq,yv⟩:Lf)=⟨zp,zf,zr,zq,zv⟩));have Hr:=aC hC;rw[hC]at Hd;have Hk:aA (∀w',Bl wr w'->(w'.cell? (Ub w.1.size)=Uq (Uf (Uq (Ua b off)) g c)/\w'.cell? (Ua (w.1.size+1) 0)=Uq (Uf (Uq (Ua b' Ha)) g c')/\w'.cell? (Ua b (off+j*5))=Uq (Uf pa yp.length pc)/\w'.cell? (Ua b (off+j*5+1))=Uq (Un yf)/\w'.cell? (Ua b (off+j*5+2))=Uq (Ud yr)/\w'.cell? (Ua b (off+j*5+3))=Uq (Ud yq)/\w'.cell? (Ua b (off+j*5+4))=Uq (Um yv)/\w'.cell? (Ua b' (Ha+j*5))=Uq (Uf Hw zp.length Hx)/\w'.cell? (Ua b' (Ha+j*5+1))=Uq (Un zf)/\w'.cell? (Ua b' (Ha+j*5+2))=Uq (Ud zr)/\w'.cell? (Ua b' (Ha+j*5+3))=Uq (Ud zq)/\w'.cell? (Ua b' (Ha+j*5+4))=Uq (Um zv))):=aC (λw' s=>by
    have q:=λo=>s.cell (p:=(Ua b o)) hb;have q':=λo=>s.cell (p:=(Ua b' o)) Hu;exact⟨(Q.bw s Q.lt).c0,(V.bw s V.lt).c0,(q _).trans Z,(q _).trans H,(q _).trans c2,(q _).trans c3,(q _).trans c4,(q' _).trans e0,(q' _).trans e1,(q' _).trans e2,(q' _).trans e3,(q' _).trans e4⟩)
   clear hy hz hC Hv He sg Hy d0 Ho;go_wp2_with fail;refine zS Hk<|λqh=>?_;clear k0 Q V Z H c2 c3 c4 e0 e1 e2 e3 e4;refine tZ 0 32 ?_;refine tZ 1 33 ?_;refine tZ 2 34 ?_;refine tZ 3 35 ?_;refine tZ 4 36 ?_;refine tZ 5 37 ?_;refine tZ 6 38 ?_;refine tZ 7 39 ?_;refine tZ 8 40 ?_;refine tZ 9 41 ?_;refine cZ 10 ?_;intro K hK;go_simp;refine(Hd _ zI.drew).mono ?_;rintro e w1⟨rfl,s⟩;have Hn:Bl wr w1:=⟨s.os,s.tape,s.output,s.size,s.block⟩;refine hK.out _ _ (Hk _ Hn)<|λqh=>?_;clear hK K;try simp only[zP]
   refine tZ 11 43 ?_;refine zD ?_;have Hq:=aC<|M.trans (Hn.mono M.size);clear qh s Hn Hk Hd;cases C with
   |true=>
    have Hm:aA (∀t,t<j+1->gL A.l t=gL A'.l t):=aC (λt D=>by
     by_cases e:t=j
     .rw[e,Hf.1,Hf.2];exact Classical.byContradiction λhn=>by have:=Hr.out;rw[aJ hn]at this;cases this
     .exact X t oM)
    clear X M;go_wp2_with fail;go_roundw;case rel=>exact⟨j+1,Hp,oN,Hq,Hm⟩
    case measure=>exact oE
   |false=>
    have Y:aA (B=false):=aC (by
     rw[<-S.out];refine aJ λe=>?_;have:=Hr.out;rw[aN (by rw[<-Hf.1,<-Hf.2,e.1])]at this;cases this)
    go_wp2_with fail;go_ret;exact⟨cG Y.symm,aE Hc Hq⟩
  .obtain rfl:j=g:=oM;have Hz:aA (A.l=A'.l):=aC<|Sn (oH O) (λi hi=>X.out i (oH O));obtain⟨U,hU⟩:∃U,U=wr:=⟨_,rfl⟩;subst hU;have Hs:=aC Q;have Ht:=aC V;clear Q V X;go_wp2_with fail;clear k0;go_loopw [6] (λi wr=>∃k:Nat,k<=G/\i=Ud k/\aA (Bl U wr)/\aA (∀t,t<k->A.R t=A'.R t/\A.F t=A'.F t/\A.T t=A'.T t)) (λi _=>G-(intOf i).toNat);case atStart=>exact⟨0,UB _,rfl,aC zI,aC (λt D=>oM)⟩
   case round=>
    obtain⟨k,hk,rfl,N,X⟩:=hrel;have Q:=Hs.bw N Hs.lt;have V:=Ht.bw N Ht.lt;have k1:=Q.c1;have l1:=V.c1;by_cases Hp:k<G
    .have i1:(0:Int)<=(k:Int):=VH _;have i2:(k:Int)<(G:Int):=oM;obtain⟨b,o,rfl,hb,Z,H,c2⟩:=((HH.bw M).bw N).rn.at (k:=k) (oH O);obtain⟨b',o',rfl,Hu,e0,e1,e2⟩:=((Hl.bw M).bw N).rn.at (k:=k) (oH O);obtain⟨r,hr⟩:=zE (A.R k);obtain⟨f,hf⟩:=zE (A.F k);obtain⟨t,D⟩:=zE (A.T k);obtain⟨r',Hi⟩:=zE (A'.R k);obtain⟨f',Hg⟩:=zE (A'.F k);obtain⟨P,Hj⟩:=zE (A'.T k);rw[hr]at Z;rw[hf]at H;rw[D]at c2;rw[Hi]at e0;rw[Hg]at e1;rw[Hj]at e2;have HV:=aC (And.intro (And.intro hr (And.intro hf D)) (And.intro Hi (And.intro Hg Hj)));have NQ:∀w:Ur,(binOp .neq 103 (Uo #[Ud r,Ud f,Ud t]) (Uo #[Ud r',Ud f',Ud P])).run prog w=.ok (Un (!(r==r'&&(f==f'&&t==P)))) w:=λw=>Rp r f t r' f' P w;by_cases I:r=r'/\f=f'/\t=P;have q1:(!(r==r'&&(f==f'&&t==P)))=false:=(by simp[I.1,I.2.1,I.2.2]);rw[q1]at NQ;have Hm:aA (∀u,u<k+1->A.R u=A'.R u/\A.F u=A'.F u/\A.T u=A'.T u):=aC (λu hu=>by
      by_cases e:u=k
      .have m:=HV.out;rw[e,m.1.1,m.1.2.1,m.1.2.2,m.2.1,m.2.2.1,m.2.2.2];exact I
      .exact X u oM)
     rotate_left;have q1:(!(r==r'&&(f==f'&&t==P)))=true:=by
      cases hb:(r==r'&&(f==f'&&t==P))with
      |false=>rfl
      |true=>exact absurd (oU hb) I
     rw[q1]at NQ;have Y:aA (B=false):=aC (by
      rw[<-S.out];refine aJ λe=>I ?_;have m:=HV.out;have h2:=e.2.2 k (oH O);rw[m.1.1,m.1.2.1,m.1.2.2,m.2.1,m.2.2.1,m.2.2.2]at h2;exact h2)
     rotate_left
     all_goals clear I q1 hr hf D Hi Hg Hj Q V;go_wp2_with fail;go_region;go_wp2_with fail
     .go_roundw;case rel=>exact⟨k+1,Hp,oN,aC N.drew,Hm⟩
      case measure=>exact oE
     .go_ret;exact⟨cG Y.symm,aE Hc (aE M N.drew)⟩
    .obtain rfl:k=G:=oM;have Y:aA (B=true):=aC (by rw[<-S.out];exact aN ⟨Hz,oH O,λi hi=>X.out i (oH O)⟩);clear Q V;go_wp2_with fail;go_ret;exact⟨cG Y.symm,aE Hc (aE M N)⟩
theorem yQ(a x a' x':Option Us)(c d c' d':Nat)(A A':Sx)(w:Ur)(hm:A.Sm)(hm':A'.Sm)(h:eP w a x A)(h':eP w a' x' A'):
  Cl 7 #[Uo #[Uf a A.l.length c,Uf x A.n d],Uo #[Uf a' A'.l.length c',Uf x' A'.n d']] w (Rt w (Un (yes (bS A A')))):=by
 obtain⟨W,j⟩:=zE ((w.alloc (Uj #[Uf a A.l.length c,Uf x A.n d] 28)).alloc (Uj #[Uf a' A'.l.length c',Uf x' A'.n d'] 28));have k:Bl w W:=j▸aU _ _ _;have q:aD W w.1.size (Uf a A.l.length c) (Uf x A.n d):=j▸(aD.made w _ _ _).allocs _;have r:aD W (w.1.size+1) (Uf a' A'.l.length c') (Uf x' A'.n d'):=by rw[<-j];simpa using aD.made (w.alloc (Uj #[Uf a A.l.length c,Uf x A.n d] 28)) (Uf a' A'.l.length c') (Uf x' A'.n d') 28
 have m:=aC<|Xs a x a' x' c d c' d' A A' W hm hm' (h.bw k) (h'.bw k);have y:=aC k;obtain⟨E,v⟩:=zE (yes (bS A A'));rw[v]at m⊢;obtain⟨g,t⟩:=q.q2;obtain⟨o,i⟩:=r.q2;clear k q r h h' v;go_enter func7,ntmps7;go_wp2_with fail;try rw[j]
 clear j;refine m.mono ?_;rintro e w1⟨rfl,u⟩;have z:=aC<|aE y u;clear u g t o i m;go_wp2_with fail;go_ret;exact⟨rfl,z⟩
theorem QZ{B:Sx}(h:bS A B):A.b=B.b:=by
 obtain⟨j,k,m⟩:=h;show fF (Lk A.R A.F A.T A.n)++tB A.l 8 []=fF (Lk B.R B.F B.T B.n)++tB B.l 8 [];rw[Ff m A.n zL,k,j]
theorem RC(hY:bM Y=true):pB Y (gz Y.b) Y.b.length:=⟨(iW hY).1,λi hi=>by rw[Nat.zero_add];rfl,rfl,(iW hY).2.1⟩
theorem MN(q r:Nat)(c1 c2:Nat)(a1 a2:Option Us)(m1 m2:Nat){K:Int}(zs:List Int)(w:Ur)(h0:w.cell? (Ub q)=Uq (Ud K))(h1:w.cell? (Ua q 1)=Uq (Uf a1 zs.length m1))(k0:w.cell? (Ub r)=Uq (Ud K))(k1:w.cell? (Ua r 1)=Uq (Uf a2 zs.length m2))(hb:dO (gz zs))(hs1:bY w a1 zs.length (gz zs))(hs2:bY w a2 zs.length (gz zs)):
  Cl 12 #[Uf (Uc q) 1 c1,Uf (Uc r) 1 c2] w (Rt w (Un true)):=by
 have j:aA (∀k,(convert 22 9 (Uf a1 zs.length m1)).run prog (w.drewN k)=.ok (Um (gW (gz zs) 0 zs.length)) (w.drewN k)):=aC<|λk=>Cb (w:=w.drewN k) hs1 hb m1;have m:aA (∀k,(convert 22 9 (Uf a2 zs.length m2)).run prog (w.drewN k)=.ok (Um (gW (gz zs) 0 zs.length)) (w.drewN k)):=aC<|λk=>Cb (w:=w.drewN k) hs2 hb m2;obtain⟨s,u⟩:=zE (gW (gz zs) 0 zs.length);rw[u]at j m;have v:=j.out;have y:=m.out;have z:(!(s.toList==s.toList))=false:=oP;have h:(K !=K)=false:=oP;clear hs1 hs2 u;go_enter func12,ntmps12;go_wp2_with fail;refine wp_loop_rounds 2 ?_;rw[rounds_succ];go_wp2_with fail;go_quiet (fail);go_wp2_with fail;rw[rounds_succ];go_wp2_with fail;go_ret;exact⟨rfl,AN zI _⟩
theorem EM:yes (bS D Sx.mt)=eT D:=by
 by_cases h:eT D=true
 .rw[h];unfold eT at h;simp only[Bool.and_eq_true,decide_eq_true_eq]at h;exact aN ⟨UO h.1,h.2,λi hi=>oM⟩
 .rw[Bool.eq_false_iff.2 h];refine aJ<|λe=>h ?_;have j:D.l=[]:=e.1;have k:D.n=0:=e.2.1;unfold eT;rw[j,k];rfl
def Eh(id:Int)(S D:Sx)(w:Ur)(e:Ending)(w':Ur):Prop:=∃a c x d a' c' x' d' K v,e=Ui (Ul #[Uo #[Ud id,Uf a S.l.length c,Uf x S.n d,Uf a' (if eT D=true then D else Sx.mt).l.length c',Uf x' (if eT D=true then D else Sx.mt).n d'],Uo #[Ud K,v],Un (!eT D)])/\eP w' a x S/\eP w' a' x' (if eT D=true then D else Sx.mt)/\Bl w w'/\((eT D=true/\K=0/\v=Ue)\/(eT D=false/\K=3/\∃va vc,v=Uf va D.b.length vc/\Own w' w.1.size v D.b))
theorem Zx(id:Int)(ga gx ga' gx':Option Us)(gc gd gc' gd':Nat)(S D:Sx)(w:Ur)(h:cX w ga gx S)(h':cX w ga' gx' D)(hk:dP id S D=true):
  Cl 11 #[Uo #[Ud id,Uf ga S.l.length gc,Uf gx S.n gd,Uf ga' D.l.length gc',Uf gx' D.n gd']] w (Eh id S D w):=by
 obtain⟨P,hP⟩:=zE (Eh id S D w);rw[hP];have HP:=aC hP;obtain⟨W,O⟩:=zE (((w.alloc (Uj #[Ud id,Uf ga S.l.length gc,Uf gx S.n gd,Uf ga' D.l.length gc',Uf gx' D.n gd'] 30)).alloc (Uj #[Ud 0,Ue,Ue,Ue,Ue] 30)).alloc (Uj #[Ud 0,Ue] 41));have m:Bl w W:=O▸((zO _ _).alloc oP _).alloc oS _;have R:aF W w.1.size (Ud id) (Uf ga S.l.length gc) (Uf gx S.n gd) (Uf ga' D.l.length gc') (Uf gx' D.n gd'):=O▸((aF.new _ _ _ _ _ _ _).up _).up _;have R0:aF W (w.1.size+1) (Ud 0) Ue Ue Ue Ue:=by
  rw[<-O];have:=(aF.new (w.alloc (Uj #[Ud id,Uf ga S.l.length gc,Uf gx S.n gd,Uf ga' D.l.length gc',Uf gx' D.n gd'] 30)) (Ud 0) Ue Ue Ue Ue 30).up (Uj #[Ud 0,Ue] 41);simpa using this
 have T:aD W (w.1.size+1+1) (Ud 0) Ue:=by
  rw[<-O];have:=aD.made ((w.alloc (Uj #[Ud id,Uf ga S.l.length gc,Uf gx S.n gd,Uf ga' D.l.length gc',Uf gx' D.n gd'] 30)).alloc (Uj #[Ud 0,Ue,Ue,Ue,Ue] 30)) (Ud 0) Ue 41;simpa using this
 have X:=kD hk;have C:=yN X.2.1;have j:=yN X.2.2;have HO:aA (∀w1,Bl W w1->Cl 8 #[Uo #[Ud id,Uf ga S.l.length gc,Uf gx S.n gd,Uf ga' D.l.length gc',Uf gx' D.n gd']] w1 (Rt w1 (Un true))):=aC (λw1 hb=>by
  have:=Ee id ga gx ga' gx' gc gd gc' gd' S D w1 C.2 j.2 C.1 j.1 (h.bw (aE m hb)) (h'.bw (aE m hb));rw[hk]at this;exact this)
 have Hg:=aC (Oh id ga gx ga' gx' gc gd gc' gd' S D W C.1 j.1 (h.bw m) (h'.bw m));have Hm:aA (∀w1,Bl W w1->Cl 36 #[Uo #[Uf ga' D.l.length gc',Uf gx' D.n gd']] w1 λe w'=>∃u y,e=Ui (Ul #[Uf u D.b.length y,Ud 0])/\Own w' w1.1.size (Uf u D.b.length y) D.b/\Bl w1 w'):=aC (λw1 hb=>by
  refine(Zg ga' gx' gc' gd' D w1 j.2 j.1 (h'.bw (aE m hb))).mono ?_;rintro e w'⟨v,zs,k,rfl,hz,Z,b⟩;rw[(iW X.2.2).2.2]at hz;injection hz with e1 e2;subst e1 e2;obtain⟨u,y,rfl,_⟩:=Z.any;exact⟨u,y,rfl,Z,b⟩)
 obtain⟨MB,Hf⟩:=zE (eT D);have Hl:aA (∀w1,Bl W w1->Cl 33 #[Uo #[Uf ga' D.l.length gc',Uf gx' D.n gd'],Uo #[Ue,Ue]] w1 (Rt w1 (Un MB))):=aC (λw1 hb=>by
  have:=AG ga' gx' Up Up gc' gd' 0 0 D Sx.mt w1 j.1 mC.1 (h'.bw (aE m hb)) ⟨.inl rfl,.inl rfl⟩;rw[EM,Hf]at this;exact this)
 have A:=aC R;have I:=aC R0;have G:=aC T;have Ha:=aC m;have Hh:=aC Hf;have Ho:w.1.size+1+1<W.1.size:=T.lt;obtain⟨g,t,o,i,p⟩:=R.q5;clear h h' m R R0 T hP hk Hf X C j;go_enter func11,ntmps11;go_wp2_with fail;try rw[O]
 clear O;refine Hg.mono ?_;rintro e w1⟨a,M,x,r,J,L,x',Y,j,rfl,s1,s2,b1⟩;obtain⟨U,N⟩:=zE (w1.alloc (Uj #[Ud id,Uf a S.l.length M,Uf x S.n r,Uf J D.l.length L,Uf x' D.n Y] 30));have K:Bl w1 U:=N▸zO _ _;have O1:aF U w1.1.size (Ud id) (Uf a S.l.length M) (Uf x S.n r) (Uf J D.l.length L) (Uf x' D.n Y):=N▸aF.new _ _ _ _ _ _ _;have Hd:=aC<|aE b1 K;have H:=aC O1;have He:=aC<|s1.bw K;have Hj:=aC<|s2.bw K;have Hr:W.1.size<=w1.1.size:=b1.size;have Hu:w1.1.size<U.1.size:=O1.lt;have X1:=A.bw Hd A.lt;clear g t o i p;obtain⟨g,t,o,i,p⟩:=X1.q5;clear s1 s2 b1 K O1 X1 Hg;go_wp2_with fail;try rw[N]
 clear N g t o i p;refine(HO U Hd).mono ?_;rintro e w2⟨rfl,b2⟩;have Hb:=aC<|aE Hd b2;have Hn:=aC b2;have X2:=A.bw Hb A.lt;obtain⟨g,t,o,i,p⟩:=X2.q5;clear X2 b2;go_wp2_with fail;clear g t o i p;refine(Hl w2 Hb).mono ?_;rintro e F⟨rfl,b3⟩;have s:=aC<|aE Hb b3;have V:=aC<|aE Hn b3;have Hs:U.1.size<=F.1.size:=V.size;have Hp:=He.hl;have Hq:=Hj.hl;clear b3;cases MB
 focus have X3:=A.bw s A.lt;obtain⟨g,t,o,i,p⟩:=X3.q5;clear X3;go_wp2_with fail;clear g t o i p;refine(Hm F s).mono ?_;rintro e w4⟨u,y,rfl,Z,b4⟩;have Hc:=aC<|aE s b4;have Hk:=aC<|aE V b4;have Hi:=aC Z;have Ht:F.1.size<=w4.1.size:=b4.size;have z:=I.bw Hc I.lt;have Q:=G.bw Hc G.lt;have E:=H.bw Hk H.lt
 rotate_left;have z:=I.bw s I.lt;have Q:=G.bw s G.lt;have E:=H.bw V H.lt;rotate_left
 all_goals obtain⟨r0,r1,r2,r3,r4⟩:=z.q5;obtain⟨o0,o1,o2,o3,o4⟩:=E.q5;have rf:=z.f
 .have of:=E.f;obtain⟨f0,f1,ff⟩:=Q.p2;clear z Q E Z b4;go_wp2_with fail;refine zF (v:=Ul #[Uo #[Ud id,Uf a S.l.length M,Uf x S.n r,Ue,Ue],Uo #[Ud 3,Uf u D.b.length y],Un true]) (by simp[results,results11,go_sem,r0,r1,r2,r3,r4,f0,f1]) ?_;rw[<-HP.out];unfold Eh;rw[Hh.out];refine⟨a,M,x,r,Up,0,Up,0,3,Uf u D.b.length y,rfl,?_,⟨.inl rfl,.inl rfl⟩,?_,.inr ⟨rfl,rfl,u,y,rfl,?_⟩⟩
  .refine aM.ct (lo:=W.1.size) (hi:=j) (d:=r) ?_;repeat (refine aM.set ?_ _ _ oS)
   exact He.bw Hk
  .repeat (refine Below.setCell ?_ (by simp;try omega) _)
   exact aE Ha Hc
  .refine Own.weak (B:=F.1.size) ?_<|oH Ha.size;refine dK Hi λq hq=>?_;have h1:=(World.ownsRow.lt Hi q hq).1;repeat (rw[zH _ _ _ _ oS])
 .obtain⟨f0,f1,ff⟩:=Q.p2;clear z Q E;go_wp2_with fail;refine zF (v:=Ul #[Uo #[Ud id,Uf a S.l.length M,Uf x S.n r,Uf J D.l.length L,Uf x' D.n Y],Uo #[Ud 0,Ue],Un false]) (by simp[results,results11,go_sem,r0,r1,r2,r3,r4,f0,f1]) ?_;rw[<-HP.out];unfold Eh;rw[Hh.out];refine⟨a,M,x,r,J,L,x',Y,0,Ue,rfl,?_,?_,?_,.inl ⟨rfl,rfl,rfl⟩⟩
  .refine aM.ct (lo:=W.1.size) (hi:=j) (d:=r) ?_;repeat (refine aM.set ?_ _ _ (.inl oS))
   exact He.bw V
  .refine aM.ct (lo:=j) (hi:=w1.1.size) (d:=Y) ?_;repeat (refine aM.set ?_ _ _ (.inl oS))
   exact Hj.bw V
  .repeat (refine Below.setCell ?_ (by simp;try omega) _)
   exact aE Ha s
theorem Pw{g:Lf->Prop}{P:List Lf}(h:Vd S)(hp:dN S P)(e:fP S (aQ g S.l P)=0):bK S (eC S (aQ g S.l P))=true/\eI S (aQ g S.l P)=aR S (eC S (aQ g S.l P)):=by
 cases hc:iD S (aQ g S.l P)with
 |false=>rw[(rM hc).2.2]at e;cases e
 |true=>
  have j:=(DD (g:=g) h hp e).2;rw[(rL hc).2.1]at j⊢;unfold iD at hc;have k:=hc;simp only[Bool.and_eq_true]at k;exact⟨mX.2 ⟨h,j.vd,k.1⟩,(rL hc).1⟩
theorem Po{rep:Int}{fl on:Bool}(hfv:fl=true->fO v=true)(e:eO S rep p fl on v=0):bK S (cO S rep p fl on v)=true/\cR S rep p fl on v=aR S (cO S rep p fl on v):=by
 by_cases j:dQ S p v=0
 .obtain⟨m,y,z⟩:=sB j;by_cases k:nO S rep on
  .obtain⟨q,r,u⟩:=tH (p:=p) (fl:=fl) (v:=v) j k;rw[q,r];rw[u]at e;exact Pw (gC m) (Ri (gC m) y z hfv k) e
  .rw[(tI j k).2.2]at e;cases e
 .rw[(rI j).2.2]at e;exact absurd e j
theorem DJ{id k:Int}(h:chg S id k p v=(X,Y,0)):bK S Y=true/\X=aR S Y:=by
 unfold chg at h;split at h
 .injection h with e1 e2;injection e2 with e2 e3;subst e1 e2;exact Po (λh=>by cases h) e3
 .split at h
  all_goals injection h with e1 e2;injection e2 with e2 e3;subst e1 e2
  .by_cases j:dQ S p ⟨#[]⟩=0
   .obtain⟨m,q,r⟩:=Az j;rw[m,q];rw[r]at e3;exact Pw (gC (sB j).1) (dN.nil S) e3
   .rw[(xZ j).2.2]at e3;exact absurd e3 j
  .exact Po (λ_=>by unfold fO;rw[ByteArray.toList_eq];rfl) e3
theorem IP{B:Sx}(h:bS A B)(hv:Vd A)(hf:bM B=true):bM A=true:=by
 unfold bM kN;rw[sI hv (by rw[show dF A.R A.F A.T A.n A.l=dF B.R B.F B.T B.n B.l from QZ h];exact(iW hf).2.1)];rfl
theorem FD(h:S.n=0):fS S=[]:=UO ((lW S).trans h)
theorem EL(hD:Vd D)(hS:Vd S)(hY:Vd Y)(h:eT (aR D Y)=true):bS (aR S Y) S:=by
 unfold eT at h;simp only[Bool.and_eq_true,decide_eq_true_eq]at h;have k:=(iL hD hY).2;rw[FD h.2]at k;have j:∀y x,¬RI (fS Y) y x:=λy x hr=>by
  obtain⟨p,u,_⟩:=(k y x).2 (.inr hr);cases u
 have r:Y.l=[]:=by
  cases e:Y.l with
  |nil=>rfl
  |cons z m=>exact absurd (yP hY (z:=z) (by rw[e];exact Vf)) (j _ _)
 have q:fS Y=[]:=by
  cases e:fS Y with
  |nil=>rfl
  |cons z m=>
   have v:=(rT hY).2 z (by rw[e];exact Vf);refine absurd ⟨z,by rw[e];exact Vf,?_⟩<|j z.1 z.2.1;unfold dG at v;exact⟨rfl,oM,oM⟩
 have e:bS Y Sx.mt:=jM.2 ⟨r,by rw[q];rfl⟩;rw[M3 (bS.refl S) e];exact(Mj hS Bj).trans (EU hS)
structure XN(S D X Z:Sx):Prop where
 am:lP S X=true
 mt:eT Z=true->bS X S
 hj:lP D S=true->xV S Z=true/\bS (aZ S Z) X
theorem CJ{id:Int}{k:Int}{Z:Sx}(h:fY id S D k p v=(X,Z,0)):dP id S D=true/\dP id X Z=true/\XN S D X Z:=by
 rcases If h with⟨i,_⟩|⟨_,o,_,Y,s,M,rfl⟩
 .exact absurd rfl i
 refine⟨o,Q6 h o,?_⟩;obtain⟨z,rfl⟩:=DJ s;obtain⟨m,q,t⟩:=mX.1 z;obtain⟨g,_,b⟩:=Fs M;obtain⟨j,_,u⟩:=mX.1 g;rw[nV g];refine⟨CO z,λhm=>EL j m q hm,λha=>?_⟩;unfold lP at ha;simp only[Bool.and_eq_true]at ha;have y:=sM.1 ha.2;rw[nV ha.1]at y;have A:=QQ ha.1;obtain⟨_,_,E⟩:=mX.1 A;have e:bS (aR S (aR D Y)) (aR S Y):=by
  have:=(Wo m j q E u).symm;rwa [M3 ((Mj m j).trans y) (bS.refl Y)]at this
 have r:bK S (aR D Y)=true:=mX.2 ⟨m,rO j q u,Oa e t⟩;have O:=rO m (rO j q u)<|Oa e t;refine⟨?_,by rw[nV r];exact e⟩;unfold xV;rw[r,nV r,IP e O b];rfl
theorem qR{Q:Prop}(h:Q:=by go_enter func52,ntmps52;go_wp2_with fail;go_ret;exact⟨cG (by rw[m.out];cases E<;>rfl),j⟩):Q:=h
theorem EJ(k:Int)(pa:Option Us)(pc:Nat)(p:List ByteArray)(v:ByteArray)(w:Ur):Cl 52 #[Uo #[Ud k,Uf pa p.length pc,Um v]] w (Rt w (Un (iB k v))):=by
 have j:=aC<|zO w (Uj #[Ud k,Uf pa p.length pc,Um v] 33);have t:v.toList.isEmpty=fO v:=rfl;obtain⟨E,z⟩:=zE (fO v);have m:aA (iB k v=(decide (1<=k)&&(decide (k<=4)&&(decide (k=1)||E)))):=aC (by unfold iB;rw[z]);rw[z]at t;clear z;by_cases q:k=1
 .subst q;go_enter func52,ntmps52;go_wp2_with fail;go_ret;exact⟨cG (by rw[m.out];rfl),j⟩
 .have o:(k==1)=false:=oU q;by_cases r:k=2
  .subst r;exact qR
  .have i:(k==2)=false:=oU r;by_cases u:k=3
   .subst u;exact qR
   .have b:(k==3)=false:=oU u;by_cases y:k=4
    .subst y;exact qR
    .have s:(k==4)=false:=oU y;have h:aA (iB k v=false):=aC (by
      rw[m.out];by_cases g:1<=k
      .rw[decide_eq_false (by omega:¬k<=4)];simp
      .rw[decide_eq_false g];rfl)
     clear q r u y;go_enter func52,ntmps52;go_wp2_with fail;go_ret;exact⟨cG h.symm,j⟩
def An(X Y:Sx)(C:Int)(w:Ur)(e:Ending)(w':Ur):Prop:=∃a c x d a' c' x' d' mid,e=Ui (Ul #[Uo #[Uf a X.l.length c,Uf x X.n d],Uo #[Uf a' Y.l.length c',Uf x' Y.n d'],Ud C])/\aM w' w.1.size mid a x d X/\aM w' mid w'.1.size a' x' d' Y/\Bl w w'
theorem Es{Q:Prop}(h:Q:=by
 go_enter func53,ntmps53;go_wp2_with fail;try rw[t]
 clear t;try go_wp2_with fail
 refine o.mono ?_;rintro e w4⟨j,q,z,u,m,r,g,y,L,rfl,E,M,b4⟩;have H:=aC (Q.bw b4 Q.lt);have I:=aC (O.bw b4 O.lt);have G:=aC (aE B b4);have i:=aC E;have b:=aC M;clear b4 E M o T k1 o0 o1 o2;obtain⟨r0,r1,rf,q0,q1,qf,J⟩:=lR H I (Uf j X.l.length q) (Uf z X.n u) (Uf m Y.l.length r) (Uf g Y.n y);go_wp2_with fail;obtain⟨s,A⟩:=J.out;refine zF (v:=Ul #[Uo #[Uf j X.l.length q,Uf z X.n u],Uo #[Uf m Y.l.length r,Uf g Y.n y],Ud C]) (by simp[results,results53,go_sem,s.c0,s.c1,A.c0,A.c1]) ?_;have hz:=D.out;have h1:=i.hl;have h2:=b.hl;have V:=rN (r1:=w.1.size+1+1) (r2:=w.1.size+1+1+1) i oM oM (Uf j X.l.length q) (Uf z X.n u) (Uf m Y.l.length r) (Uf g Y.n y);have Z:=rN (r1:=w.1.size+1+1) (r2:=w.1.size+1+1+1) b oM oM (Uf j X.l.length q) (Uf z X.n u) (Uf m Y.l.length r) (Uf g Y.n y);exact⟨j,q,z,u,m,r,g,y,L,rfl,V.wide oM zL (by rw[Dc];omega),Z.wide zL (by rw[Dc];exact Ux _) zL,oW G oM oM _ _ _ _⟩):Q:=h
theorem IF(id:Int)(a x pa:Option Us)(c d pc:Nat)(S:Sx)(k:Int)(p:List ByteArray)(v:ByteArray)(X Y:Sx)(C:Int)(w:Ur)(hq:chg S id k p v=(X,Y,C))(ho:iB k v=true)(hm:dR S)(h:cX w a x S)(hp:p.length<=1048576)(hseg:aV w pa p)(hv:v.size<=1048576)(hid':(Lit.int Uh id).wf=true):
  Cl 53 #[Uo #[Ud k,Uf pa p.length pc,Um v],Uo #[Uf a S.l.length c,Uf x S.n d],Ud id] w λe w'=>An X Y C w e w':=by
 obtain⟨W,t⟩:=zE ((((w.alloc (Uj #[Ud k,Uf pa p.length pc,Um v] 33)).alloc (Uj #[Uf a S.l.length c,Uf x S.n d] 28)).alloc (Uj #[Ue,Ue] 28)).alloc (Uj #[Ue,Ue] 28));have F:Bl w W:=by rw[<-t];exact(((aU _ _ _).alloc oS _).alloc oS _)
 have zW:W.1.size=w.1.size+4:=t▸oP;have O0:aH W w.1.size (Ud k) (Uf pa p.length pc) (Um v):=by rw[<-t];exact(((aH.made w _ _ _ _).up _).up _).up _
 have A0:aD W (w.1.size+1) (Uf a S.l.length c) (Uf x S.n d):=by
  rw[<-t];have:=aD.made (w.alloc (Uj #[Ud k,Uf pa p.length pc,Um v] 33)) (Uf a S.l.length c) (Uf x S.n d) 28;exact((by simpa using this:aD _ (w.1.size+1) _ _).allocs _).allocs _
 have R0:aD W (w.1.size+1+1) Ue Ue:=by
  rw[<-t];have:=aD.made ((w.alloc (Uj #[Ud k,Uf pa p.length pc,Um v] 33)).alloc (Uj #[Uf a S.l.length c,Uf x S.n d] 28)) Ue Ue 28;exact(by simpa using this:aD _ (w.1.size+1+1) _ _).allocs _
 have Q0:aD W (w.1.size+1+1+1) Ue Ue:=by
  rw[<-t];simpa using aD.made (((w.alloc (Uj #[Ud k,Uf pa p.length pc,Um v] 33)).alloc (Uj #[Uf a S.l.length c,Uf x S.n d] 28)).alloc (Uj #[Ue,Ue] 28)) Ue Ue 28
 have P:=h.bw F;have R:=hseg.bw F;have N:aA ((k=1/\Cl 86 #[Uo #[Uf a S.l.length c,Uf x S.n d],Ud id,Uf pa p.length pc,Um v] W λe w'=>An X Y C W e w')\/(k=4/\Cl 88 #[Uo #[Uf a S.l.length c,Uf x S.n d],Uf pa p.length pc] W λe w'=>An X Y C W e w')\/k≠1/\k≠4/\(k=2\/k=3)/\Cl 87 #[Uo #[Uf a S.l.length c,Uf x S.n d],Ud id,Uf pa p.length pc,Un (k==2)] W λe w'=>An X Y C W e w'):=aC (by
  unfold chg at hq;by_cases U:k=1
  .rw[if_pos U]at hq;injection hq with g1 g2;injection g2 with g2 g3;subst g1 g2 g3;exact .inl ⟨U,XB a x pa c d pc S id p v W hm.1 hm.2 P hp R hv hid'⟩
  .rw[if_neg U]at hq;by_cases K:k=4
   .rw[if_pos K]at hq;injection hq with g1 g2;injection g2 with g2 g3;subst g1 g2 g3;exact .inr<|.inl ⟨K,TP a x pa c d pc S p W hm.1 hm.2 P hp R⟩
   .rw[if_neg K]at hq;injection hq with g1 g2;injection g2 with g2 g3;subst g1 g2 g3;unfold iB at ho;simp only[Bool.and_eq_true,decide_eq_true_eq]at ho;exact .inr (.inr ⟨U,K,oM,WU a x pa c d pc S id p (k==2) W hm.1 hm.2 P hp R hid'⟩))
 have Q:=aC R0;have O:=aC Q0;have B:=aC F;have D:aA (w.1.size+4<=W.1.size):=aC oM;obtain⟨T,k1⟩:=A0.q2;obtain⟨o0,o1,o2⟩:=O0.q3;clear F zW A0 O0 R0 Q0 h hseg hq ho P R;rcases N.out with⟨rfl,h⟩|⟨rfl,h⟩|⟨U,K,Ha,h⟩
 .have o:=aC h;clear h N;exact Es
 .have o:=aC h;clear h N;exact Es
 .have d1:(k==1)=false:=oU U;rcases Ha with rfl|rfl
  all_goals have o:=aC h;clear h N U K;exact Es
theorem MT{P:Program}{ops:Array Oper}{Q:Exit->Act->Ur->Prop}{md:Region.Mode}{S:Ur->Prop}{i j:Nat}{d d' d'':Option Tmp}{fuel:Nat}{listed:Array Bool}{a:Act}
  (hd:ops[i]?.map (λo=>o.dst)=Uq d) (hd':ops[j]?.map (λo=>o.dst)=Uq d') (hd'':ops[k]?.map (λo=>o.dst)=Uq d'') (hr:Region.ready md ops listed=[i,j,k])
  (h:∀o,ops[i]? =Uq o->o.dst=d->∀K':Act->Ur->Prop,Shut (∀a w,S w->(S w->wpAnyH P md ops Q S fuel (listed.setIfInBounds i true) a w)->K' a w)->if Region.wanted o (yielded ops a.tmps)=true then Oper.wp P o a w K' Q else K' (a.put o.dst undef) w)
  (h':∀o,ops[j]? =Uq o->o.dst=d'->∀K':Act->Ur->Prop,Shut (∀a w,S w->(S w->wpAnyH P md ops Q S fuel (listed.setIfInBounds j true) a w)->K' a w)->if Region.wanted o (yielded ops a.tmps)=true then Oper.wp P o a w K' Q else K' (a.put o.dst undef) w)
  (h'':∀o,ops[k]? =Uq o->o.dst=d''->∀K':Act->Ur->Prop,Shut (∀a w,S w->(S w->wpAnyH P md ops Q S fuel (listed.setIfInBounds k true) a w)->K' a w)->if Region.wanted o (yielded ops a.tmps)=true then Oper.wp P o a w K' Q else K' (a.put o.dst undef) w):
  wpAnyH P md ops Q S (fuel+1) listed a w:=by
 obtain⟨o,m,u⟩:=Option.map_eq_some_iff.1 hd;obtain⟨z,q,v⟩:=Option.map_eq_some_iff.1 hd';obtain⟨g,r,y⟩:=Option.map_eq_some_iff.1 hd'';exact wpAnyH_ready hr oP<|AllReadyH.cons m (h o m u) (AllReadyH.cons q (h' z q v) (AllReadyH.cons r (h'' g r y) AllReadyH.nil))
structure rH(w:Ur)(rb:Nat)(id:Int)(lo mid hi:Nat)(a x a' x':Option Us)(c d c' d':Nat)(S D:Sx):Prop where
 bx:aF w rb (Ud id) (Uf a S.l.length c) (Uf x S.n d) (Uf a' D.l.length c') (Uf x' D.n d')
 s:aM w lo mid a x d S
 t:aM w mid hi a' x' d' D
theorem rH.bw{id:Int}(h:rH w rb id lo mid hi a x a' x' c d c' d' S D)(hb:Bl w w1):rH w1 rb id lo mid hi a x a' x' c d c' d' S D:=⟨h.bx.bw hb h.bx.lt,h.s.bw hb,h.t.bw hb⟩
theorem Fb(h:aM w lo hi a x d S)(hr:rb<lo)(v1 v2 v3 v4:Value):aM ((((w.setCell (Ua rb 1) v1).setCell (Ua rb 2) v2).setCell (Ua rb 3) v3).setCell (Ua rb 4) v4) lo hi a x d S:=
 (((h.set (Ua rb 1) _ (.inl hr)).set (Ua rb 2) _ (.inl hr)).set (Ua rb 3) _ (.inl hr)).set (Ua rb 4) _ (.inl hr)
theorem Fa{r:Nat}(h:aM w lo hi a x d S)(hr:r<lo)(v0 v1 v2 v3 v4:Value):aM (((((w.setCell (Ub r) v0).setCell (Ua r 1) v1).setCell (Ua r 2) v2).setCell (Ua r 3) v3).setCell (Ua r 4) v4) lo hi a x d S:=Fb (h.set (Ub r) v0 (.inl hr)) hr _ _ _ _
def Pd(rb:Nat)(id:Int)(B:Nat)(X Z:Sx)(C:Int)(w:Ur)(e:Ending)(w':Ur):Prop:=∃er lo mid hi a x a' x' c d c' d',e=Ui er/\(C=0/\er=.nilIface\/∃b,er=.iface 88 (Uk (Uc b))/\w'.cell? (Ub b)=Uq (Ud C))/\rH w' rb id lo mid hi a x a' x' c d c' d' X Z/\B<=lo/\w.grownBy w' (Uq rb)
theorem yF{id C:Int}(h:rH w1 rb id lo mid hi a x a' x' c d c' d' S D)(hB:B<=lo)(hb:Bl w w1)(er:Value):Pd rb id B S D C w (Ui (.iface 88 (Uk (Uc w1.1.size)))) (w1.alloc (Uj #[Ud C,er] 90)):=by
 have m:Bl w1 (w1.alloc (Uj #[Ud C,er] 90)):=zO _ _;have j:=aE hb m;exact⟨_,lo,mid,hi,a,x,a',x',c,d,c',d',rfl,.inr ⟨_,rfl,oP⟩,h.bw m,hB,j.os,j.tape,j.output,j.size,λk hk _=>j.block k hk⟩
theorem CE(h:Bl w w1)(v1 v2 v3 v4:Value):w.grownBy ((((w1.setCell (Ua rb 1) v1).setCell (Ua rb 2) v2).setCell (Ua rb 3) v3).setCell (Ua rb 4) v4) (Uq rb):=
 ⟨h.os,h.tape,h.output,by simpa[Vr]using h.size,λk hk hne=>by
  have e:∀i,k≠((Ua rb i):Us).block:=λi e=>hne (by rw[e]);rw[zH _ _ _ _ (e _),zH _ _ _ _ (e _),zH _ _ _ _ (e _),zH _ _ _ _ (e _)];exact h.block k hk⟩
structure El(U wx:Ur)(A5 A6:Nat)(xa xx xa' xx':Option Us)(xc xd xc' xd' lo mid hi:Nat)(X Y:Sx):Prop where
 b5:aD wx A5 (Uf xa X.l.length xc) (Uf xx X.n xd)
 b6:aD wx A6 (Uf xa' Y.l.length xc') (Uf xx' Y.n xd')
 sx:aM wx lo mid xa xx xd X
 sy:aM wx mid hi xa' xx' xd' Y
 lo:U.1.size<=lo
 low:Bl U wx
theorem El.made{U:Ur}{A5 A6:Nat}{xa xx xa' xx':Option Us}{xc xd xc' xd':Nat}{u0 u1 u2 u3:Value}(h5:aD w A5 u0 u1)(h6:aD w A6 u2 u3)(hne:A5≠A6)(hx:aM w lo mid xa xx xd X)(hy:aM w mid hi xa' xx' xd' Y)(hlo:U.1.size<=lo)(hb:Bl U w)(k5:U.1.size<=A5)(k6:U.1.size<=A6)(g5:A5<lo\/hi<=A5)(g6:A6<lo\/hi<=A6):
  El U ((((w.setCell (Ub A5) (Uf xa X.l.length xc)).setCell (Ua A5 1) (Uf xx X.n xd)).setCell (Ub A6) (Uf xa' Y.l.length xc')).setCell (Ua A6 1) (Uf xx' Y.n xd')) A5 A6 xa xx xa' xx' xc xd xc' xd' lo mid hi X Y:=by
 have j:=nR h5 h6 hne (Uf xa X.l.length xc) (Uf xx X.n xd) (Uf xa' Y.l.length xc')<|Uf xx' Y.n xd';have k:=hx.hl;have m:=hy.hl;exact⟨j.2.1,j.2.2,(((hx.set (Ub A5) _ oQ).set (Ua A5 1) _ oQ).set (Ub A6) _ oQ).set (Ua A6 1) _ oQ,(((hy.set (Ub A5) _ oQ).set (Ua A5 1) _ oQ).set (Ub A6) _ oQ).set (Ua A6 1) _ oQ,hlo,oW hb k5 k6 _ _ _ _⟩
structure tD(w:Ur):Prop where
 e1:∃t u,w.cell? (Ub 0)=Uq (.iface t u)
 e2:∃t u,w.cell? (Ub 1)=Uq (.iface t u)
 e3:∃t u,w.cell? (Ub 2)=Uq (.iface t u)
 e4:∃t u,w.cell? (Ub 3)=Uq (.iface t u)
 gY:w.cell? (Ub 5)=Uq (.iface 200 (Uo #[Uk (Uq (Ua 21 63))]))
theorem tD.bw(h:tD w)(hb:Bl w w'):tD w':=by
 have k:∀g,(∃t u,w.cell? (Ub g)=Uq (.iface t u))->∃t u,w'.cell? (Ub g)=Uq (.iface t u):=λg ⟨t,u,e⟩=>⟨t,u,(hb.cell (p:=(Ub g)) (block_lt_of_cell e)).trans e⟩;exact⟨k _ h.e1,k _ h.e2,k _ h.e3,k _ h.e4,(hb.cell (p:=(Ub 5)) (block_lt_of_cell h.gY)).trans h.gY⟩
theorem Et{Q:Prop}(h:Q:=by
 obtain⟨Hl,Hm,Ho⟩:=z.p2;refine cZ 16 ?_;intro K m;go_simp;have T6:=nR z g oM (Uf H b.l.length xc) (Uf L b.n I) (Uf Hc N.l.length xc')<|Uf He N.n Hd;have G:=El.made (xc:=xc) (xc':=xc') z g oM O Q oM Hb oM oM oM oM;have Hf:=(Hb.setCell (p:=(Ub M)) oQ (Uf H b.l.length xc)).setCell (p:=(Ua M 1)) oQ<|Uf L b.n I;refine m.out _ _ (E _ Hf)<|λqh=>?_;clear m K;try simp only[zP]
 obtain⟨Hp,Hq,Hr⟩:=T6.1.p2;refine cZ 17 ?_;intro K m;go_simp;refine m.out _ _ (E _ G.low)<|λqh=>?_;clear m K;try simp only[zP]
 refine tZ 18 7 ?_;refine zD ?_;have Hg:=aC G;clear G Hf T6 Hl Hm Ho Hp Hq Hr z g O Q qh;go_wp2_with fail;go_meet;exact⟨M,A6,H,xc,L,I,Hc,xc',He,Hd,l,Hk,hh,rfl,rfl,rfl,Hg⟩):Q:=h
theorem xI{Q:Prop}(h:Q:=by
 obtain⟨Gj,Gk,Gl⟩:=h8.p2;refine cZ 10 ?_;intro K m;go_simp;have G1:=h8.set (Uf ja J.l.length jc)<|Uf jx J.n jd;have G2:=((oj.set (Ub A8) (Uf ja J.l.length jc) oQ).set (Ua A8 1) (Uf jx J.n jd) oQ).wide zL (show Hv<=((r.setCell (Ub A8) (Uf ja J.l.length jc)).setCell (Ua A8 1) (Uf jx J.n jd)).1.size by simp[Vr];omega) zL;have G3:=(P.setCell (p:=(Ub A8)) oQ (Uf ja J.l.length jc)).setCell (p:=(Ua A8 1)) oQ<|Uf jx J.n jd;refine m.out _ _ (E _ G3)<|λqh=>?_;clear m K;try simp only[zP]
 refine tZ 11 9 ?_;refine zD ?_;have Hg:=aC (And.intro G1 (And.intro hJ (And.intro G2 (And.intro (show V.1.size<=l2 by omega) (And.intro G3 (show V.1.size<=A8 by omega))))));clear G1 G2 G3 Gj Gk Gl h8 oj qh hJ;go_wp2_with fail;go_meet;exact⟨A8,ja,jc,jx,jd,l2,J,rfl,H7,Hg⟩):Q:=h
theorem xC{Q:Prop}(h:Q:=by
 refine m.out _ _ (E _ P)<|λqh=>?_;clear m K;try simp only[zP]
 clear q;refine cZ 9 ?_;intro K m;go_simp;obtain⟨l,hl⟩:=zE r.1.size;refine(Hx _ P).mono ?_;rintro e z3⟨H,xc,L,I,Hc,xc',He,Hd,Hk,rfl,O,Q,q⟩;have Hb:=aE P q;obtain⟨hh,Hj⟩:=zE z3.1.size;have H6:=q.size;have H0:=P.size;have Gr:=z.lt;replace z:=z.bw q z.lt;have Gs:=g.lt;replace g:=g.bw q g.lt;rw[hl]at O;rw[Hj]at Q;replace hl:r.1.size<=l/\l<=r.1.size:=oM;replace Hj:z3.1.size<=hh/\hh<=z3.1.size:=oM;refine m.out _ _ (E _ Hb)<|λqh=>?_;clear m K;try simp only[zP]
 clear q;refine tZ 10 26 ?_;refine tZ 11 37 ?_;refine tZ 12 38 ?_;refine tZ 13 39 ?_;exact Et):Q:=h
theorem wU{Q:Prop}(h:Q:=by
 refine cZ 15 ?_;intro K m;go_simp;obtain⟨z3,T⟩:=zE (r.alloc (Uj #[Ue,Ue] 28));have q:Bl r z3:=T▸zO _ _;have g:aD z3 r.1.size Ue Ue:=T▸aD.made _ _ _ _;have Gd:=P.size;have Gf:z3.1.size<=r.1.size+1/\r.1.size+1<=z3.1.size:=T▸oP;have Hb:=aE P q;obtain⟨A6,Hi⟩:=zE r.1.size;rw[Hi]at g⊢;rw[T];clear T;replace Hi:r.1.size<=A6/\A6<=r.1.size:=oM;have H9:=z.lt;replace z:=z.bw q z.lt;replace O:=O.bw q;replace Q:=Q.bw q;refine m.out _ _ (E _ Hb)<|λqh=>?_;clear m K;try simp only[zP]
 clear q;exact Et):Q:=h
theorem wT{Q:Prop}(h:Q:=by
 refine cZ 14 ?_;intro K m;go_simp;obtain⟨z3,R⟩:=zE (r.alloc (Uj #[Ue,Ue] 28));have q:Bl r z3:=R▸zO _ _;have z:aD z3 r.1.size Ue Ue:=R▸aD.made _ _ _ _;have Gc:=P.size;have Ge:z3.1.size<=r.1.size+1/\r.1.size+1<=z3.1.size:=R▸oP;have Hb:=aE P q;obtain⟨M,Hh⟩:=zE r.1.size;rw[Hh]at z⊢;rw[R];clear R;replace Hh:r.1.size<=M/\M<=r.1.size:=oM;have Ga:=g.lt;replace g:=g.bw q g.lt;replace O:=O.bw q;replace Q:=Q.bw q;refine m.out _ _ (E _ Hb)<|λqh=>?_;clear m K;try simp only[zP]
 clear q;exact Et):Q:=h
theorem RU(rb:Nat)(id:Int)(lo Hk hi pc:Nat)(a x a' x' pa:Option Us)(c d c' d':Nat)(S D:Sx)(k:Int)(p:List ByteArray)(v:ByteArray)(X Z:Sx)(C:Int)(w:Ur)(hq:fY id S D k p v=(X,Z,C))(hm:dR S)(hm':dR D)(h:rH w rb id lo Hk hi a x a' x' c d c' d' S D)(hp:p.length<=1048576)(hseg:aV w pa p)(hv:v.size<=1048576)(hid':(Lit.int Uh id).wf=true)(hG:tD w):
  Cl 27 #[Uk (Uc rb),Uo #[Ud k,Uf pa p.length pc,Um v]] w λe w'=>Pd rb id lo X Z C w e w':=by
 obtain⟨W,hW⟩:=zE (w.alloc (Uj #[Ud k,Uf pa p.length pc,Um v] 33));have b0:Bl w W:=hW▸zO _ _;have O0:aH W w.1.size (Ud k) (Uf pa p.length pc) (Um v):=hW▸aH.made _ _ _ _ _;have R0:=h.bw b0;have G0:=hG.bw b0;have Gp:=aC<|Ee id a x a' x' c d c' d' S D W hm.2 hm'.2 hm.1 hm'.1 R0.s.at R0.t.at;have Gq:=aC<|λu=>EJ k pa pc p v u;obtain⟨b,N,C1,hc⟩:∃b N C1,chg S id k p v=(b,N,C1):=⟨_,_,_,rfl⟩;have Gm:aA (iB k v=true->∀u,Bl W u->Cl 53 #[Uo #[Ud k,Uf pa p.length pc,Um v],Uo #[Uf a S.l.length c,Uf x S.n d],Ud id] u λe w'=>An b N C1 u e w'):=aC<|λA u hb=>IF id a x pa c d pc S k p v b N C1 u hc A hm (R0.s.at.bw hb) hp ((hseg.bw b0).bw hb) hv hid';have Gi:=aC<|Iz hc;have Gt:=aC hm';have HQ:=aC hq;have Gb:=aC hc;have HO:=aC O0;have HR:=aC R0;have HB:=aC b0;have HG:=aC G0;obtain⟨k0,k1,k2,k3,k4⟩:=R0.bx.q5;clear b0 O0 R0 G0 h hG hseg hq hc;go_enter func27,ntmps27;go_wp2_with fail;try rw[hW]
 clear hW;refine Gp.mono ?_;rintro e w1⟨rfl,b1⟩;have H1:=aC b1;clear b1 Gp k0 k1 k2 k3 k4;cases hr:dP id S D with
 |false=>have e:=HQ.out;rw[Pu hr]at e;injection e with e1 e2;injection e2 with e2 e3;subst e1 e2 e3;obtain⟨tt,uu,gg⟩:=(HG.bw H1).e1;have HE:=aC<|yF (C:=1) (HR.bw H1) zL (aE HB H1) (.iface tt uu);clear HQ;go_wp2_with fail;go_ret;exact HE
 |true=>
  have O1:=HO.bw H1 HO.lt;obtain⟨o0,o1,o2⟩:=O1.q3;clear O1;go_wp2_with fail;refine(Gq w1).mono ?_;rintro e U⟨rfl,b2⟩;have H2:=aC<|aE H1 b2;clear b2 Gq o0 o1 o2;cases A:iB k v with
  |false=>have e:=HQ.out;rw[Pt hr A]at e;injection e with e1 e2;injection e2 with e2 e3;subst e1 e2 e3;obtain⟨tt,uu,gg⟩:=(HG.bw H2).e2;have HE:=aC<|yF (C:=5) (HR.bw H2) zL (aE HB H2) (.iface tt uu);clear HQ;go_wp2_with fail;go_ret;exact HE
  |true=>
   have Hx:=aC (λu(hb:Bl U u)=>Gm.out A u (aE H2 hb));have E:aA (∀w',Bl U w'->(w'.cell? (Ub w.1.size)=Uq (Ud k)/\w'.cell? (Ua w.1.size 1)=Uq (Uf pa p.length pc)/\w'.cell? (Ua w.1.size 2)=Uq (Um v)/\w'.cell? (Ub rb)=Uq (Ud id)/\w'.cell? (Ua rb 1)=Uq (Uf a S.l.length c)/\w'.cell? (Ua rb 2)=Uq (Uf x S.n d))):=aC (λw' hb=>by
    have O2:=HO.bw (aE H2 hb) HO.lt;have R2:=HR.bx.bw (aE H2 hb) HR.bx.lt;exact⟨O2.c0,O2.c1,O2.c2,R2.c0,R2.c1,R2.c2⟩)
   clear Gm;go_upto_region 5 with fail;go_cut [5,6,7]from 26 to 39 (λv5 v6 v7 wx=>∃M A6 H xc L I Hc xc' He Hd l Hk hh,v5=Uk (Uc M)/\v6=Uk (Uc A6)/\v7=Ud C1/\aA (El U wx M A6 H L Hc He xc I xc' Hd l Hk hh b N));case first=>
    refine zS E<|λqh=>?_;refine tZ 0 27 ?_;refine tZ 1 28 ?_;refine tZ 2 29 ?_;refine tZ 3 30 ?_;refine tZ 4 31 ?_;refine tZ 5 32 ?_;refine tZ 6 33 ?_;refine tZ 7 34 ?_;refine tZ 8 35 ?_;obtain⟨Y,Hw⟩:=zE U.drew;have Hn:Bl U Y:=Hw▸zI.drew;rw[Hw];clear Hw;refine MT (i:=9) (j:=14) (k:=15) (d:=Uq 36) (d':=Uq 5) (d'':=Uq 6) oK oK oK oK ?_ ?_ ?_
    all_goals skip;intro o A Hu K m;simp only[eB,dZ,dY,eU]at A;subst A;go_simp
    .obtain⟨l,hl⟩:=zE Y.1.size;refine(Hx _ Hn).mono ?_;rintro e y⟨H,xc,L,I,Hc,xc',He,Hd,Hk,rfl,O,Q,q⟩;have Ha:=aE Hn q;obtain⟨hh,Hj⟩:=zE y.1.size;have H6:=q.size;have H0:=Hn.size;rw[hl]at O;rw[Hj]at Q;replace hl:Y.1.size<=l/\l<=Y.1.size:=oM;replace Hj:y.1.size<=hh/\hh<=y.1.size:=oM;refine m.out _ _ (E _ Ha)<|λqh=>?_;clear m K;try simp only[zP]
     clear q;refine tZ 10 26 ?_;refine tZ 11 37 ?_;refine tZ 12 38 ?_;refine tZ 13 39 ?_;refine fU (i:=14) (j:=15) (d:=Uq 5) (d':=Uq 6) oK oK oK ?_ ?_
     all_goals skip;intro o A Hu K m;simp only[eB,dZ,dY,eU]at A;subst A;go_simp
     obtain⟨r,R⟩:=zE (y.alloc (Uj #[Ue,Ue] 28));have q:Bl y r:=R▸zO _ _;have z:aD r y.1.size Ue Ue:=R▸aD.made _ _ _ _;have Gc:=Ha.size;have Ge:r.1.size<=y.1.size+1/\y.1.size+1<=r.1.size:=R▸oP;have P:=aE Ha q;obtain⟨M,Hh⟩:=zE y.1.size;rw[Hh]at z⊢;rw[R];clear R;replace Hh:y.1.size<=M/\M<=y.1.size:=oM;rotate_left;obtain⟨r,T⟩:=zE (y.alloc (Uj #[Ue,Ue] 28));have q:Bl y r:=T▸zO _ _;have g:aD r y.1.size Ue Ue:=T▸aD.made _ _ _ _;have Gd:=Ha.size;have Gf:r.1.size<=y.1.size+1/\y.1.size+1<=r.1.size:=T▸oP;have P:=aE Ha q;obtain⟨A6,Hi⟩:=zE y.1.size;rw[Hi]at g⊢;rw[T];clear T;replace Hi:y.1.size<=A6/\A6<=y.1.size:=oM;rotate_left
     all_goals
      replace O:=O.bw q;replace Q:=Q.bw q;refine m.out _ _ (E _ P)<|λqh=>?_;clear m K;try simp only[zP]
      clear q
     .exact wU
     .exact wT
    .obtain⟨y,R⟩:=zE (Y.alloc (Uj #[Ue,Ue] 28));have q:Bl Y y:=R▸zO _ _;have z:aD y Y.1.size Ue Ue:=R▸aD.made _ _ _ _;have Gc:=Hn.size;have Ge:y.1.size<=Y.1.size+1/\Y.1.size+1<=y.1.size:=R▸oP;have Ha:=aE Hn q;obtain⟨M,Hh⟩:=zE Y.1.size;rw[Hh]at z⊢;rw[R];clear R;replace Hh:Y.1.size<=M/\M<=Y.1.size:=oM;refine m.out _ _ (E _ Ha)<|λqh=>?_;clear m K;try simp only[zP]
     clear q;refine fU (i:=9) (j:=15) (d:=Uq 36) (d':=Uq 6) oK oK oK ?_ ?_
     all_goals skip;intro o A Hu K m;simp only[eB,dZ,dY,eU]at A;subst A;go_simp
     .obtain⟨l,hl⟩:=zE y.1.size;refine(Hx _ Ha).mono ?_;rintro e r⟨H,xc,L,I,Hc,xc',He,Hd,Hk,rfl,O,Q,q⟩;have P:=aE Ha q;obtain⟨hh,Hj⟩:=zE r.1.size;have H6:=q.size;have H0:=Ha.size;have Gr:=z.lt;replace z:=z.bw q z.lt;rw[hl]at O;rw[Hj]at Q;replace hl:y.1.size<=l/\l<=y.1.size:=oM;replace Hj:r.1.size<=hh/\hh<=r.1.size:=oM;refine m.out _ _ (E _ P)<|λqh=>?_;clear m K;try simp only[zP]
      clear q;refine tZ 10 26 ?_;refine tZ 11 37 ?_;refine tZ 12 38 ?_;refine tZ 13 39 ?_;exact wU
     .obtain⟨r,T⟩:=zE (y.alloc (Uj #[Ue,Ue] 28));have q:Bl y r:=T▸zO _ _;have g:aD r y.1.size Ue Ue:=T▸aD.made _ _ _ _;have Gd:=Ha.size;have Gf:r.1.size<=y.1.size+1/\y.1.size+1<=r.1.size:=T▸oP;have P:=aE Ha q;obtain⟨A6,Hi⟩:=zE y.1.size;rw[Hi]at g⊢;rw[T];clear T;replace Hi:y.1.size<=A6/\A6<=y.1.size:=oM;have H9:=z.lt;replace z:=z.bw q z.lt;exact xC
    .obtain⟨y,T⟩:=zE (Y.alloc (Uj #[Ue,Ue] 28));have q:Bl Y y:=T▸zO _ _;have g:aD y Y.1.size Ue Ue:=T▸aD.made _ _ _ _;have Gd:=Hn.size;have Gf:y.1.size<=Y.1.size+1/\Y.1.size+1<=y.1.size:=T▸oP;have Ha:=aE Hn q;obtain⟨A6,Hi⟩:=zE Y.1.size;rw[Hi]at g⊢;rw[T];clear T;replace Hi:Y.1.size<=A6/\A6<=Y.1.size:=oM;refine m.out _ _ (E _ Ha)<|λqh=>?_;clear m K;try simp only[zP]
     clear q;refine fU (i:=9) (j:=14) (d:=Uq 36) (d':=Uq 5) oK oK oK ?_ ?_
     all_goals skip;intro o A Hu K m;simp only[eB,dZ,dY,eU]at A;subst A;go_simp
     .obtain⟨l,hl⟩:=zE y.1.size;refine(Hx _ Ha).mono ?_;rintro e r⟨H,xc,L,I,Hc,xc',He,Hd,Hk,rfl,O,Q,q⟩;have P:=aE Ha q;obtain⟨hh,Hj⟩:=zE r.1.size;have H6:=q.size;have H0:=Ha.size;have Gs:=g.lt;replace g:=g.bw q g.lt;rw[hl]at O;rw[Hj]at Q;replace hl:y.1.size<=l/\l<=y.1.size:=oM;replace Hj:r.1.size<=hh/\hh<=r.1.size:=oM;refine m.out _ _ (E _ P)<|λqh=>?_;clear m K;try simp only[zP]
      clear q;refine tZ 10 26 ?_;refine tZ 11 37 ?_;refine tZ 12 38 ?_;refine tZ 13 39 ?_;exact wT
     .obtain⟨r,R⟩:=zE (y.alloc (Uj #[Ue,Ue] 28));have q:Bl y r:=R▸zO _ _;have z:aD r y.1.size Ue Ue:=R▸aD.made _ _ _ _;have Gc:=Ha.size;have Ge:r.1.size<=y.1.size+1/\y.1.size+1<=r.1.size:=R▸oP;have P:=aE Ha q;obtain⟨M,Hh⟩:=zE y.1.size;rw[Hh]at z⊢;rw[R];clear R;replace Hh:y.1.size<=M/\M<=y.1.size:=oM;have Ga:=g.lt;replace g:=g.bw q g.lt;exact xC
   case rest=>
   obtain⟨M,A6,H,xc,L,I,Hc,xc',He,Hd,l,md,hh,rfl,rfl,rfl,HF⟩:=hcut;have H3:=aC<|aE H2 HF.low;clear E Hx;by_cases hC:C1=0
   .subst hC;obtain⟨Hl,Hm⟩:=HF.b5.q2;have Gg:=aC<|Bb H L xc I b wc Gi.1.2 Gi.1.1 HF.sx.at;obtain⟨F,hF⟩:=zE (bM b);have Gn:=aC hF;rw[hF]at Gg;clear hF;go_wp2_with fail;refine Gg.mono ?_;rintro e V⟨rfl,b4⟩;have H4:=aC<|aE H3 b4;have HV:=aC b4;clear b4 Gg Hl Hm;cases F with
    |false=>have H8:jB b D N=false:=(by unfold jB;rw[Gn.out];simp);have e:=HQ.out;rw[Ez hr A Gb.out H8]at e;injection e with e1 e2;injection e2 with e2 e3;subst e1 e2 e3;obtain⟨tt,uu,gg⟩:=(HG.bw H4).e4;have HE:=aC<|yF (C:=4) (HR.bw H4) zL (aE HB H4) (.iface tt uu);clear HQ;go_wp2_with fail;go_ret;exact HE
    |true=>
     have E:aA (∀w',Bl V w'->(w'.cell? (Ua rb 3)=Uq (Uf a' D.l.length c')/\w'.cell? (Ua rb 4)=Uq (Uf x' D.n d')/\w'.cell? (Ub A6)=Uq (Uf Hc N.l.length xc')/\w'.cell? (Ua A6 1)=Uq (Uf He N.n Hd))):=aC (λw' hb=>by
      have R2:=HR.bx.bw (aE H4 hb) HR.bx.lt;have Y2:=HF.b6.bw (aE HV hb) HF.b6.lt;exact⟨R2.c3,R2.c4,Y2.c0,Y2.c1⟩)
     have HJ:aA (∀u,Bl V u->Cl 54 #[Uo #[Uf a' D.l.length c',Uf x' D.n d'],Uo #[Uf Hc N.l.length xc',Uf He N.n Hd]] u λe w'=>Oy D N (bK D N&&bM (aZ D N)) u e w'):=aC (λu hb=>by
      obtain⟨tt,uu,gg⟩:=(HG.bw (aE H4 hb)).e4;exact Wn a' x' Hc He c' d' xc' Hd D N u Gt Gi.2 (HR.t.at.bw (aE H4 hb)) (HF.sy.at.bw (aE HV hb)) tt uu gg)
     obtain⟨B,hB⟩:=zE ((bK D N&&bM (aZ D N)));have Go:=aC hB;rw[hB]at HJ;clear hB;go_upto_region 10 with fail;go_cut [8,9]from 54 to 62 (λv8 v9 wx=>∃A8 ja jc jx jd l2 J,v8=Uk (Uc A8)/\(B=true/\v9=.nilIface\/B=false/\∃t u,v9=.iface t u)/\aA (aD wx A8 (Uf ja J.l.length jc) (Uf jx J.n jd)/\(B=true->J=aZ D N)/\aM wx l2 wx.1.size ja jx jd J/\V.1.size<=l2/\Bl V wx/\V.1.size<=A8));case first=>
      refine zS E<|λqh=>?_;refine tZ 0 55 ?_;refine tZ 1 56 ?_;refine tZ 2 57 ?_;refine tZ 3 58 ?_;refine tZ 4 59 ?_;obtain⟨Y,Hw⟩:=zE V.drew;have Hn:Bl V Y:=Hw▸zI.drew;rw[Hw];clear Hw;refine fU (i:=5) (j:=9) (d:=Uq 60) (d':=Uq 8) oK oK oK ?_ ?_
      all_goals skip;intro o A Hu K m;simp only[eB,dZ,dY,eU]at A;subst A;go_simp
      obtain⟨l2,Hz⟩:=zE Y.1.size;refine(HJ _ Hn).mono ?_;rintro e y⟨J,ja,jc,jx,jd,er,rfl,hJ,H7,oj,q⟩;have Ha:=aE Hn q;obtain⟨Hv,Hs⟩:=zE y.1.size;have H6:=q.size;have H0:=Hn.size;rw[Hz,Hs]at oj;replace Hz:Y.1.size<=l2/\l2<=Y.1.size:=oM;replace Hs:y.1.size<=Hv/\Hv<=y.1.size:=oM;refine m.out _ _ (E _ Ha)<|λqh=>?_;rotate_left
      focus
       obtain⟨y,Ht⟩:=zE (Y.alloc (Uj #[Ue,Ue] 28));have q:Bl Y y:=Ht▸zO _ _;have h8:aD y Y.1.size Ue Ue:=Ht▸aD.made _ _ _ _;have Gv:=Hn.size;have Gw:y.1.size<=Y.1.size+1/\Y.1.size+1<=y.1.size:=Ht▸oP;have Ha:=aE Hn q;obtain⟨A8,Hy⟩:=zE Y.1.size;rw[Hy]at h8⊢;rw[Ht];clear Ht;replace Hy:Y.1.size<=A8/\A8<=Y.1.size:=oM;refine m.out _ _ (E _ Ha)<|λqh=>?_;clear m K;try simp only[zP]
       clear q;refine cZ 5 ?_;intro K m;go_simp;obtain⟨l2,Hz⟩:=zE y.1.size;refine(HJ _ Ha).mono ?_;rintro e r⟨J,ja,jc,jx,jd,er,rfl,hJ,H7,oj,q⟩;have P:=aE Ha q;obtain⟨Hv,Hs⟩:=zE r.1.size;have H6:=q.size;have H0:=Ha.size;have Gy:=h8.lt;replace h8:=h8.bw q h8.lt;rw[Hz,Hs]at oj;replace Hz:y.1.size<=l2/\l2<=y.1.size:=oM;replace Hs:r.1.size<=Hv/\Hv<=r.1.size:=oM;refine m.out _ _ (E _ P)<|λqh=>?_
      rotate_left
      all_goals
       clear m K;try simp only[zP]
       clear q;refine tZ 6 54 ?_;refine tZ 7 61 ?_;refine tZ 8 62 ?_
      .refine cZ 9 ?_;intro K m;go_simp;obtain⟨r,Ht⟩:=zE (y.alloc (Uj #[Ue,Ue] 28));have q:Bl y r:=Ht▸zO _ _;have h8:aD r y.1.size Ue Ue:=Ht▸aD.made _ _ _ _;have Gv:=Ha.size;have Gw:r.1.size<=y.1.size+1/\y.1.size+1<=r.1.size:=Ht▸oP;have P:=aE Ha q;obtain⟨A8,Hy⟩:=zE y.1.size;rw[Hy]at h8⊢;rw[Ht];clear Ht;replace Hy:y.1.size<=A8/\A8<=y.1.size:=oM;replace oj:=oj.bw q;refine m.out _ _ (E _ P)<|λqh=>?_;clear m K;try simp only[zP]
       clear q;exact xI
      .exact xI
     case rest=>
     obtain⟨A8,ja,jc,jx,jd,l2,J,rfl,H7,Gh⟩:=hcut;have H5:=aC<|aE H4 Gh.2.2.2.2.1;clear E HJ;rcases H7 with⟨rfl,rfl⟩|⟨rfl,t,u,rfl⟩;have H8:jB b D N=true:=(by unfold jB;rw[Gn.out];have:=Go.out;simp only[Bool.and_eq_true]at this;rw[this.1,this.2];rfl);have e:=HQ.out;rw[Pv hr A Gb.out H8,<-Gh.2.1 rfl]at e;rotate_left;have H8:jB b D N=false:=(by unfold jB;rw[<-Bool.and_assoc,Go.out];rfl);have e:=HQ.out;rw[Ez hr A Gb.out H8]at e;rotate_left
     all_goals injection e with e1 e2;injection e2 with e2 e3;subst e1 e2 e3
     .obtain⟨j8,Gu,oj,Hz,bj,Hy⟩:=Gh.out;clear Gu;have X5:=HF.b5.bw (aE HV bj) HF.b5.lt;have R5:=HR.bx.bw H5 HR.bx.lt;have SX:=HF.sx.bw<|aE HV bj;have Gz:=HR.bx.lt;have hl:=HF.lo;have hU:=H2.size;have G6:=HF.sx.hl;have G5:=HV.size;have M1:=(R5.set1 (Uf H b.l.length xc)).set2<|Uf L b.n I;have M2:=(M1.set3 (Uf ja J.l.length jc)).set4<|Uf jx J.n jd;have X6:∀u0 u1,aD ((wc.setCell (Ua rb 1) u0).setCell (Ua rb 2) u1) A8 (Uf ja J.l.length jc) (Uf jx J.n jd):=λu0 u1=>(j8.setAt _ _ oQ).setAt _ _ oQ;obtain⟨p0,p1⟩:=X5.q2;have r1:=R5.c1;have r2:=R5.c2;have rf:=R5.f;have q0:=(X6 (Uf H b.l.length xc) (Uf L b.n I)).c0;have q1:=(X6 (Uf H b.l.length xc) (Uf L b.n I)).c1;have m3:=M1.c3;have m4:=M1.c4;have mf:=M1.f;have G7:=HF.sy.hl;have G4:=HR.s.hl;have Gx:=bj.size;have GX:=(Fb SX (rb:=rb) oM (Uf H b.l.length xc) (Uf L b.n I) (Uf ja J.l.length jc) (Uf jx J.n jd)).wide (hi':=l2) zL oM (by simp[Vr];exact oj.hl.1);have GJ:=Fb oj (rb:=rb) oM (Uf H b.l.length xc) (Uf L b.n I) (Uf ja J.l.length jc)<|Uf jx J.n jd;have HE:aA (Pd rb id lo b J 0 w (Ui .nilIface) _):=aC ⟨.nilIface,l,l2,_,H,L,ja,jx,xc,I,jc,jd,rfl,.inl ⟨rfl,rfl⟩,⟨M2,GX,GJ⟩,oM,CE (aE HB H5) _ _ _ _⟩;clear HQ GX GJ M1 M2 X5 X6 R5 SX j8 oj;go_wp2_with fail;go_ret;exact HE
     .obtain⟨tt,uu,gg⟩:=(HG.bw H5).e4;have HE:=aC<|yF (C:=4) (HR.bw H5) zL (aE HB H5) (.iface t u);clear HQ;go_wp2_with fail;go_ret;exact HE
   .have dC:(C1 !=0)=true:=oU hC;have e:=HQ.out;rw[Ps hr A Gb.out hC]at e;injection e with e1 e2;injection e2 with e2 e3;subst e1 e2 e3;obtain⟨tt,uu,gg⟩:=(HG.bw H3).e3;have HE:=aC<|yF (C:=C1) (HR.bw H3) zL (aE HB H3) (.iface tt uu);clear HQ;go_wp2_with fail;go_ret;exact HE
def Pa(id:Int)(X Z:Sx)(C:Int)(w:Ur)(e:Ending)(w':Ur):Prop:=∃a ca x dx a' ca' x' dx',e=Ui (Ul #[Uo #[Ud id,Uf a X.l.length ca,Uf x X.n dx,Uf a' Z.l.length ca',Uf x' Z.n dx'],Ud C])/\eP w' a x X/\eP w' a' x' Z/\Bl w w'
theorem LR(R:Rq)(k:Int)(pa:Option Us)(pc:Nat)(p:List ByteArray)(v:ByteArray)(X Z:Sx)(C:Int)(w:Ur)(hq:fY R.id R.S R.D k p v=(X,Z,C))(h:R.At w)(hp:p.length<=1048576)(hseg:aV w pa p)(hv:v.size<=1048576)(hid':(Lit.int Uh R.id).wf=true)(hG:tD w):
  Cl 6 #[.agg R.vs,Uo #[Ud k,Uf pa p.length pc,Um v]] w λe w'=>Pa R.id X Z C w e w':=by
 obtain⟨j,S,D,A,M,Y,Q,E,O,G,V⟩:=R;show Cl 6 #[Uo #[Ud j,Uf A S.l.length M,Uf Y S.n Q,Uf E D.l.length O,Uf G D.n V],Uo #[Ud k,Uf pa p.length pc,Um v]] w λe w'=>Pa j X Z C w e w';dsimp only at hq hid';obtain⟨W,g⟩:=zE (((w.alloc (Uj #[Ud j,Uf A S.l.length M,Uf Y S.n Q,Uf E D.l.length O,Uf G D.n V] 30)).alloc (Uj #[Ud k,Uf pa p.length pc,Um v] 33)).alloc (Uj #[Ud 0,Ue,Ue,Ue,Ue] 30));have y:Bl w W:=g▸(aU _ _ _).alloc oS _;have zW:W.1.size=w.1.size+3:=g▸oP;have A0:aF W w.1.size (Ud j) (Uf A S.l.length M) (Uf Y S.n Q) (Uf E D.l.length O) (Uf G D.n V):=g▸((aF.new w _ _ _ _ _ _).up _).up _;have O0:aH W (w.1.size+1) (Ud k) (Uf pa p.length pc) (Um v):=by
  rw[<-g];have:=aH.made (w.alloc (Uj #[Ud j,Uf A S.l.length M,Uf Y S.n Q,Uf E D.l.length O,Uf G D.n V] 30)) (Ud k) (Uf pa p.length pc) (Um v) 33;exact(by simpa using this:aH _ (w.1.size+1) _ _ _).up _
 have R0:aF W (w.1.size+1+1) (Ud 0) Ue Ue Ue Ue:=by
  rw[<-g];simpa using aF.new ((w.alloc (Uj #[Ud j,Uf A S.l.length M,Uf Y S.n Q,Uf E D.l.length O,Uf G D.n V] 30)).alloc (Uj #[Ud k,Uf pa p.length pc,Um v] 33)) (Ud 0) Ue Ue Ue Ue 30
 have Hd:=aC<|Oh j A Y E G M Q O V S D W h.m.1 h.m'.1 ⟨(h.s.bw y).lf.seg,(h.s.bw y).rn⟩ ⟨(h.t.bw y).lf.seg,(h.t.bw y).rn⟩;have Hc:=aC<|fun(u:Ur)(rb l m hh:Nat)(a x q x':Option Us)(c d c' d':Nat)(hb:Bl W u)(hr:rH u rb j l m hh a x q x' c d c' d' S D)=>RU rb j l m hh pc a x q x' pa c d c' d' S D k p v X Z C u hq h.m h.m' hr hp ((hseg.bw y).bw hb) hv hid' ((hG.bw y).bw hb);have HG:=aC hG;have HO:=aC O0;have HR:=aC R0;have HB:=aC y;have Hj:aA (w.1.size+3<=W.1.size):=aC oM;obtain⟨k0,k1,k2,k3,k4⟩:=A0.q5;clear y zW A0 O0 R0 h hseg hq hG;go_enter func6,ntmps6;go_wp2_with fail;try rw[g]
 clear g;refine Hd.mono ?_;rintro e w1⟨a,ca,x,dx,q,Ha,x',Hb,m2,rfl,s1,s2,T⟩;obtain⟨U,N⟩:=zE (w1.alloc (Uj #[Ud j,Uf a S.l.length ca,Uf x S.n dx,Uf q D.l.length Ha,Uf x' D.n Hb] 30));have L:Bl w1 U:=N▸zO _ _;have N2:aF U w1.1.size (Ud j) (Uf a S.l.length ca) (Uf x S.n dx) (Uf q D.l.length Ha) (Uf x' D.n Hb):=N▸aF.new _ _ _ _ _ _ _;have J:=aC<|aE T L;have O2:=HO.bw J HO.lt;obtain⟨o0,o1,o2⟩:=O2.q3;have HC:=aC<|Hc U w1.1.size _ _ _ a x q x' ca dx Ha Hb J ⟨N2,s1.bw L,s2.bw L⟩;have HN:aA (W.1.size<=w1.1.size):=aC T.size;clear s1 s2 T L N2 O2 Hd Hc k0 k1 k2 k3 k4;go_wp2_with fail;try rw[N]
 clear N;refine HC.mono ?_;rintro e B⟨er,l,md,hh,a,x,q,x',c,d,c',d',rfl,Hg,hR,hl,hg⟩;have F:aA (Bl W B):=aC (J.grown hg J.size (λk e=>by injection e with e;have:=HN.out;omega));have o:=aC hR;have HL:=aC hl;have Hi:aA (∀u,Bl B u->Cl 28 #[er] u (Rt u (Ud C))):=aC (λu hb=>by
  rcases Hg with⟨rfl,rfl⟩|⟨b,rfl,hc⟩
  .exact Qp u
  .exact GL b C u (HG.bw (aE HB (aE F hb))).gY ((hb.cell (p:=(Ub b)) (block_lt_of_cell hc)).trans hc))
 have He:aA (∀u,Bl B u->(u.cell? (Ub w1.1.size)=Uq (Ud j)/\u.cell? (Ua w1.1.size 1)=Uq (Uf a X.l.length c)/\u.cell? (Ua w1.1.size 2)=Uq (Uf x X.n d)/\u.cell? (Ua w1.1.size 3)=Uq (Uf q Z.l.length c')/\u.cell? (Ua w1.1.size 4)=Uq (Uf x' Z.n d'))):=aC (λu hb=>by
  have H:=o.bx.bw hb o.bx.lt;exact⟨H.c0,H.c1,H.c2,H.c3,H.c4⟩)
 clear Hg hR hl hg HC o0 o1 o2;go_wp2_with fail;refine zS He<|λqh=>?_;refine tZ 0 12 ?_;refine tZ 1 13 ?_;refine cZ 2 ?_;intro K I;go_simp;refine(Hi _ zI.drew).mono ?_;rintro e w5⟨rfl,b5⟩;have z:Bl B w5:=aE zI.drew b5;refine I.out _ _ (He _ z)<|λqh=>?_;clear I K;try simp only[zP]
 have P:=HR.bw (aE F z) HR.lt;obtain⟨r0,r1,r2,r3,r4,rf⟩:=P.p5;refine cZ 3 ?_;intro K I;go_simp;have hz:=Hj.out;have hn:=HN.out;have Hl:=HL.out;have Hk:=z.size;have hX:=o.s.bw z;have hZ:=o.t.bw z;have GX:=(Fa hX (r:=w.1.size+1+1) oM (Ud j) (Uf a X.l.length c) (Uf x X.n d) (Uf q Z.l.length c') (Uf x' Z.n d')).ct;have GZ:=(Fa hZ (r:=w.1.size+1+1) (oH hX.hl) (Ud j) (Uf a X.l.length c) (Uf x X.n d) (Uf q Z.l.length c') (Uf x' Z.n d')).ct;have Hf:=aE HB<|aE F z;have GB:=nW (r:=w.1.size+1+1) Hf oM (Ud j) (Uf a X.l.length c) (Uf x X.n d) (Uf q Z.l.length c')<|Uf x' Z.n d';have i:aF (((((w5.setCell (Ua (w.1.size+1+1) 0) (Ud j)).setCell (Ua (w.1.size+1+1) 1) (Uf a X.l.length c)).setCell (Ua (w.1.size+1+1) 2) (Uf x X.n d)).setCell (Ua (w.1.size+1+1) 3) (Uf q Z.l.length c')).setCell (Ua (w.1.size+1+1) 4) (Uf x' Z.n d')) w1.1.size (Ud j) (Uf a X.l.length c) (Uf x X.n d) (Uf q Z.l.length c') (Uf x' Z.n d'):=(((((o.bx.bw z o.bx.lt).setAt _ _ (by show w.1.size+1+1≠_;omega)).setAt _ _ (by show w.1.size+1+1≠_;omega)).setAt _ _ (by show w.1.size+1+1≠_;omega)).setAt _ _ (by show w.1.size+1+1≠_;omega)).setAt _ _ (by show w.1.size+1+1≠_;omega);have Q5:=((((P.set0 (Ud j)).set1 (Uf a X.l.length c)).set2 (Uf x X.n d)).set3 (Uf q Z.l.length c')).set4<|Uf x' Z.n d';refine I.out _ _ ⟨i.c0,i.c1,i.c2,i.c3,i.c4⟩<|λqh=>?_;clear I K;try simp only[zP]
 refine tZ 4 5 ?_;refine zD ?_;have HE:aA (Pa j X Z C w _ _):=aC ⟨a,c,x,d,q,c',x',d',rfl,GX,GZ,GB⟩;have Hh:=aC Q5;clear GX GZ GB i Q5 P hX hZ Hf z b5 qh;go_wp2_with fail;obtain⟨q0,q1,q2,q3,q4⟩:=Hh.q5;refine zF (v:=Ul #[Uo #[Ud j,Uf a X.l.length c,Uf x X.n d,Uf q Z.l.length c',Uf x' Z.n d'],Ud C]) (by simp[results,results6,go_sem,q0,q1,q2,q3,q4]) ?_;exact HE
def Em(rb:Nat)(id:Int)(v3 v4:Value)(X:Sx)(w:Ur)(e:Ending)(w':Ur):Prop:=∃ja jc jx jd lj,e=Ui (Ul #[Ue,.nilIface])/\aF w' rb (Ud id) (Uf ja X.l.length jc) (Uf jx X.n jd) v3 v4/\aM w' lj w'.1.size ja jx jd X/\w.1.size<=lj/\w.grownBy w' (Uq rb)
theorem Pi{Q:Prop}(h:Q:=by
 obtain⟨Hb,Hc,Hd⟩:=r.p2;refine cZ 11 ?_;intro K q;go_simp;have F:=r.set (Uf v J.l.length z)<|Uf g J.n h;have R:=((O.set (Ub k) (Uf v J.l.length z) oQ).set (Ua k 1) (Uf g J.n h) oQ).wide zL (show N<=((V.setCell (Ub k) (Uf v J.l.length z)).setCell (Ua k 1) (Uf g J.n h)).1.size by simp[Vr];omega) zL;have I:=(T.setCell (p:=(Ub k)) oQ (Uf v J.l.length z)).setCell (p:=(Ua k 1)) oQ<|Uf g J.n h;refine q.out _ _ (G _ I)<|λqh=>?_;clear q K;try simp only[zP]
 refine tZ 12 7 ?_;refine zD ?_;have Ha:=aC (And.intro F (And.intro Z (And.intro R (And.intro (show U.1.size<=s by omega) (And.intro I (show U.1.size<=k by omega))))));clear F R I Hb Hc Hd r O qh Z;go_wp2_with fail;go_meet;exact⟨k,v,z,g,h,s,J,rfl,rfl,Ha⟩):Q:=h
theorem xB{Q:Prop}(h:Q:=by
 refine q.out _ _ (G _ H)<|λqh=>?_;clear q K;try simp only[zP]
 clear m;refine cZ 6 ?_;intro K q;go_simp;obtain⟨s,C⟩:=zE b.1.size;refine(HJ _ _ _ _ _ H oy).mono ?_;rintro e V⟨J,v,z,g,h,er,rfl,Z,⟨_,rfl⟩|⟨h0,_⟩,O,m⟩;rotate_left;cases h0;replace Z:aA (J=aZ S Y):=aC (Z rfl);obtain⟨N,W⟩:=zE V.1.size;have T:=aE H m;have Hl:=m.size;have Ho:=H.size;have Hr:=r.lt;replace r:=r.bw m r.lt;rw[C,W]at O;replace C:b.1.size<=s/\s<=b.1.size:=oM;replace W:V.1.size<=N/\N<=V.1.size:=oM;refine q.out _ _ (G _ T)<|λqh=>?_;clear q K;try simp only[zP]
 clear m;refine tZ 7 20 ?_;refine tZ 8 28 ?_;refine tZ 9 29 ?_;exact Pi):Q:=h
theorem OQ{id:Int}{v3 v4:Value}(hj:xV S Y=true)(hm:dR S)(hx:aF w rb (Ud id) (Uf a S.l.length c) (Uf x S.n d) v3 v4)(s1:cX w a x S)(hE:pB Y f n)(hf:dO f)(hs:bY w pa n f)(hnc:n<=pc)(hcc:pc<=9223372036854775807)(hab:∀y,pa=Uq y->y.block<w.1.size)(hg:w.cell? (Ub 3)=Uq (.iface t u)):
  Cl 115 #[Uk (Uc rb),Uf pa n pc] w λe w'=>Em rb id v3 v4 (aZ S Y) w e w':=by
 obtain⟨P,hP⟩:=zE (Em rb id v3 v4 (aZ S Y) w);rw[hP];have HP:=aC hP;have Hj:=aC (BX hE hnc hcc hf hs hab);have HY:=aC (MF hE);have HR:=aC hx;have Hq:=aC s1;have HM:=aC hm;have HG:=aC hg;have HH:=aC hj;clear hx s1 hs hE hab hg hf hm hP hj;go_enter func115,ntmps115;go_wp2_with fail;refine Hj.mono ?_;rintro e w1⟨⟨m0,m1,m2,rfl,Hn⟩,b1⟩;obtain⟨U,hU⟩:=zE (w1.alloc (Uj #[.map m0,.map m1,.map m2] 111));have b2:Bl w1 U:=hU▸zO _ _;have V0:aH U w1.1.size (.map m0) (.map m1) (.map m2):=hU▸aH.made _ _ _ _ _;have HU:=aC (aE b1 b2);have HV:=aC V0;have G:aA (∀w',Bl U w'->(w'.cell? (Ua rb 1)=Uq (Uf a S.l.length c)/\w'.cell? (Ua rb 2)=Uq (Uf x S.n d)/\w'.cell? (Ub w1.1.size)=Uq (.map m0)/\w'.cell? (Ua w1.1.size 1)=Uq (.map m1)/\w'.cell? (Ua w1.1.size 2)=Uq (.map m2))):=aC (λw' hb=>by
  have R2:=HR.bw (aE HU hb) HR.lt;have Y2:=HV.bw hb HV.lt;exact⟨R2.c1,R2.c2,Y2.c0,Y2.c1,Y2.c2⟩)
 have Hg:=aC (λu hb=>Hn u (aE b2 hb));have HJ:aA (∀(u:Ur) (ya yx:Option Us) (yc yd:Nat),Bl U u->cX u ya yx Y->Cl 54 #[Uo #[Uf a S.l.length c,Uf x S.n d],Uo #[Uf ya Y.l.length yc,Uf yx Y.n yd]] u λe w'=>Oy S Y true u e w'):=aC (λu ya yx yc yd hb hy=>by
  have:=Wn a x ya yx c d yc yd S Y u HM HY (Hq.bw (aE HU hb)) hy t _ (((aE HU hb).cell (p:=(Ub 3)) (block_lt_of_cell HG)).trans HG);rw[show(bK S Y&&bM (aZ S Y))=true from HH.out]at this;exact this)
 clear b1 b2 V0 Hn Hj;go_upto_region 4 with fail;try rw[hU]
 clear hU;go_cut [7,8]from 20 to 29 (λv7 v8 wx=>∃A v z g h s J,v8=Uk (Uc A)/\v7=.nilIface/\aA (aD wx A (Uf v J.l.length z) (Uf g J.n h)/\J=aZ S Y/\aM wx s wx.1.size v g h J/\U.1.size<=s/\Bl U wx/\U.1.size<=A));case first=>
  refine zS G<|λqh=>?_;refine tZ 0 21 ?_;refine tZ 1 22 ?_;refine tZ 2 23 ?_;refine tZ 3 24 ?_;refine tZ 4 25 ?_;obtain⟨D,Hi⟩:=zE U.drew;have He:Bl U D:=Hi▸zI.drew;rw[Hi];clear Hi;refine fU (i:=5) (j:=10) (d:=Uq 26) (d':=Uq 8) oK oK oK ?_ ?_
  all_goals skip;intro o X Hh K q;simp only[eB,dZ,dY,eU]at X;subst X;go_simp
  refine(Hg _ He).mono ?_;rintro e Q⟨ya,yc,yx,yd,rfl,oy,m⟩;have L:=aE He m;have Ht:=m.size;have Hu:=He.size;rotate_left;obtain⟨Q,E⟩:=zE (D.alloc (Uj #[Ue,Ue] 28));have m:Bl D Q:=E▸zO _ _;have r:aD Q D.1.size Ue Ue:=E▸aD.made _ _ _ _;have Hm:=He.size;have Hp:Q.1.size<=D.1.size+1/\D.1.size+1<=Q.1.size:=E▸oP;have L:=aE He m;obtain⟨k,B⟩:=zE D.1.size;rw[B]at r⊢;rw[E];clear E;replace B:D.1.size<=k/\k<=D.1.size:=oM;rotate_left
  all_goals
   refine q.out _ _ (G _ L)<|λqh=>?_;clear q K;try simp only[zP]
   clear m
  .refine fU (i:=6) (j:=10) (d:=Uq 27) (d':=Uq 8) oK oK oK ?_ ?_
   all_goals skip;intro o X Hh K q;simp only[eB,dZ,dY,eU]at X;subst X;go_simp
   .obtain⟨s,C⟩:=zE Q.1.size;refine(HJ _ _ _ _ _ L oy).mono ?_;rintro e b⟨J,v,z,g,h,er,rfl,Z,⟨_,rfl⟩|⟨h0,_⟩,O,m⟩;rotate_left;cases h0;replace Z:aA (J=aZ S Y):=aC (Z rfl);obtain⟨N,W⟩:=zE b.1.size;have H:=aE L m;have Hl:=m.size;have Ho:=L.size;rw[C,W]at O;replace C:Q.1.size<=s/\s<=Q.1.size:=oM;replace W:b.1.size<=N/\N<=b.1.size:=oM;refine q.out _ _ (G _ H)<|λqh=>?_;clear q K;try simp only[zP]
    clear m;refine tZ 7 20 ?_;refine tZ 8 28 ?_;refine tZ 9 29 ?_;refine cZ 10 ?_;intro K q;go_simp;obtain⟨V,E⟩:=zE (b.alloc (Uj #[Ue,Ue] 28));have m:Bl b V:=E▸zO _ _;have r:aD V b.1.size Ue Ue:=E▸aD.made _ _ _ _;have Hm:=H.size;have Hp:V.1.size<=b.1.size+1/\b.1.size+1<=V.1.size:=E▸oP;have T:=aE H m;obtain⟨k,B⟩:=zE b.1.size;rw[B]at r⊢;rw[E];clear E;replace B:b.1.size<=k/\k<=b.1.size:=oM;replace O:=O.bw m;refine q.out _ _ (G _ T)<|λqh=>?_;clear q K;try simp only[zP]
    clear m;exact Pi
   .obtain⟨b,E⟩:=zE (Q.alloc (Uj #[Ue,Ue] 28));have m:Bl Q b:=E▸zO _ _;have r:aD b Q.1.size Ue Ue:=E▸aD.made _ _ _ _;have Hm:=L.size;have Hp:b.1.size<=Q.1.size+1/\Q.1.size+1<=b.1.size:=E▸oP;have H:=aE L m;obtain⟨k,B⟩:=zE Q.1.size;rw[B]at r⊢;rw[E];clear E;replace B:Q.1.size<=k/\k<=Q.1.size:=oM;replace oy:=oy.bw m;exact xB
  .refine cZ 5 ?_;intro K q;go_simp;refine(Hg _ L).mono ?_;rintro e b⟨ya,yc,yx,yd,rfl,oy,m⟩;have H:=aE L m;have Ht:=m.size;have Hu:=L.size;have Hv:=r.lt;replace r:=r.bw m r.lt;exact xB
 case rest=>
 obtain⟨k,v,z,g,h,s,J,rfl,rfl,Hf⟩:=hcut;have H5:=aC (aE HU Hf.2.2.2.2.1);clear G HJ Hg;obtain⟨j8,Hk,O,C,bj,B⟩:=Hf.out;rw[<-Hk]at HP;have R5:=HR.bw H5 HR.lt;have M:=(R5.set1 (Uf v J.l.length z)).set2 (Uf g J.n h);have Hs:=HR.lt;have hz:=HU.size;have HE:aA (P (Ui (Ul #[Ue,.nilIface])) ((wc.setCell (Ua rb 1) (Uf v J.l.length z)).setCell (Ua rb 2) (Uf g J.n h))):=aC (by
  rw[<-HP.out];exact⟨v,z,g,h,s,rfl,M,((O.set (Ua rb 1) _ (.inl oQ)).set (Ua rb 2) _ (.inl oQ)).wide zL (by simp[Vr]) zL,oM,CF H5 _ _⟩)
 obtain⟨p0,p1⟩:=j8.q2;have r1:=R5.c1;have r2:=(R5.set1 (Uf v J.l.length z)).c2;have r3:=R5.c2;have rf:=R5.f;have rg:=(R5.set1 (Uf v J.l.length z)).f;clear R5 M Hs hz j8 Hk O C bj B Hf;go_wp2_with fail;exact HE
theorem LU{id:Int}(hr:dP id S D=true)(hj:xV S Y=true)(hm:dR S)(hm':dR D)(hx:aF w rb (Ud id) (Uf a S.l.length c) (Uf x S.n d) (Uf a' D.l.length c') (Uf x' D.n d'))(s1:cX w a x S)(s2:cX w a' x' D)(hE:pB Y f n)(hf:dO f)(hs:bY w pa n f)(hnc:n<=pc)(hcc:pc<=9223372036854775807)(hab:∀y,pa=Uq y->y.block<w.1.size)(hg:w.cell? (Ub 3)=Uq (.iface t u)):
  Cl 37 #[Uk (Uc rb),Uo #[Ud 3,Uf pa n pc]] w λe w'=>Em rb id (Uf a' D.l.length c') (Uf x' D.n d') (aZ S Y) w e w':=by
 obtain⟨P,h⟩:=zE (Em rb id (Uf a' D.l.length c') (Uf x' D.n d') (aZ S Y) w);rw[h];have HP:=aC h;obtain⟨W,g⟩:=zE (w.alloc (Uj #[Ud 3,Uf pa n pc] 41));have k:Bl w W:=g▸zO _ _;have A:aD W w.1.size (Ud 3) (Uf pa n pc):=g▸aD.made _ _ _ _;have G:=hx.bw k hx.lt;have o:=aC (Ee id a x a' x' c d c' d' S D W hm.2 hm'.2 hm.1 hm'.1 (s1.bw k) (s2.bw k));rw[hr]at o;have q:=aC A;have HB:=aC k;have Q:aA (∀u,Bl W u->Cl 115 #[Uk (Uc rb),Uf pa n pc] u λe w'=>e=Ui (Ul #[Ue,.nilIface])/\P (Ui (Ul #[Ue,.nilIface])) w'):=aC (λu hb=>by
  have j:=aE k hb;refine(OQ hj hm (hx.bw j hx.lt) (s1.bw j) hE hf (hs.bw j) hnc hcc (λy hy=>Ut (hab y hy) j.size) ((j.cell (p:=(Ub 3)) (block_lt_of_cell hg)).trans hg)).mono ?_;rintro e w'⟨ja,jc,jx,jd,lj,rfl,R,T,v,h4⟩;rw[<-h];exact⟨rfl,ja,jc,jx,jd,lj,rfl,R,T,Nat.le_trans j.size v,AJ j h4⟩)
 have hk:(Lit.int Uh 3).wf=true:=oD;obtain⟨k0,k1,k2,k3,k4⟩:=G.q5;clear k A G hx hs hab hg hE hm hm' hf s1 s2 hr h hj;go_enter func37,ntmps37;go_wp2_with fail;try rw[g]
 clear g;refine o.mono ?_;rintro e w1⟨rfl,H⟩;have M:=aC H;clear H o k0 k1 k2 k3 k4;have r:aA (∀w',Bl w1 w'->w'.cell? (Ub w.1.size)=Uq (Ud 3)):=aC<|λw' hb=>(q.bw (aE M hb) q.lt).c0;go_wp2_with fail;refine zS r<|λqh=>?_;refine tZ 0 18 ?_;refine tZ 2 20 ?_;refine tZ 3 21 ?_;refine cZ 1 ?_;intro K m;go_simp;refine(SF rb _).mono ?_;rintro e B⟨b,cc,J,rfl,L,N,I⟩;have z:Bl w1 B:=aE zI.drew I;have X:=L.look hk;refine m.out _ _ (r _ z)<|λqh=>?_;clear m K;try simp only[zP]
 obtain⟨lv,s⟩:=zE (Ew (J 3));obtain⟨lb,i⟩:=zE ((J 3).isSome);rw[s,i]at X;refine cZ 4 ?_;intro K m;go_simp;refine m.out _ _ (r _ z)<|λqh=>?_;clear m K;try simp only[zP]
 refine tZ 5 17 ?_;refine tZ 6 23 ?_;refine tZ 7 24 ?_;refine tZ 8 6 ?_;refine tZ 9 7 ?_;refine zD ?_;have O:=aC<|aE M z;have Z:=aC<|And.intro s i;have V:=aC N;have E:=q.bw O q.lt;have F:=E.c1;clear qh z X s i N L I r E;obtain⟨rfl,rfl⟩:lv=.func (.func 115) #[Uk (Uc rb)] #[]/\lb=true:=by
  have e:=Z.out;rw[V.2.2.1]at e;exact⟨e.1.symm,e.2.symm⟩
 have U:=aC<|Q B O;clear Q Z V;go_wp2_with fail;refine U.mono ?_;rintro e w3⟨rfl,v⟩;have C:=aC v;clear v F U;go_wp2_with fail;exact C
def O4(id:Int)(X:Sx)(w:Ur)(e:Ending)(w':Ur):Prop:=∃a c x d a' m3 c' x' m4 d',e=Ui (Ul #[Uo #[Ud id,Uf a X.l.length c,Uf x X.n d,Uf a' m3 c',Uf x' m4 d'],Ue,Ud 0])/\eP w' a x X/\Bl w w'
theorem TQ(R:Rq)(h:R.At w)(L:R.ok)(hj:xV R.S Y=true)(hE:pB Y f n)(hf:dO f)(hs:bY w pa n f)(hnc:n<=pc)(hcc:pc<=9223372036854775807)(hab:∀y,pa=Uq y->y.block<w.1.size)(M:w.cell? (Ub 3)=Uq (.iface t u)):
  Cl 14 #[.agg R.vs,Uo #[Ud 3,Uf pa n pc]] w λe w'=>O4 R.id (aZ R.S Y) w e w':=by
 obtain⟨z,S,D,a,c,x,d,j,c',x',d'⟩:=R;show Cl 14 #[Uo #[Ud z,Uf a S.l.length c,Uf x S.n d,Uf j D.l.length c',Uf x' D.n d'],Uo #[Ud 3,Uf pa n pc]] w λe w'=>O4 z (aZ S Y) w e w';have V:cX w a x S:=⟨h.s.lf.seg,h.s.rn⟩;have Z:cX w j x' D:=⟨h.t.lf.seg,h.t.rn⟩;have hm:dR S:=h.m;have Ha:dR D:=h.m';have L:dP z S D=true:=L;dsimp only at hj;obtain⟨W,A⟩:=zE (((w.alloc (Uj #[Ud z,Uf a S.l.length c,Uf x S.n d,Uf j D.l.length c',Uf x' D.n d'] 30)).alloc (Uj #[Ud 3,Uf pa n pc] 41)).alloc (Uj #[Ud 0,Ue,Ue,Ue,Ue] 30));have i:Bl w W:=A▸(aU _ _ _).alloc oS _;have zW:W.1.size=w.1.size+3:=A▸oP;have A0:aF W w.1.size (Ud z) (Uf a S.l.length c) (Uf x S.n d) (Uf j D.l.length c') (Uf x' D.n d'):=A▸((aF.new w _ _ _ _ _ _).up _).up _;have O0:aD W (w.1.size+1) (Ud 3) (Uf pa n pc):=by
  rw[<-A];have:=aD.made (w.alloc (Uj #[Ud z,Uf a S.l.length c,Uf x S.n d,Uf j D.l.length c',Uf x' D.n d'] 30)) (Ud 3) (Uf pa n pc) 41;exact(by simpa using this:aD _ (w.1.size+1) _ _).allocs _
 have R0:aF W (w.1.size+1+1) (Ud 0) Ue Ue Ue Ue:=by
  rw[<-A];simpa using aF.new ((w.alloc (Uj #[Ud z,Uf a S.l.length c,Uf x S.n d,Uf j D.l.length c',Uf x' D.n d'] 30)).alloc (Uj #[Ud 3,Uf pa n pc] 41)) (Ud 0) Ue Ue Ue Ue 30
 have Hb:=aC<|Oh z a x j x' c d c' d' S D W hm.1 Ha.1 (V.bw i) (Z.bw i);have B:=aC<|fun(u:Ur)(rb:Nat)(a x j x':Option Us)(c d c' d':Nat)(hb:Bl W u)(h1:cX u a x S)(h2:cX u j x' D)(hx:aF u rb (Ud z) (Uf a S.l.length c) (Uf x S.n d) (Uf j D.l.length c') (Uf x' D.n d'))=>LU L hj hm Ha hx h1 h2 hE hf (hs.bw (aE i hb)) hnc hcc (λy hy=>Ut (hab y hy) (aE i hb).size) (((aE i hb).cell (p:=(Ub 3)) (block_lt_of_cell M)).trans M);obtain⟨X,hX⟩:=zE (aZ S Y);rw[hX]at B⊢;have HO:=aC O0;have HR:=aC R0;have HB:=aC i;have Hi:aA (w.1.size+3<=W.1.size):=aC oM;obtain⟨k0,k1,k2,k3,k4⟩:=A0.q5;clear i zW A0 O0 R0 V Z hs M hab hf L hE hj h hX hm Ha;go_enter func14,ntmps14;go_wp2_with fail;try rw[A]
 clear A;refine Hb.mono ?_;rintro e w1⟨a,T,x,dx,j,g,x',o,m2,rfl,V,Z,P⟩;obtain⟨U,J⟩:=zE (w1.alloc (Uj #[Ud z,Uf a S.l.length T,Uf x S.n dx,Uf j D.l.length g,Uf x' D.n o] 30));have I:Bl w1 U:=J▸zO _ _;have C:aF U w1.1.size (Ud z) (Uf a S.l.length T) (Uf x S.n dx) (Uf j D.l.length g) (Uf x' D.n o):=J▸aF.new _ _ _ _ _ _ _;have G:=aC<|aE P I;have O2:=HO.bw G HO.lt;obtain⟨o0,o1⟩:=O2.q2;have HC:=aC<|B U w1.1.size a x j x' T dx g o G (V.at.bw I) (Z.at.bw I) C;have HN:aA (W.1.size<=w1.1.size/\w1.1.size<U.1.size):=aC ⟨P.size,C.lt⟩;clear V Z P I C O2 Hb B k0 k1 k2 k3 k4;go_wp2_with fail;try rw[J]
 clear J;refine HC.mono ?_;rintro e w3⟨a,c,x,d,lo,rfl,He,Hg,Hf,M⟩;have N:aA (Bl W w3):=aC (G.grown M G.size (λk e=>by injection e with e;have:=HN.out;omega));have H:=aC He;have Hd:=aC (And.intro Hg Hf);have Hc:aA (∀u,Bl w3 u->(u.cell? (Ub w1.1.size)=Uq (Ud z)/\u.cell? (Ua w1.1.size 1)=Uq (Uf a X.l.length c)/\u.cell? (Ua w1.1.size 2)=Uq (Uf x X.n d)/\u.cell? (Ua w1.1.size 3)=Uq (Uf j D.l.length g)/\u.cell? (Ua w1.1.size 4)=Uq (Uf x' D.n o))):=aC (λu hb=>by
  have O:=H.bw hb H.lt;exact⟨O.c0,O.c1,O.c2,O.c3,O.c4⟩)
 clear He Hg Hf M HC o0 o1;go_wp2_with fail;refine zS Hc<|λqh=>?_;refine tZ 0 17 ?_;refine tZ 1 18 ?_;refine tZ 2 19 ?_;refine cZ 3 ?_;intro K Q;go_simp;refine(Qp _).mono ?_;rintro e w5⟨rfl,b5⟩;have b:Bl w3 w5:=aE zI.drew b5;refine Q.out _ _ (Hc _ b)<|λqh=>?_;clear Q K;try simp only[zP]
 have F:=HR.bw (aE N b) HR.lt;obtain⟨r0,r1,r2,r3,r4,rf⟩:=F.p5;refine cZ 4 ?_;intro K Q;go_simp;have hz:=Hi.out;have hn:=HN.out;have Hj:=b.size;have Hk:=N.size;have E:=(H.bw b H.lt).sm (IN w5 (q:=w1.1.size) (r:=w.1.size+1+1) oM (Ud z) (Uf a X.l.length c) (Uf x X.n d) (Uf j D.l.length g) (Uf x' D.n o)) (by simp[Vr]);have HE:aA (O4 z X w (Ui (Ul #[Uo #[Ud z,Uf a X.l.length c,Uf x X.n d,Uf j D.l.length g,Uf x' D.n o],Ue,Ud 0])) (((((w5.setCell (Ua (w.1.size+1+1) 0) (Ud z)).setCell (Ua (w.1.size+1+1) 1) (Uf a X.l.length c)).setCell (Ua (w.1.size+1+1) 2) (Uf x X.n d)).setCell (Ua (w.1.size+1+1) 3) (Uf j D.l.length g)).setCell (Ua (w.1.size+1+1) 4) (Uf x' D.n o))):=aC ⟨a,c,x,d,j,D.l.length,g,x',D.n,o,rfl,(Fa (Hd.1.bw b) (r:=w.1.size+1+1) (oH Hd.2) _ _ _ _ _).ct,TR (aE HB (aE N b)) oM _ _ _ _ _⟩;have Hh:=aC<|((((F.set0 (Ud z)).set1 (Uf a X.l.length c)).set2 (Uf x X.n d)).set3 (Uf j D.l.length g)).set4 (Uf x' D.n o);refine Q.out _ _ ⟨E.c0,E.c1,E.c2,E.c3,E.c4⟩<|λqh=>?_;clear Q K;try simp only[zP]
 refine tZ 5 5 ?_;refine tZ 6 6 ?_;refine zD ?_;clear E F b b5 qh hz hn Hj Hk;go_wp2_with fail;obtain⟨q0,q1,q2,q3,q4⟩:=Hh.q5;refine zF (v:=Ul #[Uo #[Ud z,Uf a X.l.length c,Uf x X.n d,Uf j D.l.length g,Uf x' D.n o],Ue,Ud 0]) (by simp[results,results14,go_sem,q0,q1,q2,q3,q4]) ?_;exact HE
theorem WN(sa sx ta tx:Option Us)(c d c' d':Nat)(S S':Sx)(w:Ur)(hm:S.Sm)(hm':S'.Sm)(h:eP w sa sx S)(h':eP w ta tx S'):
  Cl 13 #[Uo #[Uf sa S.l.length c,Uf sx S.n d],Uo #[Uf ta S'.l.length c',Uf tx S'.n d']] w (Rt w (Un (lP S S'))):=by
 obtain⟨W,u⟩:=zE ((w.alloc (Uj #[Uf sa S.l.length c,Uf sx S.n d] 28)).alloc (Uj #[Uf ta S'.l.length c',Uf tx S'.n d'] 28));have r:Bl w W:=u▸aU _ _ _;have i:aD W w.1.size (Uf sa S.l.length c) (Uf sx S.n d):=u▸(aD.made w _ _ _).allocs _;have b:aD W (w.1.size+1) (Uf ta S'.l.length c') (Uf tx S'.n d'):=by rw[<-u];simpa using aD.made (w.alloc (Uj #[Uf sa S.l.length c,Uf sx S.n d] 28)) (Uf ta S'.l.length c') (Uf tx S'.n d') 28
 have o:=aC<|SH sa sx ta tx c d c' d' S S' W hm hm' (h.bw r) (h'.bw r);have D:=aC<|Sa S S';have g:aA (∀w1 j m k q,Bl W w1->eP w1 j k (aZ S S')->Cl 29 #[Uo #[Uf j (aZ S S').l.length m,Uf k (aZ S S').n q],Uo #[Uf ta S'.l.length c',Uf tx S'.n d']] w1 (Rt w1 (Un (yes (bS (aZ S S') S'))))):=aC (λw1 j m k q z hj=>by have F:=(h'.bw r).bw z;exact Xs j k ta tx m q c' d' (aZ S S') S' w1 D hm' hj F);obtain⟨H,M⟩:=zE ((aZ S S').l.length);obtain⟨I,O⟩:=zE ((aZ S S').n);obtain⟨V,Q⟩:=zE (bK S S');obtain⟨E,A⟩:=zE (yes (bS (aZ S S') S'));obtain⟨B,s⟩:=zE (lP S S');have Z:aA (B=(V&&E)):=aC (by rw[<-s,<-Q,<-A];rfl);rw[M,O,Q]at o;rw[M,O,A]at g;rw[s];have N:=aC r;have HX:=aC i;have G:=aC b;obtain⟨P,R⟩:=i.q2;obtain⟨T,l1⟩:=b.q2;clear r i b M O Q A s;go_enter func13,ntmps13;go_wp2_with fail;try rw[u]
 clear u;refine o.mono ?_;rintro e w1⟨j,m,k,q,rfl,L,z⟩;obtain⟨U,v⟩:=zE (w1.alloc (Uj #[Uf j H m,Uf k I q] 28));have p:Bl w1 U:=v▸zO _ _;have J:aD U w1.1.size (Uf j H m) (Uf k I q):=v▸aD.made _ _ _ _;have y:=aE z p;have Y:=aC<|aE N y;have C:=aC (g U j m k q y (by have h:=(L.bw p).at;exact⟨h.1,h.2⟩));have K:=G.bw y G.lt;obtain⟨m0,m1⟩:=J.q2;obtain⟨m2,m3⟩:=K.q2;clear L z p J K y P R T l1 o g;cases V with
 |false=>
  have t:aA (B=false):=aC Z;go_wp2_with fail;try rw[v]
  go_ret;exact⟨cG t.symm,Y⟩
 |true=>
  have t:aA (B=E):=aC (by have:=Z.out;simpa using this);go_wp2_with fail;try rw[v]
  clear v;refine C.mono ?_;rintro e w3⟨rfl,b3⟩;have X:=aC<|aE Y b3;clear b3;go_wp2_with fail;go_ret;exact⟨cG t.symm,X⟩
theorem WW(a x a' x':Option Us)(c d c' d':Nat)(S S':Sx)(w:Ur)(hm:S.Sm)(hm':S'.Sm)(hi:∀i,eK (gL S.l i))(hi':∀i,eK (gL S'.l i))(h:cX w a x S)(h':cX w a' x' S'):
  Cl 9 #[Uo #[Uf a S.l.length c,Uf x S.n d],Uo #[Uf a' S'.l.length c',Uf x' S'.n d']] w (Rt w (Un (lP S S'))):=by
 obtain⟨W,u⟩:=zE ((w.alloc (Uj #[Uf a S.l.length c,Uf x S.n d] 28)).alloc (Uj #[Uf a' S'.l.length c',Uf x' S'.n d'] 28));have r:Bl w W:=u▸aU _ _ _;have b:aD W w.1.size (Uf a S.l.length c) (Uf x S.n d):=u▸(aD.made w _ _ _).allocs _;have p:aD W (w.1.size+1) (Uf a' S'.l.length c') (Uf x' S'.n d'):=by rw[<-u];simpa using aD.made (w.alloc (Uj #[Uf a S.l.length c,Uf x S.n d] 28)) (Uf a' S'.l.length c') (Uf x' S'.n d') 28
 have o:=aC<|Zh a x a' x' c d c' d' S S' W hm hm' hi hi' (h.bw r) (h'.bw r);have F:=aC<|Sa S S';have g:aA (∀w1 j m k q,Bl W w1->cX w1 j k (aZ S S')->Cl 33 #[Uo #[Uf j (aZ S S').l.length m,Uf k (aZ S S').n q],Uo #[Uf a' S'.l.length c',Uf x' S'.n d']] w1 (Rt w1 (Un (yes (bS (aZ S S') S'))))):=aC (λw1 j m k q z hj=>by have P:=(h'.bw r).bw z;exact AG j k a' x' m q c' d' (aZ S S') S' w1 F hm' hj P);obtain⟨I,O⟩:=zE ((aZ S S').l.length);obtain⟨J,Q⟩:=zE ((aZ S S').n);obtain⟨V,U⟩:=zE (bK S S');obtain⟨E,M⟩:=zE (yes (bS (aZ S S') S'));obtain⟨B,A⟩:=zE (lP S S');have G:aA (B=(V&&E)):=aC (by rw[<-A,<-U,<-M];rfl);rw[O,Q,U]at o;rw[O,Q,M]at g;rw[A];have X:=aC r;have HX:=aC b;have H:=aC p;obtain⟨R,T⟩:=b.q2;obtain⟨l0,l1⟩:=p.q2;clear r b p O Q U M A;go_enter func9,ntmps9;go_wp2_with fail;try rw[u]
 clear u;refine o.mono ?_;rintro e w1⟨j,m,k,q,rfl,N,z⟩;obtain⟨Y,v⟩:=zE (w1.alloc (Uj #[Uf j I m,Uf k J q] 28));have s:Bl w1 Y:=v▸zO _ _;have K:aD Y w1.1.size (Uf j I m) (Uf k J q):=v▸aD.made _ _ _ _;have y:=aE z s;have Z:=aC<|aE X y;have D:=aC<|g Y j m k q y ((N.bw s).at);have L:=H.bw y H.lt;obtain⟨m0,m1⟩:=K.q2;obtain⟨m2,m3⟩:=L.q2;clear N z s K L y R T l0 l1 o g;cases V with
 |false=>
  have t:aA (B=false):=aC G;go_wp2_with fail;try rw[v]
  go_ret;exact⟨cG t.symm,Z⟩
 |true=>
  have t:aA (B=E):=aC (by have:=G.out;simpa using this);go_wp2_with fail;try rw[v]
  clear v;refine D.mono ?_;rintro e w3⟨rfl,b3⟩;have C:=aC<|aE Z b3;clear b3;go_wp2_with fail;go_ret;exact⟨cG t.symm,C⟩
theorem Tx{zs:List Int}(h:Own w B (Uf a zs.length c) zs)(hb:Bl w w'):bY w' a zs.length (gz zs)/\zs.length<=c/\c<=9223372036854775807/\∀y,a=Uq y->y.block<w'.1.size:=by
 obtain⟨j,k,m,q⟩:=Xm (SP hb h);exact⟨q,j,k,m⟩
theorem MS(w:Ur)(ca:Option Us)(cn cc:Nat)(cf:Nat->Int)(hn:cn<=9223372036854775807)(hc:cn<=cc)(hs:bY w ca cn cf)(hf:dO cf)(hE:tD w):
  Cl 3 #[Uf ca cn cc] w (Rt w (Un true)):=by
 by_cases h1:cn<=1048576
 .have i1:¬(1048576:Int)<(cn:Int):=oM;have HT:=aC<|MG ca cn cc cf w hc hn hs hf;have HG:=aC hE;clear hs hf hE;go_enter func3,ntmps3;go_wp2_with fail;refine HT.mono ?_;rintro e v1⟨⟨j,S,D,a,c,x,d,a',c',x',d'⟩,K,pa,pc,p,v,rfl,⟨t1,m1⟩,⟨hp,hv⟩,K5,Kj,b1⟩;simp only[Rq.vs];clear HT;go_upto_region 4 with fail;obtain⟨U,hU⟩:=zE ((v1.alloc (Uj #[Ud j,Uf a S.l.length c,Uf x S.n d,Uf a' D.l.length c',Uf x' D.n d'] 30)).alloc (Uj #[Ud K,Uf pa p.length pc,Um v] 33));have bU:Bl v1 U:=hU▸aU _ _ _;have AU:aF U v1.1.size (Ud j) (Uf a S.l.length c) (Uf x S.n d) (Uf a' D.l.length c') (Uf x' D.n d'):=hU▸(aF.new _ _ _ _ _ _ _).up _;have OU:aH U (v1.1.size+1) (Ud K) (Uf pa p.length pc) (Um v):=by
   rw[<-hU];simpa using aH.made (v1.alloc (Uj #[Ud j,Uf a S.l.length c,Uf x S.n d,Uf a' D.l.length c',Uf x' D.n d'] 30)) (Ud K) (Uf pa p.length pc) (Um v) 33
  try rw[hU]
  clear hU;obtain⟨ra,Ki⟩:=zE v1.1.size;rw[Ki]at AU OU;rw[Ki];clear Ki;obtain⟨X,Z,C,hq⟩:∃X Z C,fY j S D K p v=(X,Z,C):=⟨_,_,_,rfl⟩;have Kp:=aC (aE b1 bU);have Hz:aA (∀u,Bl U u->Rq.At ⟨j,S,D,a,c,x,d,a',c',x',d'⟩ u):=aC (λu hu=>t1.bw (aE bU hu));have Kz:=aC (λu(hu:Bl U u)=>Ts ⟨j,S,D,a,c,x,d,a',c',x',d'⟩ K pa pc p v X Z C u hq (t1.bw (aE bU hu)) m1.s.t ⟨m1.s.p,m1.t.p⟩ oM K5 (Kj.bw (aE bU hu)) oM);have Ky:=aC (λu(hu:Bl U u)=>LR ⟨j,S,D,a,c,x,d,a',c',x',d'⟩ K pa pc p v X Z C u hq (t1.bw (aE bU hu)) oM (Kj.bw (aE bU hu)) oM (eX (by have:=m1.i;simp only at this⊢;omega) (by have:=m1.i;simp only at this⊢;omega)) (HG.bw (aE Kp hu)));have Hd:=aC (LF m1.s.m m1.t.m hq);have Jz:=aC m1;have HQ:=aC hq;have Ko:=aC AU;have Kx:=aC OU;clear bU AU OU t1 m1 hp hv K5 Kj b1 hq;have Gj:aA (∀u,Bl U u->(u.cell? (Ub ra)=Uq (Ud j)/\u.cell? (Ua ra 1)=Uq (Uf a S.l.length c)/\u.cell? (Ua ra 2)=Uq (Uf x S.n d)/\u.cell? (Ua ra 3)=Uq (Uf a' D.l.length c')/\u.cell? (Ua ra 4)=Uq (Uf x' D.n d'))/\u.cell? (Ua (ra+1) 0)=Uq (Ud K)/\u.cell? (Ua (ra+1) 1)=Uq (Uf pa p.length pc)/\u.cell? (Ua (ra+1) 2)=Uq (Um v)):=aC (λu hu=>by
   have A:=Ko.bw hu Ko.lt;have O:=Kx.bw hu Kx.lt;exact⟨⟨A.c0,A.c1,A.c2,A.c3,A.c4⟩,O.c0,O.c1,O.c2⟩)
  obtain⟨⟨q,r,z,g,o⟩,E,M,V⟩:=Gj U zI;go_wp2_with fail;refine(Kz U zI).mono ?_;rintro e v2⟨ya,yc,yx,yd,Gf,Gg,Gi,Gh,rfl,_,b2⟩;obtain⟨V2,Kf⟩:=zE (v2.alloc (Uj #[Ud j,Uf ya X.l.length yc,Uf yx X.n yd,Uf Gf Z.l.length Gg,Uf Gi Z.n Gh] 30));have H2:aA (Bl U V2):=aC<|aE b2 (Kf▸zO _ _);clear b2 q r z g o E M V;obtain⟨⟨q,r,z,g,o⟩,E,M,V⟩:=Gj V2 H2;go_wp2_with fail;try rw[Kf]
  clear Kf;refine(Ky V2 H2).mono ?_;rintro e v3⟨F,R,P,W,Hh,Hj,Hi,Hk,rfl,s3,t3,b3⟩;obtain⟨V3,Hu⟩:=zE (v3.alloc (Uj #[Ud j,Uf F X.l.length R,Uf P X.n W,Uf Hh Z.l.length Hj,Uf Hi Z.n Hk] 30));have b4:Bl v3 V3:=Hu▸zO _ _;have N3:aF V3 v3.1.size (Ud j) (Uf F X.l.length R) (Uf P X.n W) (Uf Hh Z.l.length Hj) (Uf Hi Z.n Hk):=Hu▸aF.new _ _ _ _ _ _ _;obtain⟨rn,Gd⟩:=zE v3.1.size;rw[Gd]at N3;have H3:aA (Bl U V3):=aC (aE H2 (aE b3 b4));have Hq:=aC (And.intro (s3.bw b4) (t3.bw b4));have Kv:=aC N3;have Hc:aA (∀u,Bl V3 u->((u.cell? (Ub ra)=Uq (Ud j)/\u.cell? (Ua ra 1)=Uq (Uf a S.l.length c)/\u.cell? (Ua ra 2)=Uq (Uf x S.n d)/\u.cell? (Ua ra 3)=Uq (Uf a' D.l.length c')/\u.cell? (Ua ra 4)=Uq (Uf x' D.n d'))/\u.cell? (Ua (ra+1) 0)=Uq (Ud K)/\u.cell? (Ua (ra+1) 1)=Uq (Uf pa p.length pc)/\u.cell? (Ua (ra+1) 2)=Uq (Um v))/\u.cell? (Ub rn)=Uq (Ud j)/\u.cell? (Ua rn 1)=Uq (Uf F X.l.length R)/\u.cell? (Ua rn 2)=Uq (Uf P X.n W)/\u.cell? (Ua rn 3)=Uq (Uf Hh Z.l.length Hj)/\u.cell? (Ua rn 4)=Uq (Uf Hi Z.n Hk)):=aC (λu hu=>by
   have N:=Kv.bw hu Kv.lt;exact⟨Gj u (aE H3 hu),N.c0,N.c1,N.c2,N.c3,N.c4⟩)
  have Hb:aA (∀u,Bl V3 u->eP u F P X/\eP u Hh Hi Z):=aC<|λu hu=>⟨Hq.1.bw hu,Hq.2.bw hu⟩;have H4:aA (∀u,Bl V3 u->Bl w u):=aC<|λu hu=>aE Kp (aE H3 hu);clear s3 t3 b3 b4 N3 q r z g o E M V Ky;obtain⟨⟨⟨q,r,z,g,o⟩,E,M,V⟩,Y,G,H,I,L⟩:=Hc V3 zI;have cC:(C !=C)=false:=oP;have cI:(j==j)=true:=oP;have cJ:(j !=j)=false:=oP;by_cases hC:C=0
  .subst hC;obtain⟨hr,Gv,K4⟩:=CJ HQ;have G1:=aC K4;have Jn:=aC hr;have G4:=aC Gv;have Gk:=aC (kD Gv);have Kw:aA (Cl 8 #[Uo #[Ud j,Uf F X.l.length R,Uf P X.n W,Uf Hh Z.l.length Hj,Uf Hi Z.n Hk]] V3 (Rt V3 (Un true))):=aC (by
    have:=Ee j F P Hh Hi R W Hj Hk X Z V3 Hd.1.2 Hd.2.2 Hd.1.1 Hd.2.1 ⟨Hq.1.lf.seg,Hq.1.rn⟩ ⟨Hq.2.lf.seg,Hq.2.rn⟩;rw[Gv]at this;exact this)
   clear hr Gv K4;go_wp2_with fail;try rw[Hu]
   try rw[Gd]
   clear Hu Gd;refine Kw.mono ?_;rintro e v5⟨rfl,b5⟩;have H5:=aC b5;clear b5 Kw q r z g o E M V Y G H I L;obtain⟨⟨⟨q,r,z,g,o⟩,E,M,V⟩,Y,G,H,I,L⟩:=Hc v5 H5;have Hy:aA (Cl 9 #[Uo #[Uf a S.l.length c,Uf x S.n d],Uo #[Uf F X.l.length R,Uf P X.n W]] v5 (Rt v5 (Un true))):=aC (by
    have k:=Hz v5 (aE H3 H5);have:=WW a x F P c d R W S X v5 k.m.1 Hd.1.1 k.m.2 Hd.1.2 ⟨k.s.lf.seg,k.s.rn⟩ ⟨(Hb v5 H5).1.lf.seg,(Hb v5 H5).1.rn⟩;rw[G1.am]at this;exact this)
   go_wp2_with fail;refine Hy.mono ?_;rintro e v6⟨rfl,b6⟩;have H6:=aC<|aE H5 b6;clear b6 Hy Gj q r z g o E M V Y G H I L;obtain⟨⟨⟨q,r,z,g,o⟩,E,M,V⟩,Y,G,H,I,L⟩:=Hc v6 H6;go_wp2_with fail;refine(Kz v6 (aE H3 H6)).mono ?_;rintro e v7⟨ya,yc,yx,yd,Gf,Gg,Gi,Gh,rfl,n7,b7⟩;obtain⟨V7,Gs⟩:=zE (v7.alloc (Uj #[Ud j,Uf ya X.l.length yc,Uf yx X.n yd,Uf Gf Z.l.length Gg,Uf Gi Z.n Gh] 30));have Kb:Bl v7 V7:=Gs▸zO _ _;have M7:aF V7 v7.1.size (Ud j) (Uf ya X.l.length yc) (Uf yx X.n yd) (Uf Gf Z.l.length Gg) (Uf Gi Z.n Gh):=Gs▸aF.new _ _ _ _ _ _ _;have H7:=aC<|aE H6 (aE b7 Kb);have G2:=aC<|AE ⟨j,X,Z,ya,yc,yx,yd,Gf,Gg,Gi,Gh⟩ V7 ((n7.at G4).bw Kb) G4;simp only[Rq.vs]at G2;obtain⟨p0,p1,p2,p3,p4⟩:=M7.q5;clear n7 b7 Kb M7 q r z g o E M V Y G H I L;go_wp2_with fail;try rw[Gs]
   clear Gs;refine G2.mono ?_;rintro e v8⟨za,zc,zx,zd,Jc,Jd,Jf,Je,K8,f8,rfl,_,b8,Gu⟩;dsimp only at b8 Gu⊢;obtain⟨g8,l8,j8,rfl⟩:∃a n c,f8=Uf a n c:=(by rcases Gu with⟨_,_,h⟩|⟨_,_,va,vc,h,_⟩<;>exact⟨_,_,_,h⟩);obtain⟨Q,hQ⟩:=zE ((if eT Z=true then Z else Sx.mt));rw[hQ];obtain⟨V8,Gt⟩:=zE ((v8.alloc (Uj #[Ud j,Uf za X.l.length zc,Uf zx X.n zd,Uf Jc Q.l.length Jd,Uf Jf Q.n Je] 30)).alloc (Uj #[Ud K8,Uf g8 l8 j8] 41));have Kc:Bl v8 V8:=Gt▸aU _ _ _;have F8:aD V8 (v8.1.size+1) (Ud K8) (Uf g8 l8 j8):=by
    rw[<-Gt];simpa using aD.made (v8.alloc (Uj #[Ud j,Uf za X.l.length zc,Uf zx X.n zd,Uf Jc Q.l.length Jd,Uf Jf Q.n Je] 30)) (Ud K8) (Uf g8 l8 j8) 41
   have H8:=aC<|aE H7 (aE b8 Kc);have K1:=aC Kc;have Kt:=aC<|Zx j F P Hh Hi R W Hj Hk X Z V8 ⟨(Hb V8 H8).1.lf.seg,(Hb V8 H8).1.rn⟩ ⟨(Hb V8 H8).2.lf.seg,(Hb V8 H8).2.rn⟩ G4;have Gl:=aC F8;have Ku:=aC Gu;clear b8 Kc F8 Gu G2 p0 p1 p2 p3 p4;obtain⟨⟨⟨q,r,z,g,o⟩,E,M,V⟩,Y,G,H,I,L⟩:=Hc V8 H8;go_wp2_with fail;try rw[Gt]
   clear Gt;refine Kt.mono ?_;rintro e v9⟨fa,fc,fx,fd,Gn,Go,Gq,Gp,K9,f9,rfl,s9,t9,b9,Kh⟩;rw[hQ]at t9⊢;obtain⟨g9,l9,j9,rfl⟩:∃a n c,f9=Uf a n c:=(by rcases Kh with⟨_,_,h⟩|⟨_,_,va,vc,h,_⟩<;>exact⟨_,_,_,h⟩);obtain⟨V9,Gb⟩:=zE ((v9.alloc (Uj #[Ud j,Uf fa X.l.length fc,Uf fx X.n fd,Uf Gn Q.l.length Go,Uf Gq Q.n Gp] 30)).alloc (Uj #[Ud K9,Uf g9 l9 j9] 41));have Ht:Bl v9 V9:=Gb▸aU _ _ _;have F9:aD V9 (v9.1.size+1) (Ud K9) (Uf g9 l9 j9):=by
    rw[<-Gb];simpa using aD.made (v9.alloc (Uj #[Ud j,Uf fa X.l.length fc,Uf fx X.n fd,Uf Gn Q.l.length Go,Uf Gq Q.n Gp] 30)) (Ud K9) (Uf g9 l9 j9) 41
   have A9:aF V9 v9.1.size (Ud j) (Uf fa X.l.length fc) (Uf fx X.n fd) (Uf Gn Q.l.length Go) (Uf Gq Q.n Gp):=Gb▸(aF.new _ _ _ _ _ _ _).up _;have H9:=aC (aE H8 (aE b9 Ht));have Gz:=aC (aE b9 Ht);have Jo:=aC Ht;have Kq:=aC F9;have Kn:=aC A9;have H1:=aC (And.intro (s9.bw Ht) (t9.bw Ht));have G3:=aC Kh;have E8:=Gl.bw Gz Gl.lt;obtain⟨q0,q1⟩:=E8.q2;obtain⟨e0,e1⟩:=F9.q2;clear s9 t9 b9 Ht F9 A9 Kh Kt E8 q r z g o E M V Y G H I L;obtain⟨MB,Gr⟩:=zE (eT Z);have Kr:aA (∃B:List Int,l8=B.length/\l9=B.length/\K8=K9/\dO (gz B)/\bY V9 g8 B.length (gz B)/\bY V9 g9 B.length (gz B)/\(MB=false->K9=3/\B=Z.b/\B.length<=j9/\j9<=9223372036854775807/\∀y,g9=Uq y->y.block<V9.1.size)):=aC (by
    rcases Ku.out with⟨k,rfl,e8⟩|⟨k,rfl,va,vc,e8,o8⟩
    .injection e8 with e1 e2 e3;subst e1 e2 e3;rcases G3.out with⟨_,rfl,e9⟩|⟨h1,_⟩
     .injection e9 with e1 e2 e3;subst e1 e2 e3;exact⟨[],rfl,rfl,rfl,λi=>by simp[gz],.inl rfl,.inl rfl,λh=>by rw[<-Gr,k]at h;cases h⟩
     .rw[k]at h1;cases h1
    .injection e8 with e1 e2 e3;subst e1 e2 e3;rcases G3.out with⟨h1,_⟩|⟨_,rfl,ua,uc,e9,o9⟩
     .rw[k]at h1;cases h1
     .injection e9 with e1 e2 e3;subst e1 e2 e3;obtain⟨k1,_⟩:=Tx o8 (aE K1 Gz);obtain⟨j1,j2,j3,j4⟩:=Tx o9 Jo;exact⟨Z.b,rfl,rfl,rfl,V1 Gk.2.2,k1,j1,λ_=>⟨rfl,rfl,j2,j3,j4⟩⟩)
   have Jm:=aC Gr;rw[Gr]at hQ⊢;clear Gr;obtain⟨B,rfl,rfl,rfl,Kg,s8,s9,h3⟩:=Kr.out;obtain⟨T,hT⟩:=zE ((V9.alloc (Uj #[Ud K8,Uf g9 B.length j9] 41)).alloc (Uj #[Ud K8,Uf g8 B.length j8] 41));have bT:Bl V9 T:=hT▸aU _ _ _;have T1:aD T V9.1.size (Ud K8) (Uf g9 B.length j9):=hT▸(aD.made _ _ _ _).allocs _;have T2:aD T (V9.1.size+1) (Ud K8) (Uf g8 B.length j8):=by
    rw[<-hT];simpa using aD.made (V9.alloc (Uj #[Ud K8,Uf g9 B.length j9] 41)) (Ud K8) (Uf g8 B.length j8) 41
   have K0:=aC<|MN V9.1.size (V9.1.size+1) 1 1 g9 g8 j9 j8 B T T1.c0 T1.c1 T2.c0 T2.c1 Kg (s9.bw bT) (s8.bw bT);have HT:=aC<|aE H9 bT;have Ji:=aC bT;have Jg:=aC<|And.intro s9 h3;have Jj:=aC Kg;have cB:((!MB) !=(!MB))=false:=oP;have E8:=(Gl.bw Gz Gl.lt).allocs<|Uj #[Ud K8,Uf g9 B.length j9] 41;obtain⟨q2,q3⟩:=E8.q2;clear E8;clear bT T1 T2 s8 s9 h3 Kg Kr Ku G3 H8 K1;go_wp2_with fail;try rw[Gb]
   try rw[hT]
   clear Gb hT;refine K0.mono ?_;rintro e Hp⟨rfl,G8⟩;have Hv:=aC<|aE HT G8;have Ha:=aC<|aE Ji G8;clear G8 K0 q0 q1 q2 q3 e0 e1;obtain⟨⟨⟨q,r,z,g,o⟩,E,M,V⟩,Y,G,H,I,L⟩:=Hc Hp Hv;cases MB with
   |true=>
    have He:aA (Cl 7 #[Uo #[Uf F X.l.length R,Uf P X.n W],Uo #[Uf a S.l.length c,Uf x S.n d]] Hp (Rt Hp (Un true))):=aC (by
     have k:=Hz Hp (aE H3 Hv);have:=yQ F P a x R W c d X S Hp Hd.1.1 k.m.1 (Hb Hp Hv).1 k.s;rw[aN (G1.mt Jm.out)]at this;exact this)
    go_wp2_with fail;refine He.mono ?_;rintro e Kk⟨rfl,Hs⟩;go_wp2_with fail;go_ret;exact⟨rfl,H4 _ (aE Hv Hs)⟩
   |false=>
    obtain rfl:Sx.mt=Q:=hQ;have G5:=Kn.bw Ha Kn.lt;obtain⟨r0,r1,r2,r3,r4⟩:=G5.q5;have H0:=aC G5;have Ks:=aC (Zx j fa fx Gn Gq fc fd Go Gp X Sx.mt Hp ⟨(H1.1.bw Ha).lf.seg,(H1.1.bw Ha).rn⟩ ⟨(H1.2.bw Ha).lf.seg,(H1.2.bw Ha).rn⟩ (tL Gk.1 Gk.2.1 Cg));clear G5 q r z g o E M V Y G H I L;go_wp2_with fail;refine Ks.mono ?_;rintro e Kk⟨ba,bc,bx,bd,Jr,Js,Ju,Jt,Jp,Jv,rfl,_,_,Hs,Gc⟩;obtain⟨Jw,Jy,Jx,rfl⟩:∃a n c,Jv=Uf a n c:=(by rcases Gc with⟨_,_,h⟩|⟨_,_,va,vc,h,_⟩<;>exact⟨_,_,_,h⟩);rw[show eT Sx.mt=true from rfl];obtain⟨Km,Ga⟩:=zE ((if true=true then Sx.mt else Sx.mt));rw[Ga];obtain⟨Hr,Ho⟩:=zE ((Kk.alloc (Uj #[Ud j,Uf ba X.l.length bc,Uf bx X.n bd,Uf Jr Km.l.length Js,Uf Ju Km.n Jt] 30)).alloc (Uj #[Ud Jp,Uf Jw Jy Jx] 41));have Hf:Bl Kk Hr:=Ho▸aU _ _ _;have Gw:=aC (aE Hv (aE Hs Hf));have Hx:=aC (aE Ha (aE Hs Hf));have He:aA (Cl 7 #[Uo #[Uf fa X.l.length fc,Uf fx X.n fd],Uo #[Uf F X.l.length R,Uf P X.n W]] Hr (Rt Hr (Un true))):=aC (by
     have:=yQ fa fx F P fc fd R W X X Hr Hd.1.1 Hd.1.1 (H1.1.bw Hx) (Hb Hr Gw).1;rw[aN (bS.refl X)]at this;exact this)
    have G6:=H0.bw (aE Hs Hf) H0.lt;clear r0 r1 r2 r3 r4;have r1:=G6.c1;have r2:=G6.c2;clear Hs Hf G6 Ga Ks Gc;obtain⟨⟨⟨q,r,z,g,o⟩,E,M,V⟩,Y,G,H,I,L⟩:=Hc Hr Gw;go_wp2_with fail;try rw[Ho]
    clear Ho;refine He.mono ?_;rintro e Ge⟨rfl,G9⟩;have Gx:=aC (aE Gw G9);have G0:=aC (aE Hx G9);clear G9 He r1 r2 q r z g o E M V Y G H I L;obtain⟨⟨⟨q,r,z,g,o⟩,E,M,V⟩,Y,G,H,I,L⟩:=Hc Ge Gx;obtain⟨AD,Kd⟩:=zE (lP D S);have Hy:aA (Cl 13 #[Uo #[Uf a' D.l.length c',Uf x' D.n d'],Uo #[Uf a S.l.length c,Uf x S.n d]] Ge (Rt Ge (Un AD))):=aC (by
     have k:=Hz Ge (aE H3 Gx);rw[<-Kd];exact WN a' x' a x c' d' c d D S Ge k.m'.1 k.m.1 k.t k.s)
    have Jh:=aC Kd;clear Kd;go_wp2_with fail;refine Hy.mono ?_;rintro e Jb⟨rfl,Ka⟩;have Hw:=aC<|aE Gx Ka;have Hl:=aC<|aE G0 Ka;clear Ka Hy q r z g o E M V Y G H I L;cases AD with
    |false=>
     go_wp2_with fail;go_ret;exact⟨rfl,H4 _ Hw⟩
    |true=>
     obtain⟨hj,Ke⟩:=G1.hj Jh;obtain⟨s9,h3⟩:=Jg.out;obtain⟨rfl,rfl,K6,K7,Ja⟩:=h3 oP;obtain⟨tt,uu,gg⟩:=(HG.bw (H4 _ Hw)).e4;have Gm:=aC (TQ ⟨j,S,D,a,c,x,d,a',c',x',d'⟩ (Hz Jb (aE H3 Hw)) Jn hj (RC Gk.2.2) Jj (s9.bw Hl) K6 K7 (λy hy=>Ut (Ja y hy) Hl.size) gg);simp only[Rq.vs]at Gm;obtain⟨J,hJ⟩:=zE (aZ S Z);have K3:J.Sm:=hJ▸(yI S Z).1;rw[hJ]at Gm Ke;have Jk:=aC Ke;have Jl:=aC K3;obtain⟨⟨⟨q,r,z,g,o⟩,E,M,V⟩,Y,G,H,I,L⟩:=Hc Jb Hw;have E9:=Kq.bw Hl Kq.lt;obtain⟨e0,e1⟩:=E9.q2;clear hj Ke s9 h3 K6 K7 Ja gg hJ K3 E9;go_wp2_with fail;refine Gm.mono ?_;rintro e Kl⟨ha,hc,hx,hd,ka,k3,kc,kx,k4,kd,rfl,sJ,K2⟩;obtain⟨Hm,Hg⟩:=zE (Kl.alloc (Uj #[Ud j,Uf ha J.l.length hc,Uf hx J.n hd,Uf ka k3 kc,Uf kx k4 kd] 30));have Hn:Bl Kl Hm:=Hg▸zO _ _;have G7:aF Hm Kl.1.size (Ud j) (Uf ha J.l.length hc) (Uf hx J.n hd) (Uf ka k3 kc) (Uf kx k4 kd):=Hg▸aF.new _ _ _ _ _ _ _;have Gy:=aC (aE Hw (aE K2 Hn));have He:aA (Cl 7 #[Uo #[Uf ha J.l.length hc,Uf hx J.n hd],Uo #[Uf F X.l.length R,Uf P X.n W]] Hm (Rt Hm (Un true))):=aC (by
      have:=yQ ha hx F P hc hd R W J X Hm Jl Hd.1.1 (sJ.bw Hn) (Hb Hm Gy).1;rw[aN Jk.out]at this;exact this)
     have r1:=G7.c1;have r2:=G7.c2;clear sJ K2 Hn G7 Gm e0 e1 q r z g o E M V Y G H I L;obtain⟨⟨⟨q,r,z,g,o⟩,E,M,V⟩,Y,G,H,I,L⟩:=Hc Hm Gy;go_wp2_with fail;try rw[Hg]
     clear Hg;refine He.mono ?_;rintro e J0⟨rfl,Jq⟩;go_wp2_with fail;go_ret;exact⟨rfl,H4 _ (aE Gy Jq)⟩
  .rcases If HQ.out with⟨_,rfl,rfl⟩|⟨k,_⟩;rotate_left
   .exact absurd k hC
   have dC:(C !=0)=true:=oU hC;have He:aA (∀u,Bl V3 u->(Cl 7 #[Uo #[Uf F X.l.length R,Uf P X.n W],Uo #[Uf a X.l.length c,Uf x X.n d]] u (Rt u (Un true)))/\Cl 7 #[Uo #[Uf Hh Z.l.length Hj,Uf Hi Z.n Hk],Uo #[Uf a' Z.l.length c',Uf x' Z.n d']] u (Rt u (Un true))):=aC (λu hu=>by
    have k:=Hz u (aE H3 hu);have k1:=yQ F P a x R W c d X X u k.m.1 k.m.1 (Hb u hu).1 k.s;have k2:=yQ Hh Hi a' x' Hj Hk c' d' Z Z u k.m'.1 k.m'.1 (Hb u hu).2 k.t;rw[aN (bS.refl X)]at k1;rw[aN (bS.refl Z)]at k2;exact⟨k1,k2⟩)
   go_wp2_with fail;try rw[Hu]
   try rw[Gd]
   clear Hu Gd;refine(He V3 zI).1.mono ?_;rintro e v5⟨rfl,b5⟩;have H5:=aC b5;clear b5 q r z g o E M V Y G H I L;obtain⟨⟨⟨q,r,z,g,o⟩,E,M,V⟩,Y,G,H,I,L⟩:=Hc v5 H5;go_wp2_with fail;refine(He v5 H5).2.mono ?_;rintro e v6⟨rfl,b6⟩;go_wp2_with fail;go_ret;exact⟨rfl,H4 _ (aE H5 b6)⟩
 .have i1:(1048576:Int)<(cn:Int):=oM;go_enter func3,ntmps3;go_wp2_with fail;go_ret;exact⟨rfl,zI⟩
end Go.Proofs.YtnabjmnfhkcnjaaGreatDoor
namespace Go.Proofs.YtnabjmnfhkcnjaaGreatDoor.fnRefused
open Go.RowKit Go.Proofs.Tryz
open Go.Value renaming slice->Uf,int->Ug,pointer->Uk,tuple->Ul,string->Um,bool->Un,agg->Uo
open Go.IntKind renaming i64->Uh
open Go.Ending renaming returned->Ui
open Go.Obj renaming cells->Uj
open Option renaming none->Up,some->Uq
open Go.RowKit renaming Hid->aA
open Go renaming World->Ur,Addr->Us
open Int renaming natCast_nonneg->VH
open Go.World renaming setCell->Vr
open Nat renaming lt_of_lt_of_le->Ut,zero_le->UB,le_refl->Ux
open List renaming eq_nil_of_length_eq_zero->UO,mem_cons_self->Vf
variable {A D S X Y:Sx}{B c c' d d' hi k lo m mid n pc rb z:Nat}{V w w' w1:Ur}{a a' pa x x':Option Us}{f:Nat->Int}{l:List Lf}{o0 u:Value}{p:List ByteArray}{t:TypeId}{v:ByteArray}{y:Lf}
theorem eF{a b:Bool}(h:a=true)(k:b=true):(a&&b)=true:=by rw[h,k];rfl
theorem DC:Rows.fnRefusedRow.wf (OpenSpec.ofChange Rows.fnRefusedSpec)=true:=oK
theorem CZ:laidOutB prog=true:=oK
theorem CY:mapsRowed prog=true:=oK
theorem CX:Tryz.f3.params.all (prog.readableRec ·)=true:=oK
theorem CW:namedTie prog Rows.fnRefusedRow.named Rows.fnRefusedSpec.vars=true:=oK
theorem FC:(Rows.fnRefusedRow.stops==[])=true:=oK
theorem FB:(prog.stops==[])=true:=oK
theorem FA:(Rows.fnRefusedRow.knobs==[])=true:=oK
theorem EZ:(prog.stopKnobs==[])=true:=oK
theorem KY:(Rows.fnRefusedRow.inPlace==prog.inPlace 3)=true:=oK
theorem KX:(Rows.fnRefusedRow.unfollowed==prog.unfollowed 3)=true:=oK
theorem KW:(Rows.fnRefusedRow.recurses==prog.recurses 3)=true:=oK
theorem KV:(Rows.fnRefusedRow.named==prog.varsNamed 3)=true:=oK
theorem KU:(Rows.fnRefusedRow.maps==(Tryz.f3.params.toList++Rows.fnRefusedSpec.plain.varTypes prog).any (prog.mapsRec ·))=true:=oK
theorem KT:(Rows.fnRefusedRow.ifaces==(Tryz.f3.params.toList++Rows.fnRefusedSpec.plain.varTypes prog).any (prog.ifacesRec ·))=true:=oK
theorem KR:(Rows.fnRefusedRow.mapsOut==prog.mapsAmong Tryz.f3.resultTypes.toList)=true:=oK
theorem KQ:(Rows.fnRefusedRow.loops==(Tryz.f3.params.toList++Rows.fnRefusedSpec.plain.varTypes prog).any (prog.loopsFrom ·))=true:=oK
theorem KP:(Rows.fnRefusedRow.wideKeys==(Tryz.f3.params.toList++Rows.fnRefusedSpec.plain.varTypes prog++Tryz.f3.resultTypes.toList).any (prog.wideKeysFrom ·))=true:=oK
theorem KO:Rows.fnRefusedSpec.vars.all (prog.varReadable ·)=true:=oK
theorem KN:Tryz.f3.resultTypes.all (λt=>prog.readableRec t&&decide (t<prog.types.size))=true:=oK
theorem KM:(Rows.fnRefusedRow.ifacesOut==Tryz.f3.resultTypes.toList.any (prog.ifacesRec ·))=true:=oK
theorem IZ:(Rows.fnRefusedRow.loopsOut==Tryz.f3.resultTypes.toList.any (prog.loopsFrom ·))=true:=oK
theorem IY:(Rows.fnRefusedRow.plainKeys==prog.plainKeys)=true:=oK
theorem IX:Rows.fnRefusedRow.shortTexts.isNone=true:=oK
theorem IW:prog.stopsHeard=true:=oK
theorem IV:prog.mayEnter=true:=oK
theorem IU:(Rows.fnRefusedRow.lifted==prog.liftsFinal)=true:=oK
theorem IT:(prog.make==Uq Rows.fnRefusedRow.make)=true:=oK
theorem IS:(Rows.fnRefusedRow.pinned==Rows.fnRefusedRow.pinnedBy)=true:=oK
theorem IR:(Rows.fnRefusedRow.veiled==(Tryz.f3.params.toList++Rows.fnRefusedSpec.plain.varTypes prog++Tryz.f3.resultTypes.toList).any (prog.veiledRec ·))=true:=oK
theorem IQ:Rows.fnRefusedRow.veiledFits prog Tryz.f3.params.toList (Tryz.f3.params.toList++Rows.fnRefusedSpec.plain.varTypes prog++Tryz.f3.resultTypes.toList)=true:=oK
theorem GR:joinedFacts prog 3 Tryz.f3 (OpenSpec.ofChange Rows.fnRefusedSpec).bare Rows.fnRefusedRow=true:=
 eF (eF (eF (eF (eF (eF (eF (eF (eF (eF (eF (eF (eF (eF (eF (eF (eF (eF (eF (eF (eF (eF (eF (eF (eF (eF (eF (eF (eF (eF (eF (DC) CZ) CY) CX) CW) FC) FB) FA) EZ) KY) KX) KW) KV) KU) KT) KR) KQ) KP) KO) KN) KM) IZ) IY) IX) IW) IV) IU) IT) oK) IS) IR) IQ
end Go.Proofs.YtnabjmnfhkcnjaaGreatDoor.fnRefused
