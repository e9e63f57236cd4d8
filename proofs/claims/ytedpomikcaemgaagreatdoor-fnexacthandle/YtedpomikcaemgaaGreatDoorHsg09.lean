import Derived.Test.YtedpomikcaemgaaGreatDoorHsg08
set_option linter.unusedVariables false
set_option linter.unusedSimpArgs false
set_option maxRecDepth 100000
set_option maxHeartbeats 40000000
namespace Go.Proofs.YtedpomikcaemgaaGreatDoor
open Go.ChangeShapes Go.WideShapes Go.ChangeAt Go.RowKit Go.Deep Go.Proofs.Tryz
open Go.Value renaming slice → Uf, int → Ug, pointer → Uk, tuple → Ul, string → Um, bool → Un, agg → Uo
open Go.IntKind renaming i64 → Uh
open Go.Ending renaming returned → Ui
open Go.Obj renaming cells → Uj
open Option renaming none → Up, some → Uq
open Go renaming World → Ur, Addr → Us
open Go.World renaming ownsRow_lit → VD, setCell → UC, cell?_of_block → UB, frozen?_of_block → Ys, cell?_setCell_other → UI, cell?_setCell_same → UH, frozen?_alloc_at → UK, cell?_setCell_far → UF, cell?_alloc_at → UJ, frozen?_setCell → UG, cell?_alloc_past → YM, frozen?_alloc_past → JC
open Nat renaming zero_le → Uv, lt_of_lt_of_le → Ut, le_trans → Ux, le_refl → Uu, zero_add → Uw, sub_self → YP, le_of_not_lt → Yb
open Int renaming natCast_nonneg → UZ
open List renaming getD → UR, nil_append → VI, length_append → Vg, getElem?_eq_none → US, length_singleton → Vp, range → UT, getElem?_range → YU, length → JD, map_append → Vl, getElem?_eq_getElem → JE, getElem?_set_self → UQ, getElem?_set_ne → UP
open Option renaming bind_some → YB, some → YO
open Go.IntKind renaming wrap_i64 → UY
variable {B b bd bm bm' c cap d g hi i j k lo lo' m n q t:Nat}{F R T f:Nat ->Int}{J l:List Lf}{W w w' w1 w7 wr:Ur}{a pa x:Option Us}{most:Int}{ob:Obj}{row:Option Nat}{ul:List Rn}{v v0 v1 va vx:Value}{x0 y0 z0:Nat×Nat}{zs:List Int}
structure Put (C:Lf ->Prop)(ls:List Lf)(L:Nat ->List Lf)(s:Nat):Prop where
 yes:∀k,k<ls.length ->C (gL ls k) ->L (k+1)=QdI (gL ls k) (L k)
 no:∀k,k<ls.length ->¬C (gL ls k) ->L (k+1)=L k
 len:∀k,k<=ls.length ->(L k).length<=s+k
 pth:∀k,k<=ls.length ->∀i,i<(L k).length ->1<=(gL (L k) i).p.length/\ (gL (L k) i).p.length<=8
theorem Put.of (C:Lf ->Prop)(ls out:List Lf)(s:Nat)(ho:out.length<=s)(h1:∀i,i<ls.length ->1<=(gL ls i).p.length/\ (gL ls i).p.length<=8)(h2:∀i,i<out.length ->1<=(gL out i).p.length/\ (gL out i).p.length<=8):Put C ls (QeK C ls out) s:=
 ⟨fun k hk h=>QfK h,fun k hk h=>Qhv h,fun k hk=>by have:=QdN (P:=C) (ls:=ls) (out:=out) k;omega,fun k hk i hi=>by
  have m:=Qaq.2 ⟨i,hi,rfl⟩;rcases Qcz.1 m with h|⟨t,j,_,e⟩
  ·obtain⟨t,j,e⟩:=Qaq.1 h;rw [<- e];exact h2 t j
  ·rw [<- e];exact h1 t oM⟩
theorem QnE (a b:Option Us)(ca cb:Nat)(la lb:List Lf)(xa:Option Us)(n d:Nat)(R F T:Nat ->Int)(x':Option Us)(n' d':Nat)(R' F' T':Nat ->Int)(w:Ur)(hn:n<=1000)(hn':n'<=1000)(ho:QeM R F T n)(ho':QeM R' F' T' n')(hla:la.length<=1000)(hlb:lb.length<=1000)(hpa:∀i,i<la.length ->1<=(gL la i).p.length/\ (gL la i).p.length<=8)(Hj:∀i,i<lb.length ->1<=(gL lb i).p.length/\ (gL lb i).p.length<=8)
  (h1:QdB w a la) (h2:QdB w b lb) (h3:QaD w xa n R F T) (h4:QaD w x' n' R' F' T'):
  Cl 47 #[Uo #[Uf a la.length ca,Uf xa n d],Uo #[Uf b lb.length cb,Uf x' n' d']] w fun e w'=>(∃g c ra rc P Q,e=Ui (Uo #[Uf (Uc g) (jn R F T n la R' F' T' n' lb).length c,Uf ra (unL R F T n R' F' T' n').length rc])/\ LC w' w.heap.size (Uf (Uc g) (jn R F T n la R' F' T' n' lb).length c) (jn R F T n la R' F' T' n' lb) P Q/\ FR w' w.heap.size (Uf ra (unL R F T n R' F' T' n').length rc) (unL R F T n R' F' T' n'))/\ Bl w w':=by
 obtain⟨W,hW⟩:=zE ((((w.alloc (Uj #[Uf a la.length ca,Uf xa n d] 40)).alloc (Uj #[Uf b lb.length cb,Uf x' n' d'] 40)).alloc (Uj #[Ue,Ue] 40)).alloc (Uj #[] 117));have b0:Bl w W:=hW▸((Qak _ _ _).alloc oS _).alloc oS _;have zW:W.heap.size=w.heap.size+4:=hW▸oP;have A0:Bx2 W w.heap.size (Uf a la.length ca) (Uf xa n d):=by rw [<- hW];exact(((Bx2.made w _ _ _).allocs _).allocs _).allocs _
 have B0:Bx2 W (w.heap.size+1) (Uf b lb.length cb) (Uf x' n' d'):=by
  rw [<- hW];have:=Bx2.made (w.alloc (Uj #[Uf a la.length ca,Uf xa n d] 40)) (Uf b lb.length cb) (Uf x' n' d') 40;exact((by simpa using this:Bx2 _ (w.heap.size+1) _ _).allocs _).allocs _
 have R0:Bx2 W (w.heap.size+1+1) Ue Ue:=by
  rw [<- hW];have:=Bx2.made ((w.alloc (Uj #[Uf a la.length ca,Uf xa n d] 40)).alloc (Uj #[Uf b lb.length cb,Uf x' n' d'] 40)) Ue Ue 40;exact(by simpa using this:Bx2 _ (w.heap.size+1+1) _ _).allocs _
 have L0:LC W w.heap.size (Uf (Uq (Ua (w.heap.size+3) 0)) 0 0) [] (fun _=>0) (fun _=>0):=by
  refine⟨?_,fun i hi=>by simp at hi⟩;have:=VD (base:=w.heap.size) (e:=117) (size:=5) (((w.alloc (Uj #[Uf a la.length ca,Uf xa n d] 40)).alloc (Uj #[Uf b lb.length cb,Uf x' n' d'] 40)).alloc (Uj #[Ue,Ue] 40)) #[] 0 oS oL rfl;rw [hW] at this;simpa using this
 have Gd:=hid A0;have Gh:=hid B0;have Gm:=hid R0;have Gw:=hid L0;have Gf:=hid b0;have G0:=hid zW;have HU:=hid (QiS xa n d R F T x' n' d' R' F' T' W hn hn' (h3.bw b0) (h4.bw b0) ho ho');have H1:=hid h1;have H2:=hid h2;have H3:=hid h3;have H4:=hid h4;have Gx:=hid hpa;have Gy:=hid Hj;have Gk:=hid (And.intro hla hlb);obtain⟨u,Ga⟩:=zE (QeK (fun x=>x∈lb \/¬Qdp R' F' T' n' x) la []);obtain⟨Z,Gb⟩:=zE (QeK (fun x=>¬Qdp R F T n x) lb (u la.length));obtain⟨J,hJ⟩:=zE (jn R F T n la R' F' T' n' lb);have Ho:Hid (Put (fun x=>x∈lb \/¬Qdp R' F' T' n' x) la u 0):=hid (by rw [<- Ga];exact Put.of _ la [] 0 zL hpa (fun i hi=>by simp at hi));have Hv:Hid (Put (fun x=>¬Qdp R F T n x) lb Z la.length):=hid (Gb▸Put.of _ lb _ _ (oH (Ho.len la.length zL)) Hj (Ho.pth la.length zL));have Ge:Hid (u 0=[]):=hid (by rw [<- Ga];rfl);have Gg:Hid (Z 0=u la.length):=hid (by rw [<- Gb];rfl);have Gv:Hid (Z lb.length=J):=hid (by rw [<- Gb,<- Ga,<- hJ];rfl);rw [hJ];have k1:=A0.c1;have k2:=B0.c1;clear A0 B0 R0 L0 b0 zW h1 h2 h3 h4 hpa Hj hJ Ga Gb;go_enter func47,ntmps47;go_wp2_with fail;try rw [hW]
 clear hW;refine HU.mono ?_;rintro e w1 ⟨vr,rfl,f1,b1⟩;obtain⟨ul,Gs⟩:=zE (unL R F T n R' F' T' n');rw [Gs] at f1;obtain⟨ra,rc,G7,_⟩:=f1.fs;subst G7;obtain⟨w2,Gc⟩:=zE (w1.alloc (Uj #[Uf (Uq (Ua (w.heap.size+1+1+1) 0)) 0 0,Uf ra ul.length rc] 40));have b2:Bl w1 w2:=Gc▸zO _ _;have H0:=Qaa b1 b2;have Gj:Hid (JS w w2 w1.heap.size (Uf a la.length ca) (Uf xa n d) (Uf b lb.length cb) (Uf x' n' d') (w.heap.size+1+1+1) 0 (Uf ra ul.length rc) (u 0) ul (fun _=>0) (fun _=>0)):=hid (by
  have hz:=G0.out;have Ka:=b1.size;rw [Ge.out];refine⟨Gf.trans (H0.mono Gf.size),Gd.bw H0 Gd.lt,Gh.bw H0 Gh.lt,Gm.bw H0 Gm.lt,Gc▸Bx2.made _ _ _ _,Gw.bw H0,(f1.bw b2).weak oM,oM,fun e=> ?_,oM,fun b e=> ?_⟩
  ·have:=(World.ownsRow.lt f1 _ e).2;omega
  ·have:=(World.ownsRow.lt f1 _ e).1;omega)
 have Gz:=hid Gs;clear f1 b1 b2 H0 k1 k2 HU Gd Gh Gm Gw Gf G0 Gs;go_wp2_with fail;try rw [Gc]
 clear Gc;obtain⟨t,hT⟩:=zE w1.heap.size;rw [hT] at Gj ⊢;clear hT;go_loopw [6] (fun i wr=>∃(j g c:Nat) (P Q:Nat ->Nat),j<=la.length/\ i=Ud j/\ Hid (JS w wr t (Uf a la.length ca) (Uf xa n d) (Uf b lb.length cb) (Uf x' n' d') g c (Uf ra ul.length rc) (u j) ul P Q)) (fun i _=>la.length - (intOf i).toNat);case atStart=>exact⟨0,_,_,_,_,Uv _,rfl,Gj⟩
 case round=>
  clear Gj;obtain⟨j,g,c,P,Q,hj,rfl,L⟩:=hrel;have a0:=L.a.c0;by_cases D:j<la.length
  ·have i1:(0:Int)<=(j:Int):=UZ _;have i2:(j:Int)<(la.length:Int):=oM;obtain⟨ab,ao,rfl,Gp,H8⟩:=(H1.bw L.low).resolve_left oM;obtain⟨pa,pc,⟨I,d0⟩,sg,C,c2,c3,c4⟩:=H8 j D;obtain⟨S,po,rfl,Hj,Hq⟩:=sg.resolve_left (oH ((Gx j D).1));have Hr:=Gx j D;obtain⟨y,hy⟩:=zE (gL la j);rw [hy] at I C c2 c3 c4 d0 Hq Hr;have HY:=hid hy;obtain⟨m,V,M,A,Y⟩:=y;dsimp only at I C c2 c3 c4 d0 Hq Hr;obtain⟨w5,Ht⟩:=zE (wr.alloc (Uj #[Uf (Uq (Ua S po)) m.length pc,Un V,Ud M,Ud A,Um Y] 117));have b5:Bl wr w5:=Ht▸zO _ _;have X5:Bx5 w5 wr.heap.size (Uf (Uq (Ua S po)) m.length pc) (Un V) (Ud M) (Ud A) (Um Y):=Ht▸Bx5.new _ _ _ _ _ _ _;have Hs:=hid (L.bw b5);have Hw:=hid X5;have Gi:=hid d0;have Hx:=hid Hr;have H9:Hid (QaI w5 (Uq (Ua S po)) m):=hid (.inr ⟨S,po,rfl,Ut Hj b5.size,fun i hi=>(b5.cell (p:=(Ua S (po+i))) Hj).trans (Hq i hi)⟩);obtain⟨x0,x1,x2,x3,x4⟩:=X5.q5;clear hy H8 sg Hq Hj Gp b5 X5 d0 Hr L;have hf:=hid (fun w6 (b6:Bl w5 w6)=>QnC b (Uq (Ua S po)) cb pc lb m V M A Y w6 (oH Gk) Gi.1 Gi.2 ((H2.bw Hs.low).bw b6) (H9.bw b6));obtain⟨e0,e1⟩:=Hs.b.q2;go_upto_region 6 with fail;go_cut [41] from 29 to 41 (fun bb wx=>∃q:Bool,bb=Un q/\ Hid (Bl w5 wx)/\ Hid (q=true ->QdI ⟨m,V,M,A,Y⟩ (u j)=u (j+1))/\ Hid (q=false ->u (j+1)=u j));case first=>
    go_wp2_with fail;refine(hf w5 zI).mono ?_;rintro e w6 ⟨⟨fi,rfl,G1⟩,b6⟩;have E:=hid (Hs.bw b6);have He:=hid (Hw.bw b6 Hw.lt);have Hl:=hid b6;have Gu:=hid G1;clear e0 e1 hf G1 b6 x0 x1 x2 x3 x4 a0 I C c2 c3 c4 Ht;by_cases Hg:(⟨m,V,M,A,Y⟩:Lf)∈lb
    ·have e0:(0:Int)<=fi:=Gu.2 Hg;have Hp:Hid (QdI ⟨m,V,M,A,Y⟩ (u j)=u (j+1)):=hid (by rw [Ho.yes j D (by rw [HY.out];exact .inl Hg),HY.out]);clear Hg;go_wp2_with fail;go_meet;exact⟨true,rfl,Hl,hid (fun _=>Hp.out),hid (fun h=>by cases h)⟩
    ·have e0:¬(0:Int)<=fi:=fun h=>Hg (Gu.1 h);have dd:decide ((0:Int)<=fi)=false:=decide_eq_false e0;have hh:=hid (fun s (z:Bl w6 s)=>QnA x' n' d' R' F' T' M A s oM ((H4.bw E.low).bw z));have y2:=He.c2;have y3:=He.c3;have z1:=E.b.c1;go_wp2_with fail;refine(hh w6 zI).mono ?_;rintro e s ⟨rfl,z⟩;have Gt:=hid (Qaa Hl z);clear z y2 y3 z1 hh;cases hq:QbD R' F' T' M A A n' with
     | false=>
      have Hp:Hid (QdI ⟨m,V,M,A,Y⟩ (u j)=u (j+1)):=hid (by rw [Ho.yes j D (by rw [HY.out];exact .inr (fun h=>by unfold Qdp at h;rw [hq] at h;cases h)),HY.out]);clear hq Hg;go_wp2_with fail;go_meet;exact⟨true,rfl,Gt,hid (fun _=>Hp.out),hid (fun h=>by cases h)⟩
     | true=>
      have G5:Hid (u (j+1)=u j):=hid (Ho.no j D (by rw [HY.out];exact fun h=>h.elim Hg (fun h=>h hq)));clear hq Hg;go_wp2_with fail;go_meet;exact⟨false,rfl,Gt,hid (fun h=>by cases h),hid (fun _=>G5.out)⟩
   case rest=>
   obtain⟨q,rfl,Hl,Go,Gl⟩:=hcut;obtain⟨w6,G4⟩:=zE wc;rw [G4] at Hl ⊢;have E:=hid (Hs.bw Hl);have He:=hid (Hw.bw Hl Hw.lt);clear G4 e0 e1 hf x0 x1 x2 x3 x4 a0 I C c2 c3 c4 Ht;cases q with
   | true=>
    have Hp:Hid (QdI ⟨m,V,M,A,Y⟩ (u j)=u (j+1)):=hid (Go rfl);clear Go Gl;have Hd:Hid (∀w',Bl w6 w' ->(w'.cell? (Ub wr.heap.size)=Uq (Uf (Uq (Ua S po)) m.length pc)/\ w'.cell? (Ua wr.heap.size 1)=Uq (Un V)/\ w'.cell? (Ua wr.heap.size 2)=Uq (Ud M)/\ w'.cell? (Ua wr.heap.size 3)=Uq (Ud A)/\ w'.cell? (Ua wr.heap.size 4)=Uq (Um Y))):=hid (fun w' b=>by
     have X:=He.bw b He.lt;exact⟨X.c0,X.c1,X.c2,X.c3,X.c4⟩)
    have Hm:Hid (∀w',Bl w6 w' ->Cl 63 #[Uo #[Uf (Uq (Ua S po)) m.length pc,Un V,Ud M,Ud A,Um Y]] w' fun e w''=>∃q cap,e=Ui (Uo #[Uf (Uc q) m.length cap,Un V,Ud M,Ud A,Um Y])/\ Bl w' w''/\ w'.heap.size<=q/\ q<w''.heap.size/\ Wr w'' q 9 m.length (fun t=> Um (gS m t))/\ m.length<=cap/\ cap<=9223372036854775807):=hid (fun w' b=>by
     obtain⟨G8,G9,e,Hz,Gq⟩:=((H9.bw Hl).bw b).resolve_left (oH Hx.1);injection e with e;injection e with e1 e2;subst e1;subst e2;exact QjV S po m.length pc ⟨m,V,M,A,Y⟩ w' rfl (oH Hx.2) Hz Gq)
    have Hn:Hid (∀s q cap,Bl w6 s ->w6.heap.size<=q ->q<s.heap.size ->Wr s q 9 m.length (fun t=> Um (gS m t)) ->m.length<=cap/\ cap<=9223372036854775807 ->Cl 75 #[Uf (Uc g) (u j).length c,Uo #[Uf (Uc q) m.length cap,Un V,Ud M,Ud A,Um Y]] s fun e w'=>(∃g' cap' P' Q',e=Ui (Uf (Uc g') ((u j).length+1) cap')/\ s.heap.size<=g'/\ LC w' w.heap.size (Uf (Uc g') ((u j).length+1) cap') (u (j+1)) P' Q')/\ Bl s w'):=hid (fun s q cap z hq1 hq2 hw hcap=>by
     have hJ:=E.bw z;have hs:=hJ.low.size;have G6:=E.low.size;rw [<- Hp.out];exact Qm9 g c (u j) P Q s w.heap.size q cap m V M A Y hJ.lc hs (by have h1:=Ho.len j oM;have h2:=Gk.out;omega) (fun i hi=>oH ((Ho.pth j oM i hi).2)) (oH Hx.2) ⟨oM,hq2⟩ hw hcap)
    have H6:Hid ((u j).length+1=(u (j+1)).length):=hid (by rw [<- Hp.out,QdJ]);have H7:Hid (wr.heap.size≠t):=hid (fun e=>by
     have h1:=He.c1;rw [e,E.o.c1] at h1;cases h1)
    have t0:=(E.o.bw zI.drew E.o.lt).c0;go_wp2_with fail;refine zS Hd (fun qh=> ?_);refine tZ 0 42 ?_;refine tZ 2 44 ?_;refine Qba (i:=1) (j:=3) (d:=Uq 43) (d':=Uq 45) oK oK oK ?_ ?_
    ·
     intro o ho Gr K k;simp only [gZa,gZb,gZc,gZd] at ho;subst ho;go_simp;refine k.out _ _ (Hd _ zI.drew) (fun qh=> ?_);clear k K;try simp only [zP]
     clear t0;refine cZ 3 ?_;intro K k;go_simp;refine(Hm _ zI.drew).mono ?_;rintro e s ⟨q7,Hf,rfl,z,Hb,Hc,Hk,Ha⟩;have H:Bl w6 s:=⟨z.os,z.tape,z.output,z.size,z.block⟩;refine k.out _ _ (Hd _ H) (fun qh=> ?_);clear k K;try simp only [zP]
     have Hh:=hid (Hn s q7 Hf H Hb Hc Hk Ha);clear Hk Ha Hb Hc;refine cZ 4 ?_;intro K k;go_simp;refine Hh.mono ?_;rintro e B ⟨⟨U,O,P8,Q8,rfl,Hy,l8⟩,b8⟩;have N:=Qaa H b8;have Hu:=hid (E.set N l8 H6 (oH H.size) (fun i hi=>(Ho.pth (j+1) D i hi).1));have O8:=E.o.bw N E.o.lt;refine k.out _ _ (Hd _ N) (fun qh=> ?_);clear k K;try simp only [zP]
     refine tZ 5 47 ?_;have o0:=O8.c0;have of:=O8.f 0;have G:=((He.bw N He.lt).setFar t (Uf (Uc U) ((u j).length+1) O) H7);have Hi:=hid (⟨G.c0,G.c1,G.c2,G.c3,G.c4⟩:(B.setCell (Ub t) (Uf (Uc U) ((u j).length+1) O)).cell? (Ub wr.heap.size)=Uq (Uf (Uq (Ua S po)) m.length pc)/\ (B.setCell (Ub t) (Uf (Uc U) ((u j).length+1) O)).cell? (Ua wr.heap.size 1)=Uq (Un V)/\ (B.setCell (Ub t) (Uf (Uc U) ((u j).length+1) O)).cell? (Ua wr.heap.size 2)=Uq (Ud M)/\ (B.setCell (Ub t) (Uf (Uc U) ((u j).length+1) O)).cell? (Ua wr.heap.size 3)=Uq (Ud A)/\ (B.setCell (Ub t) (Uf (Uc U) ((u j).length+1) O)).cell? (Ua wr.heap.size 4)=Uq (Um Y));clear O8 G;refine cZ 6 ?_;intro K k;go_simp;refine k.out _ _ Hi (fun qh=> ?_);clear k K;try simp only [zP]
     refine zD ?_;clear qh z H b8 N l8 Hy o0 of Hh Hn Hm Hd Hi;go_wp2_with fail;go_roundw;case rel=>exact⟨j+1,U,O,P8,Q8,D,oN,Hu⟩
     case measure=>exact oE
    ·
     clear t0;intro o ho Gr K k;simp only [gZa,gZb,gZc,gZd] at ho;subst ho;go_simp;refine(Hm _ zI.drew).mono ?_;rintro e s ⟨q7,Hf,rfl,z,Hb,Hc,Hk,Ha⟩;have H:Bl w6 s:=⟨z.os,z.tape,z.output,z.size,z.block⟩;refine k.out _ _ (Hd _ H) (fun qh=> ?_);clear k K;try simp only [zP]
     have t0:=(E.o.bw H E.o.lt).c0;refine cZ 1 ?_;intro K k;go_simp;refine k.out _ _ (Hd _ H) (fun qh=> ?_);clear k K;try simp only [zP]
     clear t0;have Hh:=hid (Hn s q7 Hf H Hb Hc Hk Ha);clear Hk Ha Hb Hc;refine cZ 4 ?_;intro K k;go_simp;refine Hh.mono ?_;rintro e B ⟨⟨U,O,P8,Q8,rfl,Hy,l8⟩,b8⟩;have N:=Qaa H b8;have Hu:=hid (E.set N l8 H6 (oH H.size) (fun i hi=>(Ho.pth (j+1) D i hi).1));have O8:=E.o.bw N E.o.lt;refine k.out _ _ (Hd _ N) (fun qh=> ?_);clear k K;try simp only [zP]
     refine tZ 5 47 ?_;have o0:=O8.c0;have of:=O8.f 0;have G:=((He.bw N He.lt).setFar t (Uf (Uc U) ((u j).length+1) O) H7);have Hi:=hid (⟨G.c0,G.c1,G.c2,G.c3,G.c4⟩:(B.setCell (Ub t) (Uf (Uc U) ((u j).length+1) O)).cell? (Ub wr.heap.size)=Uq (Uf (Uq (Ua S po)) m.length pc)/\ (B.setCell (Ub t) (Uf (Uc U) ((u j).length+1) O)).cell? (Ua wr.heap.size 1)=Uq (Un V)/\ (B.setCell (Ub t) (Uf (Uc U) ((u j).length+1) O)).cell? (Ua wr.heap.size 2)=Uq (Ud M)/\ (B.setCell (Ub t) (Uf (Uc U) ((u j).length+1) O)).cell? (Ua wr.heap.size 3)=Uq (Ud A)/\ (B.setCell (Ub t) (Uf (Uc U) ((u j).length+1) O)).cell? (Ua wr.heap.size 4)=Uq (Um Y));clear O8 G;refine cZ 6 ?_;intro K k;go_simp;refine k.out _ _ Hi (fun qh=> ?_);clear k K;try simp only [zP]
     refine zD ?_;clear qh z H b8 N l8 Hy o0 of Hh Hn Hm Hd Hi;go_wp2_with fail;go_roundw;case rel=>exact⟨j+1,U,O,P8,Q8,D,oN,Hu⟩
     case measure=>exact oE
   | false=>
    have Gn:Hid (JS w w6 t (Uf (Uq (Ua ab ao)) la.length ca) (Uf xa n d) (Uf b lb.length cb) (Uf x' n' d') g c (Uf ra ul.length rc) (u (j+1)) ul P Q):=hid (by
     rw [Gl rfl];exact E)
    clear Go Gl;go_wp2_with fail;go_roundw;case rel=>exact⟨j+1,g,c,P,Q,D,oN,Gn⟩
    case measure=>exact oE
  ·obtain rfl:j=la.length:=oM;have H5:Hid (JS w wr t (Uf a la.length ca) (Uf xa n d) (Uf b lb.length cb) (Uf x' n' d') g c (Uf ra ul.length rc) (Z 0) ul P Q):=hid (by rw [Gg.out];exact L);clear L;go_wp2_with fail;clear a0;try go_frame
   go_loopw [8] (fun i wr=>∃(j g c:Nat) (P Q:Nat ->Nat),j<=lb.length/\ i=Ud j/\ Hid (JS w wr t (Uf a la.length ca) (Uf xa n d) (Uf b lb.length cb) (Uf x' n' d') g c (Uf ra ul.length rc) (Z j) ul P Q)) (fun i _=>lb.length - (intOf i).toNat);case atStart=>exact⟨0,_,_,_,_,Uv _,rfl,H5⟩
   case round=>
    clear H5;obtain⟨j,g,c,P,Q,hj,rfl,L⟩:=hrel;have a0:=L.b.c0;by_cases D:j<lb.length
    ·have i1:(0:Int)<=(j:Int):=UZ _;have i2:(j:Int)<(lb.length:Int):=oM;obtain⟨ab,ao,rfl,Gp,H8⟩:=(H2.bw L.low).resolve_left oM;obtain⟨pa,pc,⟨I,d0⟩,sg,C,c2,c3,c4⟩:=H8 j D;obtain⟨S,po,rfl,Hj,Hq⟩:=sg.resolve_left (oH ((Gy j D).1));have Hr:=Gy j D;obtain⟨y,hy⟩:=zE (gL lb j);rw [hy] at I C c2 c3 c4 d0 Hq Hr;have HY:=hid hy;obtain⟨m,V,M,A,Y⟩:=y;dsimp only at I C c2 c3 c4 d0 Hq Hr;obtain⟨w5,Ht⟩:=zE (wr.alloc (Uj #[Uf (Uq (Ua S po)) m.length pc,Un V,Ud M,Ud A,Um Y] 117));have b5:Bl wr w5:=Ht▸zO _ _;have X5:Bx5 w5 wr.heap.size (Uf (Uq (Ua S po)) m.length pc) (Un V) (Ud M) (Ud A) (Um Y):=Ht▸Bx5.new _ _ _ _ _ _ _;have Hs:=hid (L.bw b5);have Hw:=hid X5;have Gi:=hid d0;have Hx:=hid Hr;have H9:Hid (QaI w5 (Uq (Ua S po)) m):=hid (.inr ⟨S,po,rfl,Ut Hj b5.size,fun i hi=>(b5.cell (p:=(Ua S (po+i))) Hj).trans (Hq i hi)⟩);obtain⟨x0,x1,x2,x3,x4⟩:=X5.q5;clear hy H8 sg Hq Hj Gp b5 X5 d0 Hr L;have hh:=hid (fun s (z:Bl w5 s)=>QnA xa n d R F T M A s oM ((H3.bw Hs.low).bw z));have z1:=Hs.a.c1;go_wp2_with fail;refine(hh w5 zI).mono ?_;rintro e w6 ⟨rfl,b6⟩;have E:=hid (Hs.bw b6);have He:=hid (Hw.bw b6 Hw.lt);have Hl:=hid b6;clear z1 hh b6 x0 x1 x2 x3 x4 a0 I C c2 c3 c4 Ht;cases hh:QbD R F T M A A n with
     | false=>
      have Hp:Hid (QdI ⟨m,V,M,A,Y⟩ (Z j)=Z (j+1)):=hid (by rw [Hv.yes j D (by rw [HY.out];exact fun h=>by unfold Qdp at h;rw [hh] at h;cases h),HY.out]);clear hh;have Hd:Hid (∀w',Bl w6 w' ->(w'.cell? (Ub wr.heap.size)=Uq (Uf (Uq (Ua S po)) m.length pc)/\ w'.cell? (Ua wr.heap.size 1)=Uq (Un V)/\ w'.cell? (Ua wr.heap.size 2)=Uq (Ud M)/\ w'.cell? (Ua wr.heap.size 3)=Uq (Ud A)/\ w'.cell? (Ua wr.heap.size 4)=Uq (Um Y))):=hid (fun w' b=>by
       have X:=He.bw b He.lt;exact⟨X.c0,X.c1,X.c2,X.c3,X.c4⟩)
      have Hm:Hid (∀w',Bl w6 w' ->Cl 63 #[Uo #[Uf (Uq (Ua S po)) m.length pc,Un V,Ud M,Ud A,Um Y]] w' fun e w''=>∃q cap,e=Ui (Uo #[Uf (Uc q) m.length cap,Un V,Ud M,Ud A,Um Y])/\ Bl w' w''/\ w'.heap.size<=q/\ q<w''.heap.size/\ Wr w'' q 9 m.length (fun t=> Um (gS m t))/\ m.length<=cap/\ cap<=9223372036854775807):=hid (fun w' b=>by
       obtain⟨G8,G9,e,Hz,Gq⟩:=((H9.bw Hl).bw b).resolve_left (oH Hx.1);injection e with e;injection e with e1 e2;subst e1;subst e2;exact QjV S po m.length pc ⟨m,V,M,A,Y⟩ w' rfl (oH Hx.2) Hz Gq)
      have Hn:Hid (∀s q cap,Bl w6 s ->w6.heap.size<=q ->q<s.heap.size ->Wr s q 9 m.length (fun t=> Um (gS m t)) ->m.length<=cap/\ cap<=9223372036854775807 ->Cl 75 #[Uf (Uc g) (Z j).length c,Uo #[Uf (Uc q) m.length cap,Un V,Ud M,Ud A,Um Y]] s fun e w'=>(∃g' cap' P' Q',e=Ui (Uf (Uc g') ((Z j).length+1) cap')/\ s.heap.size<=g'/\ LC w' w.heap.size (Uf (Uc g') ((Z j).length+1) cap') (Z (j+1)) P' Q')/\ Bl s w'):=hid (fun s q cap z hq1 hq2 hw hcap=>by
       have hJ:=E.bw z;have hs:=hJ.low.size;have G6:=E.low.size;rw [<- Hp.out];exact Qm9 g c (Z j) P Q s w.heap.size q cap m V M A Y hJ.lc hs (by have h1:=Hv.len j oM;have h2:=Gk.out;omega) (fun i hi=>oH ((Hv.pth j oM i hi).2)) (oH Hx.2) ⟨oM,hq2⟩ hw hcap)
      have H6:Hid ((Z j).length+1=(Z (j+1)).length):=hid (by rw [<- Hp.out,QdJ]);have H7:Hid (wr.heap.size≠t):=hid (fun e=>by
       have h1:=He.c1;rw [e,E.o.c1] at h1;cases h1)
      have t0:=(E.o.bw zI.drew E.o.lt).c0;go_wp2_with fail;refine zS Hd (fun qh=> ?_);refine tZ 0 66 ?_;refine tZ 2 68 ?_;refine Qba (i:=1) (j:=3) (d:=Uq 67) (d':=Uq 69) oK oK oK ?_ ?_
      ·
       intro o ho Gr K k;simp only [gZa,gZb,gZc,gZd] at ho;subst ho;go_simp;refine k.out _ _ (Hd _ zI.drew) (fun qh=> ?_);clear k K;try simp only [zP]
       clear t0;refine cZ 3 ?_;intro K k;go_simp;refine(Hm _ zI.drew).mono ?_;rintro e s ⟨q7,Hf,rfl,z,Hb,Hc,Hk,Ha⟩;have H:Bl w6 s:=⟨z.os,z.tape,z.output,z.size,z.block⟩;refine k.out _ _ (Hd _ H) (fun qh=> ?_);clear k K;try simp only [zP]
       have Hh:=hid (Hn s q7 Hf H Hb Hc Hk Ha);clear Hk Ha Hb Hc;refine cZ 4 ?_;intro K k;go_simp;refine Hh.mono ?_;rintro e B ⟨⟨U,O,P8,Q8,rfl,Hy,l8⟩,b8⟩;have N:=Qaa H b8;have Hu:=hid (E.set N l8 H6 (oH H.size) (fun i hi=>(Hv.pth (j+1) D i hi).1));have O8:=E.o.bw N E.o.lt;refine k.out _ _ (Hd _ N) (fun qh=> ?_);clear k K;try simp only [zP]
       refine tZ 5 71 ?_;have o0:=O8.c0;have of:=O8.f 0;have G:=((He.bw N He.lt).setFar t (Uf (Uc U) ((Z j).length+1) O) H7);have Hi:=hid (⟨G.c0,G.c1,G.c2,G.c3,G.c4⟩:(B.setCell (Ub t) (Uf (Uc U) ((Z j).length+1) O)).cell? (Ub wr.heap.size)=Uq (Uf (Uq (Ua S po)) m.length pc)/\ (B.setCell (Ub t) (Uf (Uc U) ((Z j).length+1) O)).cell? (Ua wr.heap.size 1)=Uq (Un V)/\ (B.setCell (Ub t) (Uf (Uc U) ((Z j).length+1) O)).cell? (Ua wr.heap.size 2)=Uq (Ud M)/\ (B.setCell (Ub t) (Uf (Uc U) ((Z j).length+1) O)).cell? (Ua wr.heap.size 3)=Uq (Ud A)/\ (B.setCell (Ub t) (Uf (Uc U) ((Z j).length+1) O)).cell? (Ua wr.heap.size 4)=Uq (Um Y));clear O8 G;refine cZ 6 ?_;intro K k;go_simp;refine k.out _ _ Hi (fun qh=> ?_);clear k K;try simp only [zP]
       refine zD ?_;clear qh z H b8 N l8 Hy o0 of Hh Hn Hm Hd Hi;go_wp2_with fail;go_roundw;case rel=>exact⟨j+1,U,O,P8,Q8,D,oN,Hu⟩
       case measure=>exact oE
      ·
       clear t0;intro o ho Gr K k;simp only [gZa,gZb,gZc,gZd] at ho;subst ho;go_simp;refine(Hm _ zI.drew).mono ?_;rintro e s ⟨q7,Hf,rfl,z,Hb,Hc,Hk,Ha⟩;have H:Bl w6 s:=⟨z.os,z.tape,z.output,z.size,z.block⟩;refine k.out _ _ (Hd _ H) (fun qh=> ?_);clear k K;try simp only [zP]
       have t0:=(E.o.bw H E.o.lt).c0;refine cZ 1 ?_;intro K k;go_simp;refine k.out _ _ (Hd _ H) (fun qh=> ?_);clear k K;try simp only [zP]
       clear t0;have Hh:=hid (Hn s q7 Hf H Hb Hc Hk Ha);clear Hk Ha Hb Hc;refine cZ 4 ?_;intro K k;go_simp;refine Hh.mono ?_;rintro e B ⟨⟨U,O,P8,Q8,rfl,Hy,l8⟩,b8⟩;have N:=Qaa H b8;have Hu:=hid (E.set N l8 H6 (oH H.size) (fun i hi=>(Hv.pth (j+1) D i hi).1));have O8:=E.o.bw N E.o.lt;refine k.out _ _ (Hd _ N) (fun qh=> ?_);clear k K;try simp only [zP]
       refine tZ 5 71 ?_;have o0:=O8.c0;have of:=O8.f 0;have G:=((He.bw N He.lt).setFar t (Uf (Uc U) ((Z j).length+1) O) H7);have Hi:=hid (⟨G.c0,G.c1,G.c2,G.c3,G.c4⟩:(B.setCell (Ub t) (Uf (Uc U) ((Z j).length+1) O)).cell? (Ub wr.heap.size)=Uq (Uf (Uq (Ua S po)) m.length pc)/\ (B.setCell (Ub t) (Uf (Uc U) ((Z j).length+1) O)).cell? (Ua wr.heap.size 1)=Uq (Un V)/\ (B.setCell (Ub t) (Uf (Uc U) ((Z j).length+1) O)).cell? (Ua wr.heap.size 2)=Uq (Ud M)/\ (B.setCell (Ub t) (Uf (Uc U) ((Z j).length+1) O)).cell? (Ua wr.heap.size 3)=Uq (Ud A)/\ (B.setCell (Ub t) (Uf (Uc U) ((Z j).length+1) O)).cell? (Ua wr.heap.size 4)=Uq (Um Y));clear O8 G;refine cZ 6 ?_;intro K k;go_simp;refine k.out _ _ Hi (fun qh=> ?_);clear k K;try simp only [zP]
       refine zD ?_;clear qh z H b8 N l8 Hy o0 of Hh Hn Hm Hd Hi;go_wp2_with fail;go_roundw;case rel=>exact⟨j+1,U,O,P8,Q8,D,oN,Hu⟩
       case measure=>exact oE
     | true=>
      have Gn:Hid (JS w w6 t (Uf a la.length ca) (Uf xa n d) (Uf (Uq (Ua ab ao)) lb.length cb) (Uf x' n' d') g c (Uf ra ul.length rc) (Z (j+1)) ul P Q):=hid (by
       rw [Hv.no j D (by rw [HY.out];exact fun h=>h hh)];exact E)
      clear hh;go_wp2_with fail;go_roundw;case rel=>exact⟨j+1,g,c,P,Q,D,oN,Gn⟩
      case measure=>exact oE
    ·obtain rfl:j=lb.length:=oM;rw [Gv.out] at L;obtain⟨o0,o1⟩:=L.o.q2;obtain⟨r0,r1⟩:=L.r.q2;have f0:=L.r.f 0;have f1:=L.r.f 1;have HC:=hid (L.r.set (Uf (Uc g) J.length c) (Uf ra ul.length rc));go_wp2_with fail;obtain⟨s0,s1⟩:=HC.q2;have hP:∀i,i<J.length ->P i≠w.heap.size+1+1:=fun i hi e=>by
      have hp:=Hv.pth lb.length zL;rw [Gv.out] at hp;have hw:=(L.lc.pt i hi).2.2.2.1.cell (i:=0) (oH ((hp i hi).1));rw [e,L.r.c0] at hw;cases hw
     have G2:(Value.slice (Uc g) J.length c).ownBlock≠Uq (w.heap.size+1+1):=fun e=>by have h1:=Qbu e;have h2:=L.hg;omega
     have G3:(Value.slice ra ul.length rc).ownBlock≠Uq (w.heap.size+1+1):=fun e=>by have:=L.hv2 _ e;omega
     refine zF (v:=Uo #[Uf (Uc g) J.length c,Uf ra ul.length rc]) (by simp [results,results47,go_sem,s0,s1]) ⟨⟨g,c,ra,rc,P,Q,by rw [Gz.out],?_,?_⟩,?_⟩
     ·exact(L.lc.set _ _ G2 hP).set _ _ G2 hP
     ·rw [Gz.out];exact(L.fr.setFar _ _ G3).setFar _ _ G3
     ·exact(L.low.setCell oS _).setCell oS _
def jnU (S S':Sx):List Rn:=unL S.R S.F S.T S.n S'.R S'.F S'.T S'.n
noncomputable def jnS (S S':Sx):Sx:=⟨jn S.R S.F S.T S.n S.l S'.R S'.F S'.T S'.n S'.l,(jnU S S').length,fun i=>(gR (jnU S S') i).1,fun i=>(gR (jnU S S') i).2.1,fun i=>(gR (jnU S S') i).2.2⟩
noncomputable def stB (S:Sx):Bool:=yes (Qcn S.R S.F S.T S.n S.l)
noncomputable def jnF (S S':Sx):Bool:=decide ((jnS S S').l.length<=1000) && decide ((jnS S S').n<=1000)
noncomputable def jnB (S S':Sx):Bool:=stB S && stB S' && jnF S S'
def Sx.mt:Sx:=⟨[],0,fun _=>0,fun _=>0,fun _=>0⟩
noncomputable def jnZ (S S':Sx):Sx:=if jnB S S' then jnS S S' else Sx.mt
theorem QgF {S:Sx}(h:stB S=true):Qcn S.R S.F S.T S.n S.l:=Classical.byContradiction fun hn=>by unfold stB at h;rw [Qaj hn] at h;cases h
theorem QqJ {S:Sx}(h:stB S=false):¬Qcn S.R S.F S.T S.n S.l:=fun hn=>by unfold stB at h;rw [Qal hn] at h;cases h
theorem Qn7 {S S':Sx}(h:jnB S S'=true):jnZ S S'=jnS S S':=by unfold jnZ;rw [if_pos h]
theorem Qhg {S S':Sx}(h:jnB S S'=false):jnZ S S'=Sx.mt:=by unfold jnZ;rw [if_neg (by rw [h];simp)]
def SNj (w:Ur)(lo:Nat)(a x:Option Us)(S:Sx):Prop:=∀w':Ur,w.heap.size<=w'.heap.size ->(∀q,lo<=q ->q<w.heap.size ->w'.heap[q]? =w.heap[q]?) ->SAt w' a x S
structure SNc (w:Ur)(lo:Nat)(a:Option Us)(c:Nat)(x:Option Us)(S:Sx):Prop where
 nc:∀w':Ur,w.heap.size<=w'.heap.size ->(∀q,lo<=q ->q<w.heap.size ->w'.heap[q]? =w.heap[q]?) ->QdB w' a S.l/\ QaD w' x S.n S.R S.F S.T
 cp:S.l.length<=c/\ c<=9223372036854775807
theorem SNc.at{S:Sx}(h:SNc w lo a c x S):QdB w a S.l/\ QaD w x S.n S.R S.F S.T:=h.nc w zL (fun _ _ _=>rfl)
theorem SNc.nj{S:Sx}(h:SNc w lo a c x S):SNj w lo a x S:=fun w' h1 h2=>⟨(h.nc w' h1 h2).1.seg,(h.nc w' h1 h2).2⟩
theorem SNc.move{S:Sx}(h:SNc w lo a c x S)(hl:lo'<=lo)(hs:w.heap.size<=w1.heap.size)(hq:∀q,lo<=q ->q<w.heap.size ->w1.heap[q]? =w.heap[q]?):SNc w1 lo' a c x S:=
 ⟨fun w' h1 h2=>h.nc w' (Ux hs h1) (fun q h3 h4=>(h2 q (Ux hl h3) (Ut h4 hs)).trans (hq q h3 h4)),h.cp⟩
theorem SNc.bw{S:Sx}(h:SNc w lo a c x S)(hb:Bl w w1):SNc w1 lo a c x S:=h.move zL hb.size (fun q _ h2=>hb.block q h2)
theorem SNc.mt (w:Ur)(lo:Nat)(a x:Option Us):SNc w lo a 0 x Sx.mt:=⟨fun w' _ _=>⟨.inl rfl,.inl rfl⟩,Uu _,oM⟩
theorem LC.cp{P Q:Nat ->Nat}(h:LC w lo (Uf (Uc g) n c) l P Q)(hn:l.length=n):l.length<=c/\ c<=9223372036854775807:=by
 rcases h.row.2 with ⟨e,r⟩|⟨u,m,q,j,y,v,z,k,t,o⟩
 ·injection e with e1 e2 e3;cases e1
 ·injection j with e1 e2 e3;subst e3;unfold maxLen at k;omega
theorem LC.lcap{P Q:Nat ->Nat}(h:LC w lo (Uf (Uc g) n c) l P Q)(hn:n=l.length):QdB w (Uc g) l:=by
 refine .inr ⟨g,0,rfl,(h.lt g rfl).2,fun i hi=> ?_⟩;obtain⟨j,k,m,q,r⟩:=h.cell hn hi;refine⟨Uq ⟨P i,0,Up⟩,Q i,⟨?_,(h.pt i hi).2.2.2.2⟩,h.seg hi,?_,?_,?_,?_⟩
 ·rw [Uw];exact j
 ·rw [Uw];exact k
 ·rw [Uw];exact m
 ·rw [Uw];exact q
 ·rw [Uw];exact r
theorem LC.lseg{P Q:Nat ->Nat}(h:LC w lo (Uf (Uc g) n c) l P Q)(hn:n=l.length):QbK w (Uc g) l:=by
 refine .inr ⟨g,0,rfl,(h.lt g rfl).2,fun i hi=> ?_⟩;obtain⟨j,k,m,q,r⟩:=h.cell hn hi;refine⟨Uq ⟨P i,0,Up⟩,Q i,?_,h.seg hi,?_,?_,?_,?_⟩
 ·rw [Uw];exact j
 ·rw [Uw];exact k
 ·rw [Uw];exact m
 ·rw [Uw];exact q
 ·rw [Uw];exact r
theorem Qq1{ra:Option Us}{rc:Nat}{S S':Sx}{P Q:Nat ->Nat}(h:LC w lo (Uf (Uc g) (jnS S S').l.length c) (jnS S S').l P Q)(hf:FR w lo (Uf ra (jnU S S').length rc) (jnU S S')):SNc w lo (Uc g) c ra (jnS S S'):=⟨fun w' h1 h2=>by
 have k:=h.move h1 h2;have j:FR w' lo (Uf ra (jnU S S').length rc) (jnU S S'):=QaO hf (fun q hq=>h2 q (World.ownsRow.lt hf q hq).1 (World.ownsRow.lt hf q hq).2);obtain⟨a,c',e,s,_,_⟩:=j.fs;injection e with e1 e2 e3;subst e1;exact⟨k.lcap rfl,s.rseg⟩,h.cp rfl⟩
theorem QmJ {S:Sx}(h:Qcn S.R S.F S.T S.n S.l):∀i,i<S.l.length ->1<=(gL S.l i).p.length/\ (gL S.l i).p.length<=8:=fun i hi=>by
 have:=(h.2.2.1 i hi).1;exact⟨this.1.1,this.1.2.1⟩
theorem Qm7 {S S':Sx}(hs:StW S.R S.F S.T S.n S.l)(hs':StW S'.R S'.F S'.T S'.n S'.l):(jnS S S').l.length<=2000/\ (jnU S S').length<=4000:=by
 have k:=hs.2.1;have m:=hs'.2.1;have q:=hs.1;have r:=hs'.1;constructor
 ·have e:(jnS S S').l=QeK (fun x=>¬Qdp S.R S.F S.T S.n x) S'.l (QeK (fun x=>x∈S'.l \/¬Qdp S'.R S'.F S'.T S'.n x) S.l [] S.l.length) S'.l.length:=rfl;rw [e];have u:=QdN (P:=fun x=>¬Qdp S.R S.F S.T S.n x) (ls:=S'.l) (out:=QeK (fun x=>x∈S'.l \/¬Qdp S'.R S'.F S'.T S'.n x) S.l [] S.l.length) S'.l.length;have j:=QdN (P:=fun x=>x∈S'.l \/¬Qdp S'.R S'.F S'.T S'.n x) (ls:=S.l) (out:=[]) S.l.length;simp at j;omega
 ·have:=Qh6 (flat S'.R S'.F S'.T S'.n) (flat S.R S.F S.T S.n);rw [QbB,QbB] at this;show (unF (flat S.R S.F S.T S.n) (flat S'.R S'.F S'.T S'.n)).length<=4000;omega
theorem QnD (a x:Option Us)(m n c d:Nat)(w:Ur)(hm:m<=1048576)(hn:n<=1048576):Cl 48 #[Uo #[Uf a m c,Uf x n d]] w (Rt w (Un (decide (m<=1000) && decide (n<=1000)))):=by
 obtain⟨W,q⟩:=zE (w.alloc (Uj #[Uf a m c,Uf x n d] 40));have v:Bl w W:=q▸zO _ _;have u:Bx2 W w.heap.size (Uf a m c) (Uf x n d):=q▸Bx2.made _ _ _ _;have r:=hid v;obtain⟨k0,i⟩:=u.q2;have j:Hid (∀b:Bool,(b=true↔m<=1000/\ n<=1000) ->(decide (m<=1000) && decide (n<=1000))=b):=hid (fun b hb=>by
  cases b with
  | true=>have:=hb.1 rfl;simp [this.1,this.2]
  | false=>
   cases h:(decide (m<=1000) && decide (n<=1000)) with
   | false=>rfl
   | true=>exact absurd (hb.2 (oW h)) oP)
 obtain⟨B,g⟩:=zE ((decide (m<=1000) && decide (n<=1000)));rw [g] at j ⊢;clear v u g;by_cases y:m<=1000
 ·have t:(m:Int)<=1000:=oM;by_cases z:n<=1000
  ·have o:(n:Int)<=1000:=oM;have k:=hid (j true ⟨fun _=>⟨y,z⟩,fun _=>rfl⟩);clear j;go_enter func48,ntmps48;go_wp2_with fail;try rw [q]
   go_ret;exact⟨Qa8 k.symm,r⟩
  ·have o:¬(n:Int)<=1000:=oM;have k:=hid (j false ⟨fun h=>by simp at h,fun h=>absurd h.2 z⟩);clear j;go_enter func48,ntmps48;go_wp2_with fail;try rw [q]
   go_ret;exact⟨Qa8 k.symm,r⟩
 ·have t:¬(m:Int)<=1000:=oM;have k:=hid (j false ⟨fun h=>by simp at h,fun h=>absurd h.1 y⟩);clear j;go_enter func48,ntmps48;go_wp2_with fail;try rw [q]
  go_ret;exact⟨Qa8 k.symm,r⟩
theorem QkA (sa sx ta tx:Option Us)(c d c' d':Nat)(S S':Sx)(w:Ur)(hm:S.Sm)(hm':S'.Sm)(h:SCt w sa sx S)(h':SCt w ta tx S'):
  Cl 26 #[Uo #[Uf sa S.l.length c,Uf sx S.n d],Uo #[Uf ta S'.l.length c',Uf tx S'.n d']] w fun e w'=>∃a m x t,e=Ui (Ul #[Uo #[Uf a (jnZ S S').l.length m,Uf x (jnZ S S').n t],Un (jnB S S')])/\ SNc w' w.heap.size a m x (jnZ S S')/\ Bl w w'/\ (jnZ S S').l.length<=m/\ m<=9223372036854775807:=by
 obtain⟨W,s⟩:=zE (((w.alloc (Uj #[Uf sa S.l.length c,Uf sx S.n d] 40)).alloc (Uj #[Uf ta S'.l.length c',Uf tx S'.n d'] 40)).alloc (Uj #[Ue,Ue] 40));have L:Bl w W:=s▸(Qak _ _ _).alloc oS _;have D:Bx2 W w.heap.size (Uf sa S.l.length c) (Uf sx S.n d):=s▸((Bx2.made w _ _ _).allocs _).allocs _;have B0:Bx2 W (w.heap.size+1) (Uf ta S'.l.length c') (Uf tx S'.n d'):=by
  rw [<- s];have:=Bx2.made (w.alloc (Uj #[Uf sa S.l.length c,Uf sx S.n d] 40)) (Uf ta S'.l.length c') (Uf tx S'.n d') 40;exact(by simpa using this:Bx2 _ (w.heap.size+1) _ _).allocs _
 have R0:Bx2 W (w.heap.size+1+1) Ue Ue:=by
  rw [<- s];simpa using Bx2.made ((w.alloc (Uj #[Uf sa S.l.length c,Uf sx S.n d] 40)).alloc (Uj #[Uf ta S'.l.length c',Uf tx S'.n d'] 40)) Ue Ue 40
 have zW:W.heap.size=w.heap.size+3:=s▸oP;have HS:=hid (h.bw L);have Hl:=hid (h'.bw L);have K:=hid (QcI sa c S.l sx S.n d S.R S.F S.T W hm.l1 hm.p1 hm.n1 HS.lf HS.rn);have Hc:=hid (fun w1 (k:Bl W w1)=>QcI ta c' S'.l tx S'.n d' S'.R S'.F S'.T w1 hm'.l1 hm'.p1 hm'.n1 (Hl.bw k).lf (Hl.bw k).rn);have I:=hid D;have u:=hid B0;have Hx:=hid R0;have Hs:=hid L;have H6:=hid zW;obtain⟨k0,k1⟩:=D.q2;change Hid (Calls _ _ _ _ fun e w'=>e=Ui (Un (stB S))/\ _) at K;obtain⟨B,p⟩:=zE (stB S);obtain⟨B',Ho⟩:=zE (stB S');have Hn:=hid p;have Hb:=hid Ho;have Hd:Hid (∀w1,Bl W w1 ->Cl 46 #[Uo #[Uf ta S'.l.length c',Uf tx S'.n d']] w1 (Rt w1 (Un B'))):=hid (fun w1 k=>by rw [<- Ho];exact Hc.out w1 k);rw [p] at K;clear L D B0 R0 zW h h' p Ho Hc;go_enter func26,ntmps26;go_wp2_with fail;try rw [s]
 clear s;refine K.mono ?_;rintro e w1 ⟨rfl,k⟩;have He:=hid (Hs.trans (k.mono Hs.size));have Hz:=hid k;have O:=hid (Hx.bw k Hx.lt);clear k0 k1 K;cases B with
 | false=>
  have j:Hid (jnB S S'=false/\ jnZ S S'=Sx.mt):=hid (by
   have e:jnB S S'=false:=(by unfold jnB;rw [Hn.out];rfl);exact⟨e,Qhg e⟩)
  clear k;obtain⟨r0,r1⟩:=O.q2;have f0:=O.f 0;have f1:=O.f 1;have z:=hid (O.set Ue Ue);go_wp2_with fail;obtain⟨E,M⟩:=z.q2;refine zF (v:=Ul #[Uo #[Ue,Ue],Un false]) (by simp [results,results26,go_sem,E,M]) ⟨Up,0,Up,0,by rw [j.1,j.2];rfl,?_,?_⟩
  ·rw [j.2];exact SNc.mt _ _ _ _
  ·exact⟨(He.setCell oS _).setCell oS _,by rw [j.2];exact⟨Uu _,oM⟩⟩
 | true=>
  have l0:=(u.bw k u.lt).c0;have H:=(u.bw k u.lt).c1;clear k;go_wp2_with fail;refine(Hd w1 Hz).mono ?_;rintro e w2 ⟨rfl,N⟩;have Hf:=hid (He.trans (N.mono He.size));have o:=hid (Qaa Hz N);have U:=hid (O.bw N O.lt);clear N l0 H Hd;cases B' with
  | false=>
   have j:Hid (jnB S S'=false/\ jnZ S S'=Sx.mt):=hid (by
    have e:jnB S S'=false:=(by unfold jnB;rw [Hb.out];simp);exact⟨e,Qhg e⟩)
   obtain⟨r0,r1⟩:=U.q2;have f0:=U.f 0;have f1:=U.f 1;have z:=hid (U.set Ue Ue);go_wp2_with fail;obtain⟨E,M⟩:=z.q2;refine zF (v:=Ul #[Uo #[Ue,Ue],Un false]) (by simp [results,results26,go_sem,E,M]) ⟨Up,0,Up,0,by rw [j.1,j.2];rfl,?_,?_⟩
   ·rw [j.2];exact SNc.mt _ _ _ _
   ·exact⟨(Hf.setCell oS _).setCell oS _,by rw [j.2];exact⟨Uu _,oM⟩⟩
  | true=>
   have Z:=QgF Hn;have G:=QgF Hb;have hc:=Qax.1 Z.1;have Hr:=Qax.1 G.1;have Hm:=HS.bw o;have Ha:=Hl.bw o;have Hi:=hid (QnE sa ta c c' S.l S'.l sx S.n d S.R S.F S.T tx S'.n d' S'.R S'.F S'.T w2 hc.2 Hr.2 hc.1 Hr.1 Z.2.1 G.2.1 (QmJ Z) (QmJ G) Hm.lf Ha.lf Hm.rn Ha.rn);have Hk:Hid ((jnS S S').l.length<=2000/\ (jnU S S').length<=4000):=hid (Qm7 Z.w G.w);have l0:=(I.bw o I.lt).c0;have H:=(I.bw o I.lt).c1;have l2:=(u.bw o u.lt).c0;have l3:=(u.bw o u.lt).c1;have Hh:Hid (jn S.R S.F S.T S.n S.l S'.R S'.F S'.T S'.n S'.l=(jnS S S').l/\ unL S.R S.F S.T S.n S'.R S'.F S'.T S'.n=jnU S S'):=hid ⟨rfl,rfl⟩;rw [Hh.1,Hh.2] at Hi;obtain⟨i,Hp⟩:=zE ((jnS S S').l.length);obtain⟨b,Hq⟩:=zE ((jnU S S').length);rw [Hp,Hq] at Hi Hk;have J:=hid Hp;have Hj:=hid Hq;clear Z G hc Hr Hm Ha Hp Hq Hh;go_wp2_with fail;refine Hi.mono ?_;rintro e w3 ⟨⟨A,r,ra,V,P,Q,rfl,jl,jf⟩,b3⟩;obtain⟨w4,C⟩:=zE (w3.alloc (Uj #[Uf (Uc A) i r,Uf ra b V] 40));have X:Bl w3 w4:=C▸zO _ _;have X4:Bx2 w4 w3.heap.size (Uf (Uc A) i r) (Uf ra b V):=C▸Bx2.made _ _ _ _;have H3:Hid (SNc w4 w2.heap.size (Uc A) r ra (jnS S S')):=hid (SNc.bw (Qq1 (by rw [J.out];exact jl) (by rw [Hj.out];exact jf)) X);have Ht:=hid (Hf.trans ((Qaa b3 X).mono Hf.size));have Hy:=hid (U.bw (Qaa b3 X) U.lt);have Hg:=hid (QnD (Uc A) ra i b r V w4 (oH Hk) (oH Hk));have H0:=hid X4;have H1:Hid (w.heap.size+3<=w2.heap.size):=hid (by have h1:=H6.out;have h2:=o.size;omega);obtain⟨x0,x1⟩:=X4.q2;have Hv:Hid ((decide (i<=1000) && decide (b<=1000))=jnF S S'):=hid (by rw [<- J.out,<- Hj.out];rfl);rw [Hv.out] at Hg;obtain⟨B,p⟩:=zE (jnF S S');have Hw:=hid p;rw [p] at Hg;have H2:Hid (i<=r/\ r<=9223372036854775807):=hid (by
    rcases jl.row.2 with ⟨e,_⟩|⟨g,cap,H9,e,_,_,H8,H7,_⟩
    ·cases e
    ·injection e with e1 e2 e3;rw [e3,e2];exact⟨H8,by unfold maxLen at H7;omega⟩)
   clear jl jf b3 X X4 l0 H l2 l3 p Hv;go_wp2_with fail;try rw [C]
   clear C;refine Hg.mono ?_;rintro e w5 ⟨rfl,Y⟩;have Hu:=hid (Ht.trans (Y.mono Ht.size));have y:=hid (Hy.bw Y Hy.lt);have H5:=hid (H0.bw Y H0.lt);have H4:=hid (H3.bw Y);clear x0 x1 Y;cases B with
   | false=>
    have j:Hid (jnB S S'=false/\ jnZ S S'=Sx.mt):=hid (by
     have e:jnB S S'=false:=(by unfold jnB;rw [Hw.out];simp);exact⟨e,Qhg e⟩)
    obtain⟨r0,r1⟩:=y.q2;have f0:=y.f 0;have f1:=y.f 1;have z:=hid (y.set Ue Ue);go_wp2_with fail;obtain⟨E,M⟩:=z.q2;refine zF (v:=Ul #[Uo #[Ue,Ue],Un false]) (by simp [results,results26,go_sem,E,M]) ⟨Up,0,Up,0,by rw [j.1,j.2];rfl,?_,?_⟩
    ·rw [j.2];exact SNc.mt _ _ _ _
    ·exact⟨(Hu.setCell oS _).setCell oS _,by rw [j.2];exact⟨Uu _,oM⟩⟩
   | true=>
    have j:Hid (jnB S S'=true/\ jnZ S S'=jnS S S'):=hid (by
     have e:jnB S S'=true:=(by unfold jnB;rw [Hw.out,Hn.out,Hb.out];rfl);exact⟨e,Qn7 e⟩)
    obtain⟨r0,r1⟩:=y.q2;have f0:=y.f 0;have f1:=y.f 1;obtain⟨x0,x1⟩:=H5.q2;have z:=hid (y.set (Uf (Uc A) i r) (Uf ra b V));go_wp2_with fail;obtain⟨E,M⟩:=z.q2;refine zF (v:=Ul #[Uo #[Uf (Uc A) i r,Uf ra b V],Un true]) (by simp [results,results26,go_sem,E,M]) ⟨Uq (Ub A),r,ra,V,by rw [j.1,j.2,J.out,show (jnS S S').n=b from Hj.out],?_,?_⟩
    ·rw [j.2];exact H4.move (oH H1) (by simp [UC]) (fun q h1 h2=>by
      have:=H1.out;rw [zH _ _ _ _ oS,zH _ _ _ _ oS])
    ·exact⟨(Hu.setCell oS _).setCell oS _,by rw [j.2,J.out];exact H2⟩
open Go.Maps
def LvJ (w:Ur)(z0:Nat×Nat)(bd:Nat)(J:List Lf)(ul:List Rn):Prop:=∃N B c n D G L,JF w B J [] N c z0/\ c<=1048576/\ QcM w bd n D G L/\ QcK L 8=ul/\ (∀r,L r≠[] ->0<=r/\ r<8)/\ (∀r,(L r).length<=4000)
theorem LvJ.bw(h:LvJ w z0 bd J ul)(hb:Bl w w'):LvJ w' z0 bd J ul:=by
 obtain⟨N,B,c,n,D,G,L,j,k,m,q⟩:=h;exact⟨N,B,c,n,D,G,L,⟨j.tre.bw hb,j.root,j.there⟩,k,m.bw hb,q⟩
theorem LvJ.far(h:LvJ w z0 bd J ul){ty:TypeId}(m:∃v f,w.heap[t]? =Uq (.cells v ty f))(hty:ty≠255)(hg:w.grownBy w' (Uq t)):LvJ w' z0 bd J ul:=by
 obtain⟨N,B,c,n,D,G,L,k,s,u,A⟩:=h;obtain⟨v,f,m⟩:=m;refine⟨N,B,c,n,D,G,L,⟨k.tre.same fun p x hx=>⟨hg.block _ (k.tre.lt hx).1 (fun e=> ?_),hg.block _ (k.tre.lt hx).2 (fun e=> ?_)⟩,k.root,k.there⟩,s,u.gr hg (fun e=> ?_) (fun r g hrg e=> ?_),A⟩
 ·obtain⟨y,z,q⟩:=(k.tre.kids p x hx).obj;injection e with e;rw [e,m] at q;cases q
 ·obtain⟨y,z,q⟩:=(k.tre.marks p x hx).obj;injection e with e;rw [e,m] at q;cases q
 ·obtain⟨y,M,j,_⟩:=u.own;injection e with e;rw [e,m] at j;cases j
 ·rcases (u.rows r).2 with ⟨b,_⟩|⟨i,cap,O,E,_,j,_⟩
  ·rw [b] at hrg;cases hrg
  ·rw [E] at hrg;have o:i=g:=(by simpa [Value.ownBlock] using hrg);injection e with e;rw [o,e,m] at j;injection j with j;injection j with _ j;exact hty j
theorem Qqu (w:Ur)(t:Nat)(u0 u1 u2:Value):w.grownBy (((w.setCell (Ub t) u0).setCell (Ua t 1) u1).setCell (Ua t 2) u2) (Uq t):=by
 have j:w.grownBy (w.setCell (Ub t) u0) (Uq t):=QaG w (Ub t) u0;have k:(w.setCell (Ub t) u0).grownBy ((w.setCell (Ub t) u0).setCell (Ua t 1) u1) (Uq t):=QaG _ (Ua t 1) u1;have m:((w.setCell (Ub t) u0).setCell (Ua t 1) u1).grownBy (((w.setCell (Ub t) u0).setCell (Ua t 1) u1).setCell (Ua t 2) u2) (Uq t):=QaG _ (Ua t 2) u2;exact(j.trans k).trans m
theorem Qf7 (R F T:Nat ->Int)(r f t:Int):∀n,QbD R F T r f t n=true ->∃k,k<n/\ R k=r/\ F k<=f/\ t<=T k
 | 0,h=>by simp [QbD] at h
 | n+1,h=>by
  simp only [QbD,Bool.or_eq_true,decide_eq_true_eq] at h;rcases h with h|h
  ·obtain⟨k,j,r⟩:=Qf7 R F T r f t n h;exact⟨k,oM,r⟩
  ·exact⟨n,oM,h⟩
theorem QkG(h:StW R F T n l):∀x∈l,(0<=x.r/\ x.r<8)/\ (0<=x.q/\ x.q<=1000000000)/\ x.v.size<=200/\ x.p.length<=8:=fun x hx=>by
 obtain⟨i,hi,e⟩:=Qaq.1 hx;have o:=h.1.1;obtain⟨k,t,y,z,g⟩:=Qf7 R F T _ _ _ n (h.2.2.1 i hi).2.1;have:=(o k t).1;simp only [Qbe,Bool.and_eq_true,decide_eq_true_eq] at this;have j:=(h.2.2.1 i hi).1;have m:=j.1.2.1;have u:=j.2.1;rw [e] at y z g m u;exact⟨oM,oM,u,m⟩
theorem QjI {S S':Sx}(h:StW S.R S.F S.T S.n S.l)(h':StW S'.R S'.F S'.T S'.n S'.l):∀x∈(jnS S S').l,(0<=x.r/\ x.r<8)/\ (0<=x.q/\ x.q<=1000000000)/\ x.v.size<=200/\ x.p.length<=8:=fun x hx=>by
 rcases Qek x hx with j|j
 ·exact QkG h x j
 ·exact QkG h' x j.1
theorem Qpc(h:¬i<l.length):(gL l i).p=[]:=by simp [gL,UR,h]
theorem Qpu {S S':Sx}(h:StW S.R S.F S.T S.n S.l)(h':StW S'.R S'.F S'.T S'.n S'.l)(hl:(jnS S S').l.length<=1000):LvB (jnS S S').l:=
 ⟨fun i hi=>(QjI h h' _ (Qaq.2 ⟨i,hi,rfl⟩)).1,fun i hi=>(QjI h h' _ (Qaq.2 ⟨i,hi,rfl⟩)).2.1,fun i hi=>(QjI h h' _ (Qaq.2 ⟨i,hi,rfl⟩)).2.2.1,hl,QjJ h h'⟩
def Qo7 (n:Nat)(A B:Nat ->Int)(i:Nat):Int:=if i<n then A i else B (i - n)
theorem Qq2 {S S':Sx}(h:StW S.R S.F S.T S.n S.l)(h':StW S'.R S'.F S'.T S'.n S'.l):QbU (Qo7 S.n S.R S'.R) (Qo7 S.n S.F S'.F) (Qo7 S.n S.T S'.T) (S.n+S'.n) (jnS S S').l (jnS S S').l.length:=
 Qq3 h h' fun z j=>by
  rcases j with j|j
  ·obtain⟨k,m,q,r,u⟩:=Qf7 _ _ _ _ _ _ _ j;refine Qf4 (k:=k) oM ?_;unfold Qo7;rw [if_pos m,if_pos m,if_pos m];exact⟨q,r,u⟩
  ·obtain⟨k,m,q,r,u⟩:=Qf7 _ _ _ _ _ _ _ j;refine Qf4 (k:=S.n+k) oM ?_;unfold Qo7;rw [if_neg oM,if_neg oM,if_neg oM,show S.n+k - S.n=k by omega];exact⟨q,r,u⟩
theorem QqX {x:Lf}(h:x.p.length<=8):(Way x).length<=8:=by unfold Way;rw [QaS];exact h
def OpA (w:Ur)(x0:Nat×Nat)(bm:Nat)(S:Sx):Prop:=∃n D G N B,n<=2000/\ QaM w bm n D G (Lk S.R S.F S.T S.n)/\ Tre w B N (Mk S.l S.l.length) (9*S.l.length)/\ N []=Uq x0/\ NkI S.l S.l.length N
theorem OpA.bw{S:Sx}(h:OpA w x0 bm S)(hb:Bl w w'):OpA w' x0 bm S:=by
 obtain⟨n,D,G,N,B,j,k,m,q,r⟩:=h;exact⟨n,D,G,N,B,j,k.bw hb,m.bw hb,q,r⟩
theorem Bx3.far{v2:Value}(h:Bx3 w b v0 v1 v2)(hg:w.grownBy w' (Uq t))(hne:b≠t):Bx3 w' b v0 v1 v2:=h.gr hg (fun k e=>by injection e with e;omega)
theorem Qkj{N:List Ky ->Option (Nat×Nat)}(h:NkI l l.length N)(h8:∀x∈l,x.p.length<=8):∀p,N p≠Up ->p.length<=8:=fun p hp=>by
 have k:(N p).isSome=true:=by
  cases hv:N p with
  | none=>exact absurd hv hp
  | some v=>rfl
 rcases (h p).1 k with e|⟨j,m,q⟩
 ·rw [e];simp
 ·exact Ux q.length_le (QqX (h8 _ (Qaq.2 ⟨j,m,rfl⟩)))
theorem Qp7{N:List Ky ->Option (Nat×Nat)}(h:NkI l l.length N){z:List Ky}{x:Lf}(hx:x∈l)(hp:z <+:Way x):N z≠Up:=fun hn=>by
 obtain⟨j,k,e⟩:=Qaq.1 hx;have:=(h z).2 (.inr ⟨j,k,by rw [e];exact hp⟩);rw [hn] at this;cases this
theorem Qlw {w0:Ur}{S S':Sx}(h:OpA w0 x0 bm S)(h':OpA w0 y0 bm' S')(hs:StW S.R S.F S.T S.n S.l)(hs':StW S'.R S'.F S'.T S'.n S'.l)(w:Ur)(hb:Bl w0 w):
  Cl 169 #[Uo #[.map (Uq x0.1),.map (Uq x0.2),.map (Uq bm)],Uo #[.map (Uq y0.1),.map (Uq y0.2),.map (Uq bm')]] w fun e w'=>(∃z0 N,e=Ui (Uo #[.map (Uq z0.1),.map (Uq z0.2)])/\ JF w' w.heap.size (jnS S S').l [] N (10*(9*S.l.length+9*S'.l.length)) z0)/\ Bl w w':=by
 obtain⟨J,D,G,N,B,L,t,O,E,v⟩:=h;obtain⟨K,V,Y,u,U,X,o,Q,M,g⟩:=h';have s:=hs.1;have A:=hs'.1;have H:JH w0 N u (Mk S.l S.l.length) (Mk S'.l S'.l.length) (9*S.l.length) (9*S'.l.length) bm bm' (fun d=>QbD S.R S.F S.T d.1 d.2 d.2 S.n) (fun d=>QbD S'.R S'.F S'.T d.1 d.2 d.2 S'.n) (jnS S S').l:=by
  refine⟨O.lower (Uv _),Q.lower (Uv _),fun w hw r q kl hk=> ?_,fun w hw r q kl hk=> ?_,fun z=>Qp0 hs hs' z,fun z y ha=> ?_⟩
  ·have:=Qqx (t.bw hw) r q (Qd7 hk).1 (QbT S.n s.1 r).1 (Ux (Qbz S.R S.F S.T S.n r) oM);rw [Qf5] at this;exact this
  ·have:=Qqx (o.bw hw) r q (Qd7 hk).1 (QbT S'.n A.1 r).1 (Ux (Qbz S'.R S'.F S'.T S'.n r) oM);rw [Qf5] at this;exact this
  ·obtain⟨x,k,j⟩:=ha;rcases Qek x k with m|m
   ·exact .inl (Qp7 v m j)
   ·exact .inr (Qp7 g m.1 j)
 have i:∀p,(N p≠Up \/u p≠Up) ->p.length<=8:=fun p j=>by
  rcases j with j|j
  ·exact Qkj v (fun x k=>(QkG hs x k).2.2.2) p j
  ·exact Qkj g (fun x k=>(QkG hs' x k).2.2.2) p j
 have Z:=hs.2.1;have I:=hs'.2.1;have:=Qfe H i oM 8 [] rfl w hb;unfold QmB at this;rw [E,M] at this;exact this.mono fun e w' ⟨⟨z0,N1,e1,e2⟩,b⟩=>⟨⟨z0,N1,e1,e2⟩,b⟩
theorem QjK{S S':Sx}(w:Ur)(h:OpA w x0 bm S)(h':OpA w y0 bm' S')(hs:StW S.R S.F S.T S.n S.l)(hs':StW S'.R S'.F S'.T S'.n S'.l):
  Cl 152 #[Uo #[.map (Uq x0.1),.map (Uq x0.2),.map (Uq bm)],Uo #[.map (Uq y0.1),.map (Uq y0.2),.map (Uq bm')]] w fun e w'=>(∃z0 j,e=Ui (Uo #[.map (Uq z0.1),.map (Uq z0.2),.map (Uq j)])/\ LvJ w' z0 j (jnS S S').l (jnU S S'))/\ Bl w w':=by
 have z:=hs.1;have g:=hs'.1;have hl:=hs.2.1;have He:=hs'.2.1;obtain⟨W,u⟩:=zE (((w.alloc (Uj #[.map (Uq x0.1),.map (Uq x0.2),.map (Uq bm)] 176)).alloc (Uj #[.map (Uq y0.1),.map (Uq y0.2),.map (Uq bm')] 176)).alloc (Uj #[.map Up,.map Up,.map Up] 176));have y:Bl w W:=u▸(Qak _ _ _).alloc oS _;have C:Bx3 W w.heap.size (.map (Uq x0.1)) (.map (Uq x0.2)) (.map (Uq bm)):=by
  rw [<- u];exact((Bx3.made w _ _ _ _).bw (zO _ _) (Bx3.made w _ _ _ _).lt).bw (zO _ _) oS
 have P:Bx3 W (w.heap.size+1) (.map (Uq y0.1)) (.map (Uq y0.2)) (.map (Uq bm')):=by
  rw [<- u];have:=Bx3.made (w.alloc (Uj #[.map (Uq x0.1),.map (Uq x0.2),.map (Uq bm)] 176)) (.map (Uq y0.1)) (.map (Uq y0.2)) (.map (Uq bm')) 176;exact(by simpa using this:Bx3 _ (w.heap.size+1) _ _ _).bw (zO _ _) oP
 have R0:Bx3 W (w.heap.size+1+1) (.map Up) (.map Up) (.map Up):=by
  rw [<- u];simpa using Bx3.made ((w.alloc (Uj #[.map (Uq x0.1),.map (Uq x0.2),.map (Uq bm)] 176)).alloc (Uj #[.map (Uq y0.1),.map (Uq y0.2),.map (Uq bm')] 176)) (.map Up) (.map Up) (.map Up) 176
 have Hb:=hid (fun w1 (k:Bl W w1)=>Qlw (h.bw y) (h'.bw y) hs hs' w1 k);have Hd:Hid (∀w1,Bl W w1 ->Cl 170 #[.map (Uq bm),.map (Uq bm')] w1 fun e w'=>(∃j n D G L,e=Ui (.map (Uq j))/\ QcM w' j n D G L/\ QcK L 8=jnU S S'/\ (∀r,L r≠[] ->0<=r/\ r<8)/\ (∀r,(L r).length<=4000))/\ Bl w1 w'):=hid (fun w1 k=>by
  obtain⟨nA,D,G,N,B,zA,g1,_⟩:=(h.bw y).bw k;obtain⟨nB,D',G',N',B',zB,g2,_⟩:=(h'.bw y).bw k;refine(Qoo g1 g2 (fun r=>(QbT S.n z.1 r).1) (fun r=>(QbT S'.n g.1 r).1) (fun r=>Ux (Qbz S.R S.F S.T S.n r) z.2) (fun r=>Ux (Qbz S'.R S'.F S'.T S'.n r) g.2) (Ux g1.size_le zA) (Ux g2.size_le zB)).mono ?_;rintro e w3 ⟨j,X,D,G,L,rfl,Hn,M,o,b3⟩;refine⟨⟨j,X,D,G,L,rfl,M,(QlY z.1 g.1 o.s (fun r x=>o.done r rfl x)).symm,fun r hr=> ?_,fun r=> ?_⟩,b3⟩
  ·obtain⟨x,hx⟩:=(o.s r).inh hr;rcases (o.done r rfl x).1 hx with h|h
   ·exact QdU S.n z.1 r (Qne h)
   ·exact QdU S'.n g.1 r (Qne h)
  ·have h1:=o.len r;have h2:=Qbz S.R S.F S.T S.n r;have h3:=Qbz S'.R S'.F S'.T S'.n r;omega)
 have i:=hid C;have p:=hid P;have Z:=hid R0;have Hh:=hid y;have Hm:Hid (∃J f,W.heap[w.heap.size+1+1]? =Uq (.cells J 176 f)):=hid (by
  rw [<- u];have:=heap_alloc_new ((w.alloc (Uj #[.map (Uq x0.1),.map (Uq x0.2),.map (Uq bm)] 176)).alloc (Uj #[.map (Uq y0.1),.map (Uq y0.2),.map (Uq bm')] 176)) (Uj #[.map Up,.map Up,.map Up] 176);exact⟨_,_,oW this⟩)
 have Hj:=hid (And.intro hl He);have A:Hid (∀w',Bl W w' ->(w'.cell? (Ub w.heap.size)=Uq (.map (Uq x0.1))/\ w'.cell? (Ua w.heap.size 1)=Uq (.map (Uq x0.2))/\ w'.cell? (Ua w.heap.size 2)=Uq (.map (Uq bm))/\ w'.cell? (Ua (w.heap.size+1) 0)=Uq (.map (Uq y0.1))/\ w'.cell? (Ua (w.heap.size+1) 1)=Uq (.map (Uq y0.2))/\ w'.cell? (Ua (w.heap.size+1) 2)=Uq (.map (Uq bm')))):=hid (fun w' b=>by
  have O:=i.bw b i.lt;have Q:=p.bw b p.lt;exact⟨O.c0,O.c1,O.c2,Q.c0,Q.c1,Q.c2⟩)
 clear C P R0 y h h' hs hs' z g hl He;go_enter func152,ntmps152;go_wp2_with fail;try rw [u]
 clear u;refine zS A (fun qh=> ?_);refine tZ 0 5 ?_;refine tZ 1 6 ?_;refine tZ 3 8 ?_;refine tZ 4 9 ?_;refine tZ 5 10 ?_;refine tZ 6 11 ?_;refine cZ 2 ?_;intro K m;go_simp;refine(Hb _ zI.drew).mono ?_;rintro e w1 ⟨⟨z0,N,rfl,jf⟩,k⟩;have E:Bl W w1:=⟨k.os,k.tape,k.output,k.size,k.block⟩;have Y:=hid jf;clear jf;refine m.out _ _ (A _ E) (fun qh=> ?_);clear m K;try simp only [zP]
 refine cZ 7 ?_;intro K m;go_simp;refine(Hd _ E).mono ?_;rintro e w2 ⟨⟨j,X,D,G,L,rfl,M,Hf,Hg,Ha⟩,I⟩;have q:=Qaa E I;have H:=Z.bw q Z.lt;have Hk:Hid (LvJ w2 z0 j (jnS S S').l (jnU S S')):=hid ⟨N,_,_,X,D,G,L,⟨Y.tre.bw I,Y.root,Y.there⟩,oH Hj,M,Hf,Hg,Ha⟩;clear M Hf Hg Ha;refine m.out _ _ (A _ q) (fun qh=> ?_);clear m K;try simp only [zP]
 refine tZ 8 13 ?_;obtain⟨t0,t1,t2,tf⟩:=H.p3;have Hl:=hid (H.set (.map (Uq z0.1)) (.map (Uq z0.2)) (.map (Uq j)));have U:=hid ((i.bw q i.lt).far (Qqu w2 (w.heap.size+1+1) (.map (Uq z0.1)) (.map (Uq z0.2)) (.map (Uq j))) oM);have V:=hid ((p.bw q p.lt).far (Qqu w2 (w.heap.size+1+1) (.map (Uq z0.1)) (.map (Uq z0.2)) (.map (Uq j))) oM);have Hc:=hid (Hk.far (t:=w.heap.size+1+1) (by obtain⟨J,f,e⟩:=Hm.out;exact⟨J,f,(q.block _ Z.lt).trans e⟩) oD (Qqu w2 (w.heap.size+1+1) (.map (Uq z0.1)) (.map (Uq z0.2)) (.map (Uq j))));have Hi:=hid (Qaa Hh q);refine cZ 9 ?_;intro K m;go_simp;refine m.out _ _ ⟨U.c0,U.c1,U.c2,V.c0,V.c1,V.c2⟩ (fun qh=> ?_);clear m K;try simp only [zP]
 refine zD ?_;clear qh k E I q H t0 t1 t2 tf A Hb Hd;go_wp2_with fail;obtain⟨s0,s1,s2⟩:=Hl.q3;refine zF (v:=Uo #[.map (Uq z0.1),.map (Uq z0.2),.map (Uq j)]) (by simp [results,results152,go_sem,s0,s1,s2]) ?_;first|refine⟨⟨z0.1,z0.2,j,rfl,Hc⟩,?_⟩|refine⟨⟨z0,j,rfl,Hc⟩,?_⟩
 exact((Hi.setCell oS _).setCell oS _).setCell oS _
theorem Qop(w:Ur)(h:LvJ w z0 bd J ul)(hd:Dis J J.length)(h8:∀x∈J,x.p.length<=8)(hJ:J.length<=1048576)(hu:ul.length<=1048576):
  Cl 153 #[Uo #[.map (Uq z0.1),.map (Uq z0.2),.map (Uq bd)]] w (Rt w (Un (decide (J.length<=1000) && decide (ul.length<=1000)))):=by
 obtain⟨W,k⟩:=zE (w.alloc (Uj #[.map (Uq z0.1),.map (Uq z0.2),.map (Uq bd)] 176));have A:Bl w W:=k▸zO _ _;have s:Bx3 W w.heap.size (.map (Uq z0.1)) (.map (Uq z0.2)) (.map (Uq bd)):=k▸Bx3.made _ _ _ _ _;obtain⟨N,B,c,n,D,G,L,E,U,Y,Z,H,I⟩:=h.bw A;have v:=hid (Qmw (E.tj hd) U hJ (fun x hx=>QqX (h8 x hx)) 8 [] z0 rfl E.root W zI);rw [Qo5] at v;have q:=hid (fun w1 (j:Bl W w1)=>Qnn (Y.bw j) H I);rw [Z] at q;have t:=hid A;have g:=hid s;obtain⟨k0,S⟩:=s.q2;obtain⟨m,K⟩:=zE J.length;obtain⟨u,X⟩:=zE ul.length;rw [K] at v hJ ⊢;rw [X] at q hu ⊢;obtain⟨V,M⟩:=zE ((decide (m<=1000) && decide (u<=1000)));rw [M];have b:=hid M;clear A s h E U Y Z H I hd h8 K X M;by_cases O:m<=1000
 ·have C:(m:Int)<=1000:=oM;by_cases Q:u<=1000
  ·have F:(u:Int)<=1000:=oM;have y:Hid (V=true):=hid (by rw [<- b.out];simp [O,Q]);go_enter func153,ntmps153;go_wp2_with fail;try rw [k]
   clear k;refine v.mono ?_;rintro e w1 ⟨rfl,j⟩;have R:=(g.bw j g.lt).c2;have r:=hid (Qaa t j);have i:=hid (q w1 j);clear j q;go_wp2_with fail;refine i.mono ?_;rintro e w2 ⟨rfl,z⟩;have o:=hid (Qaa r z);clear z;go_wp2_with fail;go_ret;exact⟨Qa8 y.symm,o⟩
  ·have F:¬(u:Int)<=1000:=oM;have P:decide ((u:Int)<=1000)=false:=oW F;have y:Hid (V=false):=hid (by rw [<- b.out];simp [Q]);go_enter func153,ntmps153;go_wp2_with fail;try rw [k]
   clear k;refine v.mono ?_;rintro e w1 ⟨rfl,j⟩;have R:=(g.bw j g.lt).c2;have r:=hid (Qaa t j);have i:=hid (q w1 j);clear j q;go_wp2_with fail;refine i.mono ?_;rintro e w2 ⟨rfl,z⟩;have o:=hid (Qaa r z);clear z;go_wp2_with fail;go_ret;exact⟨Qa8 y.symm,o⟩
 ·have C:¬(m:Int)<=1000:=oM;have P:decide ((m:Int)<=1000)=false:=oW C;have y:Hid (V=false):=hid (by rw [<- b.out];simp [O]);go_enter func153,ntmps153;go_wp2_with fail;try rw [k]
  clear k;refine v.mono ?_;rintro e w1 ⟨rfl,j⟩;have r:=hid (Qaa t j);clear j q;go_wp2_with fail;go_ret;exact⟨Qa8 y.symm,r⟩
theorem LB.low(h:LB w lo v l)(hl:lo'<=lo):LB w lo' v l:=by
 obtain⟨P,Q,j,k⟩:=h;exact⟨P,Q,j.low hl,k⟩
theorem LB.set(h:LB w lo v l)(q:Us)(u:Value)(hq:q.block<lo):LB (w.setCell q u) lo v l:=
 h.move (by simp [UC]) (fun b h1 h2=>zH _ _ _ _ oM)
theorem FR.setLow{l:List Rn}(h:FR w B v l)(q:Us)(u:Value)(hq:q.block<B):FR (w.setCell q u) B v l:=
 h.setFar q u (fun e=>by have:=(World.ownsRow.lt h _ e).1;omega)
theorem SOw.of{S:Sx}(h:LB w lo (Uf a S.l.length c) S.l)(hf:FR w lo (Uf x S.n d) ul)(hn:S.n=ul.length)(hR:S.R=fun i=>(gR ul i).1)(hF:S.F=fun i=>(gR ul i).2.1)(hT:S.T=fun i=>(gR ul i).2.2)(hlo:lo<=w.heap.size):SOw w lo w.heap.size a x d S:=by
 obtain⟨P,Q,k,z⟩:=h;have u:QaD w x S.n S.R S.F S.T:=by
  obtain⟨p,c',e,s,_,_⟩:=hf.fs;injection e with e1 e2 e3;subst e1;rw [hn,hR,hF,hT];exact s.rseg
 have v:S.n=0 \/∃g ys,x=Uq (Ub g)/\ g<w.heap.size/\ w.ownsRow lo 123 3 (Uf (Uc g) S.n d) S.n ys:=by
  have q:w.ownsRow lo 123 3 (Uf x S.n d) S.n (Qar ul):=by have:=hf;unfold FR at this;rw [hn];rw [hn] at this;exact this
  rcases q.2 with ⟨e,m⟩|⟨g,cap,y,e,r⟩
  ·exact .inl m
  ·injection e with e1 e2 e3;subst e1;exact .inr ⟨g,_,rfl,(World.ownsRow.lt q g rfl).2,q⟩
 rcases k.row.2 with ⟨e,m⟩|⟨g,cap,y,e,r⟩
 ·exact⟨.inl m,u,.inl m,v,hlo,Uu _⟩
 ·injection e with e1 e2 e3;subst e1;refine⟨k.lseg rfl,u,.inr ⟨g,fun i=>Uq ⟨P i,0,Up⟩,Q,P,rfl,⟨(k.lt g rfl).1,(k.lt g rfl).2,fun i hi _=> ?_,fun i j hi hj _ _ hne=>z i j hi hj hne⟩,fun k0=>⟨Btw.refl _ _ _,fun _ _ _=>rfl,⟨_,Qci k.row⟩,fun i hi=>(k.cell rfl hi).1,fun i _ hi _=>(k.pt i hi).2.2.2.1.pmk,fun i hi=>oM,fun i hi=>oM⟩⟩,v,hlo,Uu _⟩;obtain⟨t,o,b,_⟩:=k.pt i hi;exact⟨rfl,fun e=>b (by rw [e];rfl),t,o⟩
theorem SOw.emp (w:Ur)(a x:Option Us)(d lo:Nat)(hlo:lo<=w.heap.size):SOw w lo w.heap.size a x d Sx.mt:=SOw.mt w Sx.mt rfl rfl lo _ ⟨hlo,Uu _⟩ a x d
theorem QmQ(w:Ur)(h:LvJ w z0 bd J ul)(hlv:QbU R F T m J J.length)(hbd:LvB J):
  Cl 115 #[Uo #[.map (Uq z0.1),.map (Uq z0.2),.map (Uq bd)]] w fun e w'=>(∃a c x d,e=Ui (Uo #[Uf a J.length c,Uf x ul.length d])/\ LB w' (w.heap.size+2) (Uf a J.length c) J/\ FR w' (w.heap.size+2) (Uf x ul.length d) ul/\ w.heap.size+2<=w'.heap.size)/\ Bl w w':=by
 obtain⟨W,y⟩:=zE ((w.alloc (Uj #[.map (Uq z0.1),.map (Uq z0.2),.map (Uq bd)] 176)).alloc (Uj #[Ue,Ue] 40));have O:Bl w W:=y▸Qak _ _ _;have I:Bx3 W w.heap.size (.map (Uq z0.1)) (.map (Uq z0.2)) (.map (Uq bd)):=y▸(Bx3.made _ _ _ _ _).bw (zO _ _) (Bx3.made _ _ _ _ _).lt;have H:Bx2 W (w.heap.size+1) Ue Ue:=by rw [<- y];simpa using Bx2.made (w.alloc (Uj #[.map (Uq z0.1),.map (Uq z0.2),.map (Uq bd)] 176)) Ue Ue 40
 have zW:W.heap.size=w.heap.size+2:=y▸oP;obtain⟨N,B,c,n,D,G,L,j,U,X,C,P,S⟩:=h.bw O;have Ha:=j.tj hbd.dis;have V:Hid (∀w1,Bl W w1 ->Cl 134 #[Uo #[.map (Uq z0.1),.map (Uq z0.2)],Ue,Ue] w1 fun e w'=>(∃a c,e=Ui (Uf a J.length c)/\ LB w' W.heap.size (Uf a J.length c) J)/\ Bl w1 w'):=hid (fun w1 q=>by
  have:=QcO J W B c N (oW j.tre) (Ha.nki (by rw [j.root];simp)) U hlv hbd 8 [] rfl oM Ue [] Ue w1 q (LB.nil w1 _) (.inl ⟨rfl,rfl⟩) (fun g hg=>by cases hg) (by rw [Qnc hlv];have:=hbd.len;simp;omega);rw [show Qad [] 3=([]:List Ky) from rfl,j.root] at this;refine this.mono ?_;rintro e w' ⟨v,rfl,z,g⟩;rw [Qnc hlv,VI] at z;obtain⟨a,c,rfl⟩:=z.form;exact⟨⟨a,c,rfl,z⟩,g.bw zL (fun k hk=>by cases hk)⟩)
 have Y:Hid (∀w1,Bl W w1 ->Cl 135 #[.map (Uq bd)] w1 fun e w'=>(∃x d,e=Ui (Uo #[Uf x ul.length d])/\ FR w' W.heap.size (Uf x ul.length d) ul)/\ Bl w1 w'):=hid (fun w1 q=>by
  have:=Qjq (X.bw q) P S;rw [C] at this;refine this.mono ?_;rintro e w' ⟨v,rfl,t,b⟩;obtain⟨a,c,rfl,_⟩:=t.fs;exact⟨⟨a,c,rfl,t.weak q.size⟩,b⟩)
 have i:=hid I;have Z:=hid H;have Hb:=hid O;have E:=hid zW;have o:Hid (∀w',Bl W w' ->(w'.cell? (Ub w.heap.size)=Uq (.map (Uq z0.1))/\ w'.cell? (Ua w.heap.size 1)=Uq (.map (Uq z0.2))/\ w'.cell? (Ua w.heap.size 2)=Uq (.map (Uq bd)))):=hid (fun w' b=>by
  have s:=i.bw b i.lt;exact⟨s.c0,s.c1,s.c2⟩)
 clear O I H zW h j U X C P S Ha hlv hbd;go_enter func115,ntmps115;go_wp2_with fail;try rw [y]
 clear y;refine zS o (fun qh=> ?_);refine tZ 0 3 ?_;refine tZ 1 4 ?_;refine tZ 3 6 ?_;refine tZ 4 7 ?_;refine cZ 2 ?_;intro K r;go_simp;refine(V _ zI.drew).mono ?_;rintro e w1 ⟨⟨a,c,rfl,z⟩,q⟩;have p:Bl W w1:=⟨q.os,q.tape,q.output,q.size,q.block⟩;have Hh:=hid z;clear z;refine r.out _ _ (o _ p) (fun qh=> ?_);clear r K;try simp only [zP]
 refine cZ 5 ?_;intro K r;go_simp;refine(Y _ p).mono ?_;rintro e w2 ⟨⟨x,d,rfl,t⟩,Q⟩;have u:=Qaa p Q;have He:=hid t;have Hf:=hid (Hh.bw Q);have M:=Z.bw u Z.lt;clear t;refine r.out _ _ (o _ u) (fun qh=> ?_);clear r K;try simp only [zP]
 refine tZ 6 9 ?_;obtain⟨t0,t1,tf⟩:=M.p2;have Hi:=hid (M.set (Uf a J.length c) (Uf x ul.length d));have A:=hid (((i.bw u i.lt).far (QaG w2 (Ua (w.heap.size+1) 0) (Uf a J.length c)) oQ).far (QaG _ (Ua (w.heap.size+1) 1) (Uf x ul.length d)) oQ);have Hc:=hid (Qaa Hb u);have Hj:Hid (w.heap.size+2<=w2.heap.size):=hid (by have j:=E.out;have U:=u.size;omega);have Hg:Hid (LB ((w2.setCell (Ua (w.heap.size+1) 0) (Uf a J.length c)).setCell (Ua (w.heap.size+1) 1) (Uf x ul.length d)) (w.heap.size+2) (Uf a J.length c) J):=hid (by
  have j:=Hf.out;rw [E.out] at j;exact(j.set _ _ oQ).set _ _ oQ)
 have Hd:Hid (FR ((w2.setCell (Ua (w.heap.size+1) 0) (Uf a J.length c)).setCell (Ua (w.heap.size+1) 1) (Uf x ul.length d)) (w.heap.size+2) (Uf x ul.length d) ul):=hid (by
  have j:=He.out;rw [E.out] at j;exact(j.setLow _ _ oQ).setLow _ _ oQ)
 refine cZ 7 ?_;intro K r;go_simp;refine r.out _ _ ⟨A.c0,A.c1,A.c2⟩ (fun qh=> ?_);clear r K;try simp only [zP]
 refine zD ?_;clear qh q p Q u M t0 t1 tf o V Y;go_wp2_with fail;obtain⟨s0,s1⟩:=Hi.q2;refine zF (v:=Uo #[Uf a J.length c,Uf x ul.length d]) (by simp [results,results115,go_sem,s0,s1]) ⟨⟨a,c,x,d,rfl,Hg,Hd,by simp [UC];have:=Hj.out;omega⟩,?_⟩;exact(Hc.setCell oP _).setCell oP _
structure LX (v:Ur)(b:Nat):Prop where
 c0:∃u,v.cell? (Ub b)=Uq (.map u)
 c1:∃u,v.cell? (Ua b 1)=Uq (.map u)
 c2:∃u,v.cell? (Ua b 2)=Uq (.map u)
 f0:∀i,v.frozen? (Ua b i)=false
 lt:b<v.heap.size
theorem LX.q2 {v:Ur}(h:LX v b):(∃u,v.cell? (Ub b)=Uq (.map u))/\ (∃u,v.cell? (Ua b 1)=Uq (.map u)):=⟨h.c0,h.c1⟩
theorem LX.q3 {v:Ur}(h:LX v b):(∃u,v.cell? (Ub b)=Uq (.map u))/\ (∃u,v.cell? (Ua b 1)=Uq (.map u))/\ (∃u,v.cell? (Ua b 2)=Uq (.map u)):=⟨h.c0,h.c1,h.c2⟩
section
variable {w v v' : Ur} {tb ub : Nat}
theorem LX.same {b:Nat}(h:LX v b)(e:v'.heap[b]? =v.heap[b]?)(hz:v.heap.size<=v'.heap.size):LX v' b:=by
 obtain⟨m,k0⟩:=h.c0;obtain⟨q,j⟩:=h.c1;obtain⟨r,k⟩:=h.c2;exact⟨⟨m,(UB (a:=(Ub b)) e).trans k0⟩,⟨q,(UB (a:=(Ua b 1)) e).trans j⟩,⟨r,(UB (a:=(Ua b 2)) e).trans k⟩,fun i=>(Ys (a:=(Ua b i)) e).trans (h.f0 i),Ut h.lt hz⟩
theorem LX.fill {b:Nat}(h:LX v b)(s0 s1 s2:Option Nat):
  ∃Z,Z=((v.setCell (Ub b) (.map s0)).setCell (Ua b 1) (.map s1)).setCell (Ua b 2) (.map s2)/\ Z.cell? (Ub b)=Uq (.map s0)/\ Z.cell? (Ua b 1)=Uq (.map s1)/\ Z.cell? (Ua b 2)=Uq (.map s2)/\ v.grownBy Z (Uq b):=by
 obtain⟨r,k0⟩:=h.c0;obtain⟨u,m⟩:=h.c1;obtain⟨y,q⟩:=h.c2;refine⟨_,rfl,?_,?_,?_,⟨rfl,rfl,rfl,by simp [UC],fun k hk hne=> ?_⟩⟩
 ·rw [UI _ _ _ _ oP,UI _ _ _ _ oP];exact UH _ _ _ k0
 ·rw [UI _ _ _ _ oP];exact UH _ _ _ (by rw [UI _ _ _ _ oP];exact m)
 ·exact UH _ _ _ (by rw [UI _ _ _ _ oP,UI _ _ _ _ oP];exact q)
 ·have j:k≠b:=fun e=>hne (by rw [e]);exact(zH _ _ _ _ j).trans ((zH _ _ _ _ j).trans (zH _ _ _ _ j))
end
def RsP (f:Nat ->Int)(n:Nat)(w:Ur)(e:Ending)(w':Ur):Prop:=Bl w w'/\
 ((∃(g:List (Int×List (Int×Int))) (J:List Lf) (z0:Nat×Nat) (bd:Nat),gsR f n=Uq (g,J)/\ e=Ui (Ul #[Uo #[.map (Uq z0.1),.map (Uq z0.2),.map (Uq bd)],.nilIface])/\ LvJ w' z0 bd J (Qau g)/\ okR (-1) 1000 g) \/
  (gsR f n=Up/\∃t v,e=Ui (Ul #[Uo #[.map Up,.map Up,.map Up],.iface t v])))
theorem QiO (B:Nat)(a:Option Us)(n c:Nat)(f:Nat ->Int)(aT aS aL aE:Us)(w:Ur)(hn:n<=9223372036854775807)(hnc:n<=c)(hcc:c<=9223372036854775807)(hf:Byt f)(hs:Seg w a n f)(hE:QcL w B aT aS aL aE)(hB:B<=w.heap.size)(hab:∀y,a=Uq y ->y.block<w.heap.size):
    Cl 113 #[Uf a n c] w fun e w'=>RsP f n w e w':=by
  obtain⟨P,hP⟩:=zE (RsP f n w);rw [hP];have HP:=hid hP;clear hP;have bR:Bl w (w.alloc (Uj #[.map Up,.map Up,.map Up] 176)):=zO _ _;have Y:LX (w.alloc (Uj #[.map Up,.map Up,.map Up] 176)) w.heap.size:=⟨⟨Up,oP⟩,⟨Up,oP⟩,⟨Up,oP⟩,fun i=>by rw [UK _ _ _ _ rfl],oP⟩;by_cases h4:4000<n
  · have H:Hid (gsR f n=Up):=hid (if_pos h4);obtain⟨WR,H6⟩:=zE (w.alloc (Uj #[.map Up,.map Up,.map Up] 176));rw [H6] at bR Y;have Gf:=hid Y;have Hv:=hid bR;have HE:=hE.bw (bR.mono hB);obtain⟨F,ge⟩:=HE.x0;have lo:4<w.heap.size:=Ut (Ut oD HE.lG) hB;obtain⟨u0,k0⟩:=Y.c0;obtain⟨u1,k1⟩:=Y.c1;obtain⟨u2,k2⟩:=Y.c2;have L:=Y.f0;have Hn:(WR.setCell (Ub w.heap.size) (.map Up)).cell? (Ub 4)=Uq (.iface 363 F):=(by rw [UF _ _ _ _ (show w.heap.size≠4 by omega)];exact ge);have Ho:((WR.setCell (Ub w.heap.size) (.map Up)).setCell (Ua w.heap.size 1) (.map Up)).cell? (Ub 4)=Uq (.iface 363 F):=(by rw [UF _ _ _ _ (show w.heap.size≠4 by omega)];exact Hn);have Gh:(((WR.setCell (Ub w.heap.size) (.map Up)).setCell (Ua w.heap.size 1) (.map Up)).setCell (Ua w.heap.size 2) (.map Up)).cell? (Ub 4)=Uq (.iface 363 F):=(by rw [UF _ _ _ _ (show w.heap.size≠4 by omega)];exact Ho);have Gj:(4000:Int)<(n:Int):=oM;clear lo HE hs hE Y bR;go_enter func113,ntmps113;go_wp2_with fail;try rw [H6]
    go_region;all_goals go_wp2_with fail
    all_goals (
      obtain⟨Z,z,O,A,s,h⟩:=Gf.fill Up Up Up;rw [<- z];clear z;refine zF (v:=Ul #[Uo #[.map Up,.map Up,.map Up],.iface 363 F]) (by simp [results,results113,go_sem,O,A,s]) ?_;rw [<- HP.out];exact⟨(Hv.grown h Hv.size (fun k e=>oI e)).drew,.inr ⟨H,_,_,rfl⟩⟩)
  · have Gq:=@run_makeMap prog;replace hn:n<=1048576:=oM
    have Gj:¬(4000:Int)<(n:Int):=oM;obtain⟨W,V⟩:=zE (((w.alloc (Uj #[.map Up,.map Up,.map Up] 176)).alloc (.map #[] 0)).alloc (Uj #[Uf a n c,Ud 0,.map Up,.map (Uq (w.heap.size+1))] 209));have bW:Bl w W:=V▸(bR.alloc oP _).alloc oS _;have zW:W.heap.size=w.heap.size+3:=V▸oP;have xW:LX W w.heap.size:=Y.same (V▸(Below.heap_alloc _ _ _ oS).trans (Below.heap_alloc _ _ _ oP)) (V▸oP);have uW:UsM W (w.heap.size+1) []:=by
      have:=(UsM.made (w.alloc (Uj #[.map Up,.map Up,.map Up] 176)));rw [<- V];have h2:UsM ((w.alloc (Uj #[.map Up,.map Up,.map Up] 176)).alloc (.map #[] 0)) (w.heap.size+1) []:=oW this;exact h2.same (Below.heap_alloc _ _ _ oP)
    have cW:Cur (fun i=>if i=2 then Uq (.map Up) else if i=3 then Uq (.map (Uq (w.heap.size+1))) else Up) W (w.heap.size+2) a n c ((0:Nat):Int):=by
      rw [<- V];refine⟨?_,?_,?_,fun i hi=> ?_⟩
      · rw [UJ _ _ _ _ oP];rfl
      · rw [UJ _ _ _ _ oP];rfl
      · rw [UK _ _ _ _ oP]
      · rw [UJ _ _ _ _ oP,UK _ _ _ _ oP];refine⟨?_,rfl⟩;match i,hi with
        | 2,_=>rfl
        | 3,_=>rfl
        | j+4,_=>simp
    have fW:∀i,W.frozen? (Ua (w.heap.size+2) i)=false:=fun i=>by rw [<- V,UK _ _ _ _ oP]
    have Hf:∀y,a=Uq y ->y.block≠w.heap.size+2:=fun y hy=>oH (hab y hy);have Ha:=hid (QqF (EX:=fun i=>if i=2 then Uq (.map Up) else if i=3 then Uq (.map (Uq (w.heap.size+1))) else Up) (w.heap.size+2) B a n c ((0:Nat):Int) f aT aS aL aE W hn hf cW (hs.bw bW) Hf (hE.bw (bW.mono hB)) oM);have HF:=hid hf;have Gc:=hid (hs.bw bW);have H7:=hid (hE.bw (bW.mono hB));have HX:=hid xW;have Ge:=hid uW;have Hg:=hid bW;have HZ:=hid zW;have Hs:=hid hab;have Gy:=hid fW;clear hf hs hE xW uW bW zW cW bR Y Hf hab fW;go_enter func113,ntmps113;go_wp2_with fail;try rw [V]
    clear V Gq;refine Ha.mono ?_;clear Ha;rintro e w1 ⟨S,⟨g,x1,K,nn,D,G,C,rfl,Hj,cu,Gp,Hq⟩|⟨C,pb,u,y,rfl,Gr,Gl,cu⟩⟩
    · have X:=(QpE HF C).2.2;have Hp:=QmD X;have H9:Hid (∀r,Srt (lkS g r)/\ (lkS g r).length<=1000000):=hid (fun r=>by
        rw [Hp];have:=Qhn g _ _ X oM r;exact⟨(Qer g _ _ X r).1,oM⟩)
      have Hk:Hid (QcK (lkS g) 8=Qau g/\ (∀r,lkS g r≠[] ->0<=r/\ r<8)/\∀r,(lkS g r).length<=4000):=hid (by
        rw [Hp];refine⟨(Qcw X).2.2.2,fun r C=> ?_,fun r=> ?_⟩
        · have:=(Qer g _ _ X r).2.1 C;omega
        · have:=Qhn g _ _ X oM r;omega)
      have Gb:=hid X;have Hl:Hid (gsR f n=(Qc1 f n (fun r q=>inB (lkS g r) q q) 9 [] [] x1).bind fun b=>if b.2<n then Up else Uq (g,b.1)):=hid (by
        unfold gsR;rw [if_neg h4,show ((0:Int))=((0:Nat):Int) from rfl,C];rfl)
      have zz:=HZ.out;have z1:=S.size;have Gx:w.heap.size+2<w1.heap.size:=oM;obtain⟨Hy,Hz,H0,Hd⟩:=cu;have cm:w1.cell? (Ua (w.heap.size+1+1) 2)=Uq (.map Up):=(Hd 2 oM).1;obtain⟨U,He⟩:=zE (w1.setCell (Ua (w.heap.size+2) 2) (.map (Uq K)));have Hm:w1.grownBy U (Uq (w.heap.size+2)):=He▸QaG w1 (Ua (w.heap.size+2) 2) _;have z2:U.heap.size=w1.heap.size:=(by rw [<- He];simp [UC]);have T:=Qaf S Hm;have Gd:Hid (TS U (w.heap.size+2) B K (w.heap.size+1) (w.heap.size+3) w1.heap.size a n c f aT aS aL aE (lkS g) (x1:Int) []):=hid (by
        refine⟨?_,Gc.grown T (fun y hy=>oH (Hs y hy)),H7.grown T oM oM,Ge.same (T.block (w.heap.size+1) oM (fun e=>oI e)),⟨nn,D,G,Hj.gr Hm (fun e=>oI e) (fun r k hk e=>by injection e with e;have:=Hq r k hk;omega),fun r k hk=> ?_⟩,fun y hy=> ?_,oM,oM,oM,oM,oM,oM,Hj.own.lt⟩
        · rw [<- He];refine⟨?_,?_,?_,fun i hi=> ?_⟩
          · rw [UI _ _ _ _ oP];exact Hy
          · rw [UI _ _ _ _ oP];exact Hz
          · rw [UG];exact H0
          · unfold exT;by_cases e2:i=2
            · subst e2;rw [if_pos rfl];exact⟨UH _ _ _ cm,by rw [UG];exact(Hd 2 oM).2⟩
            · have h3:=Hd i hi;dsimp only at h3;rw [if_neg e2] at h3;rw [if_neg e2,UI _ _ _ _ (by intro e;injection e with e1 e3 e4;exact e2 e3.symm),UG];exact h3
        · have:=(World.ownsRow.lt (Hj.rows r) k hk).2;have:=Hq r k hk;omega
        · have:=Hs y hy;omega)
      have Hx:Hid (Cl 132 #[Uk (Uq (Ua (w.heap.size+2) 0)),Ud 0] U fun e w'=>NdP U (w.heap.size+2) B K (w.heap.size+1) (w.heap.size+3) w1.heap.size a n c f aT aS aL aE (lkS g) [] (Qc1 f n (fun r q=>inB (lkS g r) q q) 9 [] [] x1) [] 10 e w'):=
        hid (QpY (w.heap.size+2) B K (w.heap.size+1) (w.heap.size+3) w1.heap.size a n c f aT aS aL aE (lkS g) hn hnc hcc HF H9 8 [] rfl x1 [] U Gd oM oP)
      have Hh:=hid (HX.same (T.block w.heap.size HX.lt (fun e=>oI e)) T.size);have E:=hid (Hg.grown T Hg.size (fun k e=>oI e));have fz:w1.frozen? (Ua (w.heap.size+1+1) 2)=false:=(Hd 2 oM).2;have H8:Hid (w1.heap.size<=U.heap.size):=hid oM;clear S C Hj Gp Hq Hm T Hy Hz H0 Hd X Hp zz z1 Gx;go_wp2_with fail;try rw [He]
      clear He cm fz;refine Hx.mono ?_;clear Hx;rintro e w3 ⟨g3,⟨J,x3,Gg,N,x0,hJ,rfl,t3,H2,H3,Gk,H4,H5⟩|⟨hJ,t,v,rfl⟩⟩
      · obtain⟨s1,s2⟩:=x0;obtain⟨M,Hi⟩:=zE (w3.alloc (Uj #[.map (Uq s1),.map (Uq s2)] 172));have I:Bl w3 M:=Hi▸zO _ _;have V4:Bx2 M w3.heap.size (.map (Uq s1)) (.map (Uq s2)):=Hi▸Bx2.made w3 _ _ _;have T4:=t3.bw I;have m:G2 (w.heap.size+2) (w.heap.size+1) U M:=g3.trans (G2.bw I);have o:=hid (Hh.same (m.block w.heap.size Hh.lt oM oM) m.size);have Q:Hid (Bl w M):=hid ⟨m.os.trans E.os,m.tape.trans E.tape,m.output.trans E.output,Ux E.size m.size,fun k hk=>(m.block k (Ut hk E.size) oM oM).trans (E.block k hk)⟩;have Go:M.cell? (Ua (w.heap.size+1+1) 1)=Uq (Ud (x3:Int)):=T4.cur.2.1;obtain⟨n0,n1⟩:=V4.q2;have Hw:=hid T4;obtain⟨u0,k0⟩:=o.c0;obtain⟨u1,k1⟩:=o.c1;obtain⟨u2,k2⟩:=o.c2;have L:=o.f0;have Gs:=g3.size;have G0:=H8.out;by_cases h3:x3<n
        · have H:Hid (gsR f n=Up):=hid (by rw [Hl.out,hJ];simp only [VI,YB];rw [if_pos h3]);have Gi:(x3:Int)<(n:Int):=oM;obtain⟨F,ge⟩:=T4.err.x1;have lo:5<w.heap.size:=Ut (Ut oD T4.err.lG) hB;have R:∀(v:Ur) (i:Nat) (u:Value) (b j:Nat),b≠w.heap.size ->(v.setCell (Ua w.heap.size i) u).cell? (Ua b j)=v.cell? (Ua b j):=fun v i u b j hne=>UF _ _ _ _ (oW hne.symm);have Hn:=(R M 0 (.map Up) 5 0 oM).trans ge;have Ho:=(R _ 1 (.map Up) 5 0 oM).trans Hn;have Gh:=(R _ 2 (.map Up) 5 0 oM).trans Ho;have Gm:=(R M 0 (.map Up) (w.heap.size+1+1) 1 oM).trans Go;have Gn:=(R _ 1 (.map Up) (w.heap.size+1+1) 1 oM).trans Gm;have Gz:=(R _ 2 (.map Up) (w.heap.size+1+1) 1 oM).trans Gn;have bP:Bl M (M.alloc (Uj #[Um ⟨#[101,110,100]⟩,Ud (x3:Int),.iface 363 F] 216)):=zO _ _;have Hc:=hid (o.same (bP.block w.heap.size o.lt) bP.size);have Hu:=hid (Q.trans (bP.mono Q.size));obtain⟨v0,l0⟩:=Hc.c0;obtain⟨v1,l1⟩:=Hc.c1;obtain⟨v2,l2⟩:=Hc.c2;have fP:=Hc.f0;clear R lo I V4 T4 m g3 t3 hJ H2 H3 Gk H4 H5 bP;go_wp2_with fail;try rw [Hi]
          go_region;all_goals go_wp2_with fail
          all_goals first
            | (obtain⟨Z,z,O,A,s,h⟩:=Hc.fill Up Up Up
               rw [<- z]
               clear z
               refine zF (v:=Ul #[Uo #[.map Up,.map Up,.map Up],.iface 214 (Uk (Uc M.heap.size))]) (by simp [results,results113,go_sem,O,A,s]) ?_
               rw [<- HP.out]
               exact⟨(Hu.grown h Hu.size (fun k e=>oI e)).drew,.inr ⟨H,_,_,rfl⟩⟩)
            | (obtain⟨Z,z,O,A,s,h⟩:=o.fill Up Up Up
               rw [<- z]
               clear z
               have Hr:w.heap.size<Z.heap.size:=Ut o.lt h.size
               have bQ:Bl Z (Z.alloc (Uj #[Um ⟨#[101,110,100]⟩,Ud (x3:Int),.iface 363 F] 216)):=zO _ _
               have Gu:=(bQ.cell (p:=(Ub w.heap.size)) Hr).trans O
               have Gv:=(bQ.cell (p:=(Ua w.heap.size 1)) Hr).trans A
               have Gw:=(bQ.cell (p:=(Ua w.heap.size 2)) Hr).trans s
               have H1:=Q.grown h Q.size (fun k e=>oI e)
               refine zF (v:=Ul #[Uo #[.map Up,.map Up,.map Up],.iface 214 (Uk (Uc M.heap.size))]) (by simp [results,results113,go_sem,Gu,Gv,Gw]) ?_
               rw [<- HP.out]
               exact⟨(H1.trans (bQ.mono H1.size)).drew,.inr ⟨H,_,_,rfl⟩⟩)
        · have HY:Hid (gsR f n=Uq (g,J)):=hid (by rw [Hl.out,hJ];simp only [VI,YB];rw [if_neg h3]);have Gi:¬(x3:Int)<(n:Int):=oM;have Ga:Hid (∀Z,M.grownBy Z (Uq w.heap.size) ->LvJ Z (s1,s2) K J (Qau g)):=hid (fun Z h=>by
            obtain⟨Gt,D',G',A,s⟩:=Hw.grp;refine⟨N,U.heap.size,Gg,Gt,D',G',lkS g,(H5.bw I).box k0 h,?_,A.gr h (fun e=>by injection e with e;have:=Hw.kl;omega) (fun r k hk e=>by injection e with e;have:=(s r k hk).1;omega),Hk.1,Hk.2.1,Hk.2.2⟩;simp only [VI] at H4;omega)
          clear I V4 T4 m g3 t3 hJ H2 H3;go_wp2_with fail;try rw [Hi]
          obtain⟨Z,z,O,A,s,h⟩:=o.fill (Uq s1) (Uq s2) (Uq K);rw [<- z];clear z;refine zF (v:=Ul #[Uo #[.map (Uq s1),.map (Uq s2),.map (Uq K)],.nilIface]) (by simp [results,results113,go_sem,O,A,s]) ?_;rw [<- HP.out];exact⟨Q.grown h Q.size (fun k e=>oI e),.inl ⟨g,J,(s1,s2),K,HY,rfl,Ga Z h,Gb⟩⟩
      · have H:Hid (gsR f n=Up):=hid (by rw [Hl.out,hJ];rfl);have I:Bl w3 (w3.alloc (Uj #[.map Up,.map Up] 172)):=zO _ _;have m:=g3.trans (G2.bw I);have o:=hid (Hh.same (m.block w.heap.size Hh.lt oM oM) m.size);have Q:Hid (Bl w (w3.alloc (Uj #[.map Up,.map Up] 172))):=hid ⟨m.os.trans E.os,m.tape.trans E.tape,m.output.trans E.output,Ux E.size m.size,fun k hk=>(m.block k (Ut hk E.size) oM oM).trans (E.block k hk)⟩;obtain⟨u0,k0⟩:=o.c0;obtain⟨u1,k1⟩:=o.c1;obtain⟨u2,k2⟩:=o.c2;have L:=o.f0;clear g3 m I hJ;go_wp2_with fail;obtain⟨Z,z,O,A,s,h⟩:=o.fill Up Up Up;rw [<- z];clear z;refine zF (v:=Ul #[Uo #[.map Up,.map Up,.map Up],.iface t v]) (by simp [results,results113,go_sem,O,A,s]) ?_;rw [<- HP.out];exact⟨Q.grown h Q.size (fun k e=>oI e),.inr ⟨H,_,_,rfl⟩⟩
    · have H:Hid (gsR f n=Up):=hid (by unfold gsR;rw [if_neg h4,show ((0:Int))=((0:Nat):Int) from rfl,C];rfl);have Hb:=hid (HX.same (S.block w.heap.size HX.lt (fun e=>oI e)) S.size);have Ht:=hid (Hg.grown S Hg.size (fun k e=>oI e));obtain⟨u0,k0⟩:=Hb.c0;obtain⟨u1,k1⟩:=Hb.c1;obtain⟨u2,k2⟩:=Hb.c2;have L:=Hb.f0;clear S C cu Gl Gr;go_wp2_with fail;obtain⟨Z,z,O,A,s,h⟩:=Hb.fill Up Up Up;rw [<- z];clear z;refine zF (v:=Ul #[Uo #[.map Up,.map Up,.map Up],.iface 214 (Uk (Uc pb))]) (by simp [results,results113,go_sem,O,A,s]) ?_;rw [<- HP.out];exact⟨Ht.grown h Ht.size (fun k e=>oI e),.inr ⟨H,_,_,rfl⟩⟩
theorem LC.lcapG{P Q:Nat ->Nat}(h:LC w lo (Uf (Uc g) n c) l P Q)(hn:n=l.length):QdB w (Uc g) l:=by
 refine .inr ⟨g,0,rfl,(h.lt g rfl).2,fun i hi=> ?_⟩;obtain⟨j,k,m,q,r⟩:=h.cell hn hi;refine⟨Uq ⟨P i,0,Up⟩,Q i,⟨?_,(h.pt i hi).2.2.2.2⟩,h.seg hi,?_,?_,?_,?_⟩
 ·rw [Uw];exact j
 ·rw [Uw];exact k
 ·rw [Uw];exact m
 ·rw [Uw];exact q
 ·rw [Uw];exact r
theorem LB.caps(h:LB w lo (Uf a l.length c) l):QdB w a l/\ QbK w a l/\ l.length<=c/\ c<=9223372036854775807:=by
 obtain⟨P,Q,j,y⟩:=h;rcases j.row.2 with ⟨e,k⟩|⟨v,r,u,m,g,z,t,q,o,i⟩
 ·injection e with e1 e2 e3;exact⟨.inl k,.inl k,oM,oM⟩
 ·injection m with e1 e2 e3;subst e1 e3;unfold maxLen at q;exact⟨j.lcapG rfl,j.lseg rfl,oM,oM⟩
theorem QmR{L:Nat}(h:Seg w pa L f)(hf:Byt f)(cap:Nat):(convert 30 9 (Uf pa L cap)).run prog w=.ok (Um (Qby f 0 L)) w:=by
 by_cases j:L=0
 ·subst j;have e:Qby f 0 0=⟨#[]⟩:=by simp [Qby]
  cases pa with
  | none=>
   rw [e,run_convert_bytes_string _ _ _ 5 Up 0 cap underlying30 underlying5 underlying9];rfl
  | some ad=>exact QeF ad 0 cap f
 ·rcases h with h|⟨b,off,rfl,m,k⟩
  ·exact absurd h j
  ·exact Qdj (off:=off) (p:=0) hf (fun i hi=>by rw [Uw];exact k i hi)
theorem QpC (R F T:Nat ->Int)(n:Nat)(l:List Lf):By (psZ R F T n l).1:=by
 by_cases h:Qcn R F T n l
 ·by_cases j:(psB R F T n l).length<=4000
  ·rw [Qe0 h j];exact By.app (Qe2 h.1) (QfU h.2.2.1 h.lvB _ _)
  ·rw [QdM h j];exact By.nil
 ·rw [Qig h];exact By.nil
theorem Bx2.fill {v:Ur}(h:Bx2 v b v0 v1)(u0 u1:Value):∃Z,Z=(v.setCell (Ub b) u0).setCell (Ua b 1) u1/\ Z.cell? (Ub b)=Uq u0/\ Z.cell? (Ua b 1)=Uq u1/\ v.grownBy Z (Uq b):=by
 refine⟨_,rfl,?_,?_,⟨rfl,rfl,rfl,by simp [UC],fun k hk hne=> ?_⟩⟩
 ·rw [UI _ _ _ _ oP];exact UH _ _ _ h.c0
 ·exact UH _ _ _ (by rw [UI _ _ _ _ oP];exact h.c1)
 ·have j:k≠b:=fun e=>hne (by rw [e]);exact(zH _ _ _ _ j).trans (zH _ _ _ _ j)
theorem Qdb (a:Option Us)(n c x:Nat)(most:Int)(f:Nat ->Int)(w:Ur)(hn:n<=1048576)(hf:Byt f)(hs:Seg w a n f)(hx:x<=n)(hm0:0<=most)(hm1:most<=1000000000000):
  Cl 65 #[Uf a n c,Ud (x:Int),Ud most] w fun e w'=>Bl w w'/\
   ((∃V x':Nat,rd f n x most=Uq (V,x')/\ (V:Int)<=most/\ x'<=n/\ e=Ui (Ul #[Ud (V:Int),Ud (x':Int),Un true])) \/
    (rd f n x most=Up/\ e=Ui (Ul #[Ud 0,Ud (x:Int),Un false]))):=by
 have g:=Qds f n x;have k:=hid (QpQ a n c (cN f n x) (x:Int) f w hn hf hs (oW g));have z:=QcV (f:=f) (n:=n) (m:=cN f n x) (x:=(x:Int)) (oW g) hf hn oM oM;have j:Hid (rd f n x most=if (gX f n (cN f n x) (x:Int)).2.2=0/\ ((gX f n (cN f n x) (x:Int)).1:Int)<=most then Uq ((gX f n (cN f n x) (x:Int)).1,(gX f n (cN f n x) (x:Int)).2.1.toNat) else Up):=hid rfl;obtain⟨G,o⟩:=zE (gX f n (cN f n x) (x:Int));rw [o] at k z j;obtain⟨V,A,C⟩:=G;dsimp only at k z j;obtain⟨Q,O,y,_⟩:=z;clear hs g o;have s:IntKind.u64.wrap most=most:=by rw [IntKind.wrap_u64];omega
 by_cases t:C=0
 ·subst t;obtain⟨E,M⟩:=y rfl;obtain⟨x',rfl⟩:∃x':Nat,A=(x':Int):=⟨A.toNat,oM⟩;by_cases v:(V:Int)<=most
  ·have u:Hid (rd f n x most=Uq (V,x')):=(by rw [j.out,if_pos ⟨rfl,v⟩];exact hid oP);have i:decide (most<(V:Int))=false:=oW v;have b:IntKind.i64.wrap (V:Int)=(V:Int):=(by rw [UY];omega);clear y j;go_enter func65,ntmps65;go_wp2_with fail;refine k.mono ?_;rintro e w1 ⟨rfl,q⟩;have r:=hid q;clear q k;go_wp2_with fail;go_ret3;exact⟨r,.inl ⟨V,x',u,v,oM,by first|rfl|rw [b]⟩⟩
  ·have u:Hid (rd f n x most=Up):=(by rw [j.out,if_neg (fun h=>v h.2)];exact hid rfl);have i:decide (most<(V:Int))=true:=oS;clear y j;go_enter func65,ntmps65;go_wp2_with fail;refine k.mono ?_;rintro e w1 ⟨rfl,q⟩;have r:=hid q;clear q k;go_wp2_with fail;go_ret3;exact⟨r,.inr ⟨u,rfl⟩⟩
 ·have u:Hid (rd f n x most=Up):=by rw [j.out,if_neg (fun h=>t h.1)];exact hid rfl
  have p:((C:Int)==0)=false:=oS;clear y j;go_enter func65,ntmps65;go_wp2_with fail;refine k.mono ?_;rintro e w1 ⟨rfl,q⟩;have r:=hid q;clear q k;go_wp2_with fail;go_ret3;exact⟨r,.inr ⟨u,rfl⟩⟩
structure St (w wr:Ur)(v:Value)(l:List Rn):Prop where
 c:wr.cell? (Ua (w.heap.size+2) 0)=Uq v
 r:wr.cell? (Ub w.heap.size)=Uq Ue
 fc:wr.frozen? (Ua (w.heap.size+2) 0)=false
 fr:wr.frozen? (Ub w.heap.size)=false
 o:FR wr (w.heap.size+1) v l
 n:v.ownBlock≠Uq (w.heap.size+2)
 b:Bl w wr
 z:w.heap.size+3<=wr.heap.size
theorem St.bw{l:List Rn}(h:St w wr v l)(hb:Bl wr w1):St w w1 v l:=by
 have j:=h.z;exact⟨(hb.cell (p:=(Ua (w.heap.size+2) 0)) (show w.heap.size+2<wr.heap.size by omega)).trans h.c,(hb.cell (p:=(Ub w.heap.size)) (show w.heap.size<wr.heap.size by omega)).trans h.r,
  ((QbZ hb).2 (w.heap.size+2) 0 oM).trans h.fc,((QbZ hb).2 w.heap.size 0 oM).trans h.fr,Qdf h.o hb,h.n,h.b.trans (hb.mono oM),Ux j hb.size⟩
theorem St.mid{l:List Rn}(h:St w W v l)(hg:(W.alloc ob).grownBy w7 v.ownBlock):w7.cell? (Ua (w.heap.size+2) 0)=Uq v/\ w7.frozen? (Ua (w.heap.size+2) 0)=false:=by
 have m:Bl W (W.alloc ob):=zO _ _;have j:=h.bw m;have k:=hg.block (w.heap.size+2) (oH j.z) (fun e=>h.n e.symm);exact⟨(UB k).trans j.c,(Ys k).trans j.fc⟩
theorem St.app{v7:Value}{l:List Rn}{x y z:Int}(h:St w W v l)(hown:w7.ownsRow (w.heap.size+1) 123 3 v7 (l.length+1) (Qar l++[Ud x,Ud y,Ud z]))
  (hg:(W.alloc ob).grownBy w7 v.ownBlock) (hloc:v7.ownBlock=v.ownBlock \/v7.ownBlock=Uq (W.alloc ob).heap.size):St w (w7.setCell (Ua (w.heap.size+2) 0) v7) v7 (l++[(x,y,z)]):=by
 have t:Bl W (W.alloc ob):=zO _ _;have m:=h.bw t;have E:=h.z;have M:=hg.size;have O:=m.z;have u:v7.ownBlock≠Uq (w.heap.size+2):=by
  rcases hloc with e|e
  ·rw [e];exact h.n
  ·rw [e];intro j;injection j with j;simp at j;omega
 have i:Uq w.heap.size≠v.ownBlock:=fun e=>by have:=(World.ownsRow.lt h.o _ e.symm).1;omega
 have q:=hg.block w.heap.size oM i;obtain⟨s,A⟩:=h.mid hg;refine⟨UH _ _ _ s,?_,?_,?_,?_,u,?_,?_⟩
 ·rw [UF _ _ _ _ oP];exact(UB q).trans m.r
 ·rw [UG];exact A
 ·rw [UG];exact(Ys q).trans m.fr
 ·unfold FR;rw [Qc9,Vg];refine World.ownsRow.kept hown (QaG w7 (Ua (w.heap.size+2) 0) v7) ?_;cases e:v7.ownBlock with
  | none=>exact .inl rfl
  | some g=>exact .inr (fun j=>u (e.trans j))
 ·refine Below.setCell (p:=(Ua (w.heap.size+2) 0)) (m.b.grown hg oM (fun k hk=>oH ((World.ownsRow.lt h.o k hk).1))) oQ v7
 ·simp [UC];omega
theorem Qcg (f:Nat ->Int)(n k:Nat)(rep last:Int)(x:Nat):Qa7 f n rep (k+1) last x=(rd f n x 1000000000).bind fun a=>(rd f n a.2 1000000000).bind fun b=>(Qa7 f n rep k (last+2+(a.1:Int)+(b.1:Int)) b.2).bind fun c=>Uq ((rep,last+2+(a.1:Int),last+2+(a.1:Int)+(b.1:Int))::c.1,c.2):=by rw [Qa7]
theorem QbO (f:Nat ->Int)(n k:Nat)(x:Nat):QaR f n (k+1) x=(rd f n x 8).bind fun a=>(rd f n a.2 1000).bind fun b=>(Qa7 f n (a.1:Int) b.1 (-1) b.2).bind fun c=>(QaR f n k c.2).bind fun d=>Uq (c.1++d.1,d.2):=by rw [QaR]
theorem QnB (a:Option Us)(n c x:Nat)(f:Nat ->Int)(w:Ur)(hn:n<=1048576)(hf:Byt f)(hs:Seg w a n f)(hx:x<=n):
  Cl 44 #[Uf a n c,Ud (x:Int)] w fun e w'=>Bl w w'/\
   ((∃(l:List Rn) (x':Nat) (v:Value),Qeo f n x=Uq (l,x')/\ x'<=n/\ e=Ui (Ul #[Uo #[v],Ud (x':Int),Un true])/\ FR w' w.heap.size v l/\ l.length<=8000) \/
    (Qeo f n x=Up/\∃(ya:Option Us) (A i:Nat) (y:Int),e=Ui (Ul #[Uo #[Uf ya A i],Ud y,Un false]))):=by
 obtain⟨i0,hi,Hv,Hw,Hx⟩:=info_parts Tryz.infoRun;obtain⟨W,J⟩:=zE (((w.alloc (Uj #[Ue] 38)).alloc (Uj #[] 123)).alloc (Uj #[Uf (Uq (Ua (w.heap.size+1) 0)) 0 0] 38));have bW:Bl w W:=J▸(Qak _ _ _).alloc oS _;have HZ:Hid (W.heap.size=w.heap.size+3):=J▸hid oP;have Hc:Hid (St w W (Uf (Uq (Ua (w.heap.size+1) 0)) 0 0) []):=by
  have s1:W.cell? (Ua (w.heap.size+2) 0)=Uq (Uf (Uq (Ua (w.heap.size+1) 0)) 0 0):=by rw [<- J,UJ _ _ _ _ oP];rfl
  have s2:W.cell? (Ub w.heap.size)=Uq Ue:=by rw [<- J,YM _ _ _ oS,YM _ _ _ oP,UJ _ _ _ _ rfl];rfl
  have s3:W.frozen? (Ua (w.heap.size+2) 0)=false:=by rw [<- J,UK _ _ _ _ oP]
  have s4:W.frozen? (Ub w.heap.size)=false:=by rw [<- J,JC _ _ _ oS,JC _ _ _ oP,UK _ _ _ _ rfl]
  refine hid ⟨s1,s2,s3,s4,?_,by simp [Value.ownBlock],bW,oH HZ⟩;have q:=VD (base:=w.heap.size+1) (e:=123) (size:=3) (w.alloc (Uj #[Ue] 38)) #[] 0 oP oL rfl;have q':((w.alloc (Uj #[Ue] 38)).alloc (Uj #[] 123)).ownsRow (w.heap.size+1) 123 3 (Uf (Uq (Ua (w.heap.size+1) 0)) 0 0) 0 []:=oW q;rw [<- J];exact World.ownsRow.alloc q' _
 have HU:=hid (Qdb a n c x 8 f W hn hf (hs.bw bW) hx oM oM);have HS:=hid hs;clear hs bW;go_enter func44,ntmps44;go_wp2_with fail;try rw [J]
 clear J;refine HU.mono ?_;rintro e w1 ⟨b1,⟨V,K,hr,hV,H7,rfl⟩|⟨hr,rfl⟩⟩
 ·have HR:Hid (Qeo f n x=QaR f n V K):=by unfold Qeo;rw [hr];exact hid rfl
  have Ho:=hid (Hc.bw b1);clear b1 hr HU Hc HZ;go_wp2_with fail;go_loopw [9,10,11] (fun av okv iv wr=>∃(k:Nat) (v:Value) (l:List Rn),k<=V/\ iv=Ud (k:Int)/\ Hid (St w wr v l)/\ l.length<=1000*k/\
   ((okv=Un true/\∃y:Nat,av=Ud (y:Int)/\ y<=n/\ Hid (QaR f n V K=(QaR f n (V - k) y).bind fun d=>Uq (l++d.1,d.2))) \/(okv=Un false/\ (∃y:Int,av=Ud y)/\ Hid (QaR f n V K=Up)))) (fun _ _ iv _=>V - (intOf iv).toNat)
  case atStart=>exact⟨0,_,[],Uv _,rfl,Ho,oP,.inl ⟨rfl,K,rfl,H7,hid (by cases h:QaR f n (V - 0) K<;>simp_all)⟩⟩
  case round=>
   obtain⟨k,v,l,hk,rfl,g,Gc,⟨rfl,y,rfl,Hm,E⟩|⟨rfl,⟨y,rfl⟩,E⟩⟩:=hrel
   ·by_cases Hl:k<V
    ·obtain⟨m,hm⟩:∃m,V - k=m+1:=⟨V - k - 1,oM⟩;have HM:=hid hm;have Hp:=hid (Qdb a n c y 8 f wr hn hf (HS.bw g.b) Hm oM oM);clear hm;go_wp2_with fail;refine Hp.mono ?_;rintro e w2 ⟨b2,⟨R,x2,Hg,hR,H8,rfl⟩|⟨Hg,rfl⟩⟩
     ·have Hn:=hid Hg;have D:=hid (g.bw b2);have Hq:=hid (Qdb a n c x2 1000 f w2 hn hf (HS.bw D.b) H8 oM oM);clear b2 Hg Hp;go_wp2_with fail;refine Hq.mono ?_;rintro e w3 ⟨b3,⟨C,B,Hh,hC,H9,rfl⟩|⟨Hh,rfl⟩⟩
      ·have Hy:=hid Hh;have Hd:=hid (D.bw b3);clear b3 Hh Hq D;go_wp2_with fail;go_loopw [9,10,14,15] (fun av okv lv iv wq=>∃(t:Nat) (v:Value) (Q:List Rn) (j:Int),t<=C/\ iv=Ud (t:Int)/\ lv=Ud j/\ -1<=j/\ j<=2000000002*(t:Int)/\ Hid (St w wq v Q)/\ Q.length<=1000*k+t/\
        ((okv=Un true/\∃(y:Nat) (P:List Rn),av=Ud (y:Int)/\ y<=n/\ Hid (Q=l++P)/\ Hid (Qa7 f n (R:Int) C (-1) B=(Qa7 f n (R:Int) (C - t) j y).bind fun d=>Uq (P++d.1,d.2))) \/(okv=Un false/\ (∃y:Int,av=Ud y)/\ Hid (Qa7 f n (R:Int) C (-1) B=Up)))) (fun _ _ _ iv _=>C - (intOf iv).toNat)
       case atStart=>exact⟨0,v,l, -1,Uv _,rfl,rfl,oM,oM,Hd,oM,.inl ⟨rfl,B,[],rfl,H9,hid oP,hid (by cases h:Qa7 f n (R:Int) (C - 0) (-1) B<;>simp_all)⟩⟩
       case round=>
        clear g Hd;obtain⟨t,v,Q,j,ht,rfl,rfl,H3,H4,g,H5,⟨rfl,y',P,rfl,Hk,Ht,I⟩|⟨rfl,⟨y',rfl⟩,I⟩⟩:=hrel
        ·by_cases Hu:t<C
         ·obtain⟨q,hq⟩:∃q,C - t=q+1:=⟨C - t - 1,oM⟩;have HQ:=hid hq;have Hr:=hid (Qdb a n c y' 1000000000 f wr hn hf (HS.bw g.b) Hk oM oM);clear hq;go_wp2_with fail;refine Hr.mono ?_;rintro e w4 ⟨b4,⟨G,x4,Hi,hG,Ga,rfl⟩|⟨Hi,rfl⟩⟩
          ·have Ha:=hid (g.bw b4);have Hs:=hid (Qdb a n c x4 1000000000 f w4 hn hf (HS.bw Ha.b) Ga oM oM);have Hz:=hid Hi;clear b4 Hi Hr g;go_wp2_with fail;refine Hs.mono ?_;rintro e w5 ⟨F,⟨Z,x5,Hj,hZ,Gb,rfl⟩|⟨Hj,rfl⟩⟩
           ·have Hf:Hid (Qa7 f n (R:Int) C (-1) B=(Qa7 f n (R:Int) (C - (t+1)) (j+2+(G:Int)+(Z:Int)) x5).bind fun d=>Uq (P++[((R:Int),j+2+(G:Int),j+2+(G:Int)+(Z:Int))]++d.1,d.2)):=by
             refine hid ?_;rw [I.out,HQ.out,Qcg,Hz.out,YB];dsimp only;rw [Hj,show C - (t+1)=q from by have:=HQ.out;omega];simp only [YB];cases Qa7 f n (R:Int) q (j+2+(G:Int)+(Z:Int)) x5 with
             | none=>rfl
             | some d=>simp
            have e1:IntKind.i64.wrap (j+2)=j+2:=Qa3 _ oM oM;have S:IntKind.i64.wrap (j+2+(G:Int))=j+2+(G:Int):=Qa3 _ oM oM;have e3:IntKind.i64.wrap (j+2+(G:Int)+(Z:Int))=j+2+(G:Int)+(Z:Int):=Qa3 _ oM oM;have s:=Ha.bw F;have U:=hid s;have c5:=s.c;have T:=s.fc;have z5:=s.z;clear F Hj Hs Ha I E s;go_wp2_with (at_builtin;refine Qam rfl _ _ 36 rfl (w.heap.size+1) 123 i0 _ 3 24 underlying36 hi Hv Hw Hx rfl oD _ _ _ rfl (World.ownsRow.alloc U.o _) (Ub w5.heap.size) 1 1 [Ud (R:Int),Ud (j+2+(G:Int)),Ud (j+2+(G:Int)+(Z:Int))] rfl rfl ?c1 ?c2 ?c3 ?c4 ?c5 ?_);case c1=>exact Qa0 _ _ _ _ _
            case c2=>intro u X;simp at X;rcases X with rfl|rfl|rfl<;>rfl
            case c3=>unfold maxLen;omega
            case c4=>omega
            case c5=>simp;omega
            intro v7 w7 H Y N;obtain⟨y7,m7,c7,rfl⟩:=Qbk H;obtain⟨q1,q2⟩:=U.mid Y;have Hb:=hid (U.app H Y (oW N));have L:(Q++[((R:Int),j+2+(G:Int),j+2+(G:Int)+(Z:Int))]).length=Q.length+1:=oP;have HW:=hid L;clear H Y N c5 T L;go_wp2_with fail;go_roundw;case rel=>exact⟨t+1,_,_,_,Hu,oN,rfl,oM,oM,Hb,by rw [HW.out];omega,.inl ⟨rfl,x5,P++[((R:Int),j+2+(G:Int),j+2+(G:Int)+(Z:Int))],rfl,Gb,hid (by rw [Ht.out,List.append_assoc]),Hf⟩⟩
            case measure=>exact oE
           ·have Hf:Hid (Qa7 f n (R:Int) C (-1) B=Up):=by
             refine hid ?_;rw [I.out,HQ.out,Qcg,Hz.out,YB];dsimp only;rw [Hj];rfl
            have e1:IntKind.i64.wrap (j+2)=j+2:=Qa3 _ oM oM;have S:IntKind.i64.wrap (j+2+(G:Int))=j+2+(G:Int):=Qa3 _ oM oM;have s:=Ha.bw F;have U:=hid s;have c5:=s.c;have T:=s.fc;have z5:=s.z;clear F Hj Hs Ha I E s;go_wp2_with (at_builtin;refine Qam rfl _ _ 36 rfl (w.heap.size+1) 123 i0 _ 3 24 underlying36 hi Hv Hw Hx rfl oD _ _ _ rfl (World.ownsRow.alloc U.o _) (Ub w5.heap.size) 1 1 [Ud (R:Int),Ud (j+2+(G:Int)),Ud (j+2+(G:Int))] rfl rfl ?d1 ?d2 ?d3 ?d4 ?d5 ?_);case d1=>exact Qa0 _ _ _ _ _
            case d2=>intro u X;simp at X;rcases X with rfl|rfl|rfl<;>rfl
            case d3=>unfold maxLen;omega
            case d4=>omega
            case d5=>simp;omega
            intro v7 w7 H Y N;obtain⟨y7,m7,c7,rfl⟩:=Qbk H;obtain⟨q1,q2⟩:=U.mid Y;have Hb:=hid (U.app H Y (oW N));have L:(Q++[((R:Int),j+2+(G:Int),j+2+(G:Int))]).length=Q.length+1:=oP;have HW:=hid L;clear H Y N c5 T L;go_wp2_with fail;go_roundw;case rel=>exact⟨t+1,_,_,_,Hu,oN,rfl,oM,oM,Hb,by rw [HW.out];omega,.inr ⟨rfl,⟨_,rfl⟩,Hf⟩⟩
            case measure=>exact oE
          ·have Hf:Hid (Qa7 f n (R:Int) C (-1) B=Up):=by
            refine hid ?_;rw [I.out,HQ.out,Qcg,Hi];rfl
           have e1:IntKind.i64.wrap (j+2)=j+2:=Qa3 _ oM oM;have s:=g.bw b4;have U:=hid s;have c5:=s.c;have T:=s.fc;have z5:=s.z;clear b4 Hi Hr g I E s;go_wp2_with (at_builtin;refine Qam rfl _ _ 36 rfl (w.heap.size+1) 123 i0 _ 3 24 underlying36 hi Hv Hw Hx rfl oD _ _ _ rfl (World.ownsRow.alloc U.o _) (Ub w4.heap.size) 1 1 [Ud (R:Int),Ud (j+2),Ud (j+2)] rfl rfl ?f1 ?f2 ?f3 ?f4 ?f5 ?_);case f1=>exact Qa0 _ _ _ _ _
           case f2=>intro u X;simp at X;rcases X with rfl|rfl|rfl<;>rfl
           case f3=>unfold maxLen;omega
           case f4=>omega
           case f5=>simp;omega
           intro v7 w7 H Y N;obtain⟨y7,m7,c7,rfl⟩:=Qbk H;obtain⟨q1,q2⟩:=U.mid Y;have Hb:=hid (U.app H Y (oW N));have L:(Q++[((R:Int),j+2,j+2)]).length=Q.length+1:=oP;have HW:=hid L;clear H Y N c5 T L;go_wp2_with fail;go_roundw;case rel=>exact⟨t+1,_,_,_,Hu,oN,rfl,oM,oM,Hb,by rw [HW.out];omega,.inr ⟨rfl,⟨_,rfl⟩,Hf⟩⟩
           case measure=>exact oE
         ·obtain rfl:t=C:=oM;have M:Hid (QaR f n V K=(QaR f n (V - (k+1)) y').bind fun d=>Uq (Q++d.1,d.2)):=by
           refine hid ?_;have H6:Qa7 f n (R:Int) t (-1) B=Uq (P,y'):=(by rw [I.out,YP];simp [Qa7]);rw [E.out,HM.out,QbO,Hn.out,YB];dsimp only;rw [Hy.out,YB];dsimp only;rw [H6,show V - (k+1)=m from by have:=HM.out;omega,Ht.out];simp only [YB];cases QaR f n m y' with
           | none=>rfl
           | some d=>simp
          clear I E Ht;go_wp2_with fail;go_roundw;case rel=>exact⟨k+1,v,Q,Hl,oN,g,oM,.inl ⟨rfl,y',rfl,Hk,M⟩⟩
          case measure=>exact oE
        ·have M:Hid (QaR f n V K=Up):=by
          refine hid ?_;rw [E.out,HM.out,QbO,Hn.out,YB];dsimp only;rw [Hy.out,YB];dsimp only;rw [I.out];rfl
         clear I E;go_wp2_with fail;go_roundw;case rel=>exact⟨k+1,v,Q,Hl,oN,g,oM,.inr ⟨rfl,⟨_,rfl⟩,M⟩⟩
         case measure=>exact oE
      ·have M:Hid (QaR f n V K=Up):=by
        refine hid ?_;rw [E.out,HM.out,QbO,Hn.out,YB];dsimp only;rw [Hh];rfl
       have Hd:=hid (D.bw b3);clear b3 Hh Hq D E g;go_wp2_with fail;refine wp_loop_rounds 1 ?_;rw [rounds_succ];go_wp2_with fail;go_roundw;case rel=>exact⟨k+1,v,l,Hl,oN,Hd,oM,.inr ⟨rfl,⟨_,rfl⟩,M⟩⟩
       case measure=>exact oE
     ·have M:Hid (QaR f n V K=Up):=by
       refine hid ?_;rw [E.out,HM.out,QbO,Hg];rfl
      have D:=hid (g.bw b2);clear b2 Hg Hp E g;go_wp2_with fail;refine wp_loop_rounds 1 ?_;rw [rounds_succ];go_wp2_with fail;go_roundw;case rel=>exact⟨k+1,v,l,Hl,oN,D,oM,.inr ⟨rfl,⟨_,rfl⟩,M⟩⟩
      case measure=>exact oE
    ·obtain rfl:k=V:=oM;have M:Hid (Qeo f n x=Uq (l,y)):=by
      refine hid ?_;rw [HR.out,E.out,YP];simp [QaR]
     obtain⟨O,A,i,rfl⟩:=Qbk g.o;have c5:=g.c;have r5:=g.r;have H0:=g.fr;clear E;go_wp2_with fail;have k4:=UH wr (Ub w.heap.size) (Uf O A i) r5;have HF:Hid (FR (wr.setCell (Ub w.heap.size) (Uf O A i)) w.heap.size (Uf O A i) l):=by
      have h1:=g.o;have h2:FR wr w.heap.size (Uf O A i) l:=by
       obtain⟨q1,q2⟩:=h1;refine⟨q1,q2.imp id ?_⟩;rintro⟨g',cap,H2,e,hg,r⟩;exact⟨g',cap,H2,e,oM,r⟩
      refine hid (World.ownsRow.kept h2 (QaG wr (Ub w.heap.size) (Uf O A i)) ?_);cases e:(Value.slice O A i).ownBlock with
      | none=>exact .inl rfl
      | some t=>exact .inr (fun S=>by have h3:=(World.ownsRow.lt h1 t e).1;injection S with S;have S:t=w.heap.size:=S;omega)
     have He:=hid (g.b.setCell (p:=(Ub w.heap.size)) zL (Uf O A i));refine zF (v:=Ul #[Uo #[Uf O A i],Ud (y:Int),Un true]) (by simp [results,results44,go_sem,k4]) ?_;exact⟨He,.inl (by first|exact⟨l,y,Uf O A i,M,Hm,rfl,HF,oM⟩|exact⟨l,y,M,Hm,Uf O A i,rfl,HF,oM⟩|exact⟨l,y,M,Hm,Uf O A i,rfl,HF,oM⟩)⟩
   ·have M:Hid (Qeo f n x=Up):=(by rw [HR.out];exact E);obtain⟨O,A,i,rfl⟩:=Qbk g.o;have c5:=g.c;have r5:=g.r;have H0:=g.fr;clear E;go_wp2_with fail;have k4:=UH wr (Ub w.heap.size) (Uf O A i) r5;have He:=hid (g.b.setCell (p:=(Ub w.heap.size)) zL (Uf O A i));refine zF (v:=Ul #[Uo #[Uf O A i],Ud y,Un false]) (by simp [results,results44,go_sem,k4]) ?_;exact⟨He,.inr ⟨M,_,_,_,_,rfl⟩⟩
 ·have M:Hid (Qeo f n x=Up):=by unfold Qeo;rw [hr];exact hid rfl
  obtain⟨c5,r5,T,H0,o5,n5,F,z5⟩:=Hc.bw b1;have H1:=hid F;clear b1 hr HU Hc HZ o5 n5 F;go_wp2_with fail;refine wp_loop_rounds 1 ?_;rw [rounds_succ];go_wp2_with fail;have k4:=UH w1 (Ub w.heap.size) (Uf (Uq (Ua (w.heap.size+1) 0)) 0 0) r5;have He:=hid (H1.setCell (p:=(Ub w.heap.size)) zL (Uf (Uq (Ua (w.heap.size+1) 0)) 0 0));refine zF (v:=Ul #[Uo #[Uf (Uq (Ua (w.heap.size+1) 0)) 0 0],Ud (x:Int),Un false]) (by simp [results,results44,go_sem,k4]) ?_;exact⟨He,.inr ⟨M,_,_,_,_,rfl⟩⟩
theorem Seg.keptR(h:Seg w a n f)(g:w.grownBy w' row)(hab:∀y,a=Uq y ->row≠Uq y.block):Seg w' a n f:=by
 rcases h with h|⟨b,off,rfl,j,k⟩
 ·exact .inl h
 ·exact .inr ⟨b,off,rfl,Ut j g.size,fun i hi=>(UB (a:=(Ua b (off+i))) (g.block b j (fun e=>hab _ rfl e.symm))).trans (k i hi)⟩
theorem Qe8(hf:Byt f){x:Nat}{a:Nat×Nat}(h:rd f n x most=Uq a):x<a.2/\ a.2<=n/\ (a.1:Int)<=most:=by
 obtain⟨V,x'⟩:=a;obtain⟨m,j,q,r,k⟩:=(Qav hf).1 h;have:=(Qah 9 V).2;exact⟨oQ,k,j⟩
theorem Qpg(hf:Byt f){x:Nat}(hn:n<=1048576)(hm:0<=most):(∃s x',Qc4 f n x most=Uq (s,x')/\ x<x'/\ x'<=n/\ (s.size:Int)<=most/\ gtX f n (cN f n x) (x:Int) most=(s,(x':Int),0)) \/(Qc4 f n x most=Up/\∃k,0<k/\ k<=4/\ gtX f n (cN f n x) (x:Int) most=(⟨#[]⟩,(x:Int),k)):=by
 have j:=QcV (f:=f) (n:=n) (m:=cN f n x) (x:=(x:Int)) (oW (Qds f n x)) hf hn;unfold Qc4 gtX;cases h1:rd f n x most with
 | none=>
  refine .inr ⟨rfl,?_⟩;unfold rd at h1;by_cases e:(gX f n (cN f n x) (x:Int)).2.2=0
  ·rw [if_neg (oW e)];by_cases q:((gX f n (cN f n x) (x:Int)).1:Int)<=most
   ·rw [if_pos ⟨e,q⟩] at h1;cases h1
   ·rw [if_pos (.inr oM)];exact⟨4,oM,oM,rfl⟩
  ·rw [if_pos e];refine⟨_,oM,?_,rfl⟩;by_cases y:x<n
   ·have:=(j oM oM).2.1;omega
   ·rw [Qee (.inr oM)];show 1<=4;omega
 | some a=>
  have v:=Qe8 hf h1;unfold rd at h1;split at h1
  ·rename_i he;have r:=(j oM oM).2.2.1 he.1;generalize gX f n (cN f n x) (x:Int)=G at*;obtain⟨V,A,C⟩:=G;simp only [Option.some.injEq] at h1;subst h1;simp only at he r v ⊢;obtain⟨rfl,u⟩:=he;simp only [YB,ne_eq,not_true_eq_false,if_false];rw [if_neg (show¬(most<0 \/most<(V:Int)) by omega)];by_cases e:A.toNat+V<=n
   ·rw [if_pos e,if_neg oM];refine .inl ⟨Qby f A.toNat V,A.toNat+V,rfl,oM,e,by rw [Qdk];exact u,?_⟩;congr 2;omega
   ·rw [if_neg e,if_pos oM];exact .inr ⟨rfl,1,oM,oM,rfl⟩
  ·cases h1
theorem QhR (a:Option Us)(n c x:Nat)(most:Int)(f:Nat ->Int)(w:Ur)(hn:n<=1048576)(hnc:n<=c)(hf:Byt f)(hs:Seg w a n f)(hx:x<=n)(hm0:0<=most)(hm1:most<=1000000):
  Cl 66 #[Uf a n c,Ud (x:Int),Ud most] w fun e w'=>Bl w w'/\
   ((∃s x',Qc4 f n x most=Uq (s,x')/\ x<x'/\ x'<=n/\ (s.size:Int)<=most/\ e=Ui (Ul #[Um s,Ud (x':Int),Ud 0])) \/
    (Qc4 f n x most=Up/\∃k:Nat,0<k/\ k<=4/\ e=Ui (Ul #[Um ⟨#[]⟩,Ud (x:Int),Ud (k:Int)]))):=by
 refine(QqI a n c (cN f n x) (x:Int) most f w hn hnc hf hs (oW (Qds f n x)) (wfI oM oM) (wfI oM oM)).mono ?_;rintro e w' ⟨rfl,b⟩;refine⟨b,?_⟩;rcases Qpg hf hn hm0 (x:=x) with ⟨s,x',j,m,q,r,u⟩|⟨j,k,m,q,r⟩
 ·exact .inl ⟨s,x',j,m,q,r,by rw [u];rfl⟩
 ·exact .inr ⟨j,k,m,q,by rw [r]⟩
theorem QjW (g m c:Nat)(p:List ByteArray)(w:Ur)(hp:p.length=m)(hm:m<=1048576)(hg:g<w.heap.size)(h:∀t,t<m ->w.cell? (Ua g t)=Uq (Um (gS p t))):
  Cl 67 #[Uf (Uc g) m c] w fun e w'=>∃q cap,e=Ui (Uf (Uc q) m cap)/\ Bl w w'/\ w.heap.size<=q/\ w'.ownsRow w.heap.size 9 1 (Uf (Uc q) m cap) m (Qdh p):=by
 obtain⟨O,hi,A,E,M⟩:=info_parts QcC;have r:Bl w (w.alloc (Uj #[] 9)):=zO _ _;have y:(w.alloc (Uj #[] 9)).ownsRow w.heap.size 9 1 (Uf (Uc w.heap.size) 0 0) 0 []:=by
  have:=VD (base:=w.heap.size) (e:=9) (size:=1) w #[] 0 zL oL rfl;simpa using this
 obtain⟨q,cap,w',u,o,v,z⟩:=QcS 90 9 O _ 1 16 underlying90 hi A E M rfl oD oM w.heap.size g 0 m c (fun t=> Um (gS p t)) (w.alloc (Uj #[] 9)) w.heap.size hm y oP (fun j hj=>by rw [Uw];exact(r.cell (p:=(Ua g j)) hg).trans (h j oM)) (fun _ _=>rfl);have i:Hid (Bl w w'):=hid (r.grown v r.size (fun k e=>oI e));have s:Hid (w'.ownsRow w.heap.size 9 1 (Uf (Uc q) m cap) m (Qdh p)):=hid (by unfold Qdh;rw [hp];exact o);have b:Hid (w.heap.size<=q):=hid (by rcases z with e|e<;>rw [e];exact Uu _;simp);clear o v z h y r;go_enter func67,ntmps67;go_wp2_with (at_builtin;refine Qac rfl _ _ _ _ rfl u (by rfl) (by rfl) rfl ?_;clear u);go_ret;exact⟨q,cap,rfl,i,b,s⟩
noncomputable def Ql3 (f:Nat ->Int)(n:Nat)(fl:Bool)(p:List ByteArray)(acc:List Lf)(x:Nat):Option (List Lf×Nat):=(rd f n x 1000).bind fun a=>QnP f n fl p a.1 acc a.2
def LdP (w:Ur)(lo:Nat)(vo:Value)(n x:Nat)(acc:List Lf)(R:Option (List Lf×Nat))(e:Ending)(w':Ur):Prop:=
 ∃(vo':Value) (l:List Lf) (y:Nat) (ok:Bool),e=Ui (Ul #[vo',Ud (y:Int),Un ok])/\ Gr w w' vo vo'/\ LB w' lo vo' l/\ LBd l/\ y<=n/\
  ((ok=true/\ R=Uq (l,y)/\ l.length+x<=acc.length+y) \/(ok=false/\ R=Up/\ l.length+x<=acc.length+n+1))
def LsI (f:Nat ->Int)(n:Nat)(fl:Bool)(p:List ByteArray)(acc:List Lf)(x V k y:Nat)(ok:Bool)(l:List Lf):Prop:=
 (ok=true/\ Ql3 f n fl p acc x=QnP f n fl p (V - k) l y/\ l.length+x<=acc.length+y) \/(ok=false/\ Ql3 f n fl p acc x=Up/\ l.length+x<=acc.length+n+1)
theorem LBd.snoc{y:Lf}(h:LBd l)(hy:y.p.length<=8):LBd (l++[y]):=fun i=>by
 rcases Nat.lt_trichotomy i l.length with e|e|e
 ·rw [Qj7 l y e];exact h i
 ·subst e;rw [Qj5];omega
 ·have:gL (l++[y]) i=gL [] 0:=by
   have j:¬i<(l++[y]).length:=oS;simp [gL,UR,US (Yb j)]
  rw [this];show ([]:List ByteArray).length<=1048576;simp
theorem Qep {Wz:Ur}{oa:Option Us}{oc:Nat}{p:List ByteArray}(h:LB wr lo (Uf oa l.length oc) l)(hlo:lo<=wr.heap.size)(hk:l.length<=1048576)(b1:Bl wr w1)(hq:wr.heap.size<=q)(ho:w1.ownsRow wr.heap.size 9 1 (Uf (Uc q) m cap) m (Qdh p))(hp:p.length=m)(ob:Obj)
  (bW:Below (w1.heap.size+1) (w1.alloc ob) W) (gz:W.grownBy Wz (Uq w1.heap.size)) (hsz:Wz.heap.size=W.heap.size) (fl:Bool) (r s:Int) (v:ByteArray):
  ∃z y g,(Builtin.append_ #[35,35] 35 #[Uf oa l.length oc,Uf (Uc W.heap.size) 1 1]).run prog (Wz.alloc (Uj #[Uf (Uc q) m cap,Un fl,Ud r,Ud s,Um v] 117))=.ok (Uf (Uc z) (l.length+1) y) g/\
   LB g lo (Uf (Uc z) (l.length+1) y) (l++[⟨p,fl,r,s,v⟩])/\ Gr wr g (Uf oa l.length oc) (Uf (Uc z) (l.length+1) y):=by
 subst hp;have Q:=(World.ownsRow.lt ho q rfl).2;have Y:=(Qez ho rfl).2;have O:p.length<=cap/\ cap<=9223372036854775807:=by
  rcases ho.2 with ⟨E,_⟩|⟨G,y,Z,U,L,K,H,M,I,J⟩
  ·cases E
  ·injection U with j u b;unfold maxLen at M;omega
 have A:=b1.size;have X:=bW.size;have o:Bl w1 (w1.alloc ob):=zO _ _;have i:Bl wr Wz:=by
  have j:=b1.trans (o.mono A);have u:=j.trans (bW.mono (Ux A (Nat.le_succ _)));exact u.grown gz u.size (fun k e=>oI e)
 have N:(w1.alloc ob).heap.size=w1.heap.size+1:=oP;have V:Wr Wz q 9 p.length (fun t=> Um (gS p t)):=by
  have j:=Y.same (o.block q Q);have u:=j.same (bW.block q oM);exact u.same (gz.block q oM (fun e=>oI e))
 obtain⟨z,y,g,j,u,b⟩:=h.app i hlo hk ⟨p,fl,r,s,v⟩ q cap hq oM V O;rw [hsz] at j;exact⟨z,y,g,j,u,(Gr.of_below i).trans b⟩
theorem QfB (a:Option Us)(n c x:Nat)(f:Nat ->Int)(g m pc:Nat)(p:List ByteArray)(fl:Bool)(oa0:Option Us)(oc0:Nat)(acc:List Lf)(lo:Nat)(w:Ur)(hn:n<=4000)(hnc:n<=c)(hf:Byt f)(hs:Seg w a n f)(hx:x<=n)(hp:p.length=m)(hm:m<=8)(hg:g<w.heap.size)(hgc:∀t,t<m ->w.cell? (Ua g t)=Uq (Um (gS p t)))
  (hgo:(Value.slice oa0 acc.length oc0).ownBlock≠Uq g) (hab:∀y,a=Uq y ->(Value.slice oa0 acc.length oc0).ownBlock≠Uq y.block) (hL:LB w lo (Uf oa0 acc.length oc0) acc) (hB:LBd acc) (hlo:lo<=w.heap.size) (hacc:acc.length<=10000):
  Cl 68 #[Uf a n c,Ud (x:Int),Uf (Uc g) m pc,Un fl,Uf oa0 acc.length oc0] w fun e w'=>LdP w lo (Uf oa0 acc.length oc0) n x acc (Ql3 f n fl p acc x) e w':=by
 obtain⟨P,hP⟩:=zE (LdP w lo (Uf oa0 acc.length oc0) n x acc (Ql3 f n fl p acc x));rw [hP];have HP:=hid hP;clear hP;have HU:Hid (Cl 65 #[Uf a n c,Ud (x:Int),Ud 1000] w fun e w'=>Bl w w'/\∃(V y:Nat) (ok:Bool),e=Ui (Ul #[Ud (V:Int),Ud (y:Int),Un ok])/\ V<=1000/\ y<=n/\ LsI f n fl p acc x V 0 y ok acc):=hid (by
  refine(Qdb a n c x 1000 f w oM hf hs hx oM oM).mono ?_;rintro e w' ⟨b,⟨V,x',h1,h2,h3,rfl⟩|⟨h1,rfl⟩⟩
  ·refine⟨b,V,x',true,rfl,oM,h3,.inl ⟨rfl,?_,?_⟩⟩
   ·unfold Ql3;rw [h1];rfl
   ·have:=(Qe8 hf h1).1;simp at this;omega
  ·refine⟨b,0,x,false,rfl,oM,hx,.inr ⟨rfl,?_,oM⟩⟩;unfold Ql3;rw [h1];rfl)
 have HL:=hid hL;have HF:=hid hf;have HS:=hid hs;have Hx:=hid hB;have HG:=hid (And.intro hg hgc);have Hs:=hid (And.intro hgo hab);clear hL hf hs hB hgc hgo hab;go_enter func68,ntmps68;go_wp2_with fail;refine HU.mono ?_;clear HU;rintro e w1 ⟨b1,V,y,ok,rfl,hV,hy,S⟩;have HI:=hid S;have Hq:=hid b1;have z1:=b1.size;clear S b1;go_wp2_with fail;go_loopw [4,14,15,16] (fun ov av kv iv wr=>∃(k y:Nat) (ok:Bool) (oa:Option Us) (oc:Nat) (l:List Lf),k<=V/\ iv=Ud (k:Int)/\ av=Ud (y:Int)/\ kv=Un ok/\ ov=Uf oa l.length oc/\ y<=n/\ l.length<=20000/\ w.heap.size<=wr.heap.size/\ Hid (LB wr lo (Uf oa l.length oc) l)/\ Hid (Gr w wr (Uf oa0 acc.length oc0) (Uf oa l.length oc))/\ Hid (LBd l)/\ Hid (LsI f n fl p acc x V k y ok l)) (fun _ _ _ iv _=>V - (intOf iv).toNat);case atStart=>exact⟨0,y,ok,oa0,oc0,acc,Uv _,rfl,rfl,rfl,rfl,hy,oM,z1,hid (HL.bw Hq),hid (Gr.of_below Hq),Hx,HI⟩
 case round=>
  obtain⟨k,J,H3,oa,oc,l,H6,rfl,rfl,rfl,rfl,Hp,H8,Hi,L,Y,He,S⟩:=hrel;cases H3 with
  | false=>
   go_wp2_with fail;refine zF (v:=Ul #[Uf oa l.length oc,Ud (J:Int),Un false]) (by simp [results,results68,go_sem]) ?_;rw [<- HP.out];obtain⟨h,_⟩|⟨_,h1,h2⟩:=S.out
   ·cases h
   ·exact⟨_,l,J,false,rfl,Y,L,He,Hp,.inr ⟨rfl,h1,h2⟩⟩
  | true=>
   have E:Hid (Ql3 f n fl p acc x=QnP f n fl p (V - k) l J/\ l.length+x<=acc.length+J):=hid (by
    obtain⟨_,h⟩|⟨h,_⟩:=S.out
    ·exact h
    ·cases h)
   by_cases Hl:k<V
   ·obtain⟨mm,Hw⟩:∃mm,V - k=mm+1:=⟨V - k - 1,oM⟩;have K:=hid Hw;clear Hw;have Hd:Hid (∀W',Bl wr W' ->Seg W' a n f):=hid (fun W' b=>Seg.bw (Seg.keptR HS Y.1 (fun y hy=>Hs.2 y hy)) b);have Ht:=hid (QjW g m pc p wr hp oM (Ut HG.1 Hi) (fun t ht=>(UB (a:=(Ua g t)) (Y.1.block g HG.1 (fun e=>Hs.1 e.symm))).trans (HG.2 t ht)));go_wp2_with fail;refine Ht.mono ?_;clear Ht;rintro e w2 ⟨q,cap,rfl,b2,hq,ho⟩;have F:=hid ho;have B:=hid b2;have HQ:=hid hq;clear ho b2 hq;have b3:Bl w2 (w2.alloc (Uj #[Uf (Uc q) m cap,Un fl,Ud 0,Ud 0,Um ⟨#[]⟩] 117)):=zO _ _;have D:Hid (Bx5 (w2.alloc (Uj #[Uf (Uc q) m cap,Un fl,Ud 0,Ud 0,Um ⟨#[]⟩] 117)) w2.heap.size (Uf (Uc q) m cap) (Un fl) (Ud 0) (Ud 0) (Um ⟨#[]⟩)):=hid (Bx5.new _ _ _ _ _ _ _);have C:=hid (Qaa B b3);have HR:=hid (Qdb a n c J 8 f _ oM HF (Hd _ C) Hp oM oM);clear b3;go_wp2_with fail;obtain⟨W3,Hn⟩:=zE (w2.alloc (Uj #[Uf (Uc q) m cap,Un fl,Ud 0,Ud 0,Um ⟨#[]⟩] 117));have R:Hid (W3.heap.size=w2.heap.size+1):=hid (Hn▸oP);have Hj:=hid Hn;rw [Hn] at D C HR ⊢;clear Hn;refine HR.mono ?_;clear HR;rintro e w4 ⟨b4,⟨r,x1,Hg,Ga,H0,rfl⟩|⟨Hg,rfl⟩⟩
    ·have Hf:=hid Hg;have Hy:=Qe8 HF Hg;simp only at Hy;have Hu:=hid (Qdb a n c x1 1000000000 f w4 oM HF (Hd w4 (C.trans (b4.mono C.size))) H0 oM oM);have Hr:=hid b4;clear Hg b4;go_wp2_with fail;refine Hu.mono ?_;clear Hu;rintro e N ⟨b5,⟨u,x2,Hh,Gb,H1,rfl⟩|⟨Hh,rfl⟩⟩
     ·have Hk:=hid Hh;have Hz:=Qe8 HF Hh;simp only at Hz;have Hm:=hid (Qaa Hr b5);clear Hh b5;cases fl with
      | true=>
       have z:Bl W3 N:=Hm.out;have X:=D.bw z (oH R);have I:(((N.setCell (Ua w2.heap.size 2) (Ud (r:Int))).setCell (Ua w2.heap.size 3) (Ud (u:Int)))).heap.size=N.heap.size:=(by simp [UC]);have U:N.grownBy ((N.setCell (Ua w2.heap.size 2) (Ud (r:Int))).setCell (Ua w2.heap.size 3) (Ud (u:Int))) (Uq w2.heap.size):=⟨rfl,rfl,rfl,by simp [UC],fun j hj hne=>by
        have M:j≠w2.heap.size:=fun e=>hne (by rw [e]);exact(zH _ _ _ _ M).trans (zH _ _ _ _ M)⟩
       obtain⟨i,o,A,H,G,Z⟩:=Qep L (Ux hlo Hi) oM B HQ F hp _ (by rw [Hj.out];have:=R.out;rw [<- this];exact z) U I true (r:Int) (u:Int) ⟨#[]⟩;have Hb:Hid (LB A lo (Uf (Uc i) (l++[(⟨p,true,(r:Int),(u:Int),⟨#[]⟩⟩:Lf)]).length o) (l++[⟨p,true,(r:Int),(u:Int),⟨#[]⟩⟩])):=hid (by rw [Vg,Vp];exact G);have O:Hid (Gr w A (Uf oa0 acc.length oc0) (Uf (Uc i) (l++[(⟨p,true,(r:Int),(u:Int),⟨#[]⟩⟩:Lf)]).length o)):=hid (by rw [Vg,Vp];exact Y.trans Z);have Q:Hid (LsI f n true p acc x V (k+1) x2 true (l++[⟨p,true,(r:Int),(u:Int),⟨#[]⟩⟩])):=hid (by
        refine .inl ⟨rfl,?_,?_⟩
        ·rw [E.1,K.out,show V - (k+1)=mm by have:=K.out;omega];show (QiG f n true p J).bind _=_;unfold QiG;rw [Hf.out];simp only [YB];rw [Hk.out];rfl
        ·have h2:=E.2;simp only [Vg,Vp];omega)
       have W:=hid (He.snoc (y:=⟨p,true,(r:Int),(u:Int),⟨#[]⟩⟩) oQ);have Hc:w.heap.size<=A.heap.size:=O.1.size;have Ha:(l++[(⟨p,true,(r:Int),(u:Int),⟨#[]⟩⟩:Lf)]).length<=20000:=by
        obtain⟨_,_,h⟩|⟨_,_,h⟩:=Q.out<;>omega
       obtain⟨c0,c1,c2,c3,c4,cf⟩:=X.p5;clear X I U G Z L Y E S Hd F B D C K z;go_wp2_with (at_builtin;refine Qac rfl _ _ _ _ rfl H (by rfl) (by rfl) rfl ?_;clear H);go_roundw;case rel=>exact⟨k+1,x2,true,Uq (Ub i),o,l++[⟨p,true,(r:Int),(u:Int),⟨#[]⟩⟩],Hl,oN,rfl,rfl,oP,oM,Ha,Hc,Hb,O,W,Q⟩
       case measure=>exact oE
      | false=>
       have Hv:=hid (QhR a n c x2 200 f N oM hnc HF (Hd N (C.trans (Hm.mono C.size))) H1 oM oM);go_wp2_with fail;refine Hv.mono ?_;clear Hv;rintro e T ⟨b6,⟨s,x3,ht,H2,Gc,H9,rfl⟩|⟨ht,kc,H4,H5,rfl⟩⟩
       ·have Ho:=hid ht;have z:Bl W3 T:=Qaa Hm b6;clear ht b6;have X:=D.bw z (oH R);have I:((((T.setCell (Ua w2.heap.size 4) (Um s)).setCell (Ua w2.heap.size 2) (Ud (r:Int))).setCell (Ua w2.heap.size 3) (Ud (u:Int)))).heap.size=T.heap.size:=(by simp [UC]);have U:T.grownBy (((T.setCell (Ua w2.heap.size 4) (Um s)).setCell (Ua w2.heap.size 2) (Ud (r:Int))).setCell (Ua w2.heap.size 3) (Ud (u:Int))) (Uq w2.heap.size):=⟨rfl,rfl,rfl,by simp [UC],fun j hj hne=>by
         have M:j≠w2.heap.size:=fun e=>hne (by rw [e]);exact(zH _ _ _ _ M).trans ((zH _ _ _ _ M).trans (zH _ _ _ _ M))⟩
        obtain⟨i,o,A,H,G,Z⟩:=Qep L (Ux hlo Hi) oM B HQ F hp _ (by rw [Hj.out];have:=R.out;rw [<- this];exact z) U I false (r:Int) (u:Int) s;have Hb:Hid (LB A lo (Uf (Uc i) (l++[(⟨p,false,(r:Int),(u:Int),s⟩:Lf)]).length o) (l++[⟨p,false,(r:Int),(u:Int),s⟩])):=hid (by rw [Vg,Vp];exact G);have O:Hid (Gr w A (Uf oa0 acc.length oc0) (Uf (Uc i) (l++[(⟨p,false,(r:Int),(u:Int),s⟩:Lf)]).length o)):=hid (by rw [Vg,Vp];exact Y.trans Z);have Q:Hid (LsI f n false p acc x V (k+1) x3 true (l++[⟨p,false,(r:Int),(u:Int),s⟩])):=hid (by
         refine .inl ⟨rfl,?_,?_⟩
         ·rw [E.1,K.out,show V - (k+1)=mm by have:=K.out;omega];show (QiG f n false p J).bind _=_;unfold QiG;rw [Hf.out];simp only [YB];rw [Hk.out];simp only [YB];rw [if_neg oP,Ho.out];rfl
         ·have h2:=E.2;simp only [Vg,Vp];omega)
        have W:=hid (He.snoc (y:=⟨p,false,(r:Int),(u:Int),s⟩) oQ);have Hc:w.heap.size<=A.heap.size:=O.1.size;have Ha:(l++[(⟨p,false,(r:Int),(u:Int),s⟩:Lf)]).length<=20000:=by
         obtain⟨_,_,h⟩|⟨_,_,h⟩:=Q.out<;>omega
        obtain⟨c0,c1,c2,c3,c4,cf⟩:=X.p5;clear X I U G Z L Y E S Hd F B D C K z;go_wp2_with (at_builtin;refine Qac rfl _ _ _ _ rfl H (by rfl) (by rfl) rfl ?_;clear H);go_roundw;case rel=>exact⟨k+1,x3,true,Uq (Ub i),o,l++[⟨p,false,(r:Int),(u:Int),s⟩],Hl,oN,rfl,rfl,oP,oM,Ha,Hc,Hb,O,W,Q⟩
        case measure=>exact oE
       ·have Ho:=hid ht;have z:Bl W3 T:=Qaa Hm b6;have H7:((kc:Int)==0)=false:=oS;clear ht b6;have X:=D.bw z (oH R);have I:((((T.setCell (Ua w2.heap.size 4) (Um ⟨#[]⟩)).setCell (Ua w2.heap.size 2) (Ud (r:Int))).setCell (Ua w2.heap.size 3) (Ud (u:Int)))).heap.size=T.heap.size:=(by simp [UC]);have U:T.grownBy (((T.setCell (Ua w2.heap.size 4) (Um ⟨#[]⟩)).setCell (Ua w2.heap.size 2) (Ud (r:Int))).setCell (Ua w2.heap.size 3) (Ud (u:Int))) (Uq w2.heap.size):=⟨rfl,rfl,rfl,by simp [UC],fun j hj hne=>by
         have M:j≠w2.heap.size:=fun e=>hne (by rw [e]);exact(zH _ _ _ _ M).trans ((zH _ _ _ _ M).trans (zH _ _ _ _ M))⟩
        obtain⟨i,o,A,H,G,Z⟩:=Qep L (Ux hlo Hi) oM B HQ F hp _ (by rw [Hj.out];have:=R.out;rw [<- this];exact z) U I false (r:Int) (u:Int) ⟨#[]⟩;have Hb:Hid (LB A lo (Uf (Uc i) (l++[(⟨p,false,(r:Int),(u:Int),⟨#[]⟩⟩:Lf)]).length o) (l++[⟨p,false,(r:Int),(u:Int),⟨#[]⟩⟩])):=hid (by rw [Vg,Vp];exact G);have O:Hid (Gr w A (Uf oa0 acc.length oc0) (Uf (Uc i) (l++[(⟨p,false,(r:Int),(u:Int),⟨#[]⟩⟩:Lf)]).length o)):=hid (by rw [Vg,Vp];exact Y.trans Z);have Q:Hid (LsI f n false p acc x V (k+1) x2 false (l++[⟨p,false,(r:Int),(u:Int),⟨#[]⟩⟩])):=hid (by
         refine .inr ⟨rfl,?_,?_⟩
         ·rw [E.1,K.out];show (QiG f n false p J).bind _=_;unfold QiG;rw [Hf.out];simp only [YB];rw [Hk.out];simp only [YB];rw [if_neg oP,Ho.out];rfl
         ·have h2:=E.2;simp only [Vg,Vp];omega)
        have W:=hid (He.snoc (y:=⟨p,false,(r:Int),(u:Int),⟨#[]⟩⟩) oQ);have Hc:w.heap.size<=A.heap.size:=O.1.size;have Ha:(l++[(⟨p,false,(r:Int),(u:Int),⟨#[]⟩⟩:Lf)]).length<=20000:=by
         obtain⟨_,_,h⟩|⟨_,_,h⟩:=Q.out<;>omega
        obtain⟨c0,c1,c2,c3,c4,cf⟩:=X.p5;clear X I U G Z L Y E S Hd F B D C K z;go_wp2_with (at_builtin;refine Qac rfl _ _ _ _ rfl H (by rfl) (by rfl) rfl ?_;clear H);go_roundw;case rel=>exact⟨k+1,x2,false,Uq (Ub i),o,l++[⟨p,false,(r:Int),(u:Int),⟨#[]⟩⟩],Hl,oN,rfl,rfl,oP,oM,Ha,Hc,Hb,O,W,Q⟩
        case measure=>exact oE
     ·have Hk:=hid Hh;have z:Bl W3 N:=Qaa Hr b5;clear Hh b5;have X:=D.bw z (oH R);have I:(((N.setCell (Ua w2.heap.size 2) (Ud (r:Int))).setCell (Ua w2.heap.size 3) (Ud 0))).heap.size=N.heap.size:=(by simp [UC]);have U:N.grownBy ((N.setCell (Ua w2.heap.size 2) (Ud (r:Int))).setCell (Ua w2.heap.size 3) (Ud 0)) (Uq w2.heap.size):=⟨rfl,rfl,rfl,by simp [UC],fun j hj hne=>by
       have M:j≠w2.heap.size:=fun e=>hne (by rw [e]);exact(zH _ _ _ _ M).trans (zH _ _ _ _ M)⟩
      obtain⟨i,o,A,H,G,Z⟩:=Qep L (Ux hlo Hi) oM B HQ F hp _ (by rw [Hj.out];have:=R.out;rw [<- this];exact z) U I fl (r:Int) 0 ⟨#[]⟩;have Hb:Hid (LB A lo (Uf (Uc i) (l++[(⟨p,fl,(r:Int),0,⟨#[]⟩⟩:Lf)]).length o) (l++[⟨p,fl,(r:Int),0,⟨#[]⟩⟩])):=hid (by rw [Vg,Vp];exact G);have O:Hid (Gr w A (Uf oa0 acc.length oc0) (Uf (Uc i) (l++[(⟨p,fl,(r:Int),0,⟨#[]⟩⟩:Lf)]).length o)):=hid (by rw [Vg,Vp];exact Y.trans Z);have Q:Hid (LsI f n fl p acc x V (k+1) x1 false (l++[⟨p,fl,(r:Int),0,⟨#[]⟩⟩])):=hid (by
       refine .inr ⟨rfl,?_,?_⟩
       ·rw [E.1,K.out];show (QiG f n fl p J).bind _=_;unfold QiG;rw [Hf.out];simp only [YB];rw [Hk.out];rfl
       ·have h2:=E.2;simp only [Vg,Vp];omega)
      have W:=hid (He.snoc (y:=⟨p,fl,(r:Int),0,⟨#[]⟩⟩) oQ);have Hc:w.heap.size<=A.heap.size:=O.1.size;have Ha:(l++[(⟨p,fl,(r:Int),0,⟨#[]⟩⟩:Lf)]).length<=20000:=by
       obtain⟨_,_,h⟩|⟨_,_,h⟩:=Q.out<;>omega
      obtain⟨c0,c1,c2,c3,c4,cf⟩:=X.p5;clear X I U G Z L Y E S Hd F B D C K z;go_wp2_with (at_builtin;refine Qac rfl _ _ _ _ rfl H (by rfl) (by rfl) rfl ?_;clear H);go_roundw;case rel=>exact⟨k+1,x1,false,Uq (Ub i),o,l++[⟨p,fl,(r:Int),0,⟨#[]⟩⟩],Hl,oN,rfl,rfl,oP,oM,Ha,Hc,Hb,O,W,Q⟩
      case measure=>exact oE
    ·have Hf:=hid Hg;clear Hg;have z:Bl W3 w4:=b4;clear b4;have X:=D.bw z (oH R);have I:(((w4.setCell (Ua w2.heap.size 2) (Ud 0)).setCell (Ua w2.heap.size 3) (Ud 0))).heap.size=w4.heap.size:=(by simp [UC]);have U:w4.grownBy ((w4.setCell (Ua w2.heap.size 2) (Ud 0)).setCell (Ua w2.heap.size 3) (Ud 0)) (Uq w2.heap.size):=⟨rfl,rfl,rfl,by simp [UC],fun j hj hne=>by
      have M:j≠w2.heap.size:=fun e=>hne (by rw [e]);exact(zH _ _ _ _ M).trans (zH _ _ _ _ M)⟩
     obtain⟨i,o,A,H,G,Z⟩:=Qep L (Ux hlo Hi) oM B HQ F hp _ (by rw [Hj.out];have:=R.out;rw [<- this];exact z) U I fl 0 0 ⟨#[]⟩;have Hb:Hid (LB A lo (Uf (Uc i) (l++[(⟨p,fl,0,0,⟨#[]⟩⟩:Lf)]).length o) (l++[⟨p,fl,0,0,⟨#[]⟩⟩])):=hid (by rw [Vg,Vp];exact G);have O:Hid (Gr w A (Uf oa0 acc.length oc0) (Uf (Uc i) (l++[(⟨p,fl,0,0,⟨#[]⟩⟩:Lf)]).length o)):=hid (by rw [Vg,Vp];exact Y.trans Z);have Q:Hid (LsI f n fl p acc x V (k+1) J false (l++[⟨p,fl,0,0,⟨#[]⟩⟩])):=hid (by
      refine .inr ⟨rfl,?_,?_⟩
      ·rw [E.1,K.out];show (QiG f n fl p J).bind _=_;unfold QiG;rw [Hf.out];rfl
      ·have h2:=E.2;simp only [Vg,Vp];omega)
     have W:=hid (He.snoc (y:=⟨p,fl,0,0,⟨#[]⟩⟩) oQ);have Hc:w.heap.size<=A.heap.size:=O.1.size;have Ha:(l++[(⟨p,fl,0,0,⟨#[]⟩⟩:Lf)]).length<=20000:=by
      obtain⟨_,_,h⟩|⟨_,_,h⟩:=Q.out<;>omega
     obtain⟨c0,c1,c2,c3,c4,cf⟩:=X.p5;clear X I U G Z L Y E S Hd F B D C K z;go_wp2_with (at_builtin;refine Qac rfl _ _ _ _ rfl H (by rfl) (by rfl) rfl ?_;clear H);go_roundw;case rel=>exact⟨k+1,J,false,Uq (Ub i),o,l++[⟨p,fl,0,0,⟨#[]⟩⟩],Hl,oN,rfl,rfl,oP,oM,Ha,Hc,Hb,O,W,Q⟩
     case measure=>exact oE
   ·obtain rfl:k=V:=oM;go_wp2_with fail;refine zF (v:=Ul #[Uf oa l.length oc,Ud (J:Int),Un true]) (by simp [results,results68,go_sem]) ?_;rw [<- HP.out];refine⟨_,l,J,true,rfl,Y,L,He,Hp,.inl ⟨rfl,?_,E.2⟩⟩;rw [E.1,YP];rfl
structure SpA (w:Ur)(a:Option Us)(n:Nat)(f:Nat ->Int)(x g:Nat)(p:List ByteArray)(vo:Value)(acc:List Lf)(lo:Nat):Prop where
 sg:Seg w a n f
 hx:x<=n
 gl:g<w.heap.size
 gc:∀t,t<p.length ->w.cell? (Ua g t)=Uq (Um (gS p t))
 go:vo.ownBlock≠Uq g
 ab:∀y,a=Uq y ->vo.ownBlock≠Uq y.block
 lb:LB w lo vo acc
 bd:LBd acc
 lo':lo<=w.heap.size
 ac:acc.length<=x
def TsI (R:Option (List Lf×Nat))(S:Nat ->List Lf ->Nat ->Option (List Lf×Nat))(n:Nat)(acc:List Lf)(x V k y:Nat)(ok:Bool)(l:List Lf):Prop:=
 (ok=true/\ R=S (V - k) l y/\ l.length+x<=acc.length+y) \/(ok=false/\ R=Up/\ l.length+x<=acc.length+n+1)
theorem QgI (a:Option Us)(n c:Nat)(f:Nat ->Int)(lo d:Nat)(p:List ByteArray)(hpd:p.length+d=8)(hn:n<=4000)(hnc:n<=c)(hf:Byt f)
  (hrec:p.length<8 ->∀(s:ByteArray) (x g pc:Nat) (z:Option Us) (o:Nat) (acc:List Lf) (W:Ur),SpA W a n f x g (p++[s]) (Uf z acc.length o) acc lo ->Cl 45 #[Uf a n c,Ud (x:Int),Uf (Uc g) (p.length+1) pc,Uf z acc.length o] W fun e w'=>LdP W lo (Uf z acc.length o) n x acc (QdD f n d (p++[s]) acc x) e w')
  (x g pc:Nat) (oa0:Option Us) (oc0:Nat) (acc:List Lf) (w:Ur) (hA:SpA w a n f x g p (Uf oa0 acc.length oc0) acc lo):
  Cl 45 #[Uf a n c,Ud (x:Int),Uf (Uc g) p.length pc,Uf oa0 acc.length oc0] w fun e w'=>LdP w lo (Uf oa0 acc.length oc0) n x acc (QdD f n (d+1) p acc x) e w':=by
 obtain⟨P,hP⟩:=zE (LdP w lo (Uf oa0 acc.length oc0) n x acc (QdD f n (d+1) p acc x));rw [hP];have HP:=hid hP;clear hP;obtain⟨R,hR⟩:=zE (QdD f n (d+1) p acc x);have HR:=hid hR;rw [hR] at HP;clear hR;have hx:=hA.hx;have HU:Hid (Cl 65 #[Uf a n c,Ud (x:Int),Ud 4000] w fun e w'=>Bl w w'/\∃(V y:Nat) (F:Bool),e=Ui (Ul #[Ud (V:Int),Ud (y:Int),Un F])/\ V<=4000/\ y<=n/\ (p.length<8 ->TsI R (QiY f n (QdD f n d) p) n acc x V 0 y F acc)):=hid (by
  refine(Qdb a n c x 4000 f w oM hf hA.sg hx oM oM).mono ?_;rintro e w' ⟨b,⟨V,x',r,L,h3,rfl⟩|⟨r,rfl⟩⟩
  ·refine⟨b,V,x',true,rfl,oM,h3,fun Hr=> .inl ⟨rfl,?_,?_⟩⟩
   ·rw [<- HR.out];unfold QdD;rw [r];simp only [YB];rw [if_neg oM];rfl
   ·have:=(Qe8 hf r).1;simp at this;omega
  ·refine⟨b,0,x,false,rfl,oM,hx,fun Hr=> .inr ⟨rfl,?_,oM⟩⟩;rw [<- HR.out];unfold QdD;rw [r];rfl)
 have Gm:=hA.ac;have Hv:=hid hrec;have HF:=hid hf;have i:=hid hA;have Gj:=hid hpd;obtain⟨m,hm⟩:=zE p.length;have M:=hid hm;rw [hm] at hpd ⊢;clear hrec hf hA hm;go_enter func45,ntmps45;go_wp2_with fail;refine HU.mono ?_;clear HU;rintro e w1 ⟨b1,V,y,F,rfl,hV,hy,B⟩;have HI:=hid B;have Hp:=hid b1;have z1:=b1.size;clear B b1;by_cases Gt:8<=m
 ·have X:Hid (R=Up):=hid (by
   have e:=M.out;rw [<- HR.out];unfold QdD;cases rd f n x 4000 with
   | none=>rfl
   | some u=>simp only [YB];rw [if_pos oM])
  have Hx:(8:Int)<=(m:Int):=oM;clear HI;go_wp2_with fail;refine zF (v:=Ul #[Uf oa0 acc.length oc0,Ud (x:Int),Un false]) (by simp [results,results45,go_sem]) ?_;rw [<- HP.out];exact⟨_,acc,x,false,rfl,Gr.of_below Hp,i.lb.bw Hp,i.bd,hx,.inr ⟨rfl,X,oM⟩⟩
 ·have Hx:¬(8:Int)<=(m:Int):=oM;have Hr:p.length<8:=oH M;have Gb:=hid (HI Hr);clear HI;go_wp2_with fail;go_loopw [3,12,13,14] (fun ov av kv iv wr=>∃(k y:Nat) (F:Bool) (z:Option Us) (o:Nat) (l:List Lf),k<=V/\ iv=Ud (k:Int)/\ av=Ud (y:Int)/\ kv=Un F/\ ov=Uf z l.length o/\ y<=n/\ w.heap.size<=wr.heap.size/\ Hid (LB wr lo (Uf z l.length o) l)/\ Hid (Gr w wr (Uf oa0 acc.length oc0) (Uf z l.length o))/\ Hid (LBd l)/\ Hid (TsI R (QiY f n (QdD f n d) p) n acc x V k y F l)) (fun _ _ _ iv _=>V - (intOf iv).toNat);case atStart=>exact⟨0,y,F,oa0,oc0,acc,Uv _,rfl,rfl,rfl,rfl,hy,z1,hid (i.lb.bw Hp),hid (Gr.of_below Hp),hid i.bd,Gb⟩
  case round=>
   obtain⟨k,U,Gh,z,o,l,Gq,rfl,rfl,rfl,rfl,Hy,Ga,Q,E,Z,B⟩:=hrel;cases Gh with
   | false=>
    go_wp2_with fail;refine zF (v:=Ul #[Uf z l.length o,Ud (U:Int),Un false]) (by simp [results,results45,go_sem]) ?_;rw [<- HP.out];obtain⟨h,_⟩|⟨_,r,L⟩:=B.out
    ·cases h
    ·exact⟨_,l,U,false,rfl,E,Q,Z,Hy,.inr ⟨rfl,r,L⟩⟩
   | true=>
    have G:Hid (R=QiY f n (QdD f n d) p (V - k) l U):=hid (by
     obtain⟨_,h,_⟩|⟨h,_⟩:=B.out
     ·exact h
     ·cases h)
    have Hk:l.length+x<=acc.length+U:=by
     obtain⟨_,_,h⟩|⟨h,_⟩:=B.out
     ·exact h
     ·cases h
    clear B;by_cases H8:k<V
    ·obtain⟨mm,H9⟩:∃mm,V - k=mm+1:=⟨V - k - 1,oM⟩;have Hu:=hid H9;clear H9;have K:Hid (∀W',Bl wr W' ->Seg W' a n f):=hid (fun W' b=>Seg.bw (Seg.keptR i.sg E.1 (fun y hy=>i.ab y hy)) b);have H5:=hid (QhR a n c U 40 f wr oM hnc HF (K wr zI) Hy oM oM);have I:Hid (∀W',Bl wr W' ->R=Up ->P (Ui (Ul #[Uf z l.length o,Ud (x:Int),Un false])) W'):=hid (fun W' b hN=>by
      rw [<- HP.out];exact⟨_,l,x,false,rfl,E.trans (Gr.of_below b),Q.bw b,Z,hx,.inr ⟨rfl,hN,oM⟩⟩)
     go_wp2_with fail;refine H5.mono ?_;clear H5;rintro e w2 ⟨b2,⟨s,A,H,Gg,Gv,Gu,rfl⟩|⟨H,kc,Go,Gp,rfl⟩⟩
     ·have HT:=hid H;have S:=hid b2;clear H b2;by_cases Hn:A<n
      ·obtain⟨kv,Hw⟩:=zE (f A);have Ha:Hid (R=(Qot f n (QdD f n d) p (s,kv) l (A+1)).bind fun b=>QiY f n (QdD f n d) p (V - (k+1)) b.1 b.2):=hid (by
        have e:=Hu.out;rw [G.out,e,show V - (k+1)=mm by omega];show (Qc4 f n U 40).bind _=_;rw [HT.out];simp only [YB];rw [if_pos Hn,Hw])
       have H7:=HF A;rw [Hw] at H7;obtain⟨Gk,Gl⟩:=H7;obtain⟨ab,ao,ha,Gd,H6⟩:=(K w2 S).resolve_left oM;subst ha;have cx:=H6 A Hn;rw [Hw] at cx;have i1:(0:Int)<=(A:Int):=UZ _;have i2:(A:Int)<(n:Int):=oM;have i3:¬(n:Int)<=(A:Int):=oM;have H4:=hid (QjW g m pc p w2 M oM (Ut (Ut i.gl Ga) S.size) (fun t H=>(S.cell (p:=(Ua g t)) (Ut i.gl Ga)).trans ((UB (a:=(Ua g t)) (E.1.block g i.gl (fun e=>i.go e.symm))).trans (i.gc t (oH M)))));clear H6 Gd;go_wp2_with fail;clear cx;refine H4.mono ?_;clear H4;rintro e w3 ⟨q,cap,rfl,b3,hq,ho⟩;have H3:=hid (Qaa S b3);have Gw:=S.size;have Gx:=b3.size;have He:(w3.alloc (Uj #[Um s] 9)).cell? (Ub w3.heap.size)=Uq (Um s):=oP;obtain⟨q2,Hi,w4,D,Hq,gq,Ge⟩:=Qkw (p:=p) (by rw [M.out];exact World.ownsRow.alloc ho _) oS oM s w3.heap.size He;rw [M.out] at D Hq;have T:Hid (Bl wr w4):=hid (by
        have Y:=H3.alloc H3.size (Uj #[Um s] 9);exact Y.grown gq Y.size (fun j e=>by
         have:q=j:=(by simpa [Value.ownBlock] using e);omega))
       obtain⟨Hm,_⟩:=Qez Hq (by simp;exact M);have Hh:Hid (SpA w4 (Uq (Ua ab ao)) n f (A+1) q2 (p++[s]) (Uf z l.length o) l lo):=hid (by
        have Gf:=World.ownsRow.lt Hq q2 rfl;refine⟨K w4 T,Hn,Gf.2,fun t H=> ?_,fun e=> ?_,fun y hy e=> ?_,Q.bw T,Z,?_,oM⟩
        ·rcases Hm with ⟨h,_⟩|⟨g',c',r,L,h3⟩
         ·cases h
         ·injection r with Y e2 e3;injection Y with Y;injection Y with Y;subst Y;exact h3 t H
        ·have:=(Q.lt q2 e).2;omega
        ·rcases E.2 with h|⟨u,r,L⟩
         ·exact i.ab y hy (h.symm.trans e)
         ·rw [r] at e;injection e with e;have:=i.sg;rcases this with h0|⟨b',o',e',Gn,_⟩
          ·omega
          ·rw [hy] at e';injection e' with e';subst e';simp at e;omega
        ·have:=i.lo';have:=T.size;omega)
       have Gc:=hid Hk;clear ho Hq b3 Hm gq He Ge;by_cases Hj:kv=3
       ·subst Hj;have N:=hid (Hv Hr s (A+1) q2 Hi z o l w4 Hh);have J:Hid (R=(QdD f n d (p++[s]) l (A+1)).bind fun b=>QiY f n (QdD f n d) p (V - (k+1)) b.1 b.2):=hid (by rw [Ha.out];rfl);rw [M.out] at N;go_wp2_with (at_builtin;refine Qac rfl _ _ _ _ rfl D (by rfl) (by rfl) rfl ?_;clear D);refine N.mono ?_;clear N;rintro e w5 ⟨Gi,l',y',Ho,rfl,Hc,C,Hb,Hz,Hl⟩;obtain⟨H1,H2,rfl⟩:=C.form;have Hg:=hid (E.trans ((Gr.of_below T).trans Hc));have Ht:=hid C;have Hf:=hid Hb;have Hs:Hid (TsI R (QiY f n (QdD f n d) p) n acc x V (k+1) y' Ho l'):=hid (by
         rcases Hl with ⟨rfl,r,L⟩|⟨rfl,r,L⟩
         ·exact .inl ⟨rfl,by rw [J.out,r];rfl,oM⟩
         ·exact .inr ⟨rfl,by rw [J.out,r];rfl,oM⟩)
        have H0:w.heap.size<=w5.heap.size:=Hg.1.size;clear Hc C Hb Hl Q E Z G K I Hh Ha J;go_wp2_with fail;go_roundw;case rel=>exact⟨k+1,y',Ho,H1,H2,l',H8,oN,rfl,rfl,rfl,Hz,H0,Ht,Hg,Hf,Hs⟩
        case measure=>exact oE
       ·by_cases Hd:kv=1 \/kv=2
        ·have O:=Hh.out;have J:Hid (R=(Ql3 f n (decide (kv=2)) (p++[s]) l (A+1)).bind fun b=>QiY f n (QdD f n d) p (V - (k+1)) b.1 b.2):=hid (by
          rw [Ha.out];unfold Qot Ql3;rw [if_neg Hj,if_pos Hd])
         have N:=hid (QfB (Uq (Ua ab ao)) n c (A+1) f q2 (m+1) Hi (p++[s]) (decide (kv=2)) z o l lo w4 hn hnc HF O.sg O.hx (by have:=M.out;simp;omega) oM O.gl (fun t H=>O.gc t (by have:=M.out;simp;omega)) O.go O.ab O.lb O.bd O.lo' oM);clear O Hj;rcases Hd with rfl|rfl;all_goals
          simp only [show decide ((1:Int)=2)=false from rfl,show decide ((2:Int)=2)=true from rfl] at N J
          go_wp2_with (at_builtin;refine Qac rfl _ _ _ _ rfl D (by rfl) (by rfl) rfl ?_;clear D)
          refine N.mono ?_
          clear N
          rintro e w5 ⟨Gi,l',y',Ho,rfl,Hc,C,Hb,Hz,Hl⟩
          obtain⟨H1,H2,rfl⟩:=C.form
          have Hg:=hid (E.trans ((Gr.of_below T).trans Hc))
          have Ht:=hid C
          have Hf:=hid Hb
          have Hs:Hid (TsI R (QiY f n (QdD f n d) p) n acc x V (k+1) y' Ho l'):=hid (by
           rcases Hl with ⟨rfl,r,L⟩|⟨rfl,r,L⟩
           ·exact .inl ⟨rfl,by rw [J.out,r];rfl,oM⟩
           ·exact .inr ⟨rfl,by rw [J.out,r];rfl,oM⟩)
          have H0:w.heap.size<=w5.heap.size:=Hg.1.size
          clear Hc C Hb Hl Q E Z G K I Hh Ha J
          go_wp2_with fail
          go_roundw
          case rel=>exact⟨k+1,y',Ho,H1,H2,l',H8,oN,rfl,rfl,rfl,Hz,H0,Ht,Hg,Hf,Hs⟩
          case measure=>exact oE
        ·have X:=hid (I w4 T (by
          rw [Ha.out];unfold Qot;rw [if_neg Hj,if_neg Hd];rfl))
         have Y:(kv==1)=false:=oS;have e2:(kv==2)=false:=oS;have e3:(kv==3)=false:=oS;clear Hj Hd Q E Z G K I Hh Ha;go_wp2_with (at_builtin;refine Qac rfl _ _ _ _ rfl D (by rfl) (by rfl) rfl ?_;clear D);exact bodyPost_ret (v:=Ul #[Uf z l.length o,Ud (x:Int),Un false]) (by simp [results,results45,go_sem]) rfl X
      ·have i3:(n:Int)<=(A:Int):=oM;have X:=hid (I w2 S (by
        have e:=Hu.out;rw [G.out,e];show (Qc4 f n U 40).bind _=_;rw [HT.out];simp only [YB];rw [if_neg Hn]))
       clear Q E Z G K I Hn;go_wp2_with fail;exact bodyPost_ret (v:=Ul #[Uf z l.length o,Ud (x:Int),Un false]) (by simp [results,results45,go_sem]) rfl X
     ·have Gs:((kc:Int)==0)=false:=oS;have X:=hid (I w2 b2 (by
       have e:=Hu.out;rw [G.out,e];show (Qc4 f n U 40).bind _=_;rw [H];rfl))
      clear Q E Z G K I H b2;go_wp2_with fail;exact bodyPost_ret (v:=Ul #[Uf z l.length o,Ud (x:Int),Un false]) (by simp [results,results45,go_sem]) rfl X
    ·obtain rfl:k=V:=oM;go_wp2_with fail;refine zF (v:=Ul #[Uf z l.length o,Ud (U:Int),Un true]) (by simp [results,results45,go_sem]) ?_;rw [<- HP.out];refine⟨_,l,U,true,rfl,E,Q,Z,Hy,.inl ⟨rfl,?_,Hk⟩⟩;rw [G.out,YP];rfl
theorem Qen (a:Option Us)(n c:Nat)(f:Nat ->Int)(lo:Nat)(hn:n<=4000)(hnc:n<=c)(hf:Byt f):
  ∀(d:Nat) (p:List ByteArray),p.length+d=8 ->∀(x g pc:Nat) (oa:Option Us) (oc:Nat) (acc:List Lf) (w:Ur),SpA w a n f x g p (Uf oa acc.length oc) acc lo ->
  Cl 45 #[Uf a n c,Ud (x:Int),Uf (Uc g) p.length pc,Uf oa acc.length oc] w fun e w'=>LdP w lo (Uf oa acc.length oc) n x acc (QdD f n (d+1) p acc x) e w'
 | 0,p,hp,x,g,pc,oa,oc,acc,w,hA=>QgI a n c f lo 0 p hp hn hnc hf (fun h=>absurd h oM) x g pc oa oc acc w hA
 | d+1,p,hp,x,g,pc,oa,oc,acc,w,hA=>QgI a n c f lo (d+1) p hp hn hnc hf (fun h s x' g' pc' oa' oc' acc' W hA'=>by
   have:=Qen a n c f lo hn hnc hf d (p++[s]) oS x' g' pc' oa' oc' acc' W hA';rw [show (p++[s]).length=p.length+1 by simp] at this;exact this) x g pc oa oc acc w hA
def SgP (f:Nat ->Int)(n:Nat)(w:Ur)(e:Ending)(w':Ur):Prop:=Bl w w'/\
 ((∃(rl:List Rn) (l:List Lf) (va:Option Us) (vc:Nat) (xa:Option Us) (xc:Nat),gsS f n=Uq (rl,l)/\ e=Ui (Ul #[Uo #[Uf va l.length vc,Uf xa rl.length xc],Ud 0])/\ LB w' (w.heap.size+1) (Uf va l.length vc) l/\ FR w' (w.heap.size+1) (Uf xa rl.length xc) rl/\ l.length<=5000/\ LBd l/\ rl.length<=8000) \/
  (gsS f n=Up/\ e=Ui (Ul #[Uo #[Ue,Ue],Ud 1])))
theorem QlM (a:Option Us)(n c:Nat)(f:Nat ->Int)(w:Ur)(hn:n<=9223372036854775807)(hnc:n<=c)(hf:Byt f)(hs:Seg w a n f)(hab:∀y,a=Uq y ->y.block<w.heap.size):
  Cl 25 #[Uf a n c] w fun e w'=>SgP f n w e w':=by
 obtain⟨P,hP⟩:=zE (SgP f n w);rw [hP];have HP:=hid hP;clear hP;obtain⟨W,F⟩:=zE (w.alloc (Uj #[Ue,Ue] 40));have X:Bl w W:=F▸zO _ _;have zW:W.heap.size=w.heap.size+1:=F▸oP;have xW:Bx2 W w.heap.size Ue Ue:=F▸Bx2.made w _ _ _;have Ha:Hid (∀(v:Ur),Bl w v ->gsS f n=Up ->v.cell? (Ub w.heap.size)=Uq Ue ->v.cell? (Ua w.heap.size 1)=Uq Ue ->(∀i,v.frozen? (Ua w.heap.size i)=false) ->∃Z,Z=(v.setCell (Ub w.heap.size) Ue).setCell (Ua w.heap.size 1) Ue/\ Z.cell? (Ub w.heap.size)=Uq Ue/\ Z.cell? (Ua w.heap.size 1)=Uq Ue/\ P (Ui (Ul #[Uo #[Ue,Ue],Ud 1])) Z):=hid (fun v b hN V I cf=>by
  have Gw:w.heap.size<v.heap.size:=block_lt_of_cell V;obtain⟨Z,C,h2,h3,h4⟩:=Bx2.fill (v:=v) (b:=w.heap.size) ⟨V,I,cf,Gw⟩ Ue Ue;refine⟨Z,C,h2,h3,?_⟩;rw [<- HP.out];exact⟨b.grown h4 b.size (fun k e=>oI e),.inr ⟨hN,rfl⟩⟩)
 by_cases h4:4000<n
 ·have HN:Hid (gsS f n=Up):=hid (if_pos h4);have Gt:(4000:Int)<(n:Int):=oM;obtain⟨V,I,cf⟩:=xW.p2;obtain⟨Z,u,q0,T,z⟩:=Ha W X HN V I cf;have E:=hid u;have A:=hid z;clear hs hf X zW xW Ha u z;go_enter func25,ntmps25;go_wp2_with fail;try rw [F]
  rw [<- E.out];exact bodyPost_ret (v:=Ul #[Uo #[Ue,Ue],Ud 1]) (by simp [results,results25,go_sem,q0,T]) rfl A
 ·replace hn:n<=1048576:=oM
  have Gt:¬(4000:Int)<(n:Int):=oM;have H7:=hid (QnB a n c 0 f W hn hf (hs.bw X) (Uv _));have HF:=hid hf;have H9:=hid (hs.bw X);have Hx:=hid hab;have HX:=hid xW;have Hh:=hid X;have Gc:=hid zW;clear hf hs xW X zW hab;go_enter func25,ntmps25;go_wp2_with fail;try rw [F]
  clear F;refine H7.mono ?_;clear H7;rintro e w1 ⟨b1,⟨m,J,v1,Y,Gz,rfl,Hk,Gx⟩|⟨Y,ya,nv,cv,y,rfl⟩⟩
  ·obtain⟨o,s,rfl,_⟩:=Hk.fs;obtain⟨r,He⟩:=zE (w1.alloc (Uj #[Uf o m.length s] 38));have L:Bl w1 r:=He▸zO _ _;have z2:r.heap.size=w1.heap.size+1:=He▸oP;have c2:r.cell? (Ub w1.heap.size)=Uq (Uf o m.length s):=He▸oP;obtain⟨U,Hf⟩:=zE ((r.alloc (Uj #[] 9)).alloc (Uj #[] 117));have b3:Bl r U:=Hf▸Qak _ _ _;have z3:U.heap.size=r.heap.size+1+1:=Hf▸oP;have Hd:=Qaa b1 (Qaa L b3);have G2:=Gc.out;have G1:=b1.size;have L3:LB U (w.heap.size+1) (Uf (Uq (Ua (r.heap.size+1) 0)) 0 0) []:=by
    refine⟨fun _=>0,fun _=>0,⟨?_,fun i hi=>by simp at hi⟩,fun i j hi=>by simp at hi⟩;have:=VD (base:=w.heap.size+1) (e:=117) (size:=5) (r.alloc (Uj #[] 9)) #[] 0 oS oL rfl;rw [Hf] at this;simpa using this
   have Hc:Hid (SpA U a n f J r.heap.size [] (Uf (Uq (Ua (r.heap.size+1) 0)) 0 0) [] (w.heap.size+1)):=hid (by
    refine⟨H9.bw Hd,Gz,oM,fun t ht=>by simp at ht,fun e=> ?_,fun y hy e=> ?_,L3,fun i=> ?_,oM,Uv _⟩
    ·have e:(Uq (r.heap.size+1):Option Nat)=Uq r.heap.size:=e;injection e with e;omega
    ·have e:(Uq (r.heap.size+1):Option Nat)=Uq y.block:=e;injection e with e;have:=Hx y hy;omega
    ·simp [gL,UR])
   have Ga:Hid (Cl 45 #[Uf a n c,Ud (J:Int),Uf (Uc r.heap.size) 0 0,Uf (Uq (Ua (r.heap.size+1) 0)) 0 0] U fun e w'=>LdP U (w.heap.size+1) (Uf (Uq (Ua (r.heap.size+1) 0)) 0 0) n J [] (QdD f n 9 [] [] J) e w'):=
    hid (Qen a n c f (w.heap.size+1) oM hnc HF 8 [] rfl J r.heap.size 0 (Uq (Ua (r.heap.size+1) 0)) 0 [] U Hc)
   have Gm:=hid Y;have Hy:=hid (Hh.trans (Hd.mono Hh.size));have Hj:=hid (HX.bw Hd HX.lt);have Go:=hid ((Hk.bw L).bw b3);have Gn:Hid (∀g,(Value.slice o m.length s).ownBlock=Uq g ->w.heap.size+1<=g/\ g<w1.heap.size):=hid (fun g hg=>oH (World.ownsRow.lt Hk g hg));have Gl:=hid ((b3.cell (p:=(Ub w1.heap.size)) (show w1.heap.size<r.heap.size by omega)).trans c2);have Gs:Hid (w.heap.size+1<=w1.heap.size/\ r.heap.size=w1.heap.size+1/\ U.heap.size=r.heap.size+1+1):=hid ⟨oM,z2,z3⟩;have Gj:=hid Hd;clear b1 L b3 Hd Hk Y L3 HX Hc z2 z3 G1 G2 c2;go_wp2_with fail;try rw [He]
   try rw [Hf]
   clear He Hf;refine Ga.mono ?_;clear Ga;rintro e w4 ⟨vo,l,y,ok,rfl,D,Hq,Hp,hy,Y⟩;obtain⟨va,vc,rfl⟩:=Hq.form;have G3:=Gs.out;have Ht:l.length<=5000:=(by rcases Y with ⟨_,_,h⟩|⟨_,_,h⟩<;>simp at h<;>omega);have Hb:(Value.slice (Uq (Ua (r.heap.size+1) 0)) 0 0).ownBlock=Uq (r.heap.size+1):=rfl;have Ho:∀k,k<U.heap.size ->k≠r.heap.size+1 ->w4.heap[k]? =U.heap[k]? :=fun k C h2=>D.1.block k C (fun e=>h2 (by rw [Hb] at e;injection e));have Hz:Hid (Bl w w4):=hid (Hy.grown D.1 Hy.size (fun k e=>by rw [Hb] at e;injection e with e;omega));obtain⟨W5,Hl⟩:=zE (w4.alloc (Uj #[Uf va l.length vc,Uf o m.length s] 40));have N:Bl w4 W5:=Hl▸zO _ _;have X5:Bx2 W5 w4.heap.size (Uf va l.length vc) (Uf o m.length s):=Hl▸Bx2.made w4 _ _ _;have R4:Bx2 w4 w.heap.size Ue Ue:=by
    have e:=Ho w.heap.size oM oM;exact⟨(UB (a:=(Ub w.heap.size)) e).trans Hj.c0,(UB (a:=(Ua w.heap.size 1)) e).trans Hj.c1,fun i=>(Ys (a:=(Ua w.heap.size i)) e).trans (Hj.f i),Ut Hj.lt D.1.size⟩
   have H6:=hid (R4.bw N R4.lt);have Gu:w4.cell? (Ub w1.heap.size)=Uq (Uf o m.length s):=(UB (a:=(Ub w1.heap.size)) (Ho w1.heap.size oM oM)).trans Gl;have Ge:FR w4 (w.heap.size+1) (Uf o m.length s) m:=by
    have C:=World.ownsRow.kept Go D.1 (by
     cases e:(Value.slice o m.length s).ownBlock with
     | none=>exact .inl rfl
     | some g=>exact .inr (fun B=>by have:=(Gn g e).2;rw [Hb] at B;injection B with B;omega))
    exact FR.weak C (oH Gc)
   have H1:=hid (Ge.bw N);have H3:=hid (Hq.bw N);have H0:=hid (Hz.trans (N.mono Hz.size));have Gr:Hid (Seg W5 a n f):=hid (Seg.bw (Seg.keptR (row:=Uq (r.heap.size+1)) (H9.bw Gj) (Hb▸D.1) (fun y hy e=>by injection e with e;have:=Hx y hy;omega)) N);obtain⟨T,q2,q3,q4⟩:=H3.caps;obtain⟨G6,G7,ex,Gd,_,_⟩:=H1.fs;have H4:=hid (QdA va vc l o m.length s (lR m) (lF m) (lT m) W5 q3 q4 oM Hp oM T q2 (by injection ex with e1 B e3;subst e1;exact Gd.rseg));have Gk:=hid Hp;have H8:=hid Y;obtain⟨x0,Hg⟩:=X5.q2;have Gb:=hid X5;clear Y D Hq Hp Ho R4 Ge N T q2 q3 q4 ex Gd X5 Hb;go_wp2_with fail;try rw [Hl]
   clear Hl Gu;refine H4.mono ?_;clear H4;rintro e w6 ⟨v6,zs,k,rfl,z,R,M⟩;obtain⟨oa,oc,rfl,S⟩:=R.any;have Q:=H6.bw M H6.lt;have Hm:=hid (H0.trans (M.mono H0.size));obtain⟨V,I,cf⟩:=Q.p2;have Gq:=hid Q;have Hi:Hid (gsS f n=Up ->∃Z,Z=(w6.setCell (Ub w.heap.size) Ue).setCell (Ua w.heap.size 1) Ue/\ Z.cell? (Ub w.heap.size)=Uq Ue/\ Z.cell? (Ua w.heap.size 1)=Uq Ue/\ P (Ui (Ul #[Uo #[Ue,Ue],Ud 1])) Z):=hid (fun h=>Ha.out w6 Hm h Q.c0 Q.c1 Q.f);have H5:=hid z;have Hc:Hid (gsS f n=(QdD f n 9 [] [] J).bind fun b=>if yes (b.2=n/\ (psZ (lR m) (lF m) (lT m) m.length b.1).2=0/\ Qby (fun i=>(psZ (lR m) (lF m) (lT m) m.length b.1).1.getD i 0) 0 (psZ (lR m) (lF m) (lT m) m.length b.1).1.length=Qby f 0 n)=true then Uq (m,b.1) else Up):=hid (by
    unfold gsS;rw [if_neg h4,Gm.out];rfl)
   cases ok with
   | false=>
    obtain⟨Z,u,G,H,O⟩:=Hi (by
     rw [Hc.out];rcases H8.out with ⟨h,_⟩|⟨_,h,_⟩
     ·cases h
     ·rw [h];rfl)
    have E:=hid u;have A:=hid O;clear u O Q S R M z x0 Hg;go_wp2_with fail;rw [<- E.out];exact bodyPost_ret (v:=Ul #[Uo #[Ue,Ue],Ud 1]) (by simp [results,results25,go_sem,G,H]) rfl A
   | true=>
    have HT:Hid (QdD f n 9 [] [] J=Uq (l,y)):=hid (by
     rcases H8.out with ⟨_,h,_⟩|⟨h,_⟩
     ·exact h
     ·cases h)
    have K:Hid (gsS f n=if yes (y=n/\ k=0/\ Qby (fun i=>zs.getD i 0) 0 zs.length=Qby f 0 n)=true then Uq (m,l) else Up):=hid (by
     rw [Hc.out,HT.out];simp only [YB];rw [H5.out])
    by_cases Hv:y=n
    ·have Hw:n=y:=Hv.symm;subst Hw;by_cases Gg:k=0
     ·subst Gg;have Gf:Byt (fun i=>zs.getD i 0):=by
       have:=(QpC (lR m) (lF m) (lT m) m.length l).byt;rw [H5.out] at this;exact this
      have Hr:=QmR S Gf oc;have Hs:=QmR (Gr.bw M) HF c;obtain⟨s1,Gh⟩:=zE (Qby (fun i=>zs.getD i 0) 0 zs.length);obtain⟨s2,Gi⟩:=zE (Qby f 0 n);rw [Gh] at Hr K;rw [Gi] at Hs K;clear Gh Gi Gf;by_cases Hu:s1=s2
      ·subst Hu;have Gy:(s1.toList==s1.toList)=true:=oP;have HY:Hid (gsS f n=Uq (m,l)):=hid (by rw [K.out,Qal ⟨rfl,rfl,rfl⟩];rfl);have X6:=Gb.bw M Gb.lt;obtain⟨G4,G5⟩:=X6.q2;have Gp:=hid (H3.bw M);have H2:=hid (H1.bw M);clear Q S R M z x0 Hg X6;go_wp2_with fail;obtain⟨Z,u,G,H,gZ⟩:=Gq.fill (Uf va l.length vc) (Uf o m.length s);rw [<- u];clear u;refine zF (v:=Ul #[Uo #[Uf va l.length vc,Uf o m.length s],Ud 0]) (by simp [results,results25,go_sem,G,H]) ?_;rw [<- HP.out];refine⟨Hm.grown gZ Hm.size (fun k e=>oI e),.inl ⟨m,l,va,vc,o,s,HY,rfl,Gp.move gZ.size (fun q C h2=>gZ.block q h2 (fun e=>oI e)),QaO H2 (fun g hg=> ?_),Ht,Gk,Gx⟩⟩;have Gv:=World.ownsRow.lt H2 g hg;exact gZ.block g Gv.2 (fun e=>oI e)
      ·have Gy:(s1.toList==s2.toList)=false:=by
        rw [beq_eq_false_iff_ne];intro e;rw [ByteArray.toList_eq,ByteArray.toList_eq] at e;have B:s1.data=s2.data:=Array.toList_inj.1 e;obtain⟨d1⟩:=s1;obtain⟨d2⟩:=s2;exact Hu (by rw [show d1=d2 from B])
       obtain⟨Z,u,G,H,O⟩:=Hi (by rw [K.out,Qaj (fun h=>Hu h.2.2)];rfl);have E:=hid u;have A:=hid O;clear u O Q S R M z x0 Hg;go_wp2_with fail;rw [<- E.out];exact bodyPost_ret (v:=Ul #[Uo #[Ue,Ue],Ud 1]) (by simp [results,results25,go_sem,G,H]) rfl A
     ·obtain⟨Z,u,G,H,O⟩:=Hi (by rw [K.out,Qaj (fun h=>Gg h.2.1)];rfl);have E:=hid u;have A:=hid O;clear u O Q S R M z x0 Hg;go_wp2_with fail;rw [<- E.out];exact bodyPost_ret (v:=Ul #[Uo #[Ue,Ue],Ud 1]) (by simp [results,results25,go_sem,G,H]) rfl A
    ·have G0:¬(y:Int)=(n:Int):=oM;obtain⟨Z,u,G,H,O⟩:=Hi (by rw [K.out,Qaj (fun h=>Hv h.1)];rfl);have E:=hid u;have A:=hid O;clear u O Q S R M z x0 Hg Hv;go_wp2_with fail;rw [<- E.out];exact bodyPost_ret (v:=Ul #[Uo #[Ue,Ue],Ud 1]) (by simp [results,results25,go_sem,G,H]) rfl A
  ·have HN:Hid (gsS f n=Up):=hid (by unfold gsS;rw [if_neg h4,Y];rfl);have L:Bl w1 (w1.alloc (Uj #[Uf ya nv cv] 38)):=zO _ _;have Hn:=Qaa b1 L;have X2:=HX.bw Hn HX.lt;obtain⟨Z,u,q0,T,z⟩:=Ha _ (Hh.trans (Hn.mono Hh.size)) HN X2.c0 X2.c1 X2.f;obtain⟨V,I,cf⟩:=X2.p2;have E:=hid u;have A:=hid z;clear b1 L Hn X2 Ha u z Y;go_wp2_with fail;rw [<- E.out];exact bodyPost_ret (v:=Ul #[Uo #[Ue,Ue],Ud 1]) (by simp [results,results25,go_sem,q0,T]) rfl A
theorem Qm3(hf:Byt f){g:List (Int×List (Int×Int))}(h:gsR f n=Uq (g,J)):Qcn (lR (Qau g)) (lF (Qau g)) (lT (Qau g)) (Qau g).length J:=by
 unfold gsR at h;by_cases m:4000<n
 ·rw [if_pos m] at h;cases h
 ·rw [if_neg m] at h;obtain⟨a,q,h⟩:=Qab.1 h;obtain⟨b,j,h⟩:=Qab.1 h;split at h
  ·cases h
  ·simp only [Option.some.injEq,Prod.mk.injEq] at h;obtain⟨rfl,rfl⟩:=h;obtain⟨g,i⟩:=a;obtain⟨J,x'⟩:=b;simp only at j ⊢;rw [show ((0:Int))=((0:Nat):Int) from rfl,QfM] at q;obtain⟨r,t,o,u⟩:=(Qcj hf (Uv _)).1 q;obtain⟨k,v,y,z⟩:=Qcw r;rw [Qnv r] at j;obtain⟨⟨v1,v2,v3⟩,_⟩:=(Qd1 hf (Qno k)).1 ⟨j,u⟩;exact⟨k,v3,v1,v2⟩
noncomputable def gsX (f:Nat ->Int)(n:Nat):Sx:=match gsS f n with
 | none=>⟨[],0,fun _=>0,fun _=>0,fun _=>0⟩
 | some r=>⟨r.2,r.1.length,lR r.1,lF r.1,lT r.1⟩
noncomputable def gsK (f:Nat ->Int)(n:Nat):Int:=match gsS f n with
 | none=>1
 | some _=>0
theorem QgQ (t e:TypeId)(i:TypeInfo)(z:Value)(size bytes:Nat)(ht:prog.underlying t=Uq (.slice e))(hi:prog.info? e=Uq i)(hz:i.zero=Uq z)(hsize:i.size=size)(hby:i.bytes=bytes)(hzs:z.cells.size=size)(hsz:0<size)(hb2:bytes<=64)(g off m c:Nat)(C:Nat ->Value)(w:Ur)(hm:m<=1048576)(hC:∀j,j<m*size ->w.cell? (Ua g (off+j))=Uq (C j))(h1:∀j,j<m*size ->(C j).oneCell'=true):
  ∃a cap w',(Builtin.append_ #[t,t] t #[Ue,Uf (Uq (Ua g off)) m c]).run prog w=.ok (Uf a m cap) w'/\ w'.ownsRow w.heap.size e size (Uf a m cap) m ((UT (m*size)).map C)/\ Bl w w'/\ (m=0 ->a=Up/\ cap=0)/\ (0<m ->∃q,a=Uq (Ub q)/\ w.heap.size<=q/\ q<w'.heap.size/\ Wr w' q e (m*size) C):=by
 obtain⟨v',w',E,o,O,Q,Z⟩:=run_append_own_at (P:=prog) w w.heap.size t t e i z size bytes ht hi hz hsize hby hzs hsz Ue 0 [] (World.ownsRow_nil _ _ _ _) (Ua g off) m c ((UT (m*size)).map C) oP (fun j u v=>by
  simp only [List.getElem?_map,Option.map_eq_some_iff] at v;obtain⟨q,r,rfl⟩:=v;have A:j<m*size:=by
   rcases Nat.lt_or_ge j (m*size) with h|h
   ·exact h
   ·rw [US (oW h)] at r;cases r
  rw [YU A] at r;have r:=Option.some.inj r;rw [<- r,Qbq];exact hC j A) (fun u hu=>by
  obtain⟨j,v,rfl⟩:=List.mem_map.1 hu;exact h1 j (oW v)) oL (by
   have:m*bytes<=1048576*64:=Nat.mul_le_mul hm hb2;rw [Uw];omega) zL
 rw [Uw,VI] at o;have s:Bl w w':=zI.grown O zL (fun k e=>by simp [Value.ownBlock] at e);by_cases y:m=0
 ·have Y:v'=Ue:=Q.2 ⟨rfl,y⟩;subst Y;subst y;exact⟨Up,0,w',E,o,s,fun _=>⟨rfl,rfl⟩,fun h=>oM⟩
 ·rcases o.2 with ⟨_,V⟩|⟨q,cap,b,rfl,U,r,I,H,G,M⟩
  ·exact absurd V y
  ·refine⟨_,cap,w',E,o,s,fun h=>absurd h y,fun _=>⟨q,rfl,U,(Array.getElem?_eq_some_iff.1 r).1,b,r,?_,fun j v=> ?_⟩⟩
   ·have:=congrArg JD M;simp at this;omega
   ·have p:(b.toList.take (m*size))[j]? =((UT (m*size)).map C)[j]? :=(by rw [M]);rw [List.getElem?_take_of_lt v] at p;rw [<- Array.getElem?_toList,p];simp [YU v]
theorem Qle (g off m c:Nat)(p:List ByteArray)(w:Ur)(hp:p.length=m)(hm:m<=1048576)(h:∀t,t<m ->w.cell? (Ua g (off+t))=Uq (Um (gS p t))):
  Cl 79 #[Uf (Uq (Ua g off)) m c] w fun e w'=>∃a cap,e=Ui (Uf a m cap)/\ Bl w w'/\ (0<m ->∃q,a=Uq (Ub q)/\ w.heap.size<=q/\ q<w'.heap.size/\ Wr w' q 9 m (fun t=> Um (gS p t))):=by
 obtain⟨b,hi,z,o,i⟩:=info_parts QcC;obtain⟨a,cap,w',r,_,u,_,k⟩:=QgQ 90 9 b _ 1 16 underlying90 hi z o i rfl oD oM g off m c (fun t=> Um (gS p t)) w hm (fun j hj=>h j oM) (fun _ _=>rfl);rw [Nat.mul_one] at k;have v:=hid u;have y:=hid k;clear u k h;go_enter func79,ntmps79;go_wp2_with (at_builtin;refine Qac rfl _ _ _ _ rfl r (by rfl) (by rfl) rfl ?_;clear r);go_ret;exact⟨a,cap,rfl,v,y⟩
theorem QpI(h:Wr w q 123 (n*3) (fun j=>if j%3=0 then Ud (R (j/3)) else if j%3=1 then Ud (F (j/3)) else Ud (T (j/3)))):QaD w (Uc q) n R F T:=by
 refine .inr ⟨q,0,rfl,h.lt,fun i hi=> ?_⟩;have k:=h.cell (i:=i*3) oM;have m:=h.cell (i:=i*3+1) oM;have r:=h.cell (i:=i*3+2) oM;rw [if_pos oM,show i*3/3=i by omega] at k;rw [if_neg oM,if_pos oM,show (i*3+1)/3=i by omega] at m;rw [if_neg oM,if_neg oM,show (i*3+2)/3=i by omega] at r;exact⟨oW k,by simpa using m,oW r⟩
theorem Qld (g n c:Nat)(R F T:Nat ->Int)(w:Ur)(hn:n<=1048576)(h:QaD w (Uc g) n R F T):
  Cl 80 #[Uf (Uc g) n c] w fun e w'=>∃x d,e=Ui (Uf x n d)/\ Bl w w'/\ QaD w' x n R F T/\ (n=0 \/∃q ys,x=Uq (Ub q)/\ q<w'.heap.size/\ w'.ownsRow w.heap.size 123 3 (Uf (Uc q) n d) n ys):=by
 obtain⟨Z,hi,U,V,Y⟩:=info_parts Tryz.infoRun;obtain⟨a,cap,w',t,i,o,_,p⟩:=QgQ 36 123 Z _ 3 24 underlying36 hi U V Y rfl oD oM g 0 n c (fun j=>if j%3=0 then Ud (R (j/3)) else if j%3=1 then Ud (F (j/3)) else Ud (T (j/3))) w hn (fun j hj=>by
  obtain⟨b,off,e,_,u,v,y⟩:=h.at (k:=j/3) oM;have E:g=b:=congrArg Addr.block (Option.some.inj e);have M:0=off:=congrArg Addr.off (Option.some.inj e);rw [<- E,<- M] at u v y;by_cases m:j%3=0
  ·rw [if_pos m];rw [show 0+j=0+j/3*3 by omega];exact u
  ·by_cases s:j%3=1
   ·rw [if_neg m,if_pos s];rw [show 0+j=0+j/3*3+1 by omega];exact v
   ·rw [if_neg m,if_neg s];rw [show 0+j=0+j/3*3+2 by omega];exact y) (fun j _=>by split;rfl;split<;>rfl)
 have A:=hid o;have r:Hid (QaD w' a n R F T/\ (n=0 \/∃q ys,a=Uq (Ub q)/\ q<w'.heap.size/\ w'.ownsRow w.heap.size 123 3 (Uf (Uc q) n cap) n ys)):=hid (by
  by_cases z:n=0
  ·exact⟨.inl z,.inl z⟩
  ·obtain⟨q,rfl,G,O,Q⟩:=p oM;exact⟨QpI Q,.inr ⟨q,_,rfl,O,i⟩⟩)
 clear o p h i;go_enter func80,ntmps80;go_wp2_with (at_builtin;refine Qac rfl _ _ _ _ rfl t (by rfl) (by rfl) rfl ?_;clear t);go_ret;exact⟨a,cap,rfl,A,r.1,r.2⟩
def lCl (l:List Lf)(A:Nat ->Nat)(j:Nat):Value:=
 if j%5=0 then Uf (Uq ⟨A (j/5),0,Up⟩) (gL l (j/5)).p.length (gL l (j/5)).p.length else if j%5=1 then Un (gL l (j/5)).fl else if j%5=2 then Ud (gL l (j/5)).r else if j%5=3 then Ud (gL l (j/5)).q else Um (gL l (j/5)).v
theorem QmA (l:List Lf)(A:Nat ->Nat)(i:Nat):lCl l A (i*5)=Uf (Uq ⟨A i,0,Up⟩) (gL l i).p.length (gL l i).p.length/\ lCl l A (i*5+1)=Un (gL l i).fl/\ lCl l A (i*5+2)=Ud (gL l i).r/\ lCl l A (i*5+3)=Ud (gL l i).q/\ lCl l A (i*5+4)=Um (gL l i).v:=by
 unfold lCl;refine⟨?_,?_,?_,?_,?_⟩
 ·rw [if_pos oM,show i*5/5=i by omega]
 ·rw [if_neg oM,if_pos oM,show (i*5+1)/5=i by omega]
 ·rw [if_neg oM,if_neg oM,if_pos oM,show (i*5+2)/5=i by omega]
 ·rw [if_neg oM,if_neg oM,if_neg oM,if_pos oM,show (i*5+3)/5=i by omega]
 ·rw [if_neg oM,if_neg oM,if_neg oM,if_neg oM,show (i*5+4)/5=i by omega]
structure LBl (w:Ur)(g:Nat)(l:List Lf)(A:Nat ->Nat):Prop where
 g1:g<w.heap.size
 cel:∀j,j<l.length*5 ->w.cell? (Ua g j)=Uq (lCl l A j)
 a1:∀i,i<l.length ->A i<w.heap.size
 str:∀i,i<l.length ->∀t,t<(gL l i).p.length ->w.cell? ⟨A i,t,Up⟩=Uq (Um (gS (gL l i).p t))
theorem LBl.bw{A:Nat ->Nat}(h:LBl w g l A)(hb:Bl w w'):LBl w' g l A:=
 ⟨Ut h.g1 hb.size,fun j hj=>(hb.cell (p:=(Ua g _)) h.g1).trans (h.cel j hj),fun i hi=>Ut (h.a1 i hi) hb.size,fun i hi t ht=>(hb.cell (p:=⟨A i,_,Up⟩) (h.a1 i hi)).trans (h.str i hi t ht)⟩
theorem Qjr (g c:Nat)(l:List Lf)(A:Nat ->Nat)(w:Ur)(hn:l.length<=1048576)(h:LBl w g l A):
  Cl 78 #[Uf (Uc g) l.length c] w fun e w'=>∃a cap,e=Ui (Uf a l.length cap)/\ Bl w w'/\ (0<l.length ->∃q,a=Uq (Ub q)/\ w.heap.size<=q/\ q<w'.heap.size/\ Wr w' q 117 (l.length*5) (lCl l A)):=by
 obtain⟨o,hi,y,z,t⟩:=info_parts QcZ;obtain⟨a,cap,w',k,_,m,_,r⟩:=QgQ 35 117 o _ 5 64 underlying35 hi y z t rfl oD oM g 0 l.length c (lCl l A) w hn (fun j hj=>by rw [Uw];exact h.cel j hj) (fun j _=>by unfold lCl;split;rfl;split;rfl;split;rfl;split<;>rfl);have u:=hid m;have v:=hid r;clear m r h;go_enter func78,ntmps78;go_wp2_with (at_builtin;refine Qac rfl _ _ _ _ rfl k (by rfl) (by rfl) rfl ?_;clear k);go_ret;exact⟨a,cap,rfl,u,v⟩
theorem SNw.bl{S:Sx}(h:SNw w lo hi g k S):∃A,LBl w g S.l A:=by
 obtain⟨⟨T,W⟩,_,C⟩:=h.lm;have B:∀i,i<S.l.length ->∃q:Nat,w.cell? (Ua g (i*5))=Uq (Uf (Uc q) (gL S.l i).p.length (gL S.l i).p.length)/\ q<hi:=fun i hi'=>by
  obtain⟨q,F,q2,q3,P,q5⟩:=C i hi';exact⟨q,F,P⟩
 obtain⟨A,o⟩:=choose_lt B;have Ha:=h.hl;have M:∀i,i<S.l.length ->∃y E,w.cell? (Ua g (i*5))=Uq (Uf y (gL S.l i).p.length E)/\ QaI w y (gL S.l i).p/\ w.cell? (Ua g (i*5+1))=Uq (Un (gL S.l i).fl)/\ w.cell? (Ua g (i*5+2))=Uq (Ud (gL S.l i).r)/\ w.cell? (Ua g (i*5+3))=Uq (Ud (gL S.l i).q)/\ w.cell? (Ua g (i*5+4))=Uq (Um (gL S.l i).v):=fun i hi'=>by
  rcases h.cap.seg with R|⟨b,off,e,D,s⟩
  ·omega
  ·have L:g=b:=congrArg Addr.block (Option.some.inj e);have u:0=off:=congrArg Addr.off (Option.some.inj e);have:=s i hi';rw [<- L,<- u] at this;simpa using this
 refine⟨A,oM,fun j hj=> ?_,fun i hi'=>oH ((o i hi').2),fun i hi' t ht=> ?_⟩
 ·have hi':j/5<S.l.length:=oM;obtain⟨y,E,z,_,Q,U,V,Y⟩:=M (j/5) hi';obtain⟨Z,G,H,I,J⟩:=QmA S.l A (j/5);rcases (show j%5=0 \/j%5=1 \/j%5=2 \/j%5=3 \/j%5=4 by omega) with m|m|m|m|m
  ·rw [show j=j/5*5 by omega,Z];exact(o _ hi').1
  ·rw [show j=j/5*5+1 by omega,G];exact Q
  ·rw [show j=j/5*5+2 by omega,H];exact U
  ·rw [show j=j/5*5+3 by omega,I];exact V
  ·rw [show j=j/5*5+4 by omega,J];exact Y
 ·obtain⟨y,E,z,O,_⟩:=M i hi';rw [(o i hi').1] at z;have e:=Option.some.inj z;have K:Uq (⟨A i,0,Up⟩:Us)=y:=by injection e
  rcases O with O|⟨b,off,u,D,s⟩
  ·omega
  ·rw [<- K] at u;have N:A i=b:=congrArg Addr.block (Option.some.inj u);have X:0=off:=congrArg Addr.off (Option.some.inj u);have:=s t ht;rw [<- N,<- X,Uw] at this;exact this
structure LCp (wr:Ur)(lo b:Nat)(l:List Lf)(A:Nat ->Nat)(P:Nat ->Option Us)(Q G:Nat ->Nat)(k:Nat):Prop where
 b1:lo<=b
 wr':∃C,Wr wr b 117 (l.length*5) C
 old:∀i,k<=i ->i<l.length ->wr.cell? (Ua b (i*5))=Uq (Uf (Uq ⟨A i,0,Up⟩) (gL l i).p.length (gL l i).p.length)
 new:∀i,i<k ->i<l.length ->wr.cell? (Ua b (i*5))=Uq (Uf (P i) (gL l i).p.length (Q i))
 cel:∀i,i<l.length ->wr.cell? (Ua b (i*5+1))=Uq (Un (gL l i).fl)/\ wr.cell? (Ua b (i*5+2))=Uq (Ud (gL l i).r)/\ wr.cell? (Ua b (i*5+3))=Uq (Ud (gL l i).q)/\ wr.cell? (Ua b (i*5+4))=Uq (Um (gL l i).v)
 own:∀i,i<k ->i<l.length ->0<(gL l i).p.length ->P i=Uq ⟨G i,0,Up⟩/\ b<G i/\ G i<wr.heap.size/\ Wr wr (G i) 9 (gL l i).p.length (fun t=> Um (gS (gL l i).p t))
 sep:∀i j,i<k ->j<k ->i<l.length ->j<l.length ->0<(gL l i).p.length ->0<(gL l j).p.length ->i≠j ->G i≠G j
theorem LCp.step{A:Nat ->Nat}{P:Nat ->Option Us}{Q G:Nat ->Nat}(h:LCp wr lo b l A P Q G k)(hk:k<l.length)(hb:Bl wr w1)(pa:Option Us)(pc:Nat)(hn:0<(gL l k).p.length ->∃q,pa=Uq (Ub q)/\ wr.heap.size<=q/\ q<w1.heap.size/\ Wr w1 q 9 (gL l k).p.length (fun t=> Um (gS (gL l k).p t))):
  ∃P' Q' G',LCp (w1.setCell (Ua b (k*5)) (Uf pa (gL l k).p.length pc)) lo b l A P' Q' G' (k+1):=by
 obtain⟨C,u⟩:=h.wr';have M:=u.same (hb.block b u.lt);have m:∀j,j≠k*5 ->(w1.setCell (Ua b (k*5)) (Uf pa (gL l k).p.length pc)).cell? (Ua b j)=wr.cell? (Ua b j):=fun j hj=>by
  rw [show (w1.setCell (Ua b (k*5)) (Uf pa (gL l k).p.length pc)).cell? (Ua b j)=w1.cell? (Ua b j) by simp [UI,Ne.symm hj]];exact hb.cell (p:=(Ua b j)) u.lt
 have U:∃q,(0<(gL l k).p.length ->pa=Uq (Ub q)/\ wr.heap.size<=q/\ q<w1.heap.size/\ Wr w1 q 9 (gL l k).p.length (fun t=> Um (gS (gL l k).p t))):=by
  by_cases E:0<(gL l k).p.length
  ·obtain⟨q,r⟩:=hn E;exact⟨q,fun _=>r⟩
  ·exact⟨0,fun h=>absurd h E⟩
 obtain⟨q,g⟩:=U;have V:b<wr.heap.size:=u.lt;have Y:=hb.size;refine⟨fun i=>if i=k then pa else P i,fun i=>if i=k then pc else Q i,fun i=>if i=k then q else G i,h.b1,⟨_,M.set _ _⟩,fun i h1 h2=> ?_,fun i h1 h2=> ?_,fun i h2=> ?_,fun i h1 h2 h3=> ?_,fun i j h1 h2 h3 h4 h5 h6 h7=> ?_⟩
 ·rw [m _ oM];exact h.old i oM h2
 ·by_cases e:i=k
  ·subst e;simp only [if_pos];exact UH _ _ _ (M.cell (i:=i*5) oM)
  ·simp only [if_neg e];rw [m _ oM];exact h.new i oM h2
 ·rw [m _ oM,m _ oM,m _ oM,m _ oM];exact h.cel i h2
 ·by_cases e:i=k
  ·subst e;simp only [if_pos];obtain⟨v,s,y,z⟩:=g h3;exact⟨v,oM,by simpa [UC] using y,z.same (zH _ _ _ _ oS)⟩
  ·simp only [if_neg e];obtain⟨v,s,y,z⟩:=h.own i oM h2 h3;exact⟨v,s,by simp [UC];omega,(z.same (hb.block _ y)).same (zH _ _ _ _ oS)⟩
 ·by_cases e:i=k
  ·subst e;have O:j≠i:=Ne.symm h7;simp only [if_pos,if_neg O];have:=(g h5).2.1;have:=(h.own j oM h4 h6).2.2.1;omega
  ·by_cases o:j=k
   ·subst o;simp only [if_pos,if_neg e];have:=(g h6).2.1;have:=(h.own i oM h3 h5).2.2.1;omega
   ·simp only [if_neg e,if_neg o];exact h.sep i j oM oM h3 h4 h5 h6 h7
theorem LCp.done{A:Nat ->Nat}{P:Nat ->Option Us}{Q G:Nat ->Nat}(h:LCp wr lo b l A P Q G l.length)(hh:wr.heap.size<=hi)(hl:lo'<=lo):QbK wr (Uc b) l/\ LWy lo' hi b l P G/\∀k0,LIn wr wr lo' hi b l P Q G k0 0 0:=by
 obtain⟨C,q⟩:=h.wr';have s:=q.lt;refine⟨.inr ⟨b,0,rfl,q.lt,fun i hi'=> ?_⟩,⟨Ux hl h.b1,oM,fun i hi' k=> ?_,fun i j h1 h2 h3 h4 h5=>h.sep i j h1 h2 h1 h2 h3 h4 h5⟩,fun k0=>⟨Btw.refl _ _ _,fun _ _ _=>rfl,⟨C,q⟩,fun i hi'=>h.new i hi' hi',fun i _ hi' k=>(h.own i hi' hi' k).2.2.2.pmk,fun i h1=>oM,fun i h1=>oM⟩⟩
 ·obtain⟨v,y,z,g⟩:=h.cel i hi';refine⟨P i,Q i,oW (h.new i hi' hi'),?_,oW v,by simpa using y,oW z,by simpa using g⟩;by_cases k:0<(gL l i).p.length
  ·obtain⟨m,o,r,u⟩:=h.own i hi' hi' k;exact .inr ⟨G i,0,m,r,fun t ht=>oW (u.cell ht)⟩
  ·exact .inl oM
 ·obtain⟨m,o,r,u⟩:=h.own i hi' hi' k;exact⟨m,oM,oH h.b1,oM⟩
theorem LCp.same{A:Nat ->Nat}{P:Nat ->Option Us}{Q G:Nat ->Nat}(h:LCp wr lo b l A P Q G k)(hs:wr.heap.size<=w'.heap.size)(hq:∀q,lo<=q ->q<wr.heap.size ->w'.heap[q]? =wr.heap[q]?):LCp w' lo b l A P Q G k:=by
 obtain⟨C,u⟩:=h.wr';have r:=hq b h.b1 u.lt;have m:∀j,w'.cell? (Ua b j)=wr.cell? (Ua b j):=fun j=>UB (a:=(Ua b j)) r;refine⟨h.b1,⟨C,u.same r⟩,fun i h1 h2=>by rw [m];exact h.old i h1 h2,fun i h1 h2=>by rw [m];exact h.new i h1 h2,fun i h2=>by rw [m,m,m,m];exact h.cel i h2,fun i h1 h2 h3=> ?_,h.sep⟩;obtain⟨v,y,z,g⟩:=h.own i h1 h2 h3;exact⟨v,y,oM,g.same (hq _ (oH h.b1) z)⟩
theorem LCp.start{A:Nat ->Nat}(hb:lo<=b)(h:Wr w1 b 117 (l.length*5) (lCl l A)):LCp w1 lo b l A (fun _=>Up) (fun _=>0) (fun _=>0) 0:=
 ⟨hb,⟨_,h⟩,fun i _ hi=>by rw [h.cell oM,(QmA l A i).1],fun i h1=>oM,fun i hi=>⟨by rw [h.cell oM,(QmA l A i).2.1],by rw [h.cell oM,(QmA l A i).2.2.1],by rw [h.cell oM,(QmA l A i).2.2.2.1],by rw [h.cell oM,(QmA l A i).2.2.2.2]⟩,fun i h1=>oM,fun i j h1=>oM⟩
theorem QeT (g k lo hi c d:Nat)(S:Sx)(w:Ur)(hm:S.Sm)(h:SNw w lo hi g k S):
  Cl 51 #[Uo #[Uf (Uq ⟨g,0,Up⟩) S.l.length c,Uf (Uq ⟨k,0,Up⟩) S.n d]] w fun e w'=>∃a c' x d',e=Ui (Uo #[Uf a S.l.length c',Uf x S.n d'])/\ SOw w' w.heap.size w'.heap.size a x d' S/\ Bl w w':=by
 obtain⟨A,hA⟩:=h.bl;obtain⟨W,U⟩:=zE ((w.alloc (Uj #[Uf (Uq ⟨g,0,Up⟩) S.l.length c,Uf (Uq ⟨k,0,Up⟩) S.n d] 40)).alloc (Uj #[Ue,Ue] 40));have O:Bl w W:=U▸Qak _ _ _;have J:Bx2 W w.heap.size (Uf (Uq ⟨g,0,Up⟩) S.l.length c) (Uf (Uq ⟨k,0,Up⟩) S.n d):=U▸(Bx2.made _ _ _ _).bw (zO _ _) oP;have F0:Bx2 W (w.heap.size+1) Ue Ue:=by
  rw [<- U];have:=Bx2.made (w.alloc (Uj #[Uf (Uq ⟨g,0,Up⟩) S.l.length c,Uf (Uq ⟨k,0,Up⟩) S.n d] 40)) Ue Ue 40;simpa using this
 have Z:=hid F0;obtain⟨k0,k1⟩:=J.q2;have HX:=hid J;have K:=hid O;have HA:=hid (hA.bw O);have Hq:=hid (h.rn.bw O);have HL:=hid (Qjr g c S.l A W hm.l1 (hA.bw O));clear h O J F0 hA;go_enter func51,ntmps51;go_wp2_with fail;try rw [U]
 clear U;refine HL.mono ?_;rintro e w1 ⟨m,z,rfl,b1,Hl⟩;have Hc:Hid (Bl W w1/\ (0<S.l.length ->∃b P Q G,m=Uq ⟨b,0,Up⟩/\ LCp w1 W.heap.size b S.l A P Q G 0)):=hid ⟨b1,fun s=>by
  obtain⟨q,e1,e2,e3,e4⟩:=Hl s;exact⟨q,_,_,_,e1,LCp.start e2 e4⟩⟩
 have Hs:=hm.l1;have Hp:=hid hm.p1;clear b1 Hl HL k0 k1;go_wp2_with fail;go_loopw [10] (fun i wr=>∃j:Nat,j<=S.l.length/\ i=Ud (j:Int)/\ Hid (Bl W wr/\ (0<S.l.length ->∃b P Q G,m=Uq ⟨b,0,Up⟩/\ LCp wr W.heap.size b S.l A P Q G j))) (fun i _=>S.l.length - (intOf i).toNat);case atStart=>exact⟨0,Uv _,rfl,Hc⟩
 case round=>
  clear Hc;obtain⟨j,hj,rfl,r⟩:=hrel;by_cases H:j<S.l.length
  ·obtain⟨b,P,Q,G,rfl,Y⟩:=r.2 oM;have B:=hid Y;have i1:(0:Int)<=(j:Int):=UZ _;have i2:(j:Int)<(S.l.length:Int):=oM;have c0:=Y.old j zL H;have Hf:=HA.bw r.1;have N:=hid (Qle (A j) 0 (gL S.l j).p.length (gL S.l j).p.length (gL S.l j).p wr rfl (Hp j) (fun t ht=>by rw [Uw];exact Hf.str j H t ht));have D:Hid (∀w1 E M,Bl wr w1 ->(0<(gL S.l j).p.length ->∃q,E=Uq ⟨q,0,Up⟩/\ wr.heap.size<=q/\ q<w1.heap.size/\ Wr w1 q 9 (gL S.l j).p.length (fun t=> Um (gS (gL S.l j).p t))) ->(∃u,w1.cell? ⟨b,j*5,Up⟩=Uq u)/\ (w1.frozen? ⟨b,j*5,Up⟩=false)/\ Bl W (w1.setCell ⟨b,j*5,Up⟩ (Uf E (gL S.l j).p.length M))/\ (0<S.l.length ->∃b' P Q G,Uq (⟨b,0,Up⟩:Us)=Uq ⟨b',0,Up⟩/\ LCp (w1.setCell ⟨b,j*5,Up⟩ (Uf E (gL S.l j).p.length M)) W.heap.size b' S.l A P Q G (j+1))):=hid (fun w1 E M V hn=>by
    obtain⟨C,hC⟩:=B.wr';have Hg:=hC.same (V.block b hC.lt);obtain⟨P',Q',G',h'⟩:=B.step H V E M hn;exact⟨⟨_,Hg.cell (i:=j*5) oM⟩,Hg.frozen _,(r.1.trans (V.mono r.1.size)).setCell (by have:=B.b1;simp;omega) _,fun _=>⟨b,P',Q',G',rfl,h'⟩⟩)
   obtain⟨np,Hb⟩:=zE ((gL S.l j).p.length);obtain⟨pj,Hk⟩:=zE ((gL S.l j).p);rw [Hb,Hk] at N D;rw [Hb] at c0;clear Hb Hk Y Hf;go_wp2_with fail;refine N.mono ?_;rintro e w2 ⟨E,M,rfl,b2,Hj⟩;obtain⟨⟨u,hu⟩,hf,He,Hh⟩:=D w2 E M b2 Hj;have Ho:=hid (And.intro He Hh);clear c0 b2 Hj He Hh N D;go_wp2_with fail;go_roundw;case rel=>exact⟨j+1,H,oN,Ho⟩
   case measure=>exact oE
  ·obtain rfl:j=S.l.length:=oM;have X:=HX.bw r.1 HX.lt;obtain⟨k0,k1⟩:=X.q2;have HR:=hid (Qld k S.n d S.R S.F S.T wr hm.n1 (Hq.bw r.1));clear X;go_wp2_with fail;refine HR.mono ?_;rintro e o ⟨x,d',rfl,b3,Hn,Hm⟩;have F3:=(Z.bw r.1 Z.lt).bw b3 (Ut Z.lt r.1.size);obtain⟨f0,f1,ff⟩:=F3.p2;have Hr:=hid Hn;have Hd:=hid Hm;have L:=hid b3;have Hv:w.heap.size+1<W.heap.size:=Z.lt;have Hw:W.heap.size<=wr.heap.size:=r.1.size;clear k0 k1 Hn Hm b3 F3 HR;go_wp2_with fail;have Hu:wr.heap.size<=o.heap.size:=L.size;have Ha:∀q,W.heap.size<=q ->q<wr.heap.size ->((o.setCell ⟨w.heap.size+1,0,Up⟩ (Uf m S.l.length z)).setCell ⟨w.heap.size+1,1,Up⟩ (Uf x S.n d')).heap[q]? =wr.heap[q]? :=fun q h1 h2=>by
    rw [zH _ _ _ _ oS,zH _ _ _ _ oS];exact L.block q h2
   have Ht:((o.setCell ⟨w.heap.size+1,0,Up⟩ (Uf m S.l.length z)).setCell ⟨w.heap.size+1,1,Up⟩ (Uf x S.n d')).heap.size=o.heap.size:=(by simp [UC]);have Hi:QbK ((o.setCell ⟨w.heap.size+1,0,Up⟩ (Uf m S.l.length z)).setCell ⟨w.heap.size+1,1,Up⟩ (Uf x S.n d')) m S.l/\ (S.l.length=0 \/∃b P Q G,m=Uq ⟨b,0,Up⟩/\ LWy w.heap.size ((o.setCell ⟨w.heap.size+1,0,Up⟩ (Uf m S.l.length z)).setCell ⟨w.heap.size+1,1,Up⟩ (Uf x S.n d')).heap.size b S.l P G/\∀k0,LIn ((o.setCell ⟨w.heap.size+1,0,Up⟩ (Uf m S.l.length z)).setCell ⟨w.heap.size+1,1,Up⟩ (Uf x S.n d')) ((o.setCell ⟨w.heap.size+1,0,Up⟩ (Uf m S.l.length z)).setCell ⟨w.heap.size+1,1,Up⟩ (Uf x S.n d')) w.heap.size ((o.setCell ⟨w.heap.size+1,0,Up⟩ (Uf m S.l.length z)).setCell ⟨w.heap.size+1,1,Up⟩ (Uf x S.n d')).heap.size b S.l P Q G k0 0 0):=by
    by_cases s:0<S.l.length
    ·obtain⟨b,P,Q,G,rfl,Y⟩:=r.2 s;obtain⟨d1,d2,d3⟩:=(Y.same oM Ha).done (lo':=w.heap.size) zL oM;exact⟨d1,.inr ⟨b,P,Q,G,rfl,d2,d3⟩⟩
    ·exact⟨.inl oM,.inl oM⟩
   refine zF (v:=Uo #[Uf m S.l.length z,Uf x S.n d']) (by simp [results,results51,go_sem,f0,f1]) ⟨m,z,x,d',rfl,⟨Hi.1,?_,Hi.2,?_,oM,Uu _⟩,?_⟩
   ·rcases Hd.out with s|⟨q,ys,rfl,hq,I⟩
    ·exact .inl s
    ·have V:=(I.lt q rfl).1;exact(Hr.set _ _ (fun y hy=>by injection hy with hy;subst hy;simp;omega)).set _ _ (fun y hy=>by injection hy with hy;subst hy;simp;omega)
   ·rcases Hd.out with s|⟨q,ys,rfl,hq,I⟩
    ·exact .inl s
    ·have V:=(I.lt q rfl).1;exact .inr ⟨q,ys,rfl,oM,QbF (Qb4 (Qb4 I _ _ oS) _ _ oS) oM⟩
   ·exact(((K.trans (r.1.mono K.size)).trans (L.mono (oH K.size))).setCell oP _).setCell oP _
theorem Qgo (id:Int)(g k g' k' lo mid hi c d c' d':Nat)(S S':Sx)(w:Ur)(hm:S.Sm)(hm':S'.Sm)(h:SNw w lo mid g k S)(h':SNw w mid hi g' k' S'):
  Cl 30 #[Uo #[Ud id,Uf (Uc g) S.l.length c,Uf (Uc k) S.n d,Uf (Uc g') S'.l.length c',Uf (Uc k') S'.n d']] w fun e w'=>∃a u x j q y x' r m2,e=Ui (Uo #[Ud id,Uf a S.l.length u,Uf x S.n j,Uf q S'.l.length y,Uf x' S'.n r])/\ SOw w' w.heap.size m2 a x j S/\ SOw w' m2 w'.heap.size q x' r S'/\ Bl w w':=by
 obtain⟨W,o⟩:=zE ((w.alloc (Uj #[Ud id,Uf (Uc g) S.l.length c,Uf (Uc k) S.n d,Uf (Uc g') S'.l.length c',Uf (Uc k') S'.n d'] 42)).alloc (Uj #[Ud 0,Ue,Ue,Ue,Ue] 42));have Z:Bl w W:=o▸Qak _ _ _;have s:Bx5 W w.heap.size (Ud id) (Uf (Uc g) S.l.length c) (Uf (Uc k) S.n d) (Uf (Uc g') S'.l.length c') (Uf (Uc k') S'.n d'):=o▸(Bx5.new _ _ _ _ _ _ _).up _;have Q:Bx5 W (w.heap.size+1) (Ud 0) Ue Ue Ue Ue:=by
  rw [<- o];have:=Bx5.new (w.alloc (Uj #[Ud id,Uf (Uc g) S.l.length c,Uf (Uc k) S.n d,Uf (Uc g') S'.l.length c',Uf (Uc k') S'.n d'] 42)) (Ud 0) Ue Ue Ue Ue 42;simpa using this
 have H:=hid (fun w1(hb:Bl w w1)=>QeT g k lo mid c d S w1 hm (h.bw hb));have I:=hid (fun w1(hb:Bl w w1)=>QeT g' k' mid hi c' d' S' w1 hm' (h'.bw hb));have V:=hid Z;have b:=hid s;have A:=hid Q;obtain⟨q0,q1,q2,q3,q4⟩:=s.q5;clear h h' Z s Q;go_enter func30,ntmps30;go_wp2_with fail;try rw [o]
 clear o;have i:Hid (∀w',Bl w w' ->Bx5 w' w.heap.size (Ud id) (Uf (Uc g) S.l.length c) (Uf (Uc k) S.n d) (Uf (Uc g') S'.l.length c') (Uf (Uc k') S'.n d') ->(Bl w w'/\ w'.cell? (Ub w.heap.size)=Uq (Ud id)/\ w'.cell? (Ua w.heap.size 1)=Uq (Uf (Uc g) S.l.length c)/\ w'.cell? (Ua w.heap.size 2)=Uq (Uf (Uc k) S.n d)/\ w'.cell? (Ua w.heap.size 3)=Uq (Uf (Uc g') S'.l.length c')/\ w'.cell? (Ua w.heap.size 4)=Uq (Uf (Uc k') S'.n d'))):=hid (fun w' hB X=>⟨hB,X.c0,X.c1,X.c2,X.c3,X.c4⟩);refine zB i V.drew (b.bw zI.drew b.lt) (fun qh=> ?_);refine tZ 0 3 ?_;refine tZ 1 4 ?_;refine tZ 2 5 ?_;refine tZ 3 6 ?_;refine tZ 5 8 ?_;refine tZ 6 9 ?_;refine cZ 4 ?_;intro K m;go_simp;refine(H _ qh.1).mono ?_;rintro e w1 ⟨a,u,x,j,rfl,F,z⟩;have p:Bl W w1:=⟨z.os,z.tape,z.output,z.size,z.block⟩;have M:=Qaa V p;have E:=b.bw p b.lt;have U:=A.bw p A.lt;have P:SOw w1 W.heap.size w1.heap.size a x j S:=F;refine m.out _ _ (i _ M E) (fun qh=> ?_);clear m K;try simp only [zP]
 refine cZ 7 ?_;intro K m;go_simp;refine(I _ M).mono ?_;rintro e w2 ⟨q,y,x',r,rfl,T,t⟩;have O:=Qaa M t;have Y:=E.bw t E.lt;have G:=U.bw t U.lt;have R:=P.bw t;refine m.out _ _ (i _ O Y) (fun qh=> ?_);clear m K;try simp only [zP]
 refine tZ 8 11 ?_;obtain⟨J,L,N,B,C,ff⟩:=G.p5;refine cZ 9 ?_;intro K m;go_simp;have Hb:w.heap.size+1<W.heap.size:=A.lt;have Ha:W.heap.size<=w1.heap.size:=p.size;have D:w1.heap.size<=w2.heap.size:=t.size;refine m.out _ _ (i _ ((((((O.setCell oP _).setCell oP _).setCell oP _).setCell oP _).setCell oP _)) (((((Y.setAt _ _ oP).setAt _ _ oP).setAt _ _ oP).setAt _ _ oP).setAt _ _ oP)) (fun qh=> ?_);clear m K;try simp only [zP]
 refine zD ?_;go_wp2_with fail;refine zF (v:=Uo #[Ud id,Uf a S.l.length u,Uf x S.n j,Uf q S'.l.length y,Uf x' S'.n r]) (by simp [results,results30,go_sem,J,L,N,B,C]) ?_;first|refine⟨a,u,x,j,q,y,x',r,rfl,w1.heap.size,?_,?_,?_⟩|refine⟨a,u,x,j,q,y,x',r,w1.heap.size,rfl,?_,?_,?_⟩|refine⟨a,u,x,j,q,y,x',⟨r,rfl⟩,w1.heap.size,?_,?_,?_⟩
 ·refine SOw.wide (lo:=W.heap.size) (hi:=w1.heap.size) ?_ oM zL (by simp [UC];exact D);repeat (refine SOw.set ?_ _ _ (.inl oS))
  exact R
 ·refine SOw.wide (lo:=w1.heap.size) (hi:=w2.heap.size) ?_ zL (by simp [UC]) zL;repeat (refine SOw.set ?_ _ _ (.inl oS))
  exact T
 ·repeat (refine Below.setCell ?_ oP _)
  exact O
structure L3 (w wr:Ur)(q cap k:Nat)(l:List Lf)(P Q:Nat ->Nat)(va vx:Value):Prop where
 low:Bl w wr
 ab:Bx2 wr w.heap.size va vx
 rb:Bx2 wr (w.heap.size+1) Ue Ue
 ob:Bx2 wr (w.heap.size+1+1+1+1) (Uf (Uc q) k cap) (Uf (Uq (Ua (w.heap.size+1+1+1) 0)) 0 0)
 row:wr.ownsRow (w.heap.size+1+1) 117 5 (Uf (Uc q) k cap) k ((UT (k*5)).map (lCp l P Q))
 q1:q=w.heap.size+1+1 \/w.heap.size+5<=q
 rn:wr.ownsRow (w.heap.size+1+1+1) 123 3 (Uf (Uq (Ua (w.heap.size+1+1+1) 0)) 0 0) 0 []
 pt:∀i,i<k ->w.heap.size+5<=P i/\ P i<wr.heap.size/\ P i≠q/\ Wr wr (P i) 9 (gL l i).p.length (fun t=> Um (gS (gL l i).p t))
theorem L3.bw{P Q:Nat ->Nat}(h:L3 w wr q cap k l P Q va vx)(hb:Bl wr w'):L3 w w' q cap k l P Q va vx:=
 ⟨Qaa h.low hb,h.ab.bw hb h.ab.lt,h.rb.bw hb h.rb.lt,h.ob.bw hb h.ob.lt,QaO h.row fun g hg=>hb.block g (h.row.lt g hg).2,h.q1,QaO h.rn fun g hg=>hb.block g (h.rn.lt g hg).2,fun i hi=>by
  obtain⟨m,j,r,u⟩:=h.pt i hi;exact⟨m,Ut j hb.size,r,u.same (hb.block _ j)⟩⟩
theorem L3.step{P Q:Nat ->Nat}(h:L3 w wr q cap k l P Q va vx)(hb:Bl wr w1)(hk:k<=1048576)(p pc:Nat)(hp1:wr.heap.size<=p)(hp2:p<w1.heap.size)(hw:Wr w1 p 9 (gL l k).p.length (fun t=> Um (gS (gL l k).p t))):
  ∃y o j,(Builtin.append_ #[35,35] 35 #[Uf (Uc q) k cap,Uf (Uc w1.heap.size) 1 1]).run prog (w1.alloc (Uj #[Uf (Uc p) (gL l k).p.length pc,Un (gL l k).fl,Ud (gL l k).r,Ud (gL l k).q,Um (gL l k).v] 117))=.ok (Uf (Uc y) (k+1) o) j/\
   Bl w j/\ Bx2 j w.heap.size va vx/\ Bx2 j (w.heap.size+1+1+1+1) (Uf (Uc q) k cap) (Uf (Uq (Ua (w.heap.size+1+1+1) 0)) 0 0)/\
   L3 w (j.setCell (Ua (w.heap.size+1+1+1+1) 0) (Uf (Uc y) (k+1) o)) y o (k+1) l (fun i=>if i=k then p else P i) (fun i=>if i=k then pc else Q i) va vx:=by
 obtain⟨i0,hi,T,W,Hb⟩:=info_parts QcZ;have R:=h.bw hb;have E:Bl w1 (w1.alloc (Uj #[Uf (Uc p) (gL l k).p.length pc,Un (gL l k).fl,Ud (gL l k).r,Ud (gL l k).q,Um (gL l k).v] 117)):=zO _ _;have m:=R.bw E;have K:=hw.same (E.block p hp2);have I:=QcR w1 (Uf (Uc p) (gL l k).p.length pc) (Un (gL l k).fl) (Ud (gL l k).r) (Ud (gL l k).q) (Um (gL l k).v) 117;obtain⟨z,H⟩:=zE (w1.alloc (Uj #[Uf (Uc p) (gL l k).p.length pc,Un (gL l k).fl,Ud (gL l k).r,Ud (gL l k).q,Um (gL l k).v] 117));rw [H] at m K I E ⊢;have hz:w1.heap.size<z.heap.size:=H▸oP;have He:=h.ob.lt;have Ha:=hb.size;obtain⟨v',j,J,M,D,F,s⟩:=run_append_own_at (P:=prog) z (w.heap.size+1+1) 35 35 117 i0 _ 5 64 underlying35 hi T W Hb rfl oD (Uf (Uc q) k cap) k _ m.row (Ub w1.heap.size) 1 1 [Uf (Uc p) (gL l k).p.length pc,Un (gL l k).fl,Ud (gL l k).r,Ud (gL l k).q,Um (gL l k).v] rfl I (fun u hu=>by
  simp only [List.mem_cons,List.not_mem_nil,or_false] at hu;rcases hu with e|e|e|e|e<;>rw [e]<;>rfl) oL oM oM
 rcases M.2 with ⟨V,_⟩|⟨y,o,Hc,V,r⟩
 ·have:=F.1 V;exact absurd this.1 oP
 rw [V] at J M s;have S:j.ownsRow (w.heap.size+1+1) 117 5 (Uf (Uc y) (k+1) o) (k+1) ((UT ((k+1)*5)).map (lCp l (fun i=>if i=k then p else P i) (fun i=>if i=k then pc else Q i))):=by rw [QhX];exact M
 have Hg:y=q \/y=z.heap.size:=by
  rcases s with s|s
  ·exact .inl (by simpa [Value.ownBlock] using s)
  ·exact .inr (by simpa [Value.ownBlock] using s)
 have U:z.grownBy j (Uq q):=D;have Hf:=h.q1;have A:∀b,b<z.heap.size ->b≠q ->j.heap[b]? =z.heap[b]? :=fun b hb1 hb2=>U.block b hb1 (fun e=>hb2 (by injection e));have Hh:=U.size;have O:∀{b:Nat} {u0 u1:Value},Bx2 z b u0 u1 ->b≠q ->Bx2 j b u0 u1:=fun{b u0 u1} hB hne=>⟨(UB (a:=(Ub b)) (A b hB.lt hne)).trans hB.c0,(UB (a:=(Ua b 1)) (A b hB.lt hne)).trans hB.c1,fun i=>(Ys (a:=(Ua b i)) (A b hB.lt hne)).trans (hB.f i),oH hB.lt⟩;have Y:=O m.ab oM;have N:=O m.rb oM;have Z:=O m.ob oM;have L:Bl w j:=m.low.grown U m.low.size (fun k e=>oI e);refine⟨y,o,j,J,L,Y,Z,L.setCell oS _,Y.setAt _ _ oS,N.setAt _ _ oS,Z.set0 _,Qb4 S _ _ oS,oM,?_,fun i hi=> ?_⟩
 ·exact Qb4 (QaO m.rn fun g hg=>by
   have G:w.heap.size+1+1+1=g:=(by simpa [Value.ownBlock] using hg);exact A g (m.rn.lt g hg).2 oM) _ _ oP
 ·by_cases e:i=k
  ·subst e;simp only [if_pos];exact⟨oM,by simp [UC];omega,oH (h.row.lt q rfl),(K.same (A p oM (oH ((h.row.lt q rfl).2)))).same (zH _ _ _ _ oS)⟩
  ·simp only [if_neg e];obtain⟨G,X,B,C⟩:=m.pt i oM;have Hd:=(h.pt i oM).2.1;exact⟨G,by simp [UC];omega,oM,(C.same (A _ X B)).same (zH _ _ _ _ oS)⟩
theorem Bx2.up(h:Bx2 w b v0 v1)(o:Obj):Bx2 (w.alloc o) b v0 v1:=h.bw (zO w o) h.lt
theorem Qht{e size:Nat}{xs:List Value}(h:w.ownsRow B e size v n xs)(o:Obj):(w.alloc o).ownsRow B e size v n xs:=
 QaO h fun g hg=>(zO w o).block g (h.lt g hg).2
theorem L3.start (w:Ur)(l:List Lf)(va vx:Value)(P Q:Nat ->Nat):
  L3 w (((((w.alloc (Uj #[va,vx] 40)).alloc (Uj #[Ue,Ue] 40)).alloc (Uj #[] 117)).alloc (Uj #[] 123)).alloc (Uj #[Uf (Uq (Ua (w.heap.size+1+1) 0)) 0 0,Uf (Uq (Ua (w.heap.size+1+1+1) 0)) 0 0] 40)) (w.heap.size+1+1) 0 0 l P Q va vx:=by
 obtain⟨w1,r⟩:=zE (w.alloc (Uj #[va,vx] 40));have u:w1.heap.size=w.heap.size+1:=r▸oP;have z:Bx2 w1 w.heap.size va vx:=r▸Bx2.made _ _ _ _;have M:Bl w w1:=r▸zO _ _;rw [r];obtain⟨w2,q⟩:=zE (w1.alloc (Uj #[Ue,Ue] 40));have v:w2.heap.size=w.heap.size+1+1:=by rw [<- q];simp [u]
 have h:Bx2 w2 w.heap.size va vx:=q▸z.up _;have s:Bx2 w2 (w.heap.size+1) Ue Ue:=by rw [<- q,<- u];exact Bx2.made _ _ _ _
 have O:Bl w w2:=q▸M.alloc oM _;rw [q];obtain⟨j,m⟩:=zE (w2.alloc (Uj #[] 117));have y:j.heap.size=w.heap.size+1+1+1:=by rw [<- m];simp [v]
 have g:Bx2 j w.heap.size va vx:=m▸h.up _;have A:Bx2 j (w.heap.size+1) Ue Ue:=m▸s.up _;have U:Bl w j:=m▸O.alloc oM _;have b:j.ownsRow (w.heap.size+1+1) 117 5 (Uf (Uq (Ua (w.heap.size+1+1) 0)) 0 0) 0 []:=by
  rw [<- m,<- v];have:=VD (base:=w2.heap.size) (e:=117) (size:=5) w2 #[] 0 zL oL rfl;simpa using this
 rw [m];obtain⟨w4,k⟩:=zE (j.alloc (Uj #[] 123));have Y:w4.heap.size=w.heap.size+1+1+1+1:=by rw [<- k];simp [y]
 have t:Bx2 w4 w.heap.size va vx:=k▸g.up _;have E:Bx2 w4 (w.heap.size+1) Ue Ue:=k▸A.up _;have V:Bl w w4:=k▸U.alloc oM _;have p:w4.ownsRow (w.heap.size+1+1) 117 5 (Uf (Uq (Ua (w.heap.size+1+1) 0)) 0 0) 0 []:=k▸Qht b _;have o:w4.ownsRow (w.heap.size+1+1+1) 123 3 (Uf (Uq (Ua (w.heap.size+1+1+1) 0)) 0 0) 0 []:=by
  rw [<- k,<- y];have:=VD (base:=j.heap.size) (e:=123) (size:=3) j #[] 0 zL oL rfl;simpa using this
 rw [k];refine⟨V.alloc oM _,t.up _,E.up _,?_,?_,.inl rfl,Qht o _,fun i hi=>oM⟩
 ·rw [<- Y];exact Bx2.made _ _ _ _
 ·exact Qht p _
theorem L3.seg{P Q:Nat ->Nat}(h:L3 w wr q cap l.length l P Q va vx)(hs:wr.heap.size<=w'.heap.size)(hq:∀b,b<wr.heap.size ->(b=q \/w.heap.size+5<=b) ->w'.heap[b]? =wr.heap[b]?):QbK w' (Uc q) l:=by
 have m:=Qci h.row;have A:=hq q m.lt (.inl rfl);have j:=m.same A;refine .inr ⟨q,0,rfl,j.lt,fun i hi=> ?_⟩;obtain⟨r,u,v,y,z⟩:=Qq5 l P Q i;obtain⟨g,o,M,s⟩:=h.pt i hi;have k:=s.same (hq (P i) o (.inr g));refine⟨Uq ⟨P i,0,Up⟩,Q i,?_,?_,?_,?_,?_,?_⟩
 ·rw [Uw,j.cell oM,r]
 ·by_cases E:(gL l i).p.length=0
  ·exact .inl E
  ·exact .inr ⟨P i,0,rfl,k.lt,fun t ht=>by rw [Uw];exact k.cell ht⟩
 ·rw [Uw,j.cell oM,u]
 ·rw [Uw,j.cell oM,v]
 ·rw [Uw,j.cell oM,y]
 ·rw [Uw,j.cell oM,z]
def SNu (w:Ur)(lo:Nat)(a x:Option Us)(S:Sx):Prop:=∀w':Ur,w.heap.size<=w'.heap.size ->(∀q,lo<=q ->q<w.heap.size ->w'.heap[q]? =w.heap[q]?) ->SAt w' a x S
theorem SNu.move{S:Sx}(h:SNu w lo a x S)(hl:lo'<=lo)(hs:w.heap.size<=w1.heap.size)(hq:∀q,lo<=q ->q<w.heap.size ->w1.heap[q]? =w.heap[q]?):SNu w1 lo' a x S:=
 fun w' h1 h2=>h w' (Ux hs h1) (fun q h3 h4=>(h2 q (Ux hl h3) (Ut h4 hs)).trans (hq q h3 h4))
theorem SNu.bw{S:Sx}(h:SNu w lo a x S)(hb:Bl w w1):SNu w1 lo a x S:=h.move zL hb.size (fun q _ h2=>hb.block q h2)
theorem SNu.set{S:Sx}(h:SNu w lo a x S)(q:Us)(u:Value)(hq:q.block<lo):SNu (w.setCell q u) lo a x S:=h.move zL (by simp [UC]) (fun p h1 h2=>zH _ _ _ _ oM)
theorem QjU (g k lo hi c d:Nat)(S:Sx)(w:Ur)(hm:S.Sm)(h:SNw w lo hi g k S):
  Cl 41 #[Uo #[Uf (Uc g) S.l.length c,Uf (Uc k) S.n d]] w fun e w'=>∃a c' x d',e=Ui (Uo #[Uf a S.l.length c',Uf x S.n d'])/\ SNu w' w.heap.size a x S/\ Bl w w':=by
 obtain⟨A,hA⟩:=h.bl;have HA:=hid hA;have Hy:=hid h.rn;have H7:k<w.heap.size:=Ut h.k2 h.hl;have H6:=hA.g1;have H2:=hm.l1;have Hw:=hid hm.p1;have Ho:=hid (L3.start w S.l (Uf (Uc g) S.l.length c) (Uf (Uc k) S.n d) (fun _=>0) (fun _=>0));clear h hA;go_enter func41,ntmps41;go_wp2_with fail;go_loopw [4] (fun i wr=>∃(j:Nat),j<=S.l.length/\ i=Ud (j:Int)/\ Hid (∃q cap P Q,L3 w wr q cap j S.l P Q (Uf (Uc g) S.l.length c) (Uf (Uc k) S.n d))) (fun i _=>S.l.length - (intOf i).toNat);case atStart=>exact⟨0,Uv _,rfl,hid ⟨_,_,_,_,Ho⟩⟩
 case round=>
  clear Ho;obtain⟨j,hj,rfl,HI⟩:=hrel;obtain⟨q,cap,P,Q,hL⟩:=HI.out;have z:=hid hL;obtain⟨a0,a1⟩:=hL.ab.q2;obtain⟨o0,o1⟩:=hL.ob.q2;clear hL HI;by_cases Hf:j<S.l.length
  ·have i1:(0:Int)<=(j:Int):=UZ _;have i2:(j:Int)<(S.l.length:Int):=oM;have Hd:LBl wr g S.l A:=HA.bw z.low;obtain⟨d0,d1,d2,d3,d4⟩:=QmA S.l A j;have u:=Hd.cel (j*5) oM;have B:=Hd.cel (j*5+1) oM;have c2:=Hd.cel (j*5+2) oM;have c3:=Hd.cel (j*5+3) oM;have c4:=Hd.cel (j*5+4) oM;rw [d0] at u;rw [d1] at B;rw [d2] at c2;rw [d3] at c3;rw [d4] at c4;have I:Hid (∀w1,Bl wr w1 ->Cl 63 #[Uo #[Uf (Uq ⟨A j,0,Up⟩) (gL S.l j).p.length (gL S.l j).p.length,Un (gL S.l j).fl,Ud (gL S.l j).r,Ud (gL S.l j).q,Um (gL S.l j).v]] w1 fun e w'=>∃p Z,e=Ui (Uo #[Uf (Uc p) (gL S.l j).p.length Z,Un (gL S.l j).fl,Ud (gL S.l j).r,Ud (gL S.l j).q,Um (gL S.l j).v])/\ Bl w1 w'/\ w1.heap.size<=p/\ p<w'.heap.size/\ Wr w' p 9 (gL S.l j).p.length (fun t=> Um (gS (gL S.l j).p t))):=hid (fun w1 hb=>by
    have Hp:=Hd.bw hb;exact QnF (A j) (gL S.l j).p.length (gL S.l j).p.length (gL S.l j) w1 rfl (Hw j) (Hp.a1 j Hf) (Hp.str j Hf))
   have N:Hid (∀w1 p Z,Bl wr w1 ->wr.heap.size<=p ->p<w1.heap.size ->Wr w1 p 9 (gL S.l j).p.length (fun t=> Um (gS (gL S.l j).p t)) ->∃q' Ha L,(Builtin.append_ #[35,35] 35 #[Uf (Uc q) j cap,Uf (Uc w1.heap.size) 1 1]).run prog (w1.alloc (Uj #[Uf (Uc p) (gL S.l j).p.length Z,Un (gL S.l j).fl,Ud (gL S.l j).r,Ud (gL S.l j).q,Um (gL S.l j).v] 117))=.ok (Uf (Uc q') (j+1) Ha) L/\
    Bl w L/\ Bx2 L w.heap.size (Uf (Uc g) S.l.length c) (Uf (Uc k) S.n d)/\ Bx2 L (w.heap.size+1+1+1+1) (Uf (Uc q) j cap) (Uf (Uq (Ua (w.heap.size+1+1+1) 0)) 0 0)/\
    ∃q cap P Q,L3 w (L.setCell (Ua (w.heap.size+1+1+1+1) 0) (Uf (Uc q') (j+1) Ha)) q cap (j+1) S.l P Q (Uf (Uc g) S.l.length c) (Uf (Uc k) S.n d)):=hid (fun w1 p Z hb h1 h2 h3=>by
    obtain⟨q',Ha,L,e1,e2,e3,e4,e5⟩:=z.step hb oM p Z h1 h2 h3;exact⟨q',Ha,L,e1,e2,e3,e4,_,_,_,_,e5⟩)
   obtain⟨y,hy⟩:=zE (gL S.l j);rw [hy] at u B c2 c3 c4 I N;obtain⟨yp,yf,yr,yq,yv⟩:=y;dsimp only at u B c2 c3 c4 I N;obtain⟨np,Hk⟩:=zE yp.length;rw [Hk] at u I N;obtain⟨Aj,Hi⟩:=zE (A j);rw [Hi] at u I;have HC:Hid (∀w',Bl w w' ->w'.cell? (Ua g (j*5))=Uq (Uf (Uc Aj) np np)/\ w'.cell? (Ua g (j*5+1))=Uq (Un yf)/\ w'.cell? (Ua g (j*5+2))=Uq (Ud yr)/\ w'.cell? (Ua g (j*5+3))=Uq (Ud yq)/\ w'.cell? (Ua g (j*5+4))=Uq (Um yv)):=hid (fun w' hb'=>by
    have E:=HA.bw hb';have e:=QmA S.l A j;rw [hy,Hi] at e;dsimp only at e;rw [Hk] at e;exact⟨(E.cel _ oM).trans (by rw [e.1]),(E.cel _ oM).trans (by rw [e.2.1]),(E.cel _ oM).trans (by rw [e.2.2.1]),(E.cel _ oM).trans (by rw [e.2.2.2.1]),(E.cel _ oM).trans (by rw [e.2.2.2.2])⟩)
   clear hy Hk Hi d0 d1 d2 d3 d4 Hd;go_wp2_with fail;have s:Hid (∀w',Bl w w' ->w'.cell? (Ub w.heap.size)=Uq (Uf (Uc g) S.l.length c) ->(Bl w w'/\ w'.cell? (Ub w.heap.size)=Uq (Uf (Uc g) S.l.length c)/\ w'.cell? (Ua g (j*5))=Uq (Uf (Uc Aj) np np)/\ w'.cell? (Ua g (j*5+1))=Uq (Un yf)/\ w'.cell? (Ua g (j*5+2))=Uq (Ud yr)/\ w'.cell? (Ua g (j*5+3))=Uq (Ud yq)/\ w'.cell? (Ua g (j*5+4))=Uq (Um yv))):=hid (fun w' E h0=>⟨E,h0,HC w' E⟩);refine zB s z.low.drew (z.ab.bw zI.drew z.ab.lt).c0 (fun qh=> ?_);clear u B c2 c3 c4;refine tZ 0 16 ?_;refine tZ 2 18 ?_;refine tZ 3 19 ?_;refine tZ 4 20 ?_;refine tZ 5 21 ?_;refine tZ 6 22 ?_;refine Qba (i:=1) (j:=7) (d:=Uq 17) (d':=Uq 23) oK oK oK ?_ ?_
   ·
    intro o Y Hl K m;simp only [gZa,gZb,gZc,gZd] at Y;subst Y;go_simp;refine m.out _ _ (s _ z.low.drew (z.ab.bw zI.drew z.ab.lt).c0) (fun qh=> ?_);clear m K;try simp only [zP]
    refine cZ 7 ?_;intro K m;go_simp;refine(I _ zI.drew).mono ?_;rintro e w1 ⟨p,Z,rfl,M,p1,C,He⟩;have X:Bl wr w1:=⟨M.os,M.tape,M.output,M.size,M.block⟩;have O:=z.bw X;have U:=O.bw (zO w1 (Uj #[Uf (Uc p) np Z,Un yf,Ud yr,Ud yq,Um yv] 117));obtain⟨q',Ha,L,H,l3,D,G,h5⟩:=N w1 p Z X p1 C He;have W:=hid h5;refine m.out _ _ (s _ O.low O.ab.c0) (fun qh=> ?_);clear m K;try simp only [zP]
    refine cZ 8 ?_;intro K m;go_simp;refine m.out _ _ (s _ U.low U.ab.c0) (fun qh=> ?_);clear m K;try simp only [zP]
    refine cZ 9 ?_;intro K m;refine Qcl _ _ _ _ rfl H (by rfl) (by rfl) rfl ?_;refine m.out _ _ (s _ l3 D.c0) (fun qh=> ?_);clear m K;try simp only [zP]
    refine tZ 10 26 ?_;have J:=G.c0;have tf:=G.f;refine cZ 11 ?_;intro K m;go_simp;obtain⟨_,_,_,_,V⟩:=W.out;refine m.out _ _ (s _ V.low V.ab.c0) (fun qh=> ?_);clear m K;try simp only [zP]
    refine zD ?_;clear qh M X O U H l3 D G h5 V J tf He p1 C N I HC s;go_wp2_with fail;go_roundw;case rel=>exact⟨j+1,Hf,oN,W⟩
    case measure=>exact oE
   ·
    intro o Y Hl K m;simp only [gZa,gZb,gZc,gZd] at Y;subst Y;go_simp;refine(I _ zI.drew).mono ?_;rintro e w1 ⟨p,Z,rfl,M,p1,C,He⟩;have X:Bl wr w1:=⟨M.os,M.tape,M.output,M.size,M.block⟩;have O:=z.bw X;have U:=O.bw (zO w1 (Uj #[Uf (Uc p) np Z,Un yf,Ud yr,Ud yq,Um yv] 117));obtain⟨q',Ha,L,H,l3,D,G,h5⟩:=N w1 p Z X p1 C He;have W:=hid h5;refine m.out _ _ (s _ O.low O.ab.c0) (fun qh=> ?_);clear m K;try simp only [zP]
    refine Qba (i:=1) (j:=8) (d:=Uq 17) (d':=Uq 24) oK oK oK ?_ ?_
    ·
     have J:=O.ob.c0;intro o Y Hl K m;simp only [gZa,gZb,gZc,gZd] at Y;subst Y;go_simp;refine m.out _ _ (s _ O.low O.ab.c0) (fun qh=> ?_);clear m K;try simp only [zP]
     clear J;refine cZ 8 ?_;intro K m;go_simp;refine m.out _ _ (s _ U.low U.ab.c0) (fun qh=> ?_);clear m K;try simp only [zP]
     refine cZ 9 ?_;intro K m;refine Qcl _ _ _ _ rfl H (by rfl) (by rfl) rfl ?_;refine m.out _ _ (s _ l3 D.c0) (fun qh=> ?_);clear m K;try simp only [zP]
     refine tZ 10 26 ?_;have J:=G.c0;have tf:=G.f;refine cZ 11 ?_;intro K m;go_simp;obtain⟨_,_,_,_,V⟩:=W.out;refine m.out _ _ (s _ V.low V.ab.c0) (fun qh=> ?_);clear m K;try simp only [zP]
     refine zD ?_;clear qh M X O U H l3 D G h5 V J tf He p1 C N I HC s;go_wp2_with fail;go_roundw;case rel=>exact⟨j+1,Hf,oN,W⟩
     case measure=>exact oE
    ·
     intro o Y Hl K m;simp only [gZa,gZb,gZc,gZd] at Y;subst Y;go_simp;refine m.out _ _ (s _ U.low U.ab.c0) (fun qh=> ?_);clear m K;try simp only [zP]
     have J:=U.ob.c0;refine cZ 1 ?_;intro K m;go_simp;refine m.out _ _ (s _ U.low U.ab.c0) (fun qh=> ?_);clear m K;try simp only [zP]
     clear J;refine cZ 9 ?_;intro K m;refine Qcl _ _ _ _ rfl H (by rfl) (by rfl) rfl ?_;refine m.out _ _ (s _ l3 D.c0) (fun qh=> ?_);clear m K;try simp only [zP]
     refine tZ 10 26 ?_;have J:=G.c0;have tf:=G.f;refine cZ 11 ?_;intro K m;go_simp;obtain⟨_,_,_,_,V⟩:=W.out;refine m.out _ _ (s _ V.low V.ab.c0) (fun qh=> ?_);clear m K;try simp only [zP]
     refine zD ?_;clear qh M X O U H l3 D G h5 V J tf He p1 C N I HC s;go_wp2_with fail;go_roundw;case rel=>exact⟨j+1,Hf,oN,W⟩
     case measure=>exact oE
  ·obtain rfl:j=S.l.length:=oM;obtain⟨i0,H0,H3,H4,H5⟩:=info_parts Tryz.infoRun;have Hq:QaD wr (Uc k) S.n S.R S.F S.T:=Hy.bw z.low;have H8:=z.ob.lt;obtain⟨q2,Hh,w5,H,Hr,Hc,Hm⟩:=QcS 36 123 i0 _ 3 24 underlying36 H0 H3 H4 H5 rfl oD oM (w.heap.size+1+1+1) k 0 S.n d (fun j=>if j%3=0 then Ud (S.R (j/3)) else if j%3=1 then Ud (S.F (j/3)) else Ud (S.T (j/3))) wr (w.heap.size+1+1+1) hm.n1 z.rn oM (fun j hj=>by
    obtain⟨b,off,e,_,u,B,c2⟩:=Hq.at (k:=j/3) oM;have e1:k=b:=congrArg Addr.block (Option.some.inj e);have e2:0=off:=congrArg Addr.off (Option.some.inj e);rw [<- e1,<- e2] at u B c2;by_cases m0:j%3=0
    ·rw [if_pos m0];rw [show 0+j=0+j/3*3 by omega];exact u
    ·by_cases m1:j%3=1
     ·rw [if_neg m0,if_pos m1];rw [show 0+j=0+j/3*3+1 by omega];exact B
     ·rw [if_neg m0,if_neg m1];rw [show 0+j=0+j/3*3+2 by omega];exact c2) (fun j _=>by split;rfl;split<;>rfl)
   have Hb:∀b,b<wr.heap.size ->b≠w.heap.size+1+1+1 ->w5.heap[b]? =wr.heap[b]? :=fun b hb1 hb2=>Hc.block b hb1 (fun e=>hb2 (by injection e));have Hj:∀{b:Nat} {u0 u1:Value},Bx2 wr b u0 u1 ->b≠w.heap.size+1+1+1 ->Bx2 w5 b u0 u1:=fun{b u0 u1} E hne=>⟨(UB (a:=(Ub b)) (Hb b E.lt hne)).trans E.c0,(UB (a:=(Ua b 1)) (Hb b E.lt hne)).trans E.c1,fun i=>(Ys (a:=(Ua b i)) (Hb b E.lt hne)).trans (E.f i),oJ E.lt Hc.size⟩;have O5:=Hj z.ob oM;have R5:=Hj z.rb oM;obtain⟨b0,M,bf⟩:=O5.p2;obtain⟨r0,r1,rf⟩:=R5.p2;have Ht:=hid Hb;have Hv:=hid Hr;have Hu:=hid Hc;have Hx:=hid Hm;have Hz:Hid (wr.heap.size<=w5.heap.size):=hid Hc.size;clear Hr Hc Hm Hb Hj O5 R5 Hq;go_wp2_with (at_builtin;refine Qac rfl _ _ _ _ rfl H (by rfl) (by rfl) rfl ?_;clear H);have Gb:=Hz.out;have Hm:=Hx.out;have H9:=z.q1;have Hg:∀(v0 v1 v2:Value) (b:Nat),b<wr.heap.size ->(b=q \/w.heap.size+5<=b) ->(((w5.setCell (Ua (w.heap.size+1+1+1+1) 1) v0).setCell (Ua (w.heap.size+1) 0) v1).setCell (Ua (w.heap.size+1) 1) v2).heap[b]? =wr.heap[b]? :=fun v0 v1 v2 b h1 h2=>by
    rw [zH _ _ _ _ oS,zH _ _ _ _ oS,zH _ _ _ _ oS];exact Ht b h1 oM
   have Hn:Bl w w5:=z.low.grown Hu z.low.size (fun k e=>oI e);refine zF (v:=Uo #[Uf (Uc q) S.l.length cap,Uf (Uc q2) S.n Hh]) (by simp [results,results41,go_sem,r0,r1]) ⟨_,_,_,_,rfl,fun w'' hs hq=>⟨?_,?_⟩,?_⟩
   ·have Ga:w5.heap.size<=w''.heap.size:=(by simpa [UC] using hs);exact z.seg oM (fun b h1 h2=>(hq b oM (by simp [UC];omega)).trans (Hg _ _ _ b h1 h2))
   ·have Hs:=Qci Hv;have H1:=Hs.lt;refine QpI (Hs.same ((hq q2 oM (by simp [UC];exact H1)).trans ?_));rw [zH _ _ _ _ oS,zH _ _ _ _ oS,zH _ _ _ _ oS]
   ·exact((Hn.setCell oS _).setCell oP _).setCell oP _
theorem QnL (id:Int)(g k g' k' lo mid hi c d c' d':Nat)(S S':Sx)(w:Ur)(hm:S.Sm)(hm':S'.Sm)(h:SNw w lo mid g k S)(h':SNw w mid hi g' k' S'):
  Cl 20 #[Uo #[Ud id,Uf (Uc g) S.l.length c,Uf (Uc k) S.n d,Uf (Uc g') S'.l.length c',Uf (Uc k') S'.n d']] w fun e w'=>∃a u x z m y x' t,e=Ui (Uo #[Ud id,Uf a S.l.length u,Uf x S.n z,Uf m S'.l.length y,Uf x' S'.n t])/\ SNu w' w.heap.size a x S/\ SNu w' w.heap.size m x' S'/\ Bl w w':=by
 obtain⟨W,o⟩:=zE ((w.alloc (Uj #[Ud id,Uf (Uc g) S.l.length c,Uf (Uc k) S.n d,Uf (Uc g') S'.l.length c',Uf (Uc k') S'.n d'] 42)).alloc (Uj #[Ud 0,Ue,Ue,Ue,Ue] 42));have Z:Bl w W:=o▸Qak _ _ _;have s:Bx5 W w.heap.size (Ud id) (Uf (Uc g) S.l.length c) (Uf (Uc k) S.n d) (Uf (Uc g') S'.l.length c') (Uf (Uc k') S'.n d'):=o▸(Bx5.new _ _ _ _ _ _ _).up _;have Q:Bx5 W (w.heap.size+1) (Ud 0) Ue Ue Ue Ue:=by
  rw [<- o];have:=Bx5.new (w.alloc (Uj #[Ud id,Uf (Uc g) S.l.length c,Uf (Uc k) S.n d,Uf (Uc g') S'.l.length c',Uf (Uc k') S'.n d'] 42)) (Ud 0) Ue Ue Ue Ue 42;simpa using this
 have H:=hid (fun w1(hb:Bl w w1)=>QjU g k lo mid c d S w1 hm (h.bw hb));have I:=hid (fun w1(hb:Bl w w1)=>QjU g' k' mid hi c' d' S' w1 hm' (h'.bw hb));have V:=hid Z;have b:=hid s;have A:=hid Q;obtain⟨q0,q1,q2,q3,q4⟩:=s.q5;clear h h' Z s Q;go_enter func20,ntmps20;go_wp2_with fail;try rw [o]
 clear o;have i:Hid (∀w',Bl w w' ->Bx5 w' w.heap.size (Ud id) (Uf (Uc g) S.l.length c) (Uf (Uc k) S.n d) (Uf (Uc g') S'.l.length c') (Uf (Uc k') S'.n d') ->(Bl w w'/\ w'.cell? (Ub w.heap.size)=Uq (Ud id)/\ w'.cell? (Ua w.heap.size 1)=Uq (Uf (Uc g) S.l.length c)/\ w'.cell? (Ua w.heap.size 2)=Uq (Uf (Uc k) S.n d)/\ w'.cell? (Ua w.heap.size 3)=Uq (Uf (Uc g') S'.l.length c')/\ w'.cell? (Ua w.heap.size 4)=Uq (Uf (Uc k') S'.n d'))):=hid (fun w' hB X=>⟨hB,X.c0,X.c1,X.c2,X.c3,X.c4⟩);refine zB i V.drew (b.bw zI.drew b.lt) (fun qh=> ?_);refine tZ 0 3 ?_;refine tZ 1 4 ?_;refine tZ 2 5 ?_;refine tZ 3 6 ?_;refine tZ 5 8 ?_;refine tZ 6 9 ?_;refine cZ 4 ?_;intro K j;go_simp;refine(H _ qh.1).mono ?_;rintro e w1 ⟨a,u,x,z,rfl,D,q⟩;have p:Bl W w1:=⟨q.os,q.tape,q.output,q.size,q.block⟩;have M:=Qaa V p;have E:=b.bw p b.lt;have U:=A.bw p A.lt;have F:SNu w1 W.heap.size a x S:=D;refine j.out _ _ (i _ M E) (fun qh=> ?_);clear j K;try simp only [zP]
 refine cZ 7 ?_;intro K j;go_simp;refine(I _ M).mono ?_;rintro e w2 ⟨m,y,x',t,rfl,R,r⟩;have O:=Qaa M r;have Y:=E.bw r E.lt;have G:=U.bw r U.lt;have P:=F.bw r;refine j.out _ _ (i _ O Y) (fun qh=> ?_);clear j K;try simp only [zP]
 refine tZ 8 11 ?_;obtain⟨J,L,N,B,C,T⟩:=G.p5;refine cZ 9 ?_;intro K j;go_simp;have Hc:w.heap.size+1<W.heap.size:=A.lt;have Ha:W.heap.size<=w1.heap.size:=p.size;have Hb:w1.heap.size<=w2.heap.size:=r.size;refine j.out _ _ (i _ ((((((O.setCell oP _).setCell oP _).setCell oP _).setCell oP _).setCell oP _)) (((((Y.setAt _ _ oP).setAt _ _ oP).setAt _ _ oP).setAt _ _ oP).setAt _ _ oP)) (fun qh=> ?_);clear j K;try simp only [zP]
 refine zD ?_;go_wp2_with fail;refine zF (v:=Uo #[Ud id,Uf a S.l.length u,Uf x S.n z,Uf m S'.l.length y,Uf x' S'.n t]) (by simp [results,results20,go_sem,J,L,N,B,C]) ?_;first|refine⟨a,u,x,z,m,y,x',⟨t,rfl⟩,?_,?_,?_⟩|refine⟨a,u,x,z,m,y,x',t,rfl,?_,?_,?_⟩
 ·refine SNu.move (lo:=W.heap.size) ?_ oM zL (fun _ _ _=>rfl);repeat (refine SNu.set ?_ _ _ oS)
  exact P
 ·refine SNu.move (lo:=w1.heap.size) ?_ oM zL (fun _ _ _=>rfl);repeat (refine SNu.set ?_ _ _ oS)
  exact R
 ·repeat (refine Below.setCell ?_ oP _)
  exact O
theorem SOw.nu{S:Sx}(h:SOw w lo hi a x d S)(hl:lo'<=lo):SNu w lo' a x S:=fun w2 h1 h2=>(h.same h1 (fun q q1 q2=>h2 q oM (Ut q2 h.hl.2))).at
theorem SNu.box {v W6:Ur}{A:Nat}{S:Sx}(h:SNu v lo a x S)(hs:v.heap.size<=W6.heap.size)(hA:A<lo \/v.heap.size<=A)(hq:∀q,q≠A ->q<v.heap.size ->W6.heap[q]? =v.heap[q]?):SAt W6 a x S:=h W6 hs (fun q h1 h2=>hq q oM h2)
def SmI (S:Sx):Prop:=S.Sm/\∀i,LfI (gL S.l i)
theorem QmH:SmI Sx.mt:=⟨⟨by simp [Sx.mt],fun i=>by simp [Sx.mt,gL],by simp [Sx.mt]⟩,fun i=>by
 have e:gL Sx.mt.l i=⟨[],false,0,0,ByteArray.empty⟩:=by simp [gL,Sx.mt]
 rw [e];exact⟨oD,oD⟩⟩
theorem QmM {S:Sx}(h1:S.l.length<=1000)(h2:S.n<=1000)(h3:∀x∈S.l,(0<=x.r/\ x.r<8)/\ (0<=x.q/\ x.q<=1000000000)/\ x.v.size<=200/\ x.p.length<=8):SmI S:=by
 refine⟨⟨oM,fun i=> ?_,oM⟩,fun i=> ?_⟩
 ·by_cases hi:i<S.l.length
  ·have:=h3 _ (Qaq.2 ⟨i,hi,rfl⟩);omega
  ·rw [Qpc hi];simp
 ·by_cases hi:i<S.l.length
  ·obtain⟨j,k,_⟩:=h3 _ (Qaq.2 ⟨i,hi,rfl⟩);exact⟨wfI oM oM,wfI oM oM⟩
  ·have e:gL S.l i=⟨[],false,0,0,ByteArray.empty⟩:=(by simp [gL,UR,hi]);rw [e];exact⟨oD,oD⟩
theorem QjL (D Y:Sx):SmI (jnZ D Y):=by
 cases h:jnB D Y with
 | false=>rw [Qhg h];exact QmH
 | true=>
  rw [Qn7 h];unfold jnB jnF at h;simp only [Bool.and_eq_true,decide_eq_true_eq] at h;exact QmM h.2.1 h.2.2 (fun x hx=>QjI (QgF h.1.1).w (QgF h.1.2).w x hx)
theorem Qp8 (a x:Option Us)(c d:Nat)(S:Sx)(w:Ur)(hm:S.Sm)(hi:∀i,LfI (gL S.l i))(h:SAt w a x S):
  Cl 128 #[Uo #[Uf a S.l.length c,Uf x S.n d]] w fun e w'=>(∃u0 u1 u2,e=Ui (Ul #[Uo #[.map u0,.map u1,.map u2],Un (stB S)])/\ (stB S=true ->∃x0 j,u0=Uq (Prod.fst x0)/\ u1=Uq (Prod.snd x0)/\ u2=Uq j/\ OpA w' x0 j S))/\ Bl w w':=by
 cases hb:stB S with
 | true=>
  refine(Qfl a c S.l x S.n d S.R S.F S.T w hm.l1 hm.p1 hi hm.n1 h.lf h.rn (QgF hb)).mono ?_;rintro e w' ⟨⟨x0,j,D,G,N,B,rfl,k,_,_,_,m,q,r⟩,b⟩;exact⟨⟨_,_,_,rfl,fun _=>⟨x0,j,rfl,rfl,rfl,S.n,D,G,N,B,(QgF hb).w.1.2,k,m,q,r⟩⟩,b⟩
 | false=>
  refine(Qev a c S.l x S.n d S.R S.F S.T w hm.l1 hm.p1 hi hm.n1 h.lf h.rn (QqJ hb)).mono ?_;rintro e w' ⟨rfl,b⟩;exact⟨⟨_,_,_,rfl,fun h=>by cases h⟩,b⟩
theorem QjG (a x a' x':Option Us)(c d c' d':Nat)(S S':Sx)(w:Ur)(hm:S.Sm)(hm':S'.Sm)(hi:∀i,LfI (gL S.l i))(hi':∀i,LfI (gL S'.l i))(h:SAt w a x S)(h':SAt w a' x' S'):
  Cl 133 #[Uo #[Uf a S.l.length c,Uf x S.n d],Uo #[Uf a' S'.l.length c',Uf x' S'.n d']] w fun e w'=>∃q b u r,e=Ui (Ul #[Uo #[Uf q (jnZ S S').l.length b,Uf u (jnZ S S').n r],Un (jnB S S')])/\ SOw w' w.heap.size w'.heap.size q u r (jnZ S S')/\ Bl w w':=by
 obtain⟨W,g⟩:=zE (((w.alloc (Uj #[Uf a S.l.length c,Uf x S.n d] 40)).alloc (Uj #[Uf a' S'.l.length c',Uf x' S'.n d'] 40)).alloc (Uj #[Ue,Ue] 40));have L:Bl w W:=g▸(Qak _ _ _).alloc oS _;have A0:Bx2 W w.heap.size (Uf a S.l.length c) (Uf x S.n d):=g▸((Bx2.made w _ _ _).allocs _).allocs _;have B0:Bx2 W (w.heap.size+1) (Uf a' S'.l.length c') (Uf x' S'.n d'):=by
  rw [<- g];have:=Bx2.made (w.alloc (Uj #[Uf a S.l.length c,Uf x S.n d] 40)) (Uf a' S'.l.length c') (Uf x' S'.n d') 40;exact(by simpa using this:Bx2 _ (w.heap.size+1) _ _).allocs _
 have R0:Bx2 W (w.heap.size+1+1) Ue Ue:=by
  rw [<- g];simpa using Bx2.made ((w.alloc (Uj #[Uf a S.l.length c,Uf x S.n d] 40)).alloc (Uj #[Uf a' S'.l.length c',Uf x' S'.n d'] 40)) Ue Ue 40
 have zW:W.heap.size=w.heap.size+3:=g▸oP;have T:=hid (Qp8 a x c d S W hm hi (h.bw L));have Ha:=hid (fun w1 (N:Bl W w1)=>Qp8 a' x' c' d' S' w1 hm' hi' ((h'.bw L).bw N));have H:=hid B0;have Hs:=hid R0;have Z:=hid L;have H5:=hid zW;obtain⟨k0,k1⟩:=A0.q2;obtain⟨V,hV⟩:=zE (stB S);obtain⟨V',Hj⟩:=zE (stB S');have Hg:=hid hV;have Hb:=hid Hj;rw [hV] at T;rw [Hj] at Ha;clear L A0 B0 R0 zW h h' hV Hj hi hi';go_enter func133,ntmps133;go_wp2_with fail;try rw [g]
 clear g;refine T.mono ?_;rintro e w1 ⟨⟨u0,u1,u2,rfl,Y⟩,N⟩;have Hq:=hid Y;obtain⟨w2,X⟩:=zE (w1.alloc (Uj #[.map u0,.map u1,.map u2] 176));have b2:Bl w1 w2:=X▸zO _ _;have Hw:Hid (Bx3 w2 w1.heap.size (.map u0) (.map u1) (.map u2)):=hid (X▸Bx3.made _ _ _ _ _);have O:=hid (Qaa N b2);have Hd:=hid b2;have H3:=hid (Z.trans (O.mono Z.size));have l0:=(H.bw O H.lt).c0;have l1:=(H.bw O H.lt).c1;clear N b2 Y k0 k1 T;go_wp2_with fail;try rw [X]
 clear X;refine(Ha w2 O).mono ?_;rintro e w3 ⟨⟨v0,v1,v2,rfl,Y⟩,b3⟩;have Hr:=hid Y;obtain⟨w4,C⟩:=zE (w3.alloc (Uj #[.map v0,.map v1,.map v2] 176));have b4:Bl w3 w4:=C▸zO _ _;have H0:Hid (Bx3 w4 w3.heap.size (.map v0) (.map v1) (.map v2)):=hid (C▸Bx3.made _ _ _ _ _);have He:=hid b4;have P:=hid (Qaa b3 b4);have Hv:=hid (Qaa O P);have A:=hid (Z.trans (Hv.mono Z.size));have k:=hid (Hs.bw Hv Hs.lt);clear b3 b4 Y l0 l1 Ha;cases V with
 | false=>
  have j:Hid (jnB S S'=false/\ jnZ S S'=Sx.mt):=hid (by
   have e:jnB S S'=false:=(by unfold jnB;rw [Hg.out];rfl);exact⟨e,Qhg e⟩)
  obtain⟨r0,r1⟩:=k.q2;have f0:=k.f 0;have f1:=k.f 1;have y:=hid (k.set Ue Ue);go_wp2_with fail;obtain⟨p,s⟩:=y.q2;refine zF (v:=Ul #[Uo #[Ue,Ue],Un false]) (by simp [results,results133,go_sem,p,s]) ⟨Up,0,Up,0,by rw [j.1,j.2];rfl,?_,?_⟩
  ·rw [j.2];exact SOw.emp _ _ _ _ _ (by simp [UC];exact A.size)
  ·exact(A.setCell oS _).setCell oS _
 | true=>
  cases V' with
  | false=>
   have j:Hid (jnB S S'=false/\ jnZ S S'=Sx.mt):=hid (by
    have e:jnB S S'=false:=(by unfold jnB;rw [Hb.out];simp);exact⟨e,Qhg e⟩)
   obtain⟨r0,r1⟩:=k.q2;have f0:=k.f 0;have f1:=k.f 1;have y:=hid (k.set Ue Ue);go_wp2_with fail;obtain⟨p,s⟩:=y.q2;refine zF (v:=Ul #[Uo #[Ue,Ue],Un false]) (by simp [results,results133,go_sem,p,s]) ⟨Up,0,Up,0,by rw [j.1,j.2];rfl,?_,?_⟩
   ·rw [j.2];exact SOw.emp _ _ _ _ _ (by simp [UC];exact A.size)
   ·exact(A.setCell oS _).setCell oS _
  | true=>
   obtain⟨x0,bm,rfl,rfl,rfl,o1⟩:=Hq rfl;obtain⟨y0,H6,rfl,rfl,rfl,o3⟩:=Hr rfl;have t:=QgF Hg;have o:=QgF Hb;have M:=hid (QjK w4 ((o1.bw Hd).bw P) (o3.bw He) t.w o.w);have Ho:Hid ((jnS S S').l.length<=2000/\ (jnU S S').length<=4000):=hid (Qm7 t.w o.w);have I:=hid (And.intro (QjJ t.w o.w) (And.intro (fun x hx=>(QjI t.w o.w x hx).2.2.2) (And.intro (Qq2 t.w o.w) (fun hl=>Qpu t.w o.w hl))));have X2:=Hw.bw P Hw.lt;obtain⟨p0,p1,p2⟩:=X2.q3;obtain⟨q0,q1,m⟩:=H0.q3;clear o1 o3 t o X2 Hq Hr;go_wp2_with fail;try rw [C]
   clear C;refine M.mono ?_;rintro e w5 ⟨⟨z0,bd,rfl,lv⟩,b5⟩;obtain⟨w6,D⟩:=zE (w5.alloc (Uj #[.map (Uq z0.1),.map (Uq z0.2),.map (Uq bd)] 176));have b6:Bl w5 w6:=D▸zO _ _;have X6:Bx3 w6 w5.heap.size (.map (Uq z0.1)) (.map (Uq z0.2)) (.map (Uq bd)):=D▸Bx3.made _ _ _ _ _;have Hx:=hid X6;have Hp:=hid (lv.bw b6);have Hc:=hid (Qaa b5 b6);have Hk:=hid (A.trans (Hc.mono A.size));have Ht:=hid (k.bw Hc k.lt);have J:=hid (Qop w6 Hp I.1 I.2.1 (oH Ho) (oH Ho));have Hm:Hid ((decide ((jnS S S').l.length<=1000) && decide ((jnU S S').length<=1000))=jnF S S'):=hid rfl;rw [Hm.out] at J;obtain⟨B,hB⟩:=zE (jnF S S');have R:=hid hB;rw [hB] at J;obtain⟨e0,e1,e2⟩:=X6.q3;clear lv b5 b6 X6 hB Hm p0 p1 p2 q0 q1 m M;go_wp2_with fail;try rw [D]
   clear D;refine J.mono ?_;rintro e F ⟨rfl,U⟩;have G:=hid (Hk.trans (U.mono Hk.size));have z:=hid (Ht.bw U Ht.lt);have X7:=Hx.bw U Hx.lt;have Hf:=hid (Hp.bw U);obtain⟨g0,g1,g2⟩:=X7.q3;clear U X7 e0 e1 e2 J;cases B with
   | false=>
    have j:Hid (jnB S S'=false/\ jnZ S S'=Sx.mt):=hid (by
     have e:jnB S S'=false:=(by unfold jnB;rw [R.out];simp);exact⟨e,Qhg e⟩)
    obtain⟨r0,r1⟩:=z.q2;have f0:=z.f 0;have f1:=z.f 1;have y:=hid (z.set Ue Ue);go_wp2_with fail;obtain⟨p,s⟩:=y.q2;refine zF (v:=Ul #[Uo #[Ue,Ue],Un false]) (by simp [results,results133,go_sem,p,s]) ⟨Up,0,Up,0,by rw [j.1,j.2];rfl,?_,?_⟩
    ·rw [j.2];exact SOw.emp _ _ _ _ _ (by simp [UC];exact G.size)
    ·exact(G.setCell oS _).setCell oS _
   | true=>
    have j:Hid (jnB S S'=true/\ jnZ S S'=jnS S S'):=hid (by
     have e:jnB S S'=true:=(by unfold jnB;rw [R.out,Hg.out,Hb.out];rfl);exact⟨e,Qn7 e⟩)
    have Hu:=hid (QmQ F Hf I.2.2.1 (I.2.2.2 (by have:=R.out;unfold jnF at this;simp at this;exact this.1)));obtain⟨K,Hh⟩:=zE ((jnS S S').l.length);obtain⟨E,Hi⟩:=zE ((jnU S S').length);rw [Hh,Hi] at Hu;have M:=hid Hh;have Hn:=hid Hi;clear Hh Hi;go_wp2_with fail;refine Hu.mono ?_;rintro e w8 ⟨⟨q,b,u,r,rfl,lb,fr,hz⟩,b8⟩;have Q:=z.bw b8 z.lt;obtain⟨r0,r1⟩:=Q.q2;have f0:=Q.f 0;have f1:=Q.f 1;have y:=hid (Q.set (Uf q K b) (Uf u E r));have Hl:=hid (G.trans (b8.mono G.size));have H1:Hid (w.heap.size+1+1<F.heap.size):=hid z.lt;have Hz:=hid lb;have Hy:=hid fr;have H4:=hid hz;clear lb fr hz b8 Q g0 g1 g2;go_wp2_with fail;obtain⟨p,s⟩:=y.q2;refine zF (v:=Ul #[Uo #[Uf q K b,Uf u E r],Un true]) (by simp [results,results133,go_sem,p,s]) ⟨q,b,u,r,by rw [j.1,j.2,M.out,show (jnS S S').n=E from Hn.out],?_,?_⟩
    ·rw [j.2];have H7:=H1.out;have H2:=Hl.size;have l9:=((Hz.set (Ua (w.heap.size+1+1) 0) (Uf q K b) oQ).set (Ua (w.heap.size+1+1) 1) (Uf u E r) oQ).low (show w.heap.size<=F.heap.size+2 by omega);have f9:=((Hy.setLow (Ua (w.heap.size+1+1) 0) (Uf q K b) oQ).setLow (Ua (w.heap.size+1+1) 1) (Uf u E r) oQ).weak (show w.heap.size<=F.heap.size+2 by omega);exact SOw.of (ul:=jnU S S') (by rw [M.out];exact l9) (by rw [show (jnS S S').n=E from Hn.out];exact f9) rfl rfl rfl rfl (by simp [UC];exact H2)
    ·exact(Hl.setCell oS _).setCell oS _
def JfP (S Y:Sx)(B:Bool)(w:Ur)(e:Ending)(w':Ur):Prop:=∃J ja jc jx jd er,e=Ui (Ul #[Uo #[Uf ja J.l.length jc,Uf jx J.n jd],er])/\ (B=true ->J=jnZ S Y)/\ (B=true/\ er=.nilIface \/B=false/\∃t u,er=.iface t u)/\ SOw w' w.heap.size w'.heap.size ja jx jd J/\ Bl w w'
theorem Qlv (a x a' x':Option Us)(c d c' d':Nat)(S Y:Sx)(w:Ur)(hm:SmI S)(hm':SmI Y)(h:SAt w a x S)(h':SAt w a' x' Y)(t:TypeId)(u:Value)(V:w.cell? (Ub 6)=Uq (.iface t u)):
  Cl 114 #[Uo #[Uf a S.l.length c,Uf x S.n d],Uo #[Uf a' Y.l.length c',Uf x' Y.n d']] w fun e w'=>JfP S Y (jnB S Y && QeI (jnZ S Y)) w e w':=by
 obtain⟨W,o⟩:=zE (((w.alloc (Uj #[Uf a S.l.length c,Uf x S.n d] 40)).alloc (Uj #[Uf a' Y.l.length c',Uf x' Y.n d'] 40)).alloc (Uj #[Ue,Ue] 40));have H:Bl w W:=o▸(Qak _ _ _).alloc oS _;have zW:W.heap.size=w.heap.size+3:=o▸oP;have A0:Bx2 W w.heap.size (Uf a S.l.length c) (Uf x S.n d):=o▸((Bx2.made w _ _ _).allocs _).allocs _;have D0:Bx2 W (w.heap.size+1) (Uf a' Y.l.length c') (Uf x' Y.n d'):=by
  rw [<- o];have:=Bx2.made (w.alloc (Uj #[Uf a S.l.length c,Uf x S.n d] 40)) (Uf a' Y.l.length c') (Uf x' Y.n d') 40;exact(by simpa using this:Bx2 _ (w.heap.size+1) _ _).allocs _
 have R0:Bx2 W (w.heap.size+1+1) Ue Ue:=by
  rw [<- o];simpa using Bx2.made ((w.alloc (Uj #[Uf a S.l.length c,Uf x S.n d] 40)).alloc (Uj #[Uf a' Y.l.length c',Uf x' Y.n d'] 40)) Ue Ue 40
 have HJ:=hid (QjG a x a' x' c d c' d' S Y W hm.1 hm'.1 hm.2 hm'.2 (h.bw H) (h'.bw H));have Hd:=QjL S Y;obtain⟨J,I⟩:=zE (jnZ S Y);obtain⟨B,hB⟩:=zE (jnB S Y);obtain⟨F,hF⟩:=zE (QeI J);rw [I,hB] at HJ;rw [I] at Hd;rw [hB];have Hf:(B && QeI (jnZ S Y))=(B && F):=by rw [I,hF]
 rw [Hf];clear Hf;have HF:=hid hF;have Hg:=hid I;have P:Hid (6<w.heap.size):=hid (block_lt_of_cell V);have He:=hid ((H.cell (p:=(Ub 6)) (block_lt_of_cell V)).trans V);have O:=hid R0;have T:=hid H;have HZ:Hid (w.heap.size+3<=W.heap.size):=hid oM;obtain⟨a0,a1⟩:=A0.q2;obtain⟨y0,D⟩:=D0.q2;clear H zW A0 D0 R0 h h' I hB hF V hm hm';go_enter func114,ntmps114;go_wp2_with fail;try rw [o]
 clear o;refine HJ.mono ?_;rintro e w4 ⟨s,A,M,E,rfl,o4,b4⟩;obtain⟨U,Q⟩:=zE (w4.alloc (Uj #[Uf s J.l.length A,Uf M J.n E] 40));have b5:Bl w4 U:=Q▸zO _ _;have J5:Bx2 U w4.heap.size (Uf s J.l.length A) (Uf M J.n E):=Q▸Bx2.made _ _ _ _;have HO:=hid (o4.bw b5);have R:=hid (Qaa b4 b5);have Hc:=hid J5;obtain⟨j0,j1⟩:=J5.q2;clear o4 b4 b5 J5 HJ a0 a1 y0 D;cases B with
 | false=>
  have y:=hid (Below.refl U.heap.size U);have j:=Qaa R y;have r:=O.bw j O.lt;have q:=hid r;have Z:=hid (Qaa T j);have Ha:Hid (∀w',Bl U w' ->(w'.cell? (Ub 6)=Uq (.iface t u)/\ w'.cell? (Ua (w.heap.size+1+1) 0)=Uq Ue/\ w'.cell? (Ua (w.heap.size+1+1) 1)=Uq Ue/\ (∀i,w'.frozen? (Ua (w.heap.size+1+1) i)=false))):=hid (fun w' hb=>by
   have z:=q.bw hb q.lt;have hz:=HZ.out;exact⟨((Qaa j hb).cell (p:=(Ub 6)) (by have:=P.out;show 6<W.heap.size;omega)).trans He,z.c0,z.c1,z.f⟩)
  clear j r;go_wp2_with fail;try rw [Q]
  clear Q;refine zS Ha (fun qh=> ?_);refine tZ 0 21 ?_;refine tZ 1 22 ?_;obtain⟨z0,b⟩:=zE U.drew;have g:Bl U z0:=b▸zI.drew;rw [b] at qh ⊢;clear b;obtain⟨N,m2,m3,m4⟩:=qh;have k:=q.bw g q.lt;have m:=k.set Ue Ue;have D:=(k.set0 Ue).c1;have yf:=(k.set0 Ue).f;refine cZ 2 ?_;intro K L;go_simp;have V:=P.out;refine L.out _ _ ⟨(by rw [UF _ _ _ _ oS,UF _ _ _ _ oS];exact N),m.c0,m.c1,m.f⟩ (fun qh=> ?_);clear L K;try simp only [zP]
  refine tZ 3 5 ?_;refine zD ?_;obtain⟨x0,C⟩:=m.q2;have G:=hid (((Qaa Z g).setCell (p:=(Ua (w.heap.size+1+1) 0)) oS Ue).setCell (p:=(Ua (w.heap.size+1+1) 1)) oS Ue);clear k m D yf N m2 m3 m4 g;go_wp2_with fail;refine zF (v:=Ul #[Uo #[Ue,Ue],.iface t u]) (by simp [results,results114,go_sem,x0,C]) ?_;exact⟨Sx.mt,Up,0,Up,0,.iface t u,rfl,(fun h=>by cases h),.inr ⟨rfl,t,u,rfl⟩,SOw.mt _ Sx.mt rfl rfl _ _ ⟨G.size,Uu _⟩ _ _ _,G⟩
 | true=>
  have Hb:=hid (Qqv s M A E J U Hd.2 Hd.1 HO.at);rw [HF.out] at Hb;go_wp2_with fail;try rw [Q]
  clear Q;refine Hb.mono ?_;rintro e X ⟨rfl,b6⟩;have y:=hid b6;clear b6 Hb;cases F with
  | false=>
   have j:=Qaa R y;have r:=O.bw j O.lt;have q:=hid r;have Z:=hid (Qaa T j);have Ha:Hid (∀w',Bl X w' ->(w'.cell? (Ub 6)=Uq (.iface t u)/\ w'.cell? (Ua (w.heap.size+1+1) 0)=Uq Ue/\ w'.cell? (Ua (w.heap.size+1+1) 1)=Uq Ue/\ (∀i,w'.frozen? (Ua (w.heap.size+1+1) i)=false))):=hid (fun w' hb=>by
    have z:=q.bw hb q.lt;have hz:=HZ.out;exact⟨((Qaa j hb).cell (p:=(Ub 6)) (by have:=P.out;show 6<W.heap.size;omega)).trans He,z.c0,z.c1,z.f⟩)
   clear j r;go_wp2_with fail;refine zS Ha (fun qh=> ?_);refine tZ 0 21 ?_;refine tZ 1 22 ?_;obtain⟨z0,b⟩:=zE X.drew;have g:Bl X z0:=b▸zI.drew;rw [b] at qh ⊢;clear b;obtain⟨N,m2,m3,m4⟩:=qh;have k:=q.bw g q.lt;have m:=k.set Ue Ue;have D:=(k.set0 Ue).c1;have yf:=(k.set0 Ue).f;refine cZ 2 ?_;intro K L;go_simp;have V:=P.out;refine L.out _ _ ⟨(by rw [UF _ _ _ _ oS,UF _ _ _ _ oS];exact N),m.c0,m.c1,m.f⟩ (fun qh=> ?_);clear L K;try simp only [zP]
   refine tZ 3 5 ?_;refine zD ?_;obtain⟨x0,C⟩:=m.q2;have G:=hid (((Qaa Z g).setCell (p:=(Ua (w.heap.size+1+1) 0)) oS Ue).setCell (p:=(Ua (w.heap.size+1+1) 1)) oS Ue);clear k m D yf N m2 m3 m4 g;go_wp2_with fail;refine zF (v:=Ul #[Uo #[Ue,Ue],.iface t u]) (by simp [results,results114,go_sem,x0,C]) ?_;exact⟨Sx.mt,Up,0,Up,0,.iface t u,rfl,(fun h=>by cases h),.inr ⟨rfl,t,u,rfl⟩,SOw.mt _ Sx.mt rfl rfl _ _ ⟨G.size,Uu _⟩ _ _ _,G⟩
  | true=>
   have j:=Qaa R y;have r:=O.bw j O.lt;have J6:=Hc.bw y Hc.lt;obtain⟨j0,j1⟩:=J6.q2;obtain⟨r0,r1,rf⟩:=r.p2;have k:=hid (r.set (Uf s J.l.length A) (Uf M J.n E));have Z:=hid (Qaa T j);have Hh:=hid (HO.bw y);have Hi:Hid (w4.heap.size<=X.heap.size/\ W.heap.size<=X.heap.size):=hid ⟨by have h1:=y.size;have h2:=Hc.lt;omega,j.size⟩;clear j r J6;go_wp2_with fail;obtain⟨x0,C⟩:=k.q2;refine zF (v:=Ul #[Uo #[Uf s J.l.length A,Uf M J.n E],.nilIface]) (by simp [results,results114,go_sem,x0,C]) ?_;have hz:=HZ.out;have G1:=(Hh.set (Ua (w.heap.size+1+1) 0) (Uf s J.l.length A) (.inl (by show w.heap.size+1+1<_;omega))).set (Ua (w.heap.size+1+1) 1) (Uf M J.n E) (.inl (by show w.heap.size+1+1<_;omega));exact⟨J,s,A,M,E,.nilIface,rfl,fun _=>Hg.symm,.inl ⟨rfl,rfl⟩,G1.wide oM (by have:=Hi.out;simp [UC];omega) zL,(Z.setCell (p:=(Ua (w.heap.size+1+1) 0)) oS _).setCell (p:=(Ua (w.heap.size+1+1) 1)) oS _⟩
theorem Qom (a:Option Us)(n c:Nat)(f:Nat ->Int)(w:Ur)(hn:n<=1048576)(hf:Byt f)(h:Seg w a n f):
  Cl 29 #[Uf a n c] w fun e w'=>e=Ui (Uf (Uc w.heap.size) n n)/\ Seg w' (Uc w.heap.size) n f/\ Bl w w'/\ w.heap.size<w'.heap.size/\∃xs,w'.ownsRow w.heap.size 5 1 (Uf (Uc w.heap.size) n n) n xs:=by
 obtain⟨u,hi,g,t,E⟩:=info_parts Tryz.infoByte;have y:n<=maxLen:=oL;have v:u.bytes*n<=281474976710656:=by rw [E];omega
 rcases h with h|⟨b,off,rfl,s,A⟩
 ·subst h;go_enter func29,ntmps29;go_wp2_with (at_make;refine wpList_make_full _ rfl _ _ 30 rfl w.heap.size 5 u (Ug .u8 0) 1 underlying30 hi g t _ _ _ _ 0 rfl rfl rfl rfl v y (Uu _) ?_;intro w1 j q);refine wp_loop_rounds 1 ?_;rw [rounds_succ];go_wp2;go_ret;exact⟨rfl,.inl rfl,(Below.refl _ _).grown q (Uu _) (fun _ h=>by cases h),(j.lt _ rfl).2,_,j⟩
 ·go_enter func29,ntmps29;go_wp2_with (at_make;refine wpList_make_full _ rfl _ _ 30 rfl w.heap.size 5 u (Ug .u8 0) 1 underlying30 hi g t _ _ _ _ n rfl rfl rfl rfl v y (Uu _) ?_;intro w1 j q);have m:Bl w w1:=(Below.refl _ _).grown q (Uu _) (fun _ h=>by cases h);have z:w1.ownsRow w.heap.size 5 1 (Uf (Uc w.heap.size) n n) n (Qb0 (mix f 0) n):=by
   have e:(madeCells (Value.int .u8 0).cells (n*1)).toList=Qb0 (mix f 0) n:=(by rw [Nat.mul_one];exact QgO f n);rw [e] at j;exact j
  clear j q;go_loopw [4] (fun i wr=>∃k:Nat,k<=n/\ i=Ud k/\ wr.ownsRow w.heap.size 5 1 (Uf (Uc w.heap.size) n n) n (Qb0 (mix f k) n)/\ Bl w wr) (fun i _=>n - (intOf i).toNat);case atStart=>exact⟨0,Uv _,rfl,z,m⟩
  case round=>
   clear z m;obtain⟨k,Q,rfl,j,m⟩:=hrel;by_cases r:k<n
   ·have M:wr.cell? (Ua b (off+k))=Uq (Ug .u8 (f k)):=(m.cell (p:=(Ua b (off+k))) s).trans (A k r);have U:wr.cell? (Ua w.heap.size k)=Uq (Ug .u8 (mix f k k)):=(by rw [j.cellAt k oM,Qcr _ _ _ r]);have V:=j.frozenAt k;have R:=(j.stored k (Ug .u8 (f k))).1;rw [Qi3 f n k r] at R;have o:=m.setCell (p:=(Ua w.heap.size k)) (Uu _) (Ug .u8 (f k));have O:=hf k;clear j;go_wp2;go_roundw;case rel=>exact⟨k+1,r,oN,R,o⟩
    case measure=>exact oE
   ·obtain rfl:k=n:=oM;go_wp2;go_ret;exact⟨rfl,Qof j,m,(j.lt _ rfl).2,_,j⟩
def gz (zs:List Int)(i:Nat):Int:=zs.getD i 0
theorem QjA(h:∀z∈zs,0<=z/\ z<256):Byt (gz zs):=by
 intro i;show 0<=zs.getD i 0/\ zs.getD i 0<256;by_cases hi:i<zs.length
 ·have e:zs.getD i 0=zs[i]:=by simp [UR,hi]
  rw [e];exact h _ (List.getElem_mem hi)
 ·have e:zs.getD i 0=0:=by simp [UR,US (Yb hi)]
  rw [e];omega
theorem QqP (w:Ur)(o o':Obj):Bl w ((w.alloc o).alloc o'):=(zO _ _).alloc oP _
abbrev Fx:=Int×Value×List Int
def gFx (l:List Fx)(i:Nat):Fx:=l.getD i (0,Ue,[])
def QcA (l:List Fx):List Value:=l.flatMap fun x=>[Ud x.1,x.2.1]
def QiN (x:Fx):Int×List Int:=(x.1,x.2.2)
def FxS (w:Ur)(a:Option Us)(l:List Fx):Prop:=
 l.length=0 \/∃g off,a=Uq (Ua g off)/\ g<w.heap.size/\∀i,i<l.length ->w.cell? (Ua g (off+i*2))=Uq (Ud (gFx l i).1)/\ w.cell? (Ua g (off+i*2+1))=Uq (gFx l i).2.1/\∃pa cap,(gFx l i).2.1=Uf pa (gFx l i).2.2.length cap/\ Seg w pa (gFx l i).2.2.length (gz (gFx l i).2.2)
theorem FxS.bw{l:List Fx}(h:FxS w a l)(hb:Bl w w1):FxS w1 a l:=by
 refine h.imp id ?_;rintro⟨g,o,e,k,v⟩;refine⟨g,o,e,Ut k hb.size,fun j hj=> ?_⟩;obtain⟨m,q,y,cap,r,u⟩:=v j hj;exact⟨(hb.cell (p:=(Ua g _)) k).trans m,(hb.cell (p:=(Ua g _)) k).trans q,y,cap,r,u.bw hb⟩
theorem Qpb {l l':List Fx}(h:l.map QiN=l'.map QiN)(hi:i<l.length):(gFx l i).1=(gFx l' i).1/\ (gFx l i).2.2=(gFx l' i).2.2:=by
 have k:l.length=l'.length:=by have:=congrArg JD h;simpa using this
 have j:=congrArg (fun z=>z.getD i (0,[])) h;simp [UR,hi,k▸hi,QiN] at j;simp [gFx,UR,hi,k▸hi];exact j
theorem QhN (k:Int)(a a':Option Us)(n c c':Nat)(f:Nat ->Int)(w:Ur)(hn:n<=1048576)(h:Seg w a n f)(h':Seg w a' n f):
  Cl 12 #[Uo #[Ud k,Uf a n c],Uo #[Ud k,Uf a' n c']] w (Rt w (Un true)):=by
 have j:Hid (Bl w ((w.alloc (Uj #[Ud k,Uf a n c] 47)).alloc (Uj #[Ud k,Uf a' n c'] 47))):=QqP _ _ _;have m:=hid (QqQ a a' n c c' f _ oM (h.bw j) (h'.bw j));clear h h';go_enter func12,ntmps12;go_wp2_with fail;refine m.mono ?_;rintro e w1 ⟨rfl,q⟩;have r:=hid (Qaa j q);clear q m;go_wp2_with fail;go_ret;exact⟨rfl,r⟩
theorem Qea (a a':Option Us)(c c':Nat)(l l':List Fx)(w:Ur)(hl:l.length<=1048576)(hb:∀i,(gFx l i).2.2.length<=1048576)(h:FxS w a l)(y:FxS w a' l')(he:l.map QiN=l'.map QiN):
  Cl 11 #[Uf a l.length c,Uf a' l'.length c'] w (Rt w (Un true)):=by
 have V:l'.length=l.length:=by have:=congrArg JD he;simpa using this.symm
 rw [V];have HE:=hid he;have HL:=hid hb;have B:=hid V;clear he hb V;obtain⟨n,Y⟩:=zE l.length;have v:=hid Y;rw [Y] at hl ⊢;clear Y;rcases h with h|⟨g,off,rfl,Q,O⟩
 ·have M:n=0:=by rw [<- v.out];exact h
  subst M;clear y;go_enter func11,ntmps11;go_wp2;refine wp_loop_rounds 1 ?_;rw [rounds_succ];go_wp2;go_ret;exact⟨rfl,zI⟩
 ·rcases y with y|⟨m,u,rfl,U,F⟩
  ·have M:n=0:=(by rw [<- v.out,<- B.out];exact y);subst M;clear O;go_enter func11,ntmps11;go_wp2;refine wp_loop_rounds 1 ?_;rw [rounds_succ];go_wp2;go_ret;exact⟨rfl,zI⟩
  ·have HC:=hid O;have Hc:=hid F;clear O F;go_enter func11,ntmps11;go_wp2;go_loopw [5] (fun i wr=>∃k:Nat,k<=n/\ i=Ud k/\ Bl w wr) (fun i _=>n - (intOf i).toNat);case atStart=>exact⟨0,Uv _,rfl,zI⟩
   case round=>
    obtain⟨k,hk,rfl,j⟩:=hrel;by_cases z:k<n
    ·obtain⟨G,t,T,cap,q3,H⟩:=HC k (by rw [v.out];exact z);obtain⟨o,b,W,C,r3,s⟩:=Hc k (by rw [B.out,v.out];exact z);obtain⟨s1,I⟩:=Qpb HE (show k<l.length by rw [v.out];exact z);rw [q3] at t;rw [r3,<- I] at b;rw [<- s1] at o;rw [<- I] at s;have Hf:=HL k;clear q3 r3 s1 I;obtain⟨Z,P⟩:=zE ((gFx l k).1);obtain⟨A,R⟩:=zE ((gFx l k).2.2);rw [P] at G o;rw [R] at t b H s Hf;clear P R;have J:=(j.cell (p:=(Ua g (off+k*2))) Q).trans G;have L:=(j.cell (p:=(Ua g (off+k*2+1))) Q).trans t;have N:=(j.cell (p:=(Ua m (u+k*2))) U).trans o;have X:=(j.cell (p:=(Ua m (u+k*2+1))) U).trans b;have Hd:=hid (H.bw j);have He:=hid (s.bw j);have E:=hid j;clear G t H o b s j;go_wp2;refine zR (S:=fun w'=>w'.cell? (Ua g (off+k*2))=Uq (Ud Z)/\ w'.cell? (Ua g (off+k*2+1))=Uq (Uf T A.length cap)/\ w'.cell? (Ua m (u+k*2))=Uq (Ud Z)/\ w'.cell? (Ua m (u+k*2+1))=Uq (Uf W A.length C)) ⟨J,L,N,X⟩ (fun qh=> ?_);refine tZ 0 17 ?_;refine tZ 1 18 ?_;refine tZ 2 19 ?_;refine tZ 3 20 ?_;refine tZ 4 21 ?_;refine tZ 5 22 ?_;refine tZ 6 23 ?_;refine tZ 7 24 ?_;refine cZ 8 ?_;intro K D;go_simp;refine(QhN Z T W A.length cap C (gz A) _ oM (by exact Hd) (by exact He)).mono ?_;rintro e w1 ⟨rfl,q⟩;have r:Bl wr w1:=⟨q.os,q.tape,q.output,q.size,q.block⟩;have zg:g<wr.heap.size:=Ut Q E.size;have Ha:m<wr.heap.size:=Ut U E.size;have Hb:=hid (Qaa E r);have t1:=(r.cell (p:=(Ua g (off+k*2))) zg).trans J;have t2:=(r.cell (p:=(Ua g (off+k*2+1))) zg).trans L;have t3:=(r.cell (p:=(Ua m (u+k*2))) Ha).trans N;have t4:=(r.cell (p:=(Ua m (u+k*2+1))) Ha).trans X;refine D.out _ _ ⟨t1,t2,t3,t4⟩ (fun qh=> ?_);clear D K;try simp only [zP]
     refine tZ 9 26 ?_;refine zD ?_;clear qh q r J L N X t1 t2 t3 t4;go_wp2;go_roundw;case rel=>exact⟨k+1,z,oN,Hb⟩
     case measure=>exact oE
    ·obtain rfl:k=n:=oM;go_wp2;go_ret;exact⟨rfl,j⟩
theorem QmF (B g n cap:Nat)(k0:Nat)(ys:List Value)(w:Ur)(hk0:k0<=9000000000000)(hn1:n<=9000000000000)(ho:w.ownsRow B 5 1 (Uf (Uc g) n cap) n ys):
  Cl 36 #[Uf (Uc g) n cap,Ud (k0:Int)] w fun e w'=>e=Ui (Ud ((k0+n:Nat):Int))/\ Below B w w'/\ w'.heap.size=w.heap.size/\ Seg w' (Uc g) n (mk8 k0)/\ (∀b,b≠g ->w'.heap[b]? =w.heap[b]?):=by
 go_enter func36,ntmps36;go_wp2_with fail;go_loopw [1,5] (fun k i wr=>∃j:Nat,j<=n/\ i=Ud (j:Int)/\ k=Ud ((k0+j:Nat):Int)/\ Below B w wr/\ wr.heap.size=w.heap.size/\ (∀b,b≠g ->wr.heap[b]? =w.heap[b]?)/\∃xs:List Value,wr.ownsRow B 5 1 (Uf (Uc g) n cap) n xs/\∀t,t<j ->xs[t]? =Uq (Ug .u8 (mk8 k0 t))) (fun _ i _=>n - (intOf i).toNat);case atStart=>exact⟨0,Uv _,rfl,rfl,Below.refl _ _,rfl,fun _ _=>rfl,_,ho,fun t Q=>oM⟩
 case round=>
  clear ho;obtain⟨j,V,rfl,rfl,o,A,r,xs,m,v⟩:=hrel;by_cases O:j<n
  ·have U:=m.frozenAt j;obtain⟨u,Y⟩:∃u,wr.cell? (Ua g j)=Uq u:=by
    rw [m.cellAt j oM];have:=m.1;exact⟨_,JE oM⟩
   have R:=(m.stored j (Ug .u8 (((k0:Int)+(j:Int))%256))).1;have h:∀t,t<j+1 ->(xs.set j (Ug .u8 (((k0:Int)+(j:Int))%256)))[t]? =Uq (Ug .u8 (mk8 k0 t)):=by
    intro t Q;by_cases E:j=t
    ·subst E;have:=m.1;rw [UQ oM];unfold mk8;simp
    ·rw [UP E];exact v t oM
   have y:=o.setCell (p:=(Ua g j)) (m.lt g rfl).1 (Ug .u8 (((k0:Int)+(j:Int))%256));have z:(wr.setCell (Ua g j) (Ug .u8 (((k0:Int)+(j:Int))%256))).heap.size=w.heap.size:=(by rw [<- A];simp [UC]);have M:Hid (∀b,b≠g ->(wr.setCell (Ua g j) (Ug .u8 (((k0:Int)+(j:Int))%256))).heap[b]? =w.heap[b]?):=fun b hb=>(Below.heap_setCell _ _ _ _ hb).trans (r b hb);have q:=hid (And.intro R (And.intro h (And.intro y z)));clear R h y z m v r;go_wp2_with fail;go_roundw;case rel=>exact⟨j+1,O,oN,oN,q.2.2.1,q.2.2.2,M,_,q.1,q.2.1⟩
   case measure=>exact oE
  ·obtain rfl:j=n:=oM;have s:Seg wr (Uc g) j (mk8 k0):=.inr ⟨g,0,rfl,(m.lt g rfl).2,fun i hi=>by rw [Uw,m.cellAt i oM];exact v i hi⟩;have q:=hid (And.intro s r);clear m v s r;go_wp2_with fail;go_ret;exact⟨rfl,o,A,q.1,q.2⟩
theorem Qpm (a:Option Us)(n cap k0:Nat)(w:Ur)(hk0:k0<=9000000000000)(hn1:n<=9000000000000)(h:Seg w a n (mk8 k0)):
  Cl 38 #[Uf a n cap,Ud (k0:Int)] w fun e w'=>e=Ui (Ud ((k0+n:Nat):Int))/\ w'=w:=by
 rcases h with h|⟨b,off,rfl,r,m⟩
 ·subst h;go_enter func38,ntmps38;go_wp2;refine wp_loop_rounds 1 ?_;rw [rounds_succ];go_wp2;go_ret;exact⟨rfl,rfl⟩
 ·go_enter func38,ntmps38;go_wp2;go_loop [1,5] (fun k i=>∃j:Nat,j<=n/\ i=Ud (j:Int)/\ k=Ud ((k0+j:Nat):Int)) (fun _ i=>n - (intOf i).toNat);case atStart=>exact⟨0,Uv _,rfl,rfl⟩
  case round=>
   obtain⟨j,v,rfl,rfl⟩:=hrel;by_cases q:j<n
   ·have u:w.cell? (Ua b (off+j))=Uq (Ug .u8 (((k0:Int)+(j:Int))%256)):=(by rw [m j q];unfold mk8;simp);clear m;go_wp2;go_round;case rel=>exact⟨j+1,q,oN,oN⟩
    case measure=>exact oE
   ·obtain rfl:j=n:=oM;go_wp2;go_ret;exact⟨rfl,rfl⟩
def Qbt (k0:Nat)(l:List Fx)(i:Nat):Nat:=k0+((l.take i).map (fun x=>1+x.2.2.length)).sum
theorem Qcy (k0:Nat)(l:List Fx):Qbt k0 l 0=k0:=by simp [Qbt]
theorem Qdw (k0:Nat)(l:List Fx)(i:Nat)(hi:i<l.length):Qbt k0 l (i+1)=Qbt k0 l i+1+(gFx l i).2.2.length:=by
 have e:l.take (i+1)=l.take i++[gFx l i]:=by
  rw [List.take_add_one];simp [gFx,UR,hi]
 unfold Qbt;rw [e,Vl,List.sum_append];simp;omega
theorem Qfk (k0:Nat)(l:List Fx):∀j i,i+j<=l.length ->Qbt k0 l i<=Qbt k0 l (i+j)
 | 0,i,_=>Uu _
 | j+1,i,h=>by
  have:=Qfk k0 l j i oM;have k:=Qdw k0 l (i+j) oM;rw [show i+(j+1)=i+j+1 from rfl];omega
theorem QdK (k0:Nat)(l:List Fx)(hi:i<=l.length):Qbt k0 l i<=Qbt k0 l l.length:=by
 have:=Qfk k0 l (l.length - i) i oM;rwa [show i+(l.length - i)=l.length by omega] at this
def FxM (w:Ur)(a:Option Us)(l:List Fx)(k0:Nat):Prop:=
 l.length=0 \/∃g off,a=Uq (Ua g off)/\ g<w.heap.size/\∀i,i<l.length ->w.cell? (Ua g (off+i*2))=Uq (Ud (Qbt k0 l i:Nat))/\ w.cell? (Ua g (off+i*2+1))=Uq (gFx l i).2.1/\∃pa cap,(gFx l i).2.1=Uf pa (gFx l i).2.2.length cap/\ Seg w pa (gFx l i).2.2.length (mk8 (Qbt k0 l i+1))
theorem FxM.bw{l:List Fx}{k0:Nat}(h:FxM w a l k0)(hb:Bl w w1):FxM w1 a l k0:=by
 refine h.imp id ?_;rintro⟨g,o,e,k,v⟩;refine⟨g,o,e,Ut k hb.size,fun j hj=> ?_⟩;obtain⟨m,q,y,cap,r,u⟩:=v j hj;exact⟨(hb.cell (p:=(Ua g _)) k).trans m,(hb.cell (p:=(Ua g _)) k).trans q,y,cap,r,u.bw hb⟩
theorem QgZ (a:Option Us)(c k0:Nat)(l:List Fx)(w:Ur)(hl:l.length<=1048576)(hk:Qbt k0 l l.length<=9000000000000)(h:FxM w a l k0):
  Cl 17 #[Uf a l.length c,Ud (k0:Int)] w (Rt w (Ud (Qbt k0 l l.length:Nat))):=by
 have D:k0<=9000000000000:=by have:=QdK k0 l (Uv _);rw [Qcy] at this;omega
 have s:=hid (fun i (hi:i<l.length)=>Qdw k0 l i hi);have u:=hid (fun i (hi:i<=l.length)=>Ux (QdK k0 l hi) hk);have A:=hid (Qcy k0 l);obtain⟨P,E⟩:=zE (Qbt k0 l);have o:Hid (l.length=0 \/∃g off,a=Uq (Ua g off)/\ g<w.heap.size/\∀i,i<l.length ->w.cell? (Ua g (off+i*2))=Uq (Ud (P i:Nat))/\ w.cell? (Ua g (off+i*2+1))=Uq (gFx l i).2.1/\∃y cap,(gFx l i).2.1=Uf y (gFx l i).2.2.length cap/\ Seg w y (gFx l i).2.2.length (mk8 (P i+1))):=E▸hid h;rw [E] at s u A ⊢;clear h E hk;obtain⟨n,Y⟩:=zE l.length;rw [Y] at o s u hl ⊢;clear Y;rcases o.out with h|⟨g,off,rfl,M,V⟩
 ·subst h;rw [A.out];go_enter func17,ntmps17;go_wp2;refine wp_loop_rounds 1 ?_;rw [rounds_succ];go_wp2;go_ret;exact⟨rfl,zI⟩
 ·have H:=hid V;clear V o;go_enter func17,ntmps17;go_wp2;go_loopw [1,5] (fun k i wr=>∃j:Nat,j<=n/\ i=Ud (j:Int)/\ k=Ud (P j:Nat)/\ Bl w wr) (fun _ i _=>n - (intOf i).toNat);case atStart=>exact⟨0,Uv _,rfl,by rw [A.out],zI⟩
  case round=>
   obtain⟨j,K,rfl,rfl,q⟩:=hrel;have N:=u j K;by_cases v:j<n
   ·obtain⟨Q,z,y,cap,Z,t⟩:=H j v;have r:=s j v;have X:=u (j+1) v;rw [Z] at z;obtain⟨L,U⟩:=zE ((gFx l j).2.2.length);rw [U] at z t r;clear Z U;obtain⟨m,O⟩:=zE (P j);rw [O] at Q t r N ⊢;have R:=(q.cell (p:=(Ua g (off+j*2))) M).trans Q;have S:=(q.cell (p:=(Ua g (off+j*2+1))) M).trans z;have I:=hid (t.bw q);have G:=hid q;have T:g<wr.heap.size:=Ut M q.size;have J:=hid r;have B:=hid O;rw [r] at X;clear Q z t q r O;have b:=hid (Qpm y L cap (m+1) wr oM oM I);rw [show ((m+1:Nat):Int)=(m:Int)+1 by push_cast;rfl,show ((m+1+L:Nat):Int)=(m:Int)+1+(L:Int) by push_cast;rfl] at b;have F:IntKind.i64.wrap ((m:Int)+1)=(m:Int)+1:=(by rw [UY];omega);have C:decide ((m:Int)+1+(L:Int)<0)=false:=oS;go_wp2_with fail;refine b.mono ?_;rintro e w1 ⟨rfl,rfl⟩;clear b;go_wp2_with fail;go_roundw;case rel=>exact⟨j+1,v,oN,by rw [J.out];push_cast;rfl,G⟩
    case measure=>exact oE
   ·obtain rfl:j=n:=oM;go_wp2;go_ret;exact⟨rfl,q⟩
structure FxR (w:Ur)(B:Nat)(v:Value)(l:List Fx):Prop where
 row:w.ownsRow B 47 2 v l.length (QcA l)
 pay:∀i,i<l.length ->Own w B (gFx l i).2.1 (gFx l i).2.2
 far:∀i,i<l.length ->∀b,(gFx l i).2.1.ownBlock=Uq b ->v.ownBlock≠Uq b
 dis:∀i j,i<l.length ->j<l.length ->i≠j ->∀b,(gFx l i).2.1.ownBlock=Uq b ->(gFx l j).2.1.ownBlock≠Uq b
theorem QcB:∀(l:List Fx) (i:Nat),i<l.length ->(QcA l)[i*2]? =Uq (Ud (gFx l i).1)/\ (QcA l)[i*2+1]? =Uq (gFx l i).2.1:=by
 intro l;induction l with
 | nil=>intro i hi;simp at hi
 | cons a l ih=>
  intro i hi;cases i with
  | zero=>simp [QcA,gFx]
  | succ i=>
   have:=ih i (oW hi);have e:QcA (a::l)=Ud a.1::a.2.1::QcA l:=(by simp [QcA]);rw [e,show (i+1)*2=i*2+1+1 from by omega];simpa [gFx] using this
theorem FxR.fxs{l:List Fx}(h:FxR w B v l):∃a c,v=Uf a l.length c/\ FxS w a l:=by
 rcases h.row.2 with ⟨e,k⟩|⟨g,cap,y,e,z,_⟩
 ·exact⟨Up,0,by rw [e,k],.inl k⟩
 ·refine⟨_,cap,e,.inr ⟨g,0,rfl,(World.ownsRow.lt h.row g (by rw [e];rfl)).2,fun i hi=> ?_⟩⟩;have j:=h.row;rw [e] at j;obtain⟨q,r,m,u⟩:=(h.pay i hi).any;rw [Uw];refine⟨?_,?_,q,r,m,u⟩
  ·rw [j.cellAt _ oM];exact(QcB l i hi).1
  ·rw [j.cellAt _ oM];exact(QcB l i hi).2
theorem Qis(h:Seg w pa n f)(hs:w.heap.size<=w'.heap.size)(hk:∀b,(Value.slice pa n cap).ownBlock=Uq b ->w'.heap[b]? =w.heap[b]?):Seg w' pa n f:=by
 rcases h with h|⟨b,off,rfl,j,k⟩
 ·exact .inl h
 ·exact .inr ⟨b,off,rfl,Ut j hs,fun i hi=>(UB (a:=(Ua b (off+i))) (hk b rfl)).trans (k i hi)⟩
theorem Ql5(h:Own w B v zs)(hl:zs.length<=9000000000000)(k0:Nat)(hk0:k0<=9000000000000):
  Cl 36 #[v,Ud (k0:Int)] w fun e w'=>e=Ui (Ud ((k0+zs.length:Nat):Int))/\ Below B w w'/\ w'.heap.size=w.heap.size/\ (∀b,v.ownBlock≠YO b ->w'.heap[b]? =w.heap[b]?)/\ (∃a cap,v=Uf a zs.length cap/\ Seg w' a zs.length (mk8 k0)):=by
 by_cases j:zs=[]
 ·subst j;obtain⟨a,cap,rfl,s⟩:=h.any;refine(QmE a cap k0 w).mono ?_;rintro e w' ⟨rfl,rfl⟩;exact⟨oP,zI,rfl,fun _ _=>rfl,a,cap,rfl,.inl rfl⟩
 ·obtain⟨g,cap,rfl,_,_,_,_,_,s⟩:=h.shape j;refine(QmF B g zs.length cap k0 _ w oM oM h).mono ?_;rintro e w' ⟨rfl,b,z,s,o⟩;exact⟨rfl,b,z,fun b hb=>o b (fun e=>hb (by rw [e];rfl)),_,cap,rfl,s⟩
structure MkI (w wr:Ur)(B g n cap:Nat)(l:List Fx)(P:Nat ->Nat)(j:Nat):Prop where
 bel:Below B w wr
 sz:wr.heap.size=w.heap.size
 oth:∀b,b≠g ->(∀i,i<n ->(gFx l i).2.1.ownBlock≠Uq b) ->wr.heap[b]? =w.heap[b]?
 row:∃xs:List Value,wr.ownsRow B 47 2 (Uf (Uc g) n cap) n xs/\ (∀i,i<n ->xs[i*2+1]? =Uq (gFx l i).2.1)/\ (∀i,i<j ->xs[i*2]? =Uq (Ud (P i:Nat)))
 done:∀i,i<j ->∃pa pc,(gFx l i).2.1=Uf pa (gFx l i).2.2.length pc/\ Seg wr pa (gFx l i).2.2.length (mk8 (P i+1))
 left:∀i,j<=i ->i<n ->Own wr B (gFx l i).2.1 (gFx l i).2.2
theorem MkI.kind{l:List Fx}{P:Nat ->Nat}(h:MkI w wr B g n cap l P j)(hj:j<n)(hfar:∀i,i<n ->∀b,(gFx l i).2.1.ownBlock=Uq b ->b≠g):
  (wr.setCell (Ua g (j*2)) (Ud (P j:Nat))).heap.size=w.heap.size/\ Below B w (wr.setCell (Ua g (j*2)) (Ud (P j:Nat)))
  /\ (∀b,b≠g ->(wr.setCell (Ua g (j*2)) (Ud (P j:Nat))).heap[b]? =wr.heap[b]?)
  /\ (∃xs:List Value,(wr.setCell (Ua g (j*2)) (Ud (P j:Nat))).ownsRow B 47 2 (Uf (Uc g) n cap) n xs/\ (∀i,i<n ->xs[i*2+1]? =Uq (gFx l i).2.1)/\ (∀i,i<j+1 ->xs[i*2]? =Uq (Ud (P i:Nat))))
  /\ Own (wr.setCell (Ua g (j*2)) (Ud (P j:Nat))) B (gFx l j).2.1 (gFx l j).2.2:=by
 obtain⟨xs,m,r,q⟩:=h.row;refine⟨by rw [<- h.sz];simp [UC],h.bel.setCell (p:=(Ua g (j*2))) (m.lt g rfl).1 _,fun b hb=>zH _ _ _ _ hb,⟨_,(m.stored (j*2) (Ud (P j:Nat))).1,fun i hi=> ?_,fun i hi=> ?_⟩,?_⟩
 ·rw [UP oM];exact r i hi
 ·by_cases e:j=i
  ·subst e;have:=m.1;rw [UQ oM]
  ·rw [UP oM];exact q i oM
 ·exact(h.left j zL hj).gr (row:=Uq g) ⟨rfl,rfl,rfl,by simp [UC],fun k q hne=>zH _ _ _ _ (fun e=>hne (by rw [e]))⟩ (fun b hb e=>by injection e with e;exact hfar j hj b hb e)
theorem MkI.next {w2:Ur}{l:List Fx}{P:Nat ->Nat}(h:MkI w wr B g n cap l P j)(hj:j<n)
  (hfar:∀i,i<n ->∀b,(gFx l i).2.1.ownBlock=Uq b ->b≠g) (hdis:∀i j,i<n ->j<n ->i≠j ->∀b,(gFx l i).2.1.ownBlock=Uq b ->(gFx l j).2.1.ownBlock≠Uq b)
  (z1:w1.heap.size=w.heap.size) (b1:Below B w w1) (o1:∀b,b≠g ->w1.heap[b]? =wr.heap[b]?)
  (r1:∃xs:List Value,w1.ownsRow B 47 2 (Uf (Uc g) n cap) n xs/\ (∀i,i<n ->xs[i*2+1]? =Uq (gFx l i).2.1)/\ (∀i,i<j+1 ->xs[i*2]? =Uq (Ud (P i:Nat))))
  (b2:Below B w1 w2) (z2:w2.heap.size=w1.heap.size) (o2:∀b,(gFx l j).2.1.ownBlock≠Uq b ->w2.heap[b]? =w1.heap[b]?)
  (s2:∃m q,(gFx l j).2.1=Uf m (gFx l j).2.2.length q/\ Seg w2 m (gFx l j).2.2.length (mk8 (P j+1))):MkI w w2 B g n cap l P (j+1):=by
 have y:∀i,i<n ->i≠j ->∀b,(gFx l i).2.1.ownBlock=Uq b ->w2.heap[b]? =wr.heap[b]? :=fun i hi hne b hb=>
  (o2 b (hdis i j hi hj hne b hb)).trans (o1 b (hfar i hi b hb))
 refine⟨b1.trans b2,by rw [z2,z1],fun b hb ha=> ?_,?_,fun i hi=> ?_,fun i hi hin=> ?_⟩
 ·rw [o2 b (ha j hj),o1 b hb,h.oth b hb ha]
 ·obtain⟨xs,z,t,o⟩:=r1;refine⟨xs,World.ownsRow.kept (row:=(gFx l j).2.1.ownBlock) z ⟨b2.os,b2.tape,b2.output,b2.size,fun k hk hne=>o2 k (fun e=>hne e.symm)⟩ (.inr (fun e=> ?_)),t,o⟩;exact hfar j hj g (by rw [<- e];rfl) rfl
 ·by_cases e:i=j
  ·subst e;exact s2
  ·obtain⟨m,q,r,s⟩:=h.done i oM;refine⟨m,q,r,Qis (cap:=q) s (by rw [z2,z1,h.sz];exact Uu _) (fun b hb=>y i oM e b ?_)⟩;rw [r];exact hb
 ·have u:wr.grownBy w1 (Uq g):=⟨b1.os.trans h.bel.os.symm,b1.tape.trans h.bel.tape.symm,b1.output.trans h.bel.output.symm,by rw [z1,h.sz];exact Uu _,fun k hk hne=>o1 k (fun e=>hne (by rw [e]))⟩;have v:w1.grownBy w2 (gFx l j).2.1.ownBlock:=⟨b2.os,b2.tape,b2.output,b2.size,fun k hk hne=>o2 k (fun e=>hne e.symm)⟩;exact((h.left i oM hin).gr u (fun b hb e=>by injection e with e;exact hfar i hin b hb e)).gr v (fun b hb e=>hdis i j hin hj oM b hb e.symm)
theorem Qhp{l:List Fx}(h:FxR w B v l)(k0:Nat)(hl:l.length<=1048576)(hk:Qbt k0 l l.length<=9000000000000):
  Cl 15 #[v,Ud (k0:Int)] w fun e w'=>e=Ui (Ud (Qbt k0 l l.length:Nat))/\ Below B w w'/\ w'.heap.size=w.heap.size/\ (∀b,v.ownBlock≠Uq b ->(∀i,i<l.length ->(gFx l i).2.1.ownBlock≠Uq b) ->w'.heap[b]? =w.heap[b]?)/\∃a c,v=Uf a l.length c/\ FxM w' a l k0:=by
 have Hi:k0<=9000000000000:=by have:=QdK k0 l (Uv _);rw [Qcy] at this;omega
 have I:=hid (fun i (hi:i<l.length)=>Qdw k0 l i hi);have E:=hid (fun i (hi:i<=l.length)=>Ux (QdK k0 l hi) hk);have J:=hid (Qcy k0 l);have M:Hid (∀a w',FxM w' a l k0↔(l.length=0 \/∃g off,a=Uq (Ua g off)/\ g<w'.heap.size/\∀i,i<l.length ->w'.cell? (Ua g (off+i*2))=Uq (Ud (Qbt k0 l i:Nat))/\ w'.cell? (Ua g (off+i*2+1))=Uq (gFx l i).2.1/\∃t cap,(gFx l i).2.1=Uf t (gFx l i).2.2.length cap/\ Seg w' t (gFx l i).2.2.length (mk8 (Qbt k0 l i+1)))):=hid (fun _ _=>Iff.rfl);obtain⟨P,hP⟩:=zE (Qbt k0 l);rw [hP] at I E J M ⊢;clear hP hk;obtain⟨s,V,Q,O⟩:=h;have R:=hid (fun i (hi:i<l.length)=>(QcB l i hi).2);obtain⟨n,hn⟩:=zE l.length;rw [hn] at I E M R hl s V Q O ⊢;clear hn;rcases s.2 with ⟨e,e0⟩|⟨g,cap,Hh,e,_⟩
 ·subst e e0;rw [J.out];clear s V Q O;go_enter func15,ntmps15;go_wp2;refine wp_loop_rounds 1 ?_;rw [rounds_succ];go_wp2;go_ret;exact⟨rfl,zI,rfl,fun _ _ _=>rfl,Up,0,rfl,(M _ _).2 (.inl (by first|rfl|trivial))⟩
 ·subst e;have F:Hid (∀i,i<n ->∀b,(gFx l i).2.1.ownBlock=Uq b ->b≠g):=hid (fun i hi b hb e=>Q i hi b hb (by rw [e];rfl));have Hb:=hid O;have Hd:Hid (MkI w w B g n cap l P 0):=hid ⟨zI,rfl,fun _ _ _=>rfl,⟨_,s,R,fun i hi=>oM⟩,fun i hi=>oM,fun i _ hi=>V i hi⟩;clear s V Q O;go_enter func15,ntmps15;go_wp2_with fail;go_loopw [1,5] (fun k i wr=>∃j:Nat,j<=n/\ i=Ud (j:Int)/\ k=Ud (P j:Nat)/\ MkI w wr B g n cap l P j) (fun _ i _=>n - (intOf i).toNat);case atStart=>exact⟨0,Uv _,rfl,by rw [J.out],Hd⟩
  case round=>
   obtain⟨j,hj,rfl,rfl,y⟩:=hrel;have Hf:=E j hj;by_cases z:j<n
   ·have Hc:=E (j+1) z;have Y:=I j z;obtain⟨D,K,N,H,G⟩:=y.kind z F;obtain⟨xs,U,_,_⟩:=y.row;have He:=U.frozenAt (j*2);obtain⟨u,hu⟩:∃u,wr.cell? (Ua g (j*2))=Uq u:=by
     rw [U.cellAt (j*2) oM];have:=U.1;exact⟨_,JE oM⟩
    obtain⟨w1,Z⟩:=zE (wr.setCell (Ua g (j*2)) (Ud (P j:Nat)));rw [Z] at D K N H G;obtain⟨t,X,q,_⟩:=G.any;have W:w1.cell? (Ua g (j*2+1))=Uq (Uf t (gFx l j).2.2.length X):=by
     obtain⟨ys,A,C,_⟩:=H;rw [A.cellAt (j*2+1) oM,C j z,q]
    have r:=hid (Ql5 G oM (P j+1) oM);rw [q] at r;have p:=hid (fun w2=>y.next (w2:=w2) z F Hb D K N H);rw [q] at p;have Hg:=hid q;obtain⟨L,hL⟩:=zE ((gFx l j).2.2.length);rw [hL] at r p W Y;have S:=hid Y;rw [Y] at Hc;clear q hL Y D K N H G U y;obtain⟨o,Ha⟩:=zE (P j);rw [Ha] at r Z Hf Hc S p ⊢;clear Ha;rw [show ((o+1:Nat):Int)=(o:Int)+1 by push_cast;rfl,show ((o+1+L:Nat):Int)=(o:Int)+1+(L:Int) by push_cast;rfl] at r;have Hj:IntKind.i64.wrap ((o:Int)+1)=(o:Int)+1:=(by rw [UY];omega);go_wp2_with fail;try rw [Z]
    refine r.mono ?_;rintro e w2 ⟨rfl,T,z2,o2,s2⟩;have m:=hid (p w2 T z2 o2 s2);clear T z2 o2 s2 r p Z W hu He;go_wp2_with fail;go_roundw;case rel=>exact⟨j+1,z,oN,by rw [S.out];push_cast;rfl,m⟩
    case measure=>exact oE
   ·obtain rfl:j=n:=oM;have m:=hid y;clear y;go_wp2_with fail;go_ret;refine⟨rfl,m.bel,m.sz,fun b hb ha=>m.oth b (fun e=>hb (by rw [e];rfl)) ha,_,cap,rfl,(M _ _).2 (.inr ?_)⟩;obtain⟨xs,A,C,q3⟩:=m.row;refine⟨g,0,rfl,(A.lt g rfl).2,fun i hi=> ?_⟩;obtain⟨t,X,q,s1⟩:=m.done i hi;rw [Uw];exact⟨by rw [A.cellAt _ oM];exact q3 i hi,by rw [A.cellAt _ oM];exact C i hi,t,X,q,s1⟩
end Go.Proofs.YtedpomikcaemgaaGreatDoor
