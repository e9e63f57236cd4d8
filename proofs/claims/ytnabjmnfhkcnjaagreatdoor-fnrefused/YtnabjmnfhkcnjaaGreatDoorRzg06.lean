import Derived.Test.YtnabjmnfhkcnjaaGreatDoorRzg05
import Derived.LaidEql
import Derived.Stop.Asserts
import Derived.RowKitTokens
import Derived.Stop.LaidTwo
import Derived.Deep.AppendSrc
import Derived.Laws.OwnMore
set_option linter.unusedVariables false
set_option linter.unusedSimpArgs false
set_option maxRecDepth 100000
set_option maxHeartbeats 40000000
namespace Go.Proofs.YtnabjmnfhkcnjaaGreatDoor
open Go.ChangeShapes Go.WideShapes Go.ChangeAt Go.RowKit Go.Maps Go.Proofs.Tryz
open Go.Value renaming slice->Uf,int->Ug,pointer->Uk,tuple->Ul,string->Um,bool->Un,agg->Uo
open Go.IntKind renaming i64->Uh
open Go.Ending renaming returned->Ui
open Go.Obj renaming cells->Uj
open Option renaming none->Up,some->Uq
open Go.RowKit renaming Hid->aA
open Go renaming World->Ur,Addr->Us,Value->aB
open Go.World renaming setCell->Vr,cell?_setCell_far->Vp,cell?_of_block->Vy,cell?_setCell_other->Vt,cell?_setCell_same->Vs,frozen?_alloc_at->VE,cell?_alloc_at->VC,frozen?_setCell->Vq,ownsRow_nil->Vw,cell?->Vx,cell?_alloc_lt->YZ,frozen?_alloc_old->JA,ownsRow_lit->Vo,alloc_heap_new->YQ,putObj_heap_other->YO
open Nat renaming le_refl->Ux,zero_le->UB,mul_le_mul->YK,le_of_not_lt->JC,lt_of_lt_of_le->Ut,zero_add->UA,le_trans->Uz,lt_or_ge->JD,not_lt_zero->JE,reduceAdd->YL,reduceSub->YM
open List renaming nil_append->Yj,append_nil->VO,flatMap_cons->VP,append_assoc->Ve,getD->UL,getElem_mem->UZ,getElem?_eq_none->UT,mem_singleton->UY,mem_cons_self->Vf,mem_cons_of_mem->Vg,length_append->UM,length_cons->UP,exists_mem_of_ne_nil->JG,map_cons->UQ,flatMap_map->Yy,length_map->UR,getElem_of_mem->JI,take_length->Vj,range->Vb,getElem?_range->Yp,getElem?_take_of_lt->VV,ext_getElem->JJ,mem_filter->JK,length_filter_le->YH,foldl_cons->VQ,mem_cons->VS,take_prefix->VW,prefix_refl->Ya,take_add_one->Vc,filter_append->JL,take_zero->JM,map_append->UN,foldl_append->Ym,length_take->Vk,length_nil->YB,mem_append_left->JN,mem_append->VZ,size_toArray->YA,push_toArray->YC,append_toArray->YD,cons_append->VX,eq_nil_of_length_eq_zero->UO,prefix_append->Yf
open Int renaming natCast_nonneg->VH,le_refl->VI
open _root_.Array renaming replicate_succ->YS,replicate_zero->YT
variable {A C D S Y Z:Sx}{B b bm c d g i j k lo lo' m n q r1 r2:Nat}{F R T f:Nat->Int}{J P acc l:List Lf}{L:Int->List (Int×Int)}{U ks zs:List Int}{a pa:Option Us}{e:TypeId}{fl:Bool}{l':List (Int×Int)}{p:List ByteArray}{r rep:Int}{s:ByteArray}{u ul:List Rn}{u0 u1 u2 u3 v v' v1 va vx:aB}{v0 w w' w1 wr:Ur}{x:Lf}{x0:Nat×Nat}{xs:List aB}{y:Ky}{z:List Ky}
theorem LB.low(h:LB w lo v l)(hl:lo'<=lo):LB w lo' v l:=by
 have⟨P,Q,j,k⟩:=h;exact⟨P,Q,j.low hl,k⟩
theorem LB.set(h:LB w lo v l)(q:Us)(u:aB)(hq:q.block<lo):LB (w.setCell q u) lo v l:=
 h.move (by simp[Vr]) (λb h1 h2=>zH _ _ _ _ oM)
theorem FR.setLow{l:List Rn}(h:FR w B v l)(q:Us)(u:aB)(hq:q.block<B):FR (w.setCell q u) B v l:=
 h.setFar q u (λe=>by have:=(World.ownsRow.lt h _ e).1;omega)
theorem aM.of{x:Option Us}(h:LB w lo (Uf a S.l.length c) S.l)(hf:FR w lo (Uf x S.n d) ul)(hn:S.n=ul.length)(hR:S.R=λi=>(gR ul i).1)(hF:S.F=λi=>(gR ul i).2.1)(hT:S.T=λi=>(gR ul i).2.2)(hlo:lo<=w.1.size):aM w lo w.1.size a x d S:=by
 have⟨P,Q,r,z⟩:=h;refine⟨λw' k1 k2=>⟨?_,?_⟩,hlo,Ux _⟩
 .have j:=r.move k1 k2;rcases j.row.2 with⟨e,m⟩|⟨g,cap,y,e,_⟩
  .exact .inl m
  .have k:=j;rw[e]at k;injection e with e1 e2 e3;rw[e1];exact k.lcap rfl
 .have u:FR w' lo (Uf x S.n d) ul:=dK hf<|λq hq=>k2 q (World.ownsRow.lt hf q hq).1 (World.ownsRow.lt hf q hq).2;have⟨v,c',e,s,_,_⟩:=u.fs;injection e with e1 e2 e3;subst e1;rw[hn,hR,hF,hT];exact s.rseg
theorem aM.emp(w:Ur)(a x:Option Us)(d lo:Nat)(hlo:lo<=w.1.size):aM w lo w.1.size a x d Sx.mt:=aM.mt w Sx.mt rfl rfl lo _ ⟨hlo,Ux _⟩ a x d
theorem Cd{z0:Nat×Nat}{bd:Nat}(w:Ur)(h:jZ w z0 bd J ul)(hlv:dB R F T m J J.length)(hbd:nC J):
  Cl 60 #[Uo #[.map (Uq z0.1),.map (Uq z0.2),.map (Uq bd)]] w λe w'=>(∃a c x d,e=Ui (Uo #[Uf a J.length c,Uf x ul.length d])/\LB w' (w.1.size+2) (Uf a J.length c) J/\FR w' (w.1.size+2) (Uf x ul.length d) ul/\w.1.size+2<=w'.1.size)/\Bl w w':=by
 generalize y:(w.alloc (Uj #[.map (Uq z0.1),.map (Uq z0.2),.map (Uq bd)] 111)).alloc (Uj #[Ue,Ue] 28)=W;have Q:Bl w W:=y▸aU _ _ _;have X:aH W w.1.size (.map (Uq z0.1)) (.map (Uq z0.2)) (.map (Uq bd)):=y▸(aH.made _ _ _ _ _).bw (zO _ _) (aH.made _ _ _ _ _).lt;have I:aD W (w.1.size+1) Ue Ue:=by rw[<-y];simpa using aD.made (w.alloc (Uj #[.map (Uq z0.1),.map (Uq z0.2),.map (Uq bd)] 111)) Ue Ue 28
 have zW:W.1.size=w.1.size+2:=y▸oP;have⟨N,B,c,n,D,G,L,j,V,C,P,S,h6⟩:=h.bw Q;have Ha:=j.tj hbd.dis;have Y:aA (∀w1,Bl W w1->Cl 102 #[Uo #[.map (Uq z0.1),.map (Uq z0.2)],Ue,Ue] w1 λe w'=>(∃a c,e=Ui (Uf a J.length c)/\LB w' W.1.size (Uf a J.length c) J)/\Bl w1 w'):=aC (λw1 q=>by
  have:=AY J W B c N (oU j.tre) (Ha.nki (by rw[j.root];simp)) V hlv hbd 8 [] rfl oM Ue [] Ue w1 q (LB.nil w1 _) (.inl ⟨rfl,rfl⟩) (λg hg=>by cases hg) (by rw[Sc hlv];have:=hbd.len;simp;omega);rw[show aG [] 3=([]:List Ky)from rfl,j.root]at this;refine this.mono ?_;rintro e w'⟨v,rfl,z,g⟩;rw[Sc hlv,Yj]at z;obtain⟨a,c,rfl⟩:=z.form;exact⟨⟨a,c,rfl,z⟩,g.bw zL (λk hk=>by cases hk)⟩)
 have Z:aA (∀w1,Bl W w1->Cl 103 #[.map (Uq bd)] w1 λe w'=>(∃x d,e=Ui (Uo #[Uf x ul.length d])/\FR w' W.1.size (Uf x ul.length d) ul)/\Bl w1 w'):=aC (λw1 q=>by
  have:=WA (C.bw q) S h6;rw[P]at this;refine this.mono ?_;rintro e w'⟨v,rfl,t,b⟩;obtain⟨a,c,rfl,_⟩:=t.fs;exact⟨⟨a,c,rfl,t.weak q.size⟩,b⟩)
 have i:=aC X;have H:=aC I;have Hb:=aC Q;have M:=aC zW;have o:aA (∀w',Bl W w'->(w'.cell? (Ub w.1.size)=Uq (.map (Uq z0.1))/\w'.cell? (Ua w.1.size 1)=Uq (.map (Uq z0.2))/\w'.cell? (Ua w.1.size 2)=Uq (.map (Uq bd)))):=aC (λw' b=>by
  have A:=i.bw b i.lt;exact⟨A.c0,A.c1,A.c2⟩)
 go_enter func60,ntmps60;go_wp2_with fail;refine zS o (λqh=>?_);refine tY 0 3 ?_;refine tY 3 6 ?_;refine cZ 2 ?_;intro K r;go_simp;refine(Y _ zI.drew).mono ?_;rintro e w1⟨⟨a,c,rfl,z⟩,q⟩;have p:Bl W w1:=⟨q.os,q.tape,q.output,q.size,q.block⟩;have Hh:=aC z;refine bZ r (o _ p) (λqh=>?_);refine cZ 5 ?_;intro K r;go_simp;refine(Z _ p).mono ?_;rintro e s⟨⟨x,d,rfl,t⟩,U⟩;have u:=aE p U;have He:=aC t;have Hf:=aC (Hh.bw U);have O:=H.bw u H.lt;refine bZ r (o _ u) (λqh=>?_);refine tZ 6 9 ?_;have⟨t0,t1,tf⟩:=O.p2;have Hi:=aC (O.set (Uf a J.length c) (Uf x ul.length d));have E:=aC (((i.bw u i.lt).far (eZ s (Ua (w.1.size+1) 0) (Uf a J.length c)) oQ).far (eZ _ (Ua (w.1.size+1) 1) (Uf x ul.length d)) oQ);have Hc:=aC (aE Hb u);have Hj:aA (w.1.size+2<=s.1.size):=aC (by have j:=M.out;have V:=u.size;omega);have Hg:aA (LB ((s.setCell (Ua (w.1.size+1) 0) (Uf a J.length c)).setCell (Ua (w.1.size+1) 1) (Uf x ul.length d)) (w.1.size+2) (Uf a J.length c) J):=aC (by
  have j:=Hf.out;rw[M.out]at j;exact(j.set _ _ oQ).set _ _ oQ)
 have Hd:aA (FR ((s.setCell (Ua (w.1.size+1) 0) (Uf a J.length c)).setCell (Ua (w.1.size+1) 1) (Uf x ul.length d)) (w.1.size+2) (Uf x ul.length d) ul):=aC (by
  have j:=He.out;rw[M.out]at j;exact(j.setLow _ _ oQ).setLow _ _ oQ)
 refine cZ 7 ?_;intro K r;go_simp;refine bZ r ⟨E.c0,E.c1,E.c2⟩<|λqh=>?_;refine zD ?_;go_wp2_with fail;have⟨s0,s1⟩:=Hi.q2;refine zF (v:=Uo #[Uf a J.length c,Uf x ul.length d]) (by simp[results,results60,go_sem,s0,s1]) ⟨⟨a,c,x,d,rfl,Hg,Hd,by simp[Vr];have:=Hj.out;omega⟩,?_⟩;exact(Hc.setCell oP _).setCell oP _
theorem Fd(a x:Option Us)(c d:Nat)(S:Sx)(w:Ur)(hm:S.Sm)(hi:∀i,eK (gL S.l i))(h:cX w a x S):
  Cl 57 #[Uo #[Uf a S.l.length c,Uf x S.n d]] w λe w'=>(∃u0 u1 u2,e=Ui (Ul #[Uo #[.map u0,.map u1,.map u2],Un (fD S)])/\(fD S=true->∃x0 j,u0=Uq (Prod.fst x0)/\u1=Uq (Prod.snd x0)/\u2=Uq j/\iG w' x0 j S))/\Bl w w':=by
 cases hb:fD S with
 |true=>refine(Zr a c S.l x S.n d S.R S.F S.T w hm.l1 hm.p1 hi hm.n1 h.lf h.rn (gC hb)).mono ?_;rintro e w'⟨⟨x0,j,D,G,N,B,rfl,k,_,_,_,m,q,r⟩,b⟩;exact⟨⟨_,_,_,rfl,λ_=>⟨x0,j,rfl,rfl,rfl,S.n,D,G,N,B,(gC hb).w.1.2,k,m,q,r⟩⟩,b⟩
 |false=>refine(AS a c S.l x S.n d S.R S.F S.T w hm.l1 hm.p1 hi hm.n1 h.lf h.rn (DZ hb)).mono ?_;rintro e w'⟨rfl,b⟩;exact⟨⟨_,_,_,rfl,λh=>by cases h⟩,b⟩
theorem wM{Q:Prop}(h:Q:=by
 obtain⟨r0,r1⟩:=k.q2;have f0:=k.f 0;have f1:=k.f 1;have y:=aC<|k.set Ue Ue;go_wp2_with fail;obtain⟨p,s⟩:=y.q2;refine zF (v:=Ul #[Uo #[Ue,Ue],Un false]) (by simp[results,results32,go_sem,p,s]) ⟨Up,0,Up,0,by rw[j.1,j.2];rfl,?_,?_⟩
 .rw[j.2];exact aM.emp _ _ _ _ _ (by simp[Vr];exact A.size)
 .exact(A.setCell oS _).setCell oS _):Q:=h
theorem Zh(a x a' x':Option Us)(c d c' d':Nat)(S S':Sx)(w:Ur)(hm:S.Sm)(hm':S'.Sm)(hi:∀i,eK (gL S.l i))(hi':∀i,eK (gL S'.l i))(h:cX w a x S)(h':cX w a' x' S'):
  Cl 32 #[Uo #[Uf a S.l.length c,Uf x S.n d],Uo #[Uf a' S'.l.length c',Uf x' S'.n d']] w λe w'=>∃q b u r,e=Ui (Ul #[Uo #[Uf q (aZ S S').l.length b,Uf u (aZ S S').n r],Un (bK S S')])/\aM w' w.1.size w'.1.size q u r (aZ S S')/\Bl w w':=by
 generalize g:((w.alloc (Uj #[Uf a S.l.length c,Uf x S.n d] 28)).alloc (Uj #[Uf a' S'.l.length c',Uf x' S'.n d'] 28)).alloc (Uj #[Ue,Ue] 28)=W;have K:Bl w W:=g▸(aU _ _ _).alloc oS _;have A0:aD W w.1.size (Uf a S.l.length c) (Uf x S.n d):=g▸((aD.made w _ _ _).allocs _).allocs _;have B0:aD W (w.1.size+1) (Uf a' S'.l.length c') (Uf x' S'.n d'):=by
  rw[<-g];have:=aD.made (w.alloc (Uj #[Uf a S.l.length c,Uf x S.n d] 28)) (Uf a' S'.l.length c') (Uf x' S'.n d') 28;exact(by simpa using this:aD _ (w.1.size+1) _ _).allocs _
 have R0:aD W (w.1.size+1+1) Ue Ue:=by
  rw[<-g];simpa using aD.made ((w.alloc (Uj #[Uf a S.l.length c,Uf x S.n d] 28)).alloc (Uj #[Uf a' S'.l.length c',Uf x' S'.n d'] 28)) Ue Ue 28
 have zW:W.1.size=w.1.size+3:=g▸oP;have T:=aC<|Fd a x c d S W hm hi (h.bw K);have Ha:=aC<|λw1 (L:Bl W w1)=>Fd a' x' c' d' S' w1 hm' hi' ((h'.bw K).bw L);have G:=aC B0;have Hs:=aC R0;have Y:=aC K;have⟨k0,k1⟩:=A0.q2;generalize hV:fD S=V;generalize Hj:fD S'=V';have Hg:=aC hV;have Hb:=aC Hj;rw[hV]at T;rw[Hj]at Ha;go_enter func32,ntmps32;go_wp2_with fail;refine T.mono ?_;rintro e w1⟨⟨u0,u1,u2,rfl,U⟩,L⟩;have Hq:=aC U;generalize N:w1.alloc (Uj #[.map u0,.map u1,.map u2] 111)=w2;have b2:Bl w1 w2:=N▸zO _ _;have Hw:aA (aH w2 w1.1.size (.map u0) (.map u1) (.map u2)):=aC<|N▸aH.made _ _ _ _ _;have O:=aC<|aE L b2;have Hd:=aC b2;have l0:=(G.bw O G.lt).c0;have l1:=(G.bw O G.lt).c1;go_wp2_with fail;refine(Ha w2 O).mono ?_;rintro e w3⟨⟨v0,v1,v2,rfl,U⟩,b3⟩;have Hr:=aC U;generalize X:w3.alloc (Uj #[.map v0,.map v1,.map v2] 111)=w4;have b4:Bl w3 w4:=X▸zO _ _;have H0:aA (aH w4 w3.1.size (.map v0) (.map v1) (.map v2)):=aC<|X▸aH.made _ _ _ _ _;have He:=aC b4;have P:=aC<|aE b3 b4;have Hv:=aC<|aE O P;have A:=aC<|Y.trans (Hv.mono Y.size);have k:=aC<|Hs.bw Hv Hs.lt;cases V with
 |false=>
  have j:aA (bK S S'=false/\aZ S S'=Sx.mt):=aC (by
   have e:bK S S'=false:=(by unfold bK;rw[Hg.out];rfl);exact⟨e,qE e⟩)
  exact wM
 |true=>
  cases V' with
  |false=>
   have j:aA (bK S S'=false/\aZ S S'=Sx.mt):=aC (by
    have e:bK S S'=false:=(by unfold bK;rw[Hb.out];simp);exact⟨e,qE e⟩)
   exact wM
  |true=>
   obtain⟨x0,bm,rfl,rfl,rfl,o1⟩:=Hq rfl;obtain⟨y0,H6,rfl,rfl,rfl,o3⟩:=Hr rfl;have t:=gC Hg;have o:=gC Hb;have M:=aC<|Zf w4 ((o1.bw Hd).bw P) (o3.bw He) t.w o.w;have Ho:aA ((aR S S').l.length<=2000/\(eY S S').length<=4000):=aC<|Fr t.w o.w;have H:=aC<|And.intro (yJ t.w o.w) (And.intro (λx hx=>(qD t.w o.w x hx).2.2.2) (And.intro (Qc t.w o.w) (λhl=>R9 t.w o.w hl)));have X2:=Hw.bw P Hw.lt;have⟨p0,p1,p2⟩:=X2.q3;have⟨q0,q1,m⟩:=H0.q3;go_wp2_with fail;refine M.mono ?_;rintro e w5⟨⟨F,bd,rfl,lv⟩,b5⟩;generalize C:w5.alloc (Uj #[.map (Uq F.1),.map (Uq F.2),.map (Uq bd)] 111)=w6;have b6:Bl w5 w6:=C▸zO _ _;have X6:aH w6 w5.1.size (.map (Uq F.1)) (.map (Uq F.2)) (.map (Uq bd)):=C▸aH.made _ _ _ _ _;have Hx:=aC X6;have Hp:=aC<|lv.bw b6;have Hc:=aC<|aE b5 b6;have Hk:=aC<|A.trans (Hc.mono A.size);have Ht:=aC<|k.bw Hc k.lt;have I:=aC<|Io w6 Hp H.1 H.2.1 (oH Ho) (oH Ho);have Hm:aA ((decide ((aR S S').l.length<=1000)&&decide ((eY S S').length<=1000))=fL S S'):=aC rfl;rw[Hm.out]at I;generalize hB:fL S S'=B;have R:=aC hB;rw[hB]at I;have⟨e0,e1,e2⟩:=X6.q3;go_wp2_with fail;refine I.mono ?_;rintro e D⟨rfl,b7⟩;have Z:=aC<|Hk.trans (b7.mono Hk.size);have z:=aC<|Ht.bw b7 Ht.lt;have X7:=Hx.bw b7 Hx.lt;have Hf:=aC<|Hp.bw b7;have⟨g0,g1,g2⟩:=X7.q3;cases B with
   |false=>
    have j:aA (bK S S'=false/\aZ S S'=Sx.mt):=aC (by
     have e:bK S S'=false:=(by unfold bK;rw[R.out];simp);exact⟨e,qE e⟩)
    have⟨r0,r1⟩:=z.q2;have f0:=z.f 0;have f1:=z.f 1;have y:=aC<|z.set Ue Ue;go_wp2_with fail;have⟨p,s⟩:=y.q2;refine zF (v:=Ul #[Uo #[Ue,Ue],Un false]) (by simp[results,results32,go_sem,p,s]) ⟨Up,0,Up,0,by rw[j.1,j.2];rfl,?_,?_⟩
    .rw[j.2];exact aM.emp _ _ _ _ _ (by simp[Vr];exact Z.size)
    .exact(Z.setCell oS _).setCell oS _
   |true=>
    have j:aA (bK S S'=true/\aZ S S'=aR S S'):=aC (by
     have e:bK S S'=true:=(by unfold bK;rw[R.out,Hg.out,Hb.out];rfl);exact⟨e,nV e⟩)
    have Hu:=aC (Cd D Hf H.2.2.1 (H.2.2.2 (by have:=R.out;unfold fL at this;simp at this;exact this.1)));generalize Hh:(aR S S').l.length=J;generalize Hi:(eY S S').length=E;rw[Hh,Hi]at Hu;have M:=aC Hh;have Hn:=aC Hi;go_wp2_with fail;refine Hu.mono ?_;rintro e w8⟨⟨q,b,u,r,rfl,lb,fr,hz⟩,b8⟩;have Q:=z.bw b8 z.lt;have⟨r0,r1⟩:=Q.q2;have f0:=Q.f 0;have f1:=Q.f 1;have y:=aC<|Q.set (Uf q J b) (Uf u E r);have Hl:=aC<|Z.trans (b8.mono Z.size);have H1:aA (w.1.size+1+1<D.1.size):=aC z.lt;have Hz:=aC lb;have Hy:=aC fr;go_wp2_with fail;have⟨p,s⟩:=y.q2;refine zF (v:=Ul #[Uo #[Uf q J b,Uf u E r],Un true]) (by simp[results,results32,go_sem,p,s]) ⟨q,b,u,r,by rw[j.1,j.2,M.out,show(aR S S').n=E from Hn.out],?_,?_⟩
    .rw[j.2];have H7:=H1.out;have H2:=Hl.size;have l9:=((Hz.set (Ua (w.1.size+1+1) 0) (Uf q J b) oQ).set (Ua (w.1.size+1+1) 1) (Uf u E r) oQ).low (show w.1.size<=D.1.size+2 by omega);have f9:=((Hy.setLow (Ua (w.1.size+1+1) 0) (Uf q J b) oQ).setLow (Ua (w.1.size+1+1) 1) (Uf u E r) oQ).weak (show w.1.size<=D.1.size+2 by omega);exact aM.of (ul:=eY S S') (by rw[M.out];exact l9) (by rw[show(aR S S').n=E from Hn.out];exact f9) rfl rfl rfl rfl (by simp[Vr];exact H2)
    .exact(Hl.setCell oS _).setCell oS _
open Go.Deep
def Oy(S Y:Sx)(B:Bool)(w:Ur)(e:Ending)(w':Ur):Prop:=∃J ja jc jx jd er,e=Ui (Ul #[Uo #[Uf ja J.l.length jc,Uf jx J.n jd],er])/\(B=true->J=aZ S Y)/\(B=true/\er=.nilIface\/B=false/\∃t u,er=.iface t u)/\aM w' w.1.size w'.1.size ja jx jd J/\Bl w w'
theorem xG{Q:Prop}(h:Q:=by
 rw[b]at qh⊢;clear b;obtain⟨N,m2,m3,m4⟩:=qh;have k:=q.bw g q.lt;have m:=k.set Ue Ue;have D:=(k.set0 Ue).c1;have yf:=(k.set0 Ue).f;refine cZ 2 ?_;intro K L;go_simp;have V:=P.out;refine L.out _ _ ⟨(by rw[Vp _ _ _ _ oS,Vp _ _ _ _ oS];exact N),m.c0,m.c1,m.f⟩<|λqh=>?_;clear L K;try simp only[zP]
 refine tZ 3 5 ?_;refine zD ?_;obtain⟨x0,C⟩:=m.q2;have G:=aC (((aE Z g).setCell (p:=(Ua (w.1.size+1+1) 0)) oS Ue).setCell (p:=(Ua (w.1.size+1+1) 1)) oS Ue);clear k m D yf N m2 m3 m4 g;go_wp2_with fail;refine zF (v:=Ul #[Uo #[Ue,Ue],.iface t u]) (by simp[results,results54,go_sem,x0,C]) ?_;exact⟨Sx.mt,Up,0,Up,0,.iface t u,rfl,(λh=>by cases h),.inr ⟨rfl,t,u,rfl⟩,aM.mt _ Sx.mt rfl rfl _ _ ⟨G.size,Ux _⟩ _ _ _,G⟩):Q:=h
theorem Wn(a x a' x':Option Us)(c d c' d':Nat)(S Y:Sx)(w:Ur)(hm:dR S)(hm':dR Y)(h:cX w a x S)(h':cX w a' x' Y)(t:TypeId)(u:aB)(V:w.cell? (Ub 3)=Uq (.iface t u)):
  Cl 54 #[Uo #[Uf a S.l.length c,Uf x S.n d],Uo #[Uf a' Y.l.length c',Uf x' Y.n d']] w λe w'=>Oy S Y (bK S Y&&bM (aZ S Y)) w e w':=by
 have⟨W,o⟩:=zE (((w.alloc (Uj #[Uf a S.l.length c,Uf x S.n d] 28)).alloc (Uj #[Uf a' Y.l.length c',Uf x' Y.n d'] 28)).alloc (Uj #[Ue,Ue] 28));have H:Bl w W:=o▸(aU _ _ _).alloc oS _;have zW:W.1.size=w.1.size+3:=o▸oP;have A0:aD W w.1.size (Uf a S.l.length c) (Uf x S.n d):=o▸((aD.made w _ _ _).allocs _).allocs _;have D0:aD W (w.1.size+1) (Uf a' Y.l.length c') (Uf x' Y.n d'):=by
  rw[<-o];have:=aD.made (w.alloc (Uj #[Uf a S.l.length c,Uf x S.n d] 28)) (Uf a' Y.l.length c') (Uf x' Y.n d') 28;exact(by simpa using this:aD _ (w.1.size+1) _ _).allocs _
 have R0:aD W (w.1.size+1+1) Ue Ue:=by
  rw[<-o];simpa using aD.made ((w.alloc (Uj #[Uf a S.l.length c,Uf x S.n d] 28)).alloc (Uj #[Uf a' Y.l.length c',Uf x' Y.n d'] 28)) Ue Ue 28
 have HJ:=aC<|Zh a x a' x' c d c' d' S Y W hm.1 hm'.1 hm.2 hm'.2 (h.bw H) (h'.bw H);have Hd:=yI S Y;have⟨J,I⟩:=zE (aZ S Y);have⟨B,hB⟩:=zE (bK S Y);have⟨F,hF⟩:=zE (bM J);rw[I,hB]at HJ;rw[I]at Hd;rw[hB];have Hf:(B&&bM (aZ S Y))=(B&&F):=by rw[I,hF]
 rw[Hf];have HF:=aC hF;have Hg:=aC I;have P:aA (3<w.1.size):=aC<|block_lt_of_cell V;have He:=aC<|(H.cell (p:=(Ub 3)) (block_lt_of_cell V)).trans V;have O:=aC R0;have HB:=aC H;have HZ:aA (w.1.size+3<=W.1.size):=aC oM;have⟨a0,a1⟩:=A0.q2;have⟨y0,D⟩:=D0.q2;go_enter func54,ntmps54;go_wp2_with fail;refine HJ.mono ?_;rintro e R⟨s,A,M,E,rfl,o4,b4⟩;have⟨U,Q⟩:=zE (R.alloc (Uj #[Uf s J.l.length A,Uf M J.n E] 28));have b5:Bl R U:=Q▸zO _ _;have J5:aD U R.1.size (Uf s J.l.length A) (Uf M J.n E):=Q▸aD.made _ _ _ _;have HO:=aC<|o4.bw b5;have T:=aC<|aE b4 b5;have Hc:=aC J5;have⟨j0,j1⟩:=J5.q2;cases B with
 |false=>
  have y:=aC (Below.refl U.1.size U);have j:=aE T y;have r:=O.bw j O.lt;have q:=aC r;have Z:=aC (aE HB j);have Ha:aA (∀w',Bl U w'->(w'.cell? (Ub 3)=Uq (.iface t u)/\w'.cell? (Ua (w.1.size+1+1) 0)=Uq Ue/\w'.cell? (Ua (w.1.size+1+1) 1)=Uq Ue/\(∀i,w'.frozen? (Ua (w.1.size+1+1) i)=false))):=aC (λw' hb=>by
   have z:=q.bw hb q.lt;have hz:=HZ.out;exact⟨((aE j hb).cell (p:=(Ub 3)) (by have:=P.out;show 3<W.1.size;omega)).trans He,z.c0,z.c1,z.f⟩)
  go_wp2_with fail;refine zS Ha<|λqh=>?_;refine tY 0 21 ?_;have⟨z0,b⟩:=zE U.drew;have g:Bl U z0:=b▸zI.drew;exact xG
 |true=>
  have Hb:=aC<|Bb s M A E J U Hd.2 Hd.1 HO.at;rw[HF.out]at Hb;go_wp2_with fail;refine Hb.mono ?_;rintro e X⟨rfl,b6⟩;have y:=aC b6;cases F with
  |false=>
   have j:=aE T y;have r:=O.bw j O.lt;have q:=aC r;have Z:=aC (aE HB j);have Ha:aA (∀w',Bl X w'->(w'.cell? (Ub 3)=Uq (.iface t u)/\w'.cell? (Ua (w.1.size+1+1) 0)=Uq Ue/\w'.cell? (Ua (w.1.size+1+1) 1)=Uq Ue/\(∀i,w'.frozen? (Ua (w.1.size+1+1) i)=false))):=aC (λw' hb=>by
    have z:=q.bw hb q.lt;have hz:=HZ.out;exact⟨((aE j hb).cell (p:=(Ub 3)) (by have:=P.out;show 3<W.1.size;omega)).trans He,z.c0,z.c1,z.f⟩)
   go_wp2_with fail;refine zS Ha<|λqh=>?_;refine tY 0 21 ?_;have⟨z0,b⟩:=zE X.drew;have g:Bl X z0:=b▸zI.drew;exact xG
  |true=>have j:=aE T y;have r:=O.bw j O.lt;have J6:=Hc.bw y Hc.lt;have⟨j0,j1⟩:=J6.q2;have⟨r0,r1,rf⟩:=r.p2;have k:=aC<|r.set (Uf s J.l.length A) (Uf M J.n E);have Z:=aC<|aE HB j;have Hh:=aC<|HO.bw y;have Hi:aA (R.1.size<=X.1.size/\W.1.size<=X.1.size):=aC ⟨by have h1:=y.size;have h2:=Hc.lt;omega,j.size⟩;go_wp2_with fail;have⟨x0,C⟩:=k.q2;refine zF (v:=Ul #[Uo #[Uf s J.l.length A,Uf M J.n E],.nilIface]) (by simp[results,results54,go_sem,x0,C]) ?_;have hz:=HZ.out;have G1:=(Hh.set (Ua (w.1.size+1+1) 0) (Uf s J.l.length A) (.inl (by show w.1.size+1+1<_;omega))).set (Ua (w.1.size+1+1) 1) (Uf M J.n E) (.inl (by show w.1.size+1+1<_;omega));exact⟨J,s,A,M,E,.nilIface,rfl,λ_=>Hg.symm,.inl ⟨rfl,rfl⟩,G1.wide oM (by have:=Hi.out;simp[Vr];omega) zL,(Z.setCell (p:=(Ua (w.1.size+1+1) 0)) oS _).setCell (p:=(Ua (w.1.size+1+1) 1)) oS _⟩
theorem RD.kd{K:Int->Int->Bool}{R:List ByteArray->List Lf->List Lf->List Int->Prop}{B:List Lf}(h:RD K R p y acc B U):y.2=1\/y.2=2\/y.2=3:=by
 unfold RD at h;by_cases j:y.2=3
 .exact .inr<|.inr j
 .rw[if_neg j]at h;rcases h.1 with h|h
  .exact .inl h
  .exact .inr<|.inl h
theorem W8{E:Ev}(hpd:p.length+d=8)
  (hrec:p.length<8->∀(s:ByteArray) (x x':Nat) (acc J:List Lf) (U:List Int) (W:Ur),RT E.K d (p++[s]) acc J U->Rv E x U x'->TS E W x acc->E.hi<=W.1.size->acc.length<=1000->Cl 186 #[Uk (Uc E.tb),Ud ((p.length:Int)+1)] W λe w'=>kF E W acc J x' (aG (p++[s]) 3) (d+1) e w') {x x':Nat}{B:List Lf} (Y:TS E w x acc) (hhi:E.hi<=w.1.size) (hl:acc.length<=1000) (hd:RT E.K (d+1) p acc B U) (o:Rv E x U x'):
  Cl 186 #[Uk (Uc E.tb),Ud (p.length:Int)] w λe w'=>kF E w acc B x' (aG p 3) (d+2) e w':=by
 have⟨P,hP⟩:=zE (kF E w acc B x' (aG p 3) (d+2));rw[hP];have HP:=aC hP;obtain⟨G,hB,rfl,Kk,Gn,Go,hK⟩:=hd;have⟨y0,r1,r2⟩:=Rb.app o;obtain⟨r,H0⟩:∃r:Int,(p.length:Int)=r:=⟨_,rfl⟩;rw[H0]at hrec⊢;have Kv:0<=r:=oM;have Kw:r<=8:=oM;have Ho:=aC<|And.intro H0 hpd;have Ht:=aC hrec;have⟨W,hW⟩:=zE (w.alloc (Uj #[.map Up,.map Up] 107));have b0:Bl w W:=hW▸zO _ _;have Gi:aA (NB W w.1.size):=aC<|hW▸NB.made _ _;have Hu:=aC<|Y.bw b0;have Ga:=aC<|G2.bw (tb:=E.tb) (ub:=E.ub) b0;have⟨Kp,Kq⟩:=Y.low;have HU:=aC<|oT (most:=1000) Hu.cu oM oM r1;have⟨V,hV⟩:=zE G.length;rw[hV]at HU Kk;have Hi:V=0->r=0:=λh=>oH (Gn (List.length_eq_zero_iff.1 (hV.trans h)));have Gu:V=0\/r<8:=by
  by_cases h:V=0
  .exact .inl h
  .have:=Go (λe=>h (by rw[<-hV,e];rfl));omega
 have HV:=aC hV;have HB:=aC hB;have HI:=aC<|And.intro hK r2;have H4:w.1.size≠E.tb:=oM;have H5:w.1.size≠E.ub:=oM;have Kr:w.1.size<=w.1.size:=Ux _;go_enter func186,ntmps186;go_wp2_with fail;refine HU.mono ?_;rintro e w1⟨rfl,g1,cu⟩;have Gj:=aC<|Hu.t g1 cu;have Hp:=aC<|Ga.trans (G2.t g1);have Hq:=aC<|Gi.g2 (G2.t (ub:=E.ub) g1) H4 H5;go_upto_region 4 with fail;go_cut [29]from 24 to 29 (λbb wx=>bb=Un false/\w1=wx);case first=>
  by_cases C:V=0
  .have c1:((V:Int)==0)=true:=(by simp[C]);have c2:decide ((0:Int)<r)=false:=(by have:=Hi C;simp;omega);go_wp2_with fail;go_meet;exact⟨rfl,rfl⟩
  .have c1:((V:Int)==0)=false:=(by simp[C]);go_wp2_with fail;go_meet;exact⟨rfl,rfl⟩
 case rest=>
 obtain⟨rfl,rfl⟩:=hcut;go_upto_region 6 with fail;go_cut [37]from 32 to 37 (λbb wx=>bb=Un false/\w1=wx);case first=>
  by_cases C:V=0
  .have c3:decide ((0:Int)<(V:Int))=false:=oS;have c4:decide (0<V)=false:=oS;go_wp2_with fail;go_meet;exact⟨rfl,rfl⟩
  .have c2:decide ((0:Int)<(V:Int))=true:=oS;have c3:(r==8)=false:=oS;go_wp2_with fail;go_meet;exact⟨rfl,rfl⟩
 case rest=>
 obtain⟨rfl,rfl⟩:=hcut;go_wp2_with fail;refine(sK w1).mono ?_;rintro e m⟨s,q,rfl,Ko,Kz,K0,m1,m2,b2⟩;have⟨W3,Hd⟩:=zE ((m.alloc (Uj #[.map (Uq s),.map (Uq q)] 107)).alloc (Uj #[Um ⟨#[]⟩,Ud 0] 175));have b3:Bl m W3:=Hd▸aU _ _ _;have Kg:aA (aD W3 m.1.size (.map (Uq s)) (.map (Uq q))):=aC (Hd▸(aD.made m _ _ _).allocs _);have H8:aA (aD W3 (m.1.size+1) (Um ⟨#[]⟩) (Ud 0)):=aC (by rw[<-Hd];simpa using aD.made (m.alloc (Uj #[.map (Uq s),.map (Uq q)] 107)) (Um ⟨#[]⟩) (Ud 0) 175);have Hf:=aE b2 b3;have Ke:=aC (Gj.bw Hf);have G6:=aC (Hp.trans (G2.bw Hf));have Kc:=aC (Hq.g2 (G2.bw (tb:=E.tb) (ub:=E.ub) Hf) H4 H5);have K3:=Hq.lt;have K5:=b2.size;have H1:=m1.lt;have G8:aA (TL W3 w.1.size [] (aG p 3) (⟨#[]⟩,0) (d+2) 0 (s,q)):=aC (TL.new (x0:=(s,q)) _ _ _ (m1.same (b3.block s m1.lt)) (m2.same (b3.block q m2.lt)) Ko ⟨oQ,by show w.1.size<=q;omega⟩);go_wp2_with fail;go_loopw [42] (λiv wr=>∃(k y:Nat) (l:List Lf) (ks:ByteArray) (kk:Int),k<=V/\iv=Ud (k:Int)/\(acc++l).length<=1000/\m.1.size+1<wr.1.size/\aA (l=(G.take k).flatMap λg=>g.2.1)/\aA (TS E wr y (acc++l))/\aA (Gv E w wr)/\aA (NB wr w.1.size)/\
  aA (aD wr m.1.size (.map (Uq s)) (.map (Uq q)))/\aA (aD wr (m.1.size+1) (Um ks) (Ud kk))/\aA (TL wr w.1.size l (aG p 3) (ks,kk) (d+2) k (s,q))/\
  aA (RK E.K (RT E.K d) p (ks,kk) (acc++l) (G.drop k)/\Rv E y ((G.drop k).flatMap gB) x')) (λiv _=>V-(intOf iv).toNat)
 case atStart=>exact⟨0,y0,[],⟨#[]⟩,0,UB _,rfl,oU hl,H8.lt,aC oP,oU Ke,G6,Kc,Kg,H8,G8,aC ⟨by rw[VO];exact HI.1,HI.2⟩⟩
 case round=>
  obtain⟨k,y,l,ks,kk,Ky,rfl,Hx,K6,Hj,Y,hG,o,hX,hD,hM,Hm⟩:=hrel;by_cases G0:k<V
  .have Kx:r<8:=oM;have⟨⟨⟨u,M⟩,J,U⟩,hp,G4⟩:=qG (l:=G) (k:=k) (by rw[HV.out];exact G0);have⟨G3,Hl⟩:=Hm.out;rw[hp]at G3 Hl;have⟨⟨n0,H7,Ha⟩,Hh,H2⟩:=G3;rw[VP]at Hl;have⟨x3,R,q3⟩:=Rb.app Hl;have⟨x2,R,i⟩:=Rb.app (show Rv E y ((cM u++[M])++U) x3 from by rw[Ve];exact R);dsimp only at n0 H7 Ha Hh H2;have Ks:=Hh.kd;dsimp only at Ks;have Gg:=aC (CB Y.cu n0 H7 Ha R);have HN:aA (RK E.K (RT E.K d) p (u,M) (acc++(l++J)) (G.drop (k+1))/\Rv E x3 ((G.drop (k+1)).flatMap gB) x'):=aC ⟨by rw[<-Ve];exact H2,q3⟩;have Ka:aA (l++J=(G.take (k+1)).flatMap λg=>g.2.1):=aC (by rw[G4,List.flatMap_append,<-Hj.out];simp);have Hc:=aC (λz(t5:TS E z x2 (acc++l))(h5:E.hi<=z.1.size)=>CA (dep:=r+1) (D:=d+1) oM t5 h5 Hx Hh i (λe3 hrt W' t' h'=>by
    have:=Ht (oH Ho.1) u x2 x3 (acc++l) J U W' hrt i t' h' Hx;rw[AA]at this;subst e3;exact this))
   have⟨kl,Gy⟩:=yH (s:=u) (k:=M) oL (eX oM oM);have Ge:=aC Gy;have Hn:=aC Ha;have⟨d0,d1⟩:=hD.q2;go_wp2_with fail;refine Gg.mono ?_;rintro e A⟨rfl,g4,Gm⟩;have⟨z,He⟩:=zE (A.alloc (Uj #[Um u,Ud M] 175));have b5:Bl A z:=He▸zO _ _;have z5:z.1.size=A.1.size+1:=He▸oP;have g5:Gv E wr z:=(G2.t g4).trans<|G2.bw b5;have Y5:aD z A.1.size (Um u) (Ud M):=He▸aD.made A _ _ _;have K1:=g4.size;have H6:=hG.size;have Gf:=aC<|Hc z ((Y.t g4 Gm).bw b5) oM;have⟨y0,y1⟩:=Y5.q2;have Hv:=aC Y5;have Kj:=aC z5;have Gb:=aC g5;go_wp2_with fail;refine Gf.mono ?_;rintro e w6⟨Ku,N1,⟨s1,s2⟩,rfl,g6,t6,Gp,Gq,Gr,Gs,Gt⟩;have Hk:J≠[]:=Gq.resolve_right oP;have⟨I,Gw⟩:=zE (w6.alloc (Uj #[.map (Uq s1),.map (Uq s2)] 107));have b7:Bl w6 I:=Gw▸zO _ _;have V7:aD I w6.1.size (.map (Uq s1)) (.map (Uq s2)):=Gw▸aD.made w6 _ _ _;have Hg:Gv E z I:=g6.trans<|G2.bw b7;have O:Gv E wr I:=Gb.trans Hg;have K7:=Kj.out;have X7:=hX.sm (O.block _ hX.lt oM oM) O.size;have D7:=hD.sm (O.block _ hD.lt oM oM) O.size;have L:=Hv.sm (Hg.block _ Hv.lt oM oM) Hg.size;have Gk:=aC<|t6.bw b7;have Gc:=aC<|hG.trans O;have Hr:=aC<|o.g2 O H4 H5;have⟨cc,F,Hz,G1,Hb⟩:=hM.hang O Kp Kq (Gt.bw b7) oM H6 Hn Gp Hk Gr;have Gx:cc<maxLen:=by
    have h1:(acc++l++J).length=acc.length+(l++J).length:=(by simp[Nat.add_assoc]);have T:(l++J).length<=1000:=oM;have h3:d+1+1<=10:=oH Ho.2;have h4:=YK h3 T;unfold maxLen;omega
   have⟨S,r9,m9,Q⟩:=G1.store gH (λ_ _=>oB) underlying104 Gx (x:=(u,M)) (y:=(s1,s2)) Ge;have X:∀b,b≠s->b<I.1.size->S.1[b]? =I.1[b]? :=λb h1 T=>Q.block b T (λe=>h1 (by injection e));have v0:=(Vy (a:=(Ub A.1.size)) (X A.1.size oM L.lt)).trans L.c0;have v1:=(Vy (a:=(Ua A.1.size 1)) (X A.1.size oM L.lt)).trans L.c1;have D9:=D7.sm (X _ oM D7.lt) Q.size;have X9:=X7.sm (X _ oM X7.lt) Q.size;have Gl:=aC<|Gk.gr Q oM;have Gd:=aC<|Gc.gr Q oM;have Hs:=aC<|Hr.same (X w.1.size oM Hr.lt) Q.size;have Gh:=aC<|Hb S Q m9;have⟨Zw,Hw⟩:=zE ((S.setCell (Ua (m.1.size+1) 0) (Um u)).setCell (Ua (m.1.size+1) 1) (Ud M));have H:S.grownBy Zw (Uq (m.1.size+1)):=by
    rw[<-Hw];exact⟨rfl,rfl,rfl,by simp[Vr],λj hj Hk=>(zH _ _ _ _ (λe=>Hk (by rw[e]))).trans (zH _ _ _ _ (λe=>Hk (by rw[e])))⟩
   have H9:aA (aD Zw (m.1.size+1) (Um u) (Ud M)):=aC<|Hw▸D9.set _ _;have zb:∀b,b≠m.1.size+1->b<S.1.size->Zw.1[b]? =S.1[b]? :=λb h1 T=>H.block b T (λe=>h1 (by injection e));have Kh:=aC<|X9.sm (zb _ oM X9.lt) H.size;have Kf:=aC<|Gl.gr H oM;have G7:=aC<|Gd.gr H oM;have Kd:=aC<|Hs.same (zb w.1.size oM Hs.lt) H.size;have Kb:=aC<|Gh.box D9.c0 H;have⟨x0,Kt⟩:=X7.q2;have⟨y0,y1⟩:=L.q2;have⟨n0,n1⟩:=V7.q2;have⟨e0,e1,ef⟩:=D9.p2;have Hy:(acc++(l++J)).length<=1000:=(by rw[<-Ve];exact Gs);unfold aP bE at r9;dsimp only at r9;go_wp2_with fail;go_roundw;case rel=>exact⟨k+1,x3,l++J,u,M,G0,oN,Hy,H9.lt,Ka,by rw[<-Ve];exact Kf,G7,Kd,Kh,H9,Kb,HN⟩
   case measure=>exact oE
  .obtain rfl:k=V:=oM;have hd:G.drop k=[]:=(by rw[<-HV.out];simp);have Gz:l=B:=(by rw[Hj.out,HB.out,<-HV.out];simp);have Ki:aA (x'=y):=aC (by have:=Hm.2;rw[hd]at this;exact Rb.nil this);have G9:=aC Gz;have⟨x0,Kt⟩:=hX.q2;have⟨u0,k0⟩:=o.c0;have⟨u1,k1⟩:=o.c1;have f0:=o.f0;have G5:=aC k0;go_wp2_with fail;have⟨Z,hZ,q0,R,gZ,bZ,gg⟩:=o.fill hG Kr (Uq s) (Uq q);rw[<-hZ];refine zF (v:=Ul #[Uo #[.map (Uq s),.map (Uq q)],.nilIface]) (by simp[results,results186,go_sem,q0,R]) ?_;obtain rfl:=G9.out;rw[<-HP.out,Ki.out];have⟨N,cz,hF,Kl,H3⟩:=(hM.box G5 gg).full;refine⟨cz,N,(s,q),rfl,gZ,Y.gr gg hhi,H3,?_,Kl,Hx,hF⟩;rcases Nat.eq_zero_or_pos k with h0|h0
   .right;have:p=[]:=List.length_eq_zero_iff.1 (oJ (Hi h0) Ho.1);rw[this];rfl
   .left;intro e;have:=hM.some';rw[e]at this;simp at this;omega
theorem Ql{E:Ev}:∀(d:Nat) (p:List ByteArray),p.length+d=8->∀{w:Ur}{x x':Nat}{acc B:List Lf}{U:List Int},TS E w x acc->E.hi<=w.1.size->acc.length<=1000->RT E.K (d+1) p acc B U->Rv E x U x'->
  Cl 186 #[Uk (Uc E.tb),Ud (p.length:Int)] w λe w'=>kF E w acc B x' (aG p 3) (d+2) e w'
 |0,p,hp,_,_,_,_,_,_,hT,hhi,hl,hd,hR=>W8 hp (λh=>oM) hT hhi hl hd hR
 |d+1,p,hp,_,_,_,_,_,_,hT,hhi,hl,hd,hR=>W8 hp (λh s x x' acc J U W hrt hrv ht hh ha=>by
   have:=Ql d (p++[s]) oS ht hh ha hrt hrv;rw[show(((p++[s]).length:Nat):Int)=(p.length:Int)+1 by simp]at this;exact this) hT hhi hl hd hR
def By(zs:List Int):Prop:=∀z∈zs,0<=z/\z<256
theorem By.nil:By []:=λz h=>by cases h
theorem By.app{a b:List Int}(h:By a)(k:By b):By (a++b):=λz hz=>by
 rcases List.mem_append.1 hz with j|j
 .exact h z j
 .exact k z j
theorem By.flat{α:Type}{f:α->List Int}:∀{ys:List α},(∀y∈ys,By (f y))->By (ys.flatMap f):=fun{ys} h z j=>by
 have⟨y,k,j⟩:=List.mem_flatMap.1 j;exact h y k z j
theorem By.uv{v:Nat}(h:v<=10000000000):By (aI 9 v):=PU 9 v oM
theorem By.text(h:s.size<=10000000000):By (cM s):=By.app (By.uv h) (AZ s)
theorem Ra{l:List (Int×Int)}(h:∀p∈l,1<=p.1/\p.1<=p.2/\p.2<=1000000000)(i:Nat):(0<=sF l i/\sF l i<=1000000000)/\0<=sT l i/\sT l i<=1000000000:=by
 unfold sF sT;by_cases hi:i<l.length
 .have e:l.getD i (0,0)=l[i]:=by simp[UL,hi]
  have:=h _ (UZ hi);rw[e];omega
 .have e:l.getD i (0,0)=(0,0):=by simp[UL,UT (JC hi)]
  rw[e];simp
theorem Xf{l:List (Int×Int)}(h:∀p∈l,1<=p.1/\p.1<=p.2/\p.2<=1000000000):∀k,By (fW l k)
 |0=>By.nil
 |k+1=>by
  have j:=Ra h k;have m:0<=fI l k:=by
   cases k with
   |zero=>simp[fI]
   |succ k=>have:=Ra h k;simp only[fI];omega
  exact By.app (Xf h k)<|By.app (By.uv oM) (By.uv oM)
theorem SO(h:eQ R F T n=true):By (fF (Lk R F T n)):=by
 have j:=dL.1 h;rw[Cq];have m:=yK (Lk R F T n) 8;refine By.app (By.uv oM)<|By.flat λr hr=>?_;have q:=(sD (Lk R F T n) 8 r).1 hr;have u:=jJ R F T n r;have k:=(kZ n j.1 r).1.2;exact By.app (By.uv oM)<|By.app (By.uv oM) (Xf k _)
theorem S9{R F T:Nat->Int}{n:Nat}{l:List Lf}(h:dB R F T n l l.length)(hb:nC l):∀f p,By (tB l f p)
 |0,p=>by intro z k;simp[tB]at k
 |f+1,p=>by
  have⟨b,u⟩:=lU p h l.length zL;have v:=tP l p l.length;have g:=hb.len;rw[pZ];refine By.app (By.uv oM)<|By.flat λy hy=>?_;have⟨j,r,e⟩:=(u y).1 hy;have A:=yU (h j r).1 e;have q:=(mY.1 e).2;have o:y.2=1\/y.2=2\/y.2=3:=by
   rw[<-q];unfold bO;dsimp only;split
   .exact .inr<|.inr rfl
   .rcases lV (gL l j).fl with h|h
    .exact .inl h
    .exact .inr<|.inl h
  unfold kB;refine By.app (By.text oM) (By.app (λz k=>by rw[UY]at k;subst k;omega) ?_);by_cases m:y.2=3
  .rw[if_pos m];exact S9 h hb f _
  .rw[if_neg m];unfold mB;have t:=Iu l p y l.length;refine By.app (By.uv oM)<|By.flat λx hx=>?_;obtain⟨i,hi,_,rfl⟩:=kT.1 hx;have r1:=hb.rep i hi;have r2:=hb.seq i hi;have s:=hb.val i hi;unfold cU;refine By.app (By.uv oM)<|By.app (By.uv oM) ?_;split
   .exact By.text oM
   .exact By.nil
theorem By.byt(h:By zs):dO (λi=>zs.getD i 0):=λi=>by
 by_cases hi:i<zs.length
 .have e:zs.getD i 0=zs[i]:=by simp[UL,hi]
  have:=h _ (UZ hi);dsimp only;rw[e];omega
 .have e:zs.getD i 0=0:=by simp[UL,UT (JC hi)]
  dsimp only;rw[e];omega
def Ak:Nat->List ByteArray->List Lf->List Int->Prop
 |0,_,_,_=>False
 |d+1,p,B,U=>∃G:List tC,B=G.flatMap (λg=>g.2.1)/\U=aI 9 G.length++G.flatMap (λg=>cM g.1.1++([g.1.2]++g.2.2))/\(G.map Prod.fst).Pairwise (λx y=>eR x y<0)/\∀g∈G,(g.2.1≠[]/\∀z∈g.2.1,nx p z=Uq g.1)/\(if g.1.2=3 then Ak d (p++[g.1.1]) g.2.1 g.2.2 else g.2.2=mB g.2.1 g.1.2)
theorem SJ{a b:Lf}(h1:a.p=b.p)(h2:a.fl=b.fl):aY a b=fG (a.r,a.q) (b.r,b.q):=by
 unfold aY;rw[h1,h2];have j:aW b.p b.p=0:=(bH.path.z _ _).2 rfl;have k:bN (kd b.fl) (kd b.fl)=0:=(bH.int.z _ _).2 rfl;rw[j,k];simp[dX];rfl
theorem NO{a b:Lf}(h:fG (a.r,a.q) (b.r,b.q)<0):lD a b:=λe=>by
 rw[e.1,e.2,bH.dot.irr]at h;omega
section
variable {K : Int-> Int-> Bool}
theorem S1{kind:Int}{p:List ByteArray}:∀{B:List Lf}{before:Dt}{acc:List Lf},(∀z∈B,BP K kind p z/\fG before (z.r,z.q)<0)->B.Pairwise (λx y=>fG (x.r,x.q) (y.r,y.q)<0)->(∀y∈acc,∀z∈B,lD y z)->(acc++B).length<=1000->kE K kind p before acc B
 |[],_,_,_,_,_,_=>trivial
 |z::B,before,acc,h1,h2,h3,h4=>by
  have⟨k,m⟩:=List.pairwise_cons.1 h2;refine⟨(h1 z Vf).1,(h1 z Vf).2,λy j=>h3 y j z Vf,by simp at h4;omega,?_⟩;refine S1 (λx hx=>⟨(h1 x (Vg _ hx)).1,k x hx⟩) m (λy j x hx=>?_)<|oU h4;rcases List.mem_append.1 j with j|j
  .exact h3 y j x<|Vg _ hx
  .simp at j;subst j;exact NO<|k x hx
structure VB(K:Int->Int->Bool)(B:List Lf):Prop where
 ok:∀z∈B,jH z/\K z.r z.q=true
 ord:B.Pairwise (λx y=>aY x y<0)
 dif:B.Pairwise lD
theorem VB.parts{A B:List Lf}(h:VB K (A++B)):VB K A/\VB K B/\(∀a∈A,∀b∈B,lD a b):=by
 have⟨q,r,_⟩:=List.pairwise_append.1 h.ord;have⟨j,k,m⟩:=List.pairwise_append.1 h.dif;exact⟨⟨λz hz=>h.ok z (by simp[hz]),q,j⟩,⟨λz hz=>h.ok z (by simp[hz]),r,k⟩,m⟩
theorem TX{v:ByteArray}:fO v=true↔v=ByteArray.empty:=by
 unfold fO;rw[Lib.toList_data];have⟨⟨l⟩⟩:=v;cases l with
 |nil=>simp;rfl
 |cons a l=>simp;intro h;injection h with h;injection h with h;cases h
end
theorem AK:∀{G:List tC},(∀g∈G,g.2.1≠[])->G.length<=(G.flatMap λg=>g.2.1).length
 |[],_=>oP
 |g::G,h=>by
  have j:=AK (G:=G)<|λx hx=>h x (Vg _ hx);have:1<=g.2.1.length:=List.length_pos_iff.2 (h g Vf);rw[VP,UM,UP];omega
theorem Mx(hx:jH x)(h:nx p x=Uq y):y.1.size≠0/\p.length<8:=by
 rw[mY]at h;have⟨⟨_,m⟩,e⟩:=h;have j:gS x.p p.length=y.1:=congrArg Prod.fst e;have k:=(hx.1.2.2 p.length m).1;rw[j]at k;have:=hx.1.2.1;exact⟨oM,oM⟩
theorem SC{k:Int}(h:s.size≠0):eR (ByteArray.empty,0) (s,k)<0:=by
 have e:kA ByteArray.empty s=true:=by
  unfold kA;rw[Lib.toList_data,Lib.toList_data];have⟨⟨l⟩⟩:=s;cases l with
  |nil=>exact absurd rfl h
  |cons a l=>rfl
 unfold eR dD;simp[e,dX]
section
variable {K : Int-> Int-> Bool}
def E1(K:Int->Int->Bool)(d:Nat):Prop:=∀p acc B U,Ak d p B U->VB K B->(∀y∈acc,∀z∈B,lD y z)->(acc++B).length<=1000->p.length+d=9->(p≠[]->B≠[])->RT K d p acc B U
theorem DO{d:Nat}(hK:tA K)(ih:E1 K d){p:List ByteArray}(hd:p.length+(d+1)=9){acc:List Lf}{g:tC}(h1:g.2.1≠[]/\∀z∈g.2.1,nx p z=Uq g.1)(h2:if g.1.2=3 then Ak d (p++[g.1.1]) g.2.1 g.2.2 else g.2.2=mB g.2.1 g.1.2)
  (hv:VB K g.2.1) (hx:∀y∈acc,∀z∈g.2.1,lD y z) (hl:(acc++g.2.1).length<=1000):RD K (RT K d) p g.1 acc g.2.1 g.2.2:=by
 unfold RD;by_cases m:g.1.2=3
 .rw[if_pos m]at h2⊢;exact ih _ _ _ _ h2 hv hx hl oS<|λ_=>h1.1
 .rw[if_neg m]at h2⊢;have j:∀z∈g.2.1,z.p=p++[g.1.1]/\kd z.fl=g.1.2:=λz j=>Ea m (h1.2 z j);have⟨o,t⟩:=JG _ h1.1;have v:g.1.2=1\/g.1.2=2:=by rw[<-(j o t).2];exact lV _
  refine⟨v,h1.1,by simp at hl;omega,S1 (λz hz'=>⟨⟨(j z hz').1,?_,(hv.ok z hz').2,(hv.ok z hz').1.2.1,λe=>?_⟩,?_⟩) ?_ hx hl,h2⟩
  .have:=(j z hz').2;cases e:z.fl;all_goals rw[e]at this;rw[<-this];rfl
  .have:=(j z hz').2;rw[e]at this;refine TX.1<|(hv.ok z hz').1.2.2 ?_;cases k:z.fl
   .rw[k]at this;simp[kd]at this
   .rfl
  .have⟨i,_,s,_⟩:=hK _ _ (hv.ok z hz').2;unfold fG dX bN;simp only;by_cases e:0<z.r
   .simp[e]
   .have k:z.r=0:=oM;simp[k];omega
  .refine List.Pairwise.imp_of_mem ?_ hv.ord;intro a b q u h;rwa [SJ ((j a q).1.trans (j b u).1.symm) (Bu ((j a q).2.trans (j b u).2.symm))]at h
theorem Qx{d:Nat}(hK:tA K)(ih:E1 K d){p:List ByteArray}(hd:p.length+(d+1)=9):∀{G:List tC}{before:Ky}{acc:List Lf},
  (∀g∈G,(g.2.1≠[]/\∀z∈g.2.1,nx p z=Uq g.1)/\(if g.1.2=3 then Ak d (p++[g.1.1]) g.2.1 g.2.2 else g.2.2=mB g.2.1 g.1.2))->(G.map Prod.fst).Pairwise (λx y=>eR x y<0)->(∀g∈G,eR before g.1<0)->
  VB K (G.flatMap λg=>g.2.1)->(∀y∈acc,∀z∈G.flatMap (λg=>g.2.1),lD y z)->(acc++G.flatMap λg=>g.2.1).length<=1000->RK K (RT K d) p before acc G
 |[],_,_,_,_,_,_,_,_=>trivial
 |g::G,before,acc,h1,h2,h3,h4,h5,h6=>by
  rw[VP]at h4 h5 h6;have⟨r,t,o⟩:=h4.parts;rw[UQ,List.pairwise_cons]at h2;have⟨k,u⟩:=h1 g Vf;have⟨q,m⟩:=JG _ k.1;have v:=Mx (r.ok q m).1<|k.2 q m;have h:=yU (r.ok q m).1<|k.2 q m;refine⟨⟨v.1,h,h3 g Vf⟩,DO hK ih hd k u r (λy j z hz=>h5 y j z (by simp[hz])) (by simp at h6⊢;omega),?_⟩;refine Qx hK ih hd (λx hx=>h1 x (Vg _ hx)) h2.2 (λx hx=>h2.1 x.1 (List.mem_map.2 ⟨x,hx,rfl⟩)) t (λy j z hz=>?_) (by rw[Ve];exact h6);rcases List.mem_append.1 j with j|j
  .exact h5 y j z (by simp[hz])
  .exact o y j z hz
theorem Qw(hK:tA K):∀d,E1 K d
 |0=>λp acc B U h=>h.elim
 |d+1=>λp acc B U ⟨G,hB,hU,hk,hG⟩ hv hx hl hd hp=>by
  subst hB;have q:=AK (G:=G)<|λg j=>(hG g j).1.1;refine⟨G,rfl,hU,by rw[UM]at hl;omega,λe=>?_,λe=>?_,Qx hK (Qw hK d) hd hG hk (λg j=>?_) hv hx hl⟩
  .by_cases m:p=[]
   .rw[m];rfl
   .exact absurd (by rw[e];rfl)<|hp m
  .have⟨g,j⟩:=JG _ e;have⟨z,k⟩:=JG _ (hG g j).1.1;have:z∈G.flatMap λg=>g.2.1:=(by simpa using ⟨g.1.1,g.1.2,g.2.1,⟨g.2.2,j⟩,k⟩);exact(Mx (hv.ok z this).1 ((hG g j).1.2 z k)).2
  .have⟨z,k⟩:=JG _ (hG g j).1.1;have:z∈G.flatMap λg=>g.2.1:=(by simpa using ⟨g.1.1,g.1.2,g.2.1,⟨g.2.2,j⟩,k⟩);exact SC (Mx (hv.ok z this).1 ((hG g j).1.2 z k)).1
end
theorem Y6{R F T:Nat->Int}{n:Nat}{l:List Lf}(h:dB R F T n l l.length):∀(d:Nat) (p:List ByteArray),p.length+d=9->0<d->Ak d p (uL l p l.length) (tB l d p)
 |0,_,_,h0=>oM
 |d+1,p,hd,_=>by
  have⟨A,E⟩:=lU p h l.length zL;have b:∀y∈kS l p l.length,∃j,j<l.length/\nx p (gL l j)=Uq y:=λy m=>(E y).1 m;refine⟨(kS l p l.length).map λy=>(y,bF l p y l.length,if y.2=3 then tB l d (p++[y.1])else mB (bF l p y l.length) y.2),?_,?_,?_,?_⟩
  .rw[Yy,<-Np p h l.length zL]
  .rw[pZ,UR,Yy];rfl
  .rw[List.map_map];simpa[Function.comp_def]using A
  .intro g t;obtain⟨y,m,rfl⟩:=List.mem_map.1 t;have⟨j,r,u⟩:=b y m;refine⟨⟨?_,λz hz=>?_⟩,?_⟩
   .exact List.ne_nil_of_mem<|kT.2 ⟨j,r,u,rfl⟩
   .obtain⟨i,_,hi,rfl⟩:=kT.1 hz;exact hi
   .by_cases k:y.2=3
    .simp only[if_pos k];have q:y=(y.1,3):=(by rw[<-k]);have v:bF l p y l.length=uL l (p++[y.1]) l.length:=by
      conv=>lhs;rw[q]
      exact Ic l p y.1 l.length
     rw[v];have o:nx (p++[y.1]) (gL l j)≠Up:=sC.1<|q▸u;have s:=(nU.1 o).2;have M:=(h j r).1.1.2.1;simp at s;exact Y6 h d (p++[y.1]) oS oM
    .simp only[if_neg k]
theorem DN(h1:dB R F T n l l.length)(h2:fK l l.length):VB (λr q=>cE R F T r q q n) l:=by
 have k:∀{i:Nat} (hi:i<l.length),gL l i=l[i]:=fun{i} hi=>by simp[gL,UL,hi]
 refine⟨λz hz=>?_,List.pairwise_iff_getElem.2 λi j hi hj hij=>?_,List.pairwise_iff_getElem.2 λi j hi hj hij=>?_⟩
 .obtain⟨i,hi,rfl⟩:=JI hz;have:=h1 i hi;rw[k hi]at this;exact⟨this.1,this.2.1⟩
 .have:=h1.lt j hij hj;rwa [k hi,k hj]at this
 .have:=h2 j hj i hij;rwa [k hi,k hj]at this
theorem BG{α β:Type}{f g:α->List β}:∀{ys:List α},(∀y∈ys,f y=g y)->ys.flatMap f=ys.flatMap g
 |[],_=>rfl
 |y::ys,h=>by
  rw[VP,VP,h y Vf,BG λz hz=>h z (Vg _ hz)]
theorem S8{R F T:Nat->Int}{n:Nat}{l:List Lf}(h:dB R F T n l l.length):∀(d:Nat) (p:List ByteArray),p.length+(d+1)=8->tB l (d+1) p=tB l (d+2) p
 |d,p,hp=>by
  rw[pZ,pZ];congr 1;refine BG λy hy=>?_;unfold kB;by_cases k:y.2=3
  .have⟨j,q,u⟩:=((lU p h l.length zL).2 y).1 hy;have m:y=(y.1,3):=(by rw[<-k]);have r:nx (p++[y.1]) (gL l j)≠Up:=sC.1<|m▸u;have v:=(nU.1 r).2;have z:=(h j q).1.1.2.1;simp at v;rw[if_pos k,if_pos k];match d,hp with
   |0,hp=>omega
   |d+1,hp=>rw[S8 h d (p++[y.1]) oS]
  .rw[if_neg k,if_neg k]
theorem Q7(h:eQ R F T m=true):tA (λr q=>cE R F T r q q m):=λr q hq=>by
 have⟨k,j,u,v,y⟩:=Ft R F T r q q m hq;have:=((dL.1 h).1 k j).1;simp only[fR,Bool.and_eq_true,decide_eq_true_eq]at this;omega
theorem Pq(h:eQ R F T m=true):(λr q=>gQ (Lk R F T m r) q q)=λr q=>cE R F T r q q m:=by
 funext r q;rw[yX]
theorem Qn(h:bG R F T m l):RT (λr q=>gQ (Lk R F T m r) q q) 9 [] [] l (tB l 8 []):=by
 rw[Pq h.1,S8 h.2.2.1 7 [] rfl];have j:=Y6 h.2.2.1 9 [] rfl oD;rw[Fk h.2.2.1 _ zL,Vj]at j;exact Qw (Q7 h.1) 9 [] [] l _ j (DN h.2.2.1 h.2.2.2) (λy hy=>by simp at hy) (oU h.2.1) rfl<|λh=>absurd rfl h
theorem Rz(h:eQ R F T m=true):∀r q,gQ (Lk R F T m r) q q=true->0<=r/\r<=7/\1<=q/\q<=1000000000:=λr q hq=>Q7 h r q ((congrFun (congrFun (Pq h) r) q).symm.trans hq)
structure LX(v:Ur)(b:Nat):Prop where
 c0:∃u,v.cell? (Ub b)=Uq (.map u)
 c1:∃u,v.cell? (Ua b 1)=Uq (.map u)
 c2:∃u,v.cell? (Ua b 2)=Uq (.map u)
 f0:∀i,v.frozen? (Ua b i)=false
 lt:b<v.1.size
theorem LX.q2{v:Ur}(h:LX v b):(∃u,v.cell? (Ub b)=Uq (.map u))/\(∃u,v.cell? (Ua b 1)=Uq (.map u)):=⟨h.c0,h.c1⟩
theorem LX.q3{v:Ur}(h:LX v b):(∃u,v.cell? (Ub b)=Uq (.map u))/\(∃u,v.cell? (Ua b 1)=Uq (.map u))/\(∃u,v.cell? (Ua b 2)=Uq (.map u)):=⟨h.c0,h.c1,h.c2⟩
section
variable {w v v' : Ur}{tb ub : Nat}
theorem LX.same{b:Nat}(h:LX v b)(e:v'.1[b]? =v.1[b]?)(hz:v.1.size<=v'.1.size):LX v' b:=by
 have⟨q,j⟩:=h.c0;have⟨r,k⟩:=h.c1;have⟨u,m⟩:=h.c2;exact⟨⟨q,(Vy (a:=(Ub b)) e).trans j⟩,⟨r,(Vy (a:=(Ua b 1)) e).trans k⟩,⟨u,(Vy (a:=(Ua b 2)) e).trans m⟩,λi=>(World.frozen?_of_block (a:=(Ua b i)) e).trans (h.f0 i),Ut h.lt hz⟩
theorem LX.fill{b:Nat}(h:LX v b)(s0 s1 s2:Option Nat):
  ∃Z,Z=((v.setCell (Ub b) (.map s0)).setCell (Ua b 1) (.map s1)).setCell (Ua b 2) (.map s2)/\Z.cell? (Ub b)=Uq (.map s0)/\Z.cell? (Ua b 1)=Uq (.map s1)/\Z.cell? (Ua b 2)=Uq (.map s2)/\v.grownBy Z (Uq b):=by
 have⟨u,m⟩:=h.c0;have⟨y,q⟩:=h.c1;have⟨z,r⟩:=h.c2;refine⟨_,rfl,?_,?_,?_,⟨rfl,rfl,rfl,by simp[Vr],λk hk hne=>?_⟩⟩
 .rw[Vt _ _ _ _ oP,Vt _ _ _ _ oP];exact Vs _ _ _ m
 .rw[Vt _ _ _ _ oP];exact Vs _ _ _ (by rw[Vt _ _ _ _ oP];exact q)
 .exact Vs _ _ _ (by rw[Vt _ _ _ _ oP,Vt _ _ _ _ oP];exact r)
 .have j:k≠b:=λe=>hne (by rw[e]);exact(zH _ _ _ _ j).trans ((zH _ _ _ _ j).trans (zH _ _ _ _ j))
end
theorem TD(hst:bG R F T m l)(hA:At f 0 (dF R F T m l))(hl:n=(dF R F T m l).length)(h4:n<=4000)(hnc:n<=c)(hcc:c<=9223372036854775807)(hf:dO f)(hs:bY w a n f)(hab:∀y,a=Uq y->y.block<w.1.size):
  Cl 160 #[Uf a n c] w λe w'=>∃(z0:Nat×Nat) (bd:Nat),e=Ui (Ul #[Uo #[.map (Uq z0.1),.map (Uq z0.2),.map (Uq bd)],.nilIface])/\jZ w' z0 bd l (flat R F T m)/\Bl w w':=by
 obtain⟨P,hP⟩:∃P:Ending->Ur->Prop,(λe w'=>∃(z0:Nat×Nat) (bd:Nat),e=Ui (Ul #[Uo #[.map (Uq z0.1),.map (Uq z0.2),.map (Uq bd)],.nilIface])/\jZ w' z0 bd l (flat R F T m)/\Bl w w')=P:=⟨_,rfl⟩;rw[hP];have HP:=aC hP;have⟨c1,c2,c3,c4,c5,c6,c7⟩:=Su hst.1;have Hs:Rb f n 0 (pW (mP (Lk R F T m))++tB l 8 []) n:=by rw[c2];exact⟨hA,by rw[UA];exact hl,Ux _⟩
 have⟨x1,o,g⟩:=Hs.app;have H5:=@run_makeMap prog;have Ga:¬(4000:Int)<(n:Int):=oM;generalize h:((w.alloc (Uj #[.map Up,.map Up,.map Up] 111)).alloc (.map #[] 0)).alloc (Uj #[Uf a n c,Ud 0,.map Up,.map (Uq (w.1.size+1))] 273)=W;have bW:Bl w W:=h▸((zO _ _).alloc oP _).alloc oS _;have zW:W.1.size=w.1.size+3:=h▸oP;have xR:LX (w.alloc (Uj #[.map Up,.map Up,.map Up] 111)) w.1.size:=⟨⟨Up,oP⟩,⟨Up,oP⟩,⟨Up,oP⟩,λi=>by rw[VE _ _ _ _ rfl],oP⟩;have xW:LX W w.1.size:=xR.same (h▸(Below.heap_alloc _ _ _ oS).trans (Below.heap_alloc _ _ _ oP))<|h▸oP;have uW:iR W (w.1.size+1) []:=by
  have:=(iR.made (w.alloc (Uj #[.map Up,.map Up,.map Up] 111)));rw[<-h];have h2:iR ((w.alloc (Uj #[.map Up,.map Up,.map Up] 111)).alloc (.map #[] 0)) (w.1.size+1) []:=oU this;exact h2.same<|Below.heap_alloc _ _ _ oP
 have cW:fV (λi=>if i=2 then Uq (.map Up)else if i=3 then Uq (.map (Uq (w.1.size+1)))else Up) W (w.1.size+2) a n c ((0:Nat):Int):=by
  rw[<-h];refine⟨?_,?_,?_,λi hi=>?_⟩
  .rw[VC _ _ _ _ oP];rfl
  .rw[VC _ _ _ _ oP];rfl
  .rw[VE _ _ _ _ oP]
  .rw[VC _ _ _ _ oP,VE _ _ _ _ oP];refine⟨?_,rfl⟩;match i,hi with
   |2,_=>rfl
   |3,_=>rfl
   |j+4,_=>simp
 have C:Cu (λi=>if i=2 then Uq (.map Up)else if i=3 then Uq (.map (Uq (w.1.size+1)))else Up) W (w.1.size+2) a n c f 0:=⟨cW,hs.bw bW,λy hy=>oH (hab y hy),oM,hnc,hcc,hf⟩;have S:=aC<|EB C c1 o (λy hy=>oH (hab y hy));rw[c3]at S;have Hw:=aC g;have HX:=aC xW;have Hx:=aC uW;have Hi:=aC bW;have HZ:=aC zW;have Ht:=aC hab;have M:=aC<|And.intro c4 (And.intro c5 (And.intro c6 c7));have Hj:=aC<|And.intro (Qn hst) (And.intro (Rz hst.1) hst.2.1);clear hf hs xW uW bW zW cW xR hab C c1 c2 c3 c4 c5 c6 c7 o g Hs hA hst hP hl;go_enter func160,ntmps160;go_wp2_with fail;clear h H5;refine S.mono ?_;clear S;rintro e w1⟨z,nn,D,G,⟨rfl,g1,q⟩,X,H3,Hg⟩;have zz:=HZ.out;have z1:=g1.size;have⟨Hl,Hm,Hn,U⟩:=q.cur;have cm:w1.cell? (Ua (w.1.size+1+1) 2)=Uq (.map Up):=(U 2 oM).1;generalize H:w1.setCell (Ua (w.1.size+2) 2) (.map (Uq z))=p;have K:w1.grownBy p (Uq (w.1.size+2)):=H▸eZ w1 (Ua (w.1.size+2) 2) _;have z2:p.1.size=w1.1.size:=by rw[<-H];simp[Vr]
 have V:=iN g1 K;obtain⟨E,t⟩:∃E:Ev,E=⟨w.1.size+2,z,w.1.size+1,w.1.size+3,w1.1.size,n,c,a,f,Lk R F T m⟩:=⟨_,rfl⟩;have T2:TS E p x1 []:=by
  subst t;refine⟨⟨?_,q.seg.grown K q.ab,q.ab,q.hn,q.nc,q.cc,q.byt⟩,Hx.same (V.block (w.1.size+1) oM (λe=>oI e)),⟨nn,D,G,X.gr K (λe=>oI e) (λr k hk e=>by injection e with e;have:=Hg r k hk;omega),λr k hk=>?_⟩,λy hy=>?_,oP,oP,oP,by dsimp only;omega,X.own.lt,λr=>⟨M.2.1 r,Uz (M.2.2.2 r) oM⟩,Hj.2.1⟩
  .show fV (xX z (w.1.size+1)) p (w.1.size+2) a n c (x1:Int);rw[<-H];refine⟨?_,?_,?_,λi hi=>?_⟩
   .rw[Vt _ _ _ _ oP];exact Hl
   .rw[Vt _ _ _ _ oP];exact Hm
   .rw[Vq];exact Hn
   .unfold xX;by_cases J:i=2
    .subst J;rw[if_pos rfl];exact⟨Vs _ _ _ cm,by rw[Vq];exact(U 2 oM).2⟩
    .have h3:=U i hi;dsimp only at h3;rw[if_neg J]at h3;rw[if_neg J,Vt _ _ _ _ (by intro e;injection e with e1 e3 e4;exact J e3.symm),Vq];exact h3
  .have:=(World.ownsRow.lt (X.rows r) k hk).2;have:=Hg r k hk;dsimp only;omega
  .have:=Ht y hy;dsimp only;omega
 have Ha:=aC (Ql 8 [] rfl T2 (by subst t;dsimp only;omega) oP (by subst t;exact Hj.1) (x':=n) (by subst t;exact Hw));have Hq:E.tb=w.1.size+2:=by rw[t]
 have Hu:aA (E.tb=w.1.size+2/\E.ub=w.1.size+1/\E.kb=z/\E.L=Lk R F T m/\E.bs=w.1.size+3/\E.n=n):=aC (by rw[t];exact⟨rfl,rfl,rfl,rfl,rfl,rfl⟩);rw[Hq]at Ha;have Hk:=aC<|HX.same (V.block w.1.size HX.lt (λe=>oI e)) V.size;have b:=aC<|Hi.grown V Hi.size (λk e=>oI e);have fz:w1.frozen? (Ua (w.1.size+1+1) 2)=false:=(U 2 oM).2;clear g1 X H3 Hg K V Hl Hm Hn U zz z1 T2 t Hq q;go_wp2_with fail;clear H cm fz;refine Ha.mono ?_;clear Ha;rintro e B⟨Hy,N,⟨s,A⟩,rfl,g3,t3,H0,H1,H2,He,Hr⟩;generalize Hf:B.alloc (Uj #[.map (Uq s),.map (Uq A)] 107)=Q;have b4:Bl B Q:=Hf▸zO _ _;have V4:aD Q B.1.size (.map (Uq s)) (.map (Uq A)):=Hf▸aD.made B _ _ _;have I:=t3.bw b4;have⟨Hb,Ho,Hc,Hp,Hd,Hz⟩:=Hu.out;have u:=g3.trans<|G2.bw b4;rw[Hb,Ho]at u;have O:=aC<|Hk.same (u.block w.1.size Hk.lt oM oM) u.size;have Hh:aA (Bl w Q):=aC ⟨u.os.trans b.os,u.tape.trans b.tape,u.output.trans b.output,Uz b.size u.size,λk hk=>(u.block k (Ut hk b.size) oM oM).trans (b.block k hk)⟩;have Gb:Q.cell? (Ua (w.1.size+1+1) 1)=Uq (Ud (n:Int)):=by have:=I.cu.cur.2.1;rw[Hb]at this;exact this
 have⟨n0,n1⟩:=V4.q2;have⟨u0,k0⟩:=O.c0;have⟨u1,k1⟩:=O.c1;have⟨u2,k2⟩:=O.c2;have f0:=O.f0;have Hv:aA (∀Z,Q.grownBy Z (Uq w.1.size)->jZ Z (s,A) z l (flat R F T m)):=aC (λZ Y=>by
  have⟨H6,D',G',o,g⟩:=I.grp;rw[Hc,Hp]at o;rw[Hd]at g;have H4:=I.kl;rw[Hd,Hc]at H4;refine⟨N,p.1.size,Hy,H6,D',G',Lk R F T m,(Hr.bw b4).box k0 Y,?_,o.gr Y (λe=>oI e) (λr k hk e=>by injection e with e;have:=(g r k hk).1;omega),M.1,M.2.2.1,λr=>Uz (M.2.2.2 r) oM⟩;simp only[Yj]at He;have:=Nat.mul_le_mul_left 10 He;omega)
 clear b4 V4 I u g3 t3 H0 H1 H2 He Hr Hb Ho Hc Hp Hd Hz;go_wp2_with fail;have⟨Z,hZ,q0,o,g,Y⟩:=O.fill (Uq s) (Uq A) (Uq z);rw[<-hZ];clear hZ;refine zF (v:=Ul #[Uo #[.map (Uq s),.map (Uq A),.map (Uq z)],.nilIface]) (by simp[results,results160,go_sem,q0,o,g]) ?_;rw[<-HP.out];exact⟨(s,A),z,rfl,Hv Z Y,Hh.grown Y Hh.size (λk e=>oI e)⟩
theorem Ng(t e:TypeId)(i:TypeInfo)(z:aB)(size bytes:Nat)(ht:prog.underlying t=Uq (.slice e))(hi:prog.info? e=Uq i)(hz:i.zero=Uq z)(hsize:i.size=size)(hby:i.bytes=bytes)(hzs:z.cells.size=size)(hsz:0<size)(hb2:bytes<=64)(a:Option Us)(m c:Nat)(C:Nat->aB)(w:Ur)(hm:m<=1048576)(hC:m=0\/∃g off,a=Uq (Ua g off)/\∀j,j<m*size->w.cell? (Ua g (off+j))=Uq (C j))(h1:∀j,j<m*size->(C j).oneCell'=true):
  ∃a' cap w',(Builtin.append_ #[t,t] t #[Ue,Uf a m c]).run prog w=.ok (Uf a' m cap) w'/\Bl w w'/\(m<=cap/\cap<=9223372036854775807)/\(0<m->∃q,a'=Uq (Ub q)/\w.1.size<=q/\q<w'.1.size/\Wr w' q e (m*size) C):=by
 cases a with
 |none=>
  obtain rfl:m=0:=by
   rcases hC with h|⟨_,_,h,_⟩
   .exact h
   .cases h
  exact⟨Up,0,w,On w t t e i ht hi Up 0 0 c zL,zI,⟨oM,oM⟩,λh=>oM⟩
 |some ad=>
  have⟨v',w',E,p,O,Z,G⟩:=run_append_own_at (P:=prog) w w.1.size t t e i z size bytes ht hi hz hsize hby hzs hsz Ue 0 [] (Vw _ _ _ _) ad m c ((Vb (m*size)).map C) oP (λj u v=>by
   simp only[List.getElem?_map,Option.map_eq_some_iff]at v;obtain⟨q,r,rfl⟩:=v;have A:j<m*size:=by
    rcases JD j (m*size)with h|h
    .exact h
    .rw[UT (oU h)]at r;cases r
   rw[Yp A]at r;have r:=Option.some.inj r;rcases hC with y|⟨g,off,e,U⟩
   .subst y;omega
   .injection e with e;rw[e,<-r,zM];exact U j A) (λu hu=>by
   obtain⟨j,v,rfl⟩:=List.mem_map.1 hu;exact h1 j (oU v)) oL (by
    have:m*bytes<=1048576*64:=YK hm hb2;rw[UA];omega) zL
  rw[UA,Yj]at p;have s:Bl w w':=zI.grown O zL (λk e=>by simp[Value.ownBlock]at e);rcases p.2 with⟨rfl,y⟩|⟨q,cap,o,rfl,Q,r,Y,V,H,M⟩
  .subst y;exact⟨Up,0,w',E,s,⟨oM,oM⟩,λh=>oM⟩
  .refine⟨_,cap,w',E,s,⟨Y,by unfold maxLen at V;omega⟩,λ_=>⟨q,rfl,Q,(Array.getElem?_eq_some_iff.1 r).1,o,r,?_,λj v=>?_⟩⟩
   .have:=congrArg List.length M;simp at this;omega
   .have b:(o.toList.take (m*size))[j]? =((Vb (m*size)).map C)[j]? :=(by rw[M]);rw[VV v]at b;rw[<-Array.getElem?_toList,b];simp[Yp v]
def Pb(e:TypeId)(m k:Nat)(C:Nat->aB)(w:Ur)(en:Ending)(w':Ur):Prop:=∃a cap,en=Ui (Uf a m cap)/\Bl w w'/\(m<=cap/\cap<=9223372036854775807)/\(0<m->∃q,a=Uq (Ub q)/\w.1.size<=q/\q<w'.1.size/\Wr w' q e (m*k) C)
theorem pI{Q:Prop}(h:Q:=by go_wp2_with (at_builtin;refine cL rfl _ _ _ _ rfl k (by rfl) (by rfl) rfl ?_;clear k);go_ret;exact⟨r,cap,rfl,q⟩):Q:=h
theorem RM(a:Option Us)(c:Nat)(p:List ByteArray)(w:Ur)(hm:p.length<=1048576)(h:aV w a p):
  Cl 84 #[Uf a p.length c] w λen w'=>Pb 9 p.length 1 (λt=>Um (gS p t)) w en w':=by
 have⟨z,hi,u,v,y⟩:=info_parts uE;have⟨r,cap,w',k,m⟩:=Ng 31 9 z _ 1 16 underlying31 hi u v y rfl oD oM a p.length c (λt=>Um (gS p t)) w hm (h.imp id λ⟨g,o,e,_,hc⟩=>⟨g,o,e,λj hj=>hc j oM⟩) (λ_ _=>rfl);have q:=aC m;go_enter func84,ntmps84;exact pI
def tF(R F T:Nat->Int)(j:Nat):aB:=if j%3=0 then Ud (R (j/3))else if j%3=1 then Ud (F (j/3))else Ud (T (j/3))
theorem ED(h:Wr w q 103 (n*3) (tF R F T)):bI w (Uc q) n R F T:=by
 refine .inr ⟨q,0,rfl,h.lt,λi hi=>?_⟩;have j:=h.cell (i:=i*3) oM;have k:=h.cell (i:=i*3+1) oM;have m:=h.cell (i:=i*3+2) oM;unfold tF at j k m;rw[if_pos oM,show i*3/3=i by omega]at j;rw[if_neg oM,if_pos oM,show(i*3+1)/3=i by omega]at k;rw[if_neg oM,if_neg oM,show(i*3+2)/3=i by omega]at m;exact⟨oU j,by simpa using k,oU m⟩
theorem RN(a:Option Us)(n c:Nat)(R F T:Nat->Int)(w:Ur)(hm:n<=1048576)(h:bI w a n R F T):
  Cl 85 #[Uf a n c] w λen w'=>Pb 103 n 3 (tF R F T) w en w':=by
 have⟨s,hi,i,b,p⟩:=info_parts Tryz.infoRun;have⟨v,cap,w',m,q⟩:=Ng 24 103 s _ 3 24 underlying24 hi i b p rfl oD oM a n c (tF R F T) w hm (h.imp id λ⟨g,o,e,_,hc⟩=>⟨g,o,e,λj hj=>by
  have⟨y,z,t⟩:=hc (j/3) oM;unfold tF;by_cases k:j%3=0
  .rw[if_pos k];rw[show o+j=o+j/3*3 by omega];exact y
  .by_cases r:j%3=1
   .rw[if_neg k,if_pos r];rw[show o+j=o+j/3*3+1 by omega];exact z
   .rw[if_neg k,if_neg r];rw[show o+j=o+j/3*3+2 by omega];exact t⟩) (λj _=>by unfold tF;split;rfl;split<;>rfl)
 have u:=aC q;go_enter func85,ntmps85;go_wp2_with (at_builtin;refine cL rfl _ _ _ _ rfl m (by rfl) (by rfl) rfl ?_;clear m);go_ret;exact⟨v,cap,rfl,u⟩
def fX(l:List Lf)(A:Nat->aB)(j:Nat):aB:=
 if j%5=0 then A (j/5)else if j%5=1 then Un (gL l (j/5)).fl else if j%5=2 then Ud (gL l (j/5)).r else if j%5=3 then Ud (gL l (j/5)).q else Um (gL l (j/5)).v
theorem tJ(l:List Lf)(A:Nat->aB)(i:Nat):fX l A (i*5)=A i/\fX l A (i*5+1)=Un (gL l i).fl/\fX l A (i*5+2)=Ud (gL l i).r/\fX l A (i*5+3)=Ud (gL l i).q/\fX l A (i*5+4)=Um (gL l i).v:=by
 unfold fX;exact wI
def Ai(w:Ur)(l:List Lf)(A:Nat->aB):Prop:=∀i,i<l.length->∃pa pc,A i=Uf pa (gL l i).p.length pc/\aV w pa (gL l i).p
theorem Ai.bw{A:Nat->aB}(h:Ai w l A)(hb:Bl w w'):Ai w' l A:=λi hi=>by
 have⟨j,pc,e,s⟩:=h i hi;exact⟨j,pc,e,s.bw hb⟩
theorem TT{P:Nat->aB->Prop}(h:∀i,i<n->∃v,P i v):∃A:Nat->aB,∀i,i<n->P i (A i):=
 ⟨λi=>if hi:i<n then(h i hi).choose else Un true,λi hi=>by dsimp only;rw[dif_pos hi];exact(h i hi).choose_spec⟩
theorem gA.cl(h:gA w a l):∃A,Ai w l A/\(l.length=0\/∃g off,a=Uq (Ua g off)/\∀j,j<l.length*5->w.cell? (Ua g (off+j))=Uq (fX l A j)):=by
 rcases h with h|⟨g,off,e,V,u⟩
 .exact⟨λ_=>Un true,λi hi=>oM,.inl h⟩
 .have U:∀i,i<l.length->∃v:aB,w.cell? (Ua g (off+i*5))=Uq v/\∃k pc,v=Uf k (gL l i).p.length pc/\aV w k (gL l i).p:=λi hi=>by
   have⟨k,pc,q,s,_⟩:=u i hi;exact⟨_,q,k,pc,rfl,s⟩
  have⟨A,r⟩:=TT U;refine⟨A,λi hi=>(r i hi).2,.inr ⟨g,off,e,λj hj=>?_⟩⟩;have hi:j/5<l.length:=oM;have⟨k,pc,q,_,y,z,t,o⟩:=u (j/5) hi;have⟨b,E,M,O,Q⟩:=tJ l A (j/5);rcases (show j%5=0\/j%5=1\/j%5=2\/j%5=3\/j%5=4 by omega)with m|m|m|m|m
  .rw[show fX l A j=fX l A (j/5*5) by congr 1;omega,b,show off+j=off+j/5*5 by omega];exact(r _ hi).1
  .rw[show fX l A j=fX l A (j/5*5+1) by congr 1;omega,E,show off+j=off+j/5*5+1 by omega];exact y
  .rw[show fX l A j=fX l A (j/5*5+2) by congr 1;omega,M,show off+j=off+j/5*5+2 by omega];exact z
  .rw[show fX l A j=fX l A (j/5*5+3) by congr 1;omega,O,show off+j=off+j/5*5+3 by omega];exact t
  .rw[show fX l A j=fX l A (j/5*5+4) by congr 1;omega,Q,show off+j=off+j/5*5+4 by omega];exact o
theorem TZ(a:Option Us)(c:Nat)(l:List Lf)(A:Nat->aB)(w:Ur)(hm:l.length<=1048576)(hp:Ai w l A)(h:l.length=0\/∃g off,a=Uq (Ua g off)/\∀j,j<l.length*5->w.cell? (Ua g (off+j))=Uq (fX l A j)):
  Cl 83 #[Uf a l.length c] w λen w'=>Pb 101 l.length 5 (fX l A) w en w':=by
 have⟨z,hi,u,v,y⟩:=info_parts yZ;have⟨r,cap,w',k,m⟩:=Ng 23 101 z _ 5 64 underlying23 hi u v y rfl oD oM a l.length c (fX l A) w hm h (λj hj=>by
  have⟨t,pc,e,_⟩:=hp (j/5) oM;unfold fX;split;rw[e];rfl;split;rfl;split;rfl;split<;>rfl)
 have q:=aC m;go_enter func83,ntmps83;exact pI
structure mH(wr:Ur)(lo b:Nat)(l:List Lf)(k:Nat):Prop where
 b1:lo<=b
 wr':∃C,Wr wr b 101 (l.length*5) C
 new:∀i,i<k->i<l.length->∃pa pc,wr.cell? (Ua b (i*5))=Uq (Uf pa (gL l i).p.length pc)/\((gL l i).p.length<=pc/\pc<=9223372036854775807)/\(0<(gL l i).p.length->∃q,pa=Uq (Ub q)/\b<q/\q<wr.1.size/\Wr wr q 9 ((gL l i).p.length*1) (λt=>Um (gS (gL l i).p t)))
 cel:∀i,i<l.length->wr.cell? (Ua b (i*5+1))=Uq (Un (gL l i).fl)/\wr.cell? (Ua b (i*5+2))=Uq (Ud (gL l i).r)/\wr.cell? (Ua b (i*5+3))=Uq (Ud (gL l i).q)/\wr.cell? (Ua b (i*5+4))=Uq (Um (gL l i).v)
theorem mH.step(h:mH wr lo b l k)(hk:k<l.length)(hb:Bl wr w1){pc:Nat}(hc:(gL l k).p.length<=pc/\pc<=9223372036854775807)(hn:0<(gL l k).p.length->∃q,pa=Uq (Ub q)/\wr.1.size<=q/\q<w1.1.size/\Wr w1 q 9 ((gL l k).p.length*1) (λt=>Um (gS (gL l k).p t))):
  mH (w1.setCell (Ua b (k*5)) (Uf pa (gL l k).p.length pc)) lo b l (k+1):=by
 have⟨C,r⟩:=h.wr';have z:=r.same<|hb.block b r.lt;have U:=hb.size;have Q:b<wr.1.size:=r.lt;have m:∀j,j≠k*5->(w1.setCell (Ua b (k*5)) (Uf pa (gL l k).p.length pc)).cell? (Ua b j)=wr.cell? (Ua b j):=λj hj=>by
  rw[show(w1.setCell (Ua b (k*5)) (Uf pa (gL l k).p.length pc)).cell? (Ua b j)=w1.cell? (Ua b j) by simp[Vt,Ne.symm hj]];exact hb.cell (p:=(Ua b j)) r.lt
 refine⟨h.b1,⟨_,z.set _ _⟩,λi h1 h2=>?_,λi h2=>?_⟩
 .by_cases e:i=k
  .subst e;refine⟨pa,pc,Vs _ _ _ (z.cell (i:=i*5) oM),hc,λh3=>?_⟩;have⟨q,u,y,v,g⟩:=hn h3;exact⟨q,u,oM,by simpa[Vr]using v,g.same (zH _ _ _ _ oS)⟩
  .have⟨M,O,u,y,v⟩:=h.new i oM h2;refine⟨M,O,by rw[m _ oM];exact u,y,λh3=>?_⟩;have⟨q,o,s,A,E⟩:=v h3;exact⟨q,o,s,by simp[Vr];omega,(E.same (hb.block _ A)).same (zH _ _ _ _ oS)⟩
 .rw[m _ oM,m _ oM,m _ oM,m _ oM];exact h.cel i h2
theorem mH.done(h:mH wr lo b l l.length)(hs:wr.1.size<=w'.1.size)(hq:∀q,lo<=q->q<wr.1.size->w'.1[q]? =wr.1[q]?):dH w' (Uc b) l:=by
 have⟨C,O⟩:=h.wr';have Q:=O.lt;have o:=hq b h.b1 Q;have k:∀j,w'.cell? (Ua b j)=wr.cell? (Ua b j):=λj=>Vy (a:=(Ua b j)) o;refine .inr ⟨b,0,rfl,oM,λi hi'=>?_⟩;have⟨m,r,u,v⟩:=h.cel i hi';have⟨U,pc,y,z,g⟩:=h.new i hi' hi';simp only[UA];refine⟨U,pc,⟨(k _).trans y,z⟩,?_,(k _).trans m,(k _).trans r,(k _).trans u,(k _).trans v⟩;by_cases M:0<(gL l i).p.length
 .have⟨q,s,V,A,E⟩:=g M;have:=h.b1;exact .inr ⟨q,0,s,oM,λt ht=>by rw[UA];exact(E.same (hq q oM A)).cell oM⟩
 .exact .inl oM
theorem mH.start{A:Nat->aB}(hb:lo<=b)(h:Wr w1 b 101 (l.length*5) (fX l A)):mH w1 lo b l 0:=
 ⟨hb,⟨_,h⟩,λi h1=>oM,λi hi=>⟨by rw[h.cell oM,(tJ l A i).2.1],by rw[h.cell oM,(tJ l A i).2.2.1],by rw[h.cell oM,(tJ l A i).2.2.2.1],by rw[h.cell oM,(tJ l A i).2.2.2.2]⟩⟩
def XO(S:Sx)(w:Ur)(e:Ending)(w':Ur):Prop:=∃a c' x d',e=Ui (Uo #[Uf a S.l.length c',Uf x S.n d'])/\aM w' w.1.size w'.1.size a x d' S/\Bl w w'
theorem Z5(a x:Option Us)(c d:Nat)(S:Sx)(w:Ur)(hm:S.Sm)(h:cX w a x S):
  Cl 51 #[Uo #[Uf a S.l.length c,Uf x S.n d]] w λe w'=>XO S w e w':=by
 generalize g:(w.alloc (Uj #[Uf a S.l.length c,Uf x S.n d] 28)).alloc (Uj #[Ue,Ue] 28)=W;have O:Bl w W:=g▸aU _ _ _;have G:aD W w.1.size (Uf a S.l.length c) (Uf x S.n d):=g▸(aD.made _ _ _ _).bw (zO _ _) oP;have F0:aD W (w.1.size+1) Ue Ue:=by
  rw[<-g];simpa using aD.made (w.alloc (Uj #[Uf a S.l.length c,Uf x S.n d] 28)) Ue Ue 28
 have⟨A,D,Hh⟩:=(h.lf.bw O).cl;have E:=aC F0;have⟨k0,k1⟩:=G.q2;have HX:=aC G;have H:=aC O;have HA:=aC D;have Ho:=aC (h.rn.bw O);have HL:=aC (TZ a c S.l A W hm.l1 D Hh);go_enter func51,ntmps51;go_wp2_with fail;refine HL.mono ?_;rintro e w1⟨y,Q,rfl,K,Hu,Hj⟩;have J:aA (Bl W w1/\(0<S.l.length->∃b,y=Uq (Ub b)/\mH w1 W.1.size b S.l 0/\∀i,i<S.l.length->w1.cell? (Ua b (i*5))=Uq (A i))):=aC ⟨K,λr=>by
  have⟨q,N,U,B,V⟩:=Hj r;exact⟨q,N,mH.start U V,λi hi=>by rw[V.cell oM,(tJ S.l A i).1]⟩⟩
 have Hq:=hm.l1;have Hn:=aC hm.p1;go_wp2_with fail;go_loopw [10] (λi wr=>∃j:Nat,j<=S.l.length/\i=Ud (j:Int)/\aA (Bl W wr/\(0<S.l.length->∃b,y=Uq (Ub b)/\mH wr W.1.size b S.l j/\∀i,j<=i->i<S.l.length->wr.cell? (Ua b (i*5))=Uq (A i)))) (λi _=>S.l.length-(intOf i).toNat);case atStart=>exact⟨0,UB _,rfl,aC ⟨J.1,λr=>by have⟨b,N,U,B⟩:=J.2 r;exact⟨b,N,U,λi _ hi=>B i hi⟩⟩⟩
 case round=>
  obtain⟨j,hj,rfl,k⟩:=hrel;by_cases Y:j<S.l.length
  .obtain⟨b,rfl,z,Ha⟩:=k.2 oM;have i1:(0:Int)<=(j:Int):=VH _;have i2:(j:Int)<(S.l.length:Int):=oM;have⟨Hr,Hs,eA,Hl⟩:=(HA.bw k.1) j Y;have L:=Ha j zL Y;rw[eA]at L;have s:=aC (RM Hr Hs (gL S.l j).p wr (Hn j) Hl);have M:aA (∀w1 m pc,Bl wr w1->((gL S.l j).p.length<=pc/\pc<=9223372036854775807)->(0<(gL S.l j).p.length->∃q,m=Uq (Ub q)/\wr.1.size<=q/\q<w1.1.size/\Wr w1 q 9 ((gL S.l j).p.length*1) (λt=>Um (gS (gL S.l j).p t)))->(∃u,w1.cell? (Ua b (j*5))=Uq u)/\(w1.frozen? (Ua b (j*5))=false)/\Bl W (w1.setCell (Ua b (j*5)) (Uf m (gL S.l j).p.length pc))/\(0<S.l.length->∃b',Uq ((Ub b):Us)=Uq (Ub b')/\mH (w1.setCell (Ua b (j*5)) (Uf m (gL S.l j).p.length pc)) W.1.size b' S.l (j+1)/\∀i,j+1<=i->i<S.l.length->(w1.setCell (Ua b (j*5)) (Uf m (gL S.l j).p.length pc)).cell? (Ua b' (i*5))=Uq (A i))):=aC (λw1 m pc hb hc hn=>by
    have⟨C,P⟩:=z.wr';have He:=P.same (hb.block b P.lt);have Ht:=z.b1;exact⟨⟨_,He.cell (i:=j*5) oM⟩,He.frozen _,(k.1.trans (hb.mono k.1.size)).setCell oS _,λ_=>⟨b,rfl,z.step Y hb hc hn,λi h1 h2=>by
     rw[show(w1.setCell (Ua b (j*5)) (Uf m (gL S.l j).p.length pc)).cell? (Ua b (i*5))=w1.cell? (Ua b (i*5))from Vt _ _ _ _ (by intro e;injection e with _ e;omega)];exact(hb.cell (p:=(Ua b (i*5))) P.lt).trans (Ha i oM h2)⟩⟩)
   generalize Z:(gL S.l j).p.length=np;generalize Hb:(gL S.l j).p=pj;rw[Hb]at s M Z;rw[Z]at s M;rw[Hb,Z]at L;go_wp2_with fail;refine s.mono ?_;rintro e w2⟨m,pc,rfl,b2,Hg,Hi⟩;have⟨⟨u,hu⟩,hf,Hd,Hf⟩:=M w2 m pc b2 Hg Hi;have Hm:=aC<|And.intro Hd Hf;go_wp2_with fail;go_roundw;case rel=>exact⟨j+1,Y,oN,Hm⟩
   case measure=>exact oE
  .obtain rfl:j=S.l.length:=oM;have X:=HX.bw k.1 HX.lt;have⟨k0,k1⟩:=X.q2;have HR:=aC<|RN x S.n d S.R S.F S.T wr hm.n1 (Ho.bw k.1);go_wp2_with fail;refine HR.mono ?_;rintro e o⟨x',d',rfl,b3,Hv,Hk⟩;have F3:=(E.bw k.1 E.lt).bw b3<|Ut E.lt k.1.size;have⟨f0,f1,ff⟩:=F3.p2;have Hp:=aC Hk;have I:=aC b3;have Hx:w.1.size+1<W.1.size:=E.lt;have Hy:W.1.size<=wr.1.size:=k.1.size;go_wp2_with fail;have Hw:wr.1.size<=o.1.size:=I.size;have hh:∀q,W.1.size<=q->((o.setCell (Ua (w.1.size+1) 0) (Uf y S.l.length Q)).setCell (Ua (w.1.size+1) 1) (Uf x' S.n d')).1[q]? =o.1[q]? :=λq h1=>by
    rw[zH _ _ _ _ oS,zH _ _ _ _ oS]
   have Hc:((o.setCell (Ua (w.1.size+1) 0) (Uf y S.l.length Q)).setCell (Ua (w.1.size+1) 1) (Uf x' S.n d')).1.size=o.1.size:=(by simp[Vr]);refine zF (v:=Uo #[Uf y S.l.length Q,Uf x' S.n d']) (by simp[results,results51,go_sem,f0,f1]) ⟨y,Q,x',d',rfl,⟨λw' g1 g2=>⟨?_,?_⟩,by rw[Hc];omega,Ux _⟩,?_⟩
   .rw[Hc]at g1 g2;by_cases r:0<S.l.length
    .obtain⟨b,rfl,z,_⟩:=k.2 r;exact z.done oM<|λq h1 h2=>((g2 q oM oM).trans (hh q h1)).trans (I.block q h2)
    .exact .inl oM
   .rw[Hc]at g1 g2;by_cases r:0<S.n
    .obtain⟨q,rfl,U,B,V⟩:=Hp r;exact ED<|V.same ((g2 q oM oM).trans (hh q oM))
    .exact .inl oM
   .exact(((H.trans (k.1.mono H.size)).trans (I.mono (oH H.size))).setCell oP _).setCell oP _
theorem Oh(id:Int)(ga gx ga' gx':Option Us)(c d c' d':Nat)(S S':Sx)(w:Ur)(hm:S.Sm)(hm':S'.Sm)(h:cX w ga gx S)(h':cX w ga' gx' S'):
  Cl 26 #[Uo #[Ud id,Uf ga S.l.length c,Uf gx S.n d,Uf ga' S'.l.length c',Uf gx' S'.n d']] w λe w'=>∃a r x j m u x' q m2,e=Ui (Uo #[Ud id,Uf a S.l.length r,Uf x S.n j,Uf m S'.l.length u,Uf x' S'.n q])/\aM w' w.1.size m2 a x j S/\aM w' m2 w'.1.size m x' q S'/\Bl w w':=by
 generalize g:(w.alloc (Uj #[Ud id,Uf ga S.l.length c,Uf gx S.n d,Uf ga' S'.l.length c',Uf gx' S'.n d'] 30)).alloc (Uj #[Ud 0,Ue,Ue,Ue,Ue] 30)=W;have V:Bl w W:=g▸aU _ _ _;have b:aF W w.1.size (Ud id) (Uf ga S.l.length c) (Uf gx S.n d) (Uf ga' S'.l.length c') (Uf gx' S'.n d'):=g▸(aF.new _ _ _ _ _ _ _).up _;have M:aF W (w.1.size+1) (Ud 0) Ue Ue Ue Ue:=by
  rw[<-g];have:=aF.new (w.alloc (Uj #[Ud id,Uf ga S.l.length c,Uf gx S.n d,Uf ga' S'.l.length c',Uf gx' S'.n d'] 30)) (Ud 0) Ue Ue Ue Ue 30;simpa using this
 have G:=aC<|λw1(hb:Bl w w1)=>Z5 ga gx c d S w1 hm (h.bw hb);have H:=aC<|λw1(hb:Bl w w1)=>Z5 ga' gx' c' d' S' w1 hm' (h'.bw hb);have Q:=aC V;have o:=aC b;have p:=aC M;have⟨q0,q1,q2,q3,q4⟩:=b.q5;go_enter func26,ntmps26;go_wp2_with fail;have t:aA (∀w',Bl w w'->aF w' w.1.size (Ud id) (Uf ga S.l.length c) (Uf gx S.n d) (Uf ga' S'.l.length c') (Uf gx' S'.n d')->(Bl w w'/\w'.cell? (Ub w.1.size)=Uq (Ud id)/\w'.cell? (Ua w.1.size 1)=Uq (Uf ga S.l.length c)/\w'.cell? (Ua w.1.size 2)=Uq (Uf gx S.n d)/\w'.cell? (Ua w.1.size 3)=Uq (Uf ga' S'.l.length c')/\w'.cell? (Ua w.1.size 4)=Uq (Uf gx' S'.n d'))):=aC<|λw' hB X=>⟨hB,X.c0,X.c1,X.c2,X.c3,X.c4⟩;refine zB t Q.drew (o.bw zI.drew o.lt)<|λqh=>?_;refine tY 0 3 ?_;refine tY 2 5 ?_;refine tY 5 8 ?_;refine cZ 4 ?_;intro K k;go_simp;refine(G _ qh.1).mono ?_;rintro e w1⟨a,r,x,j,rfl,D,y⟩;have i:Bl W w1:=⟨y.os,y.tape,y.output,y.size,y.block⟩;have A:=aE Q i;have s:=o.bw i o.lt;have O:=p.bw i p.lt;have F:aM w1 W.1.size w1.1.size a x j S:=D;refine bZ k (t _ A s)<|λqh=>?_;refine cZ 7 ?_;intro K k;go_simp;refine(H _ A).mono ?_;rintro e Y⟨m,u,x',q,rfl,R,z⟩;have E:=aE A z;have U:=s.bw z s.lt;have Z:=O.bw z O.lt;have P:=F.bw z;refine bZ k (t _ E U)<|λqh=>?_;refine tZ 8 11 ?_;have⟨I,J,L,N,B,T⟩:=Z.p5;refine cZ 9 ?_;intro K k;go_simp;have Hb:w.1.size+1<W.1.size:=p.lt;have Ha:W.1.size<=w1.1.size:=i.size;have C:w1.1.size<=Y.1.size:=z.size;refine bZ k (t _ ((((((E.setCell oP _).setCell oP _).setCell oP _).setCell oP _).setCell oP _)) (((((U.setAt _ _ oP).setAt _ _ oP).setAt _ _ oP).setAt _ _ oP).setAt _ _ oP))<|λqh=>?_;refine zD ?_;go_wp2_with fail;refine zF (v:=Uo #[Ud id,Uf a S.l.length r,Uf x S.n j,Uf m S'.l.length u,Uf x' S'.n q]) (by simp[results,results26,go_sem,I,J,L,N,B]) ?_;first|refine⟨a,r,x,j,m,u,x',q,rfl,w1.1.size,?_,?_,?_⟩|refine⟨a,r,x,j,m,u,x',q,w1.1.size,rfl,?_,?_,?_⟩|refine⟨a,r,x,j,m,u,x',⟨q,rfl⟩,w1.1.size,?_,?_,?_⟩
 .refine aM.wide (lo:=W.1.size) (hi:=w1.1.size) ?_ oM zL (by simp[Vr];exact C);repeat (refine aM.set ?_ _ _ (.inl oS))
  exact P
 .refine aM.wide (lo:=w1.1.size) (hi:=Y.1.size) ?_ zL (by simp[Vr]) zL;repeat (refine aM.set ?_ _ _ (.inl oS))
  exact R
 .repeat (refine Below.setCell ?_ oP _)
  exact E
def Ew:Option aB->aB
 |none=> .nilFunc
 |some v=>v
abbrev pA(w:Ur)(b c:Nat)(f:Int->Option aB):Prop:=aO w 3 (Value.int Uh) Ew b c f
theorem pA.made(w:Ur):pA (w.alloc (.map #[] 0)) w.1.size 0 (λ_=>Up):=aO.made w _ _ _
theorem Sh{k:Int}(hk:(Lit.int Uh k).wf=true):keyOf prog 3 (Ud k)=Uq (.int Uh k):=keyOf_int_mk underlying3 hk
theorem I4{f:Int->Option aB}(h:pA w b c f)(hc:c<1000){k:Int}(hk:(Lit.int Uh k).wf=true){fv:aB}{o:Oper}{a:Act}{K:Act->Ur->Prop}{Q:Exit->Act->Ur->Prop}{F:Unit->Ur->Result Next}
  (hK:∀w',pA w' b (c+1) (dE f k (Uq fv))->w.grownBy w' (Uq b)->Oper.upon prog o a K Q ((Result.ok () w').andThen F)):
  Oper.upon prog o a K Q ((Sem.run prog (Instr.mapUpdate 123 (.map (Uq b)) (Ud k) fv) w).andThen F):=by
 have⟨w',r1,r2,j⟩:=h.store (int_keyed underlying3) (λx y e=>by injection e) underlying123 oL (x:=k) (y:=fv) (Sh hk);have r1:Sem.run prog (Instr.mapUpdate 123 (.map (Uq b)) (Ud k) fv) w=.ok () w':=r1;rw[r1];exact hK w' r2 j
theorem pA.look{f:Int->Option aB}(h:pA w b c f){k:Int}(hk:(Lit.int Uh k).wf=true):
  (Instr.lookup 123 (.map (Uq b)) (Ud k) true).run prog w=.ok (Ul #[Ew (f k),Un (f k).isSome]) w:=
 h.look_ok (int_keyed underlying3) underlying123 oK (x:=k) (Sh hk)
open Go.Extern.Stop Go.Stop Go.Extern
theorem Er.valueOfPP(t:Us)(w:Ur):(ReflectliteValue.unpack (.iface 96 (Uk (Uq t)))).run prog w
  =.ok (Uo #[Uk (Uq (Ua 21 96)),Uk (Uc w.1.size),Ug .u64 150]) (w.alloc (Uj #[Uk (Uq t)] 96)):=oK
theorem Er.typePP(a:Us)(w:Ur):(ReflectliteValue.methodAny (ReflectliteValue.valueError "reflectlite.Value.Type" 0) (λt _ _ _=>ReflectliteType.toType t) #[Uo #[Uk (Uq (Ua 21 96)),Uk (Uq a),Ug .u64 150]]).run prog w
  =.ok (.iface 200 (Uo #[Uk (Uq (Ua 21 96))])) w:=oK
theorem Er.methodKind(h:aB)(w:Ur):(Go.method 503 200 (Uo #[h]) "Kind").run prog w=.ok (282,h) w:=oK
theorem Er.kindPP(w:Ur):((ReflectliteType.abiMethod λt=>(λa:Nat=>Value.int IntKind.u8 (a:Int))<$>Rtype.kind t) #[Uk (Uq (Ua 21 96))]).run prog w=.ok (Ug .u8 22) w:=oK
theorem Er.kindP(w:Ur):((ReflectliteType.abiMethod λt=>(λa:Nat=>Value.int IntKind.u8 (a:Int))<$>Rtype.kind t) #[Uk (Uq (Ua 21 88))]).run prog w=.ok (Ug .u8 22) w:=oK
theorem Er.partsPP(a:Us)(w:Ur):(ReflectliteValue.parts (Uo #[Uk (Uq (Ua 21 96)),Uk (Uq a),Ug .u64 150])).run prog w=.ok (Uq (96,a,150)) w:=oK
theorem Er.isNilPP(a q:Us)(W:Ur)(ha:W.cell? a=Uq (Uk (Uq q))):
  (ReflectliteValue.method (ReflectliteValue.valueError "reflectlite.Value.IsNil" 0) ReflectliteValue.isNil #[Uo #[Uk (Uq (Ua 21 96)),Uk (Uq a),Ug .u64 150]]).run prog W=.ok (Un false) W:=by
 show Sem.run prog (ReflectliteValue.parts (Uo #[Uk (Uq (Ua 21 96)),Uk (Uq a),Ug .u64 150])>>=_) W=_;simp only[Sem.run_bind,Er.partsPP,Result.andThen];simp[ReflectliteValue.isNil,loadVar,isAgg,underlying,underlying96,ha,Result.andThen]
theorem Er.methodElem(h:aB)(w:Ur):(Go.method 503 200 (Uo #[h]) "Elem").run prog w=.ok (293,Uo #[h]) w:=oK
theorem Er.methodImplements(h:aB)(w:Ur):(Go.method 503 200 (Uo #[h]) "Implements").run prog w=.ok (294,Uo #[h]) w:=oK
theorem Er.methodAssignableTo(h:aB)(w:Ur):(Go.method 503 200 (Uo #[h]) "AssignableTo").run prog w=.ok (291,Uo #[h]) w:=oK
theorem Er.elemPP(w:Ur):(ReflectliteType.method ReflectliteType.elem #[Uo #[Uk (Uq (Ua 21 96))]]).run prog w=.ok (.iface 200 (Uo #[Uk (Uq (Ua 21 88))])) w:=oK
theorem Er.implementsP(w:Ur):(ReflectliteType.relation "Implements" ReflectliteType.implements_ #[Uo #[Uk (Uq (Ua 21 88))],.iface 200 (Uo #[Uk (Uq (Ua 21 63))])]).run prog w=.ok (Un true) w:=oK
theorem Er.typeOfP(v:aB)(w:Ur):(ReflectliteType.typeOf #[.iface 88 v]).run prog w=.ok (.iface 200 (Uo #[Uk (Uq (Ua 21 88))])) w:=oK
theorem Er.assignableP(w:Ur):(ReflectliteType.relation "AssignableTo" ReflectliteType.assignableTo #[Uo #[Uk (Uq (Ua 21 88))],.iface 200 (Uo #[Uk (Uq (Ua 21 88))])]).run prog w=.ok (Un true) w:=oK
theorem Er.valueOfP(e:Us)(w:Ur):(ReflectliteValue.unpack (.iface 88 (Uk (Uq e)))).run prog w
  =.ok (Uo #[Uk (Uq (Ua 21 88)),Uk (Uc w.1.size),Ug .u64 150]) (w.alloc (Uj #[Uk (Uq e)] 88)):=oK
theorem Er.elemOfPP(w:Ur):(Rtype.elem? 96).run prog w=.ok (Uq 88) w:=oK
theorem Er.mkP(q:Us)(w:Ur):(ReflectliteValue.mk 88 q ReflectliteValue.flagAddr).run prog w=.ok (Uo #[Uk (Uq (Ua 21 88)),Uk (Uq q),Ug .u64 406]) w:=oK
theorem Er.elemVPP(a q:Us)(W:Ur)(ha:W.cell? a=Uq (Uk (Uq q))):
  (ReflectliteValue.method (ReflectliteValue.valueError "reflectlite.Value.Elem" 0) ReflectliteValue.elem #[Uo #[Uk (Uq (Ua 21 96)),Uk (Uq a),Ug .u64 150]]).run prog W
   =.ok (Uo #[Uk (Uq (Ua 21 88)),Uk (Uq q),Ug .u64 406]) W:=by
 show Sem.run prog (ReflectliteValue.parts (Uo #[Uk (Uq (Ua 21 96)),Uk (Uq a),Ug .u64 150])>>=_) W=_;simp only[Sem.run_bind,Er.partsPP,Result.andThen];simp[ReflectliteValue.elem,loadVar,isAgg,underlying,underlying96,ha,Result.andThen,Er.elemOfPP,Er.mkP]
theorem Er.partsPa(a:Us)(w:Ur):(ReflectliteValue.parts (Uo #[Uk (Uq (Ua 21 88)),Uk (Uq a),Ug .u64 406])).run prog w=.ok (Uq (88,a,406)) w:=oK
theorem Er.partsP(a:Us)(w:Ur):(ReflectliteValue.parts (Uo #[Uk (Uq (Ua 21 88)),Uk (Uq a),Ug .u64 150])).run prog w=.ok (Uq (88,a,150)) w:=oK
theorem Er.directP(w:Ur):(Rtype.directlyAssignable 88 88).run prog w=.ok true w:=oK
theorem Er.setP(ta b e:Us)(old:aB)(W:Ur)(hb:W.cell? b=Uq (Uk (Uq e)))(ht:W.cell? ta=Uq old)(hf:W.frozen? ta=false):
  (ReflectliteValue.set #[Uo #[Uk (Uq (Ua 21 88)),Uk (Uq ta),Ug .u64 406],Uo #[Uk (Uq (Ua 21 88)),Uk (Uq b),Ug .u64 150]]).run prog W
   =.ok (Ul #[]) (W.setCell ta (Uk (Uq e))):=by
 show Sem.run prog (ReflectliteValue.parts (Uo #[Uk (Uq (Ua 21 88)),Uk (Uq ta),Ug .u64 406])>>=λ_=>ReflectliteValue.parts (Uo #[Uk (Uq (Ua 21 88)),Uk (Uq b),Ug .u64 150])>>=_) W=_;simp only[Sem.run_bind,Er.partsPa,Er.partsP,Result.andThen];simp[ReflectliteValue.flagAddr,loadVar,isAgg,underlying,underlying88,hb,Result.andThen,Er.directP,storeVar,Value.cells,storeCells,Addr.add];rw[run_store prog W ta _ _ (by rfl)];simp[ht,hf]
theorem IE(e t:Us)(old:aB)(w:Ur)(hg:w.cell? (Ub 5)=Uq (.iface 200 (Uo #[Uk (Uq (Ua 21 63))])))(ht0:w.cell? t=Uq old)(hf0:w.frozen? t=false):
  Cl 55 #[.iface 88 (Uk (Uq e)),.iface 96 (Uk (Uq t))] w λev w'=>ev=Ui (Un true)/\w'=((((w.alloc (Uj #[Uk (Uq t)] 96)).alloc (Uj #[Uk (Uq (Ua 21 96)),Uk (Uc w.1.size),Ug .u64 150] 145)).alloc (Uj #[Uk (Uq (Ua 21 96)),Uk (Uc w.1.size),Ug .u64 150] 145)).alloc (Uj #[Uk (Uq e)] 88)).setCell t (Uk (Uq e)):=by
 have b:=@run_callFunc_extern prog 89 _ (λargs=>ReflectliteValue.unpack (args.getD 0 (Ul #[]))) func89 oK oK oK oK;have s:=@run_callFunc_extern prog 90 _ (ReflectliteValue.methodAny (ReflectliteValue.valueError "reflectlite.Value.Type" 0) (λt _ _ _=>ReflectliteType.toType t)) func90 oK oK oK oK;have i:=@run_callFunc_extern prog 91 _ (ReflectliteValue.method (ReflectliteValue.valueError "reflectlite.Value.IsNil" 0) ReflectliteValue.isNil) func91 oK oK oK oK;have u:=@run_callFunc_extern prog 282 _ (ReflectliteType.abiMethod λt=>do pure (Ug .u8 (<- Rtype.kind t))) func282 oK oK oK oK;have y:=@run_callFunc_extern prog 293 _ (ReflectliteType.method ReflectliteType.elem) func293 oK oK oK oK;have z:=@run_callFunc_extern prog 294 _ (ReflectliteType.relation "Implements" ReflectliteType.implements_) func294 oK oK oK oK;have g:=@run_callFunc_extern prog 128 _ ReflectliteType.typeOf func128 oK oK oK oK;have v:=@run_callFunc_extern prog 291 _ (ReflectliteType.relation "AssignableTo" ReflectliteType.assignableTo) func291 oK oK oK oK;have o:=@run_callFunc_extern prog 129 _ (ReflectliteValue.method (ReflectliteValue.valueError "reflectlite.Value.Elem" 0) ReflectliteValue.elem) func129 oK oK oK oK;have p:=@run_callFunc_extern prog 130 _ ReflectliteValue.set func130 oK oK oK oK;have H:=Er.typeOfP;have Q:=Er.methodAssignableTo;have m:=Er.assignableP;have J:=Er.valueOfP;have K:=Er.valueOfPP;have I:=Er.typePP;have Y:=Er.methodKind;have U:=Er.methodElem;have V:=Er.methodImplements;have O:=Er.kindPP;have M:=Er.kindP;have q:=Er.elemPP;have E:=Er.implementsP;have Z:=Er.isNilPP (Ub w.1.size) t ((w.alloc (Uj #[Uk (Uq t)] 96)).alloc (Uj #[Uk (Uq (Ua 21 96)),Uk (Uc w.1.size),Ug .u64 150] 145)) oP;have k:5<w.1.size:=by
  rcases JD 5 w.1.size with h|h
  .exact h
  .simp[Vx,Array.getElem?_eq_none h]at hg
 have A:((w.alloc (Uj #[Uk (Uq t)] 96)).alloc (Uj #[Uk (Uq (Ua 21 96)),Uk (Uc w.1.size),Ug .u64 150] 145)).cell? (Ub 5)=Uq (.iface 200 (Uo #[Uk (Uq (Ua 21 63))])):=by
  rw[YZ _ _ (Ub 5) (by first|(simp;omega)|simp),YZ _ _ (Ub 5) k];exact hg
 have j:t.block<w.1.size:=by
  rcases JD t.block w.1.size with h|h
  .exact h
  .simp[Vx,Array.getElem?_eq_none h]at ht0
 have r:=Er.elemVPP (Ub w.1.size) t (((w.alloc (Uj #[Uk (Uq t)] 96)).alloc (Uj #[Uk (Uq (Ua 21 96)),Uk (Uc w.1.size),Ug .u64 150] 145)).alloc (Uj #[Uk (Uq (Ua 21 96)),Uk (Uc w.1.size),Ug .u64 150] 145)) (by rw[YZ _ _ (Ub w.1.size) oS];simp);have G:=Er.setP t (Ua (w.1.size+1+1+1) 0) e old ((((w.alloc (Uj #[Uk (Uq t)] 96)).alloc (Uj #[Uk (Uq (Ua 21 96)),Uk (Uc w.1.size),Ug .u64 150] 145)).alloc (Uj #[Uk (Uq (Ua 21 96)),Uk (Uc w.1.size),Ug .u64 150] 145)).alloc (Uj #[Uk (Uq e)] 88))
  (by rw[VC _ _ _ _ oP];rfl)
  (by rw[YZ _ _ t oS,YZ _ _ t oS,YZ _ _ t oS,YZ _ _ t j];exact ht0)
  (by rw[JA _ _ t oS,JA _ _ t oS,JA _ _ t oS,JA _ _ t (Nat.ne_of_lt j)];exact hf0)
 go_enter func55,ntmps55;go_wp2;refine wp_loop_rounds 1 ?_;rw[rounds_succ];go_wp2;go_ret;exact⟨rfl,rfl⟩
theorem ID(t:Us)(w:Ur):
  Cl 55 #[.nilIface,.iface 96 (Uk (Uq t))] w λev w'=>ev=Ui (Un false)/\w'=w:=by
 go_enter func55,ntmps55;go_wp2;go_ret;exact⟨rfl,rfl⟩
theorem Qp(w:Ur):Cl 28 #[.nilIface] w (Rt w (Ud 0)):=by
 have j:=aC<|zO w (Uj #[.pointer Up] 88);generalize k:w.alloc (Uj #[.pointer Up] 88)=W;rw[k]at j;go_enter func28,ntmps28;go_wp2_with fail;refine(ID _ W).mono ?_;rintro e w1⟨rfl,rfl⟩;go_wp2_with fail;go_ret;exact⟨rfl,j⟩
theorem GL(b:Nat)(C:Int)(w:Ur)(hg:w.cell? (Ub 5)=Uq (.iface 200 (Uo #[Uk (Uq (Ua 21 63))])))(hC:w.cell? (Ub b)=Uq (Ud C)):
  Cl 28 #[.iface 88 (Uk (Uc b))] w (Rt w (Ud C)):=by
 have m:Bl w (w.alloc (Uj #[.pointer Up] 88)):=zO w _;generalize j:w.alloc (Uj #[.pointer Up] 88)=W;have g:W.1.size=w.1.size+1:=j▸oP;have v:W.cell? (Ub w.1.size)=Uq (.pointer Up):=j▸oP;have z:W.frozen? (Ub w.1.size)=false:=j▸oP;rw[j]at m;have h:W.cell? (Ub 5)=Uq (.iface 200 (Uo #[Uk (Uq (Ua 21 63))])):=(m.cell (p:=(Ub 5)) (block_lt_of_cell hg)).trans hg;have y:=aC<|IE (Ub b) (Ub w.1.size) (.pointer Up) W h v z;have A:aA (b<w.1.size):=aC<|block_lt_of_cell hC;have i:=aC hC;have t:=aC m;have k:=aC g;have s:=aC v;clear m g v z h hg hC;go_enter func28,ntmps28;go_wp2_with fail;clear j;refine y.mono ?_;rintro e w1⟨rfl,q⟩;have r:Bl w w1:=by
  rw[q];exact(((((t.alloc (oH k) _).alloc (by simp;have:=k.out;omega) _).alloc (by simp;have:=k.out;omega) _).alloc (by simp;have:=k.out;omega) _).setCell (p:=(Ub w.1.size)) zL _)
 have M:w1.cell? (Ub w.1.size)=Uq (Uk (Uc b)):=by
  rw[q];refine Vs _ _ _ (u:=.pointer Up) ?_;have E:=k.out;rw[YZ _ _ _ oS,YZ _ _ _ oS,YZ _ _ _ oS,YZ _ _ _ oS];exact s
 have O:w1.cell? (Ub b)=Uq (Ud C):=(r.cell (p:=(Ub b)) A).trans i;have o:=aC r;clear q r y;go_wp2_with fail;go_ret;exact⟨rfl,o⟩
def gz(zs:List Int)(i:Nat):Int:=zs.getD i 0
theorem PC{z:Nat}(h:w.ownsRow B e z v n xs)(hq:∀q,B<=q->q<w.1.size->w'.1[q]? =w.1[q]?):w'.ownsRow B e z v n xs:=by
 have⟨u,y⟩:=h;refine⟨u,y.imp id ?_⟩;rintro⟨g,cap,m,e,j,k,r⟩;exact⟨g,cap,m,e,j,(hq g j (Array.getElem?_eq_some_iff.1 k).1).trans k,r⟩
theorem Own.stay(h:Own w B v zs)(hq:∀q,B<=q->q<w.1.size->w'.1[q]? =w.1[q]?):Own w' B v zs:=PC h hq
theorem SP(hb:Bl w w')(h:Own w B v zs):Own w' B v zs:=h.stay (λq _ h2=>hb.block q h2)
noncomputable def xV(S Y:Sx):Bool:=bK S Y&&bM (aZ S Y)
theorem MM{cap:Nat}(hf:dO f)(h:bY w a n f)(h0:0<n):(convert 22 9 (Uf a n cap)).run prog w=.ok (Um (gW f 0 n)) w:=by
 rcases h with h|⟨b,off,rfl,k,j⟩
 .omega
 .exact Nv (p:=0) hf (λi hi=>by rw[Nat.add_zero,UA];exact j i hi)
theorem CF{rb:Nat}(h:Bl w w1)(v1 v2:aB):w.grownBy ((w1.setCell (Ua rb 1) v1).setCell (Ua rb 2) v2) (Uq rb):=
 ⟨h.os,h.tape,h.output,by simpa[Vr]using h.size,λk hk hne=>by
  have e:∀i,k≠((Ua rb i):Us).block:=λi e=>hne (by rw[e]);rw[zH _ _ _ _ (e _),zH _ _ _ _ (e _)];exact h.block k hk⟩
structure pB(Y:Sx)(f:Nat->Int)(n:Nat):Prop where
 ok:bG Y.R Y.F Y.T Y.n Y.l
 at':At f 0 (dF Y.R Y.F Y.T Y.n Y.l)
 len:n=(dF Y.R Y.F Y.T Y.n Y.l).length
 n4:n<=4000
theorem I9{x:Option Us}(h:bI w x (flat R F T m).length (λi=>(gR (flat R F T m) i).1) (λi=>(gR (flat R F T m) i).2.1) (λi=>(gR (flat R F T m) i).2.2)):bI w x m R F T:=by
 have r:(flat R F T m).length=m:=by simp[flat]
 rw[r]at h;refine h.imp id ?_;rintro⟨b,off,e,k,q⟩;refine⟨b,off,e,k,λi hi=>?_⟩;have j:gR (flat R F T m) i=(R i,F i,T i):=by simp[gR,flat,UL,hi]
 have:=q i hi;simp only[j]at this;exact this
theorem MF(h:pB Y f n):dR Y:=rY h.ok.2.1 (by have:=(dL.1 h.ok.1).2;omega) (λx hx=>jU h.ok.w x hx)
theorem BX(hE:pB Y f n)(hnc:n<=c)(hcc:c<=9223372036854775807)(hf:dO f)(hs:bY w a n f)(hab:∀y,a=Uq y->y.block<w.1.size):
  Cl 160 #[Uf a n c] w λe w'=>(∃m0 m1 m2,e=Ui (Ul #[Uo #[.map m0,.map m1,.map m2],.nilIface])/\∀u,Bl w' u->Cl 60 #[Uo #[.map m0,.map m1,.map m2]] u λe j=>∃a c x d,e=Ui (Uo #[Uf a Y.l.length c,Uf x Y.n d])/\cX j a x Y/\Bl u j)/\Bl w w':=by
 refine(TD hE.ok hE.at' hE.len hE.n4 hnc hcc hf hs hab).mono ?_;rintro e w'⟨t,g,rfl,z,b⟩;refine⟨⟨_,_,_,rfl,λu hu=>(Cd u (z.bw hu) hE.ok.2.2.1 hE.ok.lvB).mono ?_⟩,b⟩;rintro e j⟨⟨a,c,x,d,rfl,q,m,h⟩,r⟩;have v:(flat Y.R Y.F Y.T Y.n).length=Y.n:=by simp[flat]
 have k:=(aM.of (S:=⟨Y.l,(flat Y.R Y.F Y.T Y.n).length,λi=>(gR (flat Y.R Y.F Y.T Y.n) i).1,λi=>(gR (flat Y.R Y.F Y.T Y.n) i).2.1,λi=>(gR (flat Y.R Y.F Y.T Y.n) i).2.2⟩) q m rfl rfl rfl rfl h).ct;exact⟨a,c,x,d,by rw[v],⟨k.lf.seg,I9 k.rn⟩,r⟩
theorem LB.caps(h:LB w lo (Uf a l.length c) l):dH w a l/\l.length<=c/\c<=9223372036854775807:=by
 have⟨P,Q,j,y⟩:=h;rcases j.row.2 with⟨e,k⟩|⟨v,r,u,m,g,z,t,q,o,i⟩
 .injection e with e1 e2 e3;exact⟨.inl k,oM,oM⟩
 .injection m with e1 e2 e3;subst e1 e3;unfold maxLen at q;exact⟨j.lcap rfl,oM,oM⟩
theorem Cb{L:Nat}(h:bY w pa L f)(hf:dO f)(cap:Nat):(convert 22 9 (Uf pa L cap)).run prog w=.ok (Um (gW f 0 L)) w:=by
 by_cases j:L=0
 .subst j;have e:gW f 0 0=⟨#[]⟩:=by simp[gW]
  cases pa with
  |none=>rw[e,run_convert_bytes_string _ _ _ 5 Up 0 cap underlying22 underlying5 underlying9];rfl
  |some ad=>exact Nu ad 0 cap f
 .exact MM hf h oM
theorem aD.fill{v:Ur}{v0:aB}(h:aD v b v0 v1)(u0 u1:aB):∃Z,Z=(v.setCell (Ub b) u0).setCell (Ua b 1) u1/\Z.cell? (Ub b)=Uq u0/\Z.cell? (Ua b 1)=Uq u1/\v.grownBy Z (Uq b):=by
 refine⟨_,rfl,?_,?_,⟨rfl,rfl,rfl,by simp[Vr],λk hk hne=>?_⟩⟩
 .rw[Vt _ _ _ _ oP];exact Vs _ _ _ h.c0
 .exact Vs _ _ _ (by rw[Vt _ _ _ _ oP];exact h.c1)
 .have j:k≠b:=λe=>hne (by rw[e]);exact(zH _ _ _ _ j).trans (zH _ _ _ _ j)
theorem QJ{g:Nat->Int}{L:Nat}(h:∀i,i<L->f i=g i):gW f 0 L=gW g 0 L:=by
 have e:((Vb L).map λi=>UInt8.ofNat (f (0+i)).toNat)=(Vb L).map λi=>UInt8.ofNat (g (0+i)).toNat:=List.map_congr_left λi hi=>by rw[UA,h i (oU hi)]
 unfold gW;rw[e]
theorem LA(h:pB Y f n)(hf:dO f):dO (gz (dF Y.R Y.F Y.T Y.n Y.l))/\gW (gz (dF Y.R Y.F Y.T Y.n Y.l)) 0 (dF Y.R Y.F Y.T Y.n Y.l).length=gW f 0 n:=by
 have e:∀i,i<n->gz (dF Y.R Y.F Y.T Y.n Y.l) i=f i:=λi hi=>by
  have:=h.at' i (by rw[<-h.len];exact hi);rw[UA]at this;exact this.symm
 refine⟨λi=>?_,?_⟩
 .by_cases hi:i<n
  .rw[e i hi];exact hf i
  .have:gz (dF Y.R Y.F Y.T Y.n Y.l) i=0:=by
    unfold gz;simp[UL,UT (by rw[<-h.len];omega:(dF Y.R Y.F Y.T Y.n Y.l).length<=i)]
   rw[this];omega
 .rw[<-h.len];exact QJ e
def Pn(Y:Sx)(w:Ur)(e:Ending)(w':Ur):Prop:=∃va vc xa xc,e=Ui (Ul #[Uo #[Uf va Y.l.length vc,Uf xa Y.n xc],Ud 0])/\eP w' va xa Y/\(Y.l.length<=vc/\vc<=9223372036854775807)/\Bl w w'
theorem QD(a:Option Us)(n c:Nat)(f:Nat->Int)(Y:Sx)(w:Ur)(hE:pB Y f n)(hnc:n<=c)(hf:dO f)(hs:bY w a n f)(hab:∀y,a=Uq y->y.block<w.1.size):
  Cl 118 #[Uf a n c] w λe w'=>Pn Y w e w':=by
 have⟨P,hP⟩:=zE (Pn Y w);rw[hP];have HP:=aC hP;clear hP;have⟨W,G⟩:=zE (w.alloc (Uj #[Ue,Ue] 28));have J:Bl w W:=G▸zO _ _;have zW:W.1.size=w.1.size+1:=G▸oP;have xW:aD W w.1.size Ue Ue:=G▸aD.made w _ _ _;have Gg:=hE.n4;have Gk:¬(4000:Int)<(n:Int):=oM;have⟨c1,V,c3,c4,c5,c6,c7⟩:=Su hE.ok.1;have Hz:Rb f n 0 (pW (mP (Lk Y.R Y.F Y.T Y.n))++tB Y.l 8 []) n:=by rw[V];exact⟨hE.at',by rw[UA];exact hE.len,Ux _⟩
 have⟨x1,O,S⟩:=Hz.app;have Hw:pT (mP (Lk Y.R Y.F Y.T Y.n))=flat Y.R Y.F Y.T Y.n:=by
  rw[<-c4];unfold pT mP eV;rw[Yy]
 have He:=aC<|LJ a n c 0 x1 f (mP (Lk Y.R Y.F Y.T Y.n)) W oM hf (hs.bw J) c1 O;rw[Hw]at He;have HF:=aC hf;have Hr:=aC<|hs.bw J;have Hh:=aC hab;have HX:=aC xW;have Hm:=aC J;have Gc:=aC zW;have h:=aC hE;have H7:=aC S;clear hf hs xW J zW hab c1 V c3 c4 c5 c6 c7 O S Hz Hw hE;go_enter func118,ntmps118;go_wp2_with fail;clear G;refine He.mono ?_;clear He;rintro e w1⟨v1,rfl,L,b1⟩;obtain⟨r,xc,rfl,_⟩:=L.fs;have Hg:(flat Y.R Y.F Y.T Y.n).length=Y.n:=by simp[flat]
 rw[Hg]at L⊢;have⟨m,H⟩:=zE (w1.alloc (Uj #[Uf r Y.n xc] 26));have b2:Bl w1 m:=H▸zO _ _;have z2:m.1.size=w1.1.size+1:=H▸oP;have V:m.cell? (Ub w1.1.size)=Uq (Uf r Y.n xc):=H▸oP;have⟨z,I⟩:=zE ((m.alloc (Uj #[] 9)).alloc (Uj #[] 101));have b3:Bl m z:=I▸aU _ _ _;have z3:z.1.size=m.1.size+1+1:=I▸oP;have U:=aE b1<|aE b2 b3;have Gi:=Gc.out;have Gh:=b1.size;have L3:LB z (w.1.size+1) (Uf (Uq (Ua (m.1.size+1) 0)) 0 0) []:=by
  refine⟨λ_=>0,λ_=>0,⟨?_,λi hi=>by simp at hi⟩,λi j hi=>by simp at hi⟩;have:=Vo (base:=w.1.size+1) (e:=101) (size:=5) (m.alloc (Uj #[] 9)) #[] 0 oS oL rfl;rw[I]at this;simpa using this
 have Hs:aA (tG z a n f m.1.size [] (Uf (Uq (Ua (m.1.size+1) 0)) 0 0) [] (w.1.size+1)):=aC (by
  refine⟨Hr.bw U,oM,λt ht=>by simp at ht,λe=>?_,λy hy e=>?_,L3,λi=>?_,oM⟩
  .have e:(Uq (m.1.size+1):Option Nat)=Uq m.1.size:=e;injection e with e;omega
  .have e:(Uq (m.1.size+1):Option Nat)=Uq y.block:=e;injection e with e;have:=Hh y hy;omega
  .simp[gL,UL])
 have Ht:aA (Cl 163 #[Uf a n c,Ud (x1:Int),Uf (Uc m.1.size) 0 0,Uf (Uq (Ua (m.1.size+1) 0)) 0 0] z λe w'=>sZ z (w.1.size+1) (Uf (Uq (Ua (m.1.size+1) 0)) 0 0) n Y.l e w'):=
  aC (Y9 _ (Rz h.ok.1) a n c f (w.1.size+1) oM hnc HF 8 [] rfl x1 n m.1.size 0 (Uq (Ua (m.1.size+1) 0)) 0 [] Y.l (tB Y.l 8 []) z Hs (by rw[Yj];exact h.ok.2.1) (Qn h.ok) H7)
 have Hi:=aC (Hm.trans (U.mono Hm.size));have Ga:=aC (HX.bw U HX.lt);have Hq:aA (∀w',(∀q,w.1.size+1<=q->q<w1.1.size->w'.1[q]? =w1.1[q]?)->bI w' r Y.n Y.R Y.F Y.T):=aC (λw' hq=>by
  have h0:FR w1 W.1.size (Uf r (flat Y.R Y.F Y.T Y.n).length xc) (flat Y.R Y.F Y.T Y.n):=by rw[Hg];exact L
  have E:FR w' W.1.size (Uf r (flat Y.R Y.F Y.T Y.n).length xc) (flat Y.R Y.F Y.T Y.n):=dK h0 (λg hg=>hq g (oH ((World.ownsRow.lt h0 g hg).1)) (World.ownsRow.lt h0 g hg).2);have⟨Gp,xc',ex,Gd,_,_⟩:=E.fs;injection ex with e1 e2 e3;subst e1;exact I9 Gd.rseg)
 have H3:=aC ((b3.cell (p:=(Ub w1.1.size)) (show w1.1.size<m.1.size by omega)).trans V);have Gb:aA (w.1.size+1<=w1.1.size/\m.1.size=w1.1.size+1/\z.1.size=m.1.size+1+1):=aC ⟨oM,z2,z3⟩;have H1:=aC U;have H2:=aC<|aE b2 b3;clear b1 b2 b3 U L L3 HX Hs z2 z3 Gh Gi V Hg;go_wp2_with fail;clear H I;refine Ht.mono ?_;clear Ht;rintro e u⟨s,A,rfl,M,Hy,Hx⟩;have Gm:=Gb.out;have D:(Value.slice (Uq (Ua (m.1.size+1) 0)) 0 0).ownBlock=Uq (m.1.size+1):=rfl;have K:∀k,k<z.1.size->k≠m.1.size+1->u.1[k]? =z.1[k]? :=λk E h2=>M.1.block k E (λe=>h2 (by rw[D]at e;injection e));have Hj:aA (Bl w u):=aC (Hi.grown M.1 Hi.size (λk e=>by rw[D]at e;injection e with e;omega));have⟨Q,X⟩:=zE (u.alloc (Uj #[Uf s Y.l.length A,Uf r Y.n xc] 28));have o:Bl u Q:=X▸zO _ _;have X5:aD Q u.1.size (Uf s Y.l.length A) (Uf r Y.n xc):=X▸aD.made u _ _ _;have R4:aD u w.1.size Ue Ue:=Ga.sm (K w.1.size oM oM) M.1.size;have Hp:=aC<|R4.bw o R4.lt;have Ge:u.cell? (Ub w1.1.size)=Uq (Uf r Y.n xc):=(Vy (a:=(Ub w1.1.size)) (K w1.1.size oM oM)).trans H3;have Ho:aA (∀q,w.1.size+1<=q->q<w1.1.size->u.1[q]? =w1.1[q]?):=aC<|λq _ hq=>(K q oM oM).trans (H2.block q hq);have H5:aA (bI Q r Y.n Y.R Y.F Y.T):=aC<|(Hq u Ho).bw o;have Hv:aA (w1.1.size<=u.1.size):=aC<|oH M.1.size;have Hc:=aC o;have Hn:=aC<|Hy.bw o;have Hk:=aC<|Hj.trans (o.mono Hj.size);have H9:aA (bY Q a n f):=aC (bY.bw (bY.keptR (row:=Uq (m.1.size+1)) (Hr.bw H1) (D▸M.1) (λy hy e=>by injection e with e;have:=Hh y hy;omega)) o);have⟨O,q3,q4⟩:=Hn.caps;have Hd:=aC<|BA s A Y.l r Y.n xc Y.R Y.F Y.T Q q3 q4 (oH h.ok.2.1) Hx (oH ((dL.1 h.ok.1).2)) O O.seg H5;have H4:=aC<|And.intro q3 q4;rw[sI h.ok (by rw[<-h.len];exact Gg)]at Hd;have⟨x0,Gj⟩:=X5.q2;have Hu:=aC X5;clear M Hy Hx K R4 o O q3 q4 X5 D;go_wp2_with fail;clear X Ge;refine Hd.mono ?_;clear Hd;rintro e w6⟨v6,zs,k,rfl,C,ho,b⟩;injection C with C hk;subst hk;obtain⟨oa,oc,rfl,os⟩:=ho.any;have R6:=Hp.bw b Hp.lt;have Hl:=aC<|Hk.trans (b.mono Hk.size);have⟨c0,c1,cf⟩:=R6.p2;have H8:=aC R6;have B:=LA h HF;rw[C]at B;have Hb:=Cb os B.1 oc;have Hf:=Cb (H9.bw b) HF c;rw[show gW (λi=>zs.getD i 0) 0 zs.length=gW f 0 n from B.2]at Hb;have⟨s1,H0⟩:=zE (gW f 0 n);rw[H0]at Hb Hf;have X6:=Hu.bw b Hu.lt;have⟨Gn,Go⟩:=X6.q2;have H6:=aC<|Hn.bw b;have Ha:=aC<|aE Hc b;clear R6 os ho b C x0 Gj X6 H0 B;go_wp2_with fail;have⟨Z,hZ,p0,p1,N⟩:=H8.fill (Uf s Y.l.length A) (Uf r Y.n xc);rw[<-hZ];clear hZ;refine zF (v:=Ul #[Uo #[Uf s Y.l.length A,Uf r Y.n xc],Ud 0]) (by simp[results,results118,go_sem,p0,p1]) ?_;rw[<-HP.out];have Gf:LB Z (w.1.size+1) (Uf s Y.l.length A) Y.l:=H6.move N.size<|λq E h2=>N.block q h2 (λe=>oI e);refine⟨s,A,r,xc,rfl,⟨Gf.caps.1,?_⟩,H4,Hl.grown N Hl.size (λk e=>oI e)⟩;exact Hq Z<|λq E h2=>(N.block q (oJ Hv Ha.size) (λe=>oI e)).trans ((Ha.block q (oH Hv)).trans (Ho q E h2))
theorem Cv(l:List Rn):flat (λi=>(gR l i).1) (λi=>(gR l i).2.1) (λi=>(gR l i).2.2) l.length=l:=by
 refine JJ (by simp[flat])<|λi h1 h2=>?_;simp[flat,gR,UL,h2]
theorem Tm{l:List Rn}(h:dI l):fQ (λi=>(gR l i).1) (λi=>(gR l i).2.1) (λi=>(gR l i).2.2) l.length:=by
 intro i hi;have e:∀j,(hj:j<l.length)->gR l j=l[j]:=λj hj=>by simp[gR,UL,hj]
 refine⟨?_,λh0=>?_⟩
 .have:=h.2 _ (UZ hi);rw[<-e i hi]at this;exact Dz this
 .have:=List.pairwise_iff_getElem.1 h.1 (i-1) i oM hi oM;rw[<-e i hi,<-e (i-1) oM]at this;unfold fT;exact decide_eq_true this
theorem LT(R F T:Nat->Int)(r x:Int)(n:Nat):cE R F T r x x n=true↔RI (flat R F T n) r x:=by
 rw[uG,<-yX];unfold gQ In;simp
theorem Ct:cY R F T n x↔RI (flat R F T n) x.r x.q:=LT R F T x.r x.q n
def cT(l:List Lf)(u:List Rn):Sx:=⟨l,u.length,λi=>(gR u i).1,λi=>(gR u i).2.1,λi=>(gR u i).2.2⟩
theorem Sf(S S':Sx):aR S S'=cT (jn S.R S.F S.T S.n S.l S'.R S'.F S'.T S'.n S'.l) (eY S S'):=rfl
theorem T9:cY (cT l u).R (cT l u).F (cT l u).T (cT l u).n x↔RI u x.r x.q:=by
 rw[Ct];unfold cT;simp only;rw[Cv]
def cP(x:Lf):Rn:=(x.r,x.q,x.q)
theorem Ib{x:Int}:RI (l.map cP) r x↔∃y∈l,y.r=r/\y.q=x:=by
 unfold RI kG cP;constructor
 .rintro⟨p,v,j,m,u⟩;obtain⟨y,k,rfl⟩:=List.mem_map.1 v;exact⟨y,k,j,by simp only at m u;omega⟩
 .rintro⟨y,k,j,m⟩;exact⟨_,List.mem_map.2 ⟨y,k,rfl⟩,j,by simp only;omega,by simp only;omega⟩
noncomputable def iI(g:Lf->Prop)(l:List Lf):List Lf:=l.filter λx=>yes (g x)
noncomputable def kO(g:Lf->Prop)(l:List Lf):List Lf:=l.filter λx=> !yes (g x)
noncomputable def jD(g:Lf->Prop)(l P:List Lf):List Rn:=fC [] ((iI g l).map cP++P.map cP)
noncomputable def aQ(g:Lf->Prop)(l P:List Lf):Sx:=cT P (jD g l P)
def mM(S:Sx)(P:List Lf):List Rn:=fC (flat S.R S.F S.T S.n) (P.map cP)
noncomputable def lO(g:Lf->Prop)(l P:List Lf):List Lf:=P.foldl (λo y=>dS y o) (kO g l)
noncomputable def Pm(g:Lf->Prop)(S:Sx)(P:List Lf):Sx:=cT (lO g S.l P) (mM S P)
theorem uF{g:Lf->Prop}:x∈iI g l↔x∈l/\g x:=by
 unfold iI;rw[JK];exact and_congr_right λ_=>⟨λh=>Classical.byContradiction λhn=>(by rw[aJ hn]at h;cases h),λh=>aN h⟩
theorem I6{g:Lf->Prop}:x∈kO g l↔x∈l/\¬g x:=by
 unfold kO;rw[JK];exact and_congr_right λ_=>⟨λh hn=>(by rw[aN hn]at h;cases h),λh=>(by rw[aJ h];rfl)⟩
structure dN(S:Sx)(P:List Lf):Prop where
 one:P.length<=1
 ok:∀y∈P,jH y
 dot:∀y∈P,dG (cP y)
 new:∀y∈P,¬cY S.R S.F S.T S.n y
theorem dN.nil(S:Sx):dN S []:=⟨oP,λy h=>(by cases h),λy h=>(by cases h),λy h=>(by cases h)⟩
theorem lZ(h:bG S.R S.F S.T S.n S.l):∀z∈S.l,cY S.R S.F S.T S.n z:=λz hz=>by
 have⟨j,k,e⟩:=bJ.1 hz;have:=(h.2.2.1 j k).2.1;rw[e]at this;exact this
theorem sE(h:fQ R F T n)(hx:cY R F T n x):dG (cP x):=by
 have⟨k,j,m,q,r⟩:=uD R F T _ _ _ n hx;have:=(h k j).1;simp only[fR,Bool.and_eq_true,decide_eq_true_eq]at this;unfold dG cP;simp only;omega
theorem mD(h:bG S.R S.F S.T S.n S.l):fQ S.R S.F S.T S.n:=(dL.1 h.1).1
section
variable {g : Lf-> Prop}{S : Sx}{P : List Lf}
theorem Ss(h:bG S.R S.F S.T S.n S.l)(hp:dN S P):∀p∈(iI g S.l).map cP++P.map cP,dG p:=λp j=>by
 rcases List.mem_append.1 j with j|j
 .obtain⟨x,k,rfl⟩:=List.mem_map.1 j;exact sE (mD h)<|lZ h x (uF.1 k).1
 .obtain⟨x,k,rfl⟩:=List.mem_map.1 j;exact hp.dot x k
theorem So:dI []:=⟨List.Pairwise.nil,λp h=>by cases h⟩
theorem rS(h:bG S.R S.F S.T S.n S.l)(hp:dN S P):dI (jD g S.l P)/\∀r x,RI (jD g S.l P) r x↔(∃y,(y∈S.l/\g y)/\y.r=r/\y.q=x)\/∃y∈P,y.r=r/\y.q=x:=by
 have⟨k,m⟩:=nX ((iI g S.l).map cP++P.map cP) [] So (Ss h hp);refine⟨k,λr x=>(m r x).trans ?_⟩;rw[sS,Ib,Ib];constructor
 .rintro(e|⟨y,j,e⟩|e)
  .exact absurd e Ij
  .exact .inl ⟨y,uF.1 j,e⟩
  .exact .inr e
 .rintro(⟨y,j,e⟩|e)
  .exact .inr<|.inl ⟨y,uF.2 j,e⟩
  .exact .inr<|.inr e
theorem NR(h:bG S.R S.F S.T S.n S.l)(hp:dN S P):(jD g S.l P).length<=1001:=by
 have j:=tV ((iI g S.l).map cP++P.map cP) [];have k:(iI g S.l).length<=S.l.length:=YH _ _;have m:=h.2.1;have q:=hp.one;simp at j;show(fC [] ((iI g S.l).map cP++P.map cP)).length<=1001;omega
theorem GO(hp:dN S P){R F T:Nat->Int}{n:Nat}(hh:∀y∈P,cY R F T n y):dB R F T n P P.length/\fK P P.length:=by
 have m:=hp.one;refine⟨λi hi=>?_,λi hi j hj=>oM⟩;have k:gL P i∈P:=bJ.2 ⟨i,hi,rfl⟩;exact⟨hp.ok _ k,hh _ k,λh0=>oM⟩
theorem rK(h:bG S.R S.F S.T S.n S.l)(hp:dN S P):eE (aQ g S.l P).R (aQ g S.l P).F (aQ g S.l P).T (aQ g S.l P).n (aQ g S.l P).l:=by
 have k:=(rS (g:=g) h hp).1;have m:=NR (g:=g) h hp;have j:=GO hp (R:=(aQ g S.l P).R) (F:=(aQ g S.l P).F) (T:=(aQ g S.l P).T) (n:=(aQ g S.l P).n)<|λy hy=>T9.2 (((rS h hp).2 _ _).2 (.inr ⟨y,hy,rfl,rfl⟩));exact⟨⟨Tm k,by show(jD g S.l P).length<=2000;omega⟩,by show P.length<=1000;have:=hp.one;omega,j.1,j.2⟩
theorem vF{Q:Prop}(h:Q:=by
 have:=h.2.2.1.lt j hij hj;have k:gL S.l i=S.l[i]:=by simp[gL,UL,hi]
 have m:gL S.l j=S.l[j]:=by simp[gL,UL,hj]
 rw[k,m]at this;exact this):Q:=h
theorem AB(h:bG S.R S.F S.T S.n S.l):(kO g S.l).Pairwise (λa b=>aY a b<0):=by
 refine List.Pairwise.filter _<|List.pairwise_iff_getElem.2 λi j hi hj hij=>?_;exact vF
theorem Cr{l:List Lf}{z:Lf}:∀{P:List Lf}{o:List Lf},z∈P.foldl (λo y=>dS y o) o↔z∈o\/z∈P
 |[],o=>oP
 |y::P,o=>by
  rw[VQ,Cr (l:=l) (P:=P),Dl,VS];constructor
  .rintro((e|e)|e)
   .exact .inr<|.inl e
   .exact .inl e
   .exact .inr<|.inr e
  .rintro(e|e|e)
   .exact .inl<|.inr e
   .exact .inl<|.inl e
   .exact .inr e
theorem TF(h:bG S.R S.F S.T S.n S.l)(hp:dN S P):(lO g S.l P).Pairwise (λa b=>aY a b<0):=by
 unfold lO;match P,hp with
 |[],_=>exact AB h
 |[y],hp=>refine Ot (AB h) (λz hz e=>?_);exact hp.new y (List.mem_singleton.2 rfl)<|(Wp e).1 (lZ h z (I6.1 hz).1)
 |_::_::_,hp=>exact absurd hp.one oP
theorem DI(h:bG S.R S.F S.T S.n S.l)(hp:dN S P):(aR S (aQ g S.l P)).l=lO g S.l P:=by
 refine uN (oG h.w (rK h hp)) (TF h hp)<|λz=>?_;show z∈rC S.l P _ _↔_;rw[uC];unfold lO;rw[Cr (l:=S.l),I6];have v:cY (aQ g S.l P).R (aQ g S.l P).F (aQ g S.l P).T (aQ g S.l P).n z↔_:=T9.trans<|(rS (g:=g) h hp).2 z.r z.q;rw[v];constructor
 .rintro(⟨j,k⟩|⟨j,_⟩)
  .rcases k with k|k
   .exact .inr k
   .exact .inl ⟨j,λm=>k (.inl ⟨z,⟨j,m⟩,rfl,rfl⟩)⟩
  .exact .inr j
 .rintro(⟨j,k⟩|j)
  .refine .inl ⟨j,.inr ?_⟩;rintro(⟨y,⟨u,m⟩,e⟩|⟨y,u,e⟩)
   .exact k<|(Ix h.2.2.2 u j e)▸m
   .refine hp.new y u ?_;have:=lZ h z j;unfold cY at this⊢;rw[e.1,e.2];exact this
  .exact .inr ⟨j,hp.new z j⟩
theorem GP(h:bG S.R S.F S.T S.n S.l)(hp:dN S P):dI (mM S P)/\∀r x,RI (mM S P) r x↔RI (flat S.R S.F S.T S.n) r x\/∃y∈P,y.r=r/\y.q=x:=by
 have⟨j,k⟩:=nX (P.map cP) (flat S.R S.F S.T S.n) (mU S.n (mD h)) (λp hq=>by
  obtain⟨x,m,rfl⟩:=List.mem_map.1 hq;exact hp.dot x m)
 refine⟨j,λr x=>(k r x).trans ?_⟩;rw[Ib]
theorem DG(h:bG S.R S.F S.T S.n S.l)(hp:dN S P):eY S (aQ g S.l P)=mM S P:=by
 have j:=rS (g:=g) h hp;have k:eY S (aQ g S.l P)=fC (flat S.R S.F S.T S.n) (jD g S.l P):=by
  unfold eY kM aQ cT;simp only;rw[Cv]
 rw[k];have⟨u,v⟩:=nX (jD g S.l P) (flat S.R S.F S.T S.n) (mU S.n (mD h)) j.1.2;have⟨z,t⟩:=GP h hp;refine uniq u z<|λr x=>?_;rw[v,t,j.2];constructor
 .rintro(e|⟨y,⟨o,_⟩,m,q⟩|e)
  .exact .inl e
  .have:=Ct.1 (lZ h y o);rw[m,q]at this;exact .inl this
  .exact .inr e
 .rintro(e|e)
  .exact .inl e
  .exact .inr<|.inr e
theorem DH(h:bG S.R S.F S.T S.n S.l)(hp:dN S P):aR S (aQ g S.l P)=Pm g S P:=by
 rw[Sf,DG h hp];have:=DI (g:=g) h hp;unfold Pm;rw[<-this];rfl
end
theorem yM{k:Int}(h0:0<p.length):aG p k <+:aS x↔(k=3/\p <+:x.p/\p.length<x.p.length)\/(x.p=p/\k=kd x.fl):=by
 unfold aS;constructor
 .intro h;have v:=h.length_le;rw[jN,jN]at v;by_cases e:p.length=x.p.length
  .have:=h.eq_of_length (by rw[jN,jN];exact e);have⟨r,u⟩:=Nt this h0;exact .inr ⟨r.symm,u⟩
  .have q:∀i,i<p.length->(gS p i,if i+1<p.length then 3 else k)=(gS x.p i,if i+1<x.p.length then(3:Int)else kd x.fl):=λi hi=>by
    have m:=oC (k:=k) hi;have j:=oC (p:=x.p) (k:=kd x.fl) (i:=i) oM;have⟨t,y⟩:=h;rw[<-y,List.getElem?_append_left (by rw[jN];exact hi),m]at j;injection j
   refine .inl ⟨?_,?_,oM⟩
   .have:=(Prod.mk.inj (q (p.length-1) oM)).2;rw[if_neg oM,if_pos oM]at this;exact this
   .rw[List.prefix_iff_eq_take];refine Fv oS λi hi=>?_;have:=(Prod.mk.inj (q i hi)).1;rw[this];simp[gS,UL,List.getElem?_take,hi]
 .rintro(⟨rfl,m,j⟩|⟨m,j⟩)
  .rw[<-U9 (k:=kd x.fl) m j];exact VW _ _
  .rw[m,j];exact Ya _
def cV(p:List ByteArray)(fl:Bool)(x:Lf):Prop:=x.p=p/\x.fl=fl
def iC(p:List ByteArray)(x:Lf):Prop:=p <+:x.p
theorem Ip(h0:0<p.length):aG p (kd fl) <+:aS x↔cV p fl x:=by
 rw[yM h0];unfold cV;constructor
 .rintro(⟨h,_⟩|⟨j,k⟩)
  .rcases lV fl with e|e<;>rw[e]at h<;>cases h
  .exact⟨j,(Bu k).symm⟩
 .rintro⟨j,k⟩;exact .inr ⟨j,by rw[k]⟩
theorem II(h0:0<p.length):(aG p 1 <+:aS x\/aG p 2 <+:aS x\/aG p 3 <+:aS x)↔iC p x:=by
 rw[yM h0,yM h0,yM h0];unfold iC;constructor
 .rintro((⟨h,_⟩|⟨j,_⟩)|(⟨h,_⟩|⟨j,_⟩)|(⟨_,h,_⟩|⟨j,_⟩))
  .cases h
  .rw[j];exact Ya _
  .cases h
  .rw[j];exact Ya _
  .exact h
  .rw[j];exact Ya _
 .intro h;by_cases e:p.length<x.p.length
  .exact .inr<|.inr (.inl ⟨rfl,h,e⟩)
  .have:p=x.p:=h.eq_of_length (oH h.length_le);rcases lV x.fl with k|k
   .exact .inl<|.inr ⟨this.symm,k.symm⟩
   .exact .inr<|.inl (.inr ⟨this.symm,k.symm⟩)
theorem vU{Q:Prop}(h:Q:=by
 rcases e with⟨y,⟨k,_⟩,j,m⟩|⟨y,k,j,m⟩
 .have:=sE (mD h) (lZ h y k);unfold dG cP at this;simp only at this j;omega
 .have:=hp.dot y k;unfold dG cP at this;simp only at this j;omega):Q:=h
theorem LG{g:Lf->Prop}{ds:List Dt}(h:bG S.R S.F S.T S.n S.l)(hp:dN S P)(hs:∀r,bL (L r))(hi:∀r x,In (L r) x↔(r,x)∈ds)(hd:∀d:Dt,d∈ds↔(∃y,(y∈S.l/\g y)/\y.r=d.1/\y.q=d.2)\/∃y∈P,y.r=d.1/\y.q=d.2):eV L 8=jD g S.l P:=by
 have⟨u,v,_⟩:=yT hs 8 zL;have⟨z,t⟩:=rS (g:=g) h hp;refine uniq u z<|λr x=>?_;rw[v,t,hi,hd (r,x)];constructor
 .intro e;exact e.2.2
 .intro e;refine⟨?_,?_,e⟩
  .exact vU
  .exact vU
theorem MK{l:List (Int×Int)}(h:bL l)(h':bL l')(he:∀x,In l x↔In l' x):l=l':=by
 have:=uniq (I5 h (VI 0) oM) (I5 h' (VI 0) oM) (λr x=>by rw[Fl,Fl,he]);unfold eM at this;have m:∀(a b:List (Int×Int)),a.map (λp=>((0:Int),p.1,p.2))=b.map (λp=>((0:Int),p.1,p.2))->a=b:=by
  intro a;induction a with
  |nil=>intro b h;cases b with
   |nil=>rfl
   |cons=>cases h
  |cons x a ih=>
   intro b h;cases b with
   |nil=>cases h
   |cons y b=>
    simp only[UQ]at h;injection h with h1 h2;rw[ih b h2];have j:=congrArg (λz=>z.2.1) h1;have k:=congrArg (λz=>z.2.2) h1;exact congrArg (· ::b)<|Prod.ext j k
 exact m _ _ this
theorem DE{g:Lf->Prop}{ds:List Dt}(h:bG S.R S.F S.T S.n S.l)(hp:dN S P)(hs:∀r,bL (L r))(hi:∀r x,In (L r) x↔(r,x)∈ds)(hd:∀d:Dt,d∈ds↔(∃y,(y∈S.l/\g y)/\y.r=d.1/\y.q=d.2)\/∃y∈P,y.r=d.1/\y.q=d.2):L=Lk (aQ g S.l P).R (aQ g S.l P).F (aQ g S.l P).T (aQ g S.l P).n:=by
 funext r;refine MK (hs r) (kZ _ (rK h hp).1.1 r).1<|λx=>?_;rw[hi,hd (r,x),<-uG];have:flat (aQ g S.l P).R (aQ g S.l P).F (aQ g S.l P).T (aQ g S.l P).n=jD g S.l P:=Cv _;rw[this,(rS (g:=g) h hp).2]
theorem LE(r q:Int)(w:Ur):
  Cl 164 #[Uo #[Ud r,Ud q]] w (Rt w (Un (fR r q q))):=by
 have j:Bl w (w.alloc (Uj #[Ud r,Ud q] 99)):=zO _ _;have m:=aC j;go_enter func164,ntmps164;go_wp2_with fail;refine(Od r q q _).mono ?_;rintro e w1⟨rfl,k⟩;have u:=aC<|aE m k;go_wp2_with fail;go_ret;exact⟨rfl,u⟩
def mA(R F T:Nat->Int)(rep:Int)(n:Nat):Bool:=eQ R F T n&&fR rep (bQ R T rep n+1) (bQ R T rep n+1)
theorem Co(h:eQ R F T n=true)(rep:Int):0<=bQ R T rep n/\bQ R T rep n<=1000000000:=by
 have:=B9 n (dL.1 h).1;rw[this.2.2.1 rep];exact this.2.2.2 rep
theorem Qm8(hT:lC T)(rep:Int)(k:Nat): -9223372036854775808<=bQ R T rep k/\bQ R T rep k<=9223372036854775807:=by
 induction k with
 |zero=>simp[bQ]
 |succ k ih=>
  simp only[bQ];split
  .exact hT k
  .exact ih
theorem MI(h:R k=rep)(h2:bQ R T rep k<T k):bQ R T rep (k+1)=T k:=by
 show(if R k=rep/\bQ R T rep k<T k then T k else bQ R T rep k)=_;rw[if_pos ⟨h,h2⟩]
theorem Xa(h:¬(R k=rep/\bQ R T rep k<T k)):bQ R T rep (k+1)=bQ R T rep k:=by
 show(if R k=rep/\bQ R T rep k<T k then T k else bQ R T rep k)=_;rw[if_neg h]
theorem vI{a b:Int}(h:a=b):Value.int Uh a=Ud b:=by rw[h]
theorem qS{Q:Prop}(h:Q:=by
 clear s;generalize bQ R T rep k=tk at*;go_wp2_with fail;go_round;case rel=>exact⟨k+1,W,oN,vI X.symm⟩
 case measure=>exact oE):Q:=h
theorem PZ(a:Option Us)(n c:Nat)(R F T:Nat->Int)(rep:Int)(w:Ur)(hn:n<=1048576)(h:bI w a n R F T)(hT:lC T):
  Cl 121 #[Uo #[Uf a n c],Ud rep] w λe w'=>
   (mA R F T rep n=true->e=Ui (Ul #[Uo #[Ud rep,Ud (bQ R T rep n+1)],Un true]))/\(mA R F T rep n=false->e=Ui (Ul #[Uo #[Ud 0,Ud 0],Un false]))/\Bl w w':=by
 generalize y:(w.alloc (Uj #[Uf a n c] 26)).alloc (Uj #[Ud 0,Ud 0] 99)=m;have bW:Bl w m:=y▸aU _ _ _;have L:m.1.size=w.1.size+2:=y▸oP;have H:m.cell? (Ub w.1.size)=Uq (Uf a n c):=y▸oP;have x0:m.cell? (Ua (w.1.size+1) 0)=Uq (Ud 0):=y▸oP;have K:m.cell? (Ua (w.1.size+1) 1)=Uq (Ud 0):=y▸oP;have Z:m.frozen? (Ua (w.1.size+1) 0)=false:=y▸oP;have G:m.frozen? (Ua (w.1.size+1) 1)=false:=y▸oP;have M:=h.bw bW;go_enter func121,ntmps121;go_wp2_with fail;go_loop [6,7] (λt i=>∃k:Nat,k<=n/\i=Ud k/\t=Ud (bQ R T rep k)) (λ_ i=>n-(intOf i).toNat);case atStart=>exact⟨0,UB _,rfl,rfl⟩
 case round=>
  obtain⟨k,hk,rfl,rfl⟩:=hrel;by_cases W:k<n
  .rcases M with M|⟨b,off,rfl,hb,hc⟩
   .omega
   have c0:=(hc k W).1;have c2:=(hc k W).2.2;by_cases s:R k=rep
   .have t1:(R k==rep)=true:=(by simp;exact s);by_cases e2:bQ R T rep k<T k
    .have X:=aC<|MI s e2;exact qS
    .have X:=aC<|Xa (R:=R) (T:=T) (rep:=rep) (k:=k) (λhh=>e2 hh.2);exact qS
   .have t1:(R k==rep)=false:=(by simp;exact s);have X:=aC<|Xa (R:=R) (T:=T) (rep:=rep) (k:=k) (λhh=>s hh.1);exact qS
  .obtain rfl:k=n:=oM;cases hcx:eQ R F T k with
   |false=>have B:aA (mA R F T rep k=false):=(by unfold aA mA;rw[hcx];rfl);generalize q:m.alloc (Uj #[Ud rep,Ud (wrap64 (bQ R T rep k+1))] 99)=j;have b3:Bl m j:=q▸zO _ _;have z3:j.1.size=w.1.size+3:=(by rw[<-q];simp;omega);have g:j.cell? (Ua (w.1.size+2) 0)=Uq (Ud rep):=(by rw[<-q,<-L];simp);have o:j.cell? (Ua (w.1.size+2) 1)=Uq (Ud (wrap64 (bQ R T rep k+1))):=(by rw[<-q,<-L];simp);have z:=bW.trans<|b3.mono oM;have Q:=(b3.cell (p:=(Ua (w.1.size+1) 0)) (show w.1.size+1<m.1.size by omega)).trans x0;have U:=(b3.cell (p:=(Ua (w.1.size+1) 1)) (show w.1.size+1<m.1.size by omega)).trans K;have A:=(b3.frozen (p:=(Ua (w.1.size+1) 0)) (show w.1.size+1<m.1.size by omega)).trans Z;have E:=(b3.frozen (p:=(Ua (w.1.size+1) 1)) (show w.1.size+1<m.1.size by omega)).trans G;have P:=(b3.cell (p:=(Ub w.1.size)) (show w.1.size<m.1.size by omega)).trans H;have O:=M.bw b3;go_wp2_with fail;refine(Cn a k c R F T _ hn O).mono ?_;rintro e u⟨rfl,b4⟩;rw[hcx];have z4:=b4.size;have V:=(b4.cell (p:=(Ua (w.1.size+1) 0)) (show w.1.size+1<j.1.size by omega)).trans Q;have Y:=(b4.cell (p:=(Ua (w.1.size+1) 1)) (show w.1.size+1<j.1.size by omega)).trans U;have I:=(b4.frozen (p:=(Ua (w.1.size+1) 0)) (show w.1.size+1<j.1.size by omega)).trans A;have J:=(b4.frozen (p:=(Ua (w.1.size+1) 1)) (show w.1.size+1<j.1.size by omega)).trans E;have C:=(b4.cell (p:=(Ua (w.1.size+2) 0)) (show w.1.size+2<j.1.size by omega)).trans g;have D:=(b4.cell (p:=(Ua (w.1.size+2) 1)) (show w.1.size+2<j.1.size by omega)).trans o;have N:=aC<|aE z b4;go_wp2_with fail;refine zF (v:=Ul #[Uo #[Ud 0,Ud 0],Un false]) (by simp[results,results121,go_sem,V,Y]) ⟨(λh=>by have:=B.symm.trans h;cases this),(λ_=>rfl),?_⟩;exact(N.setCell oP _).setCell oP _
   |true=>
    have Hi:=Co hcx rep;cases hdo:fR rep (bQ R T rep k+1) (bQ R T rep k+1);have B:aA (mA R F T rep k=false):=(by unfold aA mA;rw[hcx,hdo];rfl);rotate_left;have B:aA (mA R F T rep k=true):=(by unfold aA mA;rw[hcx,hdo];rfl);rotate_left;all_goals
     skip;generalize S:bQ R T rep k=tk at*;have HT:=aC S;generalize q:m.alloc (Uj #[Ud rep,Ud (tk+1)] 99)=j;have b3:Bl m j:=q▸zO _ _;have z3:j.1.size=w.1.size+3:=(by rw[<-q];simp;omega);have g:j.cell? (Ua (w.1.size+2) 0)=Uq (Ud rep):=(by rw[<-q,<-L];simp);have o:j.cell? (Ua (w.1.size+2) 1)=Uq (Ud (tk+1)):=(by rw[<-q,<-L];simp);have z:=bW.trans<|b3.mono oM;have Q:=(b3.cell (p:=(Ua (w.1.size+1) 0)) (show w.1.size+1<m.1.size by omega)).trans x0;have U:=(b3.cell (p:=(Ua (w.1.size+1) 1)) (show w.1.size+1<m.1.size by omega)).trans K;have A:=(b3.frozen (p:=(Ua (w.1.size+1) 0)) (show w.1.size+1<m.1.size by omega)).trans Z;have E:=(b3.frozen (p:=(Ua (w.1.size+1) 1)) (show w.1.size+1<m.1.size by omega)).trans G;have P:=(b3.cell (p:=(Ub w.1.size)) (show w.1.size<m.1.size by omega)).trans H;have O:=M.bw b3;go_wp2_with fail
     refine(Cn a k c R F T _ hn O).mono ?_;rintro e u⟨rfl,b4⟩;rw[hcx];have z4:=b4.size;have V:=(b4.cell (p:=(Ua (w.1.size+1) 0)) (show w.1.size+1<j.1.size by omega)).trans Q;have Y:=(b4.cell (p:=(Ua (w.1.size+1) 1)) (show w.1.size+1<j.1.size by omega)).trans U;have I:=(b4.frozen (p:=(Ua (w.1.size+1) 0)) (show w.1.size+1<j.1.size by omega)).trans A;have J:=(b4.frozen (p:=(Ua (w.1.size+1) 1)) (show w.1.size+1<j.1.size by omega)).trans E;have C:=(b4.cell (p:=(Ua (w.1.size+2) 0)) (show w.1.size+2<j.1.size by omega)).trans g;have D:=(b4.cell (p:=(Ua (w.1.size+2) 1)) (show w.1.size+2<j.1.size by omega)).trans o;have N:=aC<|aE z b4;go_wp2_with fail;refine(LE rep (tk+1) _).mono ?_;rintro e w5⟨rfl,r⟩;rw[hdo];have Hb:=(r.cell (p:=(Ua (w.1.size+1) 0)) (show w.1.size+1<u.1.size by omega)).trans V;have Hc:=(r.cell (p:=(Ua (w.1.size+1) 1)) (show w.1.size+1<u.1.size by omega)).trans Y;have Hg:=(r.frozen (p:=(Ua (w.1.size+1) 0)) (show w.1.size+1<u.1.size by omega)).trans I;have Hh:=(r.frozen (p:=(Ua (w.1.size+1) 1)) (show w.1.size+1<u.1.size by omega)).trans J
    rotate_left;have He:=(r.cell (p:=(Ua (w.1.size+2) 0)) (show w.1.size+2<u.1.size by omega)).trans C;have Hf:=(r.cell (p:=(Ua (w.1.size+2) 1)) (show w.1.size+2<u.1.size by omega)).trans D;rotate_left;all_goals have Ha:=aC (aE N r);go_wp2_with fail
    .refine zF (v:=Ul #[Uo #[Ud 0,Ud 0],Un false]) (by simp[results,results121,go_sem,Hb,Hc]) ⟨(λh=>by have:=B.symm.trans h;cases this),(λ_=>rfl),?_⟩;exact(Ha.setCell oP _).setCell oP _
    .refine zF (v:=Ul #[Uo #[Ud rep,Ud (tk+1)],Un true]) (by simp[results,results121,go_sem,Hb,Hc]) ⟨(λ_=>by rw[HT.out]),(λh=>by have:=B.symm.trans h;cases this),?_⟩;exact(Ha.setCell oP _).setCell oP _
noncomputable def iD(S D:Sx):Bool:=fL S D&&(decide (D.l.length<=1000)&&decide (D.n<=1000))
noncomputable def eI(S D:Sx):Sx:=if iD S D then aR S D else Sx.mt
noncomputable def eC(S D:Sx):Sx:=if iD S D then D else Sx.mt
noncomputable def fP(S D:Sx):Int:=if iD S D then 0 else 4
theorem rL(h:iD S D=true):eI S D=aR S D/\eC S D=D/\fP S D=0:=by unfold eI eC fP;rw[if_pos h,if_pos h,if_pos h];exact⟨rfl,rfl,rfl⟩
theorem rM(h:iD S D=false):eI S D=Sx.mt/\eC S D=Sx.mt/\fP S D=4:=by unfold eI eC fP;rw[if_neg (by rw[h];simp),if_neg (by rw[h];simp),if_neg (by rw[h];simp)];exact⟨rfl,rfl,rfl⟩
noncomputable def dQ(S:Sx)(p:List ByteArray)(v:ByteArray):Int:=if fD S=true then(if yes (dW p/\v.size<=200)=true then 0 else 2)else 1
theorem Bi{v:ByteArray}(h:fD S=false):dQ S p v=1:=by unfold dQ;rw[if_neg (by rw[h];simp)]
theorem tN{v:ByteArray}(h:fD S=true)(hn:¬(dW p/\v.size<=200)):dQ S p v=2:=by unfold dQ;rw[if_pos h,if_neg (by rw[aJ hn];simp)]
theorem Fe{v:ByteArray}(h:fD S=true)(hn:dW p/\v.size<=200):dQ S p v=0:=by unfold dQ;rw[if_pos h,if_pos (aN hn)]
theorem sB{v:ByteArray}(h:dQ S p v=0):fD S=true/\dW p/\v.size<=200:=by
 cases hb:fD S with
 |false=>rw[Bi hb]at h;cases h
 |true=>
  by_cases j:dW p/\v.size<=200
  .exact⟨rfl,j⟩
  .rw[tN hb j]at h;cases h
noncomputable def tE(S:Sx)(p:List ByteArray):Sx:=aQ (iC p) S.l []
noncomputable def iZ(S:Sx)(p:List ByteArray):Sx:=if dQ S p ⟨#[]⟩=0 then eI S (tE S p)else Sx.mt
noncomputable def iY(S:Sx)(p:List ByteArray):Sx:=if dQ S p ⟨#[]⟩=0 then eC S (tE S p)else Sx.mt
noncomputable def lN(S:Sx)(p:List ByteArray):Int:=if dQ S p ⟨#[]⟩=0 then fP S (tE S p)else dQ S p ⟨#[]⟩
theorem Az(h:dQ S p ⟨#[]⟩=0):iZ S p=eI S (tE S p)/\iY S p=eC S (tE S p)/\lN S p=fP S (tE S p):=by unfold iZ iY lN;rw[if_pos h,if_pos h,if_pos h];exact⟨rfl,rfl,rfl⟩
theorem xZ(h:dQ S p ⟨#[]⟩≠0):iZ S p=Sx.mt/\iY S p=Sx.mt/\lN S p=dQ S p ⟨#[]⟩:=by unfold iZ iY lN;rw[if_neg h,if_neg h,if_neg h];exact⟨rfl,rfl,rfl⟩
theorem C8(h:dW p):∀i,(gS p i).size<=1048576:=λi=>by
 by_cases hi:i<p.length
 .have:=(h.2.2 i hi).2;omega
 .rw[Sk oM];simp
theorem S6{R T:Nat->Int}{rep:Int}:∀{n k:Nat},k<n->R k=rep->T k<=bQ R T rep n
 |0,k,h,_=>oM
 |n+1,k,h,e=>by
  have mono:bQ R T rep n<=bQ R T rep (n+1):=by
   show _<=(if R n=rep/\bQ R T rep n<T n then T n else bQ R T rep n);split<;>omega
  by_cases j:k=n
  .subst j;show _<=(if R k=rep/\bQ R T rep k<T k then T k else bQ R T rep k);split
   .omega
   .next hn=>exact Int.not_lt.1 (λhlt=>hn ⟨e,hlt⟩)
  .exact Int.le_trans (S6 oM e) mono
def jT(S:Sx)(rep:Int):Prop:=(0<=rep/\rep<8)/\bQ S.R S.T rep S.n+1<=1000000000
def nL(S:Sx)(rep:Int)(p:List ByteArray)(fl:Bool)(v:ByteArray):Lf:=⟨p,fl,rep,bQ S.R S.T rep S.n+1,v⟩
theorem F5{v:ByteArray}(hs:bG S.R S.F S.T S.n S.l)(hp:dW p)(hv:v.size<=200)(hf:fl=true->fO v=true)(h:jT S rep):dN S [nL S rep p fl v]:=by
 have g:=Co hs.1 rep;have z:=h.2;have u:=h.1;refine⟨oP,λy hy=>?_,λy hy=>?_,λy hy hx=>?_⟩
 .rw[List.mem_singleton.1 hy];exact⟨hp,hv,hf⟩
 .rw[List.mem_singleton.1 hy];unfold dG cP nL;simp only;omega
 .rw[List.mem_singleton.1 hy]at hx;have⟨k,q,j,r,m⟩:=uD S.R S.F S.T _ _ _ S.n hx;have:=S6 (R:=S.R) (T:=S.T) (rep:=rep) q (by first|exact j|exact j.symm);unfold nL at m;simp only at m;omega
noncomputable def pO(S:Sx)(rep:Int)(p:List ByteArray)(fl:Bool)(v:ByteArray):Sx:=aQ (cV p fl) S.l [nL S rep p fl v]
noncomputable def mK(S:Sx)(rep:Int)(p:List ByteArray)(fl:Bool)(v:ByteArray):Sx:=if yes (jT S rep) then eI S (pO S rep p fl v)else Sx.mt
noncomputable def mI(S:Sx)(rep:Int)(p:List ByteArray)(fl:Bool)(v:ByteArray):Sx:=if yes (jT S rep) then eC S (pO S rep p fl v)else Sx.mt
noncomputable def pP(S:Sx)(rep:Int)(p:List ByteArray)(fl:Bool)(v:ByteArray):Int:=if yes (jT S rep) then fP S (pO S rep p fl v)else 3
section
variable {S : Sx}{rep : Int}{p : List ByteArray}{fl : Bool}{v : ByteArray}
theorem Ey(h:jT S rep):mK S rep p fl v=eI S (pO S rep p fl v)/\mI S rep p fl v=eC S (pO S rep p fl v)/\pP S rep p fl v=fP S (pO S rep p fl v):=by unfold mK mI pP;rw[aN h];exact⟨rfl,rfl,rfl⟩
theorem E2(h:¬jT S rep):mK S rep p fl v=Sx.mt/\mI S rep p fl v=Sx.mt/\pP S rep p fl v=3:=by unfold mK mI pP;rw[aJ h];exact⟨rfl,rfl,rfl⟩
end
noncomputable def eD(g:Lf->Prop)(l P:List Lf)(j k:Nat):List Rn:=fC [] ((iI g (l.take j)).map cP++(P.take k).map cP)
def gT(S:Sx)(P:List Lf)(k:Nat):List Rn:=fC (flat S.R S.F S.T S.n) ((P.take k).map cP)
noncomputable def cS(g:Lf->Prop)(l P:List Lf)(j k:Nat):List Lf:=(P.take k).foldl (λo y=>dS y o) (kO g (l.take j))
noncomputable def fJ(P:List Lf)(k:Nat):List Lf:=(P.take k).foldl (λo y=>dS y o) []
theorem oA(h:j<l.length):l.take (j+1)=l.take j++[gL l j]:=by
 rw[Vc,List.getElem?_eq_getElem h];simp[gL,UL,h]
theorem uI(h:x∈l.take j):x∈l:=List.mem_of_mem_take h
section
variable {g : Lf-> Prop}{l P : List Lf}{j k : Nat}
theorem EW(h:j<l.length)(hg:g (gL l j)):iI g (l.take (j+1))=iI g (l.take j)++[gL l j]:=by
 unfold iI;rw[oA h,JL];congr 1;simp[aN hg]
theorem EY(h:j<l.length)(hg:¬g (gL l j)):iI g (l.take (j+1))=iI g (l.take j):=by
 unfold iI;rw[oA h,JL];simp[aJ hg]
theorem DX(h:j<l.length)(hg:g (gL l j)):kO g (l.take (j+1))=kO g (l.take j):=by
 unfold kO;rw[oA h,JL];simp[aN hg]
theorem DY(h:j<l.length)(hg:¬g (gL l j)):kO g (l.take (j+1))=kO g (l.take j)++[gL l j]:=by
 unfold kO;rw[oA h,JL];congr 1;simp[aJ hg]
theorem IC(h:j<l.length)(hg:g (gL l j)):eD g l P (j+1) 0=fM (eD g l P j 0) (cP (gL l j)):=by
 unfold eD;rw[EW h hg,JM,UN,List.map_nil,VO,VO];exact C3 _ _ _
theorem IA(h:j<l.length)(hg:¬g (gL l j)):eD g l P (j+1) 0=eD g l P j 0:=by unfold eD;rw[EY h hg]
theorem GY(h:j<l.length)(hg:g (gL l j)):cS g l P (j+1) 0=cS g l P j 0:=by unfold cS;rw[DX h hg]
theorem GW(h:j<l.length)(hg:¬g (gL l j)):cS g l P (j+1) 0=cS g l P j 0++[gL l j]:=by
 unfold cS;rw[DY h hg,JM];rfl
theorem OE(h:k<P.length):eD g l P j (k+1)=fM (eD g l P j k) (cP (gL P k)):=by
 unfold eD;rw[oA h,UN,<-Ve];exact C3 _ _ _
theorem NX{S:Sx}(h:k<P.length):gT S P (k+1)=fM (gT S P k) (cP (gL P k)):=by
 unfold gT;rw[oA h,UN];exact C3 _ _ _
theorem OA(h:k<P.length):cS g l P j (k+1)=dS (gL P k) (cS g l P j k):=by
 unfold cS;rw[oA h,Ym];rfl
theorem OG(h:k<P.length):fJ P (k+1)=dS (gL P k) (fJ P k):=by
 unfold fJ;rw[oA h,Ym];rfl
theorem I3:eD g l P l.length P.length=jD g l P:=by unfold eD jD;rw[Vj,Vj]
theorem I1{S:Sx}:gT S P P.length=mM S P:=by unfold gT mM;rw[Vj]
theorem I2:cS g l P l.length P.length=lO g l P:=by unfold cS lO;rw[Vj,Vj]
theorem We(h:P.length<=1):fJ P P.length=P:=by
 unfold fJ;rw[Vj];match P,h with
 |[],_=>rfl
 |[y],_=>rfl
 |_::_::_,h=>simp at h
theorem Nf:∀(P o:List Lf),(P.foldl (λo y=>dS y o) o).length=o.length+P.length
 |[],o=>rfl
 |y::P,o=>by rw[VQ,Nf P,sQ,UP];omega
theorem OD:(cS g l P j k).length<=l.length+P.length:=by
 unfold cS;rw[Nf];have m:(kO g (l.take j)).length<=(l.take j).length:=YH _ _;rw[Vk]at m⊢;omega
theorem OJ:(fJ P k).length<=P.length:=by
 unfold fJ;rw[Nf,Vk,YB];omega
theorem OF:(eD g l P j k).length<=l.length+P.length:=by
 have m:=tV ((iI g (l.take j)).map cP++(P.take k).map cP) [];have q:(iI g (l.take j)).length<=(l.take j).length:=YH _ _;rw[UM,UR,UR,Vk,YB]at m;rw[Vk]at q;show(fC [] _).length<=_;omega
theorem NZ{S:Sx}:(gT S P k).length<=S.n+P.length:=by
 have j:=tV ((P.take k).map cP)<|flat S.R S.F S.T S.n;rw[UR,Vk,oO]at j;show(fC _ _).length<=_;omega
theorem OC{z:Lf}(h:z∈cS g l P j k):z∈l\/z∈P:=by
 unfold cS at h;rcases (Cr (l:=l)).1 h with h|h
 .exact .inl<|uI (I6.1 h).1
 .exact .inr<|uI h
theorem OI{z:Lf}(h:z∈fJ P k):z∈P:=by
 unfold fJ at h;rcases (Cr (l:=P)).1 h with h|h
 .cases h
 .exact uI h
end
section
variable {g : Lf-> Prop}{S : Sx}{P : List Lf}
theorem IB(h:bG S.R S.F S.T S.n S.l)(hp:dN S P)(j k:Nat):dI (eD g S.l P j k):=(nX _ [] So (λp m=>by
 refine Ss (g:=g) h hp p ?_;rcases List.mem_append.1 m with m|m
 .obtain⟨x,q,rfl⟩:=List.mem_map.1 m;exact List.mem_append.2<|.inl (List.mem_map.2 ⟨x,uF.2 ⟨uI (uF.1 q).1,(uF.1 q).2⟩,rfl⟩)
 .obtain⟨x,q,rfl⟩:=List.mem_map.1 m;exact List.mem_append.2 (.inr (List.mem_map.2 ⟨x,uI q,rfl⟩)))).1
theorem GV(h:bG S.R S.F S.T S.n S.l)(hp:dN S P)(k:Nat):dI (gT S P k):=(nX _ _ (mU S.n (mD h)) (λp hq=>by
 obtain⟨x,j,rfl⟩:=List.mem_map.1 hq;exact hp.dot x (uI j))).1
theorem Rk{l:List Lf}(h:∀z∈l,1<=z.p.length/\z.p.length<=8):∀i,i<l.length->1<=(gL l i).p.length/\(gL l i).p.length<=8:=λi hi=>h _ (bJ.2 ⟨i,hi,rfl⟩)
theorem EK(h:bG S.R S.F S.T S.n S.l):∀z∈S.l,1<=z.p.length/\z.p.length<=8:=λz hz=>by
 have⟨j,k,e⟩:=bJ.1 hz;have:=(h.2.2.1 j k).1;rw[e]at this;exact⟨this.1.1,this.1.2.1⟩
theorem dN.pm(hp:dN S P):∀z∈P,1<=z.p.length/\z.p.length<=8:=λz hz=>⟨(hp.ok z hz).1.1,(hp.ok z hz).1.2.1⟩
theorem OB(h:bG S.R S.F S.T S.n S.l)(hp:dN S P)(j k:Nat):∀i,i<(cS g S.l P j k).length->1<=(gL (cS g S.l P j k) i).p.length/\(gL (cS g S.l P j k) i).p.length<=8:=Rk λz m=>by
 rcases OC m with m|m
 .exact EK h z m
 .exact hp.pm z m
theorem OH(hp:dN S P)(k:Nat):∀i,i<(fJ P k).length->1<=(gL (fJ P k) i).p.length/\(gL (fJ P k) i).p.length<=8:=Rk λz hz=>hp.pm z (OI hz)
end
theorem P4{ra:Option Us}{rc:Nat}{P Q:Nat->Nat}(h:LC w lo (Uf (Uc g) l.length c) l P Q)(hf:FR w lo (Uf ra u.length rc) u):aT w lo (Uc g) c ra (cT l u):=⟨λw' h1 h2=>by
 have k:=h.move h1 h2;have j:FR w' lo (Uf ra u.length rc) u:=dK hf (λq hq=>h2 q (World.ownsRow.lt hf q hq).1 (World.ownsRow.lt hf q hq).2);have⟨a,c',e,s,_,_⟩:=j.fs;injection e with e1 e2 e3;subst e1;exact⟨k.lcap rfl,s.rseg⟩,h.cp rfl⟩
structure CS(w wr:Ur)(t1 t2:Nat)(va0 va1:aB)(gD cD:Nat)(DL:List Lf)(DP DQ:Nat->Nat)(vr1:aB)(DU:List Rn)(gN cN:Nat)(NL:List Lf)(NP NQ:Nat->Nat)(vr2:aB)(NU:List Rn):Prop where
 low:Bl w wr
 a:aD wr w.1.size va0 va1
 r1:aD wr (w.1.size+1) Ue Ue
 r2:aD wr (w.1.size+1+1) Ue Ue
 d:aD wr t1 (Uf (Uc gD) DL.length cD) vr1
 n:aD wr t2 (Uf (Uc gN) NL.length cN) vr2
 ld:LC wr (w.1.size+3) (Uf (Uc gD) DL.length cD) DL DP DQ
 ln:LC wr (w.1.size+3) (Uf (Uc gN) NL.length cN) NL NP NQ
 fd:FR wr (w.1.size+3) vr1 DU
 fn:FR wr (w.1.size+3) vr2 NU
 h1:w.1.size+3<=t1
 h2:w.1.size+3<=t2
 h12:t1≠t2
 sd:gD≠t1/\gD≠t2/\gD≠gN
 sn:gN≠t1/\gN≠t2
 s1:∀b,vr1.ownBlock=Uq b->b≠t1/\b≠t2/\b≠gN
 s2:∀b,vr2.ownBlock=Uq b->b≠t1/\b≠t2/\b≠gN
 pd:∀i,i<DL.length->DP i≠t1/\DP i≠t2
 pn:∀i,i<NL.length->NP i≠t1/\NP i≠t2
section
variable {w wr w1 : Ur}{t1 t2 : Nat}{va0 va1 : aB}{gD cD : Nat}{DL : List Lf}{DP DQ : Nat-> Nat}{vr1 : aB}{DU : List Rn}{gN cN : Nat}{NL : List Lf}{NP NQ : Nat-> Nat}{vr2 : aB}{NU : List Rn}
theorem CS.bw(h:CS w wr t1 t2 va0 va1 gD cD DL DP DQ vr1 DU gN cN NL NP NQ vr2 NU)(hb:Bl wr w1):CS w w1 t1 t2 va0 va1 gD cD DL DP DQ vr1 DU gN cN NL NP NQ vr2 NU:=
 ⟨h.low.trans (hb.mono h.low.size),h.a.bw hb h.a.lt,h.r1.bw hb h.r1.lt,h.r2.bw hb h.r2.lt,h.d.bw hb h.d.lt,h.n.bw hb h.n.lt,h.ld.bw hb,h.ln.bw hb,h.fd.bw hb,h.fn.bw hb,h.h1,h.h2,h.h12,h.sd,h.sn,h.s1,h.s2,h.pd,h.pn⟩
theorem mV{a b:Nat}{n c:Nat}(h:a≠b):(Value.slice (Uc a) n c).ownBlock≠Uq b:=λe=>h (by simpa[Value.ownBlock]using e)
theorem CS.setD1{v:aB}{U:List Rn}(h:CS w wr t1 t2 va0 va1 gD cD DL DP DQ vr1 DU gN cN NL NP NQ vr2 NU)(hb:Bl wr w1)(hf:FR w1 wr.1.size v U):CS w (w1.setCell (Ua t1 1) v) t1 t2 va0 va1 gD cD DL DP DQ v U gN cN NL NP NQ vr2 NU:=by
 have k:=h.bw hb;have m:=h.d.lt;have q:=h.n.lt;have r:=(h.ln.row.lt gN rfl).2;have u:=h.h1;have j:∀b,v.ownBlock=Uq b->wr.1.size<=b:=λb e=>(World.ownsRow.lt hf b e).1;refine⟨k.low.setCell oQ _,k.a.setAt _ _ oQ,k.r1.setAt _ _ oQ,k.r2.setAt _ _ oQ,k.d.set1 _,k.n.setAt _ _ h.h12,k.ld.set _ _ (mV h.sd.1) (λi hi=>(h.pd i hi).1),k.ln.set _ _ (mV h.sn.1) (λi hi=>(h.pn i hi).1),(hf.weak oM).setFar _ _ (λe=>by have:=j _ e;have:wr.1.size<=t1:=this;omega),k.fn.setFar _ _ (λe=>(h.s2 _ e).1 rfl),h.h1,h.h2,h.h12,h.sd,h.sn,λb e=>?_,h.s2,h.pd,h.pn⟩;have:=j b e;exact⟨oM,oM,oM⟩
theorem CS.setN1{v:aB}{U:List Rn}(h:CS w wr t1 t2 va0 va1 gD cD DL DP DQ vr1 DU gN cN NL NP NQ vr2 NU)(hb:Bl wr w1)(hf:FR w1 wr.1.size v U):CS w (w1.setCell (Ua t2 1) v) t1 t2 va0 va1 gD cD DL DP DQ vr1 DU gN cN NL NP NQ v U:=by
 have k:=h.bw hb;have m:=h.d.lt;have q:=h.n.lt;have r:=(h.ln.row.lt gN rfl).2;have u:=h.h2;have j:∀b,v.ownBlock=Uq b->wr.1.size<=b:=λb e=>(World.ownsRow.lt hf b e).1;refine⟨k.low.setCell oQ _,k.a.setAt _ _ oQ,k.r1.setAt _ _ oQ,k.r2.setAt _ _ oQ,k.d.setAt _ _ (Ne.symm h.h12),k.n.set1 _,k.ld.set _ _ (mV h.sd.2.1) (λi hi=>(h.pd i hi).2),k.ln.set _ _ (mV h.sn.2) (λi hi=>(h.pn i hi).2),k.fd.setFar _ _ (λe=>(h.s1 _ e).2.1 rfl),(hf.weak oM).setFar _ _ (λe=>by have:=j _ e;have:wr.1.size<=t2:=this;omega),h.h1,h.h2,h.h12,h.sd,h.sn,h.s1,λb e=>?_,h.pd,h.pn⟩;have:=j b e;exact⟨oM,oM,oM⟩
theorem tO{g n c:Nat}{l:List Lf}{P Q:Nat->Nat}{lo t:Nat}{n0 c0:Nat}{a0:Option Us}{u:aB}(h:LC w lo (Uf (Uc g) n c) l P Q)(hp:∀i,i<l.length->1<=(gL l i).p.length)(hb:aD w t (Uf a0 n0 c0) u):∀i,i<l.length->P i≠t:=λi hi e=>by
 have j:=(h.pt i hi).2.2.2.1.cell (i:=0)<|oH (hp i hi);rw[e,hb.c0]at j;cases j
theorem CS.setD0{g2 c2 n2:Nat}{l2:List Lf}{P2 Q2:Nat->Nat}(h:CS w wr t1 t2 va0 va1 gD cD DL DP DQ vr1 DU gN cN NL NP NQ vr2 NU)(hb:Bl wr w1)(hl:LC w1 (w.1.size+3) (Uf (Uc g2) n2 c2) l2 P2 Q2)(hn:n2=l2.length)(hg:wr.1.size<=g2)(hp:∀i,i<l2.length->1<=(gL l2 i).p.length):CS w (w1.setCell (Ub t1) (Uf (Uc g2) n2 c2)) t1 t2 va0 va1 g2 c2 l2 P2 Q2 vr1 DU gN cN NL NP NQ vr2 NU:=by
 subst hn;have k:=h.bw hb;have q:=h.d.lt;have r:=h.n.lt;have v:=(h.ln.row.lt gN rfl).2;have u:=h.h1;have j:=tO hl hp k.d;have m:=tO hl hp k.n;exact⟨k.low.setCell oQ _,k.a.setAt _ _ oQ,k.r1.setAt _ _ oQ,k.r2.setAt _ _ oQ,k.d.set0 _,k.n.setAt _ _ h.h12,hl.set _ _ (mV (show g2≠t1 by omega)) j,k.ln.set _ _ (mV h.sn.1) (λi hi=>(h.pn i hi).1),k.fd.setFar _ _ (λe=>(h.s1 _ e).1 rfl),k.fn.setFar _ _ (λe=>(h.s2 _ e).1 rfl),h.h1,h.h2,h.h12,⟨oM,oM,oM⟩,h.sn,h.s1,h.s2,λi hi=>⟨j i hi,m i hi⟩,h.pn⟩
theorem CS.setN0{g2 c2 n2:Nat}{l2:List Lf}{P2 Q2:Nat->Nat}(h:CS w wr t1 t2 va0 va1 gD cD DL DP DQ vr1 DU gN cN NL NP NQ vr2 NU)(hb:Bl wr w1)(hl:LC w1 (w.1.size+3) (Uf (Uc g2) n2 c2) l2 P2 Q2)(hn:n2=l2.length)(hg:wr.1.size<=g2)(hp:∀i,i<l2.length->1<=(gL l2 i).p.length):CS w (w1.setCell (Ub t2) (Uf (Uc g2) n2 c2)) t1 t2 va0 va1 gD cD DL DP DQ vr1 DU g2 c2 l2 P2 Q2 vr2 NU:=by
 subst hn;have k:=h.bw hb;have q:=h.d.lt;have r:=h.n.lt;have v:=(h.ld.row.lt gD rfl).2;have u:=h.h2;have m:=tO hl hp k.d;have j:=tO hl hp k.n;refine⟨k.low.setCell oQ _,k.a.setAt _ _ oQ,k.r1.setAt _ _ oQ,k.r2.setAt _ _ oQ,k.d.setAt _ _ (Ne.symm h.h12),k.n.set0 _,k.ld.set _ _ (mV h.sd.2.1) (λi hi=>(h.pd i hi).2),hl.set _ _ (mV (show g2≠t2 by omega)) j,k.fd.setFar _ _ (λe=>(h.s1 _ e).2.1 rfl),k.fn.setFar _ _ (λe=>(h.s2 _ e).2.1 rfl),h.h1,h.h2,h.h12,⟨h.sd.1,h.sd.2.1,oM⟩,⟨oM,oM⟩,λb e=>?_,λb e=>?_,h.pd,λi hi=>⟨m i hi,j i hi⟩⟩
 .have:=(World.ownsRow.lt h.fd b e).2;exact⟨(h.s1 b e).1,(h.s1 b e).2.1,oM⟩
 .have:=(World.ownsRow.lt h.fn b e).2;exact⟨(h.s2 b e).1,(h.s2 b e).2.1,oM⟩
theorem CS.appN{y:Lf}{p pc:Nat}(h:CS w wr t1 t2 va0 va1 gD cD [] DP DQ vr1 DU gN cN NL NP NQ vr2 NU)(hb:Bl wr w1)(hk:NL.length<=1048576)(hy:1<=y.p.length)(hp:∀i,i<NL.length->1<=(gL NL i).p.length)(hp1:wr.1.size<=p)(hp2:p<w1.1.size)(hw:Wr w1 p 9 y.p.length (λt=>Um (gS y.p t)))(hpc:y.p.length<=pc/\pc<=9223372036854775807):
  ∃m s u,(Builtin.append_ #[23,23] 23 #[Uf (Uc gN) NL.length cN,Uf (Uc w1.1.size) 1 1]).run prog (w1.alloc (Uj #[Uf (Uc p) y.p.length pc,Un y.fl,Ud y.r,Ud y.q,Um y.v] 101))=.ok (Uf (Uc m) (NL.length+1) s) u/\Bl w u/\aD u w.1.size va0 va1/\aD u t2 (Uf (Uc gN) NL.length cN) vr2/\
   ∃P' Q',CS w (u.setCell (Ub t2) (Uf (Uc m) (NL.length+1) s)) t1 t2 va0 va1 gD cD [] DP DQ vr1 DU m s (NL++[y]) P' Q' vr2 NU:=by
 have k:=h.bw hb;have T:=h.d.lt;have W:=h.n.lt;have l5:=h.r2.lt;have l6:=h.ln.row.lt gN rfl;have l7:=h.ld.row.lt gD rfl;have Y:=h.h2;have⟨m,s,u,X,A,z⟩:=h.ln.app hb oM hk y p pc oM hp2 (λe=>by simp[Value.ownBlock]at e;omega) hw hpc;have O:m=gN\/w1.1.size<=m:=by
  rcases z.l with e|⟨b,e,F⟩
  .exact .inl (by simpa[Value.ownBlock]using e)
  .have D:m=b:=(by simpa[Value.ownBlock]using e);exact .inr oM
 have row:∀b,(Value.slice (Uc gN) NL.length cN).ownBlock=Uq b->b=gN:=λb e=>by
  have:gN=b:=by simpa[Value.ownBlock]using e
  exact this.symm
 have o:∀{b:Nat}{u0 u1:aB},aD w1 b u0 u1->b≠gN->aD u b u0 u1:=λhB hne=>hB.gr z.g (λb e=>by rw[row b e];exact λj=>hne j.symm);have Q:=o k.a oM;have L:=o k.r1 oM;have N:=o k.r2 oM;have U:=o k.d (λe=>h.sn.1 e.symm);have M:=o k.n (λe=>h.sn.2 e.symm);have I:FR u (w.1.size+3) vr1 DU:=k.fd.gr z.g (λb e j=>(h.s1 b e).2.2 (row b j.symm));have J:FR u (w.1.size+3) vr2 NU:=k.fn.gr z.g (λb e j=>(h.s2 b e).2.2 (row b j.symm));have K:LC u (w.1.size+3) (Uf (Uc gD) ([]:List Lf).length cD) [] DP DQ:=⟨dK k.ld.row (λb e=>by
  have e:gD=b:=by simpa[Value.ownBlock]using e
  subst e;exact z.g.block gD oM (λj=>h.sd.2.2 (row gD j.symm))),λi hi=>by simp at hi⟩
 have G:Bl w u:=k.low.grown z.g k.low.size (λb e=>by rw[row b e];omega);have Z:∀i,i<(NL++[y]).length->1<=(gL (NL++[y]) i).p.length:=λi hi=>by
  by_cases e:i=NL.length
  .rw[e,tR];exact hy
  .have hi':i<NL.length:=(by simp at hi;omega);rw[tQ NL y hi'];exact hp i hi'
 have C:=tO A Z U;have H:=tO A Z M;have E:m≠t1/\m≠t2/\gD≠m:=by
  rcases O with e|e
  .rw[e];exact⟨h.sn.1,h.sn.2,h.sd.2.2⟩
  .exact⟨oM,oM,oM⟩
 have B:NL.length+1=(NL++[y]).length:=oP;refine⟨m,s,u,X,G,Q,M,(λi=>if i=NL.length then p else NP i),(λi=>if i=NL.length then pc else NQ i),?_⟩;rw[B]at A⊢;refine⟨G.setCell oQ _,Q.setAt _ _ oQ,L.setAt _ _ oQ,N.setAt _ _ oQ,U.setAt _ _ (Ne.symm h.h12),M.set0 _,K.set _ _ (mV h.sd.2.1) (λi hi=>by simp at hi),A.set _ _ (mV E.2.1) H,I.setFar _ _ (λe=>(h.s1 _ e).2.1 rfl),J.setFar _ _ (λe=>(h.s2 _ e).2.1 rfl),h.h1,h.h2,h.h12,⟨h.sd.1,h.sd.2.1,E.2.2⟩,⟨E.1,E.2.1⟩,λb e=>⟨(h.s1 b e).1,(h.s1 b e).2.1,?_⟩,λb e=>⟨(h.s2 b e).1,(h.s2 b e).2.1,?_⟩,λi hi=>by simp at hi,λi hi=>⟨C i hi,H i hi⟩⟩
 .have:=(World.ownsRow.lt h.fd b e).2;rcases O with j|j
  .rw[j];exact(h.s1 b e).2.2
  .omega
 .have:=(World.ownsRow.lt h.fn b e).2;rcases O with j|j
  .rw[j];exact(h.s2 b e).2.2
  .omega
end
abbrev Vd(S:Sx):Prop:=bG S.R S.F S.T S.n S.l
def fS(S:Sx):List Rn:=flat S.R S.F S.T S.n
def Hs(S:Sx)(x:Lf):Prop:=RI (fS S) x.r x.q
theorem E7(l:List Lf)(u:List Rn):fS (cT l u)=u:=Cv u
theorem lW(S:Sx):(fS S).length=S.n:=oO _ _ _ _
theorem yL(S:Sx):cY S.R S.F S.T S.n=Hs S:=funext λx=>propext Ct
theorem qF(S S':Sx):aR S S'=cT (rC S.l S'.l (Hs S) (Hs S')) (fC (fS S) (fS S')):=by
 rw[Sf,<-yL,<-yL];rfl
theorem jM{B:Sx}:bS A B↔A.l=B.l/\fS A=fS B:=by
 constructor
 .rintro⟨r,j,v⟩;refine⟨r,JJ (by rw[lW,lW,j]) (λi h4 h5=>?_)⟩;have hi:i<A.n:=by rw[<-lW];exact h4
  have⟨k,m,q⟩:=v i hi;simp[fS,flat,k,m,q]
 .rintro⟨r,j⟩;have u:A.n=B.n:=by rw[<-lW,<-lW,j]
  refine⟨r,u,λi hi=>?_⟩;have e:gR (fS A) i=gR (fS B) i:=by rw[j]
  unfold fS at e;rw[Mm _ _ _ _ _ hi,Mm _ _ _ _ _ (u▸hi)]at e;injection e with k e;injection e with m q;exact⟨k,m,q⟩
theorem bS.refl(A:Sx):bS A A:=jM.2 ⟨rfl,rfl⟩
theorem bS.symm{B:Sx}(h:bS A B):bS B A:=jM.2 ⟨(jM.1 h).1.symm,(jM.1 h).2.symm⟩
theorem bS.trans{B:Sx}(h:bS A B)(k:bS B C):bS A C:=jM.2 ⟨(jM.1 h).1.trans (jM.1 k).1,(jM.1 h).2.trans (jM.1 k).2⟩
theorem M3{B:Sx}(h:bS A B)(k:bS C D):aR A C=aR B D:=by
 have⟨j,m⟩:=jM.1 h;have⟨q,r⟩:=jM.1 k;rw[qF,qF];unfold Hs;rw[j,m,q,r]
theorem rT(h:Vd S):dI (fS S):=mU S.n (mD h)
theorem Xw(h:Vd S):S.l.Pairwise (λa b=>aY a b<0):=by
 refine List.pairwise_iff_getElem.2 λi j hi hj hij=>?_;exact vF
theorem yP{S:Sx}(h:Vd S){z:Lf}(hz:z∈S.l):Hs S z:=Ct.1 (lZ h z hz)
section
variable {S S' S2 : Sx}
theorem qC{z:Lf}:z∈(aR S S').l↔(z∈S.l/\(z∈S'.l\/¬Hs S' z))\/(z∈S'.l/\¬Hs S z):=by rw[qF];exact uC
theorem iL(h:Vd S)(h':Vd S'):dI (fS (aR S S'))/\∀y x,RI (fS (aR S S')) y x↔(RI (fS S) y x\/RI (fS S') y x):=by
 rw[qF,E7];exact nX _ _ (rT h) (rT h').2
theorem E6(h:Vd S)(h':Vd S'){z:Lf}:Hs (aR S S') z↔Hs S z\/Hs S' z:=(iL h h').2 _ _
theorem Cs:fL S S'=true↔(aR S S').l.length<=1000/\(aR S S').n<=1000:=by unfold fL;rw[Bool.and_eq_true,decide_eq_true_eq,decide_eq_true_eq]
theorem rO(h:Vd S)(h':Vd S')(hf:fL S S'=true):Vd (aR S S'):=by
 have⟨k,m⟩:=Cs.1 hf;have j:=(iL h h').1;rw[qF,E7]at j;refine⟨dL.2 ⟨?_,m⟩,k,?_,yJ h.w h'.w⟩
 .rw[qF];exact Tm j
 .refine Qb h.w h'.w<|λz hz=>?_;rw[yL,yL]at hz;rw[yL];exact(E6 h h').2 hz
theorem Mj(h:Vd S)(h':Vd S'):bS (aR S S') (aR S' S):=by
 refine jM.2 ⟨uN (oG h.w h'.w) (oG h'.w h.w) (λz=>?_),uniq (iL h h').1 (iL h' h).1 (λr x=>?_)⟩
 .show z∈(aR S S').l↔z∈(aR S' S).l;rw[qC,qC];by_cases j:z∈S.l<;>by_cases k:z∈S'.l<;>by_cases m:Hs S z<;>by_cases q:Hs S' z<;>simp[j,k,m,q]
 .rw[(iL h h').2,(iL h' h).2];exact Or.comm
theorem Wo(h:Vd S)(h':Vd S')(h2:Vd S2)(hf:fL S S'=true)(hf2:fL S' S2=true):bS (aR (aR S S') S2) (aR S (aR S' S2)):=by
 have v:=rO h h' hf;have j:=rO h' h2 hf2;refine jM.2 ⟨uN (oG v.w h2.w) (oG h.w j.w) (λz=>?_),uniq (iL v h2).1 (iL h j).1 (λr x=>?_)⟩
 .show z∈(aR (aR S S') S2).l↔z∈(aR S (aR S' S2)).l;rw[qC,qC,qC,qC,E6 h h',E6 h' h2];have a:=@yP _ h z;have b:=@yP _ h' z;have c:=@yP _ h2 z;by_cases k:z∈S.l<;>by_cases m:z∈S'.l<;>by_cases q:z∈S2.l<;>by_cases u:Hs S z<;>by_cases y:Hs S' z<;>by_cases g:Hs S2 z<;>simp_all
 .rw[(iL v h2).2,(iL h j).2,(iL h h').2,(iL h' h2).2,or_assoc]
theorem Tj(h:Vd S):bS (aR S S) S:=by
 refine jM.2 ⟨uN (oG h.w h.w) (Xw h) (λz=>?_),uniq (iL h h).1 (rT h) (λr x=>?_)⟩
 .show z∈(aR S S).l↔_;rw[qC];have a:=@yP _ h z;by_cases j:z∈S.l<;>simp_all
 .rw[(iL h h).2,or_self]
theorem Bj:Vd Sx.mt:=⟨dL.2 ⟨λi hi=>absurd hi (JE _),UB _⟩,UB _,λi hi=>absurd hi (JE _),λi hi=>absurd hi (JE _)⟩
theorem EU(h:Vd S):bS (aR Sx.mt S) S:=by
 have m:∀r x,¬RI (fS Sx.mt) r x:=λr x ⟨p,hp,_⟩=>by simp[fS,flat,Sx.mt]at hp
 refine jM.2 ⟨uN (oG Bj.w h.w) (Xw h) (λz=>?_),uniq (iL Bj h).1 (rT h) (λr x=>?_)⟩
 .show z∈(aR Sx.mt S).l↔_;rw[qC];have e:¬z∈Sx.mt.l:=by simp[Sx.mt]
  simp[e,show¬Hs Sx.mt z from m _ _]
 .rw[(iL Bj h).2];simp[m]
theorem mX:bK S S'=true↔Vd S/\Vd S'/\fL S S'=true:=by
 unfold bK;rw[Bool.and_eq_true,Bool.and_eq_true];exact⟨λh=>⟨gC h.1.1,gC h.1.2,h.2⟩,λh=>⟨⟨aN h.1,aN h.2.1⟩,h.2.2⟩⟩
theorem Oa{A B:Sx}(h:bS (aR S S') (aR A B))(hf:fL A B=true):fL S S'=true:=by
 have⟨j,k⟩:=Cs.1 hf;exact Cs.2 ⟨by rw[h.1];exact j,by rw[h.2.1];exact k⟩
theorem Sg{A:Sx}(h:bS (aR S S') A)(hv:Vd A):fL S S'=true:=Cs.2 ⟨by rw[h.1];exact hv.2.1,by rw[h.2.1];exact(dL.1 hv.1).2⟩
theorem QP(hb:bK S S'=true):bS (aR S (aR S S')) (aR S S'):=by
 have⟨h,j,k⟩:=mX.1 hb;have:=Wo h h j (Sg (Tj h) h) k;rw[M3 (Tj h) (bS.refl S')]at this;exact this.symm
theorem CN{A B:Sx}(h:Vd A)(h':Vd B)(e:bS (aR A B) B):lP A B=true:=by
 have j:bK A B=true:=mX.2 ⟨h,h',Sg e h'⟩;unfold lP;rw[j,nV j,aN e];rfl
theorem CO(hb:bK S S'=true):lP S (aR S S')=true:=by
 have⟨h,j,k⟩:=mX.1 hb;exact CN h (rO h j k)<|QP hb
theorem QQ(hb:bK S S'=true):bK S' S=true:=by
 have⟨h,j,k⟩:=mX.1 hb;exact mX.2 ⟨j,h,Oa (Mj j h) k⟩
end
def Ow(w:Ur)(lo:Nat)(l:List Lf)(P Q:Nat->Nat):Prop:=∀i,i<l.length->w.ownsRow lo 9 1 (Uf (Uq ⟨P i,0,Up⟩) (gL l i).p.length (Q i)) (gL l i).p.length (dJ (gL l i).p)
structure lE(w wr:Ur)(va vx:aB)(g c:Nat)(l:List Lf)(P Q:Nat->Nat):Prop where
 low:Bl w wr
 ab:aD wr w.1.size va vx
 rb:aD wr (w.1.size+1) Ue Ue
 ob:aD wr (w.1.size+1+1+1+1) (Uf (Uc g) l.length c) (Uf (Uq (Ua (w.1.size+1+1+1) 0)) 0 0)
 lc:LC wr (w.1.size+1+1) (Uf (Uc g) l.length c) l P Q
 q1:g=w.1.size+1+1\/w.1.size+5<=g
 rn:wr.ownsRow (w.1.size+1+1+1) 103 3 (Uf (Uq (Ua (w.1.size+1+1+1) 0)) 0 0) 0 []
 pt:∀i,i<l.length->w.1.size+5<=P i
 ow:Ow wr (w.1.size+1+1) l P Q
 sep:rG P l.length
theorem lE.bw{P Q:Nat->Nat}(h:lE w wr va vx g c l P Q)(hb:Bl wr w'):lE w w' va vx g c l P Q:=
 ⟨aE h.low hb,h.ab.bw hb h.ab.lt,h.rb.bw hb h.rb.lt,h.ob.bw hb h.ob.lt,h.lc.bw hb,h.q1,dK h.rn λg hg=>hb.block g (h.rn.lt g hg).2,h.pt,λi hi=>dK (h.ow i hi) λg hg=>hb.block g ((h.ow i hi).lt g hg).2,h.sep⟩
theorem aD.grw(h:aD w b u0 u1)(hg:w.grownBy w' (Uq g))(hne:b≠g):aD w' b u0 u1:=h.gr hg (λk e=>by injection e with e;omega)
theorem lE.step{P Q:Nat->Nat}(h:lE w wr va vx g c l P Q)(hb:Bl wr w1)(hk:l.length<=1048576)(y:Lf)(p pc:Nat)(hp1:wr.1.size<=p)(hp2:p<w1.1.size)(hw:Wr w1 p 9 y.p.length (λt=>Um (gS y.p t)))(hpc:y.p.length<=pc/\pc<=9223372036854775807)(ho:w1.ownsRow wr.1.size 9 1 (Uf (Uc p) y.p.length pc) y.p.length (dJ y.p)):
  ∃u z j,(Builtin.append_ #[23,23] 23 #[Uf (Uc g) l.length c,Uf (Uc w1.1.size) 1 1]).run prog (w1.alloc (Uj #[Uf (Uc p) y.p.length pc,Un y.fl,Ud y.r,Ud y.q,Um y.v] 101))=.ok (Uf (Uc u) (l.length+1) z) j/\
   Bl w j/\aD j w.1.size va vx/\aD j (w.1.size+1+1+1+1) (Uf (Uc g) l.length c) (Uf (Uq (Ua (w.1.size+1+1+1) 0)) 0 0)/\
   ∃q cap P Q,lE w (j.setCell (Ua (w.1.size+1+1+1+1) 0) (Uf (Uc u) (l.length+1) z)) va vx q cap (l++[y]) P Q:=by
 have N:=h.ob.lt;have m:=h.bw hb;have⟨u,z,j,I,J,U⟩:=h.lc.app hb oM hk y p pc oM hp2 (λe=>oH ((h.lc.lt p e.symm).2)) hw hpc;have o:w1.grownBy j (Uq g):=U.g;have X:=h.q1;have L:=(h.lc.lt g rfl).2;have C:=o.size;have H:u=g\/w1.1.size<=u:=by
  rcases U.l with e|⟨q,e,H⟩
  .exact .inl (by simpa[Value.ownBlock]using e)
  .have e:u=q:=(by simpa[Value.ownBlock]using e);exact .inr oM
 have s:∀b,b<w1.1.size->b≠g->j.1[b]? =w1.1[b]? :=λb m h2=>o.block b m (λe=>h2 (by injection e));have M:=m.ab.grw o oM;have Z:=m.rb.grw o oM;have O:=m.ob.grw o oM;have Y:Bl w j:=m.low.grown o m.low.size<|λk e=>oI e;have V:∀i,i<(l++[y]).length->w.1.size+5<=(if i=l.length then p else P i)/\(if i=l.length then p else P i)<j.1.size:=λi hi=>by
  by_cases e:i=l.length
  .rw[if_pos e];exact⟨oM,oM⟩
  .rw[if_neg e];have hi':i<l.length:=(by simp at hi;omega);have:=(h.lc.pt i hi').2.1;exact⟨h.pt i hi',oM⟩
 have E:∀b,b≠w.1.size+1+1+1+1->(j.setCell (Ua (w.1.size+1+1+1+1) 0) (Uf (Uc u) (l.length+1) z)).1[b]? =j.1[b]? :=λb hb2=>zH _ _ _ _ (oU hb2);have A:(l++[y]).length=l.length+1:=oP;refine⟨u,z,j,I,Y,M,O,u,z,(λi=>if i=l.length then p else P i),(λi=>if i=l.length then pc else Q i),Y.setCell oS _,M.setAt _ _ oS,Z.setAt _ _ oS,?_,?_,oM,?_,λi hi=>(V i hi).1,λi hi=>?_,?_⟩
 .rw[A];exact O.set0 _
 .rw[A];exact J.set _ _ (λe=>by have e:=jK e;simp only at e;omega) (λi hi=>by have:=(V i hi).1;simp only;omega)
 .refine dK m.rn<|λb hb2=>?_;have e:w.1.size+1+1+1=b:=by simpa[Value.ownBlock]using hb2
  exact(E b oM).trans (s b oM oM)
 .by_cases e:i=l.length
  .subst e;simp only[if_pos];rw[tR];refine oF (dK ho (λb hb2=>?_)) oM;have e:p=b:=(by simpa[Value.ownBlock]using hb2);exact(E b oM).trans (s b oM oM)
  .have hi':i<l.length:=(by simp at hi;omega);simp only[if_neg e];rw[tQ l y hi'];refine dK (m.ow i hi')<|λb hb2=>?_;have e:P i=b:=(by simpa[Value.ownBlock]using hb2);have⟨_,K,G,_⟩:=h.lc.pt i hi';have:=h.pt i hi';exact(E b oM).trans (s b oM (λe2=>G (by simp[Value.ownBlock];omega)))
 .rw[A];exact h.sep.app<|λi hi=>oH ((h.lc.pt i hi).2.1)
theorem OO{x:Option Us}(ho:wr.ownsRow B 103 3 (Uf (Uc q) 0 0) 0 [])(hB:B<=wr.1.size)(hn:n<=1048576)(h:bI wr x n R F T):
  ∃k z y,(Builtin.append_ #[24,24] 24 #[Uf (Uc q) 0 0,Uf x n d]).run prog wr=.ok (Uf (Uc k) n z) y/\FR y B (Uf (Uc k) n z) (flat R F T n)/\wr.grownBy y (Uq q)/\(k=q\/k=wr.1.size)/\(0<n->k=wr.1.size):=by
 have⟨v,p,U,V,Y⟩:=info_parts Tryz.infoRun;have fl:(flat R F T n).length=n:=oO _ _ _ _;rcases x with _|b
 .obtain rfl:n=0:=by
   rcases h with h|⟨_,_,e,_⟩
   .exact h
   .cases e
  refine⟨q,0,wr,On wr _ _ _ v underlying24 p _ 0 0 d zL,?_,⟨rfl,rfl,rfl,Ux _,λ_ _ _=>rfl⟩,.inl rfl,λh=>oM⟩;simpa[FR,flat,bC]using ho
 .have O:∀j u,(bC (flat R F T n))[j]? =Uq u->wr.cell? (b.add j)=Uq u:=by
   rcases h with rfl|⟨g,o,e,I,H⟩
   .intro j u s;simp[flat,bC]at s
   .cases e;exact AH<|.inr ⟨g,o,rfl,I,H⟩
  have E:∀u∈bC (flat R F T n),u.oneCell'=true:=λu hu=>by
   have⟨j,s⟩:=List.getElem?_of_mem hu;rcases (Zk _ j u s).2 with⟨_,e⟩|⟨_,e⟩|⟨_,e⟩<;>rw[e]<;>rfl
  have M:(bC (flat R F T n)).length=n*3:=by rw[Og,fl]
  have⟨v',y,i,t,Z,G,m⟩:=run_append_own_at (P:=prog) wr B 24 24 103 v _ 3 24 underlying24 p U V Y rfl oD (Uf (Uc q) 0 0) 0 [] ho b n d _ M O E oL oM hB;rcases t.2 with⟨A,_⟩|⟨k,z,L,A,r⟩
  .have:=G.1 A;exact absurd this.1 oP
  rw[A]at i t m;rw[UA]at i t;refine⟨k,z,y,i,?_,Z,?_,λh0=>?_⟩
  .show y.ownsRow B 103 3 _ (flat R F T n).length (bC (flat R F T n));rw[fl];simpa using t
  .rcases m with m|m
   .exact .inl (by simpa[Value.ownBlock]using m)
   .exact .inr (by simpa[Value.ownBlock]using m)
  .have J:(Builtin.firstCells v.size 0 (Uf (Uc q) 0 0)).run prog wr.drew=.ok #[] wr.drew:=run_firstCells_some (P:=prog) wr.drew v.size 0 (Ub q) 0 0 [] oP (λj u hu=>by simp at hu);have K:Src prog v.size 24 (Uf (Uq b) n d) n (bC (flat R F T n)) wr:=Src.ofSlice wr underlying24 b n d _ (by rw[M,V]) O E;have Q:=run_append_grow_src (P:=prog) (w:=wr) 24 24 24 103 v _ underlying24 p U (Uc q) 0 0 [] J (Uf (Uq b) n d) n _ K oM oM (growslice_fits oM (by rw[Y];omega));rw[i]at Q;injection Q with e1 e2;injection e1 with e1 _ _;injection e1 with e1;injection e1
theorem lE.start(w:Ur)(va vx:aB):
  lE w (((((w.alloc (Uj #[va,vx] 28)).alloc (Uj #[Ue,Ue] 28)).alloc (Uj #[] 101)).alloc (Uj #[] 103)).alloc (Uj #[Uf (Uq (Ua (w.1.size+1+1) 0)) 0 0,Uf (Uq (Ua (w.1.size+1+1+1) 0)) 0 0] 28)) va vx (w.1.size+1+1) 0 [] (λ_=>0) (λ_=>0):=by
 have⟨w1,u⟩:=zE (w.alloc (Uj #[va,vx] 28));have A:w1.1.size=w.1.size+1:=u▸oP;have O:aD w1 w.1.size va vx:=u▸aD.made _ _ _ _;have U:Bl w w1:=u▸zO _ _;rw[u];have⟨k,q⟩:=zE (w1.alloc (Uj #[Ue,Ue] 28));have E:k.1.size=w.1.size+1+1:=by rw[<-q];simp[A]
 have h:aD k w.1.size va vx:=q▸O.allocs _;have b:aD k (w.1.size+1) Ue Ue:=by rw[<-q,<-A];exact aD.made _ _ _ _
 have V:Bl w k:=q▸U.alloc oM _;rw[q];have⟨m,v⟩:=zE (k.alloc (Uj #[] 101));have M:m.1.size=w.1.size+1+1+1:=by rw[<-v];simp[E]
 have b3:Bl k m:=v▸zO _ _;have Q:LC m (w.1.size+1+1) (Uf (Uq (Ua (w.1.size+1+1) 0)) 0 0) [] (λ_=>0) (λ_=>0):=by
  refine⟨?_,λi hi=>by simp at hi⟩;rw[<-v,<-E];have:=Vo (base:=k.1.size) (e:=101) (size:=5) k #[] 0 zL oL rfl;simpa using this
 rw[v];have⟨r,y⟩:=zE (m.alloc (Uj #[] 103));have Y:r.1.size=w.1.size+1+1+1+1:=by rw[<-y];simp[M]
 have b4:Bl m r:=y▸zO _ _;have t:r.ownsRow (w.1.size+1+1+1) 103 3 (Uf (Uq (Ua (w.1.size+1+1+1) 0)) 0 0) 0 []:=by
  rw[<-y,<-M];have:=Vo (base:=m.1.size) (e:=103) (size:=3) m #[] 0 zL oL rfl;simpa using this
 rw[y];have s:∀o,Bl r (r.alloc o):=λo=>zO _ o;have p:=λo=>aE b4 (s o);have z:=λo=>aE b3 (p o);refine⟨aE V (z _),h.bw (z _) h.lt,b.bw (z _) b.lt,?_,Q.bw (p _),.inl rfl,dK t λg hg=>(s _).block g (t.lt g hg).2,λi hi=>by simp at hi,λi hi=>by simp at hi,λi j hi=>by simp at hi⟩;rw[<-Y];exact aD.made _ _ _ _
structure Am(w w':Ur)(S:Sx)(g c gx cx:Nat)(P Q:Nat->Nat):Prop where
 lc:LC w' w.1.size (Uf (Uc g) S.l.length c) S.l P Q
 ow:Ow w' w.1.size S.l P Q
 sep:rG P S.l.length
 fr:FR w' w.1.size (Uf (Uc gx) S.n cx) (fS S)
 gn:g≠gx
 pn:∀i,i<S.l.length->P i≠gx
 up:0<S.n->g<gx/\∀i,i<S.l.length->P i<gx
 low:Bl w w'
theorem xP{Q:Prop}(h:Q:=by
 refine cZ 9 ?_;intro K m;refine oX _ _ _ _ rfl J (by rfl) (by rfl) rfl ?_;refine m.out _ _ (A _ l3 A3.c0)<|λqh=>?_;clear m K;try simp only[zP]
 refine tZ 10 26 ?_;have L:=I.c0;have tf:=I.f;refine cZ 11 ?_;intro K m;go_simp;obtain⟨_,_,_,_,Y⟩:=Hd.out;refine m.out _ _ (A _ Y.low Y.ab.c0)<|λqh=>?_;clear m K;try simp only[zP]
 refine zD ?_;clear qh E C O U J l3 A3 I D Y L tf Hh p1 W B X N A q1 H Hg;go_wp2_with fail;go_roundw;case rel=>exact⟨j+1,Hf,oN,Hd⟩
 case measure=>exact oE):Q:=h
theorem pK{Q:Prop}(h:Q:=by
 refine cZ 8 ?_;intro K m;go_simp;refine m.out _ _ (A _ U.low U.ab.c0)<|λqh=>?_;clear m K;try simp only[zP]
 exact xP):Q:=h
theorem Mh(a x:Option Us)(c d:Nat)(S:Sx)(w:Ur)(hm:S.Sm)(hpl:∀i,i<S.l.length->1<=(gL S.l i).p.length)(h:eP w a x S):
  Cl 44 #[Uo #[Uf a S.l.length c,Uf x S.n d]] w λe w'=>∃g cg gx cx P Q,e=Ui (Uo #[Uf (Uc g) S.l.length cg,Uf (Uc gx) S.n cx])/\Am w w' S g cg gx cx P Q:=by
 have HA:=aC h.lf;have H4:=aC h.rn;have H6:=hm.l1;have H7:=hm.n1;have H2:=aC hm.p1;have H3:=aC hpl;have Hs:=aC<|lE.start w (Uf a S.l.length c) (Uf x S.n d);clear h hpl;go_enter func44,ntmps44;go_wp2_with fail;go_loopw [4] (λi wr=>∃(j:Nat),j<=S.l.length/\i=Ud (j:Int)/\aA (∃q cap P Q,lE w wr (Uf a S.l.length c) (Uf x S.n d) q cap (S.l.take j) P Q)) (λi _=>S.l.length-(intOf i).toNat);case atStart=>exact⟨0,UB _,rfl,aC ⟨_,_,_,_,Hs⟩⟩
 case round=>
  clear Hs;obtain⟨j,hj,rfl,HI⟩:=hrel;have⟨q,cap,P,Q,Z⟩:=HI.out;have Hp:(S.l.take j).length=j:=oS;have Hk:=aC Hp;have s:=aC Z;have⟨a0,a1⟩:=Z.ab.q2;have⟨o0,o1⟩:=Z.ob.q2;rw[Hp]at o0;clear Z HI Hp;by_cases Hf:j<S.l.length
  .have i1:(0:Int)<=(j:Int):=VH _;have i2:(j:Int)<(S.l.length:Int):=oM;obtain⟨u,M,rfl,He,Hv⟩:=(HA).resolve_left oM;have⟨Ge,pc,⟨z,d0⟩,sg,c1,c2,c3,c4⟩:=Hv j Hf;have H9:=H3 j Hf;obtain⟨pb,po,rfl,Hn,Hy⟩:=sg.resolve_left oM;have Ht:aA (S.l.take j++[gL S.l j]=S.l.take (j+1)):=aC (by
    rw[Vc];congr 1;simp[gL,UL,Hf])
   have B:aA (∀w1 p V,Bl wr w1->wr.1.size<=p->p<w1.1.size->Wr w1 p 9 (gL S.l j).p.length (λt=>Um (gS (gL S.l j).p t))->((gL S.l j).p.length<=V/\V<=9223372036854775807)->w1.ownsRow wr.1.size 9 1 (Uf (Uc p) (gL S.l j).p.length V) (gL S.l j).p.length (dJ (gL S.l j).p)->∃q' Hc w3,(Builtin.append_ #[23,23] 23 #[Uf (Uc q) j cap,Uf (Uc w1.1.size) 1 1]).run prog (w1.alloc (Uj #[Uf (Uc p) (gL S.l j).p.length V,Un (gL S.l j).fl,Ud (gL S.l j).r,Ud (gL S.l j).q,Um (gL S.l j).v] 101))=.ok (Uf (Uc q') (j+1) Hc) w3/\
    Bl w w3/\aD w3 w.1.size (Uf (Uq (Ua u M)) S.l.length c) (Uf x S.n d)/\aD w3 (w.1.size+1+1+1+1) (Uf (Uc q) j cap) (Uf (Uq (Ua (w.1.size+1+1+1) 0)) 0 0)/\
    ∃q cap P Q,lE w (w3.setCell (Ua (w.1.size+1+1+1+1) 0) (Uf (Uc q') (j+1) Hc)) (Uf (Uq (Ua u M)) S.l.length c) (Uf x S.n d) q cap (S.l.take (j+1)) P Q):=aC (λw1 p V hb h1 h2 h3 h4 D=>by
    have:=s.step hb (by rw[Hk.out];omega) (gL S.l j) p V h1 h2 h3 h4 D;rw[Hk.out,Ht.out]at this;exact this)
   have X:aA (∀w1,Bl wr w1->Cl 72 #[Uo #[Uf (Uq (Ua pb po)) (gL S.l j).p.length pc,Un (gL S.l j).fl,Ud (gL S.l j).r,Ud (gL S.l j).q,Um (gL S.l j).v]] w1 λe w'=>∃q cap,e=Ui (Uo #[Uf (Uc q) (gL S.l j).p.length cap,Un (gL S.l j).fl,Ud (gL S.l j).r,Ud (gL S.l j).q,Um (gL S.l j).v])/\Bl w1 w'/\w1.1.size<=q/\q<w'.1.size/\Wr w' q 9 (gL S.l j).p.length (λt=>Um (gS (gL S.l j).p t))/\(gL S.l j).p.length<=cap/\cap<=9223372036854775807/\w'.ownsRow w1.1.size 9 1 (Uf (Uc q) (gL S.l j).p.length cap) (gL S.l j).p.length (dJ (gL S.l j).p)):=aC (λw1 hb=>by
    have b2:=aE s.low hb;exact Mf pb po (gL S.l j).p.length pc (gL S.l j) w1 rfl (H2 j) (Ut Hn b2.size) (λt ht=>(b2.cell (p:=(Ua pb (po+t))) Hn).trans (Hy t ht)))
   have N:aA (∀w',Bl w w'->w'.cell? (Ua u (M+j*5))=Uq (Uf (Uq (Ua pb po)) (gL S.l j).p.length pc)/\w'.cell? (Ua u (M+j*5+1))=Uq (Un (gL S.l j).fl)/\w'.cell? (Ua u (M+j*5+2))=Uq (Ud (gL S.l j).r)/\w'.cell? (Ua u (M+j*5+3))=Uq (Ud (gL S.l j).q)/\w'.cell? (Ua u (M+j*5+4))=Uq (Um (gL S.l j).v)):=aC<|λw' b=>⟨(b.cell (p:=(Ua u _)) He).trans z,(b.cell (p:=(Ua u _)) He).trans c1,(b.cell (p:=(Ua u _)) He).trans c2,(b.cell (p:=(Ua u _)) He).trans c3,(b.cell (p:=(Ua u _)) He).trans c4⟩;have⟨z,c1,c2,c3,c4⟩:=N wr s.low;generalize hy:gL S.l j=y;rw[hy]at z c1 c2 c3 c4 X B N;have⟨yp,yf,yr,yq,yv⟩:=y;dsimp only at z c1 c2 c3 c4 X B N;have⟨np,Hw⟩:=zE yp.length;rw[Hw]at z X B N;clear hy Hw Hv sg Hy Hn He d0 H9 Ht;go_wp2_with fail;have A:aA (∀w',Bl w w'->w'.cell? (Ub w.1.size)=Uq (Uf (Uq (Ua u M)) S.l.length c)->(Bl w w'/\w'.cell? (Ub w.1.size)=Uq (Uf (Uq (Ua u M)) S.l.length c)/\w'.cell? (Ua u (M+j*5))=Uq (Uf (Uq (Ua pb po)) np pc)/\w'.cell? (Ua u (M+j*5+1))=Uq (Un yf)/\w'.cell? (Ua u (M+j*5+2))=Uq (Ud yr)/\w'.cell? (Ua u (M+j*5+3))=Uq (Ud yq)/\w'.cell? (Ua u (M+j*5+4))=Uq (Um yv))):=aC<|λw' hB h0=>⟨hB,h0,N w' hB⟩;refine zB A s.low.drew (s.ab.bw zI.drew s.ab.lt).c0<|λqh=>?_;clear z c1 c2 c3 c4;refine tZ 0 16 ?_;refine tY 2 18 ?_;refine tY 4 20 ?_;refine tZ 6 22 ?_;refine fU (i:=1) (j:=7) (d:=Uq 17) (d':=Uq 23) oK oK oK ?_ ?_;all_goals intro o G Hm K m;simp only[eB,dZ,dY,eU]at G;subst G
   focus
    go_simp;refine bZ m (A _ s.low.drew (s.ab.bw zI.drew s.ab.lt).c0)<|λqh=>?_;clear m K;refine cZ 7 ?_;intro K m
   all_goals go_simp;refine(X _ zI.drew).mono ?_;rintro e w1⟨p,V,rfl,E,p1,W,Hh,q1,H,Hg⟩;have C:Bl wr w1:=⟨E.os,E.tape,E.output,E.size,E.block⟩;have O:=s.bw C;have U:=O.bw<|zO w1 (Uj #[Uf (Uc p) np V,Un yf,Ud yr,Ud yq,Um yv] 101);have⟨q',Hc,w3,J,l3,A3,I,D⟩:=B w1 p V C p1 W Hh ⟨q1,H⟩ Hg;have Hd:=aC D;refine bZ m (A _ O.low O.ab.c0)<|λqh=>?_;clear m K
   .exact pK
   .refine fU (i:=1) (j:=8) (d:=Uq 17) (d':=Uq 24) oK oK oK ?_ ?_;have L:=O.ob.c0;all_goals intro o G Hm K m;simp only[eB,dZ,dY,eU]at G;subst G;go_simp
    .refine bZ m (A _ O.low O.ab.c0)<|λqh=>?_;clear m K;clear L;exact pK
    .refine bZ m (A _ U.low U.ab.c0)<|λqh=>?_;clear m K;have L:=U.ob.c0;refine cZ 1 ?_;intro K m;go_simp;refine bZ m (A _ U.low U.ab.c0)<|λqh=>?_;clear m K;clear L;exact xP
  .obtain rfl:j=S.l.length:=oM;have Hu:bI wr x S.n S.R S.F S.T:=H4.bw s.low;have Gb:=s.ob.lt;have⟨H,Hl,w5,J,Hx,Hb,Ho,Hz⟩:=OO (d:=d) s.rn oM H7 Hu;have O5:=s.ob.grw Hb oM;have R5:=s.rb.grw Hb oM;have⟨b0,E,bf⟩:=O5.p2;have⟨r0,r1,rf⟩:=R5.p2;rw[Hk.out]at b0;have Hj:aA (∀b,b<wr.1.size->b≠w.1.size+1+1+1->w5.1[b]? =wr.1[b]?):=aC (λb h1 h2=>Hb.block b h1 (λe=>h2 (by injection e)));have H1:=aC Hx;have H0:=aC Hb;have Hr:=aC<|And.intro Ho Hz;have H5:aA (wr.1.size<=w5.1.size):=aC Hb.size;clear Hx Hb Ho Hz O5 R5 Hu;go_wp2_with (at_builtin;refine cL rfl _ _ _ _ rfl J (by rfl) (by rfl) rfl ?_;clear J);have Gd:=H5.out;have Ho:=Hr.1;have Gc:=s.q1;have Ga:=(s.lc.lt q rfl).2;have Ha:∀(v0 v1 v2:aB) (b:Nat),b≠w.1.size+1->b≠w.1.size+1+1+1+1->(((w5.setCell (Ua (w.1.size+1+1+1+1) 1) v0).setCell (Ua (w.1.size+1) 0) v1).setCell (Ua (w.1.size+1) 1) v2).1[b]? =w5.1[b]? :=λv0 v1 v2 b h1 h2=>by
    rw[zH _ _ _ _ (oU h1),zH _ _ _ _ (oU h1),zH _ _ _ _ (oU h2)]
   have Hq:Bl w w5:=s.low.grown H0 s.low.size<|λk e=>oI e;have H8:S.l.take S.l.length=S.l:=oP;have Z:lE w wr (Uf a S.l.length c) (Uf x S.n d) q cap S.l P Q:=(by have:=s.out;rw[H8]at this;exact this);have Hi:∀i,i<S.l.length->w.1.size+5<=P i/\P i<wr.1.size:=λi hi=>⟨Z.pt i hi,(Z.lc.pt i hi).2.1⟩;refine zF (v:=Uo #[Uf (Uc q) S.l.length cap,Uf (Uc H) S.n Hl]) (by simp[results,results44,go_sem,r0,r1]) ⟨_,_,_,_,P,Q,rfl,?_,?_,Z.sep,?_,oM,λi hi=>oH (Hi i hi),λh0=>?_,?_⟩
   .refine⟨oF (dK Z.lc.row (λb hb=>?_)) oM,λi hi=>?_⟩
    .have e:q=b:=(by simpa[Value.ownBlock]using hb);exact(Ha _ _ _ b oM oM).trans (Hj b oM oM)
    .have⟨e1,e2,e3,e4,e5⟩:=Z.lc.pt i hi;have:=Hi i hi;exact⟨oM,by simp[Vr];omega,e3,e4.same ((Ha _ _ _ _ oM oM).trans (Hj _ oM oM)),e5⟩
   .intro i hi;refine oF (dK (Z.ow i hi) (λb hb=>?_)) oM;have e:P i=b:=(by simpa[Value.ownBlock]using hb);have:=Hi i hi;exact(Ha _ _ _ b oM oM).trans (Hj b oM oM)
   .refine oF (dK H1 (λb hb=>?_)) oM;have e:H=b:=(by simpa[Value.ownBlock]using hb);exact Ha _ _ _ b oM oM
   .have:=Hr.2 h0;exact⟨oM,λi hi=>oH (Hi i hi)⟩
   .exact((Hq.setCell oS _).setCell oP _).setCell oP _
theorem CL{G T:Prop}(h:aA T->G)(k:T):G:=h k
theorem xQ{Q:Prop}(h:Q:=by
 rw[H9.out]at Hf;refine cZ 9 ?_;intro K r;refine oX _ _ _ _ rfl Hf (by rfl) (by rfl) rfl ?_;refine r.out _ _ (Hi _ l8 A8.c0)<|λqh=>?_;clear r K;try simp only[zP]
 refine tZ 10 66 ?_;have V:=Z.c0;have tf:=Z.f;rw[H9.out]at V;refine cZ 11 ?_;intro K r;go_simp;have h9:=Gl.out;rw[H9.out]at h9;refine r.out _ _ (Hi _ h9.low h9.a.c0)<|λqh=>?_;clear r K;try simp only[zP]
 refine zD ?_;have Gh:=aC h9;rw[H6.out,H7.out]at Gh;clear qh b7 M L1 L2 Hf l8 A8 Z h8 h9 V tf Hk G3 G7 G8 Kj Kd Hi Gl U Hx;go_wp2_with fail;go_roundw;case rel=>exact⟨j+1,q8,Gc,P8,Q8,Gj,Hr,oN,Gh⟩
 case measure=>exact oE):Q:=h
theorem xF{Q:Prop}(h:Q:=by
 have H0:=aC<|Ga s q7 Hh M Hc Hd Hk Ha;clear Hk Ha Hc Hd;refine cZ 7 ?_;intro K r;go_simp;refine H0.mono ?_;rintro e w8⟨⟨g8,c8,P8,Q8,rfl,G4,l8⟩,b8⟩;have Hj:=aE M b8;have Hp:=aC<|L.setN0 Hj l8 Kh (oH M.size) (λi hi=>((Hm S.l.length (k+1)).2 i hi).1);have Z:=L.n.bw Hj L.n.lt;refine r.out _ _ (Hb _ (aE L.low Hj))<|λqh=>?_;clear r K;try simp only[zP]
 refine tZ 8 121 ?_;have o0:=Z.c0;have of:=Z.f 0;rw[Hq]at o0;clear Z;refine cZ 9 ?_;intro K r;go_simp;clear qh;refine r.out _ _ (Hb _ Hp.low)<|λqh=>?_;clear r K;try simp only[zP]
 refine zD ?_;clear qh b7 M b8 Hj l8 G4 o0 of H0 Ga H8 Hb;go_wp2_with fail;go_roundw;case rel=>exact⟨k+1,g3,c3,g8,c8,P3,Q3,P8,Q8,_,_,Hl,oN,Hp⟩
 case measure=>exact oE):Q:=h
theorem xD{Q:Prop}(h:Q:=by
 obtain⟨r0,r1,rf⟩:=Hn.p2;have Jd:=aC<|Hn.set Ue Ue;have Q3:=(Hv.setAt (Ua (w.1.size+1) 0) Ue oQ).setAt (Ua (w.1.size+1) 1) Ue oQ;obtain⟨q0,q1,qf⟩:=Q3.p2;have Jl:=aC<|Q3.set Ue Ue;have Je:=aC<|(Jd.setAt (Ua (w.1.size+1+1) 0) Ue oQ).setAt (Ua (w.1.size+1+1) 1) Ue oQ;clear Q3;go_wp2_with fail;obtain⟨s0,s1⟩:=Je.q2;obtain⟨s2,s3⟩:=Jl.q2;refine zF (v:=Ul #[Uo #[Ue,Ue],Uo #[Ue,Ue],Ud 4]) (by simp[results,results76,go_sem,s0,s1,s2,s3]) ⟨Up,0,Up,0,Up,0,Up,0,by rw[HZ.1,HZ.2.1,HZ.2.2];rfl,?_,?_,?_⟩
 .rw[HZ.1];exact aT.mt _ _ _ _
 .rw[HZ.2.1];exact aT.mt _ _ _ _
 .exact(((Kv.setCell oP _).setCell oP _).setCell oS _).setCell oS _):Q:=h
theorem pL{Q:Prop}(h:Q:=by
 refine cZ 8 ?_;intro K r;go_simp;refine r.out _ _ (Hi _ L2.low L2.a.c0)<|λqh=>?_;clear r K;try simp only[zP]
 exact xQ):Q:=h
theorem N9(gn:Lf->Prop)(P:List Lf)(a:Option Us)(c:Nat)(xa:Option Us)(d gg gc:Nat)(pa:Option Us)(ppc:Nat)(S:Sx)(w:Ur)(hs:bG S.R S.F S.T S.n S.l)(hP:dN S P)(h1:dH w a S.l)(h3:bI w xa S.n S.R S.F S.T)(hgg:gg<w.1.size)(hgo:∀i,i<S.l.length->w.cell? (Ua gg i)=Uq (Un (yes (gn (gL S.l i)))))(h2:dH w pa P):
  Cl 76 #[Uo #[Uf a S.l.length c,Uf xa S.n d],Uf (Uc gg) S.l.length gc,Uf pa P.length ppc] w λe w'=>∃a m x t a' m' x' t',e=Ui (Ul #[Uo #[Uf a (eI S (aQ gn S.l P)).l.length m,Uf x (eI S (aQ gn S.l P)).n t],Uo #[Uf a' (eC S (aQ gn S.l P)).l.length m',Uf x' (eC S (aQ gn S.l P)).n t'],Ud (fP S (aQ gn S.l P))])/\aT w' w.1.size a m x (eI S (aQ gn S.l P))/\aT w' w.1.size a' m' x' (eC S (aQ gn S.l P))/\Bl w w':=by
 have⟨z,Gu⟩:=zE (((w.alloc (Uj #[Uf a S.l.length c,Uf xa S.n d] 28)).alloc (Uj #[Ue,Ue] 28)).alloc (Uj #[Ue,Ue] 28));have⟨W,hW⟩:=zE ((((z.alloc (Uj #[] 101)).alloc (Uj #[] 103)).alloc (Uj #[Uf (Uc z.1.size) 0 0,Uf (Uq (Ua (z.1.size+1) 0)) 0 0] 28)).alloc (Uj #[] 101));have zA:z.1.size=w.1.size+1+1+1:=Gu▸oP;have bA:Bl w z:=Gu▸(aU _ _ _).alloc oS _;have al:∀(v:Ur) (o:Obj),Bl v (v.alloc o):=λv o=>zO _ _;have Kk:Bl z W:=by rw[<-hW];exact(aE (aE (aE (al _ _) (al _ _)) (al _ _)) (al _ _))
 have b0:Bl w W:=aE bA Kk;have zW:W.1.size=w.1.size+7:=by rw[<-hW];simp;omega
 have A0:aD W w.1.size (Uf a S.l.length c) (Uf xa S.n d):=by
  have:aD z w.1.size (Uf a S.l.length c) (Uf xa S.n d):=Gu▸((aD.made w _ _ _).allocs _).allocs _;exact this.bw Kk this.lt
 have J2:aD W (w.1.size+1) Ue Ue:=by
  have:aD z (w.1.size+1) Ue Ue:=by
   rw[<-Gu];have:=aD.made (w.alloc (Uj #[Uf a S.l.length c,Uf xa S.n d] 28)) Ue Ue 28;exact(by simpa using this:aD _ (w.1.size+1) _ _).allocs _
  exact this.bw Kk this.lt
 have J3:aD W (w.1.size+1+1) Ue Ue:=by
  have:aD z (w.1.size+1+1) Ue Ue:=by
   rw[<-Gu];simpa using aD.made ((w.alloc (Uj #[Uf a S.l.length c,Uf xa S.n d] 28)).alloc (Uj #[Ue,Ue] 28)) Ue Ue 28
  exact this.bw Kk this.lt
 have J0:LC W (w.1.size+3) (Uf (Uc z.1.size) 0 0) [] (λ_=>0) (λ_=>0):=by
  refine⟨?_,λi hi=>by simp at hi⟩;have q:=Vo (base:=w.1.size+3) (e:=101) (size:=5) z #[] 0 oM oL rfl;have q3:=((World.ownsRow.alloc q (Uj #[] 103)).alloc (Uj #[Uf (Uc z.1.size) 0 0,Uf (Uq (Ua (z.1.size+1) 0)) 0 0] 28)).alloc<|Uj #[] 101;rw[hW]at q3;exact q3
 have Js:FR W (w.1.size+3) (Uf (Uq (Ua (z.1.size+1) 0)) 0 0) []:=by
  have q:=Vo (base:=w.1.size+3) (e:=103) (size:=3) (z.alloc (Uj #[] 101)) #[] 0 oS oL rfl;have zz:(z.alloc (Uj #[] 101)).1.size=z.1.size+1:=oP;rw[zz]at q;have q3:=(World.ownsRow.alloc q (Uj #[Uf (Uc z.1.size) 0 0,Uf (Uq (Ua (z.1.size+1) 0)) 0 0] 28)).alloc<|Uj #[] 101;rw[hW]at q3;exact q3
 have D0:aD W (z.1.size+1+1) (Uf (Uc z.1.size) 0 0) (Uf (Uq (Ua (z.1.size+1) 0)) 0 0):=by
  have q:=aD.made ((z.alloc (Uj #[] 101)).alloc (Uj #[] 103)) (Uf (Uc z.1.size) 0 0) (Uf (Uq (Ua (z.1.size+1) 0)) 0 0) 28;have zz:((z.alloc (Uj #[] 101)).alloc (Uj #[] 103)).1.size=z.1.size+1+1:=oP;rw[zz]at q;have q3:=q.allocs<|Uj #[] 101;rw[hW]at q3;exact q3
 have J1:LC W (w.1.size+3) (Uf (Uq (Ua (z.1.size+1+1+1) 0)) 0 0) [] (λ_=>0) (λ_=>0):=by
  refine⟨?_,λi hi=>by simp at hi⟩;have q:=Vo (base:=w.1.size+3) (e:=101) (size:=5) (((z.alloc (Uj #[] 101)).alloc (Uj #[] 103)).alloc (Uj #[Uf (Uc z.1.size) 0 0,Uf (Uq (Ua (z.1.size+1) 0)) 0 0] 28)) #[] 0 oS oL rfl;have zz:(((z.alloc (Uj #[] 101)).alloc (Uj #[] 103)).alloc (Uj #[Uf (Uc z.1.size) 0 0,Uf (Uq (Ua (z.1.size+1) 0)) 0 0] 28)).1.size=z.1.size+1+1+1:=oP;rw[zz,hW]at q;exact q
 have Km:=dL.1 hs.1;have HU:=aC<|AC xa S.n d S.R S.F S.T (Uq (Ua (z.1.size+1) 0)) 0 0 (λ_=>0) (λ_=>0) (λ_=>0) W Km.2 oM (h3.bw b0) (.inl rfl) Km.1 (λi hi=>absurd hi oM);have Jy:aA (kM S.R S.F S.T S.n (λ_=>0) (λ_=>0) (λ_=>0) 0=gT S P 0):=aC (by unfold kM gT;simp[flat]);rw[Jy.out]at HU;have Lg:aA (z.1.size=w.1.size+3):=aC oM;have H1:=aC h1;have H2:=aC h2;have K6:=aC hs;have Jk:=aC hP;have Le:aA (∀wr,Bl w wr->∀i,i<S.l.length->wr.cell? (Ua gg i)=Uq (Un (yes (gn (gL S.l i))))):=aC<|λwr b i hi=>(b.cell (p:=(Ua gg i)) hgg).trans (hgo i hi);have Ke:aA (S.l.length<=1000/\S.n<=1000/\P.length<=1):=aC ⟨hs.2.1,Km.2,hP.one⟩;have Jb:=aC A0;have Gr:=aC J2;have Gs:=aC J3;have Jf:=aC D0;have Kc:=aC J0;have Kb:=aC Js;have Kf:=aC J1;have Jt:=aC b0;have Jz:=aC zW;have⟨X,hX⟩:=zE (eI S (aQ gn S.l P));have⟨Y,hY⟩:=zE (eC S (aQ gn S.l P));have⟨CC,hC⟩:=zE (fP S (aQ gn S.l P));have Hg:=aC<|And.intro hX (And.intro hY hC);rw[hX,hY,hC];have k1:=A0.c1;have k2:=D0.c1;have Ht:aA (∀j k,dI (eD gn S.l P j k)/\(eD gn S.l P j k).length<=1001):=aC (λj k=>⟨IB hs hP j k,by have:=OF (g:=gn) (l:=S.l) (P:=P) (j:=j) (k:=k);have:=hs.2.1;have:=hP.one;omega⟩);have Gk:aA (∀k,dI (gT S P k)/\(gT S P k).length<=1001):=aC (λk=>⟨GV hs hP k,by have:=NZ (P:=P) (k:=k) (S:=S);have:=Km.2;have:=hP.one;omega⟩);have Hm:aA (∀j k,(cS gn S.l P j k).length<=1001/\∀i,i<(cS gn S.l P j k).length->1<=(gL (cS gn S.l P j k) i).p.length/\(gL (cS gn S.l P j k) i).p.length<=8):=aC (λj k=>⟨by have:=OD (g:=gn) (l:=S.l) (P:=P) (j:=j) (k:=k);have:=hs.2.1;have:=hP.one;omega,OB hs hP j k⟩);have H5:aA (∀k,(fJ P k).length<=1/\∀i,i<(fJ P k).length->1<=(gL (fJ P k) i).p.length/\(gL (fJ P k) i).p.length<=8):=aC (λk=>⟨by have:=OJ (P:=P) (k:=k);have:=hP.one;omega,OH hP k⟩);clear A0 J2 J3 D0 J0 Js J1 b0 bA Kk al zA zW h1 h2 h3 hs hP hgo hgg Km hX hY hC Jy;go_enter func76,ntmps76;go_wp2_with fail;try rw[Gu]
 try rw[hW]
 clear hW Gu;refine HU.mono ?_;rintro e w1⟨vr,rfl,f1,b1⟩;have⟨ra,rc,Lt,_⟩:=f1.fs;subst Lt;have⟨nu,J8⟩:=zE ((gT S P 0).length);rw[J8]at f1⊢;clear J8;have⟨w2,K8⟩:=zE (w1.alloc (Uj #[Uf (Uq (Ua (z.1.size+1+1+1) 0)) 0 0,Uf ra nu rc] 28));have b2:Bl w1 w2:=K8▸zO _ _;have Gb:=aE b1 b2;have Hu:aA (CS w w2 (z.1.size+1+1) w1.1.size (Uf a S.l.length c) (Uf xa S.n d) z.1.size 0 [] (λ_=>0) (λ_=>0) (Uf (Uq (Ua (z.1.size+1) 0)) 0 0) (eD gn S.l P 0 0) (z.1.size+1+1+1) 0 (cS gn S.l P 0 0) (λ_=>0) (λ_=>0) (Uf ra nu rc) (gT S P 0)):=aC (by
  have hz:=Jz.out;have L0:=b1.size;have Lw:=Lg.out;have e1:eD gn S.l P 0 0=[]:=by unfold eD iI;simp[fC]
  have e2:cS gn S.l P 0 0=[]:=by unfold cS kO;simp
  rw[e1,e2];refine⟨aE Jt Gb,Jb.bw Gb Jb.lt,Gr.bw Gb Gr.lt,Gs.bw Gb Gs.lt,Jf.bw Gb Jf.lt,?_,Kc.bw Gb,Kf.bw Gb,Kb.bw Gb,(f1.bw b2).weak oM,oM,oM,oM,⟨oM,oM,oM⟩,⟨oM,oM⟩,λb e=>?_,λb e=>?_,λi hi=>by simp at hi,λi hi=>by simp at hi⟩
  .rw[<-K8];exact aD.made _ _ _ _
  .have e:z.1.size+1=b:=(by simpa[Value.ownBlock]using e);exact⟨oM,oM,oM⟩
  .have:=World.ownsRow.lt f1 b e;exact⟨oM,oM,oM⟩)
 clear f1 b1 b2 Gb k1 k2 HU Jb Gr Gs Jf Kc Kb Kf Jt Jz;go_wp2_with fail;try rw[K8]
 clear K8;have⟨t2,J5⟩:=zE w1.1.size;rw[J5]at Hu⊢;clear J5;have⟨t1,J9⟩:=zE (z.1.size+1+1);rw[J9]at Hu⊢;clear J9;have⟨gD,J7⟩:=zE z.1.size;rw[J7]at Hu;clear J7;go_loopw [11] (λi wr=>∃(j B N:Nat) (NP NQ:Nat->Nat) (Gj:aB),j<=S.l.length/\i=Ud j/\aA (CS w wr t1 t2 (Uf a S.l.length c) (Uf xa S.n d) gD 0 [] (λ_=>0) (λ_=>0) Gj (eD gn S.l P j 0) B N (cS gn S.l P j 0) NP NQ (Uf ra nu rc) (gT S P 0))) (λi _=>S.l.length-(intOf i).toNat);case atStart=>exact⟨0,_,_,_,_,_,UB _,rfl,Hu⟩
 case round=>
  clear Hu;obtain⟨j,B,N,NP,NQ,Gj,hj,rfl,Q⟩:=hrel;have Lx:S.l.length<=1000:=Ke.1;have a0:=Q.a.c0;by_cases Hr:j<S.l.length
  .have i1:(0:Int)<=(j:Int):=VH _;have i2:(j:Int)<(S.l.length:Int):=oM;obtain⟨ab,ao,rfl,G2,Kl⟩:=(H1).resolve_left oM;have⟨Lu,pc,⟨A,d0⟩,sg,D,c2,c3,c4⟩:=Kl j Hr;have Gf:=sA K6 j Hr;obtain⟨pb,po,rfl,G1,Gd⟩:=sg.resolve_left oM;have Gg:aA (dG (cP (gL S.l j))):=aC<|sE (mD K6) (lZ K6 _ (bJ.2 ⟨j,Hr,rfl⟩));have K1:=aC<|λwr b=>Le.out wr b j Hr;have⟨y,hy⟩:=zE (gL S.l j);rw[hy]at A D c2 c3 c4 d0 Gd Gf Gg K1;have HY:=aC hy;have⟨u,G,O,E,H⟩:=y;dsimp only at A D c2 c3 c4 d0 Gd Gf Gg K1;have H4:aA (∀w',Bl w w'->(w'.cell? (Ua ab (ao+j*5))=Uq (Uf (Uq (Ua pb po)) u.length pc)/\w'.cell? (Ua ab (ao+j*5+1))=Uq (Un G)/\w'.cell? (Ua ab (ao+j*5+2))=Uq (Ud O)/\w'.cell? (Ua ab (ao+j*5+3))=Uq (Ud E)/\w'.cell? (Ua ab (ao+j*5+4))=Uq (Um H))):=aC<|λw' b=>⟨(b.cell (p:=(Ua ab _)) G2).trans A,(b.cell (p:=(Ua ab _)) G2).trans D,(b.cell (p:=(Ua ab _)) G2).trans c2,(b.cell (p:=(Ua ab _)) G2).trans c3,(b.cell (p:=(Ua ab _)) G2).trans c4⟩;have Ki:aA (∀w',Bl w w'->pb<w'.1.size/\∀t,t<u.length->w'.cell? (Ua pb (po+t))=Uq (Um (gS u t))):=aC<|λw' b=>⟨Ut G1 b.size,λt ht=>(b.cell (p:=(Ua pb (po+t))) G1).trans (Gd t ht)⟩;have Gt:=aC Gf;have⟨w5,Ge⟩:=zE (wr.alloc (Uj #[Ud O,Ud E] 99));have b5:Bl wr w5:=Ge▸zO _ _;have X5:aD w5 wr.1.size (Ud O) (Ud E):=Ge▸aD.made _ _ _ _;have U:=aC<|Q.bw b5;have m2:=(H4 wr Q.low).2.2.1;have m3:=(H4 wr Q.low).2.2.2.1;have m5:=K1 w5 U.low;have⟨x0,x1⟩:=X5.q2;clear hy Kl sg Gd G1 G2 b5 X5 d0 Gf Q K1 A D c2 c3 c4;cases hgj:yes (gn ⟨u,G,O,E,H⟩)with
   |true=>
    rw[hgj]at m5;have Gw:gn (gL S.l j):=(by rw[HY.out];exact sM.1 hgj);have H6:aA (fM (eD gn S.l P j 0) (O,E,E)=eD gn S.l P (j+1) 0):=aC (by rw[IC Hr Gw,HY.out];rfl);have H7:aA (cS gn S.l P j 0=cS gn S.l P (j+1) 0):=aC (GY Hr Gw).symm;have⟨fx,fc,Kt,J6,_,_⟩:=U.fd.fs;subst Kt;have Jh:=aC<|Cp fx fc (eD gn S.l P j 0) O E E w5 (oH ((Ht j 0).2)) J6 (Ht j 0).1 Gg;have d1:=U.d.c1;have⟨ln,Hx⟩:=zE ((eD gn S.l P j 0).length);rw[Hx]at Jh d1;clear J6 Gw hgj;go_wp2_with fail;refine Jh.mono ?_;rintro e w6⟨v6,rfl,Gv,b6⟩;obtain⟨vy,vm,vc,rfl⟩:=jY Gv;have D6:=U.d.bw b6 U.d.lt;have o1:=D6.c1;have of:=D6.f;rw[Hx]at o1;have Hw:=aC<|U.setD1 b6 Gv;rw[H6.out,H7.out]at Hw;clear Gv b6 D6 Jh x0 x1 m2 m3 m5 d1 a0 Ge Hx U;go_wp2_with fail;go_roundw;case rel=>exact⟨j+1,B,N,NP,NQ,_,Hr,oN,Hw⟩
    case measure=>exact oE
   |false=>
    rw[hgj]at m5;have Gw:¬gn (gL S.l j):=(by rw[HY.out];intro h;rw[aN h]at hgj;cases hgj);have H6:aA (eD gn S.l P j 0=eD gn S.l P (j+1) 0):=aC (IA Hr Gw).symm;have H7:aA (cS gn S.l P j 0++[⟨u,G,O,E,H⟩]=cS gn S.l P (j+1) 0):=aC (by rw[GW Hr Gw,HY.out]);have Hi:aA (∀w',Bl w w'->w'.cell? (Ub w.1.size)=Uq (Uf (Uq (Ua ab ao)) S.l.length c)->(Bl w w'/\w'.cell? (Ub w.1.size)=Uq (Uf (Uq (Ua ab ao)) S.l.length c)/\w'.cell? (Ua ab (ao+j*5))=Uq (Uf (Uq (Ua pb po)) u.length pc)/\w'.cell? (Ua ab (ao+j*5+1))=Uq (Un G)/\w'.cell? (Ua ab (ao+j*5+2))=Uq (Ud O)/\w'.cell? (Ua ab (ao+j*5+3))=Uq (Ud E)/\w'.cell? (Ua ab (ao+j*5+4))=Uq (Um H))):=aC (λw' hB h0=>⟨hB,h0,H4 w' hB⟩);have Kd:aA (∀w',Bl w5 w'->Cl 72 #[Uo #[Uf (Uq (Ua pb po)) u.length pc,Un G,Ud O,Ud E,Um H]] w' λe w''=>∃q cap,e=Ui (Uo #[Uf (Uc q) u.length cap,Un G,Ud O,Ud E,Um H])/\Bl w' w''/\w'.1.size<=q/\q<w''.1.size/\Wr w'' q 9 u.length (λt=>Um (gS u t))/\u.length<=cap/\cap<=9223372036854775807):=aC (λw' b=>by
     have hq:=Ki w' (aE U.low b);exact yV pb po u.length pc ⟨u,G,O,E,H⟩ w' rfl (oH Gt.2) hq.1 hq.2)
    have Kj:aA (∀s p pc',Bl w5 s->w5.1.size<=p->p<s.1.size->Wr s p 9 u.length (λt=>Um (gS u t))->u.length<=pc'/\pc'<=9223372036854775807->_):=aC<|λs p pc' b7 p1 p2 hw hcap=>U.appN (y:=⟨u,G,O,E,H⟩) (p:=p) (pc:=pc') b7 (oH ((Hm j 0).1)) Gt.1 (λi hi=>((Hm j 0).2 i hi).1) p1 p2 hw hcap;have⟨ln,Hx⟩:=zE ((cS gn S.l P j 0).length);have H9:=aC Hx;clear Gw hgj H4 Ki;go_wp2_with fail;try rw[Ge]
    clear Ge x0 x1 m2 m3 m5 a0;refine zB Hi U.low.drew (U.a.bw zI.drew U.a.lt).c0<|λqh=>?_;refine tZ 0 56 ?_;refine tY 2 58 ?_;refine tY 4 60 ?_;refine tZ 6 62 ?_;refine fU (i:=1) (j:=7) (d:=Uq 57) (d':=Uq 63) oK oK oK ?_ ?_;have V:=(U.n.bw zI.drew U.n.lt).c0;rw[Hx]at V;all_goals intro o J G0 K r;simp only[eB,dZ,dY,eU]at J;subst J
    focus
     go_simp;refine r.out _ _ (Hi _ U.low.drew (U.a.bw zI.drew U.a.lt).c0)<|λqh=>?_;clear r K;try simp only[zP]
     clear V;refine cZ 7 ?_;intro K r
    all_goals go_simp;refine(Kd _ zI.drew).mono ?_;rintro e s⟨p7,Ku,rfl,b7,G7,G8,Hk,G3⟩;have M:Bl w5 s:=⟨b7.os,b7.tape,b7.output,b7.size,b7.block⟩;have L1:=U.bw M;have L2:=L1.bw<|zO s (Uj #[Uf (Uc p7) u.length Ku,Un G,Ud O,Ud E,Um H] 101);have⟨q8,Gc,w8,Hf,l8,A8,Z,P8,Q8,h8⟩:=Kj s p7 Ku M G7 G8 Hk G3;have Gl:=aC h8;refine r.out _ _ (Hi _ L1.low L1.a.c0)<|λqh=>?_;clear r K;try simp only[zP]
    .exact pL
    .refine fU (i:=1) (j:=8) (d:=Uq 57) (d':=Uq 64) oK oK oK ?_ ?_;have V:=L1.n.c0;rw[Hx]at V;all_goals intro o J G0 K r;simp only[eB,dZ,dY,eU]at J;subst J;go_simp
     .refine r.out _ _ (Hi _ L1.low L1.a.c0)<|λqh=>?_;clear r K;try simp only[zP]
      clear V;exact pL
     .refine r.out _ _ (Hi _ L2.low L2.a.c0)<|λqh=>?_;clear r K;try simp only[zP]
      have V:=L2.n.c0;rw[Hx]at V;refine cZ 1 ?_;intro K r;go_simp;refine r.out _ _ (Hi _ L2.low L2.a.c0)<|λqh=>?_;clear r K;try simp only[zP]
      clear V;exact xQ
  .obtain rfl:j=S.l.length:=oM;go_wp2_with fail;go_loopw [13] (λi wr=>∃(k gD cD B N:Nat) (DP DQ NP NQ:Nat->Nat) (Gj Lc:aB),k<=P.length/\i=Ud k/\aA (CS w wr t1 t2 (Uf a S.l.length c) (Uf xa S.n d) gD cD (fJ P k) DP DQ Gj (eD gn S.l P S.l.length k) B N (cS gn S.l P S.l.length k) NP NQ Lc (gT S P k))) (λi _=>P.length-(intOf i).toNat);case atStart=>exact⟨0,_,_,_,_,_,_,_,_,_,_,UB _,rfl,Q⟩
   case round=>
    clear Q a0;obtain⟨k,gD,cD,B,N,DP,DQ,NP,NQ,Gj,Lc,hk,rfl,Q⟩:=hrel;have Ly:P.length<=1:=Ke.2.2;by_cases Hl:k<P.length
    .skip;have i1:(0:Int)<=(k:Int):=VH _;have i2:(k:Int)<(P.length:Int):=oM;obtain⟨C,qo,rfl,G5,Kl⟩:=(H2).resolve_left oM;have⟨Lu,pc,⟨A,d0⟩,sg,D,c2,c3,c4⟩:=Kl k Hl;have Gz:gL P k∈P:=bJ.2 ⟨k,Hl,rfl⟩;have Gf:=Jk.pm _ Gz;obtain⟨pb,po,rfl,G1,Gd⟩:=sg.resolve_left oM;have Gg:aA (dG (cP (gL P k))):=aC (Jk.dot _ Gz);have H6:aA (fM (eD gn S.l P S.l.length k) (cP (gL P k))=eD gn S.l P S.l.length (k+1)):=aC (OE Hl).symm;have H7:aA (fM (gT S P k) (cP (gL P k))=gT S P (k+1)):=aC (NX Hl).symm;have Kz:aA (dS (gL P k) (fJ P k)=fJ P (k+1)):=aC (OG Hl).symm;have K0:aA (dS (gL P k) (cS gn S.l P S.l.length k)=cS gn S.l P S.l.length (k+1)):=aC (OA Hl).symm;have⟨y,hy⟩:=zE (gL P k);rw[hy]at A D c2 c3 c4 d0 Gd Gf Gg H6 H7 Kz K0;have⟨u,G,O,E,H⟩:=y;dsimp only[cP]at A D c2 c3 c4 d0 Gd Gf Gg H6 H7 Kz K0;have H4:aA (∀w',Bl w w'->(w'.cell? (Ua C (qo+k*5))=Uq (Uf (Uq (Ua pb po)) u.length pc)/\w'.cell? (Ua C (qo+k*5+1))=Uq (Un G)/\w'.cell? (Ua C (qo+k*5+2))=Uq (Ud O)/\w'.cell? (Ua C (qo+k*5+3))=Uq (Ud E)/\w'.cell? (Ua C (qo+k*5+4))=Uq (Um H))):=aC (λw' b=>⟨(b.cell (p:=(Ua C _)) G5).trans A,(b.cell (p:=(Ua C _)) G5).trans D,(b.cell (p:=(Ua C _)) G5).trans c2,(b.cell (p:=(Ua C _)) G5).trans c3,(b.cell (p:=(Ua C _)) G5).trans c4⟩);have Ki:aA (∀w',Bl w w'->pb<w'.1.size/\∀t,t<u.length->w'.cell? (Ua pb (po+t))=Uq (Um (gS u t))):=aC (λw' b=>⟨Ut G1 b.size,λt ht=>(b.cell (p:=(Ua pb (po+t))) G1).trans (Gd t ht)⟩);have Gt:=aC Gf;have⟨w5,Ge⟩:=zE (wr.alloc (Uj #[Ud O,Ud E] 99));have b5:Bl wr w5:=Ge▸zO _ _;have X5:aD w5 wr.1.size (Ud O) (Ud E):=Ge▸aD.made _ _ _ _;have U:=aC (Q.bw b5);have Jm:=aC X5;have Li:aA (t1≠wr.1.size/\t2≠wr.1.size):=aC ⟨oH Q.d.lt,by have:=Q.n.lt;omega⟩;have m2:=(H4 wr Q.low).2.2.1;have m3:=(H4 wr Q.low).2.2.2.1;have⟨x0,x1⟩:=X5.q2;clear hy Kl sg Gd G1 G5 b5 X5 d0 Gf Q A D c2 c3 c4 Gz;have⟨Lp,Ln,Kt,Kp,_,_⟩:=U.fd.fs;subst Kt;have Gm:=aC (Cp Lp Ln (eD gn S.l P S.l.length k) O E E w5 (oH ((Ht S.l.length k).2)) Kp (Ht S.l.length k).1 Gg);have d1:=U.d.c1;have⟨L3,Gx⟩:=zE (((eD gn S.l P S.l.length k)).length);rw[Gx]at Gm d1;clear Kp;go_wp2_with fail;refine Gm.mono ?_;rintro e w6⟨v6,rfl,Gv,b6⟩;obtain⟨vy,vm,vc,rfl⟩:=jY Gv;have D6:=U.d.bw b6 U.d.lt;have o1:=D6.c1;have of:=D6.f;rw[Gx]at o1;have Hw:=aC (U.setD1 b6 Gv);rw[H6.out]at Hw;have X6:=(Jm.bw b6 Jm.lt).setAt (Ua t1 1) (Uf vy vm vc) Li.1;have⟨wb,La⟩:=zE (w6.setCell (Ua t1 1) (Uf vy vm vc));rw[La]at Hw X6;clear x0 x1 m2 m3 d1 Ge Gv b6 D6 Gm Gx U Jm;have⟨x0,x1⟩:=X6.q2;clear X6;have⟨Lq,Lo,Jq,Kq,_,_⟩:=Hw.fn.fs;subst Jq;have Gn:=aC (Cp Lq Lo (gT S P k) O E E wb (oH ((Gk k).2)) Kq (Gk k).1 Gg);have d2:=Hw.n.c1;have⟨L4,Gy⟩:=zE (((gT S P k)).length);rw[Gy]at Gn d2;clear Kq;go_wp2_with fail;clear o1 of;refine Gn.mono ?_;rintro e Lv⟨v7,rfl,Jo,b7⟩;obtain⟨uy,um,uc,rfl⟩:=jY Jo;have D7:=Hw.n.bw b7 Hw.n.lt;have o1:=D7.c1;have of:=D7.f;rw[Gy]at o1;have I:=aC (Hw.setN1 b7 Jo);rw[H7.out]at I;have⟨wc,Jr⟩:=zE (Lv.setCell (Ua t2 1) (Uf uy um uc));rw[Jr]at I;clear La x0 x1 d2 Jo b7 D7 Gn Gy Hw;have He:aA (∀w',Bl w w'->(Bl w w'/\w'.cell? (Ua C (qo+k*5))=Uq (Uf (Uq (Ua pb po)) u.length pc)/\w'.cell? (Ua C (qo+k*5+1))=Uq (Un G)/\w'.cell? (Ua C (qo+k*5+2))=Uq (Ud O)/\w'.cell? (Ua C (qo+k*5+3))=Uq (Ud E)/\w'.cell? (Ua C (qo+k*5+4))=Uq (Um H))):=aC (λw' b=>⟨b,H4 w' b⟩);have Go:aA (∀w',Bl wc w'->Cl 72 #[Uo #[Uf (Uq (Ua pb po)) u.length pc,Un G,Ud O,Ud E,Um H]] w' λe w''=>∃q cap,e=Ui (Uo #[Uf (Uc q) u.length cap,Un G,Ud O,Ud E,Um H])/\Bl w' w''/\w'.1.size<=q/\q<w''.1.size/\Wr w'' q 9 u.length (λt=>Um (gS u t))/\u.length<=cap/\cap<=9223372036854775807):=aC (λw' b=>by
      have hq:=Ki w' (aE I.low b);exact yV pb po u.length pc ⟨u,G,O,E,H⟩ w' rfl (oH Gt.2) hq.1 hq.2)
     have⟨G6,Ho⟩:=zE ((fJ P k).length);have Gq:aA (∀s q cap,Bl wc s->wc.1.size<=q->q<s.1.size->Wr s q 9 u.length (λt=>Um (gS u t))->(u.length<=cap/\cap<=9223372036854775807)->Cl 82 #[Uf (Uc gD) G6 cD,Uo #[Uf (Uc q) u.length cap,Un G,Ud O,Ud E,Um H]] s λe w'=>(∃g' cap' P' Q',e=Ui (Uf (Uc g') (G6+1) cap')/\s.1.size<=g'/\LC w' (w.1.size+3) (Uf (Uc g') (G6+1) cap') (fJ P (k+1)) P' Q')/\Bl s w'):=aC (λs q cap b7 hq1 hq2 hw hcap=>by
      have hJ:=I.bw b7;have Lr:=I.r2.lt;rw[<-Kz.out,<-Ho];exact Cm gD cD (fJ P k) DP DQ s (w.1.size+3) q cap u G O E H hJ.ld oM (oH ((H5 k).1)) (λi hi=>oH (((H5 k).2 i hi).2)) (oH Gt.2) ⟨oM,hq2⟩ hw hcap)
     have Gp:aA (G6+1=(fJ P (k+1)).length):=aC (by rw[<-Kz.out,sQ,Ho]);go_wp2_with fail;try rw[Jr]
     clear Jr o1 of;apply CL
     .intro Lb;refine zA He I.low.drew<|λqh=>?_;refine tZ 0 104 ?_;refine tY 2 106 ?_;refine tY 4 108 ?_;refine fU (i:=1) (j:=6) (d:=Uq 105) (d':=Uq 110) oK oK oK ?_ ?_;have V:=(I.d.bw zI.drew I.d.lt).c0;rw[Ho]at V;all_goals intro o J G0 K r;simp only[eB,dZ,dY,eU]at J;subst J
      focus
       go_simp;refine r.out _ _ (He _ I.low.drew)<|λqh=>?_;clear r K;try simp only[zP]
       clear V;refine cZ 6 ?_;intro K r
      all_goals go_simp;refine(Go _ zI.drew).mono ?_;rintro e s⟨q7,Hh,rfl,b7,Hc,Hd,Hk,Ha⟩;have M:Bl wc s:=⟨b7.os,b7.tape,b7.output,b7.size,b7.block⟩;refine r.out _ _ (He _ (aE I.low M))<|λqh=>?_;clear r K;try simp only[zP]
      rotate_left;focus
       have V:=(I.d.bw M I.d.lt).c0;rw[Ho]at V;refine cZ 1 ?_;intro K r;go_simp;refine r.out _ _ (He _ (aE I.low M))<|λqh=>?_;clear r K;try simp only[zP]
       clear V
      rotate_left;all_goals
       have H0:=aC<|Gq s q7 Hh M Hc Hd Hk Ha;clear Hk Ha Hc Hd;refine cZ 7 ?_;intro K r;go_simp;refine H0.mono ?_;rintro e w8⟨⟨g8,c8,P8,Q8,rfl,G4,l8⟩,b8⟩;have Hj:=aE M b8;have Hp:=aC<|I.setD0 Hj l8 Gp (oH M.size) (λi hi=>((H5 (k+1)).2 i hi).1);have Z:=I.d.bw Hj I.d.lt;refine r.out _ _ (He _ (aE I.low Hj))<|λqh=>?_;clear r K;try simp only[zP]
       refine tZ 8 112 ?_;have o0:=Z.c0;have of:=Z.f 0;rw[Ho]at o0;clear Z;refine cZ 9 ?_;intro K r;go_simp;clear qh;refine r.out _ _ (He _ Hp.low)<|λqh=>?_;clear r K;try simp only[zP]
       refine zD ?_;have⟨wz,K9⟩:=zE (w8.setCell (Ub t1) (Uf (Uc g8) (G6+1) c8));rw[K9]at Hp⊢
      .clear qh K9 b7 M b8 Hj l8 G4 o0 of H0;revert Hp;revert wz;revert Q8;revert P8;revert c8;revert g8;revert Hh;revert q7;exact Lb
      .exact Lb q7 Hh g8 c8 P8 Q8 wz Hp
     intro q3 Lm g3 c3 P3 Q3 wd L;clear I He Go Gq Ho Gp;have Hb:aA (∀w',Bl w w'->(Bl w w'/\w'.cell? (Ua C (qo+k*5))=Uq (Uf (Uq (Ua pb po)) u.length pc)/\w'.cell? (Ua C (qo+k*5+1))=Uq (Un G)/\w'.cell? (Ua C (qo+k*5+2))=Uq (Ud O)/\w'.cell? (Ua C (qo+k*5+3))=Uq (Ud E)/\w'.cell? (Ua C (qo+k*5+4))=Uq (Um H))):=aC (λw' b=>⟨b,H4 w' b⟩);have H8:aA (∀w',Bl wd w'->Cl 72 #[Uo #[Uf (Uq (Ua pb po)) u.length pc,Un G,Ud O,Ud E,Um H]] w' λe w''=>∃q cap,e=Ui (Uo #[Uf (Uc q) u.length cap,Un G,Ud O,Ud E,Um H])/\Bl w' w''/\w'.1.size<=q/\q<w''.1.size/\Wr w'' q 9 u.length (λt=>Um (gS u t))/\u.length<=cap/\cap<=9223372036854775807):=aC (λw' b=>by
      have hq:=Ki w' (aE L.low b);exact yV pb po u.length pc ⟨u,G,O,E,H⟩ w' rfl (oH Gt.2) hq.1 hq.2)
     have⟨Ja,Hq⟩:=zE ((cS gn S.l P S.l.length k).length);have Ga:aA (∀s q cap,Bl wd s->wd.1.size<=q->q<s.1.size->Wr s q 9 u.length (λt=>Um (gS u t))->(u.length<=cap/\cap<=9223372036854775807)->Cl 82 #[Uf (Uc B) Ja N,Uo #[Uf (Uc q) u.length cap,Un G,Ud O,Ud E,Um H]] s λe w'=>(∃g' cap' P' Q',e=Ui (Uf (Uc g') (Ja+1) cap')/\s.1.size<=g'/\LC w' (w.1.size+3) (Uf (Uc g') (Ja+1) cap') (cS gn S.l P S.l.length (k+1)) P' Q')/\Bl s w'):=aC (λs q cap b7 hq1 hq2 hw hcap=>by
      have hJ:=L.bw b7;have Lr:=L.r2.lt;rw[<-K0.out,<-Hq];exact Cm B N (cS gn S.l P S.l.length k) NP NQ s (w.1.size+3) q cap u G O E H hJ.ln oM (oH ((Hm S.l.length k).1)) (λi hi=>oH (((Hm S.l.length k).2 i hi).2)) (oH Gt.2) ⟨oM,hq2⟩ hw hcap)
     have Kh:aA (Ja+1=(cS gn S.l P S.l.length (k+1)).length):=aC (by rw[<-K0.out,sQ,Hq]);go_wp2_with fail;refine zA Hb L.low.drew<|λqh=>?_;refine tZ 0 113 ?_;refine tY 2 115 ?_;refine tY 4 117 ?_;refine fU (i:=1) (j:=6) (d:=Uq 114) (d':=Uq 119) oK oK oK ?_ ?_;have V:=(L.n.bw zI.drew L.n.lt).c0;rw[Hq]at V;all_goals intro o J G0 K r;simp only[eB,dZ,dY,eU]at J;subst J
     focus
      go_simp;refine r.out _ _ (Hb _ L.low.drew)<|λqh=>?_;clear r K;try simp only[zP]
      clear V;refine cZ 6 ?_;intro K r
     all_goals go_simp;refine(H8 _ zI.drew).mono ?_;rintro e s⟨q7,Hh,rfl,b7,Hc,Hd,Hk,Ha⟩;have M:Bl wd s:=⟨b7.os,b7.tape,b7.output,b7.size,b7.block⟩;refine r.out _ _ (Hb _ (aE L.low M))<|λqh=>?_;clear r K;try simp only[zP]
     .exact xF
     .have V:=(L.n.bw M L.n.lt).c0;rw[Hq]at V;refine cZ 1 ?_;intro K r;go_simp;refine r.out _ _ (Hb _ (aE L.low M))<|λqh=>?_;clear r K;try simp only[zP]
      clear V;exact xF
    .obtain rfl:k=P.length:=oM;have e1:=Q.ld;have e2:=Q.ln;have⟨Hy,H3,Kt,_⟩:=Q.fd.fs;subst Kt;have⟨Hs,Hz,Jq,_⟩:=Q.fn.fs;subst Jq;have Jw:aA (aT wr (w.1.size+3) (Uc gD) cD Hy (cT (fJ P P.length) (eD gn S.l P S.l.length P.length))):=aC (P4 Q.ld Q.fd);have Jx:aA (aT wr (w.1.size+3) (Uc B) N Hs (cT (cS gn S.l P S.l.length P.length) (gT S P P.length))):=aC (P4 Q.ln Q.fn);rw[We Ke.2.2,I3]at Jw;rw[I2,I1]at Jx;have Ky:aA (aQ gn S.l P=cT P (jD gn S.l P)/\aR S (aQ gn S.l P)=cT (lO gn S.l P) (mM S P)):=aC ⟨rfl,DH K6 Jk⟩;have D1:=Q.d;have N1:=Q.n;rw[We Ke.2.2,I3]at D1;rw[I2,I1]at N1;have⟨d1,Kn⟩:=zE P.length;have⟨d2,Ko⟩:=zE ((jD gn S.l P).length);have⟨n1,Kr⟩:=zE ((lO gn S.l P).length);have⟨n2,Ks⟩:=zE ((mM S P).length);have Kw:aA (d1<=1/\d2<=1001/\n1<=1001/\n2<=1001):=aC (by
      refine⟨Kn▸Ke.2.2,?_,?_,?_⟩
      .rw[<-Ko,<-I3];exact(Ht _ _).2
      .rw[<-Kr,<-I2];exact(Hm _ _).1
      .rw[<-Ks,<-I1];exact(Gk _).2)
     have G9:aA (iD S (aQ gn S.l P)=((decide (n1<=1000)&&decide (n2<=1000))&&(decide (d1<=1000)&&decide (d2<=1000)))):=aC (by
      unfold iD fL;rw[Ky.2,Ky.1,<-Kr,<-Ks,<-Kn,<-Ko];rfl)
     rw[Kn,Ko]at D1;rw[Kr,Ks]at N1;have Lh:=aC<|And.intro Kn (And.intro Ko (And.intro Kr Ks));have Jg:=aC<|Mg (Uc gD) Hy d1 d2 cD H3 wr (oH Kw) (oH Kw);have Jv:=aC<|λw3=>Mg (Uc B) Hs n1 n2 N Hz w3 (oH Kw) (oH Kw);have Ju:=aC D1;have K2:=aC N1;have Kg:=aC Q.low;have K4:=aC Q.r1;have K5:=aC Q.r2;have Lk:aA (w.1.size+3<=t1/\w.1.size+3<=t2/\t1≠t2):=aC ⟨Q.h1,Q.h2,Q.h12⟩;have⟨B1,J4⟩:=zE ((decide (d1<=1000)&&decide (d2<=1000)));have⟨B2,Jn⟩:=zE ((decide (n1<=1000)&&decide (n2<=1000)));rw[J4]at Jg G9;rw[Jn]at G9;have Ka:aA (∀w3,Cl 50 #[Uo #[Uf (Uc B) n1 N,Uf Hs n2 Hz]] w3 (Rt w3 (Un B2))):=aC<|λw3=>Jn▸Jv.out w3;have⟨x0,x1⟩:=D1.q2;clear J4 Jn Jv D1 N1 Q e1 e2 Kn Ko Kr Ks;go_wp2_with fail;refine Jg.mono ?_;rintro e w3⟨rfl,b3⟩;clear x0 x1 Jg;cases B1 with
     |false=>
      have HZ:aA (X=Sx.mt/\Y=Sx.mt/\CC=4):=aC (by
       have e:iD S (aQ gn S.l P)=false:=(by rw[G9.out];simp);have⟨z1,z2,z3⟩:=rM e;exact⟨Hg.1.symm.trans z1,Hg.2.1.symm.trans z2,Hg.2.2.symm.trans z3⟩)
      have Kv:=aC<|aE Kg b3;have Hn:=aC<|K4.bw b3 K4.lt;have Hv:=aC<|K5.bw b3 K5.lt;clear b3;exact xD
     |true=>
      have N3:=K2.bw b3 K2.lt;have⟨x0,x1⟩:=N3.q2;have Ld:=aC b3;clear b3 N3;go_wp2_with fail;refine(Ka w3).mono ?_;rintro e w4⟨rfl,b4⟩;have Gi:=aE Ld b4;have Kv:=aC<|aE Kg Gi;have Hn:=aC<|K4.bw Gi K4.lt;have Hv:=aC<|K5.bw Gi K5.lt;have Kx:=aC<|Ju.bw Gi Ju.lt;have K3:=aC<|K2.bw Gi K2.lt;have Ji:=aC<|Jw.bw Gi;have Jj:=aC<|Jx.bw Gi;clear b4 Gi x0 x1 Ka;cases B2 with
      |false=>
       have HZ:aA (X=Sx.mt/\Y=Sx.mt/\CC=4):=aC (by
        have e:iD S (aQ gn S.l P)=false:=(by rw[G9.out];simp);have⟨z1,z2,z3⟩:=rM e;exact⟨Hg.1.symm.trans z1,Hg.2.1.symm.trans z2,Hg.2.2.symm.trans z3⟩)
       exact xD
      |true=>
       have HZ:aA (X=cT (lO gn S.l P) (mM S P)/\Y=cT P (jD gn S.l P)/\CC=0):=aC (by
        have e:iD S (aQ gn S.l P)=true:=(by rw[G9.out];rfl);have⟨z1,z2,z3⟩:=rL e;exact⟨Hg.1.symm.trans (z1.trans Ky.2),Hg.2.1.symm.trans (z2.trans Ky.1),Hg.2.2.symm.trans z3⟩)
       have K7:aA (∀w',aD w' t1 (Uf (Uc gD) d1 cD) (Uf Hy d2 H3)->aD w' t2 (Uf (Uc B) n1 N) (Uf Hs n2 Hz)->(w'.cell? (Ub t1)=Uq (Uf (Uc gD) d1 cD)/\w'.cell? (Ua t1 1)=Uq (Uf Hy d2 H3)/\w'.cell? (Ub t2)=Uq (Uf (Uc B) n1 N)/\w'.cell? (Ua t2 1)=Uq (Uf Hs n2 Hz))):=aC<|λw' h1 h2=>⟨h1.c0,h1.c1,h2.c0,h2.c1⟩;go_wp2_with fail;refine zB K7 (Kx.bw zI.drew Kx.lt) (K3.bw zI.drew K3.lt)<|λqh=>?_;refine tY 0 132 ?_;have⟨u0,Jp⟩:=zE w4.drew;have bu:Bl w4 u0:=Jp▸zI.drew;rw[Jp];clear Jp;have R1:=Hn.bw bu Hn.lt;have R2:=Hv.bw bu Hv.lt;have⟨r0,r1,rf⟩:=R1.p2;have Lz:=Lk.out;have DA:=((Kx.bw bu Kx.lt).setAt (Ua (w.1.size+1) 0) (Uf (Uc B) n1 N) oQ).setAt (Ua (w.1.size+1) 1) (Uf Hs n2 Hz) oQ;have NA:=((K3.bw bu K3.lt).setAt (Ua (w.1.size+1) 0) (Uf (Uc B) n1 N) oQ).setAt (Ua (w.1.size+1) 1) (Uf Hs n2 Hz) oQ;have RA:=R1.set (Uf (Uc B) n1 N)<|Uf Hs n2 Hz;have QA:=(R2.setAt (Ua (w.1.size+1) 0) (Uf (Uc B) n1 N) oQ).setAt (Ua (w.1.size+1) 1) (Uf Hs n2 Hz) oQ;have DB:=(DA.setAt (Ua (w.1.size+1+1) 0) (Uf (Uc gD) d1 cD) oQ).setAt (Ua (w.1.size+1+1) 1) (Uf Hy d2 H3) oQ;have NB:=(NA.setAt (Ua (w.1.size+1+1) 0) (Uf (Uc gD) d1 cD) oQ).setAt (Ua (w.1.size+1+1) 1) (Uf Hy d2 H3) oQ;have RB:=aC<|(RA.setAt (Ua (w.1.size+1+1) 0) (Uf (Uc gD) d1 cD) oQ).setAt (Ua (w.1.size+1+1) 1) (Uf Hy d2 H3) oQ;have QB:=aC<|QA.set (Uf (Uc gD) d1 cD) (Uf Hy d2 H3);have Lj:=aC QA;clear R1 R2 RA QA;refine cZ 2 ?_;intro K r;go_simp;refine r.out _ _ (K7 _ DA NA)<|λqh=>?_;clear r K;try simp only[zP]
       clear r0 r1 rf;have⟨r0,r1,rf⟩:=Lj.p2;refine cZ 3 ?_;intro K r;go_simp;refine r.out _ _ (K7 _ DB NB)<|λqh=>?_;clear r K;try simp only[zP]
       refine tZ 4 8 ?_;refine zD ?_;have Jc:=aC bu;clear qh r0 r1 rf DA NA DB NB bu K7;go_wp2_with fail;have⟨s0,s1⟩:=RB.q2;have⟨s2,s3⟩:=QB.q2;refine zF (v:=Ul #[Uo #[Uf (Uc B) n1 N,Uf Hs n2 Hz],Uo #[Uf (Uc gD) d1 cD,Uf Hy d2 H3],Ud 0]) (by simp[results,results76,go_sem,s0,s1,s2,s3]) ?_;first|refine⟨Uq (Ub B),N,Hs,Hz,Uq (Ub gD),cD,Hy,⟨H3,?_⟩,?_,?_,?_⟩|refine⟨Uq (Ub B),N,Hs,Hz,Uq (Ub gD),cD,Hy,H3,?_,?_,?_,?_⟩
       .have⟨z1,z2,z3⟩:=HZ.out;have⟨l1,l2,l3,l4⟩:=Lh.out;rw[z1,z2,z3];show _=Ending.returned (Ul #[Uo #[Uf _ (lO gn S.l P).length _,Uf _ (mM S P).length _],Uo #[Uf _ P.length _,Uf _ (jD gn S.l P).length _],_]);rw[l1,l2,l3,l4]
       .rw[HZ.1];refine(Jj.bw Jc).move oM (by simp[Vr]) (λq h1 h2=>?_);rw[zH _ _ _ _ oS,zH _ _ _ _ oS,zH _ _ _ _ oS,zH _ _ _ _ oS]
       .rw[HZ.2.1];refine(Ji.bw Jc).move oM (by simp[Vr]) (λq h1 h2=>?_);rw[zH _ _ _ _ oS,zH _ _ _ _ oS,zH _ _ _ _ oS,zH _ _ _ _ oS]
       .exact((((aE Kv Jc).setCell oP _).setCell oP _).setCell oS _).setCell oS _
theorem QI(p q:List ByteArray)(a b:Option Us)(c d:Nat)(w:Ur)(y:p.length<=c)(hd:q.length<=d)(hc':c<=9223372036854775807)(hd':d<=9223372036854775807)(h:aV w a p)(v:aV w b q):
  Cl 75 #[Uf a p.length c,Uf b q.length d] w λe w'=>e=Ui (Un (yes (p <+:q)))/\∃k,w'=w.drewN k:=by
 by_cases O:p.length<=q.length
 .have A:decide (p.length<=q.length)=true:=oS;have o:(q.take p.length).length=p.length:=oS;have t:aV w b (q.take p.length):=by
   rcases v with v|⟨b,off,rfl,M,y⟩
   .exact .inl oM
   .refine .inr ⟨b,off,rfl,M,λi hi=>?_⟩;have e:gS (q.take p.length) i=gS q i:=(by simp[gS,UL,VV (show i<p.length by omega)]);rw[e];exact y i oM
  have u:=aC<|zJ p (q.take p.length) a b c d w y oM hc' hd' h t;rw[o]at u;have m:aA (aW p (q.take p.length)=0↔p <+:q):=aC (by rw[tU];exact⟨λe=>by rw[e];exact VW _ _,λe=>List.prefix_iff_eq_take.1 e⟩);generalize g:aW p (q.take p.length)=C;rw[g]at u m;have Q:(0:Int)<=(p.length:Int):=VH _;have U:(p.length:Int)<=(d:Int):=oM;go_enter func75,ntmps75;go_wp2_with fail;refine u.mono ?_;rintro e w1⟨rfl,z,rfl⟩;by_cases j:C=0;have E:(C==0)=true:=oU j;have r:=aC<|aN (m.1 j);rotate_left;have E:(C==0)=false:=oU j;have r:=aC<|aJ (λh=>j (m.2 h));rotate_left;all_goals clear j m;go_wp2_with fail;go_ret;exact⟨cG r.symm,z,rfl⟩
 .have A:decide (p.length<=q.length)=false:=oS;have r:aA (yes (p <+:q)=false):=aC<|aJ (λe=>O e.length_le);go_enter func75,ntmps75;go_wp2_with fail;go_ret;exact⟨cG r.symm,0,rfl⟩
theorem nR(h1:aD w r1 u0 u1)(h2:aD w r2 u2 u3)(hne:r1≠r2)(v0 v1 v2 v3:aB):aD ((w.setCell (Ub r1) v0).setCell (Ua r1 1) v1) r2 u2 u3/\aD ((((w.setCell (Ub r1) v0).setCell (Ua r1 1) v1).setCell (Ub r2) v2).setCell (Ua r2 1) v3) r1 v0 v1/\aD ((((w.setCell (Ub r1) v0).setCell (Ua r1 1) v1).setCell (Ub r2) v2).setCell (Ua r2 1) v3) r2 v2 v3:=
 ⟨(h2.setAt _ _ hne).setAt _ _ hne,((h1.set v0 v1).setAt _ _ (Ne.symm hne)).setAt _ _ (Ne.symm hne),((h2.setAt _ _ hne).setAt _ _ hne).set v2 v3⟩
theorem oW(h:Below B w w1)(h1:B<=r1)(h2:B<=r2)(v0 v1 v2 v3:aB):Below B w ((((w1.setCell (Ub r1) v0).setCell (Ua r1 1) v1).setCell (Ub r2) v2).setCell (Ua r2 1) v3):=
 (((h.setCell (p:=(Ub r1)) h1 _).setCell (p:=(Ua r1 1)) h1 _).setCell (p:=(Ub r2)) h2 _).setCell (p:=(Ua r2 1)) h2 _
theorem lR{r:Nat}(h1:aD w r u0 u1)(h2:aD w (r+1) u2 u3)(v0 v1 v2 v3:aB):w.cell? (Ub r)=Uq u0/\w.cell? (Ua r 1)=Uq u1/\(∀i,w.frozen? (Ua r i)=false)/\((w.setCell (Ub r) v0).setCell (Ua r 1) v1).cell? (Ua (r+1) 0)=Uq u2/\((w.setCell (Ub r) v0).setCell (Ua r 1) v1).cell? (Ua (r+1) 1)=Uq u3/\(∀i,((w.setCell (Ub r) v0).setCell (Ua r 1) v1).frozen? (Ua (r+1) i)=false)/\aA (aD ((((w.setCell (Ub r) v0).setCell (Ua r 1) v1).setCell (Ua (r+1) 0) v2).setCell (Ua (r+1) 1) v3) r v0 v1/\aD ((((w.setCell (Ub r) v0).setCell (Ua r 1) v1).setCell (Ua (r+1) 0) v2).setCell (Ua (r+1) 1) v3) (r+1) v2 v3):=
 have j:=nR h1 h2 (show r≠r+1 by omega) v0 v1 v2 v3
 ⟨h1.c0,h1.c1,h1.f,j.1.c0,j.1.c1,j.1.f,aC j.2⟩
theorem mZ(h:Bl w w1)(v0 v1 v2 v3:aB):Bl w ((((w1.setCell (Ua (w.1.size+1) 0) v0).setCell (Ua (w.1.size+1) 1) v1).setCell (Ua (w.1.size+1+1) 0) v2).setCell (Ua (w.1.size+1+1) 1) v3):=oW h oM oM _ _ _ _
theorem Dc{a b c d:Us}{v0 v2 v3:aB}:((((w.setCell a v0).setCell b v1).setCell c v2).setCell d v3).1.size=w.1.size:=by simp[Vr]
theorem Fc{x:Option Us}(h:aT w lo a c x Z)(hl:lo'<=lo)(h1:r1<lo)(h2:r2<lo)(v0 v1 v2 v3:aB):aT ((((w.setCell (Ub r1) v0).setCell (Ua r1 1) v1).setCell (Ub r2) v2).setCell (Ua r2 1) v3) lo' a c x Z:=
 h.move hl (by simp[Vr]) (λq k1 k2=>by
  rw[zH _ _ _ _ oS,zH _ _ _ _ oS,zH _ _ _ _ oS,zH _ _ _ _ oS])
theorem jF{u:Ur}{x:Option Us}(h:aT u lo a c x Z)(hl:w.1.size+1+1<lo)(v0 v1 v2 v3:aB):aT ((((u.setCell (Ua (w.1.size+1) 0) v0).setCell (Ua (w.1.size+1) 1) v1).setCell (Ua (w.1.size+1+1) 0) v2).setCell (Ua (w.1.size+1+1) 1) v3) w.1.size a c x Z:=Fc h oM oM hl _ _ _ _
theorem rN{hi:Nat}{x:Option Us}(h:aM w lo hi a x d Z)(h1:r1<lo)(h2:r2<lo)(v0 v1 v2 v3:aB):aM ((((w.setCell (Ub r1) v0).setCell (Ua r1 1) v1).setCell (Ub r2) v2).setCell (Ua r2 1) v3) lo hi a x d Z:=
 (((h.set (Ub r1) _ (.inl h1)).set (Ua r1 1) _ (.inl h1)).set (Ub r2) _ (.inl h2)).set (Ua r2 1) _ (.inl h2)
theorem QR:(prog.info? 4).map (λi=>(i.zero,i.size,i.bytes))=Uq (Uq (Un false),1,1):=oK
def pX(bs:List Bool):List aB:=bs.map λb=>Un b
def BR(w:Ur)(B:Nat)(v:aB)(bs:List Bool):Prop:=w.ownsRow B 4 1 v bs.length (pX bs)/\v≠Ue
theorem BR.lt{bs:List Bool}(h:BR w B v bs):∀g,v.ownBlock=Uq g->B<=g/\g<w.1.size:=λg e=>World.ownsRow.lt h.1 g e
theorem BR.bw{bs:List Bool}(h:BR w B v bs)(hb:Bl w w1):BR w1 B v bs:=⟨dK h.1 (λg hg=>hb.block g (h.lt g hg).2),h.2⟩
theorem BR.new(w:Ur):BR (w.alloc (Uj #[] 4)) w.1.size (Uf (Uc w.1.size) 0 0) []:=by
 refine⟨?_,λe=>by cases e⟩;exact Vo (base:=w.1.size) (e:=4) (size:=1) w #[] 0 zL oL rfl
theorem Xv(B:Nat)(w:Ur)(v:aB)(bs:List Bool)(b:Bool)(h:BR w B v bs)(hB:B<=w.1.size)(hl:bs.length<=1048576):
  ∃v' w',(Builtin.append_ #[131,131] 131 #[v,Uf (Uc w.1.size) 1 1]).run prog (w.alloc (Uj #[Un b] 4))=.ok v' w'/\BR w' B v' (bs++[b])/\Below B w w':=by
 have⟨g,hi,r,y,z⟩:=info_parts QR;have m:Bl w (w.alloc (Uj #[Un b] 4)):=zO _ _;have q:=h.bw m;have⟨v',w',t,o,i,p⟩:=run_append_own (P:=prog) (w.alloc (Uj #[Un b] 4)) B 131 131 4 g (Un false) 1 1 underlying131 hi r y z rfl oD v bs.length (pX bs) q.1 (Ub w.1.size) 1 1 (pX [b]) rfl (λj u hu=>by
  match j,hu with
  |0,hu=>simp[pX]at hu;subst hu;simp[Addr.add]
  |j+1,hu=>simp[pX]at hu) (λu hu=>by
   obtain⟨s,_,rfl⟩:=List.mem_map.1 hu;rfl) oL oM oS
 refine⟨v',w',t,⟨?_,λe=>h.2 (p.1 e).1⟩,?_⟩
 .rw[UM];simpa[pX]using o
 .exact(m.mono hB).grown i oS (λk hk=>(q.lt k hk).1)
theorem BR.cells{bs:List Bool}(h:BR w B v bs):∃g c,v=Uf (Uc g) bs.length c/\g<w.1.size/\∀i,i<bs.length->w.cell? (Ua g i)=Uq (Un (bs.getD i false)):=by
 rcases h.1.2 with⟨e,r⟩|⟨g,cap,m,rfl,t,j,u,y,z,k⟩
 .exact absurd e h.2
 .refine⟨g,cap,rfl,(Array.getElem?_eq_some_iff.1 j).1,λi hi=>?_⟩;have q:w.cell? (Ua g i)=(pX bs)[i]? :=by
   rw[<-k,Nat.mul_one,VV hi];simp[Vx,j]
  rw[q];simp[pX,UL,hi]
noncomputable def fN(gn:Lf->Prop)(l:List Lf)(k:Nat):List Bool:=(l.take k).map λx=>yes (gn x)
theorem Z8{gn:Lf->Prop}(h:k<l.length):fN gn l (k+1)=fN gn l k++[yes (gn (gL l k))]:=by
 unfold fN;rw[oA h,UN];rfl
theorem Dv(gn:Lf->Prop)(l:List Lf):(fN gn l l.length).length=l.length:=by simp[fN]
theorem Fu{gn:Lf->Prop}(h:i<l.length):(fN gn l l.length).getD i false=yes (gn (gL l i)):=by
 simp[fN,UL,h,gL]
theorem Tk(gn:Lf->Prop)(l:List Lf)(k:Nat):(fN gn l k).length<=l.length:=by simp[fN,Vk];omega
theorem lI{Q:Prop}(h:Q:=by
 first
  |exact⟨Up,0,Up,0,Up,0,Up,0,rfl,aT.mt _ _ _ _,aT.mt _ _ _ _,mZ j _ _ _ _⟩
  |exact⟨Up,0,Up,0,Up,0,Up,⟨0,rfl⟩,aT.mt _ _ _ _,aT.mt _ _ _ _,mZ j _ _ _ _⟩):Q:=h
theorem TA(a:Option Us)(c:Nat)(xa:Option Us)(d:Nat)(pa:Option Us)(pc:Nat)(S:Sx)(p:List ByteArray)(w:Ur)(hm:S.Sm)(N:dH w a S.l)(h3:bI w xa S.n S.R S.F S.T)(hp:p.length<=1048576)(hpc:p.length<=pc/\pc<=9223372036854775807)(hseg:aV w pa p):
  Cl 46 #[Uo #[Uf a S.l.length c,Uf xa S.n d],Uf pa p.length pc] w λe w'=>∃a m x t a' m' x' t',e=Ui (Ul #[Uo #[Uf a (iZ S p).l.length m,Uf x (iZ S p).n t],Uo #[Uf a' (iY S p).l.length m',Uf x' (iY S p).n t'],Ud (lN S p)])/\aT w' w.1.size a m x (iZ S p)/\aT w' w.1.size a' m' x' (iY S p)/\Bl w w':=by
 generalize E:((w.alloc (Uj #[Uf a S.l.length c,Uf xa S.n d] 28)).alloc (Uj #[Ue,Ue] 28)).alloc (Uj #[Ue,Ue] 28)=W;have K:Bl w W:=E▸(aU _ _ _).alloc oS _;have zW:W.1.size=w.1.size+3:=E▸oP;have A0:aD W w.1.size (Uf a S.l.length c) (Uf xa S.n d):=E▸((aD.made w _ _ _).allocs _).allocs _;have R0:aD W (w.1.size+1) Ue Ue:=by
  rw[<-E];have:=aD.made (w.alloc (Uj #[Uf a S.l.length c,Uf xa S.n d] 28)) Ue Ue 28;exact(by simpa using this:aD _ (w.1.size+1) _ _).allocs _
 have Q0:aD W (w.1.size+1+1) Ue Ue:=by
  rw[<-E];simpa using aD.made ((w.alloc (Uj #[Uf a S.l.length c,Uf xa S.n d] 28)).alloc (Uj #[Ue,Ue] 28)) Ue Ue 28
 have Hw:=aC A0;have H8:=aC R0;have H7:=aC Q0;have Gg:=aC K;have Gm:=aC zW;have⟨D,P⟩:=A0.q2;have H:=aC<|Ad a c S.l xa S.n d S.R S.F S.T W hm.l1 hm.p1 hm.n1 (N.bw K) (h3.bw K);change aA (Calls _ _ _ _ λe w'=>e=Ui (Un (fD S))/\_)at H;have H1:=aC N;have H3:=aC h3;have H9:=aC hseg;have H6:=aC hpc;generalize hB:fD S=B;have I:=aC hB;rw[hB]at H;clear K zW A0 R0 Q0 N h3 hseg hB hpc;go_enter func46,ntmps46;go_wp2_with fail;clear E;refine H.mono ?_;rintro e w1⟨rfl,M⟩;have j:=aC<|aE Gg M;have g:=aC<|H8.bw M H8.lt;have b:=aC<|H7.bw M H7.lt;have Hx:=aC<|Hw.bw M Hw.lt;have Gk:aA (w.1.size+3<=w1.1.size):=aC<|oJ Gm M.size;clear M D P H;cases B with
 |false=>
  have s:aA (iZ S p=Sx.mt/\iY S p=Sx.mt/\lN S p=1):=aC (by
   have e:=Bi (p:=p) (v:=⟨#[]⟩) I;have:=xZ (S:=S) (p:=p) (by rw[e];decide);rw[e]at this;exact this)
  have⟨r0,r1,rf,q0,q1,qf,Q⟩:=lR g b Ue Ue Ue Ue;go_wp2_with fail;have⟨r,u⟩:=Q.out;refine zF (v:=Ul #[Uo #[Ue,Ue],Uo #[Ue,Ue],Ud 1]) (by simp[results,results46,go_sem,r.c0,r.c1,u.c0,u.c1]) ?_;rw[s.1,s.2.1,s.2.2];exact lI
 |true=>
  have Hm:=aC<|Mv p pa pc w1 hp (H9.bw j);generalize hZ:yes (dW p)=Z;rw[hZ]at Hm;have Ga:=aC hZ;clear hZ;go_wp2_with fail;refine Hm.mono ?_;rintro e q⟨rfl,rfl⟩;clear Hm;cases Z with
  |false=>
   have s:aA (iZ S p=Sx.mt/\iY S p=Sx.mt/\lN S p=2):=aC (by
    have e:=tN (p:=p) (v:=⟨#[]⟩) I (λh=>by have:=Ga.out;rw[aN h.1]at this;cases this);have:=xZ (S:=S) (p:=p) (by rw[e];decide);rw[e]at this;exact this)
   have⟨r0,r1,rf,q0,q1,qf,Q⟩:=lR g b Ue Ue Ue Ue;go_wp2_with fail;have⟨r,u⟩:=Q.out;refine zF (v:=Ul #[Uo #[Ue,Ue],Uo #[Ue,Ue],Ud 2]) (by simp[results,results46,go_sem,r.c0,r.c1,u.c0,u.c1]) ?_;rw[s.1,s.2.1,s.2.2];exact lI
  |true=>
   have Gf:=sM.1 Ga;have hs:=gC I;have Gj:=aC hs;have Hn:=aC<|Az (S:=S) (p:=p) (Fe I ⟨Gf,oD⟩);generalize C:q.alloc (Uj #[] 4)=w3;have b3:Bl q w3:=C▸zO _ _;have H2:aA (BR w3 q.1.size (Uf (Uc q.1.size) 0 0) (fN (iC p) S.l 0)):=aC<|C▸BR.new _;have Hy:=aC b3;have Go:S.l.length<=1000:=hs.2.1;clear Gf hs b3;go_wp2_with fail;clear C;go_loopw [7,8] (λo i wr=>∃k:Nat,k<=S.l.length/\i=Ud k/\aA (Bl q wr)/\aA (BR wr q.1.size o (fN (iC p) S.l k))) (λ_ i _=>S.l.length-(intOf i).toNat);case atStart=>exact⟨0,UB _,rfl,Hy,H2⟩
   case round=>
    clear Hy H2;obtain⟨k,hk,rfl,O,G⟩:=hrel;have V:=aC<|aE j O;have A1:=Hx.bw O Hx.lt;have⟨D,P⟩:=A1.q2;by_cases Ht:k<S.l.length
    .have i1:(0:Int)<=(k:Int):=VH _;have i2:(k:Int)<(S.l.length:Int):=oM;obtain⟨ab,ao,rfl,Gb,Gd⟩:=(H1).resolve_left oM;have⟨qa,qc,⟨z,Hc⟩,sg,A,c2,c3,c4⟩:=Gd k Ht;have x0:=(V.cell (p:=(Ua ab (ao+k*5))) Gb).trans z;have J:=aC<|QI p (gL S.l k).p pa qa pc qc wr H6.1 Hc.1 H6.2 Hc.2 (H9.bw V) (sg.bw V);have Ha:aA (fN (iC p) S.l (k+1)=fN (iC p) S.l k++[yes (p <+:(gL S.l k).p)]):=aC<|Z8 Ht;generalize Gc:yes (p <+:(gL S.l k).p)=bb;generalize Ge:(gL S.l k).p.length=lp;rw[Gc]at J Ha;rw[Ge]at J x0;clear Gc Ge Gd sg z A c2 c3 c4 Hc Gb A1;go_wp2_with fail;refine J.mono ?_;rintro e w4⟨rfl,dn,Hu⟩;have Hz:aA (Bl q w4):=aC (by rw[Hu];exact oZ O dn);have o4:BR w4 q.1.size u7 (fN (iC p) S.l k):=(by rw[Hu];exact G.bw (oZ zI dn));have⟨v5,U,Hf,o5,y⟩:=Xv q.1.size w4 u7 (fN (iC p) S.l k) bb o4 Hz.size (oH (Tk (iC p) S.l k));have Gh:=aC<|Hz.trans y;have Gi:aA (BR U q.1.size v5 (fN (iC p) S.l (k+1))):=aC (by rw[Ha.out];exact o5);clear J Hu o4 o5 y Ha x0 D P G;go_wp2_with (at_builtin;refine cL rfl _ _ _ _ rfl Hf (by rfl) (by rfl) rfl ?_;clear Hf);go_roundw;case rel=>exact⟨k+1,Ht,oN,Gh,Gi⟩
     case measure=>exact oE
    .obtain rfl:k=S.l.length:=oM;have⟨gg,gc,hv,Hs,Hr⟩:=G.cells;subst hv;rw[Dv];rw[Dv]at Hr;generalize Hv:wr.alloc (Uj #[] 101)=U;have y:Bl wr U:=Hv▸zO _ _;have Ho:=aE O y;have Hp:=aE V y;have Hl:=aC (N9 (iC p) [] a c xa d gg gc (Uc wr.1.size) 0 S U Gj (dN.nil S) (H1.bw Hp) (H3.bw Hp) (Ut Hs y.size) (λi hi=>by
      rw[<-Fu hi];exact(y.cell (p:=(Ua gg i)) Hs).trans (Hr i hi)) (.inl rfl))
     generalize hX:eI S (aQ (iC p) S.l [])=X;generalize hY:eC S (aQ (iC p) S.l [])=Y;generalize Hq:fP S (aQ (iC p) S.l [])=Cc;rw[hX,hY,Hq]at Hl;have Hb:aA (iZ S p=X/\iY S p=Y/\lN S p=Cc):=aC ⟨Hn.1.trans hX,Hn.2.1.trans hY,Hn.2.2.trans Hq⟩;have Hk:=aC Ho;have Gl:aA (w.1.size+3<=U.1.size):=aC (by have N:=Gk.out;have h2:=Ho.size;omega);clear hX hY Hq Hs Hr y Ho Hp G O A1;go_wp2_with fail;clear Hv;refine Hl.mono ?_;rintro e w4⟨ra,rc,rx,rd,Hg,Hh,Hj,Hi,rfl,ox,oy,b4⟩;have L:=aE Hk b4;have Hd:=aC<|g.bw L g.lt;have He:=aC<|b.bw L b.lt;have H0:=aC<|aE j L;have H4:=aC ox;have H5:=aC oy;clear b4 L ox oy Hl D P g b j;have g:=Hd;have b:=He;have j:=H0;clear Hd He H0;have⟨r0,r1,rf,q0,q1,qf,Q⟩:=lR g b (Uf ra X.l.length rc) (Uf rx X.n rd) (Uf Hg Y.l.length Hh) (Uf Hj Y.n Hi);go_wp2_with fail;have⟨r,u⟩:=Q.out;refine zF (v:=Ul #[Uo #[Uf ra X.l.length rc,Uf rx X.n rd],Uo #[Uf Hg Y.l.length Hh,Uf Hj Y.n Hi],Ud Cc]) (by simp[results,results46,go_sem,r.c0,r.c1,u.c0,u.c1]) ?_;have hz:=Gl.out;rw[Hb.1,Hb.2.1,Hb.2.2];first
      |exact⟨ra,rc,rx,rd,Hg,Hh,Hj,Hi,rfl,jF H4 oM _ _ _ _,jF H5 oM _ _ _ _,mZ j _ _ _ _⟩
      |exact⟨ra,rc,rx,rd,Hg,Hh,Hj,⟨Hi,rfl⟩,jF H4 oM _ _ _ _,jF H5 oM _ _ _ _,mZ j _ _ _ _⟩
def Aq(S:Sx)(rep:Int)(p:List ByteArray)(fl on:Bool)(v:ByteArray):List Lf:=if on then [nL S rep p fl v] else []
def nO(S:Sx)(rep:Int)(on:Bool):Prop:=(0<=rep/\rep<8)/\(on=true->bQ S.R S.T rep S.n+1<=1000000000)
noncomputable def nI(S:Sx)(rep:Int)(p:List ByteArray)(fl on:Bool)(v:ByteArray):Sx:=aQ (cV p fl) S.l (Aq S rep p fl on v)
noncomputable def eO(S:Sx)(rep:Int)(p:List ByteArray)(fl on:Bool)(v:ByteArray):Int:=if dQ S p v=0 then(if yes (nO S rep on)=true then fP S (nI S rep p fl on v)else 3)else dQ S p v
noncomputable def cR(S:Sx)(rep:Int)(p:List ByteArray)(fl on:Bool)(v:ByteArray):Sx:=if dQ S p v=0 then(if yes (nO S rep on)=true then eI S (nI S rep p fl on v)else Sx.mt)else Sx.mt
noncomputable def cO(S:Sx)(rep:Int)(p:List ByteArray)(fl on:Bool)(v:ByteArray):Sx:=if dQ S p v=0 then(if yes (nO S rep on)=true then eC S (nI S rep p fl on v)else Sx.mt)else Sx.mt
section
variable {S : Sx}{rep : Int}{p : List ByteArray}{fl on : Bool}{v : ByteArray}
theorem rI(h:dQ S p v≠0):cR S rep p fl on v=Sx.mt/\cO S rep p fl on v=Sx.mt/\eO S rep p fl on v=dQ S p v:=by unfold cR cO eO;rw[if_neg h,if_neg h,if_neg h];exact⟨rfl,rfl,rfl⟩
theorem tI(h:dQ S p v=0)(hn:¬nO S rep on):cR S rep p fl on v=Sx.mt/\cO S rep p fl on v=Sx.mt/\eO S rep p fl on v=3:=by unfold cR cO eO;rw[if_pos h,if_pos h,if_pos h,aJ hn];exact⟨rfl,rfl,rfl⟩
theorem tH(h:dQ S p v=0)(hn:nO S rep on):cR S rep p fl on v=eI S (nI S rep p fl on v)/\cO S rep p fl on v=eC S (nI S rep p fl on v)/\eO S rep p fl on v=fP S (nI S rep p fl on v):=by unfold cR cO eO;rw[if_pos h,if_pos h,if_pos h,aN hn];exact⟨rfl,rfl,rfl⟩
theorem Ri(hs:bG S.R S.F S.T S.n S.l)(hp:dW p)(hv:v.size<=200)(hf:fl=true->fO v=true)(h:nO S rep on):dN S (Aq S rep p fl on v):=by
 unfold Aq;cases on with
 |true=>exact F5 hs hp hv hf ⟨h.1,h.2 rfl⟩
 |false=>exact dN.nil S
theorem PF(hs:bG S.R S.F S.T S.n S.l):mA S.R S.F S.T rep S.n=yes (jT S rep):=by
 have j:=Co hs.1 rep;have e:mA S.R S.F S.T rep S.n=fR rep (bQ S.R S.T rep S.n+1) (bQ S.R S.T rep S.n+1):=by unfold mA;rw[hs.1];rfl
 rw[e];by_cases h:jT S rep
 .rw[aN h];exact Dz ⟨h.1.1,h.1.2,oM,oM,h.2⟩
 .rw[aJ h];exact vB<|λhh=>h ⟨⟨hh.1,hh.2.1⟩,oM⟩
end
theorem PM(B:Nat)(w:Ur)(g0:Nat)(pa:Option Us)(m pc:Nat)(fl:Bool)(r q:Int)(v:ByteArray)(h:w.ownsRow B 101 5 (Uf (Uc g0) 0 0) 0 [])(hB:B<=w.1.size):
  ∃g c w',(Builtin.append_ #[23,23] 23 #[Uf (Uc g0) 0 0,Uf (Uc w.1.size) 1 1]).run prog (w.alloc (Uj #[Uf pa m pc,Un fl,Ud r,Ud q,Um v] 101))=.ok (Uf (Uc g) 1 c) w'/\Below B w w'/\g<w'.1.size/\w'.cell? (Ub g)=Uq (Uf pa m pc)/\w'.cell? (Ua g 1)=Uq (Un fl)/\w'.cell? (Ua g 2)=Uq (Ud r)/\w'.cell? (Ua g 3)=Uq (Ud q)/\w'.cell? (Ua g 4)=Uq (Um v):=by
 have⟨Y,hi,Q,U,V⟩:=info_parts yZ;have o:Bl w (w.alloc (Uj #[Uf pa m pc,Un fl,Ud r,Ud q,Um v] 101)):=zO _ _;have z:=World.ownsRow.alloc h (Uj #[Uf pa m pc,Un fl,Ud r,Ud q,Um v] 101);have p:=AX w (Uf pa m pc) (Un fl) (Ud r) (Ud q) (Um v) 101;have⟨t,b⟩:=zE (w.alloc (Uj #[Uf pa m pc,Un fl,Ud r,Ud q,Um v] 101));rw[b]at z p o⊢;have K:t.1.size=w.1.size+1:=b▸oP;have⟨v',A,O,i,E,G,H⟩:=run_append_own_at (P:=prog) t B 23 23 101 Y _ 5 64 underlying23 hi Q U V rfl oD (Uf (Uc g0) 0 0) 0 [] z (Ub w.1.size) 1 1 [Uf pa m pc,Un fl,Ud r,Ud q,Um v] rfl p (λu hu=>by
  simp only[VS,List.not_mem_nil,or_false]at hu;rcases hu with e|e|e|e|e<;>rw[e]<;>rfl) oL oM oM
 rcases i.2 with⟨s,I⟩|⟨g,cap,Z,s,J,M,r1,r2,L,N⟩
 .omega
 subst s;have y:∀j,j<5->A.cell? (Ua g j)=([Uf pa m pc,Un fl,Ud r,Ud q,Um v]:List aB)[j]? :=λj hj=>World.ownsRow.cellAt i j oM;refine⟨g,cap,A,O,?_,(Array.getElem?_eq_some_iff.1 M).1,y 0 oM,y 1 oM,y 2 oM,y 3 oM,y 4 oM⟩;exact(o.mono hB).grown E oM (λk hk=>(World.ownsRow.lt z k hk).1)
theorem BW{Q:Prop}(h:Q:=by
 have i1:(0:Int)<=(k:Int):=VH _;have i2:(k:Int)<(S.l.length:Int):=oM;obtain⟨ab,ao,rfl,Hy,Gc⟩:=(H1).resolve_left oM;obtain⟨qa,qc,⟨E,He⟩,sg,M,c2,c3,c4⟩:=Gc k P;have x0:=(Hh.cell (p:=(Ua ab (ao+k*5))) Hy).trans E;have x1:=(Hh.cell (p:=(Ua ab (ao+k*5+1))) Hy).trans M;have HC:=aC (zJ (gL S.l k).p p qa pa qc pc wr He.1 Ga.1 He.2 Ga.2 (sg.bw Hh) (Gg.bw Hh));have Hg:aA (aW (gL S.l k).p p=0↔(gL S.l k).p=p):=aC tU;have Ha:aA (fN (cV p fl) S.l (k+1)=fN (cV p fl) S.l k++[yes ((gL S.l k).p=p/\(gL S.l k).fl=fl)]):=aC (Z8 P);obtain⟨y,hy⟩:=zE (gL S.l k);rw[hy]at x0 x1 HC Hg Ha;obtain⟨lp,yf,yr,yq,yv⟩:=y;dsimp only at x0 x1 HC Hg Ha;obtain⟨C,hC⟩:=zE (aW lp p);rw[hC]at Hg HC;clear hC hy Gc sg E M c2 c3 c4 He Hy A1;go_wp2_with fail;refine HC.mono ?_;rintro e w6⟨rfl,dn,Hk⟩;have H5:aA (Bl b w6):=aC (by rw[Hk];exact oZ V dn);have o6:BR w6 b.1.size u17 (fN (cV p fl) S.l k):=(by rw[Hk];exact HO.bw (oZ zI dn));have y1:w6.cell? (Ua ab (ao+k*5+1))=Uq (Un yf):=(by rw[Hk];simpa using x1);have m0:w6.cell? (Ub w.1.size)=Uq (Uf (Uq (Ua ab ao)) S.l.length c):=(by rw[Hk];simpa using k0);have O:aA (∀bb,yes (lp=p/\yf=fl)=bb->∃J g,(Builtin.append_ #[131,131] 131 #[u17,Uf (Uc w6.1.size) 1 1]).run prog (w6.alloc (Uj #[Un bb] 4))=.ok J g/\BR g b.1.size J (fN (cV p fl) S.l (k+1))/\Bl b g):=aC (λbb hbb=>by
  obtain⟨J,g,h1,h2,h3⟩:=Xv b.1.size w6 u17 (fN (cV p fl) S.l k) bb o6 H5.size (oH (Tk (cV p fl) S.l k));exact⟨J,g,h1,by rw[Ha.out,hbb];exact h2,H5.trans h3⟩)
 clear HC Hk o6 x0 x1 k0 k1 HO Ha;by_cases hz:C=0
 .have d0:(C==0)=true:=oU hz;cases yf<;>cases fl
  .obtain⟨J,g,q,r,b7⟩:=O true (aN ⟨Hg.1 hz,rfl⟩);have G:=aC b7;have H:=aC r;clear O r b7;go_wp2_with (at_builtin;refine cL rfl _ _ _ _ rfl q (by rfl) (by rfl) rfl ?_;clear q);go_roundw;case rel=>exact⟨k+1,P,oN,G,H⟩
   case measure=>exact oE
  .obtain⟨J,g,q,r,b7⟩:=O false (aJ (λh=>by cases h.2));have G:=aC b7;have H:=aC r;clear O r b7;go_wp2_with (at_builtin;refine cL rfl _ _ _ _ rfl q (by rfl) (by rfl) rfl ?_;clear q);go_roundw;case rel=>exact⟨k+1,P,oN,G,H⟩
   case measure=>exact oE
  .obtain⟨J,g,q,r,b7⟩:=O false (aJ (λh=>by cases h.2));have G:=aC b7;have H:=aC r;clear O r b7;go_wp2_with (at_builtin;refine cL rfl _ _ _ _ rfl q (by rfl) (by rfl) rfl ?_;clear q);go_roundw;case rel=>exact⟨k+1,P,oN,G,H⟩
   case measure=>exact oE
  .obtain⟨J,g,q,r,b7⟩:=O true (aN ⟨Hg.1 hz,rfl⟩);have G:=aC b7;have H:=aC r;clear O r b7;go_wp2_with (at_builtin;refine cL rfl _ _ _ _ rfl q (by rfl) (by rfl) rfl ?_;clear q);go_roundw;case rel=>exact⟨k+1,P,oN,G,H⟩
   case measure=>exact oE
 .have d0:(C==0)=false:=oU hz;obtain⟨J,g,q,r,b7⟩:=O false (aJ (λh=>hz (Hg.2 h.1)));have G:=aC b7;have H:=aC r;clear O r b7;go_wp2_with (at_builtin;refine cL rfl _ _ _ _ rfl q (by rfl) (by rfl) rfl ?_;clear q);go_roundw;case rel=>exact⟨k+1,P,oN,G,H⟩
  case measure=>exact oE):Q:=h
theorem xO{Q:Prop}(h:Q:=by
 refine Ht.mono ?_;rintro e w4⟨ra,rc,rx,rd,Ho,Hp,Hr,Hq,rfl,ox,oy,b4⟩;have Hl:=aE U<|aE Hs b4;have Hi:=aC<|u.bw Hl u.lt;have Hj:=aC<|z.bw Hl z.lt;have Hf:=aC<|aE j Hl;have H8:=aC ox;have H9:=aC oy;clear b4 Hl ox oy Ht t2 t3 k0 u z j;try clear t0 t1
 have u:=Hi;have z:=Hj;have j:=Hf;clear Hi Hj Hf;obtain⟨r0,r1,rf,q0,q1,qf,D⟩:=lR u z (Uf ra X.l.length rc) (Uf rx X.n rd) (Uf Ho Y.l.length Hp) (Uf Hr Y.n Hq);go_wp2_with fail;obtain⟨s,A⟩:=D.out;refine zF (v:=Ul #[Uo #[Uf ra X.l.length rc,Uf rx X.n rd],Uo #[Uf Ho Y.l.length Hp,Uf Hr Y.n Hq],Ud Cc]) (by simp[results,results73,go_sem,s.c0,s.c1,A.c0,A.c1]) ?_;have hz:=Gm.out;rw[Hd.1,Hd.2.1,Hd.2.2];first
  |exact⟨ra,rc,rx,rd,Ho,Hp,Hr,Hq,rfl,jF H8 oM _ _ _ _,jF H9 oM _ _ _ _,mZ j _ _ _ _⟩
  |exact⟨ra,rc,rx,rd,Ho,Hp,Hr,⟨Hq,rfl⟩,jF H8 oM _ _ _ _,jF H9 oM _ _ _ _,mZ j _ _ _ _⟩):Q:=h
theorem qZ{Q:Prop}(h:Q:=by
 clear N hr;have Hb:=aC<|u.bw U u.lt;have Hc:=aC<|z.bw U z.lt;have Hf:=aC<|aE j U;clear u z j U Hu;have u:=Hb;have z:=Hc;have j:=Hf;clear Hb Hc Hf;obtain⟨r0,r1,rf,q0,q1,qf,D⟩:=lR u z Ue Ue Ue Ue;go_wp2_with fail;try rw[Hn]
 obtain⟨s,A⟩:=D.out;refine zF (v:=Ul #[Uo #[Ue,Ue],Uo #[Ue,Ue],Ud 3]) (by simp[results,results73,go_sem,s.c0,s.c1,A.c0,A.c1]) ?_;rw[Q.1,Q.2.1,Q.2.2];exact lI):Q:=h
theorem vY{Q:Prop}(h:Q:=by obtain⟨r0,r1,rf,q0,q1,qf,D⟩:=lR u z Ue Ue Ue Ue;go_wp2_with fail;obtain⟨s,A⟩:=D.out;refine zF (v:=Ul #[Uo #[Ue,Ue],Uo #[Ue,Ue],Ud 2]) (by simp[results,results73,go_sem,s.c0,s.c1,A.c0,A.c1]) ?_;rw[Q.1,Q.2.1,Q.2.2];exact lI):Q:=h
theorem R3(a:Option Us)(c:Nat)(xa:Option Us)(d:Nat)(pa:Option Us)(pc:Nat)(S:Sx)(rep:Int)(p:List ByteArray)(fl on:Bool)(v:ByteArray)(w:Ur)(hm:S.Sm)(hT:lC S.T)(h1:dH w a S.l)(h3:bI w xa S.n S.R S.F S.T)(hp:p.length<=1048576)(hpc:p.length<=pc/\pc<=9223372036854775807)(hseg:aV w pa p)(hv:v.size<=1048576)(hfv:fl=true->fO v=true):
  Cl 73 #[Uo #[Uf a S.l.length c,Uf xa S.n d],Ud rep,Uf pa p.length pc,Un fl,Un on,Um v] w λe w'=>∃a m x t a' m' x' t',e=Ui (Ul #[Uo #[Uf a (cR S rep p fl on v).l.length m,Uf x (cR S rep p fl on v).n t],Uo #[Uf a' (cO S rep p fl on v).l.length m',Uf x' (cO S rep p fl on v).n t'],Ud (eO S rep p fl on v)])/\aT w' w.1.size a m x (cR S rep p fl on v)/\aT w' w.1.size a' m' x' (cO S rep p fl on v)/\Bl w w':=by
 generalize hW:((w.alloc (Uj #[Uf a S.l.length c,Uf xa S.n d] 28)).alloc (Uj #[Ue,Ue] 28)).alloc (Uj #[Ue,Ue] 28)=W;have b0:Bl w W:=hW▸(aU _ _ _).alloc oS _;have zW:W.1.size=w.1.size+3:=hW▸oP;have A0:aD W w.1.size (Uf a S.l.length c) (Uf xa S.n d):=hW▸((aD.made w _ _ _).allocs _).allocs _;have R0:aD W (w.1.size+1) Ue Ue:=by
  rw[<-hW];have:=aD.made (w.alloc (Uj #[Uf a S.l.length c,Uf xa S.n d] 28)) Ue Ue 28;exact(by simpa using this:aD _ (w.1.size+1) _ _).allocs _
 have Q0:aD W (w.1.size+1+1) Ue Ue:=by
  rw[<-hW];simpa using aD.made ((w.alloc (Uj #[Uf a S.l.length c,Uf xa S.n d] 28)).alloc (Uj #[Ue,Ue] 28)) Ue Ue 28
 have Gp:=aC A0;have Gs:=aC R0;have Gr:=aC Q0;have G5:=aC b0;have Kc:=aC zW;have⟨k0,k1⟩:=A0.q2;have Gf:=aC<|Ad a c S.l xa S.n d S.R S.F S.T W hm.l1 hm.p1 hm.n1 (h1.bw b0) (h3.bw b0);change aA (Calls _ _ _ _ λe w'=>e=Ui (Un (fD S))/\_)at Gf;have H1:=aC h1;have H3:=aC h3;have Gg:=aC hseg;have Ga:=aC hpc;have G7:=aC hfv;have G8:=aC hm.n1;generalize hB:fD S=B;have Gb:=aC hB;rw[hB]at Gf;clear b0 zW A0 R0 Q0 h1 h3 hseg hB hpc hfv;go_enter func73,ntmps73;go_wp2_with fail;clear hW;refine Gf.mono ?_;rintro e w1⟨rfl,b1⟩;have j:=aC<|aE G5 b1;have u:=aC<|Gs.bw b1 Gs.lt;have z:=aC<|Gr.bw b1 Gr.lt;have H2:=aC<|Gp.bw b1 Gp.lt;have Gu:aA (w.1.size+3<=w1.1.size):=aC<|oJ Kc b1.size;clear b1 k0 k1 Gf;cases B with
 |false=>
  have Q:aA (cR S rep p fl on v=Sx.mt/\cO S rep p fl on v=Sx.mt/\eO S rep p fl on v=1):=aC (by
   have e:=Bi (p:=p) (v:=v) Gb;have:=rI (S:=S) (rep:=rep) (p:=p) (fl:=fl) (on:=on) (v:=v) (by rw[e];decide);rw[e]at this;exact this)
  have⟨r0,r1,rf,q0,q1,qf,D⟩:=lR u z Ue Ue Ue Ue;go_wp2_with fail;have⟨s,A⟩:=D.out;refine zF (v:=Ul #[Uo #[Ue,Ue],Uo #[Ue,Ue],Ud 1]) (by simp[results,results73,go_sem,s.c0,s.c1,A.c0,A.c1]) ?_;rw[Q.1,Q.2.1,Q.2.2];exact lI
 |true=>
  have Gj:=aC<|Mv p pa pc w1 hp (Gg.bw j);generalize hZ:yes (dW p)=Z;rw[hZ]at Gj;have Gv:=aC hZ;clear hZ;go_wp2_with fail;refine Gj.mono ?_;rintro e w2⟨rfl,rfl⟩;clear Gj;cases Z with
  |false=>
   have Q:aA (cR S rep p fl on v=Sx.mt/\cO S rep p fl on v=Sx.mt/\eO S rep p fl on v=2):=aC (by
    have e:=tN (p:=p) (v:=v) Gb (λh=>by have:=Gv.out;rw[aN h.1]at this;cases this);have:=rI (S:=S) (rep:=rep) (p:=p) (fl:=fl) (on:=on) (v:=v) (by rw[e];decide);rw[e]at this;exact this)
   exact vY
  |true=>
   by_cases Ge:v.size<=200
   .have i0:¬(v.size:Int)>200:=oM;have Gn:=sM.1 Gv;have hs:=gC Gb;have Gk:=aC hs;have G9:=aC Gn;have Kb:=aC Ge;have Gq:=aC<|Fe (p:=p) (v:=v) Gb ⟨Gn,Ge⟩;have Gi:=aC<|PZ xa S.n d S.R S.F S.T rep w2 G8 (H3.bw j) hT;rw[PF hs]at Gi;have l1:=H2.c1;have Ke:S.l.length<=1000:=hs.2.1;clear Gn hs Ge;go_wp2_with fail;refine Gi.mono ?_;rintro e w3⟨hy,Gz,b3⟩;clear Gi l1;obtain⟨I,dq,ok,he,G0,Gx⟩:∃I dq ok,e=Ui (Ul #[Uo #[Ud I,Ud dq],Un ok])/\ok=yes (jT S rep)/\(ok=true->I=rep/\dq=bQ S.R S.T rep S.n+1):=by
     cases hk:yes (jT S rep)with
     |true=>exact⟨rep,bQ S.R S.T rep S.n+1,true,hy hk,rfl,λ_=>⟨rfl,rfl⟩⟩
     |false=>exact⟨0,0,false,Gz hk,rfl,λh=>by cases h⟩
    clear hy Gz;subst he;have H7:=aC G0;have G6:=aC Gx;clear G0 Gx;generalize Hn:w3.alloc (Uj #[Ud I,Ud dq] 99)=b;have b4:Bl w3 b:=Hn▸zO _ _;have Hu:aA (aD b w3.1.size (Ud I) (Ud dq)):=aC<|Hn▸aD.made _ _ _ _;have U:=aC<|aE b3 b4;clear b3 b4;by_cases N:nO S rep on
    .have Kd:=aC N;have G1:0<=rep:=N.1.1;have G2:rep<8:=N.1.2;have G3:¬rep<0:=oM;have G4:¬8<=rep:=oM;have Gw:=aC<|tH (S:=S) (rep:=rep) (p:=p) (fl:=fl) (on:=on) (v:=v) Gq N;cases on;have Gl:aA (nI S rep p fl false v=aQ (cV p fl) S.l []):=aC rfl;clear N;rotate_left;obtain rfl:ok=true:=(by rw[H7.out];exact aN ⟨N.1,N.2 rfl⟩);have⟨e1,e2⟩:=G6 rfl;subst e1;have Gt:aA (nL S I p fl v=⟨p,fl,I,dq,v⟩):=aC (by unfold nL;rw[<-e2]);have Gl:aA (nI S I p fl true v=aQ (cV p fl) S.l [⟨p,fl,I,dq,v⟩]):=aC (by unfold nI Aq;rw[if_pos rfl,Gt.out]);have Ka:aA (dN S [⟨p,fl,I,dq,v⟩]):=aC (by rw[<-Gt.out];exact F5 Gk G9 Kb G7 ⟨N.1,N.2 rfl⟩);clear N e2;rotate_left;all_goals
      have K:=aC<|H2.bw U H2.lt;have Gh:=aC<|aE j U;generalize L:b.alloc (Uj #[] 4)=w5;have b5:Bl b w5:=L▸zO _ _;have H6:aA (BR w5 b.1.size (Uf (Uc b.1.size) 0 0) (fN (cV p fl) S.l 0)):=aC<|L▸BR.new _;have H4:=aC b5;clear b5;go_wp2_with fail
      clear L Hn;go_loopw [17,18] (λo i wr=>∃k:Nat,k<=S.l.length/\i=Ud k/\aA (Bl b wr)/\aA (BR wr b.1.size o (fN (cV p fl) S.l k))) (λ_ i _=>S.l.length-(intOf i).toNat);case atStart=>exact⟨0,UB _,rfl,H4,H6⟩
     all_goals
      clear H4 H6;obtain⟨k,hk,rfl,V,HO⟩:=hrel;have Hh:=aC<|aE Gh V;have A1:=K.bw V K.lt;have⟨k0,k1⟩:=A1.q2;by_cases P:k<S.l.length
      .exact BW
     all_goals
      obtain rfl:k=S.l.length:=oM;have⟨gg,gc,Go,H0,Hz⟩:=HO.cells;subst Go;rw[Dv];rw[Dv]at Hz;generalize L:wr.alloc (Uj #[] 101)=w5;have b5:Bl wr w5:=L▸zO _ _;have Hm:w5.ownsRow wr.1.size 101 5 (Uf (Uc wr.1.size) 0 0) 0 []:=by
       rw[<-L];exact Vo (base:=wr.1.size) (e:=101) (size:=5) wr #[] 0 zL oL rfl
     have bW:=b5;rotate_left;have⟨g7,c7,g,q,b7,Gy,q0,q1,q2,q3,q4⟩:=PM wr.1.size w5 wr.1.size pa p.length pc fl I dq v Hm b5.size;have bW:Bl wr g:=b5.trans b7;have Gd:dH g (Uc g7) [(⟨p,fl,I,dq,v⟩:Lf)]:=by
      refine .inr ⟨g7,0,rfl,Gy,λi hi=>?_⟩;obtain rfl:i=0:=oU hi;exact⟨pa,pc,⟨q0,Ga⟩,(Gg.bw Hh).bw bW,q1,q2,q3,q4⟩
     have D5:=(Hu.bw V Hu.lt).bw b5 (Hu.bw V Hu.lt).lt;have⟨t0,t1⟩:=D5.q2;rotate_left;all_goals have A7:=(K.bw V K.lt).bw bW (K.bw V K.lt).lt;have⟨t2,t3⟩:=A7.q2;have Hv:=aE V bW;have Hw:=aE Hh bW
     have Ht:=aC (N9 (cV p fl) [] a c xa d gg gc (Uc wr.1.size) 0 S w5 Gk (dN.nil S) (H1.bw Hw) (H3.bw Hw) (Ut H0 bW.size) (λi hi=>by
      rw[<-Fu hi];exact(bW.cell (p:=(Ua gg i)) H0).trans (Hz i hi)) (.inl rfl))
     generalize hX:eI S (aQ (cV p fl) S.l [])=X;generalize hY:eC S (aQ (cV p fl) S.l [])=Y;generalize Hx:fP S (aQ (cV p fl) S.l [])=Cc;rw[hX,hY,Hx]at Ht;have Hd:aA (cR S rep p fl false v=X/\cO S rep p fl false v=Y/\eO S rep p fl false v=Cc):=aC (by
      have⟨z1,z2,z3⟩:=Gw.out;rw[Gl.out]at z1 z2 z3;exact⟨z1.trans hX,z2.trans hY,z3.trans Hx⟩)
     have Hs:=aC Hv;have Gm:aA (w.1.size+3<=w5.1.size):=aC (by have h1:=Gu.out;have h2:=Hv.size;have h3:=U.size;omega);rotate_left;have Ht:=aC (N9 (cV p fl) [⟨p,fl,I,dq,v⟩] a c xa d gg gc (Uc g7) c7 S g Gk Ka (H1.bw Hw) (H3.bw Hw) (Ut H0 bW.size) (λi hi=>by
      rw[<-Fu hi];exact(bW.cell (p:=(Ua gg i)) H0).trans (Hz i hi)) Gd)
     generalize hX:eI S (aQ (cV p fl) S.l [⟨p,fl,I,dq,v⟩])=X;generalize hY:eC S (aQ (cV p fl) S.l [⟨p,fl,I,dq,v⟩])=Y;generalize Hx:fP S (aQ (cV p fl) S.l [⟨p,fl,I,dq,v⟩])=Cc;rw[hX,hY,Hx]at Ht;have Hd:aA (cR S I p fl true v=X/\cO S I p fl true v=Y/\eO S I p fl true v=Cc):=aC (by
      have⟨z1,z2,z3⟩:=Gw.out;rw[Gl.out]at z1 z2 z3;exact⟨z1.trans hX,z2.trans hY,z3.trans Hx⟩)
     have Hs:=aC Hv;have Gm:aA (w.1.size+3<=g.1.size):=aC (by have h1:=Gu.out;have h2:=Hv.size;have h3:=U.size;omega);rotate_left;all_goals clear hX hY Hx H0 Hz Hv Hw HO A1 A7 bW Hm k0 k1;have k0:=(K.bw V K.lt).c0
     .clear b5 V;go_wp2_with fail;try rw[L]
      clear L;exact xO
     .clear b5 D5 Gd q0 q1 q2 q3 q4 Gy b7 V;go_wp2_with (at_builtin;refine cL rfl _ _ _ _ rfl q (by rfl) (by rfl) rfl ?_;clear q);exact xO
    .have Q:=aC<|tI (S:=S) (rep:=rep) (p:=p) (fl:=fl) (on:=on) (v:=v) Gq N;by_cases hr:0<=rep/\rep<8
     .have G1:0<=rep:=hr.1;have G2:rep<8:=hr.2;have G3:¬rep<0:=oM;have G4:¬8<=rep:=oM;cases on with
      |true=>obtain rfl:ok=false:=(by rw[H7.out];exact aJ (λh=>N ⟨hr,λ_=>h.2⟩));exact qZ
      |false=>exact absurd ⟨hr,λh=>by cases h⟩ N
     .by_cases G3:rep<0
      .exact qZ
      .have G1:0<=rep:=oM;have G4:8<=rep:=oM;have G2:¬rep<8:=oM;exact qZ
   .have i0:(v.size:Int)>200:=oM;have Q:aA (cR S rep p fl on v=Sx.mt/\cO S rep p fl on v=Sx.mt/\eO S rep p fl on v=2):=aC (by
     have e:=tN (p:=p) (v:=v) Gb (λh=>Ge h.2);have:=rI (S:=S) (rep:=rep) (p:=p) (fl:=fl) (on:=on) (v:=v) (by rw[e];decide);rw[e]at this;exact this)
    clear Ge;exact vY
theorem bP.stepS{w2 w3:Ur}{D:DataW aB}{G:Int->aB}(h:bP w bm n D G L)
  (hb:Bl w w1) (hown:SR w2 (bm+1) v' l') (hne:l'≠[])
  (hgr:Gr w1 w2 (G r) v')
  (hD:w3.ownsMap prog 3 dT bm (n+1) (D.put (kI r) (.held v'))) (hgr3:w2.grownBy w3 (Uq bm)):
  bP w3 bm (n+1) (D.put (kI r) (.held v')) (eS G r v') (eS L r l'):=by
 have Q:=h.bw hb;have M:∀(w:Ur) (v:aB) (m:Nat) (O:List aB),w.ownsRow (bm+1) 225 2 v m O->v.ownBlock=Up\/v.ownBlock≠Uq bm:=by
  intro w v m O U;cases e:v.ownBlock with
  |none=>exact .inl rfl
  |some g=>exact .inr (λe2=>by have:=(U.lt g e).1;injection e2 with e2;omega)
 refine⟨hD,λx=>?_,λx=>?_,λx=>?_,?_⟩
 .by_cases e:x=r
  .exact qO
  .rw[cQ G v' e,atKey_put_other (qB e)];exact h.at' x
 .by_cases e:x=r
  .subst e;rw[dM,has_put_same h.own.isMap (show WideAt.IsKeyLit (kI x)from trivial)];cases l' with
   |nil=>exact absurd rfl hne
   |cons a b=>rfl
  .rw[cQ L _ e,has_put_other (qB e)];exact h.has' x
 .by_cases e:x=r
  .subst e;rw[dM,dM];exact World.ownsRow.kept hown hgr3<|M _ _ _ _ hown
  .rw[cQ G v' e,cQ L _ e];have j:=Q.rows x;have A:(G x).ownBlock=Up\/(G x).ownBlock≠(G r).ownBlock:=by
    cases e1:(G x).ownBlock with
    |none=>exact .inl rfl
    |some g=>exact .inr (λe2=>e (h.apart x r g e1 e2.symm))
   have s:=j.kept hgr.g A;exact s.kept hgr3<|M _ _ _ _ s
 .intro x y g j u;have E:∀z,z≠r->∀g,(G z).ownBlock=Uq g->v'.ownBlock=Uq g->False:=by
   intro z V g p t;rcases hgr.l with i|⟨k,i,A⟩
   .exact V<|h.apart z r g p (i▸t)
   .rw[i]at t;have Y:=((h.rows z).lt g p).2;have Z:=hb.size;injection t with t;omega
  by_cases o:x=r
  .subst o;rw[dM]at j;by_cases q:y=x
   .exact q.symm
   .rw[cQ G v' q]at u;exact(E y q g u j).elim
  .rw[cQ G v' o]at j;by_cases q:y=r
   .subst q;rw[dM]at u;exact(E x o g j u).elim
   .rw[cQ G v' q]at u;exact h.apart x y g j u
structure mN(L:Int->List (Int×Int))(ds:List Dt):Prop where
 srt:∀r,bL (L r)
 mem:∀r x,In (L r) x↔(r,x)∈ds
 last:∀r,∀q∈L r,∃d∈ds,d.1=r/\q.2=d.2
 len:∀r,(L r).length<=ds.length
theorem mN.nil:mN (λ_=>[]) []:=⟨λ_=>⟨List.Pairwise.nil,λp h=>(by cases h)⟩,λr x=>by simp[In],λr q h=>(by cases h),λr=>oP⟩
theorem Oq{α:Type}(l:List α):l=[]\/∃j q,l=j++[q]:=by
 rcases List.eq_nil_or_concat l with h|⟨j,q,h⟩
 .exact .inl h
 .exact .inr ⟨j,q,by rw[h];simp⟩
theorem Wy(l:List (Int×Int))(p:Int×Int):(gG l p).length<=l.length+1/\gG l p≠[]:=by
 rcases Oq l with rfl|⟨l,q,rfl⟩
 .simp[Do]
 .by_cases h:q.2+1<p.1
  .rw[Dp h];simp
  .rw[Cx h];simp
theorem WD{l:List (Int×Int)}{p:Int×Int}:∀q∈gG l p,q∈l\/q.2=p.2\/∃q'∈l,q.2=q'.2:=by
 rcases Oq l with rfl|⟨l,q,rfl⟩
 .intro q k;rw[Do]at k;rw[List.mem_singleton.1 k];exact .inr<|.inl rfl
 .intro u j;by_cases h:q.2+1<p.1
  .rw[Dp h]at j;rcases List.mem_append.1 j with j|j
   .exact .inl j
   .rw[List.mem_singleton.1 j];exact .inr<|.inl rfl
  .rw[Cx h]at j;rcases List.mem_append.1 j with j|j
   .exact .inl<|JN _ j
   .rw[List.mem_singleton.1 j];rcases Int.le_total q.2 p.2 with e|e
    .exact .inr (.inl (by simp only;omega))
    .exact .inr (.inr ⟨q,oP,by simp only;omega⟩)
theorem mN.step{ds:List Dt}{d:Dt}(h:mN L ds)(hd:1<=d.2/\d.2<=1000000000)(hle:∀e∈ds,e.1=d.1->e.2<=d.2):mN (eS L d.1 (gG (L d.1) (d.2,d.2))) (ds++[d]):=by
 have t:∀q∈L d.1,q.1<=d.2:=λq hq=>by
  have⟨e,g,k,j⟩:=h.last d.1 q hq;have:=hle e g k;have:=((h.srt d.1).2 q hq);omega
 have y:=Wg (p:=(d.2,d.2)) (h.srt d.1) ⟨hd.1,VI _,hd.2⟩ t;refine⟨λr=>?_,λr x=>?_,λr q hq=>?_,λr=>?_⟩
 .by_cases e:r=d.1
  .rw[e,dM];exact y.1
  .rw[cQ L _ e];exact h.srt r
 .by_cases e:r=d.1
  .rw[e,dM,y.2.1 x,h.mem,VZ,UY];refine or_congr Iff.rfl ⟨λhx=>?_,λhx=>?_⟩
   .simp only at hx;exact Prod.ext rfl (by simp only;omega)
   .have:=congrArg Prod.snd hx;simp only at this⊢;omega
  .rw[cQ L _ e,h.mem,VZ,UY];exact⟨.inl,λhx=>hx.resolve_right (λj=>e (congrArg Prod.fst j))⟩
 .by_cases e:r=d.1
  .rw[e,dM]at hq;rcases WD q hq with m|m|⟨o,m,z⟩
   .have⟨u,v,k,j⟩:=h.last d.1 q m;exact⟨u,JN _ v,k.trans e.symm,j⟩
   .exact⟨d,oP,e.symm,m⟩
   .have⟨u,v,k,j⟩:=h.last d.1 o m;exact⟨u,JN _ v,k.trans e.symm,z.trans j⟩
  .rw[cQ L _ e]at hq;have⟨u,v,k,j⟩:=h.last r q hq;exact⟨u,JN _ v,k,j⟩
 .rw[UM];by_cases e:r=d.1
  .rw[e,dM];have:=(Wy (L d.1) (d.2,d.2)).1;have:=h.len d.1;simp;omega
  .rw[cQ L _ e];have:=h.len r;omega
open Go.Sort Go.Lib Go.Shelf
theorem WO{ts:List Dt}(hs:SortedIn (ltOf fG) 0 ts.length ts.toArray):ts.Pairwise (λx y=>0<=fG y x):=by
 rw[List.pairwise_iff_getElem];intro i j hi m u;have k:=hs i j oM u m;have q:ts.toArray[i]! =ts[i]:=by rw[getElem!_pos _ _ (oU hi)];simp
 have r:ts.toArray[j]! =ts[j]:=by rw[getElem!_pos _ _ (oU m)];simp
 rw[q,r]at k;simpa[ltOf]using k
theorem RR{x y:Dt}(h:0<=fG y x)(e:x.1=y.1):x.2<=y.2:=by
 unfold fG dX bN at h;rw[e]at h;simp only[Int.lt_irrefl,if_false,if_true]at h;by_cases j:y.2<x.2
 .rw[if_pos j]at h;exact absurd h oD
 .omega
def XK(S:List Dt->Prop)(ts:List Dt):Prop:=∃ss,S ss/\ts.Perm ss
def Di{α:Type}(F:Fence)(n:Nat)(P:Program)(g:Nat)(lb:Array aB)(enc:α->aB)(S:List α->Prop)(N:Nat)(w:Ur):Prop:=
 ∀(l:Nat) (J:List α->Ur->Prop) (W:Ur),Bl w W->AbidesFrom W.1.size J->(∀pre W1,J pre W1->Bl w W1)->
  (∀pre x W1,J pre W1->pre.length<N->YieldAt F (n-1) P l #[enc x] W1 λe W'=>e=Ui (Un true)/\J (pre++[x]) W'/\KeepsWalks W1 W')->
  J [] W->
  CallsIn F n P g (#[.func (.yield l) #[] #[]]++lb) W λe W'=>(∃v,e=Ui v)/\∃xs,S xs/\J xs W'
namespace Ds
variable {A C D S Y Z:Sx}{B b bm c d g i j k lo lo' m n q r1 r2:Nat}{F R T f:Nat->Int}{J P acc l:List Lf}{L:Int->List (Int×Int)}{U ks zs:List Int}{a pa:Option Us}{e:TypeId}{fl:Bool}{l':List (Int×Int)}{p:List ByteArray}{r rep:Int}{s:ByteArray}{u ul:List Rn}{u0 u1 u2 u3 v v' v1 va vx:aB}{v0 w w' w1 wr:Ur}{x:Lf}{x0:Nat×Nat}{xs:List aB}{y:Ky}{z:List Ky}
theorem TU(n:Nat)(hn:2<=n)(g:Nat)(lb:Array aB)(eg:∀args w,(callFunc g args).run prog w=.ok (.enter g args) w)
  (S:List Dt->Prop) (N:Nat) (hN:N<=maxLen) (hNb:N*16<=140737488355328) (w:Ur) (hseq:Di Fence.wide (n-1) prog g lb aX S N w):
  CallsIn Fence.wide n prog 222 #[Ue,.func (.func g) #[] lb] w λe w'=>∃(v:aB) (y:List Dt),e=Ui v/\S y/\w'.ownsRow w.1.size 99 2 v y.length (kRow y)/\(v=Ue↔y=[])/\Bl w w':=by
 have R:222≠99:=oD;refine callsIn_of_wp_marks func222 rfl trivial ?_ rfl;simp only[ntmps222,YA,UP,YB,YL,YM,YS,YT,YC,YD,Yj,VX];gi_wp2;refine wpIn_rangeFunc ?_;intro r F;have⟨j,o⟩:=zE (w.alloc (Uj #[Ue] 222));have H:j.1.size=w.1.size+1:=o▸oP;have J:j.1[w.1.size]? =Uq (Uj #[Ue] 222 (0,0)):=o▸YQ w _;have i:Bl w j:=o▸(RowKit.Below.refl _ w).alloc zL _;rw[o];have⟨m,z⟩:=zE ((j.alloc (.deferred (Uq []))).alloc (.loop (fH r (.func (.func g) #[] lb) w.1.size j.1.size .ready)));have G:∀k,k<j.1.size->m.1[k]? =j.1[k]? :=λk hk=>by
  rw[<-z];exact(Below.heap_alloc _ _ k oS).trans (Below.heap_alloc _ _ k hk)
 have b:Bl w m:=by rw[<-z];exact(i.alloc i.size _).alloc (by have:=i.size;simp;omega) _
 have V:jS w r (.func (.func g) #[] lb) w.1.size (j.1.size+1) j.1.size [] m:=
  ⟨⟨_,(G w.1.size oM).trans J,⟨rfl,.inl ⟨rfl,rfl⟩⟩,oP⟩,
   by rw[<-z];have:=YQ (j.alloc (.deferred (Uq []))) (.loop (fH r (.func (.func g) #[] lb) w.1.size j.1.size .ready));rwa [World.size_alloc]at this,
   by rw[<-z];exact(Below.heap_alloc _ _ _ oP).trans (YQ j _),b⟩
 refine⟨j.1.size+1,[{target:=.collected j.1.size,args:=#[]}],m,{target:=.fn (.func g) lb,args:=#[.func (.yield (j.1.size+1)) #[] #[]]},m,g,
  #[.func (.yield (j.1.size+1)) #[] #[]]++lb,m,?_,?_,?_,?_,λ_=>oM,?_⟩
 .rw[<-z];exact run_enterLoop_outer _ _ _ _ _
 .simp[resolve,go_sem]
 .intro f' C;trivial
 .simp[invoke,go_sem,eg]
 .refine(hseq (j.1.size+1) (jS w r (.func (.func g) #[] lb) w.1.size (j.1.size+1) j.1.size) m b (uT _ _ _ _ _ _ _ b.size) (λ_ _ h=>h.bw)
   (λpre x W hJ hl=>Dq (n-1-1) w r _ w.1.size (j.1.size+1) j.1.size oM oM oM zL oM N hN hNb pre x W hJ hl) V).mono ?_
  rintro e A⟨⟨T,rfl⟩,y,Y,u⟩;have⟨v,I,p,Z⟩:=u.box;have O:=run_endLoop (P:=prog) u.L (by simp[fH]);obtain⟨q,t⟩:∃q,A.putObj (j.1.size+1) (.loop {fH r (.func (.func g) #[] lb) w.1.size j.1.size .ready with state:=.exhausted})=q:=⟨_,rfl⟩;rw[t]at O;have Q:A.grownBy q (Uq (j.1.size+1)):=t▸grownBy_putObj_a _ _ _;have X:q.1[w.1.size]? =Uq (Uj #[v] 222 (0,0)):=t▸(YO oM).trans I;have E:q.1[j.1.size]? =Uq (.deferred (Uq [])):=t▸(YO oM).trans u.K;have U:=p.kept Q (ownsRow_ne_a p u.L (λcur e=>by cases e));have M:Bl w q:=u.bw.grown Q u.bw.size (λk e=>by cases e;omega);have⟨B,D⟩:=cell_of_box_a X;have s:=aC U;refine⟨Up,q,O,?_⟩;gi_wp2;rw[<-H];refine⟨oP,.inl ⟨_,_,rfl,run_takeDeferred E,?_⟩⟩;exact⟨_,results_tmp rfl _ _ _,v,y,rfl,Y,s.kept (grownBy_putObj_a _ _ _) (ownsRow_ne_a s E (λcur e=>by cases e)),Z,M.grown (grownBy_putObj_a _ _ _) M.size (λk e=>by cases e;omega)⟩
theorem collectB(g:Nat)(lb:Array aB)(eg:∀args w,(callFunc g args).run prog w=.ok (.enter g args) w)
  (S:List Dt->Prop) (N:Nat) (hN:N<=maxLen) (hNb:N*16<=140737488355328) (w:Ur) (hseq:Di Fence.wide 4 prog g lb aX S N w):
  Cl 197 #[.func (.func g) #[] lb] w λe w'=>∃(v:aB) (j:List Dt),e=Ui v/\S j/\w'.ownsRow w.1.size 99 2 v j.length (kRow j)/\(v=Ue↔j=[])/\Bl w w':=by
 have m:=aC<|(callsIn_wide (n:=5)).1 (TU 5 oM g lb eg S N hN hNb w hseq);go_enter func197,ntmps197;exact qW
end Ds
theorem WP(g:Nat)(lb:Array aB)(eg:∀args w,(callFunc g args).run prog w=.ok (.enter g args) w)(N:Nat)(S:List Dt->Prop)(w:Ur)(hN:N<=1048576)(hSN:∀j,S j->j.length<=N)(hseq:Di Fence.wide 4 prog g lb aX S N w):
  Cl 174 #[.func (.func g) #[] lb,.func (.func 144) #[] #[]] w λe w'=>∃(v:aB) (m:List Dt),e=Ui v/\XK S m/\m.Pairwise (λx y=>0<=fG y x)/\m.length<=1048576/\w'.ownsRow w.1.size 99 2 v m.length (Ds.kRow m)/\Bl w w':=by
 have t:=aC<|Ds.collectB g lb eg _ N oL oM w hseq;go_enter func174,ntmps174;go_wp2_with fail;refine t.mono ?_;rintro e w1⟨v,j,rfl,r,u,H,h⟩;have B:=hSN j r;rcases u.2 with⟨rfl,J⟩|⟨Z,cap,L,rfl,G,X,r1,r2,C,D⟩
 .have I:j=[]:=UO J;subst I;have z:=aC h;have o:=aC r;have U:=aC u;have b:=AnyF.slices_SortFunc_none Tryz.sortD Up 0 (.func (.func 144) #[] #[]) w1;change Cl 198 _ _ _ at b;have q:=aC b;go_wp2_with fail;refine q.mono ?_;rintro e K⟨rfl,rfl⟩;go_wp2_with fail;go_ret;exact⟨_,[],rfl,⟨[],o,List.Perm.refl _⟩,List.Pairwise.nil,oP,U,z⟩
 .have q:=aC<|Ds.sortFuncK w.1.size Z cap j w1 u oM;have z:=aC h;have o:=aC r;have O:aA (j.length<=1048576):=aC oM;have Y:=aC G;go_wp2_with fail;refine q.mono ?_;rintro e K⟨rfl,m,A,E,s,p⟩;have Q:=aC s;have M:=aC (z.grown p z.size (λk e=>by injection e with e;have:=Y.out;omega));have i:=aC A;have V:=aC E;go_wp2_with fail;go_ret;refine⟨_,m,rfl,⟨j,o,i⟩,WO V,by rw[i.length_eq];exact O,?_,M⟩;rw[i.length_eq];exact Q
def gD(ds:List Dt)(i:Nat):Dt:=ds.getD i (0,0)
def pY(w:Ur)(a:Option Us)(ds:List Dt):Prop:=
 ds.length=0\/∃g,a=Uq (Ub g)/\g<w.1.size/\∀i,i<ds.length->w.cell? (Ua g (i*2))=Uq (Ud (gD ds i).1)/\w.cell? (Ua g (i*2+1))=Uq (Ud (gD ds i).2)
theorem pY.bw{ds:List Dt}(h:pY w a ds)(hb:Bl w w1):pY w1 a ds:=by
 rcases h with h|⟨g,e,j,k⟩
 .exact .inl h
 .exact .inr ⟨g,e,Ut j hb.size,λi hi=>⟨(hb.cell (p:=(Ua g _)) j).trans (k i hi).1,(hb.cell (p:=(Ua g _)) j).trans (k i hi).2⟩⟩
theorem IM{ds:List Dt}{d:Dt}(h:ds[i]? =Uq d):gD ds i=d:=by simp[gD,UL,h]
theorem IK{ds:List Dt}(h:i<ds.length):gD ds i∈ds:=by simp[gD,UL,h]
theorem Tn{ds:List Dt}(h:k<ds.length):ds.take (k+1)=ds.take k++[gD ds k]:=by
 rw[Vc];simp[gD,UL,h]
theorem zU{ts:List Dt}(h:w.ownsRow B 99 2 v ts.length (Ds.kRow ts)):∃a c,v=Uf a ts.length c/\pY w a ts/\ts.length<=c/\c<=9223372036854775807:=by
 have⟨a,c,e,u,y,z⟩:=Qe h;refine⟨a,c,e,?_,u,y⟩;by_cases r:ts.length=0
 .exact .inl r
 .have⟨g,q,_,o,t⟩:=z oM;exact .inr ⟨g,q,o,λi hi=>by
   have⟨d,j,k,m⟩:=t i hi;rw[IM j];exact⟨k,m⟩⟩
theorem MQ{B' s s' n':Nat}{e':TypeId}{xs':List aB}(h:w.ownsRow B e s v n xs)(h':w.ownsRow B' e' s' v' n' xs')(hne:e≠e'):v.ownBlock=Up\/v.ownBlock≠v'.ownBlock:=by
 rcases h.2 with⟨rfl,_⟩|⟨g,cap,r,rfl,_,m,_⟩
 .exact .inl rfl
 .refine .inr λe1=>?_;rcases h'.2 with⟨rfl,_⟩|⟨k,q,u,rfl,_,j,_⟩
  .cases e1
  .have:g=k:=(by simpa[Value.ownBlock]using e1);rw[<-this,m]at j;injection j with j;injection j with _ j;exact hne j
theorem QG(n l Bs g cap:Nat)(ds:List Dt)(J:List Dt->Ur->Prop)(hn:1<=n)(W0:Ur)(hlen:ds.length<=1048576)
  (hY:∀pre x W,J pre W->pre.length<ds.length->YieldAt Fence.wide (n-1) prog l #[aX x] W λe W'=>e=Ui (Un true)/\J (pre++[x]) W'/\KeepsWalks W W')
  (hJB:∀pre W1,J pre W1->Bl W0 W1) (W:Ur) (hJ:AbidesFrom W.1.size J) (hB0:Bs<W0.1.size) (hm:W0.cell? (Ub Bs)=Uq (Uf (Uc g) ds.length cap)) (hg:g<W0.1.size)
  (hc:∀i,i<ds.length->W0.cell? (Ua g (i*2))=Uq (Ud (gD ds i).1)/\W0.cell? (Ua g (i*2+1))=Uq (Ud (gD ds i).2)) (h0:J [] W):
  CallsIn Fence.wide n prog 219 #[.func (.yield l) #[] #[],Uk (Uc Bs)] W λe W'=>(∃v,e=Ui v)/\∃ss,ss=ds/\J ss W':=by
 have F:W.cell? (Ub Bs)=Uq (Uf (Uc g) ds.length cap):=((hJB [] W h0).cell (p:=(Ub Bs)) hB0).trans hm;have Q:=aC hJ;have Y:=aC hY;have U:=aC hJB;have b:=aC hc;refine callsIn_of_wp func219 rfl trivial ?_ rfl;simp only[ntmps219,YA,UP,YB,YL,YM,YS,YT,YC,YD,Yj,VX];gi_wp2;gi_loopw [7] (λi wr=>∃k:Nat,k<=ds.length/\i=Ud k/\J (ds.take k) wr/\W.1.size<=wr.1.size)
  (λi _=>ds.length-(intOf i).toNat)
 case atStart=>exact⟨0,UB _,rfl,h0,Ux _⟩
 case round=>
  obtain⟨k,D,rfl,j,P⟩:=hrel;by_cases o:k<ds.length
  .obtain⟨z,y,t⟩:∃r q,gD ds k=(r,q):=⟨_,_,rfl⟩;have h:=U _ _ j;have M:=(h.cell (p:=(Ua g (k*2))) hg).trans (b k o).1;have O:=(h.cell (p:=(Ua g (k*2+1))) hg).trans (b k o).2;rw[t]at M O;dsimp only at M O;generalize m:wr.alloc (Uj #[Ud z,Ud y] 99)=u;have A:J (ds.take k) u:=(by rw[<-m];exact Q _ wr _ Up j (World.grownBy_alloc wr _ Up) (λr e=>by cases e));have⟨C,T,L,N,I,E⟩:=Y (ds.take k) (z,y) u A (by rw[Vk];omega);have s:aD u wr.1.size (Ud z) (Ud y):=m▸aD.made _ _ _ _;have⟨X,B⟩:=s.q2;have V:aA (ds.take (k+1)=ds.take k++[(z,y)]):=aC (by rw[Tn o,t]);have Z:aA (W.1.size<=u.1.size):=aC (by rw[<-m];simp;omega);have R:(0:Int)<=(k:Int):=VH _;have S:(k:Int)<(ds.length:Int):=oM;dsimp only[aX,iE]at I E⊢;gi_wp2;refine E.mono ?_;rintro e K⟨rfl,G,H⟩;gi_wp2;go_roundw;case rel=>exact⟨k+1,oM,oN,by rw[V.out];exact G,oJ Z H.size⟩
   case measure=>exact oE
  .obtain rfl:k=ds.length:=oM;gi_wp2;go_end0;exact⟨⟨_,rfl⟩,ds,rfl,by rw[Vj]at j;exact j⟩
theorem QF(n l Bs cap:Nat)(a:Option Us)(J:List Dt->Ur->Prop)(W:Ur)(hm:W.cell? (Ub Bs)=Uq (Uf a 0 cap))(h0:J [] W):
  CallsIn Fence.wide n prog 219 #[.func (.yield l) #[] #[],Uk (Uc Bs)] W λe W'=>(∃v,e=Ui v)/\∃ss:List Dt,ss=[]/\J ss W':=by
 refine callsIn_of_wp func219 rfl trivial ?_ rfl;simp only[ntmps219,YA,UP,YB,YL,YM,YS,YT,YC,YD,Yj,VX];gi_wp2;gi_loopw [7] (λi wr=>i=Ud 0/\J [] wr) (λ_ _=>0);case atStart=>exact⟨rfl,h0⟩
 case round=>obtain⟨rfl,j⟩:=hrel;gi_wp2;go_end0;exact⟨⟨_,rfl⟩,[],rfl,j⟩
theorem WG(Bs cap:Nat)(a:Option Us)(ds:List Dt)(w:Ur)(hlen:ds.length<=1048576)(hB:Bs<w.1.size)(hm:w.cell? (Ub Bs)=Uq (Uf a ds.length cap))(hs:pY w a ds):
  Di Fence.wide 4 prog 219 #[Uk (Uc Bs)] aX (λss=>ss=ds) ds.length w:=λl J W hW hJ hJB hY h0=>by
 rcases hs with h|⟨g,rfl,k,j⟩
 .have e:ds=[]:=UO h;subst e;exact QF 4 l Bs cap a J W ((hW.cell (p:=(Ub Bs)) hB).trans hm) h0
 .exact QG 4 l Bs g cap ds J oM w hlen hY hJB W hJ hB hm k j h0
theorem QH(a:Option Us)(n c:Nat)(w:Ur):Cl 193 #[Uf a n c] w λe w'=>e=Ui (.func (.func 219) #[] #[Uk (Uc w.1.size)])/\w'=w.alloc (Uj #[Uf a n c] 222):=by
 go_enter func193,ntmps193;go_wp2_with fail;go_ret;exact⟨rfl,rfl⟩
def DR(w:Ur)(B:Nat)(v:aB)(ts:List Dt):Prop:=w.ownsRow B 99 2 v ts.length (Ds.kRow ts)
theorem QM(a b:List Dt):Ds.kRow (a++b)=Ds.kRow a++Ds.kRow b:=by simp[Ds.kRow]
theorem DR.bw{ts:List Dt}(h:DR w B v ts)(hb:Bl w w1):DR w1 B v ts:=uR h hb
theorem DR.nil(w:Ur)(B:Nat):DR w B Ue []:=Vw _ _ _ _
theorem DR.weak{C:Nat}{ts:List Dt}(h:DR w B v ts)(hc:C<=B):DR w C v ts:=by
 refine⟨h.1,?_⟩;rcases h.2 with e|⟨g,cap,j,e,k,r⟩
 .exact .inl e
 .exact .inr ⟨g,cap,j,e,Uz hc k,r⟩
theorem yO(B B':Nat)(v x:aB)(ts ss:List Dt)(w:Ur)(ty:TypeId)(h:DR w B v ts)(h':DR w B' x ss)(hB:B<=w.1.size)(hl:ts.length+ss.length<=1000000000):
  ∃v' w',(Builtin.append_ #[222,222] ty #[v,x]).run prog w=.ok v' w'/\DR w' B v' (ts++ss)/\Gr w w' v v':=by
 have⟨m,hi,z,t,o⟩:=info_parts Ds.infoDt;rcases h'.2 with⟨rfl,q⟩|⟨g,cap,s,rfl,Q,U,A,E,M,O⟩
 .have:ss=[]:=UO q;subst this;exact⟨v,w,run_append_owned_none w B _ ty 99 m 2 underlying222 hi v ts.length _ h,oU h,Gr.refl _ _⟩
 .have⟨v',w',y,i,b,V,p⟩:=run_append_own_at (P:=prog) w B 222 ty 99 m (Uo #[Ud 0,Ud 0]) 2 16 underlying222 hi z t o rfl oD v ts.length _ h (Ub g) ss.length cap (Ds.kRow ss) (by rw[Ds.kRow_len])
   (λj u hj=>by
    have r:j<ss.length*2:=by
     have:=(List.getElem?_eq_some_iff.1 hj).1;rw[Ds.kRow_len]at this;exact this
    have:=World.ownsRow.cellAt h' j r;rw[hj]at this;by_cases e:j=0
    .subst e;simpa[Addr.add]using this
    .simpa[Addr.add,e]using this)
   (λu hu=>by
    unfold Ds.kRow at hu;have⟨d,_,k⟩:=List.mem_flatMap.1 hu;simp[Ds.kCells]at k;rcases k with rfl|rfl<;>rfl) oL oM hB
  refine⟨v',w',y,?_,Gr.app b p⟩;unfold DR;rw[UM,QM];exact i
theorem Qs{o:Option Nat}(h:o=Up\/o≠Uq k):o≠Uq k:=by
 rcases h with h|h
 .rw[h];simp
 .exact h
theorem L8{α β:Type}{t:TypeId}{kv:α->aB}{vo:Option β->aB}{r cnt:Nat}{f:α->Option β}{ds:List α}{s:Nat}(h:w.ownsRow B e s v n xs)(hr:dV w t kv vo (Uq b) r c f ds cnt):(v.ownBlock=Up\/v.ownBlock≠Uq r)/\(v.ownBlock=Up\/v.ownBlock≠Uq b):=by
 have⟨D,p,⟨z,u,M,E,q,k,F,i,o,m,A⟩,_⟩:=hr;rcases h.2 with⟨rfl,_⟩|⟨g,cap,y,rfl,_,j,_⟩
 .exact⟨.inl rfl,.inl rfl⟩
 .refine⟨.inr λe=>?_,.inr λe=>?_⟩
  .have:g=r:=(by simpa[Value.ownBlock]using e);rw[this,m]at j;cases j
  .have:g=b:=(by simpa[Value.ownBlock]using e);rw[this,k]at j;cases j
def kV(J:List Lf)(z:List Ky)(d:Dt):Prop:=∃x∈J,z <+:aS x/\(x.r,x.q)=d
def Ej(J:List Lf)(z:List Ky)(d:Dt):Prop:=∃x∈J,aS x=z/\(x.r,x.q)=d
theorem TY{ks:List Ky}{d:Dt}(hk:∀x∈J,∀y,z++[y] <+:aS x->y∈ks):kV J z d↔Ej J z d\/∃y∈ks,kV J (z++[y]) d:=by
 constructor
 .rintro⟨x,j,⟨s,k⟩,e⟩;cases s with
  |nil=>exact .inl ⟨x,j,k▸oP,e⟩
  |cons y s=>have m:z++[y] <+:aS x:=(by rw[<-k,show z++y::s=(z++[y])++s by simp];exact Yf _ _);exact .inr ⟨y,hk x j y m,x,j,m,e⟩
 .rintro(⟨x,j,h,e⟩|⟨y,_,x,j,h,e⟩)
  .exact⟨x,j,by rw[h];exact Ya _,e⟩
  .exact⟨x,j,List.IsPrefix.trans (Yf _ _) h,e⟩
theorem PI{d:Dt}:Mk J J.length z d≠Up↔Ej J z d:=by
 rw[lT];constructor
 .rintro⟨j,q,k,m⟩;exact⟨gL J j,bJ.2 ⟨j,q,rfl⟩,k,m⟩
 .rintro⟨x,r,k,m⟩;have⟨j,q,e⟩:=bJ.1 r;exact⟨j,q,by rw[e];exact k,by rw[e];exact m⟩
theorem QL(hd:fK J J.length){ss:List Dt}(h:iM (Mk J J.length z) ss):ss.length=mW J z:=by
 have j:=Zs hd z;have:=((List.perm_ext_iff_of_nodup h.1 j.1).2 (λx=>(h.2 x).trans (j.2 x).symm)).length_eq;rw[this,UR];rfl
theorem Wu{N:List Ky->Option (Nat×Nat)}(H:TJ v0 B J N c)(hc:c<=100000)(hJ:J.length<=1000)(z:List Ky)(x:Nat×Nat)(hx:N z=Uq x)
  (hIH:∀y K,N (z++[y])=Uq K->∀w,Bl v0 w->Cl 192 #[Uo #[.map (Uq K.1),.map (Uq K.2)]] w λe w'=>(∃v j,e=Ui v/\DR w' w.1.size v j/\(∀d,d∈j↔kV J (z++[y]) d)/\j.length=cW J (z++[y]))/\Bl w w')
  (w:Ur) (hw:Bl v0 w):
  Cl 192 #[Uo #[.map (Uq x.1),.map (Uq x.2)]] w λe w'=>(∃v j,e=Ui v/\DR w' w.1.size v j/\(∀d,d∈j↔kV J z d)/\j.length=cW J z)/\Bl w w':=by
 have HT:=aC (H.bw hw);have HV:=aC hw;have HX:=aC hx;have HI:=aC hIH;have Ge:=aC H.dis;generalize C:w.alloc (Uj #[.map (Uq x.1),.map (Uq x.2)] 107)=W;have b0:Bl w W:=C▸zO _ _;have X0:aD W w.1.size (.map (Uq x.1)) (.map (Uq x.2)):=C▸aD.made _ _ _ _;have H4:=aC X0;have U:=aC b0;have K:=X0.c1;have H0:=aC (And.intro hc hJ);have Gm:=aC H.there;have HG:aA (∀w1,Bl w w1->∀Bm,Bm<w1.1.size->w1.cell? (Ub Bm)=Uq (.map (Uq x.2))->∃n,n<=1048576/\SeqGives Fence.wide 4 prog 199 #[Uk (Uc Bm)] aX (iM (Mk J J.length z)) n w1):=aC (λw1 o Bm hBm hm=>by
  have⟨D,hF⟩:=(HT.tre.bw o).marks z x HX;exact⟨Maps.size D,Uz hF.own.size_le (oH H0.1),Ds.keysGivesK Bm x.2 c _ D w1 hBm hm hF⟩)
 clear H hc hx hIH hw b0 X0 hJ;go_enter func192,ntmps192;go_wp2_with fail;clear C;refine(Ds.keysFnK (Uq x.2) W).mono ?_;rintro e w1⟨rfl,S⟩;have o:Bl W w1:=by rw[S];exact zO _ _
 have V:w1.cell? (Ub W.1.size)=Uq (.map (Uq x.2)):=by rw[S];simp
 have z1:W.1.size<w1.1.size:=by rw[S];simp
 have Hj:=aC<|U.trans (o.mono U.size);have H3:=aC o;have⟨n,hn,Hi⟩:=HG w1 Hj W.1.size z1 V;have HS:=aC<|Ds.collectK _ _ (enters_of func199 oK rfl) _ n oL oM w1 Hi;clear Hi S o V z1 K HG;go_wp2_with fail;refine HS.mono ?_;rintro e m⟨Gy,Hv,rfl,hK,He,_,b2⟩;have⟨s,E,A,Y⟩:=jY He;subst Y;have H9:=aC<|Hj.trans (b2.mono Hj.size);have Hq:=aC<|aE H3 b2;have Gk:aA (DR m W.1.size (Uf s E A) Hv):=aC<|DR.weak He H3.size;have HK:=aC hK;have Gf:aA (aO m 175 aP bE x.1 c (λy=>N (z++[y]))):=aC<|(HT.tre.bw H9).kids z x HX;have x0:=(H4.bw Hq H4.lt).c0;have Go:aA (W.1.size<=m.1.size):=aC Hq.size;clear hK He b2 HS;go_wp2_with (at_range;refine uY _ rfl _ 104 rfl 175 107 gH underlying104 aP bE (Uq x.1) c (λy=>N (z++[y])) rfl Gf ?_;intro w0 Gs Hd M Gw);have Hr:Bl m w0:=⟨M.os,M.tape,M.output,M.size,λk r=>M.block k r oP⟩;have Hz:aA (Bl W w0):=aC<|aE Hq Hr;have H1:aA (DR w0 W.1.size (Uf s E A) Hv):=aC<|Gk.bw Hr;clear M Gw x0 Hr;try go_frame
 go_loopw [3] (λt wr=>∃(q:List Ky) (Hs:Nat) (j:List Dt),dV wr 175 aP bE (Uq x.1) m.1.size c (λy=>N (z++[y])) q Hs/\aA (DR wr W.1.size t j)/\aA (∀d,d∈j↔Ej J z d\/∃y∈q,kV J (z++[y]) d)/\aA (j.length=mW J z+(q.map λy=>cW J (z++[y])).sum)/\aA (Bl W wr)/\aA (m.1.size<=wr.1.size)) (λt wr=>wr.rangeLeft x.1 m.1.size);case atStart=>exact⟨[],_,Hv,Hd,H1,aC (λd=>by rw[HK.2 d,PI];simp),aC (by rw[QL Ge.out HK.out];simp),Hz,aC (oH Hd.lt)⟩
 case round=>
  clear Hd Hz H1;have⟨q,Hs,j,R,X,HM,HL,Hm,Gr⟩:=hrel;have Hb:=aC R;have⟨s,E,A,Y⟩:=jY X;subst Y;go_wp2_with (at_next;refine uV _ rfl _ rfl 175 gH aP (λ_ _=>oB) (λkey kl r=>uS r) bE (Uq x.1) m.1.size c (λy=>N (z++[y])) q Hs rfl R ?_ ?_)
  .intro r;have Hc:∀u∈J,∀y,z++[y] <+:aS u->y∈q:=λu hu y hp=>(r.2 y).2 (λhn=>by
    have:=(Gm z y).2 ⟨u,hu,hp⟩;rw[show N (z++[y])=Up from hn]at this;cases this)
   have HE:aA ((∀d,d∈j↔kV J z d)/\j.length=cW J z):=aC ⟨λd=>by rw[HM d,TY Hc],by rw[HL.out,Ii z q r.1 J Hc]⟩;have Gl:aA (DR wr w.1.size (Uf s E A) j):=aC<|X.weak U.size;clear r R Hc;go_wp2_with fail;go_ret;exact⟨⟨_,j,rfl,Gl,HE.1,HE.2⟩,aE U Hm⟩
  .intro Q O Hw Hx G Hf H7 Gu kl Gt Hh Hg F Gx H6;have Gg:=aC (λw1 (o:Bl v0 w1)=>HI.out (Q,O) (Hw,Hx) H7 w1 o);have Gj:aA (∀w9,dV w9 175 aP bE (Uq x.1) m.1.size c (λy=>N (z++[y])) (q++[(Q,O)]) Hf->w9.rangeLeft x.1 m.1.size<wr.rangeLeft x.1 m.1.size):=aC (λw9 h9=>by
    rw[h9.left_eq,Hb.left_eq];exact Hg)
   have Hy:aA (Bl W G):=aC (Hm.grown F Hm.size (λk e=>by cases e;exact Go));have Hn:=aC Hh;have Gb:aA (DR G W.1.size (Uf s E A) j):=aC<|World.ownsRow.kept X F (L8 X Hb).1;generalize T:G.alloc (Uj #[.map (Uq Hw),.map (Uq Hx)] 107)=I;have p:Bl G I:=T▸zO _ _;have K6:aD I G.1.size (.map (Uq Hw)) (.map (Uq Hx)):=T▸aD.made _ _ _ _;have Hk:=aC<|Hy.trans (p.mono Hy.size);have Gn:aA (Bl v0 I):=aC<|HV.trans ((aE U Hk).mono HV.size);have Ho:=aC<|Hn.same (λb e=>p.block b (Hn.mlt b e)) (p.block _ Hn.lt);have Gc:=aC<|Gb.bw p;have Gp:aA (m.1.size<=I.1.size):=aC (by have:=Gr.out;have:=F.size;have:=p.size;omega);have⟨c0,V⟩:=K6.q2;clear H7 Gu Gt R Hh Hg F Gx p K6;dsimp only[aP,bE]at H6⊢;go_wp2_with fail;refine(Gg _ Gn).mono ?_;rintro e w7⟨⟨v7,Z,rfl,H5,H8,Hu⟩,b7⟩;have Hl:=aC<|Hk.trans (b7.mono Hk.size);have Hp:=aC<|Ho.same (λb e=>b7.block b (Ho.mlt b e)) (b7.block _ Ho.lt);have L:=aC<|Gc.bw b7;have Ha:j.length+Z.length<=1000000000:=by
    have h1:=Fo J z q;have h2:=Hb.len;have h3:=H0.out;have h4:q.length*J.length<=100000*1000:=YK oM oM;have h5:=P5 J z;have h6:=Bq J<|z++[(Q,O)];rw[HL.out,Hu];omega
   have⟨v8,w8,Gv,Ht,P⟩:=yO W.1.size I.1.size (Uf s E A) v7 j Z w7 222 L H5 Hl.size Ha;have H2:aA (dV w8 175 aP bE (Uq x.1) m.1.size c (λy=>N (z++[y])) (q++[(Q,O)]) Hf):=aC (Hp.kept P.g (λb e=>by cases e;exact Qs (L8 L Hp).2) (Qs (L8 L Hp).1));have Ga:aA (Bl W w8):=aC (Hl.grown P.g Hl.size (λk r=>(World.ownsRow.lt L k r).1));have Gi:aA (∀d,d∈j++Z↔Ej J z d\/∃y∈q++[(Q,O)],kV J (z++[y]) d):=aC (λd=>by
    rw[VZ,HM.out d,H8 d];constructor
    .rintro((h|⟨y,i,h⟩)|h)
     .exact .inl h
     .exact .inr ⟨y,JN _ i,h⟩
     .exact .inr ⟨_,oP,h⟩
    .rintro(h|⟨y,i,h⟩)
     .exact .inl<|.inl h
     .rcases List.mem_append.1 i with i|i
      .exact .inl<|.inr ⟨y,i,h⟩
      .rw[List.mem_singleton.1 i]at h;exact .inr h)
   have Gh:aA ((j++Z).length=mW J z+((q++[(Q,O)]).map λy=>cW J (z++[y])).sum):=aC (by
    rw[UM,HL.out,Hu];simp;omega)
   have Gd:=aC Ht;have Gq:aA (m.1.size<=w8.1.size):=aC (by have:=Gp.out;have:=b7.size;have:=P.g.size;omega);have⟨ga,gn,gc,Y⟩:=jY Ht;subst Y;clear b7 c0 V H6 T H5 H8 Hu Ht P Ha;go_wp2_with (at_builtin;refine cL rfl _ _ _ _ rfl Gv rfl rfl rfl ?_);go_roundw;case rel=>exact⟨_,_,j++Z,H2,Gd,Gi,Gh,Ga,Gq⟩
   case measure=>exact Gj w8 H2
theorem Q1{v0:Ur}{B c:Nat}{J:List Lf}{N:List Ky->Option (Nat×Nat)}(H:TJ v0 B J N c)(hc:c<=100000)(hJ:J.length<=1000)(h8:∀x∈J,(aS x).length<=8):
  ∀d z x,z.length+d=8->N z=Uq x->∀w,Bl v0 w->Cl 192 #[Uo #[.map (Uq x.1),.map (Uq x.2)]] w λe w'=>(∃v ts,e=Ui v/\DR w' w.1.size v ts/\(∀d,d∈ts↔kV J z d)/\ts.length=cW J z)/\Bl w w'
 |0,z,x,hz,hx,w,hw=>Wu H hc hJ z x hx (λy x1 h1=>absurd (H.deep h8 (z++[y]) (by rw[h1];simp)) oS) w hw
 |d+1,z,x,hz,hx,w,hw=>Wu H hc hJ z x hx (λy x1 h1=>Q1 H hc hJ h8 d (z++[y]) x1 oS h1) w hw
theorem RG(w:Ur):Cl 192 #[Uo #[.map Up,.map Up]] w (Rt w Ue):=by
 generalize q:w.alloc (Uj #[.map Up,.map Up] 107)=W;have b:Bl w W:=q▸zO _ _;have u:aD W w.1.size (.map Up) (.map Up):=q▸aD.made _ _ _ _;have i:=aC u;have Z:=aC b;have D:=u.c1;clear b u;go_enter func192,ntmps192;go_wp2_with fail;clear q;refine(Ds.keysFnK Up W).mono ?_;rintro e w1⟨rfl,r⟩;have s:Bl W w1:=by rw[r];exact zO _ _
 have v:w1.cell? (Ub W.1.size)=Uq (.map Up):=by rw[r];simp
 have Y:W.1.size<w1.1.size:=by rw[r];simp
 have I:=aC s;have V:SeqGives Fence.wide 4 prog 199 #[Uk (Uc W.1.size)] aX (iM (λ_:Dt=>(Up:Option ByteArray))) 0 w1:=λl J W' hW' hJ hY h0=>Ds.keysNilK 4 l W.1.size J W' hJ ((hW'.cell (p:=(Ub W.1.size)) Y).trans v) h0;have g:=aC<|Ds.collectK _ _ (enters_of func199 oK rfl) _ 0 oL oM w1 V;clear V r s v Y D;go_wp2_with fail;refine g.mono ?_;rintro e z⟨B,X,rfl,M,L,O,A⟩;have E:X=[]:=List.eq_nil_iff_forall_not_mem.2<|λd hd=>(M.2 d).1 hd rfl;have K:B=Ue:=O.2 E;subst K;have o:=aC<|aE I A;have x0:=(i.bw o i.lt).c0;have H:aA (MO z 175 aP bE Up 0 (λ_:Ky=>(Up:Option (Nat×Nat)))):=aC<|λx=>rfl;clear M L O E A g;go_wp2_with (at_range;refine uY _ rfl _ 104 rfl 175 107 gH underlying104 aP bE Up 0 (λ_:Ky=>(Up:Option (Nat×Nat))) rfl H ?_;intro C F U j N);have h:aA (Bl W C):=aC<|aE o ⟨j.os,j.tape,j.output,j.size,λk m=>j.block k m oP⟩;clear j N x0;try go_frame
 go_loopw [3] (λt wr=>t=Ue/\(∃y,dV wr 175 aP bE Up z.1.size 0 (λ_:Ky=>(Up:Option (Nat×Nat))) [] y)/\aA (Bl W wr)) (λt wr=>0);case atStart=>exact⟨rfl,⟨_,U⟩,h⟩
 case round=>clear U h;obtain⟨rfl,⟨y,Q⟩,G⟩:=hrel;go_wp2_with (at_next;refine uV _ rfl _ rfl 175 gH aP (λ_ _=>oB) (λkey kl m=>uS m) bE Up z.1.size 0 (λ_:Ky=>(Up:Option (Nat×Nat))) [] y rfl Q ?_ ?_);intro m;clear m Q;go_wp2_with fail;go_ret;exact⟨rfl,aE Z G⟩
def gI(ks:List Int)(i:Nat):Int:=ks.getD i 0
def lQ(w:Ur)(g:Nat)(ks:List Int):Prop:=g<w.1.size/\∀i,i<ks.length->w.cell? (Ua g i)=Uq (Ud (gI ks i))
theorem lQ.bw(h:lQ w g ks)(hb:Bl w w1):lQ w1 g ks:=
 ⟨Ut h.1 hb.size,λi hi=>(hb.cell (p:=(Ua g _)) h.1).trans (h.2 i hi)⟩
theorem IJ(h:i<ks.length):gI ks i∈ks:=by simp[gI,UL,h]
theorem LY(h:k<ks.length):ks.take (k+1)=ks.take k++[gI ks k]:=by
 rw[Vc];simp[gI,UL,h]
theorem iG.tj(h:iG w x0 bm S)(hd:fK S.l S.l.length):∃N B,TJ w B S.l N (9*S.l.length)/\N []=Uq x0:=by
 have⟨n,D,G,N,B,g,t,q,r,u⟩:=h;refine⟨N,B,⟨q,λz y=>?_,hd⟩,r⟩;rw[u];constructor
 .rintro(e|⟨j,k,m⟩)
  .simp at e
  .exact⟨gL S.l j,bJ.2 ⟨j,k,rfl⟩,m⟩
 .rintro⟨x,v,m⟩;have⟨j,k,e⟩:=bJ.1 v;exact .inr ⟨j,k,by rw[e];exact m⟩
theorem NN{N:List Ky->Option (Nat×Nat)}(H:TJ v0 B J N c)(hr:N []=Uq x0)(hc:c<=100000)(hJ:J.length<=1000)(h8:∀x∈J,(aS x).length<=8)(z:List Ky)(w:Ur)(hw:Bl v0 w):
  Cl 192 #[Uo #[.map (mF (N z)),.map (mS (N z))]] w λe w'=>(∃v ts,e=Ui v/\DR w' w.1.size v ts/\(∀d,d∈ts↔kV J z d)/\ts.length=cW J z)/\Bl w w':=by
 cases hz:N z with
 |some x=>have h:=H.deep h8 z (by rw[hz];simp);exact Q1 H hc hJ h8 (8-z.length) z x oM hz w hw
 |none=>
  refine(RG w).mono ?_;rintro e w'⟨rfl,b⟩;have j:∀x∈J,¬z <+:aS x:=λx hx hp=>by
   rcases Oq z with e|⟨k,y,e⟩
   .rw[e,hr]at hz;cases hz
   .have:=(H.there k y).2 ⟨x,hx,e▸hp⟩;rw[<-e,hz]at this;cases this
  refine⟨⟨_,[],rfl,DR.nil _ _,λd=>⟨λh=>(by cases h),λ⟨x,hx,hp,_⟩=>absurd hp (j x hx)⟩,?_⟩,b⟩;unfold cW;rw[List.filter_eq_nil_iff.2 (λx hx=>by rw[aJ (j x hx)];simp)];rfl
theorem V6{N:List Ky->Option (Nat×Nat)}(H:TJ v0 B J N c)(hr:N []=Uq x0)(hc:c<=100000)(hJ:J.length<=1000)(h8:∀x∈J,(aS x).length<=8)
  (p:List ByteArray) (a:Option Us) (cp:Nat) (bm g kc:Nat) (ks:List Int) (hp:p.length<=1048576) (hs:∀i,(gS p i).size<=1048576) (y:∀k∈ks,(Lit.int Uh k).wf=true) (hkl:ks.length<=3) (w:Ur) (hw:Bl v0 w) (hseg:aV w a p) (hks:lQ w g ks):
  Cl 167 #[Uo #[.map (Uq x0.1),.map (Uq x0.2),.map (Uq bm)],Uf a p.length cp,Uf (Uc g) ks.length kc] w λe w'=>(∃v j,e=Ui v/\DR w' w.1.size v j/\(∀d,d∈j↔∃k∈ks,kV J (aG p k) d)/\j.length=(ks.map λk=>cW J (aG p k)).sum)/\Bl w w':=by
 generalize E:w.alloc (Uj #[.map (Uq x0.1),.map (Uq x0.2),.map (Uq bm)] 111)=W;have b0:Bl w W:=E▸zO _ _;have X0:aH W w.1.size (.map (Uq x0.1)) (.map (Uq x0.2)) (.map (Uq bm)):=E▸aH.made _ _ _ _ _;have Hc:=aC X0;have V:=aC b0;have HT:=aC H;have HV:=aC hw;have Ha:=aC hr;have Hq:=aC hseg;have Hk:=aC hks;have Hl:=aC y;have Hs:=aC hs;have o:=aC<|And.intro hc (And.intro hJ h8);go_enter func167,ntmps167;go_wp2_with fail;go_loopw [7,12] (λt i wr=>∃(k:Nat) (j:List Dt),k<=ks.length/\i=Ud k/\aA (DR wr W.1.size t j)/\aA (∀d,d∈j↔∃q∈ks.take k,kV J (aG p q) d)/\aA (j.length=((ks.take k).map λk=>cW J (aG p k)).sum)/\aA (j.length<=k*1000)/\aA (Bl W wr)) (λt i _=>ks.length-(intOf i).toNat);case atStart=>exact⟨0,[],UB _,rfl,aC (DR.nil _ _),aC (λd=>oP),aC oP,aC oP,aC zI⟩
 case round=>
  obtain⟨k,j,y,rfl,Y,HM,S,T,u⟩:=hrel;have⟨fa,fn,fc,L⟩:=jY Y;subst L;by_cases O:k<ks.length
  .have i1:(0:Int)<=(k:Int):=VH _;have i2:(k:Int)<(ks.length:Int):=oM;have s:=aE V u;have q0:=((Hk.bw s).2 k O);have D:=Hl _ (IJ O);generalize C:gI ks k=r;rw[C]at q0 D;have Hb:aA (ks.take (k+1)=ks.take k++[r]):=aC (by rw[LY O,C]);have X:=Hc.bw u Hc.lt;have⟨Hu,Hv,Hw⟩:=X.q3;have Q:=HV.trans (s.mono HV.size);have G:=BZ p a cp r B c N _ wr hp Hs D (Hq.bw s) (HT.tre.bw Q);rw[Ha.out]at G;have U:=aC G;have P:=aC (λw1 (b:Bl wr w1)=>NN HT Ha o.1 o.2.1 o.2.2 (aG p r) w1 (Q.trans (b.mono Q.size)));generalize Hf:mF (N (aG p r))=m0;generalize Hg:mS (N (aG p r))=m1;rw[Hf,Hg]at U P;dsimp only[mF,mS,Option.map]at U;go_wp2_with fail;refine U.mono ?_;rintro e w1⟨rfl,b⟩;have F:=aC b;go_wp2_with fail;refine(P w1 F).mono ?_;rintro e w2⟨⟨v2,z,rfl,Hd,Hh,M⟩,b2⟩;have Z:=aE F b2;have K:=Y.bw Z;have A:=u.trans (Z.mono u.size);have Hr:cW J (aG p r)<=1000:=Uz (Bq _ _) o.2.1;have⟨v3,w3,Ht,I,He⟩:=yO W.1.size w1.1.size (Uf fa fn fc) v2 j z w2 222 K Hd A.size (by have:=T.out;rw[M];omega);have Hi:aA (Bl W w3):=aC (A.grown He.g A.size (λk y=>(World.ownsRow.lt K k y).1));have Hj:=aC I;have Ho:aA (∀d,d∈j++z↔∃q∈ks.take (k+1),kV J (aG p q) d):=aC (λd=>by
    rw[Hb.out,VZ,HM.out d,Hh d];constructor
    .rintro(⟨q,m,h⟩|h)
     .exact⟨q,JN _ m,h⟩
     .exact⟨r,oP,h⟩
    .rintro⟨q,m,h⟩;rcases List.mem_append.1 m with m|m
     .exact .inl ⟨q,m,h⟩
     .rw[List.mem_singleton.1 m]at h;exact .inr h)
   have Hm:aA ((j++z).length=((ks.take (k+1)).map λk=>cW J (aG p k)).sum):=aC (by rw[Hb.out,UM,S.out,M];simp);have Hn:aA ((j++z).length<=(k+1)*1000):=aC (by rw[UM,M];have:=T.out;omega);have⟨ga,gn,gc,L⟩:=jY I;subst L;go_wp2_with (at_builtin;refine cL rfl _ _ _ _ rfl Ht rfl rfl rfl ?_);go_roundw;case rel=>exact⟨k+1,j++z,O,oN,Hj,Ho,Hm,Hn,Hi⟩
   case measure=>exact oE
  .obtain rfl:k=ks.length:=oM;have R:aA ((∀d,d∈j↔∃k∈ks,kV J (aG p k) d)/\j.length=(ks.map λk=>cW J (aG p k)).sum):=aC ⟨λd=>by have:=HM d;rw[Vj]at this;exact this,by have:=S.out;rw[Vj]at this;exact this⟩;have Hp:aA (DR wr w.1.size (Uf fa fn fc) j):=aC<|Y.weak V.size;go_wp2_with fail;go_ret;exact⟨⟨_,j,rfl,Hp,R.1,R.2⟩,aE V u⟩
def Ek(ds:List Dt):Prop:=∀d∈ds,(0<=d.1/\d.1<8)/\1<=d.2/\d.2<=1000000000
theorem mN.bd{ds:List Dt}(h:mN L ds)(r:Int):∀q∈L r,0<=q.2/\q.2<=1000000000:=λq hq=>by
 have:=(h.srt r).2 q hq;omega
theorem Tv(a:Option Us)(cp:Nat)(ds:List Dt)(w:Ur)(hlen:ds.length<=2000)(hok:Ek ds)(h:pY w a ds):
  Cl 168 #[Uf a ds.length cp] w λe w'=>(∃bm n D G L,e=Ui (.map (Uq bm))/\n<=2000/\bP w' bm n D G L/\(∀r,bL (L r))/\(∀r x,In (L r) x↔(r,x)∈ds)/\(∀r,(L r).length<=2000)/\w.1.size<=bm)/\Bl w w':=by
 have Gd:=@run_makeMap prog;generalize V:w.alloc (.map #[] 0)=w1;have b1:Bl w w1:=V▸zO _ _;have Hp:aA (bP w1 w.1.size 0 (.map []) (λ_=>Ue) (λ_=>[])):=aC<|V▸Dm w;have Gb:aA (w1.1.size=w.1.size+1):=aC<|V▸oP;have Hy:=aC b1;have Hr:=aC<|h.bw b1;have H5:=aC hok;clear b1 h hok;go_enter func168,ntmps168;go_wp2_with fail;refine(QH a ds.length cp w1).mono ?_;rintro e s⟨rfl,R⟩;have N:Bl w1 s:=by rw[R];exact zO _ _
 have c2:s.cell? (Ub w1.1.size)=Uq (Uf a ds.length cp):=by rw[R];simp
 have z2:w1.1.size<s.1.size:=by rw[R];simp
 have Hs:=aC (WP _ _ (enters_of func219 oK rfl) ds.length (λT=>T=ds) s oM (λT e=>by rw[e];exact Ux _) (WG w1.1.size cp a ds s oM z2 c2 (Hr.bw N)));have Hn:=aC<|aE Hy N;have He:=aC N;clear R N c2 V Gd;go_wp2_with fail;refine Hs.mono ?_;rintro e w3⟨v,m,rfl,⟨T,rfl,F⟩,Hc,Gi,Hd,b3⟩;obtain⟨ta,tc,rfl,_,Ge,Gf⟩:=zU Hd;have Hg:=aC Hd;have Ho:=aC<|Hn.trans (b3.mono Hn.size);have Hq:=aC<|(Hp.bw He).bw b3;have HP:=aC F;have H8:=aC Hc;have Gg:m.length<=2000:=by rw[F.length_eq];exact hlen
 have H6:aA (Ek m):=aC<|λd o=>H5.out d (F.mem_iff.1 o);have Hu:aA (w.1.size<w3.1.size):=aC (by have:=Gb.out;have:=He.size;have:=b3.size;omega);clear Hd b3 F Hc Hs Hp Hr;go_wp2_with fail;go_loopw [11] (λi wr=>∃(k:Nat) (D:DataW aB) (G:Int->aB) (L:Int->List (Int×Int)),k<=m.length/\i=Ud k/\aA (bP wr w.1.size k D G L)/\aA (mN L (m.take k))/\aA (Bl w wr)/\aA (wr.ownsRow s.1.size 99 2 (Uf ta m.length tc) m.length (Ds.kRow m))/\aA (w.1.size<wr.1.size)) (λi _=>m.length-(intOf i).toNat);case atStart=>exact⟨0,_,_,_,UB _,rfl,Hq,aC (oU mN.nil),Ho,Hg,Hu⟩
 case round=>
  clear Hq Ho Hg Hu;obtain⟨k,D,G,L,C,rfl,Q,A,HB,HO,E⟩:=hrel;by_cases p:k<m.length
  .obtain⟨r,q,o⟩:∃r q,gD m k=(r,q):=⟨_,_,rfl⟩;have⟨a',c',e',Hk,_,_⟩:=zU HO;injection e' with e1 e2 e3;subst e1 e3;obtain⟨g,rfl,hg,hc⟩:∃g,ta=Uq (Ub g)/\g<wr.1.size/\∀i,i<m.length->wr.cell? (Ua g (i*2))=Uq (Ud (gD m i).1)/\wr.cell? (Ua g (i*2+1))=Uq (Ud (gD m i).2):=by
    rcases Hk with h|h
    .omega
    .exact h
   have q0:=(hc k p).1;have q1:=(hc k p).2;rw[o]at q0 q1;dsimp only at q0 q1;have B:=H6 _ (IK p);rw[o]at B;dsimp only at B;have Hw:(Lit.int Uh r).wf=true:=eX oM oM;have H9:aA (m.take (k+1)=m.take k++[(r,q)]):=aC (by rw[Tn p,o]);have H3:aA (∀e∈m.take k,e.1=r->e.2<=q):=aC (λe he e1=>by
    have⟨j,hj,ej⟩:=JI he;rw[Vk]at hj;rw[List.getElem_take]at ej;have hs:=List.pairwise_iff_getElem.1 H8 j k oM p oM;have ek:m[k]=(r,q):=(by rw[<-o];simp[gD,UL,p]);rw[ej,ek]at hs;exact RR (x:=e) (y:=(r,q)) hs e1)
   generalize U:wr.alloc (Uj #[Ud r,Ud q] 99)=u;have bW:Bl wr u:=U▸zO _ _;have zW:u.1.size=wr.1.size+1:=U▸oP;have X1:aD u wr.1.size (Ud r) (Ud q):=U▸aD.made _ _ _ _;have⟨r0,r1⟩:=X1.q2;have X:=Q.bw bW.drew;have Hv:=X.look r Hw;generalize M:G r=G0;rw[M]at Hv;have P:SR u.drew (w.1.size+1) G0 (L r):=M▸X.rows r;obtain⟨Y,Z,H,Hi⟩:∃Y Z H,G0=Uf Y Z H:=jY P;subst Hi;have Hx:=aC (Ac (w.1.size+1) (Uf Y Z H) (L r) q q u.drew (by have:=E.out;show w.1.size+1<=u.1.size;omega) (by have:=A.len r;rw[Vk]at this;omega) P (A.bd r));have Hh:Uq wr.1.size≠(Value.slice Y Z H).ownBlock:=λe=>by
    have:=((Q.rows r).lt _ (by rw[M];exact e.symm)).2;omega
   have Hj:Uq w.1.size≠(Value.slice Y Z H).ownBlock:=λe=>by
    have:=((Q.rows r).lt _ (by rw[M];exact e.symm)).1;omega
   have Hf:=aC X.own;have Hl:=aC bW.drew;have H1:=aC M;have Ht:=aC P;have Ga:=aC Hw;have J:=aC (And.intro Hh Hj);have H0:=aC B;have Hm:=aC zW;have i1:(0:Int)<=(k:Int):=VH _;have i2:(k:Int)<(m.length:Int):=oM;clear Hk hc o B P bW X X1 M Hh Hj;go_wp2_with fail;clear q0 q1 U;refine zR (S:=λw'=>w'.cell? (Ub wr.1.size)=Uq (Ud r)/\w'.cell? (Ua wr.1.size 1)=Uq (Ud q)) ⟨r0,r1⟩ (λqh=>?_);refine tY 0 15 ?_;refine tY 2 17 ?_;refine tY 4 19 ?_;refine tY 7 22 ?_;refine tY 9 24 ?_;refine tZ 11 26 ?_;refine cZ 6 ?_;intro K t;go_simp;refine bZ t ⟨r0,r1⟩ (λqh=>?_);clear t K;refine cZ 12 ?_;intro K t;go_simp;refine Hx.mono ?_;rintro e w5⟨v',rfl,Ha,z⟩;have O:w5.cell? (Ub wr.1.size)=Uq (Ud r)/\w5.cell? (Ua wr.1.size 1)=Uq (Ud q):=⟨z.g.cell r0 J.1,z.g.cell r1 J.1⟩;refine bZ t ⟨O.1,O.2⟩ (λqh=>?_);clear t K;refine cZ 13 ?_;intro K t;rw[if_pos (by rfl)];refine BH _ _ _ _ _ (by rfl) 3 183 (int_keyed underlying3) underlying109 dT w.1.size k D (by rfl) (Hf.kept z.g J.2) oL (Ud r) v' (kI r) (by rfl) (by rfl) (keyOf_int_mk underlying3 Ga) (.held v') [] (Nr Ha) ?_;intro I Hb b;have W:I.cell? (Ub wr.1.size)=Uq (.int Uh r)/\I.cell? (Ua wr.1.size 1)=Uq (.int Uh q):=⟨b.cell O.1 (by have:=E.out;simp;omega),b.cell O.2 (by have:=E.out;simp;omega)⟩;refine bZ t ⟨W.1,W.2⟩ (λqh=>?_);clear t K;refine zD ?_;have H2:aA (bP I w.1.size (k+1) (D.put (kI r) (.held v')) (eS G r v') (eS L r (gG (L r) (q,q)))):=aC (Q.stepS Hl Ha (Wy _ _).2 (by rw[H1.out];exact z) Hb b);have H7:aA (mN (eS L r (gG (L r) (q,q))) (m.take (k+1))):=aC (by
    rw[H9.out];exact A.step (d:=(r,q)) H0.2 H3)
   have H4:aA (I.ownsRow s.1.size 99 2 (Uf (Uc g) m.length tc) m.length (Ds.kRow m)):=aC (by
    have o1:=uR HO Hl;have o2:=o1.kept z.g (MQ o1 Ht oD);exact o2.kept b (yS o2 (Hf.kept z.g J.2)))
   have Hz:=aC (((HB.trans (Hl.mono HB.size)).grown z.g (by have:=E.out;show w.1.size<=u.1.size;have:=Hm.out;omega) (λk C=>oH ((World.ownsRow.lt Ht k C).1))).grown b (by have h1:=z.g.size;have h2:=E.out;have h3:=Hm.out;have h4:u.drew.1.size=u.1.size:=rfl;omega) (λk C=>oI C));have Gc:aA (w.1.size<I.1.size):=aC (by have h1:=z.g.size;have h2:=E.out;have h3:=Hm.out;have h4:u.drew.1.size=u.1.size:=rfl;have h5:=b.size;omega);clear qh O W Ha z Hb b Hv;go_wp2_with fail;go_roundw;case rel=>exact⟨k+1,_,_,_,p,oN,H2,H7,Hz,H4,Gc⟩
   case measure=>exact oE
  .obtain rfl:k=m.length:=oM;have HE:aA ((∀r x,In (L r) x↔(r,x)∈T)/\∀r,(L r).length<=2000):=aC ⟨λr x=>by
    have:=A.mem r x;rw[Vj,HP.mem_iff]at this;exact this,λr=>by have:=A.len r;rw[Vj]at this;omega⟩
   go_wp2_with fail;go_ret;exact⟨⟨w.1.size,m.length,D,G,L,rfl,Gg,Q,A.srt,HE.1,HE.2,Ux _⟩,HB⟩
theorem MJ(h:eE S.R S.F S.T S.n S.l):nC S.l:=
 ⟨λi hi=>(jU h _ (bJ.2 ⟨i,hi,rfl⟩)).1,λi hi=>(jU h _ (bJ.2 ⟨i,hi,rfl⟩)).2.1,λi hi=>(jU h _ (bJ.2 ⟨i,hi,rfl⟩)).2.2.1,h.2.1,h.2.2.2⟩
theorem xN{Q:Prop}(h:Q:=by
 obtain⟨r0,r1⟩:=u.q2;have f0:=u.f 0;have f1:=u.f 1;have HC:=aC<|u.set Ue Ue;have r:=(L.setAt (Ua (w.1.size+1+1) 0) Ue oQ).setAt (Ua (w.1.size+1+1) 1) Ue oQ;obtain⟨q0,q1⟩:=r.q2;have Gw:=r.f 0;have Gx:=r.f 1;have Hw:=aC<|r.set Ue Ue;have Hq:=aC<|(HC.setAt (Ua (w.1.size+1+1+1) 0) Ue oQ).setAt (Ua (w.1.size+1+1+1) 1) Ue oQ;clear u L r;go_wp2_with fail;obtain⟨P,s1⟩:=Hq.q2;obtain⟨s2,s3⟩:=Hw.q2;refine zF (v:=Ul #[Uo #[Ue,Ue],Uo #[Ue,Ue],Ud 4]) (by simp[results,results169,go_sem,P,s1,s2,s3]) ⟨Up,0,Up,0,Up,0,Up,0,w.1.size,by rw[j.1,j.2.1,j.2.2];rfl,?_,?_,?_⟩
 .rw[j.1];exact aM.mt _ Sx.mt rfl rfl _ _ ⟨Ux _,by simp[Vr];exact E.size⟩ _ _ _
 .rw[j.2.1];exact aM.emp _ _ _ _ _ (by simp[Vr];exact E.size)
 .exact(((E.setCell oS _).setCell oS _).setCell oS _).setCell oS _):Q:=h
theorem Wd{y0:Nat×Nat}{bm':Nat}(w:Ur)(h:iG w x0 bm S)(h':iG w y0 bm' D)(hv:jZ w y0 bm' D.l ul)(hD:D=cT D.l ul)(hs:eE S.R S.F S.T S.n S.l)(hs':eE D.R D.F D.T D.n D.l):
  Cl 169 #[Uo #[.map (Uq x0.1),.map (Uq x0.2),.map (Uq bm)],Uo #[.map (Uq y0.1),.map (Uq y0.2),.map (Uq bm')]] w λe w'=>∃a c x d q c' x' d' mid,e=Ui (Ul #[Uo #[Uf a (eI S D).l.length c,Uf x (eI S D).n d],Uo #[Uf q (eC S D).l.length c',Uf x' (eC S D).n d'],Ud (fP S D)])/\aM w' w.1.size mid a x d (eI S D)/\aM w' mid w'.1.size q x' d' (eC S D)/\Bl w w':=by
 have⟨W,i⟩:=zE ((((w.alloc (Uj #[.map (Uq x0.1),.map (Uq x0.2),.map (Uq bm)] 111)).alloc (Uj #[.map (Uq y0.1),.map (Uq y0.2),.map (Uq bm')] 111)).alloc (Uj #[Ue,Ue] 28)).alloc (Uj #[Ue,Ue] 28));have N:Bl w W:=i▸((aU _ _ _).alloc oS _).alloc oS _;have zW:W.1.size=w.1.size+4:=i▸oP;have Z:∀(v:Ur) (o:Obj),Bl v (v.alloc o):=λv o=>zO _ _;have A0:aH W w.1.size (.map (Uq x0.1)) (.map (Uq x0.2)) (.map (Uq bm)):=by
  rw[<-i];exact(((aH.made w _ _ _ _).bw (Z _ _) oP).bw (Z _ _) (by simp;try omega)).bw (Z _ _) (by simp;try omega)
 have B0:aH W (w.1.size+1) (.map (Uq y0.1)) (.map (Uq y0.2)) (.map (Uq bm')):=by
  rw[<-i];have:=aH.made (w.alloc (Uj #[.map (Uq x0.1),.map (Uq x0.2),.map (Uq bm)] 111)) (.map (Uq y0.1)) (.map (Uq y0.2)) (.map (Uq bm')) 111;exact((by simpa using this:aH _ (w.1.size+1) _ _ _).bw (Z _ _) oP).bw (Z _ _) (by simp;try omega)
 have R0:aD W (w.1.size+1+1) Ue Ue:=by
  rw[<-i];have:=aD.made ((w.alloc (Uj #[.map (Uq x0.1),.map (Uq x0.2),.map (Uq bm)] 111)).alloc (Uj #[.map (Uq y0.1),.map (Uq y0.2),.map (Uq bm')] 111)) Ue Ue 28;exact(by simpa using this:aD _ (w.1.size+1+1) _ _).allocs _
 have Q0:aD W (w.1.size+1+1+1) Ue Ue:=by
  rw[<-i];simpa using aD.made (((w.alloc (Uj #[.map (Uq x0.1),.map (Uq x0.2),.map (Uq bm)] 111)).alloc (Uj #[.map (Uq y0.1),.map (Uq y0.2),.map (Uq bm')] 111)).alloc (Uj #[Ue,Ue] 28)) Ue Ue 28
 have Ge:=aC (Zf W (h.bw N) (h'.bw N) hs hs');have Gh:aA ((aR S D).l.length<=2000/\(eY S D).length<=4000):=aC (Fr hs hs');have Hg:=aC (And.intro (yJ hs hs') (And.intro (λx hx=>(qD hs hs' x hx).2.2.2) (And.intro (Qc hs hs') (λhl=>R9 hs hs' hl))));have Hf:=aC (And.intro hs'.2.2.2 (And.intro (λx hx=>(jU hs' x hx).2.2.2) (And.intro hs'.2.2.1 (MJ hs'))));have M:aA (D.l.length<=1000/\ul.length<=2000/\D.n=ul.length):=aC (by
  have e:D.n=ul.length:=by rw[hD];rfl
  exact⟨hs'.2.1,e▸hs'.1.2,e⟩)
 have Gg:=aC<|hv.bw N;have Hs:=aC hD;have Hc:=aC B0;have V:=aC R0;have U:=aC Q0;have Hp:=aC N;have Gv:=aC zW;have⟨k0,k1,k2⟩:=A0.q3;have⟨l0,l1,l2⟩:=B0.q3;go_enter func169,ntmps169;go_wp2_with fail;refine Ge.mono ?_;rintro e w1⟨⟨H,bd,rfl,lv⟩,b1⟩;have⟨w2,Hm⟩:=zE (w1.alloc (Uj #[.map (Uq H.1),.map (Uq H.2),.map (Uq bd)] 111));have b2:Bl w1 w2:=Hm▸zO _ _;have X2:aH w2 w1.1.size (.map (Uq H.1)) (.map (Uq H.2)) (.map (Uq bd)):=Hm▸aH.made _ _ _ _ _;have Hj:=aC X2;have Gi:=aC<|lv.bw b2;have Gt:=aC<|aE b1 b2;have Gu:aA (W.1.size<=w1.1.size):=aC b1.size;have Hi:=aC<|Io w2 Gi Hg.1 Hg.2.1 (oH Gh) (oH Gh);have Gc:aA ((decide ((aR S D).l.length<=1000)&&decide ((eY S D).length<=1000))=fL S D):=aC rfl;rw[Gc.out]at Hi;have⟨I,H4⟩:=zE (fL S D);rw[H4]at Hi;have Hu:=aC H4;have⟨e0,e1,e2⟩:=X2.q3;go_wp2_with fail;refine Hi.mono ?_;rintro e w3⟨rfl,b3⟩;have Y:=aC<|aE Gt b3;have Ha:=aC b3;cases I with
 |false=>have j:=aC (rM (S:=S) (D:=D) (by unfold iD;rw[Hu.out];rfl));have u:=V.bw Y V.lt;have L:=U.bw Y U.lt;have E:=aC<|aE Hp Y;exact xN
 |true=>
  have Hz:=aC<|Io w3 (Gg.bw Y) Hf.1 Hf.2.1 (oH M) (oH M);have⟨B2,H5⟩:=zE ((decide (D.l.length<=1000)&&decide (ul.length<=1000)));rw[H5]at Hz;have Gb:aA ((decide (D.l.length<=1000)&&decide (D.n<=1000))=B2):=aC (by rw[M.2.2];exact H5);have BB:=Hc.bw Y Hc.lt;have⟨l0,l1,l2⟩:=BB.q3;go_wp2_with fail;refine Hz.mono ?_;rintro e p⟨rfl,b4⟩;have t:=aC<|aE Y b4;have Hb:=aC b4;cases B2 with
  |false=>have j:=aC (rM (S:=S) (D:=D) (by unfold iD;rw[Gb.out];simp));have u:=V.bw t V.lt;have L:=U.bw t U.lt;have E:=aC<|aE Hp t;exact xN
  |true=>
   have j:=aC (rL (S:=S) (D:=D) (by unfold iD;rw[Hu.out,Gb.out];rfl));have J:=aC ((Hj.bw Ha Hj.lt).bw Hb (Hj.bw Ha Hj.lt).lt);have Hd:=aC (Hc.bw t Hc.lt);have Hh:aA (∀w',Bl p w'->(w'.cell? (Ub w1.1.size)=Uq (.map (Uq H.1))/\w'.cell? (Ua w1.1.size 1)=Uq (.map (Uq H.2))/\w'.cell? (Ua w1.1.size 2)=Uq (.map (Uq bd))/\w'.cell? (Ua (w.1.size+1) 0)=Uq (.map (Uq y0.1))/\w'.cell? (Ua (w.1.size+1) 1)=Uq (.map (Uq y0.2))/\w'.cell? (Ua (w.1.size+1) 2)=Uq (.map (Uq bm')))):=aC (λw' b=>by
    have A1:=J.bw b J.lt;have I:=Hd.bw b Hd.lt;exact⟨A1.c0,A1.c1,A1.c2,I.c0,I.c1,I.c2⟩)
   have Hx:=aC (λk (g:Bl p k)=>Cd k (((Gi.bw Ha).bw Hb).bw g) Hg.2.2.1 (Hg.2.2.2 (by have:=Hu.out;unfold fL at this;simp at this;exact this.1)));have Hy:=aC (λk (g:Bl p k)=>Cd k ((Gg.bw t).bw g) Hf.2.2.1 Hf.2.2.2);have Gm:=aC (aE Hp t);have Gl:=aC (V.bw t V.lt);have Gj:=aC (U.bw t U.lt);have⟨O,H8⟩:=zE ((aR S D).l.length);have⟨z,H9⟩:=zE ((eY S D).length);have⟨s,H6⟩:=zE D.l.length;have⟨A,H7⟩:=zE ul.length;rw[H8,H9]at Hx;rw[H6,H7]at Hy;have m:=aC (And.intro H8 (And.intro H9 (And.intro H6 H7)));have H1:aA (w.1.size+4<=p.1.size/\w1.1.size<p.1.size/\w.1.size+4<=w1.1.size):=aC (by
    have h1:=Gv.out;have h2:=t.size;have h3:=J.lt;have h4:=Gu.out;exact⟨oM,oM,oM⟩)
   go_wp2_with fail;refine zS Hh<|λqh=>?_;refine tZ 0 21 ?_;refine tZ 2 23 ?_;refine cZ 1 ?_;intro K y;go_simp;refine(Hx _ zI.drew).mono ?_;rintro e k⟨⟨a,c,x,d,rfl,C,B,Hn⟩,g⟩;have Hl:Bl p k:=⟨g.os,g.tape,g.output,g.size,g.block⟩;have Gf:=aC C;have Gd:=aC B;have H2:aA (p.1.size+2<=k.1.size):=aC Hn;refine bZ y (Hh _ Hl)<|λqh=>?_;refine cZ 3 ?_;intro K y;go_simp;refine(Hy _ Hl).mono ?_;rintro e G⟨⟨q,c',x',d',rfl,C,B,Ho⟩,X⟩;have Q:=aE Hl X;have Hv:=aC C;have Ht:=aC B;have H3:aA (k.1.size+2<=G.1.size):=aC Ho;refine bZ y (Hh _ Q)<|λqh=>?_;have R6:=Gl.bw Q Gl.lt;have⟨t0,t1,tf⟩:=R6.p2;have Ga:=H1.out;have Gr:=aC<|R6.set (Uf a O c) (Uf x z d);have Hk:=aC<|((J.bw Q J.lt).far (eZ G (Ua (w.1.size+1+1) 0) (Uf a O c)) oQ).far (eZ _ (Ua (w.1.size+1+1) 1) (Uf x z d)) oQ;have He:=aC<|((Hd.bw Q Hd.lt).far (eZ G (Ua (w.1.size+1+1) 0) (Uf a O c)) oQ).far (eZ _ (Ua (w.1.size+1+1) 1) (Uf x z d)) oQ;have Gk:=aC<|((Gj.bw Q Gj.lt).setAt (Ua (w.1.size+1+1) 0) (Uf a O c) oQ).setAt (Ua (w.1.size+1+1) 1) (Uf x z d) oQ;have H0:=aC<|(Hk.far (eZ _ (Ua (w.1.size+1+1+1) 0) (Uf q s c')) oQ).far (eZ _ (Ua (w.1.size+1+1+1) 1) (Uf x' A d')) oQ;have Hr:=aC<|(He.far (eZ _ (Ua (w.1.size+1+1+1) 0) (Uf q s c')) oQ).far (eZ _ (Ua (w.1.size+1+1+1) 1) (Uf x' A d')) oQ;have Gs:=aC<|(Gr.setAt (Ua (w.1.size+1+1+1) 0) (Uf q s c') oQ).setAt (Ua (w.1.size+1+1+1) 1) (Uf x' A d') oQ;have Gq:=aC<|Gk.set (Uf q s c') (Uf x' A d');have Gn:=aC<|aE Gm Q;have Go:aA (aM G (p.1.size+2) k.1.size a x d (aR S D)):=aC (aM.bw (aM.of (ul:=eY S D) (by rw[m.1];exact Gf) (by rw[show(aR S D).n=z from m.2.1];exact Gd) rfl rfl rfl rfl H2) X);have Gp:aA (aM G (k.1.size+2) G.1.size q x' d' D):=aC (aM.of (ul:=ul) (by rw[m.2.2.1];exact Hv) (by rw[M.2.2,m.2.2.2];exact Ht) M.2.2 (by rw[Hs.out];rfl) (by rw[Hs.out];rfl) (by rw[Hs.out];rfl) H3);refine cZ 4 ?_;intro K y;go_simp;refine bZ y ⟨Hk.c0,Hk.c1,Hk.c2,He.c0,He.c1,He.c2⟩<|λqh=>?_;have⟨t0,t1,tf⟩:=Gk.p2;refine cZ 5 ?_;intro K y;go_simp;refine bZ y ⟨H0.c0,H0.c1,H0.c2,Hr.c0,Hr.c1,Hr.c2⟩<|λqh=>?_;refine tZ 6 6 ?_;refine zD ?_;go_wp2_with fail;have⟨P,s1⟩:=Gs.q2;have⟨s2,s3⟩:=Gq.q2;refine zF (v:=Ul #[Uo #[Uf a O c,Uf x z d],Uo #[Uf q s c',Uf x' A d'],Ud 0]) (by simp[results,results169,go_sem,P,s1,s2,s3]) ?_;refine⟨a,c,x,d,q,c',x',d',?_⟩;first|refine⟨by rw[j.1,j.2.1,j.2.2,m.1,show(aR S D).n=z from m.2.1,m.2.2.1,M.2.2,m.2.2.2],k.1.size,?_,?_,?_⟩|refine⟨k.1.size,by rw[j.1,j.2.1,j.2.2,m.1,show(aR S D).n=z from m.2.1,m.2.2.1,M.2.2,m.2.2.2],?_,?_,?_⟩
   .rw[j.1];have Ga:=H1.out;have Hn:=H2.out;have Ho:=H3.out;exact aM.wide ((((Go.set (Ua (w.1.size+1+1) 0) (Uf a O c) (.inl oQ)).set (Ua (w.1.size+1+1) 1) (Uf x z d) (.inl oQ)).set (Ua (w.1.size+1+1+1) 0) (Uf q s c') (.inl oQ)).set (Ua (w.1.size+1+1+1) 1) (Uf x' A d') (.inl oQ)) oM zL (by simp[Vr];omega)
   .rw[j.2.1];have Ga:=H1.out;have Hn:=H2.out;have Ho:=H3.out;exact aM.wide ((((Gp.set (Ua (w.1.size+1+1) 0) (Uf a O c) (.inl oQ)).set (Ua (w.1.size+1+1) 1) (Uf x z d) (.inl oQ)).set (Ua (w.1.size+1+1+1) 0) (Uf q s c') (.inl oQ)).set (Ua (w.1.size+1+1+1) 1) (Uf x' A d') (.inl oQ)) oM (by simp[Vr]) zL
   .exact(((Gn.setCell oS _).setCell oS _).setCell oS _).setCell oS _
end Go.Proofs.YtnabjmnfhkcnjaaGreatDoor
