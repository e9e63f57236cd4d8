import Derived.Test.YtnabjmnfhkcnjaaGreatDoorRzg06
import Derived.BigRegion
import Derived.Deep.RegionLaw
set_option linter.unusedVariables false
set_option linter.unusedSimpArgs false
set_option maxRecDepth 100000
set_option maxHeartbeats 40000000
namespace Go.Proofs.YtnabjmnfhkcnjaaGreatDoor
open Go.ChangeShapes Go.WideShapes Go.ChangeAt Go.RowKit Go.Maps Go.Proofs.Tryz
open Go.Value renaming slice->Uf,int->Ug,pointer->Uk,tuple->Ul,string->Um,bool->Un,agg->Uo
open Go.IntKind renaming i64->Uh
open Go.Ending renaming returned->Ui
open Go.Obj renaming cells->Uj
open Option renaming none->Up,some->Uq
open Go.RowKit renaming Hid->aA
open Go renaming World->Ur,Addr->Us,Value->aB
open Nat renaming le_trans->Uz,le_refl->Ux,zero_add->UA,lt_of_lt_of_le->Ut,lt_succ_of_lt->JO,zero_le->UB,le_of_eq->JP,add_mul->JR,mul_le_mul_right->UH,add_assoc->UF,le_add_right->JU
open Go.World renaming setCell->Vr,ownsRow_lit->Vo,cell?->Vx,cell?_setCell_other->Vt,cell?_setCell_same->Vs,frozen?_setCell->Vq,drewN_zero->JV,cell?_of_block->Vy,frozen?_of_block->Vz,cell?_setCells_out->JW,grownBy_alloc->VA
open List renaming mem_append->VZ,mem_singleton->UY,length_append->UM,range->Vb,getElem_map->JX,getElem_range->JY,replicate->JZ,replicate_succ'->KA,getD->UL,map_toArray->KB,map_cons->UQ,map_nil->VN,size_toArray->YA,getElem?_set_ne->KC,set_cons_succ->KD,length_set->KE,getElem_set->KF,getElem_set_ne->KG
open Int renaming natCast_nonneg->VH,emod_nonneg->KH,emod_lt_of_pos->KI,tmod_eq_emod_of_nonneg->KJ
open Go.IntKind renaming wrap_i64->Vm
open _root_.Array renaming getElem?_setIfInBounds->KL
variable {B C b4 bm c cb e g i ii lo lo' m n off pc q rb x:Nat}{Bo:Bool}{D S X Y:Sx}{K k:Int}{L:Int->List (Int×Int)}{P:Program}{V w w' w1 w2 wr:Ur}{a pa:Option Us}{f:Nat->Int}{l:List Rn}{p:List ByteArray}{row:Option Nat}{t':TypeId}{u v v' v0 v1 v2 v3 v4:aB}{x0:Nat×Nat}{xs:List aB}{zs:List Int}
theorem I0(x:Lf)(J:List Lf)(z:List Ky):cW (x::J) z=cW J z+if yes (z <+:aS x)=true then 1 else 0:=by
 unfold cW;cases hp:yes (z <+:aS x);all_goals simp[hp]
theorem Aw{p:List ByteArray}(h0:0<p.length):∀J:List Lf,cW J (aG p 1)+cW J (aG p 2)+cW J (aG p 3)<=J.length
 |[]=>by simp[cW]
 |x::J=>by
  have i:=Aw h0 J;rw[I0,I0,I0,List.length_cons];have v:∀k k':Int,k≠k'->¬(aG p k <+:aS x/\aG p k' <+:aS x):=λk k' hne ⟨h1,h2⟩=>by
   rw[yM h0]at h1 h2;rcases h1 with⟨u,_,y⟩|⟨u,y⟩
   .rcases h2 with⟨m,_⟩|⟨m,_⟩
    .exact hne<|u.trans m.symm
    .rw[m]at y;omega
   .rcases h2 with⟨m,_,z⟩|⟨m,z⟩
    .rw[u]at z;omega
    .exact hne<|y.trans z.symm
  have g:=v 1 2 oD;have t:=v 1 3 oD;have o:=v 2 3 oD;by_cases q:aG p 1 <+:aS x
  .have j:¬aG p 2 <+:aS x:=λh=>g ⟨q,h⟩;have r:¬aG p 3 <+:aS x:=λh=>t ⟨q,h⟩;rw[if_pos (aN q),if_neg (by rw[aJ j];simp),if_neg (by rw[aJ r];simp)];omega
  .rw[if_neg (by rw[aJ q];simp)];by_cases j:aG p 2 <+:aS x
   .have r:¬aG p 3 <+:aS x:=λh=>o ⟨j,h⟩;rw[if_pos (aN j),if_neg (by rw[aJ r];simp)];omega
   .rw[if_neg (by rw[aJ j];simp)];split<;>omega
theorem GQ{J:List Lf}{N:List Ky->Option (Nat×Nat)}(h:bB w B N (Mk J J.length) c)(hr:N []=Uq x0)(hn:iX J J.length N):JF w B J [] N c x0:=by
 refine⟨oU h,hr,λy r=>?_⟩;rw[hn];constructor
 .rintro(e|⟨j,k,m⟩)
  .cases e
  .exact⟨gL J j,bJ.2 ⟨j,k,rfl⟩,oU m⟩
 .rintro⟨x,q,m⟩;have⟨j,k,e⟩:=bJ.1 q;exact .inr ⟨j,k,by rw[e];simpa using m⟩
theorem bP.r{w:Ur}{bm n:Nat}{D:DataW aB}{G:Int->aB}{L:Int->List (Int×Int)}(h:bP w bm n D G L):eJ w bm n D G L:=⟨h.own,h.at',h.has',λr=>yY (h.rows r)⟩
theorem Wa{g:Lf->Prop}{P:List Lf}(h:bG S.R S.F S.T S.n S.l)(hp:dN S P){D:DataW aB}{G:Int->aB}{ds:List Dt}(hn:n<=2000)(hG:bP w bm n D G L)(hs:∀r,bL (L r))(hi:∀r x,In (L r) x↔(r,x)∈ds)(hl:∀r,(L r).length<=2000)
  (hd:∀d:Dt,d∈ds↔(∃y,(y∈S.l/\g y)/\y.r=d.1/\y.q=d.2)\/∃y∈P,y.r=d.1/\y.q=d.2) {N:List Ky->Option (Nat×Nat)} (hT:bB w B N (Mk P P.length) (9*P.length)) (hr:N []=Uq x0) (hk:iX P P.length N):
  iG w x0 bm (aQ g S.l P)/\jZ w x0 bm (aQ g S.l P).l (jD g S.l P):=by
 have m:=LG h hp hs hi hd;have u:=DE (g:=g) h hp hs hi hd;refine⟨⟨n,D,G,N,B,hn,u▸hG,hT,hr,hk⟩,N,B,9*P.length,n,D,G,L,GQ hT hr hk,oH hp.one,hG.r,m,λr hne=>?_,λr=>Uz (hl r) oM⟩;have⟨x,v⟩:=(hs r).inh hne;rcases (hd (r,x)).1 ((hi r x).1 v)with⟨y,⟨j,_⟩,k,_⟩|⟨y,j,k,_⟩
 .have:=sE (mD h) (lZ h y j);unfold dG cP at this;simp only at this k;omega
 .have:=hp.dot y j;unfold dG cP at this;simp only at this k;omega
theorem W9{s s':Nat}(hk:aO w 175 (α:=Ky) aP bE s 0 (λ_=>Up))(hm:aO w 99 (α:=Dt) aX cH s' 0 (λ_=>Up))(hne:s≠s')(hB:B<=s/\B<=s'):bB w B (λz=>if z=[] then Uq (s,s')else Up) (Mk [] 0) (9*0)/\iX [] 0 (λz=>if z=[] then Uq (s,s')else Up):=by
 refine⟨bB.new (x0:=(s,s')) hk hm hne hB,λz=>?_⟩;by_cases e:z=[]
 .simp[e]
 .simp[e]
theorem NM(h:bG S.R S.F S.T S.n S.l){ds:List Dt}(hd:∀d∈ds,∃y∈S.l,y.r=d.1/\y.q=d.2):∀d∈ds,(0<=d.1/\d.1<8)/\1<=d.2/\d.2<=1000000000:=λd hm=>by
 have⟨y,j,k,m⟩:=hd d hm;have:=sE (mD h) (lZ h y j);unfold dG cP at this;simp only at this;omega
theorem U0(l:List Lf)(u:List Rn):cT l u=cT (cT l u).l u:=rfl
theorem Xz(gn:Lf->Prop)(p:List ByteArray)(a:Option Us)(cp g kc:Nat)(ks:List Int)(w:Ur)(h:iG w x0 bm S)(hs:bG S.R S.F S.T S.n S.l)
  (hp:p.length<=1048576) (hps:∀i,(gS p i).size<=1048576) (J:∀k∈ks,(Lit.int Uh k).wf=true) (hkl:ks.length<=3) (hsum:(ks.map λk=>cW S.l (aG p k)).sum<=1000) (hgn:∀x∈S.l,gn x↔∃k∈ks,aG p k <+:aS x) (hseg:aV w a p) (hks:lQ w g ks):
  Cl 127 #[Uo #[.map (Uq x0.1),.map (Uq x0.2),.map (Uq bm)],Uf a p.length cp,Uf (Uc g) ks.length kc] w λe w'=>∃a c x d a' c' x' d' He,e=Ui (Ul #[Uo #[Uf a (eI S (aQ gn S.l [])).l.length c,Uf x (eI S (aQ gn S.l [])).n d],Uo #[Uf a' (eC S (aQ gn S.l [])).l.length c',Uf x' (eC S (aQ gn S.l [])).n d'],Ud (fP S (aQ gn S.l []))])/\aM w' w.1.size He a x d (eI S (aQ gn S.l []))/\aM w' He w'.1.size a' x' d' (eC S (aQ gn S.l []))/\Bl w w':=by
 generalize t:((w.alloc (Uj #[.map (Uq x0.1),.map (Uq x0.2),.map (Uq bm)] 111)).alloc (Uj #[Ue,Ue] 28)).alloc (Uj #[Ue,Ue] 28)=W;have H:Bl w W:=t▸(aU _ _ _).alloc oS _;have zW:W.1.size=w.1.size+3:=t▸oP;have al:∀(v:Ur) (o:Obj),Bl v (v.alloc o):=λv o=>zO _ _;have A0:aH W w.1.size (.map (Uq x0.1)) (.map (Uq x0.2)) (.map (Uq bm)):=by
  rw[<-t];exact((aH.made w _ _ _ _).bw (al _ _) oP).bw (al _ _) (by simp;try omega)
 have R0:aD W (w.1.size+1) Ue Ue:=by
  rw[<-t];have:=aD.made (w.alloc (Uj #[.map (Uq x0.1),.map (Uq x0.2),.map (Uq bm)] 111)) Ue Ue 28;exact(by simpa using this:aD _ (w.1.size+1) _ _).allocs _
 have Q0:aD W (w.1.size+1+1) Ue Ue:=by
  rw[<-t];simpa using aD.made ((w.alloc (Uj #[.map (Uq x0.1),.map (Uq x0.2),.map (Uq bm)] 111)).alloc (Uj #[Ue,Ue] 28)) Ue Ue 28
 have⟨N,B,hT,Hb⟩:=(h.bw H).tj hs.2.2.2;have h8:∀x∈S.l,(aS x).length<=8:=λx hx=>Ay (jU hs.w x hx).2.2.2;have Hs:=aC<|V6 hT Hb (oH hs.2.1) hs.2.1 h8 p a cp bm g kc ks hp hps J hkl W zI (hseg.bw H) (hks.bw H);have HO:=aC<|h.bw H;have HS:=aC hs;have Ht:=aC hgn;have Ho:=aC hsum;have Hi:=aC A0;have Hy:=aC R0;have Hv:=aC Q0;have Gb:=aC H;have Gj:=aC zW;have⟨k0,k1,k2⟩:=A0.q3;clear H zW A0 R0 Q0 al h hs hgn hsum hT Hb h8 hseg hks J hps;go_enter func127,ntmps127;go_wp2_with fail;clear t;refine Hs.mono ?_;rintro e w1⟨⟨v1,ts,rfl,H4,H7,H6⟩,b1⟩;obtain⟨ta,tc,rfl,Hc,_,_⟩:=zU H4;have Hq:∀d:Dt,d∈ts↔(∃y,(y∈S.l/\gn y)/\y.r=d.1/\y.q=d.2)\/∃y∈([]:List Lf),y.r=d.1/\y.q=d.2:=λd=>by
  rw[H7 d];constructor
  .rintro⟨k,J,x,hx,Hd,e⟩;exact .inl ⟨x,⟨hx,(Ht x hx).2 ⟨k,J,Hd⟩⟩,congrArg Prod.fst e,congrArg Prod.snd e⟩
  .rintro(⟨y,⟨z,hg⟩,e1,e2⟩|⟨y,z,_⟩)
   .have⟨k,J,Hd⟩:=(Ht y z).1 hg;exact⟨k,J,y,z,Hd,Prod.ext e1 e2⟩
   .cases z
 have Ge:=aC Hq;have Gh:=aC Hc;have Hl:=aC b1;have Gf:aA (Ek ts):=aC (NM HS (λd hd=>by
  rcases (Hq d).1 hd with⟨y,⟨z,_⟩,e⟩|⟨y,z,_⟩
  .exact⟨y,z,e⟩
  .cases z))
 have Gi:aA (ts.length<=1000):=aC (by rw[H6];exact Ho);have X1:=Hi.bw b1 Hi.lt;have⟨j0,j1,j2⟩:=X1.q3;clear H4 H7 H6 Hq Hc b1 X1 k0 k1 k2 Hs;have Z:=aC (Hi.bw Hl Hi.lt);have Hf:aA (∀w',Bl w1 w'->(w'.cell? (Ub w.1.size)=Uq (.map (Uq x0.1))/\w'.cell? (Ua w.1.size 1)=Uq (.map (Uq x0.2))/\w'.cell? (Ua w.1.size 2)=Uq (.map (Uq bm)))):=aC (λw' b=>by
  have A1:=Z.bw b Z.lt;exact⟨A1.c0,A1.c1,A1.c2⟩)
 clear j0 j1 j2;go_wp2_with fail;refine zS Hf<|λqh=>?_;refine tZ 0 14 ?_;refine tZ 2 16 ?_;refine cZ 1 ?_;intro K j;go_simp;refine(sK _).mono ?_;rintro e w2⟨s1,s2,rfl,Ga,H8,H9,m1,m2,I⟩;have Hk:Bl w1 w2:=⟨I.os,I.tape,I.output,I.size,I.block⟩;have H1:=aC<|W9 (B:=w1.1.size) m1 m2 Ga ⟨H8,H9⟩;have H0:=aC<|Tv ta tc ts w2 (oH Gi) Gf (Gh.bw Hk);clear Ga H8 H9 m1 m2 I;refine bZ j (Hf _ Hk)<|λqh=>?_;clear j K;refine cZ 3 ?_;intro K j;go_simp;refine H0.mono ?_;rintro e w3⟨⟨bd,n,D,G,L,rfl,hn,hG,Hh,H5,Hg,_⟩,b3⟩;have u:=aE Hk b3;have Hr:=Wa (g:=gn) (P:=[]) HS (dN.nil S) hn hG Hh H5 Hg Ge (x0:=(s1,s2)) (H1.1.bw b3) (if_pos rfl) H1.2;have Hm:=aC<|Wd w3 ((HO.bw Hl).bw u) Hr.1 Hr.2 (U0 _ _) HS.w (rK HS (dN.nil S));have Ha:=aC<|aE Hl u;have Hz:=aC<|Hy.bw Ha Hy.lt;have Hw:=aC<|Hv.bw Ha Hv.lt;clear hn hG Hh H5 Hg b3 Hr H0;generalize hX:eI S (aQ gn S.l [])=X;generalize hY:eC S (aQ gn S.l [])=Y;generalize hC:fP S (aQ gn S.l [])=C;rw[hX,hY,hC]at Hm;have m:=aC<|And.intro hX (And.intro hY hC);clear hX hY hC;refine bZ j (Hf _ u)<|λqh=>?_;clear j K;refine tZ 4 18 ?_;refine cZ 5 ?_;intro K j;go_simp;refine Hm.mono ?_;rintro e w4⟨s,E,U,O,A,M,V,Q,He,rfl,ox,oy,b4⟩;have R4:=Hz.bw b4 Hz.lt;have Q4:=Hw.bw b4 Hw.lt;have X4:=(Z.bw u Z.lt).bw b4 (Z.bw u Z.lt).lt;have Gc:=aC<|aE Gb (aE Ha b4);have Hu:=aC ox;have Hn:=aC oy;have H2:aA (w.1.size+3<=w3.1.size):=aC (by have h1:=Gj.out;have h2:=Ha.size;omega);have H3:=aE u b4;clear ox oy;refine bZ j (Hf _ H3)<|λqh=>?_;clear j K;refine tY 6 20 ?_;refine tZ 8 22 ?_;have⟨r0,r1,rf⟩:=R4.p2;have HC:=aC<|R4.set (Uf s X.l.length E) (Uf U X.n O);have Hj:=aC<|(X4.far (eZ w4 (Ua (w.1.size+1) 0) (Uf s X.l.length E)) oQ).far (eZ _ (Ua (w.1.size+1) 1) (Uf U X.n O)) oQ;have Hx:=aC<|(Q4.setAt (Ua (w.1.size+1) 0) (Uf s X.l.length E) oQ).setAt (Ua (w.1.size+1) 1) (Uf U X.n O) oQ;have Hp:=aC<|(Hj.far (eZ _ (Ua (w.1.size+1+1) 0) (Uf A Y.l.length M)) oQ).far (eZ _ (Ua (w.1.size+1+1) 1) (Uf V Y.n Q)) oQ;have Gg:=aC<|Hx.set (Uf A Y.l.length M) (Uf V Y.n Q);have Gd:=aC<|(HC.setAt (Ua (w.1.size+1+1) 0) (Uf A Y.l.length M) oQ).setAt (Ua (w.1.size+1+1) 1) (Uf V Y.n Q) oQ;refine cZ 9 ?_;intro K j;go_simp;refine bZ j ⟨Hj.c0,Hj.c1,Hj.c2⟩<|λqh=>?_;clear j K;clear r0 r1 rf;have⟨r0,r1,rf⟩:=Hx.p2;refine cZ 10 ?_;intro K j;go_simp;refine bZ j ⟨Hp.c0,Hp.c1,Hp.c2⟩<|λqh=>?_;clear j K;refine tZ 11 8 ?_;refine zD ?_;clear qh Hk u b4 H3 R4 Q4 X4 r0 r1 rf Hm Hf;go_wp2_with fail;have⟨s0,s1⟩:=Gd.q2;have⟨s2,s3⟩:=Gg.q2;refine zF (v:=Ul #[Uo #[Uf s X.l.length E,Uf U X.n O],Uo #[Uf A Y.l.length M,Uf V Y.n Q],Ud C]) (by simp[results,results127,go_sem,s0,s1,s2,s3]) ?_;refine⟨s,E,U,O,A,M,V,Q,?_⟩;first|refine⟨by rw[m.1,m.2.1,m.2.2],He,?_,?_,?_⟩|refine⟨He,by rw[m.1,m.2.1,m.2.2],?_,?_,?_⟩
 .rw[m.1];have hz:=H2.out;have h1:=Hu.out;exact aM.wide ((((h1.set (Ua (w.1.size+1) 0) (Uf s X.l.length E) (.inl oQ)).set (Ua (w.1.size+1) 1) (Uf U X.n O) (.inl oQ)).set (Ua (w.1.size+1+1) 0) (Uf A Y.l.length M) (.inl oQ)).set (Ua (w.1.size+1+1) 1) (Uf V Y.n Q) (.inl oQ)) oM zL (by simp[Vr];exact Uz Hn.hl.1 Hn.hl.2)
 .rw[m.2.1];have hz:=H2.out;have Gk:w3.1.size<=He:=Hu.hl.1;have h1:=Hn.out;exact aM.wide ((((h1.set (Ua (w.1.size+1) 0) (Uf s X.l.length E) (.inl oQ)).set (Ua (w.1.size+1) 1) (Uf U X.n O) (.inl oQ)).set (Ua (w.1.size+1+1) 0) (Uf A Y.l.length M) (.inl oQ)).set (Ua (w.1.size+1+1) 1) (Uf V Y.n Q) (.inl oQ)) zL (by simp[Vr]) zL
 .exact(((Gc.setCell oP _).setCell oP _).setCell oS _).setCell oS _
theorem iG.far(h:iG w x0 bm S){t:Nat}{ty:TypeId}(m:∃v f,w.1[t]? =Uq (.cells v ty f))(hty:ty≠225)(hg:w.grownBy w' (Uq t)):iG w' x0 bm S:=by
 have⟨n,D,G,N,B,b,k,q,s,A⟩:=h;have⟨v,f,m⟩:=m;refine⟨n,D,G,N,B,b,⟨k.own.kept hg (λe=>?_),k.at',k.has',λr=>(k.rows r).kept hg ?_,k.apart⟩,q.same λp x hx=>⟨hg.block _ (q.lt hx).1 (λe=>?_),hg.block _ (q.lt hx).2 (λe=>?_)⟩,s,A⟩
 .have⟨y,M,j,_⟩:=k.own;injection e with e;rw[e,m]at j;cases j
 .rcases (k.rows r).2 with⟨o,_⟩|⟨g,cap,O,E,_,j,_⟩
  .rw[o];exact .inl rfl
  .refine .inr λe=>?_;rw[E]at e;have i:g=t:=(by simpa[Value.ownBlock]using e);rw[i,m]at j;injection j with j;injection j with _ j;exact hty j
 .have⟨y,z,u⟩:=(q.kids p x hx).obj;injection e with e;rw[e,m]at u;cases u
 .have⟨y,z,u⟩:=(q.marks p x hx).obj;injection e with e;rw[e,m]at u;cases u
theorem wK{Q:Prop}(h:Q:=by
 go_wp2_with fail;try rw[k]
 clear k;refine b.mono ?_;rintro e B⟨rfl,rfl⟩;go_wp2_with fail;obtain⟨g,t,o⟩:=u.q3;refine zF (v:=Ul #[Uo #[.map Up,.map Up,.map Up],Ud 2]) (by simp[results,results125,go_sem,g,t,o]) ⟨⟨Up,Up,Up,by rw[j.out],λh0=>by rw[j.out]at h0;cases h0⟩,?_⟩;exact((A.setCell oP _).setCell oP _).setCell oP _):Q:=h
theorem Ol(a x pa:Option Us)(c d pc:Nat)(S:Sx)(p:List ByteArray)(v:ByteArray)(w:Ur)(hm:S.Sm)(hi:∀i,eK (gL S.l i))(h:cX w a x S)(hp:p.length<=1048576)(hseg:aV w pa p)(hv:v.size<=1048576):
  Cl 125 #[Uo #[Uf a S.l.length c,Uf x S.n d],Uf pa p.length pc,Um v] w λe w'=>(∃m q r,e=Ui (Ul #[Uo #[.map m,.map q,.map r],Ud (dQ S p v)])/\(dQ S p v=0->∃x0 Q,m=Uq (Prod.fst x0)/\q=Uq (Prod.snd x0)/\r=Uq Q/\iG w' x0 Q S))/\Bl w w':=by
 generalize y:(w.alloc (Uj #[Uf a S.l.length c,Uf x S.n d] 28)).alloc (Uj #[.map Up,.map Up,.map Up] 111)=W;have O:Bl w W:=y▸aU _ _ _;have J:aD W w.1.size (Uf a S.l.length c) (Uf x S.n d):=y▸(aD.made w _ _ _).allocs _;have L:aH W (w.1.size+1) (.map Up) (.map Up) (.map Up):=by
  rw[<-y];simpa using aH.made (w.alloc (Uj #[Uf a S.l.length c,Uf x S.n d] 28)) (.map Up) (.map Up) (.map Up) 111
 have C:W.1.size=w.1.size+2:=y▸oP;have Ha:aA (∃G f,W.1[w.1.size+1]? =Uq (.cells G 111 f)):=aC (by
  rw[<-y];have:=heap_alloc_new (w.alloc (Uj #[Uf a S.l.length c,Uf x S.n d] 28)) (Uj #[.map Up,.map Up,.map Up] 111);exact⟨_,_,oU this⟩)
 have Y:=aC<|Fd a x c d S W hm hi (h.bw O);have T:=aC<|hseg.bw O;have D:=aC O;have K:=aC L;have Hc:=aC C;have⟨k0,k1⟩:=J.q2;generalize H:fD S=V;have E:=aC H;rw[H]at Y;go_enter func125,ntmps125;go_wp2_with fail;refine Y.mono ?_;rintro e w1⟨⟨m,q,r,rfl,X⟩,N⟩;have P:=aC X;generalize k:w1.alloc (Uj #[.map m,.map q,.map r] 111)=I;have Z:Bl w1 I:=k▸zO _ _;have Hb:aA (aH I w1.1.size (.map m) (.map q) (.map r)):=aC<|k▸aH.made _ _ _ _ _;have M:=aC<|aE N Z;have F:=aC Z;have A:=aC<|aE D M;have s:=aC<|K.bw M K.lt;have R:=aC<|T.bw M;have⟨t0,t1,t2,tf⟩:=s.p3;cases V with
 |false=>have j:=aC (Bi (p:=p) (v:=v) E);have u:=aC<|s.set (.map Up) (.map Up) (.map Up);go_wp2_with fail;have⟨g,t,o⟩:=u.q3;refine zF (v:=Ul #[Uo #[.map Up,.map Up,.map Up],Ud 1]) (by simp[results,results125,go_sem,g,t,o]) ⟨⟨Up,Up,Up,by rw[j.out],λh0=>by rw[j.out]at h0;cases h0⟩,?_⟩;exact((A.setCell oP _).setCell oP _).setCell oP _
 |true=>
  have b:=aC<|Xk p pa pc I hp R;by_cases z:dW p
  .rw[aN z]at b;by_cases U:v.size<=200
   .have i1:(v.size:Int)<=200:=oM;have i2:¬(200:Int)<(v.size:Int):=oM;have j:=aC<|Fe E (And.intro z U);have u:=aC<|s.set (.map m) (.map q) (.map r);have⟨x0,x1,x2⟩:=Hb.q3;go_wp2_with fail;try rw[k]
    refine b.mono ?_;rintro e B⟨rfl,rfl⟩;go_wp2_with fail;have⟨g,t,o⟩:=u.q3;refine zF (v:=Ul #[Uo #[.map m,.map q,.map r],Ud 0]) (by simp[results,results125,go_sem,g,t,o]) ⟨⟨m,q,r,by rw[j.out],λ_=>?_⟩,?_⟩
    .have⟨y0,Q,e0,e1,e2,o1⟩:=P (by trivial);refine⟨y0,Q,e0,e1,e2,?_⟩;have⟨G,f,ht⟩:=Ha.out;have hb:=M.block (w.1.size+1)<|oH Hc;exact(o1.bw F).far ⟨G,f,hb.trans ht⟩ oD (Bc _ _ _ _ _)
    .exact((A.setCell oP _).setCell oP _).setCell oP _
   .have i1:¬(v.size:Int)<=200:=oM;have i2:(200:Int)<(v.size:Int):=oM;have j:=aC<|tN E (show¬(dW p/\v.size<=200)from λhh=>U hh.2);have u:=aC<|s.set (.map Up) (.map Up) (.map Up);exact wK
  .rw[aJ z]at b;have j:=aC<|tN E (show¬(dW p/\v.size<=200)from λhh=>z hh.1);have u:=aC<|s.set (.map Up) (.map Up) (.map Up);exact wK
theorem TP(a x pa:Option Us)(c d pc:Nat)(S:Sx)(p:List ByteArray)(w:Ur)(hm:S.Sm)(hi:∀i,eK (gL S.l i))(h:cX w a x S)(hp:p.length<=1048576)(hseg:aV w pa p):
  Cl 88 #[Uo #[Uf a S.l.length c,Uf x S.n d],Uf pa p.length pc] w λe w'=>∃a c x d a' c' x' d' s,e=Ui (Ul #[Uo #[Uf a (iZ S p).l.length c,Uf x (iZ S p).n d],Uo #[Uf a' (iY S p).l.length c',Uf x' (iY S p).n d'],Ud (lN S p)])/\aM w' w.1.size s a x d (iZ S p)/\aM w' s w'.1.size a' x' d' (iY S p)/\Bl w w':=by
 generalize o:((w.alloc (Uj #[Uf a S.l.length c,Uf x S.n d] 28)).alloc (Uj #[Ue,Ue] 28)).alloc (Uj #[Ue,Ue] 28)=W;have M:Bl w W:=o▸(aU _ _ _).alloc oS _;have zW:W.1.size=w.1.size+3:=o▸oP;have A0:aD W w.1.size (Uf a S.l.length c) (Uf x S.n d):=o▸((aD.made w _ _ _).allocs _).allocs _;have R0:aD W (w.1.size+1) Ue Ue:=by
  rw[<-o];have:=aD.made (w.alloc (Uj #[Uf a S.l.length c,Uf x S.n d] 28)) Ue Ue 28;exact(by simpa using this:aD _ (w.1.size+1) _ _).allocs _
 have Q0:aD W (w.1.size+1+1) Ue Ue:=by
  rw[<-o];simpa using aD.made ((w.alloc (Uj #[Uf a S.l.length c,Uf x S.n d] 28)).alloc (Uj #[Ue,Ue] 28)) Ue Ue 28
 have L:=aC<|Ol a x pa c d pc S p ⟨#[]⟩ W hm hi (h.bw M) hp (hseg.bw M) oD;have Hs:=aC<|hseg.bw M;have Hh:=aC R0;have Hg:=aC Q0;have Hj:=aC M;have Hv:=aC zW;have⟨k0,k1⟩:=A0.q2;generalize hC:dQ S p ⟨#[]⟩=C;rw[hC]at L;have G:=aC hC;go_enter func88,ntmps88;go_wp2_with fail;refine L.mono ?_;rintro e w1⟨⟨u0,u1,u2,rfl,ho⟩,b1⟩;have Hp:=aC ho;generalize Q:w1.alloc (Uj #[.map u0,.map u1,.map u2] 111)=A;have b2:Bl w1 A:=Q▸zO _ _;have Ht:aA (aH A w1.1.size (.map u0) (.map u1) (.map u2)):=aC<|Q▸aH.made _ _ _ _ _;have E:=aC<|aE b1 b2;have Ha:=aC b2;have Z:=aC<|aE Hj E;have H:=aC<|Hh.bw E Hh.lt;have B:=aC<|Hg.bw E Hg.lt;have Hr:=aC<|Hs.bw E;by_cases b:C=0
 .have j:=aC (Az (S:=S) (p:=p) (by rw[G.out];exact b));have Hd:=sB (S:=S) (p:=p) (v:=⟨#[]⟩) (by rw[G.out];exact b);obtain⟨x0,bm,rfl,rfl,rfl,o1⟩:=Hp b;have hs:=gC Hd.1;have J:=Hd.2.1;generalize K:A.alloc (Uj #[Ud 1,Ud 2,Ud 3] 3)=U;have b3:Bl A U:=K▸zO _ _;have Hi:lQ U A.1.size [1,2,3]:=by
   rw[<-K];refine⟨oP,λi hi=>?_⟩;match i,hi with
   |0,_=>simp[gI]
   |1,_=>simp[gI]
   |2,_=>simp[gI]
   |i+3,hi=>exfalso;simp at hi;omega
  have D:=aC (λV (b4:Bl U V)=>Xz (iC p) p pa pc A.1.size 3 [1,2,3] V ((((o1.bw Ha).bw b3)).bw b4) hs hp (C8 J) (λk O=>by
   simp at O;rcases O with rfl|rfl|rfl<;>decide) oP (by
    have h1:=Aw (p:=p) (oH J.1) S.l;have h2:=hs.2.1;simp;omega) (λx hx=>by
    rw[<-II (p:=p) (x:=x) (oH J.1)];constructor
    .rintro(e|e|e)
     .exact⟨1,oP,e⟩
     .exact⟨2,oP,e⟩
     .exact⟨3,oP,e⟩
    .rintro⟨k,O,e⟩;simp at O;rcases O with rfl|rfl|rfl
     .exact .inl e
     .exact .inr<|.inl e
     .exact .inr (.inr e)) ((Hr.bw b3).bw b4) (Hi.bw b4))
  have He:=aC b3;have HX:=Ht.out;have⟨Hy,Hz,H0⟩:=HX.q3;generalize hX:eI S (aQ (iC p) S.l [])=X;generalize hY:eC S (aQ (iC p) S.l [])=Y;generalize Hc:fP S (aQ (iC p) S.l [])=Cc;rw[hX,hY,Hc]at D;have F:aA (iZ S p=X/\iY S p=Y/\lN S p=Cc):=aC ⟨j.1.trans hX,j.2.1.trans hY,j.2.2.trans Hc⟩;subst b;go_wp2_with fail;refine(D _ zI).mono ?_;rintro e V⟨m,r,g,y,q,u,t,z,s,rfl,ox,oy,b4⟩;have I:=aE He b4;have T:=H.bw I H.lt;have Q4:=B.bw I B.lt;have Hk:=aC<|aE Z I;have Hf:=aC ox;have N:=aC oy;have Hu:aA (w.1.size+3<=U.1.size):=aC (by have h1:=Hv.out;have h2:=E.size;have h3:=He.size;omega);have⟨r0,r1,rf⟩:=T.p2;have Hl:=aC<|T.set (Uf m X.l.length r) (Uf g X.n y);have R:=((Q4.setAt (Ua (w.1.size+1) 0) (Uf m X.l.length r) oQ).setAt (Ua (w.1.size+1) 1) (Uf g X.n y) oQ);have⟨q0,q1,qf⟩:=R.p2;have Hb:=aC<|R.set (Uf q Y.l.length u) (Uf t Y.n z);have Ho:=aC<|(Hl.setAt (Ua (w.1.size+1+1) 0) (Uf q Y.l.length u) oQ).setAt (Ua (w.1.size+1+1) 1) (Uf t Y.n z) oQ;go_wp2_with fail;have⟨s0,s1⟩:=Ho.q2;have⟨s2,s3⟩:=Hb.q2;refine zF (v:=Ul #[Uo #[Uf m X.l.length r,Uf g X.n y],Uo #[Uf q Y.l.length u,Uf t Y.n z],Ud Cc]) (by simp[results,results88,go_sem,s0,s1,s2,s3]) ?_;have b:=Hu.out;have Hw:U.1.size<=s:=Hf.hl.1;have G1:=aM.wide ((((Hf.set (Ua (w.1.size+1) 0) (Uf m X.l.length r) (.inl oQ)).set (Ua (w.1.size+1) 1) (Uf g X.n y) (.inl oQ)).set (Ua (w.1.size+1+1) 0) (Uf q Y.l.length u) (.inl oQ)).set (Ua (w.1.size+1+1) 1) (Uf t Y.n z) (.inl oQ)) (lo':=w.1.size) (hi':=s) oM zL (by simp[Vr];exact Uz N.hl.1 N.hl.2);have G2:=((((N.set (Ua (w.1.size+1) 0) (Uf m X.l.length r) (.inl oQ)).set (Ua (w.1.size+1) 1) (Uf g X.n y) (.inl oQ)).set (Ua (w.1.size+1+1) 0) (Uf q Y.l.length u) (.inl oQ)).set (Ua (w.1.size+1+1) 1) (Uf t Y.n z) (.inl oQ));have G3:=(((Hk.setCell (p:=(Ua (w.1.size+1) 0)) oQ (Uf m X.l.length r)).setCell (p:=(Ua (w.1.size+1) 1)) oQ (Uf g X.n y)).setCell (p:=(Ua (w.1.size+1+1) 0)) oQ (Uf q Y.l.length u)).setCell (p:=(Ua (w.1.size+1+1) 1)) oQ<|Uf t Y.n z;rw[F.1,F.2.1,F.2.2];have Hx:((((V.setCell (Ua (w.1.size+1) 0) (Uf m X.l.length r)).setCell (Ua (w.1.size+1) 1) (Uf g X.n y)).setCell (Ua (w.1.size+1+1) 0) (Uf q Y.l.length u)).setCell (Ua (w.1.size+1+1) 1) (Uf t Y.n z)).1.size=V.1.size:=by simp[Vr]
  rw[Hx];first
   |exact⟨m,r,g,y,q,u,t,z,s,rfl,G1,G2,G3⟩
   |exact⟨m,r,g,y,q,u,t,z,rfl,s,G1,G2,G3⟩
 .have j:=aC (xZ (S:=S) (p:=p) (by rw[G.out];exact b));have H1:(C==0)=false:=by simp[b]
  have⟨r0,r1,rf⟩:=H.p2;have Hm:=aC<|H.set Ue Ue;have P:=(B.setAt (Ua (w.1.size+1) 0) Ue oQ).setAt (Ua (w.1.size+1) 1) Ue oQ;have⟨q0,q1,qf⟩:=P.p2;have Hq:=aC<|P.set Ue Ue;have Hn:=aC<|(Hm.setAt (Ua (w.1.size+1+1) 0) Ue oQ).setAt (Ua (w.1.size+1+1) 1) Ue oQ;go_wp2_with fail;have⟨s0,s1⟩:=Hn.q2;have⟨s2,s3⟩:=Hq.q2;refine zF (v:=Ul #[Uo #[Ue,Ue],Uo #[Ue,Ue],Ud C]) (by simp[results,results88,go_sem,s0,s1,s2,s3]) ⟨Up,0,Up,0,Up,0,Up,0,w.1.size,by rw[j.1,j.2.1,j.2.2,G.out];rfl,?_,?_,?_⟩
  .rw[j.1];exact aM.mt _ Sx.mt rfl rfl _ _ ⟨Ux _,by simp[Vr];exact Z.size⟩ _ _ _
  .rw[j.2.1];exact aM.emp _ _ _ _ _ (by simp[Vr];exact Z.size)
  .exact(((Z.setCell oP _).setCell oP _).setCell oS _).setCell oS _
theorem wB{Q:Prop}(h:Q:=by go_wp2_with fail;refine m.mono ?_;rintro e t⟨rfl,rfl⟩;go_wp2_with fail;refine zF (v:=Ul #[Uo #[Ud 0,Ud 0],Un false]) (by simp[results,results166,go_sem,x0,g]) ⟨(λh=>by exfalso;omega),(λ_=>rfl),?_⟩;exact(q.setCell oP _).setCell oP _):Q:=h
theorem MP{D:DataW aB}{G:Int->aB}(h:bP w bm n D G L)(r tk:Int)(hr:(Lit.int Uh r).wf=true)(hl:(L r).length<=1000000)(ht:jI (L r)=tk)(h0:0<=tk)(h1:tk<=1000000000):
  Cl 166 #[.map (Uq bm),Ud r] w λe w'=>
   ((0<=r/\r<8)/\tk+1<=1000000000->e=Ui (Ul #[Uo #[Ud r,Ud (tk+1)],Un true]))/\(¬((0<=r/\r<8)/\tk+1<=1000000000)->e=Ui (Ul #[Uo #[Ud 0,Ud 0],Un false]))/\Bl w w':=by
 generalize j:w.alloc (Uj #[Ud 0,Ud 0] 99)=k;have y:Bl w k:=j▸zO _ _;have x0:k.cell? (Ub w.1.size)=Uq (Ud 0):=j▸oP;have g:k.cell? (Ua w.1.size 1)=Uq (Ud 0):=j▸oP;have o:k.frozen? (Ub w.1.size)=false:=j▸oP;have i:k.frozen? (Ua w.1.size 1)=false:=j▸oP;have u:=aC<|QX (h.bw y) r hr hl;have q:=aC y;rw[ht]at u;go_enter func166,ntmps166;go_wp2_with fail;refine u.mono ?_;rintro e w1⟨rfl,rfl⟩;by_cases z:0<=r/\r<8
 .have m:=aC<|N5 r w1 z.1 z.2;by_cases b:tk+1<=1000000000
  .go_wp2_with fail;refine m.mono ?_;rintro e t⟨rfl,rfl⟩;go_wp2_with fail;refine zF (v:=Ul #[Uo #[Ud r,Ud (tk+1)],Un true]) (by simp[results,results166,go_sem,x0,g]) ⟨(λ_=>rfl),(λh=>by exfalso;omega),?_⟩;exact(q.setCell oP _).setCell oP _
  .exact wB
 .have m:=aC<|Ms r w1 z;exact wB
theorem bP.gtX{D:DataW aB}{G:Int->aB}(h:bP w bm n D G L)(hg:Gt B w w')(hX:w'.1[bm]? =w.1[bm]?):bP w' bm n D G L:=by
 refine⟨?_,h.at',h.has',λr=>?_,h.apart⟩
 .have⟨m,j,e,k⟩:=h.own;exact⟨m,j,hX.trans e,k⟩
 .refine⟨(h.rows r).1,(h.rows r).2.imp id ?_⟩;rintro⟨g,cap,u,e,v,q,k⟩;exact⟨g,cap,u,e,v,(hg.block g ((h.rows r).lt g (by rw[e];rfl)).2 (.inr λm j e2=>by rw[q]at e2;cases e2)).trans q,k⟩
theorem Ie(w:Ur)(r q:Int):DR (w.alloc (Uj #[Ud r,Ud q] 99)) w.1.size (Uf (Uc w.1.size) 1 1) [(r,q)]:=by
 have:=Vo (base:=w.1.size) (e:=99) (size:=2) w #[Ud r,Ud q] 1 zL oL rfl;simpa[DR,Ds.kRow,Ds.kCells]using this
theorem M9(w:Ur)(k:Int):lQ (w.alloc (Uj #[Ud k] 3)) w.1.size [k]:=⟨oP,λi hi=>by
 obtain rfl:i=0:=oU hi;simp[gI]⟩
theorem CK{G T:Prop}(h:aA T->G)(k:T):G:=h k
theorem Sb(rep:Int)(p:List ByteArray)(a:Option Us)(cp:Nat)(fl:Bool)(v:ByteArray)(w:Ur)(h:iG w x0 bm S)(hs:bG S.R S.F S.T S.n S.l)(hpo:dW p)(hv:v.size<=200)(hfv:fl=true->fO v=true)(hrep:(Lit.int Uh rep).wf=true)(hseg:aV w a p):
  Cl 126 #[Uo #[.map (Uq x0.1),.map (Uq x0.2),.map (Uq bm)],Ud rep,Uf a p.length cp,Ud (kd fl),Uo #[Um v]] w λe w'=>∃a c x d a' c' x' d' Hp,e=Ui (Ul #[Uo #[Uf a (mK S rep p fl v).l.length c,Uf x (mK S rep p fl v).n d],Uo #[Uf a' (mI S rep p fl v).l.length c',Uf x' (mI S rep p fl v).n d'],Ud (pP S rep p fl v)])/\aM w' w.1.size Hp a x d (mK S rep p fl v)/\aM w' Hp w'.1.size a' x' d' (mI S rep p fl v)/\Bl w w':=by
 have⟨W,hW⟩:=zE ((((w.alloc (Uj #[.map (Uq x0.1),.map (Uq x0.2),.map (Uq bm)] 111)).alloc (Uj #[Um v] 161)).alloc (Uj #[Ue,Ue] 28)).alloc (Uj #[Ue,Ue] 28));have b0:Bl w W:=hW▸((aU _ _ _).alloc oS _).alloc oS _;have zW:W.1.size=w.1.size+4:=hW▸oP;have al:∀(v:Ur) (o:Obj),Bl v (v.alloc o):=λv o=>zO _ _;have A0:aH W w.1.size (.map (Uq x0.1)) (.map (Uq x0.2)) (.map (Uq bm)):=by
  rw[<-hW];exact(((aH.made w _ _ _ _).bw (al _ _) oP).bw (al _ _) (by simp;try omega)).bw (al _ _) (by simp;try omega)
 have M0:gO W (w.1.size+1) (Um v):=by
  rw[<-hW];have:=gO.made (w.alloc (Uj #[.map (Uq x0.1),.map (Uq x0.2),.map (Uq bm)] 111)) (Um v) 161;exact((by simpa using this:gO _ (w.1.size+1) _).bw (al _ _) oP).bw (al _ _) (by simp;try omega)
 have R0:aD W (w.1.size+1+1) Ue Ue:=by
  rw[<-hW];have:=aD.made ((w.alloc (Uj #[.map (Uq x0.1),.map (Uq x0.2),.map (Uq bm)] 111)).alloc (Uj #[Um v] 161)) Ue Ue 28;exact(by simpa using this:aD _ (w.1.size+1+1) _ _).allocs _
 have Q0:aD W (w.1.size+1+1+1) Ue Ue:=by
  rw[<-hW];simpa using aD.made (((w.alloc (Uj #[.map (Uq x0.1),.map (Uq x0.2),.map (Uq bm)] 111)).alloc (Uj #[Um v] 161)).alloc (Uj #[Ue,Ue] 28)) Ue Ue 28
 have Gs:=dL.1 hs.1;have K0:=(B9 S.n Gs.1).2.2.1 rep;have Gr:=Co hs.1 rep;have⟨tq,Gf⟩:=zE (bQ S.R S.T rep S.n);have Jn:=aC Gf;have Kf:aA (jT S rep↔(0<=rep/\rep<8)/\tq+1<=1000000000):=aC (by unfold jT;rw[Gf]);have⟨n0,D0,G0,N0,B0,Jy,Ku,_⟩:=h.bw b0;have Ke:=aC<|MP Ku rep tq hrep (oJ (jJ S.R S.F S.T S.n rep) Gs.2) (K0.symm.trans Gf) oM oM;have HO:=aC<|h.bw b0;have HS:=aC hs;have Ho:=aC hpo;have Kp:aA (v.size<=200/\(fl=true->fO v=true)):=aC ⟨hv,hfv⟩;have Jk:=aC hrep;have Kn:=aC<|hseg.bw b0;have G9:=aC A0;have Kd:=aC M0;have Gd:=aC R0;have Gb:=aC Q0;have Gk:=aC b0;have Jr:=aC zW;have⟨k0,k1,k2⟩:=A0.q3;have⟨kk,Gt⟩:=zE (kd fl);have Hn:=aC Gt;rw[Gt];clear b0 zW A0 M0 R0 Q0 al h hs hseg Gs K0 Gr Gf Ku Jy hpo hv hfv hrep Gt;go_enter func126,ntmps126;go_wp2_with fail;try rw[hW]
 clear hW;refine Ke.mono ?_;rintro e w1⟨O,Gu,b1⟩;have Gl:=aC b1;have Ge:=aC<|Gd.bw b1 Gd.lt;have Gc:=aC<|Gb.bw b1 Gb.lt;have Gj:=aC<|G9.bw b1 G9.lt;clear b1 k0 k1 k2 Ke;by_cases hc:(0<=rep/\rep<8)/\tq+1<=1000000000
 .have A:=O hc;clear O Gu;subst A;have H2:aA (jT S rep):=aC (Kf.2 hc);have HZ:=aC (Ey (S:=S) (rep:=rep) (p:=p) (fl:=fl) (v:=v) H2);have⟨q,hq⟩:=zE (tq+1);have Kj:aA (nL S rep p fl v=⟨p,fl,rep,q,v⟩):=aC (by unfold nL;rw[Jn.out,hq]);have Jj:aA ((0<=rep/\rep<8)/\q<=1000000000):=aC (hq▸hc);have Ga:aA (dN S [⟨p,fl,rep,q,v⟩]):=aC (by rw[<-Kj.out];exact F5 HS Ho Kp.1 Kp.2 H2);have Jq:aA (pO S rep p fl v=aQ (cV p fl) S.l [⟨p,fl,rep,q,v⟩]):=aC (by unfold pO;rw[Kj.out]);rw[hq];clear hc hq;have⟨M,Hm⟩:=zE (w1.alloc (Uj #[Ud rep,Ud q] 99));have b2:Bl w1 M:=Hm▸zO _ _;have H0:aA (aD M w1.1.size (Ud rep) (Ud q)):=aC (Hm▸aD.made _ _ _ _);have Hq:=aC (aE Gl b2);have Hy:=aC (Gj.bw b2 Gj.lt);have Z:aA (∀w',Bl M w'->(w'.cell? (Ub w.1.size)=Uq (.map (Uq x0.1))/\w'.cell? (Ua w.1.size 1)=Uq (.map (Uq x0.2))/\w'.cell? (Ua w.1.size 2)=Uq (.map (Uq bm))/\w'.cell? (Ub w1.1.size)=Uq (Ud rep)/\w'.cell? (Ua w1.1.size 1)=Uq (Ud q))):=aC (λw' b=>by
   have A1:=Hy.bw b Hy.lt;have D1:=H0.bw b H0.lt;exact⟨A1.c0,A1.c1,A1.c2,D1.c0,D1.c1⟩)
  have H9:aA (∀w' g,Bl M w'->lQ w' g [kk]->Cl 167 #[Uo #[.map (Uq x0.1),.map (Uq x0.2),.map (Uq bm)],Uf a p.length cp,Uf (Uc g) 1 1] w' λe G7=>(∃v V,e=Ui v/\DR G7 w'.1.size v V/\(∀d:Dt,d∈V↔∃y,(y∈S.l/\cV p fl y)/\y.r=d.1/\y.q=d.2)/\V.length<=1000)/\Bl w' G7):=aC (λw' g b hi=>by
   have⟨N,B,hT,H7⟩:=(HO.bw Hq).tj HS.2.2.2;have h8:∀x∈S.l,(aS x).length<=8:=λx hx=>Ay (jU HS.w x hx).2.2.2;have J6:=Ho.2.1;refine(V6 hT H7 (oH HS.2.1) HS.2.1 h8 p a cp bm g 1 [kk] oM (C8 Ho) (λk hk=>?_) oP w' b ((Kn.bw Hq).bw b) hi).mono ?_
   .rw[List.mem_singleton.1 hk,<-Hn.out];rcases lV fl with e|e<;>rw[e]<;>decide
   .rintro e G7⟨⟨v1,V,he,Js,Jw,Jt⟩,b1⟩;refine⟨⟨v1,V,he,Js,λd=>?_,?_⟩,b1⟩
    .rw[Jw d];have h0:0<p.length:=Ho.1;constructor
     .rintro⟨k,hk,x,hx,H6,e⟩;rw[List.mem_singleton.1 hk,<-Hn.out]at H6;exact⟨x,⟨hx,(Ip h0).1 H6⟩,congrArg Prod.fst e,congrArg Prod.snd e⟩
     .rintro⟨y,⟨O,hg⟩,A,Q⟩;exact⟨kk,List.mem_singleton.2 rfl,y,O,by rw[<-Hn.out];exact(Ip h0).2 hg,Prod.ext A Q⟩
    .rw[Jt];have h1:=Aw (p:=p) Ho.1 S.l;have h2:=HS.2.1;rw[<-Hn.out];rcases lV fl with e|e<;>rw[e]<;>simp<;>omega)
  clear b2;go_wp2_with fail;try rw[Hm]
  clear Hm;apply CK
  .intro G4;refine zS Z<|λqh=>?_;refine tY 0 28 ?_;refine tZ 2 30 ?_;refine tZ 5 33 ?_;have⟨H,Gx⟩:=zE M.drew;have c0:Bl M H:=Gx▸zI.drew;rw[Gx];clear Gx;refine fU (i:=3) (j:=6) (d:=Uq 31) (d':=Uq 34) oK oK oK ?_ ?_;all_goals skip;intro o ho Gv K m;simp only[eB,dZ,dY,eU]at ho;subst ho;go_simp
   have⟨E,Hl⟩:=zE (H.alloc (Uj #[Ud kk] 3));have K4:lQ E H.1.size [kk]:=Hl▸M9 _ _;rotate_left;have⟨E,Hl⟩:=zE (H.alloc (Uj #[Ud rep,Ud q] 99));have J0:DR E H.1.size (Uf (Uc H.1.size) 1 1) [(rep,q)]:=Hl▸Ie _ _ _;rotate_left;all_goals have Hu:Bl H E:=Hl▸zO _ _;rw[Hl];clear Hl;have c1:=aE c0 Hu;refine m.out _ _ (Z _ c1)<|λqh=>?_;clear m K;try simp only[zP]
   .refine fU (i:=4) (j:=6) (d:=Uq 32) (d':=Uq 34) oK oK oK ?_ ?_;all_goals skip;intro o ho Gv K m;simp only[eB,dZ,dY,eU]at ho;subst ho;go_simp
    refine(H9 _ _ c1 K4).mono ?_;rintro e t⟨⟨v3,V,rfl,G6,J3,J7⟩,Hh⟩;rotate_left;have⟨t,J⟩:=zE (E.alloc (Uj #[Ud rep,Ud q] 99));have J1:DR t E.1.size (Uf (Uc E.1.size) 1 1) [(rep,q)]:=J▸Ie _ _ _;have Hh:Bl E t:=J▸zO _ _;rw[J];clear J;rotate_left;all_goals have c2:=aE c1 Hh;refine m.out _ _ (Z _ c2)<|λqh=>?_;clear m K;try simp only[zP]
    focus refine cZ 6 ?_;intro K m;go_simp;have⟨u3,Gg⟩:=zE (t.alloc (Uj #[Ud rep,Ud q] 99));have J2:DR u3 t.1.size (Uf (Uc t.1.size) 1 1) [(rep,q)]:=Gg▸Ie _ _ _;have I:Bl t u3:=Gg▸zO _ _;rw[Gg];clear Gg
    rotate_left;focus refine cZ 4 ?_;intro K m;go_simp;refine(H9 _ _ c2 (K4.bw Hh)).mono ?_;rintro e u3⟨⟨v3,V,rfl,Hx,G5,J4⟩,I⟩
    rotate_left;all_goals
     have c3:=aE c2 I;refine m.out _ _ (Z _ c3)<|λqh=>?_;clear m K;try simp only[zP]
     have z1:=Hh.size;have z2:=I.size;have z3:=Hu.size;have z4:=c0.size
    have Hw:E.1.size<=u3.1.size:=oM;have⟨v6,s,Hc,r6,g6⟩:=yO E.1.size t.1.size v3 (Uf (Uc t.1.size) 1 1) V [(rep,q)] u3 222 (G6.bw I) J2 Hw oS;have Hj:Bl M s:=c3.grown g6.1 c3.size (λk e=>by
     have h1:=(World.ownsRow.lt (G6.bw I) k e).1;omega)
    rotate_left;have Hw:t.1.size<=u3.1.size:=oM;have⟨v6,s,Hc,r6,g6⟩:=yO t.1.size E.1.size v3 (Uf (Uc E.1.size) 1 1) V [(rep,q)] u3 222 Hx (J1.bw I) Hw oS;have Hj:Bl M s:=c3.grown g6.1 c3.size (λk e=>by
     have h1:=(World.ownsRow.lt Hx k e).1;omega)
    rotate_left;all_goals have⟨u,U⟩:=zE (V++[(rep,q)]);rw[U]at r6;have Hk:u.length<=1001:=(by rw[<-U];simp;omega)
    have Hi:∀d:Dt,d∈u↔(∃y,(y∈S.l/\cV p fl y)/\y.r=d.1/\y.q=d.2)\/∃y∈[(⟨p,fl,rep,q,v⟩:Lf)],y.r=d.1/\y.q=d.2:=λd=>by
     rw[<-U,VZ,J3 d,UY];constructor
     .rintro(e|e)
      .exact .inl e
      .exact .inr ⟨_,List.mem_singleton.2 rfl,by rw[e],by rw[e]⟩
     .rintro(e|⟨y,O,A,Q⟩)
      .exact .inl e
      .rw[List.mem_singleton.1 O]at A Q;exact .inr<|Prod.ext A.symm Q.symm
    rotate_left;have Hi:∀d:Dt,d∈u↔(∃y,(y∈S.l/\cV p fl y)/\y.r=d.1/\y.q=d.2)\/∃y∈[(⟨p,fl,rep,q,v⟩:Lf)],y.r=d.1/\y.q=d.2:=λd=>by
     rw[<-U,VZ,G5 d,UY];constructor
     .rintro(e|e)
      .exact .inl e
      .exact .inr ⟨_,List.mem_singleton.2 rfl,by rw[e],by rw[e]⟩
     .rintro(e|⟨y,O,A,Q⟩)
      .exact .inl e
      .rw[List.mem_singleton.1 O]at A Q;exact .inr<|Prod.ext A.symm Q.symm
    rotate_left;all_goals
     obtain⟨ta,tc,rfl,Ha,Gy,Gz⟩:=zU r6;clear U;refine cZ 7 ?_;intro K m;refine oX _ _ _ _ rfl Hc (by rfl) (by rfl) rfl ?_;refine m.out _ _ (Z _ Hj)<|λqh=>?_;clear m K;try simp only[zP]
     refine tZ 8 15 ?_;refine zD ?_;have hP:pY s ta u/\(∀d:Dt,d∈u↔(∃y,(y∈S.l/\cV p fl y)/\y.r=d.1/\y.q=d.2)\/∃y∈[(⟨p,fl,rep,q,v⟩:Lf)],y.r=d.1/\y.q=d.2)/\u.length<=1001/\Bl M s:=⟨Ha,Hi,Hk,Hj⟩
    .generalize m:H.1.size=aK;generalize hL:t.1.size=aL;clear m hL qh Hc r6 g6 Hj Hk Hi Ha Hw Gy Gz;try clear G6
     try clear Hx
     revert hP;revert s;revert u;revert tc;revert ta;revert v3;revert aL;revert aK;exact G4
    .exact G4 H.1.size E.1.size v3 ta tc u s hP
   .refine cZ 3 ?_;intro K m;go_simp;have⟨t,J⟩:=zE (E.alloc (Uj #[Ud kk] 3));have Jz:lQ t E.1.size [kk]:=J▸M9 _ _;have Hh:Bl E t:=J▸zO _ _;rw[J];clear J;have c2:=aE c1 Hh;refine m.out _ _ (Z _ c2)<|λqh=>?_;clear m K;try simp only[zP]
    refine cZ 4 ?_;intro K m;go_simp;refine(H9 _ _ c2 Jz).mono ?_;rintro e u3⟨⟨v3,V,rfl,Hx,G5,J4⟩,I⟩;have c3:=aE c2 I;refine m.out _ _ (Z _ c3)<|λqh=>?_;clear m K;try simp only[zP]
    have z1:=Hh.size;have z2:=I.size;have z3:=Hu.size;have z4:=c0.size;have Hw:t.1.size<=u3.1.size:=oM;have⟨v6,s,Hc,r6,g6⟩:=yO t.1.size H.1.size v3 (Uf (Uc H.1.size) 1 1) V [(rep,q)] u3 222 Hx ((J0.bw Hh).bw I) Hw oS;have Hj:Bl M s:=c3.grown g6.1 c3.size (λk e=>by
     have h1:=(World.ownsRow.lt Hx k e).1;omega)
    have⟨u,U⟩:=zE (V++[(rep,q)]);rw[U]at r6;have Hk:u.length<=1001:=(by rw[<-U];simp;omega);have Hi:∀d:Dt,d∈u↔(∃y,(y∈S.l/\cV p fl y)/\y.r=d.1/\y.q=d.2)\/∃y∈[(⟨p,fl,rep,q,v⟩:Lf)],y.r=d.1/\y.q=d.2:=λd=>by
     rw[<-U,VZ,G5 d,UY];constructor
     .rintro(e|e)
      .exact .inl e
      .exact .inr ⟨_,List.mem_singleton.2 rfl,by rw[e],by rw[e]⟩
     .rintro(e|⟨y,O,A,Q⟩)
      .exact .inl e
      .rw[List.mem_singleton.1 O]at A Q;exact .inr<|Prod.ext A.symm Q.symm
    obtain⟨ta,tc,rfl,Ha,Gy,Gz⟩:=zU r6;clear U;refine cZ 7 ?_;intro K m;refine oX _ _ _ _ rfl Hc (by rfl) (by rfl) rfl ?_;refine m.out _ _ (Z _ Hj)<|λqh=>?_;clear m K;try simp only[zP]
    refine tZ 8 15 ?_;refine zD ?_;have hP:pY s ta u/\(∀d:Dt,d∈u↔(∃y,(y∈S.l/\cV p fl y)/\y.r=d.1/\y.q=d.2)\/∃y∈[(⟨p,fl,rep,q,v⟩:Lf)],y.r=d.1/\y.q=d.2)/\u.length<=1001/\Bl M s:=⟨Ha,Hi,Hk,Hj⟩;exact G4 E.1.size H.1.size v3 ta tc u s hP
  intro aK aL v3 ta tc u s hP;have⟨Ha,Hi,Hk,b6⟩:=hP;have Gp:=aC Ha;have Je:=aC Hi;have Jd:=aC Hk;have Kc:=aC (H0.bw b6 H0.lt);have Jg:aA (Ek u):=aC (λd hd=>by
   rcases (Hi d).1 hd with⟨y,⟨O,_⟩,A,Q⟩|⟨y,O,A,Q⟩
   .have:=sE (mD HS) (lZ HS y O);unfold dG cP at this;simp only at this;omega
   .have:=Ga.dot y O;unfold dG cP at this;simp only at this;omega)
  have Hb:=aC<|aE Hq b6;have Ka:=aC<|Hy.bw b6 Hy.lt;have H1:=aC<|Kd.bw Hb Kd.lt;have Kl:=aC<|Gd.bw Hb Gd.lt;have Ki:=aC<|Gb.bw Hb Gb.lt;have Jf:=aC<|HO.bw Hb;have Jl:=aC<|Kn.bw Hb;clear Ha Hi Hk b6 H9 Z H0 Ge Gc Gj Hy;go_wp2_with fail;refine(sK _).mono ?_;rintro e w7⟨s1,s2,rfl,Kz,Kw,Kx,m1,m2,b7⟩;have Ko:=aC<|W9 (B:=s.1.size) m1 m2 Kz ⟨Kw,Kx⟩;have Jm:aA (s1<w7.1.size/\s2<w7.1.size):=aC ⟨m1.lt,m2.lt⟩;have Km:=aC<|Tv ta tc u w7 (oH Jd) Jg (Gp.bw b7);have K9:=aC b7;clear Kz Kw Kx m1 m2 b7;go_wp2_with fail;refine Km.mono ?_;rintro e w8⟨⟨bd,n,D,G,L,rfl,hn,hG,H8,Kv,H5,Gr⟩,b8⟩;have⟨w9,Gh⟩:=zE (w8.alloc (Uj #[.map (Uq s1),.map (Uq s2),.map (Uq bd)] 111));have b9:Bl w8 w9:=Gh▸zO _ _;have Kq:aA (aH w9 w8.1.size (.map (Uq s1)) (.map (Uq s2)) (.map (Uq bd))):=aC<|Gh▸aH.made _ _ _ _ _;have Gq:=aE b8 b9;have Ht:=aE K9 Gq;have Hz:=aC Ht;have Ks:∀(z:List Ky) (x:Nat×Nat),(if z=[] then Uq (s1,s2)else Up)=Uq x->x.1≠bd/\x.2≠bd:=λz x hx=>by
   have h1:=Jm.out;by_cases e:z=[]
   .rw[if_pos e]at hx;injection hx with hx;subst hx;exact⟨oQ,by show s2≠bd;omega⟩
   .rw[if_neg e]at hx;cases hx
  have Kt:bd<w9.1.size:=by
   have⟨es,cl,hb,_⟩:=(hG.bw b9).own;exact(Array.getElem?_eq_some_iff.1 hb).1
  have K2:(Lit.int Uh q).wf=true:=eX (by have:=Ga.dot _ (List.mem_singleton.2 rfl);unfold dG cP at this;simp only at this;omega)<|oH Jj;have K1:(Lit.int Uh kk).wf=true:=by rw[<-Hn.out];rcases lV fl with e|e<;>rw[e]<;>decide
  have Kh:=aC<|Pp bd p a cp kk rep q v s.1.size (9*0) (λz=>if z=[] then Uq (s1,s2)else Up) (Mk [] 0) (s1,s2) w9 (oH Ho.2.1) (C8 Ho) K1 Jk K2 oM (oH Ht.size) (Jl.bw Ht) (Ko.1.bw Gq) (if_pos rfl) Kt Ks;have Hs:aA (n<=2000/\bP w9 bd n D G L/\(∀r,bL (L r))/\(∀r x,In (L r) x↔(r,x)∈u)/\∀r,(L r).length<=2000):=aC ⟨hn,hG.bw b9,H8,Kv,H5⟩;have X9:=Kq.out;have⟨y0,y1,y2⟩:=X9.q3;have D9:=Kc.bw Ht Kc.lt;have⟨y3,y4⟩:=D9.q2;have y5:=(H1.bw Ht H1.lt).c0;clear hn hG H8 Kv H5 Gr b8 b9 Gq Ht Ks Kt K2 K1 Km X9 D9;go_wp2_with fail;try rw[Gh]
  clear Gh;refine Kh.mono ?_;rintro e Gi⟨rfl,Hv,K7,N',K6,K5,K3⟩;have bX:Bl s Gi:=Hz.trans<|Hv.bw (oH Hz.size);have Kr:iX [(⟨p,fl,rep,q,v⟩:Lf)] 1 N':=λz=>by
   rw[K3 z];have h1:=Ko.2 z;constructor
   .rintro(e|e)
    .rcases h1.1 e with e|⟨j,hj,_⟩
     .exact .inl e
     .omega
    .exact .inr ⟨0,oM,by rw[<-Hn.out]at e;exact e⟩
   .rintro(e|⟨j,hj,e⟩)
    .exact .inl<|h1.2 (.inl e)
    .obtain rfl:j=0:=oM;exact .inr (by rw[<-Hn.out];exact e)
  have Gw:=Wa (g:=cV p fl) (P:=[(⟨p,fl,rep,q,v⟩:Lf)]) HS Ga Hs.1 (Hs.2.1.gtX Hv K7) Hs.2.2.1 Hs.2.2.2.1 Hs.2.2.2.2 Je (x0:=(s1,s2)) (N:=N') (B:=s.1.size) (by
   have:=K6.mono (c':=9*1) (oH Ho.2.1);rw[<-Hn.out]at this;exact this) K5 Kr
  have Gm:=aC (Wd Gi (Jf.bw bX) Gw.1 Gw.2 (U0 _ _) HS.w (rK HS Ga));have⟨X,hX⟩:=zE (eI S (aQ (cV p fl) S.l [⟨p,fl,rep,q,v⟩]));have⟨Y,hY⟩:=zE (eC S (aQ (cV p fl) S.l [⟨p,fl,rep,q,v⟩]));have⟨C,hC⟩:=zE (fP S (aQ (cV p fl) S.l [⟨p,fl,rep,q,v⟩]));rw[hX,hY,hC]at Gm;have Hr:aA (mK S rep p fl v=X/\mI S rep p fl v=Y/\pP S rep p fl v=C):=aC (by
   have⟨z1,z2,z3⟩:=HZ.out;rw[Jq.out]at z1 z2 z3;exact⟨z1.trans hX,z2.trans hY,z3.trans hC⟩)
  have G8:=Ka.bw bX Ka.lt;have⟨l0,l1,l2⟩:=G8.q3;have z0:=Hv.cell y0;have z1:=Hv.cell y1;have z2:=Hv.cell y2;have H4:=aC<|Kl.bw bX Kl.lt;have H3:=aC<|Ki.bw bX Ki.lt;have Kb:=aC<|aE Hb bX;clear y0 y1 y2 y3 y4 y5 bX Kr Gw hX hY hC G8 Hv K7 K6 K5 K3 Kh Hs;go_wp2_with fail;refine Gm.mono ?_;rintro e w4⟨ra,rc,rx,rd,Hd,Hg,Hf,He,Hp,rfl,ox,oy,b4⟩;have R4:=H4.bw b4 H4.lt;have Q4:=H3.bw b4 H3.lt;have K8:=aC<|aE Gk (aE Kb b4);have Kg:=aC ox;have Gn:=aC oy;have Jp:aA (w.1.size+4<=Gi.1.size):=aC (by have h1:=Jr.out;have h2:=Kb.size;omega);have⟨r0,r1,rf⟩:=R4.p2;have HC:=aC<|R4.set (Uf ra X.l.length rc) (Uf rx X.n rd);have Q5:=((Q4.setAt (Ua (w.1.size+1+1) 0) (Uf ra X.l.length rc) oQ).setAt (Ua (w.1.size+1+1) 1) (Uf rx X.n rd) oQ);have⟨q0,q1,qf⟩:=Q5.p2;have Go:=aC<|Q5.set (Uf Hd Y.l.length Hg) (Uf Hf Y.n He);have Jc:=aC<|(HC.setAt (Ua (w.1.size+1+1+1) 0) (Uf Hd Y.l.length Hg) oQ).setAt (Ua (w.1.size+1+1+1) 1) (Uf Hf Y.n He) oQ;clear ox oy b4 R4 Q4 Q5 Gm l0 l1 l2 z0 z1 z2;go_wp2_with fail;have⟨s0,s1⟩:=Jc.q2;have⟨s2,s3⟩:=Go.q2;refine zF (v:=Ul #[Uo #[Uf ra X.l.length rc,Uf rx X.n rd],Uo #[Uf Hd Y.l.length Hg,Uf Hf Y.n He],Ud C]) (by simp[results,results126,go_sem,s0,s1,s2,s3]) ?_;have hz:=Jp.out;have Jx:Gi.1.size<=Hp:=Kg.hl.1;have A:=Hr.1;have Q:=Hr.2.1;have e3:=Hr.2.2;have G1:aM ((((w4.setCell (Ua (w.1.size+1+1) 0) (Uf ra X.l.length rc)).setCell (Ua (w.1.size+1+1) 1) (Uf rx X.n rd)).setCell (Ua (w.1.size+1+1+1) 0) (Uf Hd Y.l.length Hg)).setCell (Ua (w.1.size+1+1+1) 1) (Uf Hf Y.n He)) w.1.size Hp ra rx rd X:=
   aM.wide ((((Kg.set (Ua (w.1.size+1+1) 0) (Uf ra X.l.length rc) (.inl oQ)).set (Ua (w.1.size+1+1) 1) (Uf rx X.n rd) (.inl oQ)).set (Ua (w.1.size+1+1+1) 0) (Uf Hd Y.l.length Hg) (.inl oQ)).set (Ua (w.1.size+1+1+1) 1) (Uf Hf Y.n He) (.inl oQ)) oM zL (by simp[Vr];exact Uz Gn.hl.1 Gn.hl.2)
  have G2:aM ((((w4.setCell (Ua (w.1.size+1+1) 0) (Uf ra X.l.length rc)).setCell (Ua (w.1.size+1+1) 1) (Uf rx X.n rd)).setCell (Ua (w.1.size+1+1+1) 0) (Uf Hd Y.l.length Hg)).setCell (Ua (w.1.size+1+1+1) 1) (Uf Hf Y.n He)) Hp ((((w4.setCell (Ua (w.1.size+1+1) 0) (Uf ra X.l.length rc)).setCell (Ua (w.1.size+1+1) 1) (Uf rx X.n rd)).setCell (Ua (w.1.size+1+1+1) 0) (Uf Hd Y.l.length Hg)).setCell (Ua (w.1.size+1+1+1) 1) (Uf Hf Y.n He)).1.size Hd Hf He Y:=
   aM.wide ((((Gn.set (Ua (w.1.size+1+1) 0) (Uf ra X.l.length rc) (.inl oQ)).set (Ua (w.1.size+1+1) 1) (Uf rx X.n rd) (.inl oQ)).set (Ua (w.1.size+1+1+1) 0) (Uf Hd Y.l.length Hg) (.inl oQ)).set (Ua (w.1.size+1+1+1) 1) (Uf Hf Y.n He) (.inl oQ)) zL (by simp[Vr]) zL
  have G3:=(((K8.setCell (p:=(Ua (w.1.size+1+1) 0)) oQ (Uf ra X.l.length rc)).setCell (p:=(Ua (w.1.size+1+1) 1)) oQ (Uf rx X.n rd)).setCell (p:=(Ua (w.1.size+1+1+1) 0)) oQ (Uf Hd Y.l.length Hg)).setCell (p:=(Ua (w.1.size+1+1+1) 1)) oQ<|Uf Hf Y.n He;rw[A,Q,e3];first
   |exact⟨ra,rc,rx,rd,Hd,Hg,Hf,He,Hp,rfl,G1,G2,G3⟩
   |exact⟨ra,rc,rx,rd,Hd,Hg,Hf,He,rfl,Hp,G1,G2,G3⟩
 .have A:=Gu hc;clear O Gu;subst A;have HZ:=aC (E2 (S:=S) (rep:=rep) (p:=p) (fl:=fl) (v:=v) (λhn=>hc (Kf.1 hn)));clear hc;have⟨t,J⟩:=zE (w1.alloc (Uj #[Ud 0,Ud 0] 99));have b2:Bl w1 t:=J▸zO _ _;have D2:aD t w1.1.size (Ud 0) (Ud 0):=J▸aD.made _ _ _ _;have⟨y0,y1,yf⟩:=D2.p2;have⟨M,Hm⟩:=zE ((t.setCell (Ub w1.1.size) (Ud 0)).setCell (Ua w1.1.size 1) (Ud 0));have Ju:=Gc.lt;have Hq:aA (Bl w M):=aC (by
   have h1:=Gk.size;have h2:=Gl.size;rw[<-Hm];exact((aE Gk (aE Gl b2)).setCell (p:=(Ub w1.1.size)) oQ _).setCell (p:=(Ua w1.1.size 1)) oQ _)
  have Kk:aA (aD M (w.1.size+1+1) Ue Ue):=aC (by
   rw[<-Hm];exact((Ge.bw b2 Ge.lt).setAt _ _ oQ).setAt _ _ oQ)
  have Jh:aA (aD M (w.1.size+1+1+1) Ue Ue):=aC (by
   rw[<-Hm];exact((Gc.bw b2 Gc.lt).setAt _ _ oQ).setAt _ _ oQ)
  clear D2 Ju;have⟨r0,r1,rf⟩:=Kk.p2;have Ja:=aC<|Kk.set Ue Ue;have Q3:=(Jh.setAt (Ua (w.1.size+1+1) 0) Ue oQ).setAt (Ua (w.1.size+1+1) 1) Ue oQ;have⟨q0,q1,qf⟩:=Q3.p2;have Ji:=aC<|Q3.set Ue Ue;have Jb:=aC<|(Ja.setAt (Ua (w.1.size+1+1+1) 0) Ue oQ).setAt (Ua (w.1.size+1+1+1) 1) Ue oQ;clear Q3 b2;go_wp2_with fail;try rw[Hm]
  have⟨s0,s1⟩:=Jb.q2;have⟨s2,s3⟩:=Ji.q2;refine zF (v:=Ul #[Uo #[Ue,Ue],Uo #[Ue,Ue],Ud 3]) (by simp[results,results126,go_sem,s0,s1,s2,s3]) ⟨Up,0,Up,0,Up,0,Up,0,w.1.size,by rw[HZ.1,HZ.2.1,HZ.2.2];rfl,?_,?_,?_⟩
  .rw[HZ.1];exact aM.mt _ Sx.mt rfl rfl _ _ ⟨Ux _,by simp[Vr];exact Hq.size⟩ _ _ _
  .rw[HZ.2.1];exact aM.emp _ _ _ _ _ (by simp[Vr];exact Hq.size)
  .exact(((Hq.setCell oS _).setCell oS _).setCell oS _).setCell oS _
theorem WJ(a:Option Us)(c:Nat)(xa:Option Us)(d:Nat)(pa:Option Us)(pc:Nat)(S:Sx)(rep:Int)(p:List ByteArray)(v:ByteArray)(w:Ur)(hm:S.Sm)(hT:lC S.T)(h1:dH w a S.l)(h3:bI w xa S.n S.R S.F S.T)(hp:p.length<=1048576)(hpc:p.length<=pc/\pc<=9223372036854775807)(hseg:aV w pa p)(hv:v.size<=1048576):
  Cl 45 #[Uo #[Uf a S.l.length c,Uf xa S.n d],Ud rep,Uf pa p.length pc,Um v] w λe w'=>∃a m x t a' m' x' t',e=Ui (Ul #[Uo #[Uf a (cR S rep p false true v).l.length m,Uf x (cR S rep p false true v).n t],Uo #[Uf a' (cO S rep p false true v).l.length m',Uf x' (cO S rep p false true v).n t'],Ud (eO S rep p false true v)])/\aT w' w.1.size a m x (cR S rep p false true v)/\aT w' w.1.size a' m' x' (cO S rep p false true v)/\Bl w w':=by
 have⟨W,j⟩:=zE (((w.alloc (Uj #[Uf a S.l.length c,Uf xa S.n d] 28)).alloc (Uj #[Ue,Ue] 28)).alloc (Uj #[Ue,Ue] 28));have k:Bl w W:=j▸(aU _ _ _).alloc oS _;have B:W.1.size=w.1.size+3:=j▸oP;have b:aD W w.1.size (Uf a S.l.length c) (Uf xa S.n d):=j▸((aD.made w _ _ _).allocs _).allocs _;have I:aD W (w.1.size+1) Ue Ue:=by
  rw[<-j];have:=aD.made (w.alloc (Uj #[Uf a S.l.length c,Uf xa S.n d] 28)) Ue Ue 28;exact(by simpa using this:aD _ (w.1.size+1) _ _).allocs _
 have H:aD W (w.1.size+1+1) Ue Ue:=by
  rw[<-j];simpa using aD.made ((w.alloc (Uj #[Uf a S.l.length c,Uf xa S.n d] 28)).alloc (Uj #[Ue,Ue] 28)) Ue Ue 28
 have G:=aC I;have Z:=aC H;have D:=aC k;have⟨k0,k1⟩:=b.q2;have s:=aC (R3 a c xa d pa pc S rep p false true v W hm hT (h1.bw k) (h3.bw k) hp hpc (hseg.bw k) hv (λh=>by cases h));have⟨X,M⟩:=zE (cR S rep p false true v);have⟨Y,O⟩:=zE (cO S rep p false true v);have⟨C,E⟩:=zE (eO S rep p false true v);rw[M,O,E]at s;have A:=aC<|And.intro M (And.intro O E);have Hc:aA (w.1.size+3<=W.1.size):=aC oM;go_enter func45,ntmps45;go_wp2_with fail;refine s.mono ?_;rintro e w4⟨q,u,o,z,r,y,i,g,rfl,L,N,b4⟩;have P:=aC<|G.bw b4 G.lt;have Ha:=aC<|Z.bw b4 Z.lt;have Q:=aC<|aE D b4;have U:=aC L;have V:=aC N;have⟨r0,r1,rf,q0,q1,qf,Hb⟩:=lR P Ha (Uf q X.l.length u) (Uf o X.n z) (Uf r Y.l.length y) (Uf i Y.n g);go_wp2_with fail;have⟨J,K⟩:=Hb.out;refine zF (v:=Ul #[Uo #[Uf q X.l.length u,Uf o X.n z],Uo #[Uf r Y.l.length y,Uf i Y.n g],Ud C]) (by simp[results,results45,go_sem,J.c0,J.c1,K.c0,K.c1]) ?_;have hz:=Hc.out;rw[A.1,A.2.1,A.2.2];first
  |exact⟨q,u,o,z,r,y,i,g,rfl,jF U oM _ _ _ _,jF V oM _ _ _ _,mZ Q _ _ _ _⟩
  |exact⟨q,u,o,z,r,y,i,⟨g,rfl⟩,jF U oM _ _ _ _,jF V oM _ _ _ _,mZ Q _ _ _ _⟩
theorem WL(a:Option Us)(c:Nat)(xa:Option Us)(d:Nat)(pa:Option Us)(pc:Nat)(S:Sx)(rep:Int)(p:List ByteArray)(on:Bool)(w:Ur)(hm:S.Sm)(hT:lC S.T)(h1:dH w a S.l)(h3:bI w xa S.n S.R S.F S.T)(hp:p.length<=1048576)(hpc:p.length<=pc/\pc<=9223372036854775807)(hseg:aV w pa p):
  Cl 47 #[Uo #[Uf a S.l.length c,Uf xa S.n d],Ud rep,Uf pa p.length pc,Un on] w λe w'=>∃a m x t a' m' x' t',e=Ui (Ul #[Uo #[Uf a (cR S rep p true on ⟨#[]⟩).l.length m,Uf x (cR S rep p true on ⟨#[]⟩).n t],Uo #[Uf a' (cO S rep p true on ⟨#[]⟩).l.length m',Uf x' (cO S rep p true on ⟨#[]⟩).n t'],Ud (eO S rep p true on ⟨#[]⟩)])/\aT w' w.1.size a m x (cR S rep p true on ⟨#[]⟩)/\aT w' w.1.size a' m' x' (cO S rep p true on ⟨#[]⟩)/\Bl w w':=by
 have⟨W,j⟩:=zE (((w.alloc (Uj #[Uf a S.l.length c,Uf xa S.n d] 28)).alloc (Uj #[Ue,Ue] 28)).alloc (Uj #[Ue,Ue] 28));have k:Bl w W:=j▸(aU _ _ _).alloc oS _;have N:W.1.size=w.1.size+3:=j▸oP;have i:aD W w.1.size (Uf a S.l.length c) (Uf xa S.n d):=j▸((aD.made w _ _ _).allocs _).allocs _;have H:aD W (w.1.size+1) Ue Ue:=by
  rw[<-j];have:=aD.made (w.alloc (Uj #[Uf a S.l.length c,Uf xa S.n d] 28)) Ue Ue 28;exact(by simpa using this:aD _ (w.1.size+1) _ _).allocs _
 have G:aD W (w.1.size+1+1) Ue Ue:=by
  rw[<-j];simpa using aD.made ((w.alloc (Uj #[Uf a S.l.length c,Uf xa S.n d] 28)).alloc (Uj #[Ue,Ue] 28)) Ue Ue 28
 have Z:=aC H;have V:=aC G;have C:=aC k;have⟨k0,k1⟩:=i.q2;have b:=aC (R3 a c xa d pa pc S rep p true on ⟨#[]⟩ W hm hT (h1.bw k) (h3.bw k) hp hpc (hseg.bw k) oD (λ_=>by simp[fO]));have⟨X,E⟩:=zE (cR S rep p true on ⟨#[]⟩);have⟨Y,M⟩:=zE (cO S rep p true on ⟨#[]⟩);have⟨B,A⟩:=zE (eO S rep p true on ⟨#[]⟩);rw[E,M,A]at b;have s:=aC<|And.intro E (And.intro M A);have Hb:aA (w.1.size+3<=W.1.size):=aC oM;go_enter func47,ntmps47;go_wp2_with fail;refine b.mono ?_;rintro e w4⟨q,u,g,z,r,y,o,h,rfl,K,L,b4⟩;have D:=aC<|Z.bw b4 Z.lt;have P:=aC<|V.bw b4 V.lt;have O:=aC<|aE C b4;have Q:=aC K;have U:=aC L;have⟨r0,r1,rf,q0,q1,qf,Ha⟩:=lR D P (Uf q X.l.length u) (Uf g X.n z) (Uf r Y.l.length y) (Uf o Y.n h);go_wp2_with fail;have⟨I,J⟩:=Ha.out;refine zF (v:=Ul #[Uo #[Uf q X.l.length u,Uf g X.n z],Uo #[Uf r Y.l.length y,Uf o Y.n h],Ud B]) (by simp[results,results47,go_sem,I.c0,I.c1,J.c0,J.c1]) ?_;have hz:=Hb.out;rw[s.1,s.2.1,s.2.2];first
  |exact⟨q,u,g,z,r,y,o,h,rfl,jF Q oM _ _ _ _,jF U oM _ _ _ _,mZ O _ _ _ _⟩
  |exact⟨q,u,g,z,r,y,o,⟨h,rfl⟩,jF Q oM _ _ _ _,jF U oM _ _ _ _,mZ O _ _ _ _⟩
theorem XB(a x pa:Option Us)(c d pc:Nat)(S:Sx)(rep:Int)(p:List ByteArray)(v:ByteArray)(w:Ur)(hm:S.Sm)(hi:∀i,eK (gL S.l i))(h:cX w a x S)(hp:p.length<=1048576)(hseg:aV w pa p)(hvs:v.size<=1048576)(hrep:(Lit.int Uh rep).wf=true):
  Cl 86 #[Uo #[Uf a S.l.length c,Uf x S.n d],Ud rep,Uf pa p.length pc,Um v] w λe w'=>∃a c x d a' c' x' d' j,e=Ui (Ul #[Uo #[Uf a (cR S rep p false true v).l.length c,Uf x (cR S rep p false true v).n d],Uo #[Uf a' (cO S rep p false true v).l.length c',Uf x' (cO S rep p false true v).n d'],Ud (eO S rep p false true v)])/\aM w' w.1.size j a x d (cR S rep p false true v)/\aM w' j w'.1.size a' x' d' (cO S rep p false true v)/\Bl w w':=by
 generalize u:((w.alloc (Uj #[Uf a S.l.length c,Uf x S.n d] 28)).alloc (Uj #[Ue,Ue] 28)).alloc (Uj #[Ue,Ue] 28)=W;have K:Bl w W:=u▸(aU _ _ _).alloc oS _;have zW:W.1.size=w.1.size+3:=u▸oP;have P:aD W w.1.size (Uf a S.l.length c) (Uf x S.n d):=u▸((aD.made w _ _ _).allocs _).allocs _;have R0:aD W (w.1.size+1) Ue Ue:=by
  rw[<-u];have:=aD.made (w.alloc (Uj #[Uf a S.l.length c,Uf x S.n d] 28)) Ue Ue 28;exact(by simpa using this:aD _ (w.1.size+1) _ _).allocs _
 have Q0:aD W (w.1.size+1+1) Ue Ue:=by
  rw[<-u];simpa using aD.made ((w.alloc (Uj #[Uf a S.l.length c,Uf x S.n d] 28)).alloc (Uj #[Ue,Ue] 28)) Ue Ue 28
 have Hl:=aC R0;have Hk:=aC Q0;have Hm:=aC K;have Hx:=aC zW;have⟨k0,k1⟩:=P.q2;have O:=aC<|Ol a x pa c d pc S p v W hm hi (h.bw K) hp (hseg.bw K) hvs;have Hs:=aC<|hseg.bw K;have Hq:=aC hrep;generalize hC:dQ S p v=C;rw[hC]at O;have R:=aC hC;clear K zW P R0 Q0 h hseg hi hm hC hrep;go_enter func86,ntmps86;go_wp2_with fail;clear u;refine O.mono ?_;rintro e w1⟨⟨u0,u1,u2,rfl,ho⟩,b1⟩;have Hn:=aC ho;generalize N:w1.alloc (Uj #[.map u0,.map u1,.map u2] 111)=m;have b2:Bl w1 m:=N▸zO _ _;have Hu:aA (aH m w1.1.size (.map u0) (.map u1) (.map u2)):=aC<|N▸aH.made _ _ _ _ _;have H:=aC<|aE b1 b2;have Hd:=aC b2;have G:=aC<|aE Hm H;have k:=aC<|Hl.bw H Hl.lt;have Q:=aC<|Hk.bw H Hk.lt;have Hr:=aC<|Hs.bw H;have Hv:aA (w.1.size+3<=m.1.size):=aC (by have h1:=Hx.out;have h2:=H.size;omega);clear b1 b2 ho k0 k1 O;by_cases U:C=0;focus
  have Hh:dQ S p v=0:=by rw[R.out];exact U
  have F:=sB Hh;obtain⟨x0,bm,rfl,rfl,rfl,o1⟩:=Hn U;have Ho:=aC (o1.bw Hd);have HS:=aC (gC F.1);have Hp:=aC F.2.1;have Ht:=aC F.2.2;have O:=aC Hh;have⟨H0,H1,H2⟩:=Hu.q3;subst U;clear o1 F Hh;have T:aA (cR S rep p false true v=mK S rep p false v/\cO S rep p false true v=mI S rep p false v/\eO S rep p false true v=pP S rep p false v):=aC (by
   by_cases L:jT S rep
   .have z:=tH (S:=S) (rep:=rep) (p:=p) (fl:=false) (on:=true) (v:=v) O ⟨L.1,λ_=>L.2⟩;have t:=Ey (S:=S) (rep:=rep) (p:=p) (fl:=false) (v:=v) L;exact⟨z.1.trans t.1.symm,z.2.1.trans t.2.1.symm,z.2.2.trans t.2.2.symm⟩
   .have z:=tI (S:=S) (rep:=rep) (p:=p) (fl:=false) (on:=true) (v:=v) O (λh=>L ⟨h.1,h.2 rfl⟩);have t:=E2 (S:=S) (rep:=rep) (p:=p) (fl:=false) (v:=v) L;exact⟨z.1.trans t.1.symm,z.2.1.trans t.2.1.symm,z.2.2.trans t.2.2.symm⟩)
  have Hy:kd false=1:=rfl;have B:=aC (Sb rep p pa pc false v m Ho HS Hp Ht (λh=>by cases h) Hq Hr);generalize hX:cR S rep p false true v=X;generalize hY:cO S rep p false true v=Y;generalize Hg:eO S rep p false true v=Cc;rw[<-T.1,<-T.2.1,<-T.2.2,hX,hY,Hg]at B;have Ha:=aC<|And.intro hX (And.intro hY Hg);clear hX hY Hg;rw[Hy]at B;go_wp2_with fail
  refine B.mono ?_;rintro e w4⟨y,o,E,s,g,b,M,A,j,rfl,ox,oy,b4⟩;have D:=b4;have Hb:=aC<|k.bw D k.lt;have Hc:=aC<|Q.bw D Q.lt;have Hi:=aC<|aE G D;have Hj:=aC ox;have He:=aC oy;have Hw:aA (w.1.size+3<=m.1.size):=aC (by have h1:=Hv.out;omega);clear ox oy b4 D B H0 H1 H2 N k Q G;have k:=Hb;have Q:=Hc;have G:=Hi;clear Hb Hc Hi;have r:=nR k Q (show w.1.size+1≠w.1.size+1+1 by omega) (Uf y X.l.length o) (Uf E X.n s) (Uf g Y.l.length b)<|Uf M Y.n A
 rotate_left;have HZ:aA (cR S rep p false true v=Sx.mt/\cO S rep p false true v=Sx.mt/\eO S rep p false true v=C):=aC (by
  have:=rI (S:=S) (rep:=rep) (p:=p) (fl:=false) (on:=true) (v:=v) (by rw[R.out];exact U);rw[R.out]at this;exact this)
 have H4:(C==0)=false:=by simp[U]
 have r:=nR k Q (show w.1.size+1≠w.1.size+1+1 by omega) Ue Ue Ue Ue;rotate_left;all_goals have⟨r0,r1,rf⟩:=k.p2;have⟨q0,q1,qf⟩:=r.1.p2;have Hf:=aC r.2;clear r;go_wp2_with fail
 .have⟨I,J⟩:=Hf.out;refine zF (v:=Ul #[Uo #[Uf y X.l.length o,Uf E X.n s],Uo #[Uf g Y.l.length b,Uf M Y.n A],Ud Cc]) (by simp[results,results86,go_sem,I.c0,I.c1,J.c0,J.c1]) ?_;have U:=Hw.out;have q:=oW G (show w.1.size<=w.1.size+1 by omega) (show w.1.size<=w.1.size+1+1 by omega) (Uf y X.l.length o) (Uf E X.n s) (Uf g Y.l.length b)<|Uf M Y.n A;rw[Ha.1,Ha.2.1,Ha.2.2];have Hz:m.1.size<=j:=Hj.hl.1;have V:=aM.wide (rN (r1:=w.1.size+1) (r2:=w.1.size+1+1) Hj (show w.1.size+1<m.1.size by omega) (show w.1.size+1+1<m.1.size by omega) (Uf y X.l.length o) (Uf E X.n s) (Uf g Y.l.length b) (Uf M Y.n A)) (lo':=w.1.size) (hi':=j) oM zL (by simp[Vr];exact Uz He.hl.1 He.hl.2);have Z:=rN (r1:=w.1.size+1) (r2:=w.1.size+1+1) He (show w.1.size+1<j by omega) (show w.1.size+1+1<j by omega) (Uf y X.l.length o) (Uf E X.n s) (Uf g Y.l.length b)<|Uf M Y.n A;rw[Dc];first
   |exact⟨y,o,E,s,g,b,M,A,j,rfl,V,Z,q⟩
   |exact⟨y,o,E,s,g,b,M,A,rfl,j,V,Z,q⟩
 .try rw[N]
  have⟨I,J⟩:=Hf.out;refine zF (v:=Ul #[Uo #[Ue,Ue],Uo #[Ue,Ue],Ud C]) (by simp[results,results86,go_sem,I.c0,I.c1,J.c0,J.c1]) ?_;rw[HZ.1,HZ.2.1,HZ.2.2];have q:=oW G (show w.1.size<=w.1.size+1 by omega) (show w.1.size<=w.1.size+1+1 by omega) Ue Ue Ue Ue;have V:aM _ w.1.size w.1.size Up Up 0 Sx.mt:=aM.mt _ Sx.mt rfl rfl _ _ ⟨Ux _,q.size⟩ _ _ _;have Z:aM _ w.1.size _ Up Up 0 Sx.mt:=aM.emp _ _ _ _ _ q.size;first
   |exact⟨Up,0,Up,0,Up,0,Up,0,w.1.size,rfl,V,Z,q⟩
   |exact⟨Up,0,Up,0,Up,0,Up,0,rfl,w.1.size,V,Z,q⟩
theorem wO{Q:Prop}(h:Q:=by
 rw[F.1,F.2.1,F.2.2];have q:=oW G (show w.1.size<=w.1.size+1 by omega) (show w.1.size<=w.1.size+1+1 by omega) Ue Ue Ue Ue;have Q:aM _ w.1.size w.1.size Up Up 0 Sx.mt:=aM.mt _ Sx.mt rfl rfl _ _ ⟨Ux _,q.size⟩ _ _ _;have U:aM _ w.1.size _ Up Up 0 Sx.mt:=aM.emp _ _ _ _ _ q.size;first
  |exact⟨Up,0,Up,0,Up,0,Up,0,w.1.size,rfl,Q,U,q⟩
  |exact⟨Up,0,Up,0,Up,0,Up,0,rfl,w.1.size,Q,U,q⟩):Q:=h
theorem wE{Q:Prop}(h:Q:=by
 have U:=rN (r1:=w.1.size+1) (r2:=w.1.size+1+1) N (show w.1.size+1<m by omega) (show w.1.size+1+1<m by omega) (Uf u X.l.length g) (Uf A X.n b) (Uf y Y.l.length o)<|Uf E Y.n s;rw[Dc];first
  |exact⟨u,g,A,b,y,o,E,s,m,rfl,Q,U,q⟩
  |exact⟨u,g,A,b,y,o,E,s,rfl,m,Q,U,q⟩):Q:=h
theorem WU(a x pa:Option Us)(c d pc:Nat)(S:Sx)(rep:Int)(p:List ByteArray)(on:Bool)(w:Ur)(hm:S.Sm)(hi:∀i,eK (gL S.l i))(h:cX w a x S)(hp:p.length<=1048576)(hseg:aV w pa p)(hrep:(Lit.int Uh rep).wf=true):
  Cl 87 #[Uo #[Uf a S.l.length c,Uf x S.n d],Ud rep,Uf pa p.length pc,Un on] w λe w'=>∃a c x d a' c' x' d' m,e=Ui (Ul #[Uo #[Uf a (cR S rep p true on ⟨#[]⟩).l.length c,Uf x (cR S rep p true on ⟨#[]⟩).n d],Uo #[Uf a' (cO S rep p true on ⟨#[]⟩).l.length c',Uf x' (cO S rep p true on ⟨#[]⟩).n d'],Ud (eO S rep p true on ⟨#[]⟩)])/\aM w' w.1.size m a x d (cR S rep p true on ⟨#[]⟩)/\aM w' m w'.1.size a' x' d' (cO S rep p true on ⟨#[]⟩)/\Bl w w':=by
 have H4:(⟨#[]⟩:ByteArray).size<=1048576:=oD;generalize R:((w.alloc (Uj #[Uf a S.l.length c,Uf x S.n d] 28)).alloc (Uj #[Ue,Ue] 28)).alloc (Uj #[Ue,Ue] 28)=W;have b0:Bl w W:=R▸(aU _ _ _).alloc oS _;have zW:W.1.size=w.1.size+3:=R▸oP;have A0:aD W w.1.size (Uf a S.l.length c) (Uf x S.n d):=R▸((aD.made w _ _ _).allocs _).allocs _;have R0:aD W (w.1.size+1) Ue Ue:=by
  rw[<-R];have:=aD.made (w.alloc (Uj #[Uf a S.l.length c,Uf x S.n d] 28)) Ue Ue 28;exact(by simpa using this:aD _ (w.1.size+1) _ _).allocs _
 have Q0:aD W (w.1.size+1+1) Ue Ue:=by
  rw[<-R];simpa using aD.made ((w.alloc (Uj #[Uf a S.l.length c,Uf x S.n d] 28)).alloc (Uj #[Ue,Ue] 28)) Ue Ue 28
 have Hs:=aC R0;have Hr:=aC Q0;have Hx:=aC b0;have H2:=aC zW;have⟨k0,k1⟩:=A0.q2;have I:=aC<|Ol a x pa c d pc S p ⟨#[]⟩ W hm hi (h.bw b0) hp (hseg.bw b0) H4;have H0:=aC<|hseg.bw b0;have Hz:=aC hrep;generalize hC:dQ S p ⟨#[]⟩=C;rw[hC]at I;have HC:=aC hC;clear b0 zW A0 R0 Q0 h hseg hi hm hC hrep;go_enter func87,ntmps87;go_wp2_with fail;clear R;refine I.mono ?_;rintro e w1⟨⟨u0,u1,u2,rfl,ho⟩,b1⟩;have Hy:=aC ho;generalize K:w1.alloc (Uj #[.map u0,.map u1,.map u2] 111)=M;have b2:Bl w1 M:=K▸zO _ _;have Hu:aA (aH M w1.1.size (.map u0) (.map u1) (.map u2)):=aC<|K▸aH.made _ _ _ _ _;have He:=aC<|aE b1 b2;have Hk:=aC b2;have G:=aC<|aE Hx He;have j:=aC<|Hs.bw He Hs.lt;have O:=aC<|Hr.bw He Hr.lt;have Ht:=aC<|H0.bw He;have Hv:aA (w.1.size+3<=M.1.size):=aC (by have h1:=H2.out;have h2:=He.size;omega);clear b1 b2 ho k0 k1 I;by_cases hz:C=0
 .have Hn:dQ S p ⟨#[]⟩=0:=by rw[HC.out];exact hz
  have Hg:=sB Hn;obtain⟨x0,bm,rfl,rfl,rfl,o1⟩:=Hy hz;have Hq:=aC<|o1.bw Hk;have HS:=aC<|gC Hg.1;have Hf:=aC Hg.2.1;have H1:=aC Hg.2.2;have I:=aC Hn;have⟨Hh,Hi,Hj⟩:=Hu.q3;subst hz;clear o1 Hg Hn;cases on with
  |true=>
   have L:aA (cR S rep p true true ⟨#[]⟩=mK S rep p true ⟨#[]⟩/\cO S rep p true true ⟨#[]⟩=mI S rep p true ⟨#[]⟩/\eO S rep p true true ⟨#[]⟩=pP S rep p true ⟨#[]⟩):=aC (by
    by_cases hn:jT S rep
    .have z:=tH (S:=S) (rep:=rep) (p:=p) (fl:=true) (on:=true) (v:=⟨#[]⟩) I ⟨hn.1,λ_=>hn.2⟩;have t:=Ey (S:=S) (rep:=rep) (p:=p) (fl:=true) (v:=⟨#[]⟩) hn;exact⟨z.1.trans t.1.symm,z.2.1.trans t.2.1.symm,z.2.2.trans t.2.2.symm⟩
    .have z:=tI (S:=S) (rep:=rep) (p:=p) (fl:=true) (on:=true) (v:=⟨#[]⟩) I (λh=>hn ⟨h.1,h.2 rfl⟩);have t:=E2 (S:=S) (rep:=rep) (p:=p) (fl:=true) (v:=⟨#[]⟩) hn;exact⟨z.1.trans t.1.symm,z.2.1.trans t.2.1.symm,z.2.2.trans t.2.2.symm⟩)
   have H3:kd true=2:=rfl;have J:=aC (Sb rep p pa pc true ⟨#[]⟩ M Hq HS Hf H1 (by simp[fO]) Hz Ht);generalize T:cR S rep p true true ⟨#[]⟩=X;generalize hY:cO S rep p true true ⟨#[]⟩=Y;generalize P:eO S rep p true true ⟨#[]⟩=Cc;rw[<-L.1,<-L.2.1,<-L.2.2,T,hY,P]at J;have D:=aC<|And.intro T (And.intro hY P);clear T hY P;rw[H3]at J;go_wp2_with fail;refine J.mono ?_;rintro e w4⟨u,g,A,b,y,o,E,s,m,rfl,ox,oy,b4⟩;have H:=b4;have Ha:=aC<|j.bw H j.lt;have Hb:=aC<|O.bw H O.lt;have Hc:=aC<|aE G H;have Hd:=aC ox;have N:=aC oy;have Hl:aA (w.1.size+3<=M.1.size):=aC (by have h1:=Hv.out;omega);clear ox oy b4 H J Hh Hi Hj K j O G;have j:=Ha;have O:=Hb;have G:=Hc;clear Ha Hb Hc;have r:=nR j O (show w.1.size+1≠w.1.size+1+1 by omega) (Uf u X.l.length g) (Uf A X.n b) (Uf y Y.l.length o)<|Uf E Y.n s;have⟨r0,r1,rf⟩:=j.p2;have⟨q0,q1,qf⟩:=r.1.p2;have B:=aC r.2;clear r;go_wp2_with fail;have⟨V,Z⟩:=B.out;refine zF (v:=Ul #[Uo #[Uf u X.l.length g,Uf A X.n b],Uo #[Uf y Y.l.length o,Uf E Y.n s],Ud Cc]) (by simp[results,results87,go_sem,V.c0,V.c1,Z.c0,Z.c1]) ?_;have hz:=Hl.out;have q:=oW G (show w.1.size<=w.1.size+1 by omega) (show w.1.size<=w.1.size+1+1 by omega) (Uf u X.l.length g) (Uf A X.n b) (Uf y Y.l.length o)<|Uf E Y.n s;rw[D.1,D.2.1,D.2.2];have Hm:M.1.size<=m:=Hd.hl.1;have Q:=aM.wide (rN (r1:=w.1.size+1) (r2:=w.1.size+1+1) Hd (show w.1.size+1<M.1.size by omega) (show w.1.size+1+1<M.1.size by omega) (Uf u X.l.length g) (Uf A X.n b) (Uf y Y.l.length o) (Uf E Y.n s)) (lo':=w.1.size) (hi':=m) oM zL (by simp[Vr];exact Uz N.hl.1 N.hl.2);exact wE
  |false=>
   by_cases hr:0<=rep/\rep<8;have HR:=aC<|N5 rep M hr.1 hr.2;generalize Ho:M.alloc (Uj #[Ud 2] 3)=w3;have b3:Bl M w3:=Ho▸zO _ _;have Hw:lQ w3 M.1.size [2]:=Ho▸M9 _ _;have Hp:=aC b3;have L:aA (cR S rep p true false ⟨#[]⟩=eI S (aQ (cV p true) S.l [])/\cO S rep p true false ⟨#[]⟩=eC S (aQ (cV p true) S.l [])/\eO S rep p true false ⟨#[]⟩=fP S (aQ (cV p true) S.l [])):=aC (tH (S:=S) (rep:=rep) (p:=p) (fl:=true) (on:=false) (v:=⟨#[]⟩) I ⟨hr,λh=>by cases h⟩);have J:=aC (Xz (cV p true) p pa pc M.1.size 1 [2] w3 (Hq.bw b3) HS hp (C8 Hf) (λk hk=>by rw[List.mem_singleton.1 hk];decide) oP (by have h1:=Aw (p:=p) Hf.1 S.l;have h2:=HS.2.1;simp;omega) (λx hx=>by rw[<-Ip (p:=p) (fl:=true) (x:=x) Hf.1];exact⟨λe=>⟨2,oP,e⟩,λ⟨k,hk,e⟩=>by rw[List.mem_singleton.1 hk]at e;exact e⟩) (Ht.bw b3) Hw);generalize T:cR S rep p true false ⟨#[]⟩=X;generalize hY:cO S rep p true false ⟨#[]⟩=Y;generalize P:eO S rep p true false ⟨#[]⟩=Cc;rw[<-L.1,<-L.2.1,<-L.2.2,T,hY,P]at J;have D:=aC<|And.intro T (And.intro hY P);clear T hY P;rotate_left;have HR:=aC<|Ms rep M hr;have F:=aC<|tI (S:=S) (rep:=rep) (p:=p) (fl:=true) (on:=false) (v:=⟨#[]⟩) I (λh=>hr h.1);clear hr;rotate_left;all_goals
    go_wp2_with fail
    refine HR.mono ?_;rintro e w9⟨rfl,rfl⟩
   focus
    clear HR hr b3 Hw;have⟨Hh,Hi,Hj⟩:=Hu.q3;go_wp2_with fail
    refine J.mono ?_;rintro e w4⟨u,g,A,b,y,o,E,s,m,rfl,ox,oy,b4⟩;have H:=aE Hp b4;have Ha:=aC<|j.bw H j.lt;have Hb:=aC<|O.bw H O.lt;have Hc:=aC<|aE G H;have Hd:=aC ox;have N:=aC oy;have Hl:aA (w.1.size+3<=w3.1.size):=aC (by have h1:=Hv.out;have h3:=Hp.size;omega);clear ox oy b4 H J Hh Hi Hj j O G;have j:=Ha;have O:=Hb;have G:=Hc;clear Ha Hb Hc;have r:=nR j O (show w.1.size+1≠w.1.size+1+1 by omega) (Uf u X.l.length g) (Uf A X.n b) (Uf y Y.l.length o)<|Uf E Y.n s
   rotate_left;clear HR K Hh Hi Hj;have r:=nR j O (show w.1.size+1≠w.1.size+1+1 by omega) Ue Ue Ue Ue;rotate_left;all_goals have⟨r0,r1,rf⟩:=j.p2;have⟨q0,q1,qf⟩:=r.1.p2;have B:=aC r.2;clear r;go_wp2_with fail;have⟨V,Z⟩:=B.out
   .refine zF (v:=Ul #[Uo #[Uf u X.l.length g,Uf A X.n b],Uo #[Uf y Y.l.length o,Uf E Y.n s],Ud Cc]) (by simp[results,results87,go_sem,V.c0,V.c1,Z.c0,Z.c1]) ?_;have hz:=Hl.out;have q:=oW G (show w.1.size<=w.1.size+1 by omega) (show w.1.size<=w.1.size+1+1 by omega) (Uf u X.l.length g) (Uf A X.n b) (Uf y Y.l.length o)<|Uf E Y.n s;rw[D.1,D.2.1,D.2.2];have Hm:w3.1.size<=m:=Hd.hl.1;have Q:=aM.wide (rN (r1:=w.1.size+1) (r2:=w.1.size+1+1) Hd (show w.1.size+1<w3.1.size by omega) (show w.1.size+1+1<w3.1.size by omega) (Uf u X.l.length g) (Uf A X.n b) (Uf y Y.l.length o) (Uf E Y.n s)) (lo':=w.1.size) (hi':=m) oM zL (by simp[Vr];exact Uz N.hl.1 N.hl.2);exact wE
   .refine zF (v:=Ul #[Uo #[Ue,Ue],Uo #[Ue,Ue],Ud 3]) (by simp[results,results87,go_sem,V.c0,V.c1,Z.c0,Z.c1]) ?_;exact wO
 .have F:aA (cR S rep p true on ⟨#[]⟩=Sx.mt/\cO S rep p true on ⟨#[]⟩=Sx.mt/\eO S rep p true on ⟨#[]⟩=C):=aC (by
   have:=rI (S:=S) (rep:=rep) (p:=p) (fl:=true) (on:=on) (v:=⟨#[]⟩) (by rw[HC.out];exact hz);rw[HC.out]at this;exact this)
  have H6:(C==0)=false:=by simp[hz]
  have r:=nR j O (show w.1.size+1≠w.1.size+1+1 by omega) Ue Ue Ue Ue;have⟨r0,r1,rf⟩:=j.p2;have⟨q0,q1,qf⟩:=r.1.p2;have B:=aC r.2;clear r;go_wp2_with fail;have⟨V,Z⟩:=B.out;refine zF (v:=Ul #[Uo #[Ue,Ue],Uo #[Ue,Ue],Ud C]) (by simp[results,results87,go_sem,V.c0,V.c1,Z.c0,Z.c1]) ?_;exact wO
theorem Sy(hs:eE S.R S.F S.T S.n S.l)(hd:eE D.R D.F D.T D.n D.l):dR (eI S D)/\dR (eC S D):=by
 cases h:iD S D with
 |false=>have⟨j,k,_⟩:=rM h;rw[j,k];exact⟨mC,mC⟩
 |true=>have⟨j,k,_⟩:=rL h;rw[j,k];unfold iD fL at h;simp only[Bool.and_eq_true,decide_eq_true_eq]at h;exact⟨rY h.1.1 h.1.2 (λx hx=>qD hs hd x hx),rY h.2.1 h.2.2 (λx hx=>jU hd x hx)⟩
theorem GI(S:Sx)(p:List ByteArray):dR (iZ S p)/\dR (iY S p):=by
 by_cases h:dQ S p ⟨#[]⟩=0
 .have⟨j,k,_⟩:=Az h;have m:=gC (sB h).1;rw[j,k];exact Sy m.w<|rK m (dN.nil S)
 .have⟨j,k,_⟩:=xZ h;rw[j,k];exact⟨mC,mC⟩
theorem Rh(S:Sx)(rep:Int)(p:List ByteArray)(fl on:Bool)(v:ByteArray)(hf:fl=true->fO v=true):dR (cR S rep p fl on v)/\dR (cO S rep p fl on v):=by
 by_cases h:dQ S p v=0
 .have m:=sB h;have r:=gC m.1;by_cases q:nO S rep on
  .have⟨j,k,_⟩:=tH (fl:=fl) h q;rw[j,k];exact Sy r.w<|rK r (Ri r m.2.1 m.2.2 hf q)
  .have⟨j,k,_⟩:=tI (fl:=fl) h q;rw[j,k];exact⟨mC,mC⟩
 .have⟨j,k,_⟩:=rI (rep:=rep) (fl:=fl) (on:=on) h;rw[j,k];exact⟨mC,mC⟩
noncomputable def chg(S:Sx)(id k:Int)(p:List ByteArray)(v:ByteArray):Sx×Sx×Int:=
 if k=1 then(cR S id p false true v,cO S id p false true v,eO S id p false true v)
 else if k=4 then(iZ S p,iY S p,lN S p)
 else(cR S id p true (k==2) ⟨#[]⟩,cO S id p true (k==2) ⟨#[]⟩,eO S id p true (k==2) ⟨#[]⟩)
theorem Iz{id:Int}{v:ByteArray}{C:Int}(h:chg S id k p v=(X,Y,C)):dR X/\dR Y:=by
 unfold chg at h;split at h
 .cases h;exact Rh _ _ _ _ _ _ (λh=>by cases h)
 .split at h;all_goals cases h
  .exact GI _ _
  .exact Rh _ _ _ _ _ _ (λ_=>by unfold fO;rw[ByteArray.toList_eq];rfl)
open Go.Deep
def Bg(X Y:Sx)(C:Int)(w:Ur)(e:Ending)(w':Ur):Prop:=∃a m x t a' m' x' t',e=Ui (Ul #[Uo #[Uf a X.l.length m,Uf x X.n t],Uo #[Uf a' Y.l.length m',Uf x' Y.n t'],Ud C])/\aT w' w.1.size a m x X/\aT w' w.1.size a' m' x' Y/\Bl w w'
theorem En{Q:Prop}(h:Q:=by
 have b:=aC h;clear h K;go_enter func23,ntmps23;go_wp2_with fail;try rw[j]
 clear j;refine b.mono ?_;rintro e w4⟨q,u,t,z,r,y,o,g,rfl,E,M,b4⟩;have H:=aC (U.bw b4 U.lt);have I:=aC (Q.bw b4 Q.lt);have V:=aC (aE N b4);have Z:=aC E;have G:=aC M;clear b4 E M b k0 k1 k2 o0 o1 o2;obtain⟨r0,r1,rf,q0,q1,qf,J⟩:=lR H I (Uf q X.l.length u) (Uf t X.n z) (Uf r Y.l.length y) (Uf o Y.n g);go_wp2_with fail;obtain⟨s,A⟩:=J.out;refine zF (v:=Ul #[Uo #[Uf q X.l.length u,Uf t X.n z],Uo #[Uf r Y.l.length y,Uf o Y.n g],Ud C]) (by simp[results,results23,go_sem,s.c0,s.c1,A.c0,A.c1]) ?_;have hz:=B.out;exact⟨q,u,t,z,r,y,o,g,rfl,Fc Z oM oM oM _ _ _ _,Fc G oM oM oM _ _ _ _,oW V oM oM _ _ _ _⟩):Q:=h
theorem RZ(id:Int)(a x a' x' pa:Option Us)(c d c' d' pc:Nat)(S D:Sx)(k:Int)(p:List ByteArray)(v:ByteArray)(X Y:Sx)(C:Int)(w:Ur)(hq:chg S id k p v=(X,Y,C))(hm:S.Sm)(hT:lC S.T)(h1:dH w a S.l)(h3:bI w x S.n S.R S.F S.T)(hp:p.length<=1048576)(hpc:p.length<=pc/\pc<=9223372036854775807)(hseg:aV w pa p)(hv:v.size<=1048576):
  Cl 23 #[Uo #[Ud id,Uf a S.l.length c,Uf x S.n d,Uf a' D.l.length c',Uf x' D.n d'],Uo #[Ud k,Uf pa p.length pc,Um v]] w λe w'=>Bg X Y C w e w':=by
 have⟨W,j⟩:=zE ((((w.alloc (Uj #[Ud id,Uf a S.l.length c,Uf x S.n d,Uf a' D.l.length c',Uf x' D.n d'] 30)).alloc (Uj #[Ud k,Uf pa p.length pc,Um v] 33)).alloc (Uj #[Ue,Ue] 28)).alloc (Uj #[Ue,Ue] 28));have m:Bl w W:=by rw[<-j];exact(((aU _ _ _).alloc oS _).alloc oS _)
 have zW:W.1.size=w.1.size+4:=j▸oP;have L:aF W w.1.size (Ud id) (Uf a S.l.length c) (Uf x S.n d) (Uf a' D.l.length c') (Uf x' D.n d'):=by rw[<-j];exact(((aF.new w _ _ _ _ _ _).up _).up _).up _
 have P:aH W (w.1.size+1) (Ud k) (Uf pa p.length pc) (Um v):=by
  rw[<-j];have:=aH.made (w.alloc (Uj #[Ud id,Uf a S.l.length c,Uf x S.n d,Uf a' D.l.length c',Uf x' D.n d'] 30)) (Ud k) (Uf pa p.length pc) (Um v) 33;exact((by simpa using this:aH _ (w.1.size+1) _ _ _).up _).up _
 have R0:aD W (w.1.size+1+1) Ue Ue:=by
  rw[<-j];have:=aD.made ((w.alloc (Uj #[Ud id,Uf a S.l.length c,Uf x S.n d,Uf a' D.l.length c',Uf x' D.n d'] 30)).alloc (Uj #[Ud k,Uf pa p.length pc,Um v] 33)) Ue Ue 28;exact(by simpa using this:aD _ (w.1.size+1+1) _ _).allocs _
 have Q0:aD W (w.1.size+1+1+1) Ue Ue:=by
  rw[<-j];simpa using aD.made (((w.alloc (Uj #[Ud id,Uf a S.l.length c,Uf x S.n d,Uf a' D.l.length c',Uf x' D.n d'] 30)).alloc (Uj #[Ud k,Uf pa p.length pc,Um v] 33)).alloc (Uj #[Ue,Ue] 28)) Ue Ue 28
 have K:aA ((k=1/\Cl 45 #[Uo #[Uf a S.l.length c,Uf x S.n d],Ud id,Uf pa p.length pc,Um v] W λe w'=>Bg X Y C W e w')\/(k≠1/\k=4/\Cl 46 #[Uo #[Uf a S.l.length c,Uf x S.n d],Uf pa p.length pc] W λe w'=>Bg X Y C W e w')\/k≠1/\k≠4/\Cl 47 #[Uo #[Uf a S.l.length c,Uf x S.n d],Ud id,Uf pa p.length pc,Un (k==2)] W λe w'=>Bg X Y C W e w'):=aC (by
  unfold chg at hq;by_cases i:k=1
  .rw[if_pos i]at hq;cases hq;exact .inl ⟨i,WJ a c x d pa pc S id p v W hm hT (h1.bw m) (h3.bw m) hp hpc (hseg.bw m) hv⟩
  .rw[if_neg i]at hq;by_cases O:k=4
   .rw[if_pos O]at hq;cases hq;exact .inr<|.inl ⟨i,O,TA a c x d pa pc S p W hm (h1.bw m) (h3.bw m) hp hpc (hseg.bw m)⟩
   .rw[if_neg O]at hq;cases hq;exact .inr (.inr ⟨i,O,WL a c x d pa pc S id p (k==2) W hm hT (h1.bw m) (h3.bw m) hp hpc (hseg.bw m)⟩))
 have HO:=aC P;have U:=aC R0;have Q:=aC Q0;have N:=aC m;have B:aA (w.1.size+4<=W.1.size):=aC oM;have⟨k0,k1,k2⟩:=L.q3;have⟨o0,o1,o2⟩:=P.q3;rcases K.out with⟨rfl,h⟩|⟨i,rfl,h⟩|⟨i,O,h⟩
 .exact En
 .exact En
 .have d1:(k==1)=false:=oU i;have d4:(k==4)=false:=oU O;have⟨on,Ha⟩:=zE ((k==2));rw[Ha]at h;exact En
def eT(S:Sx):Bool:=decide (S.l.length=0)&&decide (S.n=0)
theorem Dk(w:Ur):
  Cl 34 #[] w λe w'=>∃g k,e=Ui (Uo #[Uf (Uc g) 0 0,Uf (Uc k) 0 0])/\Bl w w':=by
 have P:aD (((w.alloc (Uj #[Uf (Uq (Ua (w.1.size+1) 0)) 0 0,Uf (Uq (Ua (w.1.size+1+1) 0)) 0 0] 28)).alloc (Uj #[] 101)).alloc (Uj #[] 103)) w.1.size (Uf (Uq (Ua (w.1.size+1) 0)) 0 0) (Uf (Uq (Ua (w.1.size+1+1) 0)) 0 0):=((aD.made _ _ _ _).bw (zO _ _) oP).bw (zO _ _) oS;have j:=aC P;go_enter func34,ntmps34;go_wp2_with fail;have⟨m,q⟩:=j.q2;refine zF (v:=Uo #[Uf (Uq (Ua (w.1.size+1) 0)) 0 0,Uf (Uq (Ua (w.1.size+1+1) 0)) 0 0]) (by simp[results,results34,go_sem,m,q]) ⟨_,_,rfl,?_⟩;exact((zO _ _).alloc oP _).alloc oS _
theorem pD{Q:Prop}(h:Q:=by
 go_enter func29,ntmps29;go_wp2_with fail;try rw[j]
 clear j;go_ret;exact⟨by rw[m.out];rfl,u⟩):Q:=h
theorem PS(a x b y:Option Us)(c d:Nat)(S:Sx)(w:Ur)(hm:S.Sm):
  Cl 29 #[Uo #[Uf a S.l.length c,Uf x S.n d],Uo #[Uf b 0 0,Uf y 0 0]] w (Rt w (Un (eT S))):=by
 have⟨W,j⟩:=zE ((w.alloc (Uj #[Uf a S.l.length c,Uf x S.n d] 28)).alloc (Uj #[Uf b 0 0,Uf y 0 0] 28));have g:Bl w W:=j▸aU _ _ _;have E:W.cell? (Ub w.1.size)=Uq (Uf a S.l.length c):=j▸oP;have M:W.cell? (Ua w.1.size 1)=Uq (Uf x S.n d):=j▸oP;have Q:W.cell? (Ua (w.1.size+1) 0)=Uq (Uf b 0 0):=j▸oP;have O:W.cell? (Ua (w.1.size+1) 1)=Uq (Uf y 0 0):=j▸oP;have u:=aC g;have s:=hm.l1;have A:=hm.n1;have k:aA (eT S=(decide (S.l.length=0)&&decide (S.n=0))):=aC rfl;have⟨B,t⟩:=zE (eT S);rw[t]at k⊢;have⟨q,v⟩:=zE S.l.length;have⟨r,z⟩:=zE S.n;rw[v]at k j E s;rw[z]at k j M A;rw[v,z];by_cases h:q=0
 .by_cases o:r=0
  .have m:aA (B=true):=aC (by rw[k.out,h,o];rfl);subst h o;go_enter func29,ntmps29;go_wp2_with fail;try rw[j]
   refine wp_loop_rounds 1 ?_;rw[rounds_succ];go_wp2_with fail;refine wp_loop_rounds 1 ?_;rw[rounds_succ];go_wp2_with fail;go_ret;exact⟨by rw[m.out];rfl,u⟩
  .have m:aA (B=false):=aC (by rw[k.out,show decide (r=0)=false by simp;omega];simp);have i:((r:Int) !=0)=true:=oS;subst h;exact pD
 .have m:aA (B=false):=aC (by rw[k.out,show decide (q=0)=false by simp;omega];simp);have i:((q:Int) !=0)=true:=oS;exact pD
theorem Own.cellset(h:Own w B v zs)(q:Us)(u:aB)(hq:q.block<B):Own (w.setCell q u) B v zs:=
 dK h λg hg=>zH _ _ _ _ (oH ((World.ownsRow.lt h g hg).1))
noncomputable def xU(id:Int)(S S':Sx):Int×List Int×Bool:=if dP id S S'=true then(2,(kN S).1,true)else(0,[],false)
theorem SG(id:Int)(a x a' x':Option Us)(c d c' d':Nat)(S S':Sx)(w:Ur)(hc:S.l.length<=c)(hcm:c<=9223372036854775807)(hc':S'.l.length<=c')(hcm':c'<=9223372036854775807)(hm:S.Sm)(hm':S'.Sm)(h:dH w a S.l)(k:bI w x S.n S.R S.F S.T)(h':dH w a' S'.l)(k':bI w x' S'.n S'.R S'.F S'.T):
  Cl 69 #[Uo #[Ud id,Uf a S.l.length c,Uf x S.n d,Uf a' S'.l.length c',Uf x' S'.n d']] w λe w'=>∃K v u B,e=Ui (Ul #[Uo #[Ud K,v],Un B])/\xU id S S'=(K,u,B)/\Own w' w.1.size v u/\Bl w w':=by
 generalize q:(w.alloc (Uj #[Ud id,Uf a S.l.length c,Uf x S.n d,Uf a' S'.l.length c',Uf x' S'.n d'] 30)).alloc (Uj #[Ud 0,Ue] 41)=W;have m:Bl w W:=q▸aU _ _ _;have V:aD W (w.1.size+1) (Ud 0) Ue:=by
  rw[<-q];have:=aD.made (w.alloc (Uj #[Ud id,Uf a S.l.length c,Uf x S.n d,Uf a' S'.l.length c',Uf x' S'.n d'] 30)) (Ud 0) Ue 41;simpa using this
 have t:aF W w.1.size (Ud id) (Uf a S.l.length c) (Uf x S.n d) (Uf a' S'.l.length c') (Uf x' S'.n d'):=q▸(aF.new _ _ _ _ _ _ _).up _;have r:=aC<|Ec id a x a' x' c d c' d' S S' W hc hcm hc' hcm' hm hm' (h.bw m) (k.bw m) (h'.bw m) (k'.bw m);have i:=aC<|λw1(hb:Bl W w1)=>Ny a x c d S w1 hc hcm hm (h.bw (aE m hb)) (k.bw (aE m hb));have b:aA (dP id S S'=true->xU id S S'=(2,(kN S).1,true)):=aC<|λh=>if_pos h;have p:aA (dP id S S'=false->xU id S S'=(0,[],false)):=aC (λh=>if_neg (by rw[h];simp));have G:=aC m;have g:=aC t;have z:=aC V;have⟨L,N,X,C,D⟩:=t.q5;cases hr:dP id S S';rw[hr]at r;have s:=aC<|p hr;rotate_left;rw[hr]at r;have s:=aC<|b hr;rotate_left;all_goals
  go_enter func69,ntmps69;go_wp2_with fail
  refine r.mono ?_;rintro e w1⟨rfl,j⟩
 .have y:=aC<|aE G j;have Y:=z.bw j z.lt;have⟨M,O,ff⟩:=Y.p2;go_wp2_with fail;refine zF (v:=Ul #[Uo #[Ud 0,Ue],Un false]) (by simp[results,results69,go_sem,M,O]) ⟨0,_,[],false,rfl,s,World.ownsRow_nil _ _ _ _,?_⟩;first|exact y.out|exact(y.setCell oP _).setCell oP _
 .have A:=g.bw j g.lt;have p1:=A.c1;have U:=A.c2;have y:=aC<|aE G j;have H:=aC<|i w1 j;have o:=aC<|z.bw j z.lt;go_wp2_with fail;refine H.mono ?_;rintro e w2⟨v,u,kk,rfl,I,Q,E⟩;have Ha:=aC Q;have J:w.1.size+1<w1.1.size:=o.lt;have P:=aC<|aE y E;have HZ:aA ((kN S).1=u):=aC (by rw[I]);obtain⟨va,vc,rfl,_⟩:=Q.any;have Z:=o.bw E o.lt;have⟨M,O,ff⟩:=Z.p2;go_wp2_with fail;refine zF (v:=Ul #[Uo #[Ud 2,Uf va u.length vc],Un true]) (by simp[results,results69,go_sem,M,O]) ⟨2,_,u,true,rfl,by rw[s.out,HZ.out],?_,?_⟩
  .exact((Ha.cellset _ _ J).cellset _ _ J).weak y.size
  .exact(P.setCell oP _).setCell oP _
structure Rq where
 id:Int
 S:Sx
 D:Sx
 a:Option Us
 c:Nat
 x:Option Us
 d:Nat
 a':Option Us
 c':Nat
 x':Option Us
 d':Nat
def Rq.vs(R:Rq):Array aB:=#[Ud R.id,Uf R.a R.S.l.length R.c,Uf R.x R.S.n R.d,Uf R.a' R.D.l.length R.c',Uf R.x' R.D.n R.d']
structure Rq.Nw(R:Rq)(w:Ur)(lo:Nat):Prop where
 s:aT w lo R.a R.c R.x R.S
 t:aT w lo R.a' R.c' R.x' R.D
structure Rq.At(R:Rq)(w:Ur):Prop where
 s:eP w R.a R.x R.S
 t:eP w R.a' R.x' R.D
 c:R.S.l.length<=R.c/\R.c<=9223372036854775807
 c':R.D.l.length<=R.c'/\R.c'<=9223372036854775807
 m:dR R.S
 m':dR R.D
abbrev Rq.ok(R:Rq):Prop:=dP R.id R.S R.D=true
theorem Rq.At.bw{R:Rq}(h:R.At w)(hb:Bl w w'):R.At w':=⟨h.s.bw hb,h.t.bw hb,h.c,h.c',h.m,h.m'⟩
theorem Rq.Nw.move{R:Rq}(h:R.Nw w lo)(hl:lo'<=lo)(hs:w.1.size<=w'.1.size)(hq:∀q,lo<=q->q<w.1.size->w'.1[q]? =w.1[q]?):R.Nw w' lo':=⟨h.s.move hl hs hq,h.t.move hl hs hq⟩
theorem iW(h:bM S=true):bG S.R S.F S.T S.n S.l/\(dF S.R S.F S.T S.n S.l).length<=4000/\kN S=(dF S.R S.F S.T S.n S.l,0):=by
 unfold bM kN at h;by_cases j:bG S.R S.F S.T S.n S.l
 .by_cases k:(dF S.R S.F S.T S.n S.l).length<=4000
  .exact⟨j,k,sI j k⟩
  .rw[Mu j k]at h;simp at h
 .rw[Fz j]at h;simp at h
theorem yN(h:bM S=true):dR S:=by
 have j:=(iW h).1;exact rY j.2.1 (oH ((dL.1 j.1).2))<|λx hx=>jU j.w x hx
theorem kD{id:Int}(h:dP id S D=true):(0<=id/\id<8)/\bM S=true/\bM D=true:=by
 unfold dP at h;simp only[Bool.and_eq_true,decide_eq_true_eq]at h;exact⟨⟨h.1,h.2.1⟩,h.2.2.1,h.2.2.2⟩
theorem tL{id:Int}(h:0<=id/\id<8)(h1:bM S=true)(h2:bM D=true):dP id S D=true:=by
 unfold dP;rw[decide_eq_true h.1,decide_eq_true h.2,h1,h2];rfl
theorem Rq.Nw.at{R:Rq}(h:R.Nw w lo)(hk:R.ok):R.At w:=
 ⟨⟨h.s.at.1,h.s.at.2⟩,⟨h.t.at.1,h.t.at.2⟩,h.s.cp,h.t.cp,yN (kD hk).2.1,yN (kD hk).2.2⟩
theorem Rq.Nw.five{R:Rq}{r:Nat}(h:R.Nw w lo)(hr:r<lo)(hl:lo'<=lo)(v0 v1 v2 v3 v4:aB):R.Nw (((((w.setCell (Ub r) v0).setCell (Ua r 1) v1).setCell (Ua r 2) v2).setCell (Ua r 3) v3).setCell (Ua r 4) v4) lo':=
 h.move hl (by simp[Vr]) (λq h1 h2=>by
  have:q≠r:=oM;exact(zH _ _ _ _ this).trans ((zH _ _ _ _ this).trans ((zH _ _ _ _ this).trans ((zH _ _ _ _ this).trans (zH _ _ _ _ this)))))
theorem nW{r:Nat}(h:Bl w V)(hr:w.1.size<=r)(v0 v1 v2 v3 v4:aB):Bl w (((((V.setCell (Ub r) v0).setCell (Ua r 1) v1).setCell (Ua r 2) v2).setCell (Ua r 3) v3).setCell (Ua r 4) v4):=
 ((((h.setCell (p:=(Ub r)) hr _).setCell (p:=(Ua r 1)) hr _).setCell (p:=(Ua r 2)) hr _).setCell (p:=(Ua r 3)) hr _).setCell (p:=(Ua r 4)) hr _
theorem Am.snc{gx cx:Nat}{P Q:Nat->Nat}(h:Am w w' S g c gx cx P Q):aT w' w.1.size (Uc g) c (Uc gx) S:=⟨λv h1 h2=>by
 have m:=h.lc.move h1 h2;have r:(fS S).length=S.n:=by simp[fS,flat]
 have j:=h.fr;rw[<-r]at j;have k:FR v w.1.size (Uf (Uc gx) (fS S).length cx) (fS S):=dK j (λq hq=>h2 q (World.ownsRow.lt j q hq).1 (World.ownsRow.lt j q hq).2);have⟨a,c',e,s,_,_⟩:=k.fs;injection e with e1 e2 e3;subst e1;exact⟨m.lcap rfl,I9 s.rseg⟩,h.lc.cp rfl⟩
def P1(S:Sx):Prop:=∀i,i<S.l.length->1<=(gL S.l i).p.length
theorem tM(h:bM S=true):P1 S:=λi hi=>(sA (iW h).1 i hi).1
def Al(id:Int)(w:Ur)(w':Ur)(R:Rq):Prop:=R.id=id/\R.Nw w' w.1.size/\R.ok/\Bl w w'
def Pc(R:Rq)(w:Ur)(e:Ending)(w5:Ur):Prop:=∃ya yc yx yd ya' yc' yx' yd',e=Ui (Uo #[Ud R.id,Uf ya R.S.l.length yc,Uf yx R.S.n yd,Uf ya' R.D.l.length yc',Uf yx' R.D.n yd'])/\aT w5 w.1.size ya yc yx R.S/\aT w5 w.1.size ya' yc' yx' R.D/\Bl w w5
theorem Md(R:Rq)(w:Ur)(h:R.At w)(hk:P1 R.S/\P1 R.D):Cl 22 #[.agg R.vs] w (Pc R w):=by
 have⟨u,S,D,a,c,x,d,y,c',x',d'⟩:=R;show Cl 22 #[Uo #[Ud u,Uf a S.l.length c,Uf x S.n d,Uf y D.l.length c',Uf x' D.n d']] w (Pc ⟨u,S,D,a,c,x,d,y,c',x',d'⟩ w);obtain⟨P,L⟩:∃P:Ending->Ur->Prop,Pc ⟨u,S,D,a,c,x,d,y,c',x',d'⟩ w=P:=⟨_,rfl⟩;rw[L];have HP:=aC L;generalize E:(w.alloc (Uj #[Ud u,Uf a S.l.length c,Uf x S.n d,Uf y D.l.length c',Uf x' D.n d'] 30)).alloc (Uj #[Ud 0,Ue,Ue,Ue,Ue] 30)=W;have T:Bl w W:=E▸aU _ _ _;have Y:aF W w.1.size (Ud u) (Uf a S.l.length c) (Uf x S.n d) (Uf y D.l.length c') (Uf x' D.n d'):=E▸(aF.new _ _ _ _ _ _ _).up _;have N:aF W (w.1.size+1) (Ud 0) Ue Ue Ue Ue:=by
  rw[<-E];have:=aF.new (w.alloc (Uj #[Ud u,Uf a S.l.length c,Uf x S.n d,Uf y D.l.length c',Uf x' D.n d'] 30)) (Ud 0) Ue Ue Ue Ue 30;simpa using this
 have Ha:aA (∀w1,Bl w w1->Cl 44 #[Uo #[Uf a S.l.length c,Uf x S.n d]] w1 λe w'=>∃g j k q,e=Ui (Uo #[Uf (Uc g) S.l.length j,Uf (Uc k) S.n q])/\aT w' w1.1.size (Uc g) j (Uc k) S/\Bl w1 w'):=aC<|λw1 hb=>(Mh a x c d S w1 h.m.1 hk.1 (h.s.bw hb)).mono λe w' ⟨g,j,k,q,P,Q,h1,h2⟩=>⟨g,j,k,q,h1,h2.snc,h2.low⟩;have Hb:aA (∀w1,Bl w w1->Cl 44 #[Uo #[Uf y D.l.length c',Uf x' D.n d']] w1 λe w'=>∃g j k q,e=Ui (Uo #[Uf (Uc g) D.l.length j,Uf (Uc k) D.n q])/\aT w' w1.1.size (Uc g) j (Uc k) D/\Bl w1 w'):=aC<|λw1 hb=>(Mh y x' c' d' D w1 h.m'.1 hk.2 (h.t.bw hb)).mono λe w' ⟨g,j,k,q,P,Q,h1,h2⟩=>⟨g,j,k,q,h1,h2.snc,h2.low⟩;have C:=aC T;have O:=aC Y;have G:=aC N;have⟨q0,q1,q2,q3,q4⟩:=Y.q5;go_enter func22,ntmps22;go_wp2_with fail;have M:aA (∀w',Bl w w'->aF w' w.1.size (Ud u) (Uf a S.l.length c) (Uf x S.n d) (Uf y D.l.length c') (Uf x' D.n d')->(Bl w w'/\w'.cell? (Ub w.1.size)=Uq (Ud u)/\w'.cell? (Ua w.1.size 1)=Uq (Uf a S.l.length c)/\w'.cell? (Ua w.1.size 2)=Uq (Uf x S.n d)/\w'.cell? (Ua w.1.size 3)=Uq (Uf y D.l.length c')/\w'.cell? (Ua w.1.size 4)=Uq (Uf x' D.n d'))):=aC<|λw' hB X=>⟨hB,X.c0,X.c1,X.c2,X.c3,X.c4⟩;refine zB M C.drew (O.bw zI.drew O.lt)<|λqh=>?_;refine tY 0 3 ?_;refine tY 2 5 ?_;refine tY 5 8 ?_;refine cZ 4 ?_;intro K z;go_simp;refine(Ha _ qh.1).mono ?_;rintro e w1⟨g,j,k,q,rfl,s1,o⟩;have U:Bl W w1:=⟨o.os,o.tape,o.output,o.size,o.block⟩;have I:=aE C U;have H:=O.bw U O.lt;have B:=G.bw U G.lt;have He:aT w1 W.1.size (Uc g) j (Uc k) S:=s1;refine bZ z (M _ I H)<|λqh=>?_;refine cZ 7 ?_;intro K z;go_simp;refine(Hb _ I).mono ?_;rintro e w2⟨p,i,A,b,rfl,s2,V⟩;have J:=aE I V;have F:=H.bw V H.lt;have F2:=B.bw V B.lt;have Hd:w.1.size+1<W.1.size:=G.lt;have Hc:W.1.size<=w1.1.size:=U.size;have Z:=aC<|And.intro (Rq.Nw.five (R:=⟨u,S,D,Uq (Ub g),j,Uq (Ub k),q,Uq (Ub p),i,Uq (Ub A),b⟩) (lo:=W.1.size) (lo':=w.1.size) (r:=w.1.size+1) ⟨He.bw V,s2.move Hc zL (λ_ _ _=>rfl)⟩ Hd oM (Ud u) (Uf (Uc g) S.l.length j) (Uf (Uc k) S.n q) (Uf (Uc p) D.l.length i) (Uf (Uc A) D.n b)) (nW (r:=w.1.size+1) J oM (Ud u) (Uf (Uc g) S.l.length j) (Uf (Uc k) S.n q) (Uf (Uc p) D.l.length i) (Uf (Uc A) D.n b));refine bZ z (M _ J F)<|λqh=>?_;refine tZ 8 11 ?_;have⟨f0,f1,f2,f3,f4,ff⟩:=F2.p5;refine cZ 9 ?_;intro K z;go_simp;refine bZ z (M _ ((((((J.setCell oP _).setCell oP _).setCell oP _).setCell oP _).setCell oP _)) (((((F.setAt _ _ oP).setAt _ _ oP).setAt _ _ oP).setAt _ _ oP).setAt _ _ oP))<|λqh=>?_;refine zD ?_;go_wp2_with fail;refine zF (v:=Uo #[Ud u,Uf (Uc g) S.l.length j,Uf (Uc k) S.n q,Uf (Uc p) D.l.length i,Uf (Uc A) D.n b]) (by simp[results,results22,go_sem,f0,f1,f2,f3,f4]) ?_;rw[<-HP.out];exact⟨Uq (Ub g),j,Uq (Ub k),q,Uq (Ub p),i,Uq (Ub A),b,rfl,Z.1.s,Z.1.t,Z.2⟩
def iB(k:Int)(v:ByteArray):Bool:=decide (1<=k)&&(decide (k<=4)&&(decide (k=1)||fO v))
noncomputable def jB(X D Y:Sx):Bool:=bK D Y&&(bM (aZ D Y)&&bM X)
noncomputable def fY(id:Int)(S D:Sx)(k:Int)(p:List ByteArray)(v:ByteArray):Sx×Sx×Int:=
 if dP id S D=true then
  if iB k v=true then
   if (chg S id k p v).2.2=0 then
    if jB (chg S id k p v).1 D (chg S id k p v).2.1=true then((chg S id k p v).1,aZ D (chg S id k p v).2.1,0)else(S,D,4)
   else(S,D,(chg S id k p v).2.2)
  else(S,D,5)
 else(S,D,1)
section
variable {id : Int}{S D : Sx}{k : Int}{p : List ByteArray}{v : ByteArray}{X Y : Sx}{C : Int}
theorem Pu(h:dP id S D=false):fY id S D k p v=(S,D,1):=by unfold fY;rw[h];rfl
theorem Pt(h:dP id S D=true)(h2:iB k v=false):fY id S D k p v=(S,D,5):=by unfold fY;rw[h,h2];rfl
theorem Ps(h:dP id S D=true)(h2:iB k v=true)(h3:chg S id k p v=(X,Y,C))(h4:C≠0):fY id S D k p v=(S,D,C):=by
 unfold fY;rw[h,h2,h3,if_pos rfl,if_pos rfl,if_neg h4]
theorem Ez(h:dP id S D=true)(h2:iB k v=true)(h3:chg S id k p v=(X,Y,0))(h4:jB X D Y=false):fY id S D k p v=(S,D,4):=by
 unfold fY;rw[h,h2,h3,if_pos rfl,if_pos rfl,if_pos rfl,h4];rfl
theorem Pv(h:dP id S D=true)(h2:iB k v=true)(h3:chg S id k p v=(X,Y,0))(h4:jB X D Y=true):fY id S D k p v=(X,aZ D Y,0):=by
 unfold fY;rw[h,h2,h3,if_pos rfl,if_pos rfl,if_pos rfl,h4];rfl
theorem nF{Q:Prop}(h:Q:=by injection h with e1 e2;injection e2 with e2 e3;subst e1 e2;exact⟨hS,hD⟩):Q:=h
theorem LF(hS:dR S)(hD:dR D){Z:Sx}(h:fY id S D k p v=(X,Z,C)):dR X/\dR Z:=by
 obtain⟨m,q,j,r⟩:∃m q j,chg S id k p v=(m,q,j):=⟨_,_,_,rfl⟩;unfold fY at h;rw[r]at h;split at h
 .split at h
  .split at h
   .split at h
    .cases h;exact⟨(Iz r).1,yI _ _⟩
    .exact nF
   .exact nF
  .exact nF
 .exact nF
end
def nS(S:Sx):Sx:=⟨S.l,S.n,λi=>if i<S.n then S.R i else 0,λi=>if i<S.n then S.F i else 0,λi=>if i<S.n then S.T i else 0⟩
theorem Pz{x:Option Us}(h:bI w x S.n S.R S.F S.T):bI w x (nS S).n (nS S).R (nS S).F (nS S).T:=by
 refine h.imp id ?_;rintro⟨b,off,e,j,k⟩;refine⟨b,off,e,j,λi hi=>?_⟩;have hi:i<S.n:=hi;have:=k i hi;simp only[nS,if_pos hi];exact this
theorem LZ(h:bM S=true):∀i,i<S.n->(0<=S.R i/\S.R i<8)/\(1<=S.F i/\S.F i<=S.T i)/\S.T i<=1000000000:=λi hi=>by
 have:=((dL.1 (iW h).1.1).1 i hi).1;unfold fR at this;simp only[Bool.and_eq_true,decide_eq_true_eq]at this;omega
theorem Rr(h:bM S=true):lC (nS S).T:=λi=>by
 by_cases hi:i<S.n
 .have:=LZ h i hi;simp only[nS,if_pos hi];omega
 .simp only[nS,if_neg hi];omega
theorem Cg:bM Sx.mt=true:=by
 have h:bG Sx.mt.R Sx.mt.F Sx.mt.T Sx.mt.n Sx.mt.l:=⟨rfl,by simp[Sx.mt],λi hi=>by simp[Sx.mt]at hi,λi hi=>by simp[Sx.mt]at hi⟩;have e:(dF Sx.mt.R Sx.mt.F Sx.mt.T Sx.mt.n Sx.mt.l).length<=4000:=by
  have k:fF (Lk Sx.mt.R Sx.mt.F Sx.mt.T Sx.mt.n)=[0]:=by rfl
  have j:=Fm (R:=Sx.mt.R) (F:=Sx.mt.F) (T:=Sx.mt.T) (n:=Sx.mt.n) (l:=Sx.mt.l) (λi hi=>by simp[Sx.mt]at hi) 8 [];have m:uK Sx.mt.l [] Sx.mt.l.length=0:=rfl;rw[m]at j;unfold dF;rw[k,UM];simp at j⊢;omega
 unfold bM kN;rw[sI h e];rfl
theorem Rs{S:Sx}(r f t:Int):∀k,k<=S.n->cE (nS S).R (nS S).F (nS S).T r f t k=cE S.R S.F S.T r f t k
 |0,_=>rfl
 |k+1,h=>by
  have j:k<S.n:=oM;show(cE _ _ _ r f t k||_)=(cE _ _ _ r f t k||_);rw[Rs r f t k oM];simp only[nS,if_pos j]
theorem Py(h:Vd S):Vd (nS S):=by
 have⟨u,v,y,z⟩:=h;have⟨q,r⟩:=dL.1 u;refine⟨dL.2 ⟨λi hi=>?_,r⟩,v,λi hi=>?_,z⟩
 .have hi:i<S.n:=hi;have:=q i hi;have g:i-1<S.n:=oM;simp only[nS,if_pos hi,if_pos g];exact this
 .have⟨j,k,m⟩:=y i hi;exact⟨j,(Rs _ _ _ S.n zL).trans k,m⟩
theorem Ff{R F T R' F' T':Nat->Int}{n:Nat}(h:∀i,i<n->R i=R' i/\F i=F' i/\T i=T' i):∀k,k<=n->Lk R F T k=Lk R' F' T' k
 |0,_=>rfl
 |k+1,hk=>by
  have⟨j,m,q⟩:=h k oM;show eS (Lk R F T k) (R k) _=eS (Lk R' F' T' k) (R' k) _;rw[Ff h k oM,j,m,q]
theorem Ru(h:bM S=true):bM (nS S)=true:=by
 have j:=Py (iW h).1;have e:dF (nS S).R (nS S).F (nS S).T (nS S).n (nS S).l=dF S.R S.F S.T S.n S.l:=by
  show fF (Lk (nS S).R (nS S).F (nS S).T S.n)++tB S.l 8 []=fF (Lk S.R S.F S.T S.n)++tB S.l 8 [];rw[Ff (n:=S.n) (λi hi=>by simp only[nS,if_pos hi];exact⟨rfl,rfl,rfl⟩) S.n zL]
 unfold bM kN;rw[sI j (by rw[e];exact(iW h).2.1)];rfl
theorem qP{Q:Prop}(h:Q:=by injection h with e1 e2;injection e2 with e2 e3;subst e1 e2 e3;exact .inl ⟨oD,rfl,rfl⟩):Q:=h
theorem If{id:Int}{v:ByteArray}{C:Int}(h:fY id S D k p v=(X,Y,C)):(C≠0/\X=S/\Y=D)\/(C=0/\dP id S D=true/\iB k v=true/\∃j,chg S id k p v=(X,j,0)/\jB X D j=true/\Y=aZ D j):=by
 obtain⟨r,j,q,u⟩:∃r j q,chg S id k p v=(r,j,q):=⟨_,_,_,rfl⟩;unfold fY at h;rw[u]at h;split at h
 .rename_i h1;split at h
  .rename_i h2;split at h
   .rename_i m;have m:q=0:=m;subst m;split at h
    .rename_i h4;cases h;exact .inr ⟨rfl,h1,h2,j,u,h4,rfl⟩
    .exact qP
   .rename_i m;cases h;exact .inl ⟨m,rfl,rfl⟩
  .exact qP
 .exact qP
theorem Fs(h:jB X D Y=true):bK D Y=true/\bM (aZ D Y)=true/\bM X=true:=by
 unfold jB at h;simp only[Bool.and_eq_true]at h;exact h
theorem Q6{id:Int}{v:ByteArray}{C:Int}(h:fY id S D k p v=(X,Y,C))(hk:dP id S D=true):dP id X Y=true:=by
 rcases If h with⟨_,rfl,rfl⟩|⟨_,_,_,m,_,j,rfl⟩
 .exact hk
 .exact tL (kD hk).1 (Fs j).2.2 (Fs j).2.1
def O9(id:Int)(X Z:Sx)(C:Int)(w:Ur)(e:Ending)(w':Ur):Prop:=∃a c x d a' c' x' d',e=Ui (Ul #[Uo #[Ud id,Uf a X.l.length c,Uf x X.n d,Uf a' Z.l.length c',Uf x' Z.n d'],Ud C])/\Rq.Nw ⟨id,X,Z,a,c,x,d,a',c',x',d'⟩ w' w.1.size/\Bl w w'
def XM(id:Int)(w:Ur)(e:Ending)(w':Ur):Prop:=∃(R:Rq) (C:Int),e=Ui (Ul #[.agg R.vs,Ud C])/\Al id w w' R
theorem Ts(R:Rq)(k:Int)(pa:Option Us)(pc:Nat)(p:List ByteArray)(v:ByteArray)(X Z:Sx)(C:Int)(w:Ur)(hq:fY R.id R.S R.D k p v=(X,Z,C))(h:R.At w)(hT:lC R.S.T)(hk:P1 R.S/\P1 R.D)(hp:p.length<=1048576)(hpc:p.length<=pc/\pc<=9223372036854775807)(hseg:aV w pa p)(hv:v.size<=1048576):
  Cl 5 #[.agg R.vs,Uo #[Ud k,Uf pa p.length pc,Um v]] w (O9 R.id X Z C w):=by
 have⟨j,S,D,a,c,x,d,G,c',x',d'⟩:=R;show Cl 5 #[Uo #[Ud j,Uf a S.l.length c,Uf x S.n d,Uf G D.l.length c',Uf x' D.n d'],Uo #[Ud k,Uf pa p.length pc,Um v]] w (O9 j X Z C w);dsimp only at hq hT hk;have⟨P,hP⟩:=zE (O9 j X Z C w);rw[hP];have HP:=aC hP;have⟨W,hW⟩:=zE (((w.alloc (Uj #[Ud j,Uf a S.l.length c,Uf x S.n d,Uf G D.l.length c',Uf x' D.n d'] 30)).alloc (Uj #[Ud k,Uf pa p.length pc,Um v] 33)).alloc (Uj #[Ud 0,Ue,Ue,Ue,Ue] 30));have V:Bl w W:=hW▸(aU _ _ _).alloc oS _;have zW:W.1.size=w.1.size+3:=hW▸oP;have A0:aF W w.1.size (Ud j) (Uf a S.l.length c) (Uf x S.n d) (Uf G D.l.length c') (Uf x' D.n d'):=hW▸((aF.new w _ _ _ _ _ _).up _).up _;have O0:aH W (w.1.size+1) (Ud k) (Uf pa p.length pc) (Um v):=by
  rw[<-hW];have:=aH.made (w.alloc (Uj #[Ud j,Uf a S.l.length c,Uf x S.n d,Uf G D.l.length c',Uf x' D.n d'] 30)) (Ud k) (Uf pa p.length pc) (Um v) 33;exact(by simpa using this:aH _ (w.1.size+1) _ _ _).up _
 have R0:aF W (w.1.size+1+1) (Ud 0) Ue Ue Ue Ue:=by
  rw[<-hW];simpa using aF.new ((w.alloc (Uj #[Ud j,Uf a S.l.length c,Uf x S.n d,Uf G D.l.length c',Uf x' D.n d'] 30)).alloc (Uj #[Ud k,Uf pa p.length pc,Um v] 33)) (Ud 0) Ue Ue Ue Ue 30
 have Hy:=aC (Ec j a x G x' c d c' d' S D W h.c.1 h.c.2 h.c'.1 h.c'.2 h.m.1 h.m'.1 (h.s.bw V).lf (h.s.bw V).rn (h.t.bw V).lf (h.t.bw V).rn);have He:aA (∀w1,Bl W w1->Cl 22 #[Uo #[Ud j,Uf a S.l.length c,Uf x S.n d,Uf G D.l.length c',Uf x' D.n d']] w1 λe w5=>∃z o O A g i Q M,e=Ui (Uo #[Ud j,Uf z S.l.length o,Uf O S.n A,Uf g D.l.length i,Uf Q D.n M])/\aF w5 (w.1.size+1+1) (Ud 0) Ue Ue Ue Ue/\aA (∀C,fY j S D k p v=(S,D,C)->P (Ui (Ul #[Uo #[Ud j,Uf z S.l.length o,Uf O S.n A,Uf g D.l.length i,Uf Q D.n M],Ud C])) (((((w5.setCell (Ua (w.1.size+1+1) 0) (Ud j)).setCell (Ua (w.1.size+1+1) 1) (Uf z S.l.length o)).setCell (Ua (w.1.size+1+1) 2) (Uf O S.n A)).setCell (Ua (w.1.size+1+1) 3) (Uf g D.l.length i)).setCell (Ua (w.1.size+1+1) 4) (Uf Q D.n M)))):=aC (λw1 hb=>by
  refine(Md ⟨j,S,D,a,c,x,d,G,c',x',d'⟩ w1 (h.bw (aE V hb)) hk).mono ?_;rintro e w5⟨z,o,O,A,g,i,Q,M,rfl,s1,s2,hB⟩;have hz:=hb.size;refine⟨z,o,O,A,g,i,Q,M,rfl,R0.bw (aE hb hB) R0.lt,aC λC1 e=>?_⟩;rw[hq]at e;cases e;rw[<-HP.out];exact⟨z,o,O,A,g,i,Q,M,rfl,Rq.Nw.five (R:=⟨j,X,Z,z,o,O,A,g,i,Q,M⟩) ⟨s1,s2⟩ oM oM _ _ _ _ _,nW (aE V (aE hb hB)) oM _ _ _ _ _⟩)
 obtain⟨q,y,C1,hc⟩:∃q y C1,chg S j k p v=(q,y,C1):=⟨_,_,_,rfl⟩;have H4:=aC<|λw1(hb:Bl W w1)=>RZ j a x G x' pa c d c' d' pc S D k p v q y C1 w1 hc h.m.1 hT (h.s.bw (aE V hb)).lf (h.s.bw (aE V hb)).rn hp hpc (hseg.bw (aE V hb)) hv;have H5:aA (∀w1,Bl W w1->eP w1 G x' D):=aC<|λw1 hb=>h.t.bw (aE V hb);have Hz:=aC<|Iz hc;have H9:=aC h.m'.1;have HQ:=aC hq;have Hn:=aC hc;have HA:=aC A0;have HO:=aC O0;have HR:=aC R0;have HB:=aC V;have Gc:aA (w.1.size+3<=W.1.size):=aC oM;have⟨k0,k1,k2,k3,k4⟩:=A0.q5;go_enter func5,ntmps5;go_wp2_with fail;refine Hy.mono ?_;rintro e w1⟨rfl,b1⟩;have U:=aC b1;have A1:=HA.bw b1 HA.lt;have⟨k0,k1,k2,k3,k4⟩:=A1.q5;have O1:=HO.bw b1 HO.lt;have⟨o0,o1,o2⟩:=O1.q3;cases hr:dP j S D with
 |false=>have H:=aC (Pu hr (k:=k) (p:=p) (v:=v));go_wp2_with fail;refine(He _ U).mono ?_;rintro e w5⟨z,o,O,A,g,i,Q,M,rfl,Y,I⟩;have⟨K,r1,r2,L,N,rf⟩:=Y.p5;go_wp2_with fail;refine zF (v:=Ul #[Uo #[Ud j,Uf z S.l.length o,Uf O S.n A,Uf g D.l.length i,Uf Q D.n M],Ud 1]) (by simp[results,results5,go_sem,K,r1,r2,L,N]) ?_;exact I _ H
 |true=>
  go_upto_region 3 with fail;go_cut [33]from 14 to 33 (λb wx=>b=Un (!iB k v)/\wx=w1);case first=>
   have he:v.toList.isEmpty=fO v:=rfl;have⟨E,hE⟩:=zE (fO v);have Hg:aA (iB k v=(decide (1<=k)&&(decide (k<=4)&&(decide (k=1)||E)))):=aC (by unfold iB;rw[hE]);rw[hE]at he;by_cases h1:k<1
   .have d1:decide (k<1)=true:=decide_eq_true h1;go_wp2_with fail;go_meet;exact⟨by rw[Hg.out,decide_eq_false (by omega:¬1<=k)];rfl,rfl⟩
   .have d1:decide (k<1)=false:=decide_eq_false h1;by_cases h4:4<k
    .have d4:decide (4<k)=true:=decide_eq_true h4;go_wp2_with fail;go_meet;exact⟨by rw[Hg.out,decide_eq_false (by omega:¬k<=4),decide_eq_true (by omega:1<=k)];rfl,rfl⟩
    .have d4:decide (4<k)=false:=decide_eq_false h4;by_cases h5:k=1
     .subst h5;go_wp2_with fail;go_meet;exact⟨by rw[Hg.out];rfl,rfl⟩
     .have d5:(k !=1)=true:=oU h5;have HG:aA (iB k v=E):=aC (by rw[Hg.out,decide_eq_true (by omega:1<=k),decide_eq_true (by omega:k<=4),decide_eq_false h5];cases E<;>rfl);cases E;all_goals go_wp2_with fail;go_meet;exact⟨by rw[HG.out];rfl,rfl⟩
  case rest=>
  obtain⟨rfl,rfl⟩:=hcut;cases ho:iB k v with
  |false=>have H:=aC (Pt hr ho (p:=p));go_wp2_with fail;refine(He _ U).mono ?_;rintro e w5⟨z,o,O,A,g,i,Q,M,rfl,Y,I⟩;have⟨K,r1,r2,L,N,rf⟩:=Y.p5;go_wp2_with fail;refine zF (v:=Ul #[Uo #[Ud j,Uf z S.l.length o,Uf O S.n A,Uf g D.l.length i,Uf Q D.n M],Ud 5]) (by simp[results,results5,go_sem,K,r1,r2,L,N]) ?_;exact I _ H
  |true=>
   have Hp:=aC hr;have Ho:=aC ho;have Hu:=aC<|H4 _ U;go_wp2_with fail;refine Hu.mono ?_;rintro e w3⟨F,xm,xx,xt,Hi,Hj,Hl,Hk,rfl,s3,H2,b3⟩;have⟨U4,Hb⟩:=zE ((w3.alloc (Uj #[Uf F q.l.length xm,Uf xx q.n xt] 28)).alloc (Uj #[Uf Hi y.l.length Hj,Uf Hl y.n Hk] 28));have b4:Bl w3 U4:=Hb▸aU _ _ _;have N4:aD U4 w3.1.size (Uf F q.l.length xm) (Uf xx q.n xt):=Hb▸(aD.made w3 _ _ _).allocs _;have M4:aD U4 (w3.1.size+1) (Uf Hi y.l.length Hj) (Uf Hl y.n Hk):=by
    rw[<-Hb];simpa using aD.made (w3.alloc (Uj #[Uf F q.l.length xm,Uf xx q.n xt] 28)) (Uf Hi y.l.length Hj) (Uf Hl y.n Hk) 28
   have Hd:aA (Bl W U4):=aC<|aE (aE U b3) b4;have A4:=HA.bw Hd HA.lt;have⟨k0,k1,k2,k3,k4⟩:=A4.q5;have⟨n0,n1⟩:=N4.q2;have⟨m0,m1⟩:=M4.q2;have Hf:=aC N4;have H3:=aC<|s3.bw b4;have Hm:=aC<|H2.bw b4;have Gb:=aC U.size;by_cases hC:C1=0
   .subst hC;have HJ:=aC<|Nz G x' Hi Hl c' d' Hj Hk D y U4 H9 Hz.2.1 (H5 _ Hd) ⟨Hm.at.1,Hm.at.2⟩;go_wp2_with fail;try rw[Hb]
    refine HJ.mono ?_;rintro e w6⟨ja,jm,jx,jt,rfl,s6,b6,jc⟩;have⟨J,hJ⟩:=zE (aZ D y);have⟨B,hB⟩:=zE (bK D y);have H1:dR J:=hJ▸yI D y;have Hc:aA (jB q D y=(B&&(bM J&&bM q))):=aC (by unfold jB;rw[hB,hJ]);have H8:=aC hJ;rw[hJ]at s6 jc⊢;rw[hB];have⟨U7,Hh⟩:=zE (w6.alloc (Uj #[Uf ja J.l.length jm,Uf jx J.n jt] 28));have b7:Bl w6 U7:=Hh▸zO _ _;have J7:aD U7 w6.1.size (Uf ja J.l.length jm) (Uf jx J.n jt):=Hh▸aD.made _ _ _ _;have Hr:=aE b6 b7;have Ga:aA (Bl W U7):=aC<|aE Hd Hr;have Ha:=aC Hr;have Hv:=aC J7;have H6:=aC<|s6.bw b7;have Hw:=aC<|λu(hu:Bl U7 u)=>yG ja jx jm jt J u jc.1 jc.2 H1.1 (H6.bw hu).at.1 (H6.bw hu).at.2;have Hx:=aC<|λu(hu:Bl U7 u)=>yG F xx xm xt q u H3.cp.1 H3.cp.2 Hz.1.1 (H3.bw (aE Ha hu)).at.1 (H3.bw (aE Ha hu)).at.2;have⟨j0,j1⟩:=J7.q2;have⟨F1,Hs⟩:=zE (bM J);have⟨F2,Ht⟩:=zE (bM q);rw[Hs,Ht]at Hc;rw[Hs]at Hw;rw[Ht]at Hx;go_upto_region 9 with fail;go_cut [66]from 55 to 66 (λb wx=>b=Un (!jB q D y)/\aA (Bl U7 wx));case first=>
     cases B with
     |false=>go_wp2_with fail;go_meet;exact⟨by rw[Hc.out];rfl,aC zI⟩
     |true=>
      go_wp2_with fail;refine(Hw U7 zI).mono ?_;rintro e u1⟨rfl,c1⟩;have Hq:=aC c1;have N8:=Hf.bw (aE Ha c1) Hf.lt;have⟨n0,n1⟩:=N8.q2;cases F1 with
      |false=>go_wp2_with fail;go_meet;exact⟨by rw[Hc.out];rfl,Hq⟩
      |true=>go_wp2_with fail;refine(Hx u1 Hq).mono ?_;rintro e u2⟨rfl,c2⟩;have H0:=aC<|aE Hq c2;cases F2;all_goals go_wp2_with fail;go_meet;exact⟨by rw[Hc.out];rfl,H0⟩
    case rest=>
    obtain⟨rfl,HV⟩:=hcut;have U:aA (Bl W wc):=aC<|aE Ga HV;have A8:=HA.bw U HA.lt;have⟨k0,k1,k2,k3,k4⟩:=A8.q5;cases hj:jB q D y with
    |false=>have H:=aC (Ez Hp Ho Hn hj);go_wp2_with fail;refine(He _ U).mono ?_;rintro e w5⟨z,o,O,A,g,i,Q,M,rfl,Y,I⟩;have⟨K,r1,r2,L,N,rf⟩:=Y.p5;go_wp2_with fail;refine zF (v:=Ul #[Uo #[Ud j,Uf z S.l.length o,Uf O S.n A,Uf g D.l.length i,Uf Q D.n M],Ud 4]) (by simp[results,results5,go_sem,K,r1,r2,L,N]) ?_;exact I _ H
    |true=>
     have H:aA (j=j/\q=X/\J=Z/\(0:Int)=C):=aC (by
      have e:=HQ.out;rw[Pv Hp.out Ho.out Hn.out hj,H8.out]at e;injection e with e1 e2;injection e2 with e2 e3;exact⟨rfl,e1,e2,e3⟩)
     have N8:=Hf.bw (aE Ha HV) Hf.lt;have J8:=Hv.bw HV Hv.lt;have⟨n0,n1⟩:=N8.q2;have⟨j0,j1⟩:=J8.q2;have R8:=HR.bw U HR.lt;have⟨K,r1,r2,L,N,rf⟩:=R8.p5;have Gd:=Gc.out;have I:=aC<|Rq.Nw.five (R:=⟨j,q,J,F,xm,xx,xt,ja,jm,jx,jt⟩) (w:=wc) (lo:=W.1.size) (lo':=w.1.size) (r:=w.1.size+1+1) ⟨(H3.bw (aE Ha HV)).move Gb zL (λ_ _ _=>rfl),(H6.bw HV).move Hd.size zL (λ_ _ _=>rfl)⟩ oM oM (Ud j) (Uf F q.l.length xm) (Uf xx q.n xt) (Uf ja J.l.length jm) (Uf jx J.n jt);have H7:=aC<|nW (r:=w.1.size+1+1) (aE HB U) oM (Ud j) (Uf F q.l.length xm) (Uf xx q.n xt) (Uf ja J.l.length jm) (Uf jx J.n jt);go_wp2_with fail;refine zF (v:=Ul #[Uo #[Ud j,Uf F q.l.length xm,Uf xx q.n xt,Uf ja J.l.length jm,Uf jx J.n jt],Ud 0]) (by simp[results,results5,go_sem,K,r1,r2,L,N]) ?_;rw[<-HP.out];obtain⟨_,rfl,rfl,rfl⟩:=H.out;exact⟨F,xm,xx,xt,ja,jm,jx,jt,rfl,I,H7⟩
   .have dC:(C1 !=0)=true:=oU hC;have H:=aC<|Ps Hp Ho Hn hC;have U:=Hd;go_wp2_with fail;try rw[Hb]
    refine(He _ U).mono ?_;rintro e w5⟨z,o,O,A,g,i,Q,M,rfl,Y,I⟩;have⟨K,r1,r2,L,N,rf⟩:=Y.p5;go_wp2_with fail;refine zF (v:=Ul #[Uo #[Ud j,Uf z S.l.length o,Uf O S.n A,Uf g D.l.length i,Uf Q D.n M],Ud C1]) (by simp[results,results5,go_sem,K,r1,r2,L,N]) ?_;exact I _ H
theorem Y7(R:Rq)(k:Int)(pa:Option Us)(pc:Nat)(p:List ByteArray)(v:ByteArray)(w:Ur)(h:R.At w)(hk:R.ok)(hp:p.length<=1048576)(hpc:p.length<=pc/\pc<=9223372036854775807)(hseg:aV w pa p)(hv:v.size<=1048576):
  Cl 5 #[.agg R.vs,Uo #[Ud k,Uf pa p.length pc,Um v]] w λe w'=>XM R.id w e w':=by
 obtain⟨X,Z,C,r⟩:∃X Z C,fY R.id (nS R.S) R.D k p v=(X,Z,C):=⟨_,_,_,rfl⟩;have j:=kD hk;refine(Ts ⟨R.id,nS R.S,R.D,R.a,R.c,R.x,R.d,R.a',R.c',R.x',R.d'⟩ k pa pc p v X Z C w r ⟨⟨h.s.lf,Pz h.s.rn⟩,h.t,h.c,h.c',⟨⟨h.m.1.l1,h.m.1.p1,h.m.1.n1⟩,h.m.2⟩,h.m'⟩ (Rr j.2.1) ⟨tM (Ru j.2.1),tM j.2.2⟩ hp hpc hseg hv).mono ?_;rintro e w'⟨a,c,x,d,q,c',x',d',rfl,y,u⟩;exact⟨⟨R.id,X,Z,a,c,x,d,q,c',x',d'⟩,C,rfl,rfl,y,Q6 r (tL j.1 (Ru j.2.1) j.2.2),u⟩
noncomputable abbrev Sx.b (Y:Sx):List Int:=dF Y.R Y.F Y.T Y.n Y.l
def qK(w:Ur)(lo:Nat)(K:Int)(v:aB)(B:Bool):Prop:=(B=false/\K=0/\v=Ue)\/(B=true/\(K=2\/K=3)/\∃(Y:Sx) (va:Option Us) (vc:Nat),bM Y=true/\v=Uf va Y.b.length vc/\Own w lo v Y.b)
def Aj(id:Int)(S D:Sx)(w:Ur)(e:Ending)(w':Ur):Prop:=∃a c x d a' c' x' d' K v,e=Ui (Ul #[Uo #[Ud id,Uf a S.l.length c,Uf x S.n d,Uf a' (if eT D=true then D else Sx.mt).l.length c',Uf x' (if eT D=true then D else Sx.mt).n d'],Uo #[Ud K,v],Un (!eT D)])/\Rq.Nw ⟨id,S,if eT D=true then D else Sx.mt,a,c,x,d,a',c',x',d'⟩ w' w.1.size/\Bl w w'/\((eT D=true/\K=0/\v=Ue)\/(eT D=false/\K=3/\∃va vc,v=Uf va D.b.length vc/\Own w' w.1.size v D.b))
def XL(id:Int)(w:Ur)(e:Ending)(w':Ur):Prop:=∃(R:Rq) (K:Int) (v:aB) (B:Bool),e=Ui (Ul #[.agg R.vs,Uo #[Ud K,v],Un B])/\Al id w w' R/\qK w' w.1.size K v B
theorem aT.mtC(w:Ur)(lo:Nat)(a x:Option Us):aT w lo a 0 x Sx.mt:=⟨λw' _ _=>⟨.inl rfl,.inl rfl⟩,Ux _,oM⟩
theorem AE(R:Rq)(w:Ur)(h:R.At w)(hk:R.ok):Cl 10 #[.agg R.vs] w (Aj R.id R.S R.D w):=by
 have⟨r,S,D,a,c,x,d,u,c',x',d'⟩:=R;show Cl 10 #[Uo #[Ud r,Uf a S.l.length c,Uf x S.n d,Uf u D.l.length c',Uf x' D.n d']] w (Aj r S D w);have⟨P,hP⟩:=zE (Aj r S D w);rw[hP];have HP:=aC hP;have⟨W,Y⟩:=zE (((w.alloc (Uj #[Ud r,Uf a S.l.length c,Uf x S.n d,Uf u D.l.length c',Uf x' D.n d'] 30)).alloc (Uj #[Ud 0,Ue,Ue,Ue,Ue] 30)).alloc (Uj #[Ud 0,Ue] 41));have L:Bl w W:=Y▸((zO _ _).alloc oP _).alloc oS _;have B0:aF W w.1.size (Ud r) (Uf a S.l.length c) (Uf x S.n d) (Uf u D.l.length c') (Uf x' D.n d'):=Y▸((aF.new _ _ _ _ _ _ _).up _).up _;have R0:aF W (w.1.size+1) (Ud 0) Ue Ue Ue Ue:=by
  rw[<-Y];have:=(aF.new (w.alloc (Uj #[Ud r,Uf a S.l.length c,Uf x S.n d,Uf u D.l.length c',Uf x' D.n d'] 30)) (Ud 0) Ue Ue Ue Ue 30).up (Uj #[Ud 0,Ue] 41);simpa using this
 have F0:aD W (w.1.size+1+1) (Ud 0) Ue:=by
  rw[<-Y];have:=aD.made ((w.alloc (Uj #[Ud r,Uf a S.l.length c,Uf x S.n d,Uf u D.l.length c',Uf x' D.n d'] 30)).alloc (Uj #[Ud 0,Ue,Ue,Ue,Ue] 30)) (Ud 0) Ue 41;simpa using this
 have Ha:=kD hk;have HO:aA (∀w1,Bl W w1->Cl 21 #[Uo #[Ud r,Uf a S.l.length c,Uf x S.n d,Uf u D.l.length c',Uf x' D.n d']] w1 (Rt w1 (Un true))):=aC (λw1 hb=>by
  have j:=h.bw (aE L hb);have:=Ec r a x u x' c d c' d' S D w1 j.c.1 j.c.2 j.c'.1 j.c'.2 j.m.1 j.m'.1 j.s.lf j.s.rn j.t.lf j.t.rn;rw[show dP r S D=true from hk]at this;exact this)
 have Hq:=aC (λw1(hb:Bl W w1)=>Md ⟨r,S,D,a,c,x,d,u,c',x',d'⟩ w1 (h.bw (aE L hb)) ⟨tM Ha.2.1,tM Ha.2.2⟩);have Hv:aA (∀w1,Bl W w1->Cl 35 #[Uo #[Uf u D.l.length c',Uf x' D.n d']] w1 λe w'=>∃z g,e=Ui (Ul #[Uf z D.b.length g,Ud 0])/\Own w' w1.1.size (Uf z D.b.length g) D.b/\Bl w1 w'):=aC (λw1 hb=>by
  have j:=h.bw (aE L hb);refine(Ny u x' c' d' D w1 j.c'.1 j.c'.2 j.m'.1 j.t.lf j.t.rn).mono ?_;rintro e w'⟨v,zs,k,rfl,hz,N,b⟩;rw[(iW Ha.2.2).2.2]at hz;cases hz;obtain⟨z,g,rfl,_⟩:=N.any;exact⟨z,g,rfl,N,b⟩)
 have⟨MB,Hp⟩:=zE (eT D);have Hz:aA (∀w1 b y,Cl 29 #[Uo #[Uf u D.l.length c',Uf x' D.n d'],Uo #[Uf b 0 0,Uf y 0 0]] w1 (Rt w1 (Un MB))):=aC (λw1 b y=>Hp▸PS u x' b y c' d' D w1 h.m'.1);have U:=aC B0;have HR:=aC R0;have HF:=aC F0;have Hi:=aC L;have Hr:=aC Hp;have He:aA (∀w',Bl W w'->(Bl W w'/\w'.cell? (Ub w.1.size)=Uq (Ud r)/\w'.cell? (Ua w.1.size 1)=Uq (Uf a S.l.length c)/\w'.cell? (Ua w.1.size 2)=Uq (Uf x S.n d)/\w'.cell? (Ua w.1.size 3)=Uq (Uf u D.l.length c')/\w'.cell? (Ua w.1.size 4)=Uq (Uf x' D.n d'))):=aC (λw' hB=>by
  have X:=U.bw hB U.lt;exact⟨hB,X.c0,X.c1,X.c2,X.c3,X.c4⟩)
 have H5:w.1.size+1+1<W.1.size:=F0.lt;go_enter func10,ntmps10;go_wp2_with fail;refine zS He<|λqh=>?_;refine tZ 0 8 ?_;refine cZ 1 ?_;intro K p;go_simp;refine(HO _ qh.1).mono ?_;rintro e w1⟨rfl,b1⟩;have Hn:=aE qh.1 b1;refine bZ p (He _ Hn)<|λqh=>?_;refine tY 2 10 ?_;refine tY 4 12 ?_;refine cZ 6 ?_;intro K p;go_simp;refine(Dk _).mono ?_;rintro e w2⟨eg,ek,rfl,b2⟩;have Ho:=aE Hn b2;refine bZ p (He _ Ho)<|λqh=>?_;refine cZ 7 ?_;intro K p;go_simp;refine(Hz _ _ _).mono ?_;rintro e A⟨rfl,b3⟩;have Hg:=aE Ho b3;refine bZ p (He _ Hg)<|λqh=>?_;refine tZ 8 16 ?_;refine zD ?_;have I:=aC Hg;have X3:=U.bw Hg U.lt;have⟨p0,p1,Z,p3,p4⟩:=X3.q5;have H6:W.1.size<=A.1.size:=I.size;have Hw:aA (w.1.size<=W.1.size):=aC Hi.size;cases MB with
 |true=>
  go_wp2_with fail;refine(Hq A I).mono ?_;rintro e G⟨E,M,Q,O,F,T,Hd,Hc,rfl,C,s2,b4⟩;have i:=aE I b4;have R4:=HR.bw i HR.lt;have F4:=HF.bw i HF.lt;have⟨r0,r1,r2,r3,r4,rf⟩:=R4.p5;have⟨f0,f1,ff⟩:=F4.p2;have H0:=aC C;have H1:=aC s2;have J:=aC<|aE Hi i;go_wp2_with fail;refine zF (v:=Ul #[Uo #[Ud r,Uf E S.l.length M,Uf Q S.n O,Uf F D.l.length T,Uf Hd D.n Hc],Uo #[Ud 0,Ue],Un false]) (by simp[results,results10,go_sem,r0,r1,r2,r3,r4,f0,f1]) ?_;rw[<-HP.out];unfold Aj;rw[Hr.out];refine⟨E,M,Q,O,F,T,Hd,Hc,0,Ue,rfl,?_,?_,.inl ⟨rfl,rfl,rfl⟩⟩
  .refine Rq.Nw.move (w:=G) (lo:=A.1.size) ⟨H0,H1⟩ (oH Hw) (by simp[Vr])<|λq j h2=>?_;repeat (rw[zH _ _ _ _ oS])
  .repeat (refine Below.setCell ?_ (by simp;try omega) _)
   exact J
 |false=>
  go_wp2_with fail;refine(Hv A I).mono ?_;rintro e G⟨z,g,rfl,N,b4⟩;have i:=aE I b4;have J:=aC i;have X4:=U.bw i U.lt;have Hl:=aC N;have⟨p0,p1,Z,p3,p4⟩:=X4.q5;go_wp2_with fail;refine(Hq G J).mono ?_;rintro e o⟨E,M,Q,O,F,T,Hd,Hc,rfl,C,s2,b5⟩;have⟨H,Hb⟩:=zE (o.alloc (Uj #[Ud r,Uf E S.l.length M,Uf Q S.n O,Uf F D.l.length T,Uf Hd D.n Hc] 30));have Hf:Bl o H:=Hb▸zO _ _;have O5:aF H o.1.size (Ud r) (Uf E S.l.length M) (Uf Q S.n O) (Uf F D.l.length T) (Uf Hd D.n Hc):=Hb▸aF.new _ _ _ _ _ _ _;have Hx:=aC<|aE J (aE b5 Hf);have H2:=aC C;have Hj:aA (∀q,q<o.1.size->H.1[q]? =o.1[q]?):=aC<|λq hq=>Hf.block q hq;have H8:o.1.size<H.1.size:=O5.lt;have Hs:aA (Own H A.1.size (Uf z D.b.length g) D.b):=aC<|dK Hl λq hq=>(aE b5 Hf).block q (World.ownsRow.lt Hl q hq).2;have Hm:aA (∀q,(Value.slice z D.b.length g).ownBlock=Uq q->q<G.1.size):=aC<|λq hq=>(World.ownsRow.lt Hl q hq).2;have Hu:=aC O5;have H3:G.1.size<=o.1.size:=b5.size;have⟨o0,o1,o2,o3,o4⟩:=O5.q5;go_wp2_with fail;refine(Dk _).mono ?_;rintro e w6⟨eg,ek,rfl,V⟩;have Hh:=aE Hx V;have R6:=HR.bw Hh HR.lt;have F6:=HF.bw Hh HF.lt;have O6:=Hu.bw V Hu.lt;have⟨r0,r1,r2,r3,r4,rf⟩:=R6.p5;have⟨f0,f1,ff⟩:=F6.p2;have⟨o0,o1,o2,o3,o4,of⟩:=O6.p5;have Hy:=aC<|aE Hi Hh;have Hk:aA (∀q,q<o.1.size->w6.1[q]? =o.1[q]?):=aC<|λq hq=>(V.block q oM).trans (Hj q hq);have H4:H.1.size<=w6.1.size:=V.size;have Ht:aA (Own w6 A.1.size (Uf z D.b.length g) D.b):=aC<|dK Hs λq hq=>V.block q (World.ownsRow.lt Hs q hq).2;have H7:W.1.size<=G.1.size:=J.size;go_wp2_with fail;refine zF (v:=Ul #[Uo #[Ud r,Uf E S.l.length M,Uf Q S.n O,Uf (Uc eg) 0 0,Uf (Uc ek) 0 0],Uo #[Ud 3,Uf z D.b.length g],Un true]) (by simp[results,results10,go_sem,r0,r1,r2,r3,r4,f0,f1]) ?_;rw[<-HP.out];unfold Aj;rw[Hr.out];refine⟨E,M,Q,O,Uq (Ub eg),0,Uq (Ub ek),0,3,Uf z D.b.length g,rfl,?_,?_,.inr ⟨rfl,rfl,z,g,rfl,?_⟩⟩
  .refine⟨H2.move oQ (by simp[Vr];omega) (λq j h2=>?_),aT.mtC _ _ _ _⟩;repeat (rw[zH _ _ _ _ oS])
   exact Hk q h2
  .repeat (refine Below.setCell ?_ (by simp;try omega) _)
   exact Hy
  .refine Own.weak (B:=A.1.size) ?_ oM;refine dK Ht λq hq=>?_;have j:=(World.ownsRow.lt Ht q hq).1;have h2:=Hm q hq;repeat (rw[zH _ _ _ _ oS])
theorem TC(R:Rq)(w:Ur)(h:R.At w)(hk:R.ok):Cl 10 #[.agg R.vs] w (XL R.id w):=by
 refine(AE R w h hk).mono ?_;have j:=kD hk;rintro e w'⟨a,c,x,d,k,c',x',d',K,v,rfl,r,m,q⟩;refine⟨⟨R.id,R.S,if eT R.D=true then R.D else Sx.mt,a,c,x,d,k,c',x',d'⟩,K,v,_,rfl,⟨rfl,r,tL j.1 j.2.1 ?_,m⟩,?_⟩
 .dsimp only;split
  .exact j.2.2
  .exact Cg
 .rcases q with⟨e,rfl,rfl⟩|⟨e,rfl,y,z,rfl,u⟩
  .rw[e];exact .inl ⟨rfl,rfl,rfl⟩
  .rw[e];exact .inr ⟨rfl,.inr rfl,R.D,y,z,j.2.2,rfl,u⟩
def Oz(id:Int)(w:Ur)(e:Ending)(w':Ur):Prop:=∃(R:Rq) (v:aB) (C:Int),e=Ui (Ul #[.agg R.vs,v,Ud C])/\Al id w w' R
theorem WM(R:Rq)(K:Int)(pa:Option Us)(pc:Nat)(Y:Sx)(w:Ur)(h:R.At w)(hk:R.ok)(hK:K=2\/K=3)(hY:bM Y=true)(hs:bY w pa Y.b.length (gz Y.b))(hby:dO (gz Y.b))(hnc:Y.b.length<=pc)(hab:∀y,pa=Uq y->y.block<w.1.size):
  Cl 70 #[.agg R.vs,Uo #[Ud K,Uf pa Y.b.length pc]] w λe w'=>Oz R.id w e w':=by
 have⟨j,S,D,a,c,x,d,Z,c',x',d'⟩:=R;have⟨n,hn⟩:=zE Y.b.length;show Cl 70 #[Uo #[Ud j,Uf a S.l.length c,Uf x S.n d,Uf Z D.l.length c',Uf x' D.n d'],Uo #[Ud K,Uf pa Y.b.length pc]] w λe w'=>Oz j w e w';have hE:pB Y (gz Y.b) Y.b.length:=⟨(iW hY).1,λi hi=>by rw[UA];rfl,rfl,(iW hY).2.1⟩;rw[hn]at hs hnc hE⊢;have⟨P,hP⟩:=zE (Oz j w);rw[hP];have HP:=aC hP;have⟨W,H⟩:=zE ((((w.alloc (Uj #[Ud j,Uf a S.l.length c,Uf x S.n d,Uf Z D.l.length c',Uf x' D.n d'] 30)).alloc (Uj #[Ud K,Uf pa n pc] 41)).alloc (Uj #[Ud 0,Ue,Ue,Ue,Ue] 30)).alloc (Uj #[] 41));have G:Bl w W:=H▸((aU _ _ _).alloc oS _).alloc oS _;have zW:W.1.size=w.1.size+4:=H▸oP;have A0:aF W w.1.size (Ud j) (Uf a S.l.length c) (Uf x S.n d) (Uf Z D.l.length c') (Uf x' D.n d'):=by rw[<-H];exact(((aF.new w _ _ _ _ _ _).up _).up _).up _
 have F0:aD W (w.1.size+1) (Ud K) (Uf pa n pc):=by
  rw[<-H];have:=aD.made (w.alloc (Uj #[Ud j,Uf a S.l.length c,Uf x S.n d,Uf Z D.l.length c',Uf x' D.n d'] 30)) (Ud K) (Uf pa n pc) 41;exact((by simpa using this:aD _ (w.1.size+1) _ _).allocs _).allocs _
 have R0:aF W (w.1.size+1+1) (Ud 0) Ue Ue Ue Ue:=by
  rw[<-H];have:=aF.new ((w.alloc (Uj #[Ud j,Uf a S.l.length c,Uf x S.n d,Uf Z D.l.length c',Uf x' D.n d'] 30)).alloc (Uj #[Ud K,Uf pa n pc] 41)) (Ud 0) Ue Ue Ue Ue 30;exact(by simpa using this:aF _ (w.1.size+1+1) _ _ _ _ _).up _
 have Hq:=aC (Md ⟨j,S,D,a,c,x,d,Z,c',x',d'⟩ W (h.bw G) ⟨tM (kD hk).2.1,tM (kD hk).2.2⟩);have Hy:aA (∀u,Bl W u->Cl 21 #[Uo #[Ud j,Uf a S.l.length c,Uf x S.n d,Uf Z D.l.length c',Uf x' D.n d']] u (Rt u (Un true))):=aC (λu hb=>by
  have k:=h.bw (aE G hb);have:=Ec j a x Z x' c d c' d' S D u k.c.1 k.c.2 k.c'.1 k.c'.2 k.m.1 k.m'.1 k.s.lf k.s.rn k.t.lf k.t.rn;rw[show dP j S D=true from hk]at this;exact this)
 have Hs:=aC<|λu(hb:Bl W u)=>QD pa n pc (gz Y.b) Y u hE hnc hby (hs.bw (aE G hb)) (λy hy=>Ut (hab y hy) (aE G hb).size);have Hw:=aC<|λu va vc xa xc(hb:Bl W u)(hc:eP u va xa Y)=>Nz _ _ va xa c d vc xc S Y u h.m.1 (yN hY).1 (h.s.bw (aE G hb)) hc;have HA:=aC A0;have HF:=aC F0;have HR:=aC R0;have HB:=aC G;have Hx:=aC hK;have Ht:=aC<|kD hk;have Hi:=aC<|show dP j S D=true from hk;have Gd:aA (w.1.size+4<=W.1.size):=aC oM;have⟨k0,k1,k2,k3,k4⟩:=A0.q5;clear G zW A0 F0 R0 h hk hs hab hP hY hnc hE hn hby hK;go_enter func70,ntmps70;go_wp2_with fail;clear H;refine Hq.mono ?_;rintro e w1⟨I,L,C,X,z,g,A,o,rfl,s1,s2,b1⟩;dsimp only at s1 s2⊢;have⟨U,hU⟩:=zE (w1.alloc (Uj #[Ud j,Uf I S.l.length L,Uf C S.n X,Uf z D.l.length g,Uf A D.n o] 30));have bU:Bl w1 U:=hU▸zO _ _;have O0:aF U w1.1.size (Ud j) (Uf I S.l.length L) (Uf C S.n X) (Uf z D.l.length g) (Uf A D.n o):=hU▸aF.new _ _ _ _ _ _ _;have Hk:=aC<|aE b1 bU;have HN:aA (Rq.Nw ⟨j,S,D,I,L,C,X,z,g,A,o⟩ w1 W.1.size):=aC ⟨s1,s2⟩;have HO:=aC O0;have H8:aA (W.1.size<=w1.1.size/\w1.1.size<U.1.size):=aC ⟨b1.size,O0.lt⟩;have Hp:=aC bU;have Hz:=aC<|Hy U Hk;have AU:=HA.bw Hk HA.lt;clear k0 k1 k2 k3 k4;have⟨k0,k1,k2,k3,k4⟩:=AU.q5;clear b1 bU O0 s1 s2 AU Hq Hy;go_wp2_with fail;clear hU;refine Hz.mono ?_;rintro e w2⟨rfl,b2⟩;have H9:=aC b2;have Hl:=aC<|aE Hk b2;clear b2 Hz k0 k1 k2 k3 k4;have F2:=HF.bw Hl HF.lt;have⟨f0,f1⟩:=F2.q2;clear F2;go_upto_region 5 with fail;go_cut [31]from 23 to 31 (λb wx=>b=Un false/\wx=w2);case first=>
  have d1:(K==1)=false:=by have:=Hx.out;simp;omega
  go_wp2_with fail;go_meet;exact⟨rfl,rfl⟩
 case rest=>
 obtain⟨rfl,rfl⟩:=hcut;have Hr:=aC<|Hs wc Hl;clear Hs;go_wp2_with fail;refine Hr.mono ?_;rintro e w3⟨va,vc,xa,xc,rfl,H4,Ge,b3⟩;have⟨U3,He⟩:=zE (w3.alloc (Uj #[Uf va Y.l.length vc,Uf xa Y.n xc] 28));have b4:Bl w3 U3:=He▸zO _ _;have Y3:aD U3 w3.1.size (Uf va Y.l.length vc) (Uf xa Y.n xc):=He▸aD.made _ _ _ _;have H0:=aC<|aE H9 (aE b3 b4);have Hc:=aC<|aE Hl (aE b3 b4);have Hv:=aC<|Hw U3 va vc xa xc Hc (H4.bw b4);have Hm:=aC Y3;have F3:=HF.bw Hc HF.lt;clear f0 f1;have f0:=F3.c0;clear b3 b4 H4 Ge Y3 F3 Hr Hw;go_upto_region 11 with fail;clear He;go_cut [70]from 59 to 70 (λb wx=>b=Un false/\wx=U3);case first=>rcases Hx.out with rfl|rfl;all_goals go_wp2_with fail;go_meet;exact⟨rfl,rfl⟩
 case rest=>
 obtain⟨rfl,rfl⟩:=hcut;have A3:=HA.bw Hc HA.lt;have k1:=A3.c1;have k2:=A3.c2;have⟨y0,y1⟩:=Hm.q2;clear A3 f0;go_wp2_with fail;refine Hv.mono ?_;rintro e w5⟨E,M,Q,O,rfl,s5,b5,jc⟩;have⟨J,hJ⟩:=zE (aZ S Y);have⟨B,H1⟩:=zE (bK S Y);have H3:dR J:=hJ▸yI _ _;rw[hJ]at s5 jc⊢;rw[H1];have⟨T,Hf⟩:=zE (w5.alloc (Uj #[Uf E J.l.length M,Uf Q J.n O] 28));have b6:Bl w5 T:=Hf▸zO _ _;have J5:aD T w5.1.size (Uf E J.l.length M) (Uf Q J.n O):=Hf▸aD.made _ _ _ _;have Ga:=aC<|aE H0 (aE b5 b6);have Gb:=aC<|aE Hc (aE b5 b6);have Hu:=aC J5;have Hj:=aC s5;have Hg:=aC b6;have Gc:aA (wc.1.size<=w5.1.size/\w5.1.size<=T.1.size/\U.1.size<=wc.1.size):=aC ⟨b5.size,b6.size,H0.size⟩;have Hh:=aC<|λu(hu:Bl T u)=>yG E Q M O J u jc.1 jc.2 H3.1 ((Hj.bw Hg).bw hu).at.1 ((Hj.bw Hg).bw hu).at.2;have⟨F1,Hn⟩:=zE (bM J);rw[Hn]at Hh;have H5:=aC Hn;have⟨j0,j1⟩:=J5.q2;clear hJ H1 Hn s5 b5 b6 J5 jc Hv k1 k2 y0 y1 H3;go_upto_region 14 with fail;clear Hf;go_cut [86]from 80 to 86 (λb wx=>b=Un (!(B&&F1))/\aA (Bl T wx));case first=>
  cases B with
  |false=>go_wp2_with fail;go_meet;exact⟨rfl,aC zI⟩
  |true=>go_wp2_with fail;refine(Hh T zI).mono ?_;rintro e u1⟨rfl,c1⟩;have H7:=aC c1;clear c1;go_wp2_with fail;go_meet;exact⟨by cases F1<;>rfl,H7⟩
 case rest=>
 obtain⟨rfl,F⟩:=hcut;have Hb:=aC<|aE Ga F;have Hd:=aC<|aE Gb F;have Ho:aA ((B&&F1)=true->F1=true):=aC (by cases B<;>simp);have⟨BF,H2⟩:=zE ((B&&F1));rw[H2]at Ho⊢;clear H2 Hh j0 j1;obtain⟨N,hN⟩:∃N:Ur,N=wc:=⟨_,rfl⟩;rw[<-hN]at Hb Hd F⊢;clear hN;have O6:=HO.bw Hb HO.lt;have R6:=HR.bw Hd HR.lt;have⟨o0,o1,o2,o3,o4,of⟩:=O6.p5;have h0:=Gd.out;have k:=H8.out;have h5:=Gc.out;have h6:=F.size;have h7:=Hb.size;cases BF with
 |false=>have⟨r0,r1,r2,r3,r4,rf⟩:=R6.p5;have Ha:=aC<|And.intro (Rq.Nw.five (lo':=w.1.size) (r:=w.1.size+1+1) (HN.move (w':=N) zL oM (λq _ h2=>(Hb.block q oM).trans (Hp.block q h2))) oM oM (Ud j) (Uf I S.l.length L) (Uf C S.n X) (Uf z D.l.length g) (Uf A D.n o)) (nW (r:=w.1.size+1+1) (aE HB Hd) oM (Ud j) (Uf I S.l.length L) (Uf C S.n X) (Uf z D.l.length g) (Uf A D.n o));clear O6 R6 h0 k h5 h6 h7;go_wp2_with fail;refine zF (v:=Ul #[Uo #[Ud j,Uf I S.l.length L,Uf C S.n X,Uf z D.l.length g,Uf A D.n o],Uf (Uq (Ua (w.1.size+1+1+1) 0)) 0 0,Ud 3]) (by simp[results,results70,go_sem,r0,r1,r2,r3,r4]) ?_;rw[<-HP.out];exact⟨⟨j,S,D,I,L,C,X,z,g,A,o⟩,_,3,rfl,rfl,Ha.1,Hi,Ha.2⟩
 |true=>
  have J6:=Hu.bw F Hu.lt;have⟨j0,j1⟩:=J6.q2;have⟨V,hV⟩:=zE ((N.setCell (Ua w1.1.size 1) (Uf E J.l.length M)).setCell (Ua w1.1.size 2) (Uf Q J.n O));have OV:=(O6.set1 (Uf E J.l.length M)).set2<|Uf Q J.n O;have RV:=(R6.setAt (Ua w1.1.size 1) (Uf E J.l.length M) (by show w1.1.size≠_;omega)).setAt (Ua w1.1.size 2) (Uf Q J.n O) (by show w1.1.size≠_;omega);have qV:∀q,q≠w1.1.size->V.1[q]? =N.1[q]? :=λq hq=>by rw[<-hV,zH _ _ _ _ hq,zH _ _ _ _ hq]
  have zV:V.1.size=N.1.size:=by rw[<-hV];simp[Vr]
  have bV:Bl w V:=by rw[<-hV];exact((aE HB Hd).setCell (p:=(Ua w1.1.size 1)) oQ _).setCell (p:=(Ua w1.1.size 2)) oQ _
  rw[hV]at OV RV;have Ha:=aC<|And.intro (Rq.Nw.five (R:=⟨j,J,D,E,M,Q,O,z,g,A,o⟩) (w:=V) (lo:=W.1.size) (lo':=w.1.size) (r:=w.1.size+1+1) ⟨Hj.move oM oM (λq h3 h4=>(qV q oM).trans ((F.block q oM).trans (Hg.block q h4))),HN.t.move zL oM (λq h3 h4=>(qV q oM).trans ((Hb.block q oM).trans (Hp.block q h4)))⟩ oM oM (Ud j) (Uf E J.l.length M) (Uf Q J.n O) (Uf z D.l.length g) (Uf A D.n o)) (nW (r:=w.1.size+1+1) bV oM (Ud j) (Uf E J.l.length M) (Uf Q J.n O) (Uf z D.l.length g) (Uf A D.n o));have⟨p0,p1,p2,p3,p4⟩:=OV.q5;have⟨r0,r1,r2,r3,r4,rf⟩:=RV.p5;have H6:=aC<|((((RV.set0 (Ud j)).set1 (Uf E J.l.length M)).set2 (Uf Q J.n O)).set3 (Uf z D.l.length g)).set4 (Uf A D.n o);clear J6 O6 R6 OV RV qV zV bV h0 k h5 h6 h7;go_wp2_with fail;clear r0 r1 r2 r3 r4;have⟨r0,r1,r2,r3,r4⟩:=H6.q5;refine zF (v:=Ul #[Uo #[Ud j,Uf E J.l.length M,Uf Q J.n O,Uf z D.l.length g,Uf A D.n o],Uf (Uq (Ua (w.1.size+1+1+1) 0)) 0 0,Ud 0]) (by simp[results,results70,go_sem,r0,r1,r2,r3,r4]) ?_;rw[<-HP.out];exact⟨⟨j,J,D,E,M,Q,O,z,g,A,o⟩,_,0,rfl,rfl,Ha.1,tL Ht.1 (H5.trans (Ho oP)) Ht.2.2,Ha.2⟩
def nP(w:Ur)(cb:Nat)(a:Option Us)(n c:Nat)(x:Int):Prop:=w.cell? (Ub cb)=Uq (Uf a n c)/\w.cell? (Ua cb 1)=Uq (Ud x)/\w.frozen? (Ua cb 1)=false
theorem nP.lt{x:Int}(h:nP w cb a n c x):cb<w.1.size:=by
 exact pG
theorem nP.bw{x:Int}(h:nP w cb a n c x)(hb:Below B w w')(hB:cb<B):nP w' cb a n c x:=
 ⟨(hb.cell (p:=(Ub cb)) hB).trans h.1,(hb.cell (p:=(Ua cb 1)) hB).trans h.2.1,(hb.frozen (p:=(Ua cb 1)) hB).trans h.2.2⟩
theorem nP.set{x:Int}(h:nP w cb a n c x)(y:Int):nP (w.setCell (Ua cb 1) (Ud y)) cb a n c y:=by
 have⟨j,k,m⟩:=h;refine⟨?_,?_,?_⟩
 .simp[Vt,j]
 .exact Vs _ _ _ k
 .rw[Vq];exact m
theorem Zy(h:w.grownBy w1 Up)(v:aB):w.grownBy (w1.setCell (Ua cb i) v) (Uq cb):=by
 exact vN
theorem zY(w:Ur)(n:Nat)(row:Option Nat):w.grownBy (w.drewN n) row:=⟨rfl,rfl,rfl,Ux _,λ_ _ _=>rfl⟩
theorem sW(h1:w.grownBy w1 (Uq cb))(h2:w1.grownBy w2 (Uq cb)):w.grownBy w2 (Uq cb):=
 h1.andThen h2 (λj hj=> .inr hj)
theorem uX(h1:w.grownBy w1 (Uq cb))(h2:Bl w1 w2):w.grownBy w2 (Uq cb):=
 sW h1 ⟨h2.os,h2.tape,h2.output,h2.size,λk hk _=>h2.block k hk⟩
def cA(w:Ur)(B rb:Nat)(f:Nat->Int)(n x:Nat):Prop:=∃(a:Option Us) (c:Nat),nP w rb a n c (x:Int)/\bY w a n f/\dO f/\n<=1000/\x<=n/\(0<n->∀y,a=Uq y->y.block≠rb/\y.block<B)/\rb<B
theorem cA.bw(h:cA w B rb f n x)(hb:Below B w w'):cA w' B rb f n x:=by
 have⟨a,c,r,j,v,z,g,m,k⟩:=h;refine⟨a,c,r.bw hb k,?_,v,z,g,m,k⟩;rcases j with j|⟨b,off,e,y,u⟩
 .exact .inl j
 .by_cases q:0<n
  .exact .inr ⟨b,off,e,Ut y hb.size,λi hi=>(hb.cell (p:=(Ua b (off+i))) (show b<B from(m q _ e).2)).trans (u i hi)⟩
  .exact .inl oM
def rk(f:Nat->Int)(n x:Nat):Nat:=if x<n then(f x).toNat else 0
def rx(n x:Nat):Nat:=if x<n then x+1 else x
theorem qA(h:cA w B rb f n x):rk f n x<256:=by
 have⟨a,c,k,m,j,_⟩:=h;unfold rk;split
 .have:=j x;omega
 .omega
theorem cA.lt(h:cA w B rb f n x):rb<w.1.size/\rb<B:=by
 have⟨a,c,k,_,_,_,_,_,j⟩:=h;exact⟨k.lt,j⟩
theorem jW(B rb:Nat)(f:Nat->Int)(n x:Nat)(w:Ur)(h:cA w B rb f n x):
  Cl 16 #[Uk (Uc rb)] w λe w'=>e=Ui (Ud (rk f n x:Int))/\cA w' B rb f n (rx n x)/\w.grownBy w' (Uq rb):=by
 have⟨a,c,s,u,m,A,Y,r,o⟩:=h;have q:=aC s;have t:=aC u;have y:=aC m;have⟨D,F,P⟩:=s;by_cases k:x<n;rcases u with u|⟨b,off,rfl,H,p⟩
 .omega
 obtain⟨z,v⟩:∃z:Nat,f x=(z:Int):=⟨(f x).toNat,oH ((m x).1)⟩;have C:z<256:=oH<|(m x).2;have J:w.cell? (Ua b (off+x))=Uq (Ug .u8 (z:Int)):=by rw[p x k,v]
 have I:b≠rb:=(r oM _ rfl).1;have N:(0:Int)<=(x:Int):=VH _;have X:(x:Int)<(n:Int):=oM;have L:IntKind.i64.wrap (z:Int)=(z:Int):=cK _ oM oM;have M:=aC v;have E:aA (∀z:Nat,f x=(z:Int)->rk f n x=z/\rx n x=x+1):=aC (λz e=>by unfold rk rx;rw[if_pos k,if_pos k,e];exact⟨oM,rfl⟩);rotate_left;rotate_left;all_goals go_enter func16,ntmps16;go_wp2_with fail;go_quiet (fail);go_wp2_with fail
 .go_quiet (fail);go_wp2_with fail;go_ret;have g:=E z M;rw[g.1,g.2];refine⟨rfl,⟨_,c,?_,?_,y,A,k,r,o⟩,?_⟩
  .first|exact q.set _|(simp;exact q.set _)
  .rcases t.out with Q|⟨G,Z,j,U,V⟩
   .exact .inl Q
   .have O:=j;injection j with j;injection j with j _ _;subst j;exact .inr ⟨_,Z,O,by simpa[Vr]using U,λi hi=>by
     try simp only[World.drewN_drewN]
     rw[World.cell?_setCell_far _ _ _ _ oS];exact V i hi⟩
  .first|exact Zy (zY _ _ _) _|(simp;exact Zy (zY _ _ _) _)
 .go_ret;have e:rk f n x=0/\rx n x=x:=by unfold rk rx;rw[if_neg k,if_neg k];exact⟨rfl,rfl⟩
  rw[e.1,e.2];exact⟨rfl,⟨a,c,q,t,y,A,Y,r,o⟩,zY _ _ _⟩
theorem MU(a:Option Us)(n c:Nat)(f:Nat->Int)(w:Ur)(hnc:n<=c)(hn:n<=9223372036854775807)(h:bY w a n f)(hf:dO f):
  Cl 15 #[Uf a n c] w λe w'=>e=Ui (Uk (Uc w.1.size))/\cA w' (w.1.size+1) w.1.size f (min n 1000) 0/\Bl w w':=by
 have r:=fun(o:Obj)=>zO w o;have k:=aC r;have m:=aC h;have q:=aC hf;by_cases u:n<=1000
 .go_enter func15,ntmps15;go_wp2_with fail;go_ret;rw[Nat.min_eq_left u];refine⟨rfl,⟨a,c,⟨oP,oP,oP⟩,m.bw (k _),q,u,oM,λh0 y hy=>?_,oM⟩,k _⟩;rcases m.out with g|⟨b,off,e,j,_⟩
  .omega
  .rw[hy]at e;injection e with e;rw[e];exact⟨Nat.ne_of_lt j,JO j⟩
 .have g:1000<n:=oM;rcases h with h|⟨b,off,rfl,j,p⟩
  .omega
  go_enter func15,ntmps15;go_wp2_with fail;go_ret;rw[Nat.min_eq_right oM];refine⟨rfl,⟨Uq (Ua b off),c,⟨oP,oP,oP⟩,?_,q,oM,oM,λh0 y hy=>?_,oM⟩,k _⟩
  .rcases (m.bw (k _))with E|⟨v,A,z,t,s⟩
   .omega
   .exact .inr ⟨v,A,z,t,λi hi=>s i oM⟩
  .injection hy with hy;rw[<-hy];exact⟨Nat.ne_of_lt j,JO j⟩
def Bp(f:Nat->Int)(p L:Nat):ByteArray:=⟨((Vb L).map λi=>UInt8.ofNat (f (p+i)).toNat).toArray⟩
theorem SZ{b p L cap:Nat}(hf:dO f)(hc:∀i,i<L->w.cell? (Ua b (off+p+i))=Uq (Ug .u8 (f (p+i)))):
  (convert 22 9 (Uf (Uq (Ua b (off+p))) L cap)).run prog w=.ok (Um (Bp f p L)) w:=by
 have r:((Vb L).map λi=>UInt8.ofNat (f (p+i)).toNat).length=L:=oP;have:=run_convert_bytes_back (P:=prog) w 22 9 5 (Ua b (off+p)) cap ((Vb L).map λi=>UInt8.ofNat (f (p+i)).toNat) underlying22 underlying5 underlying9 (λj hj=>by
  have q:j<L:=oU hj;have e:(Addr.add (Ua b (off+p)) j)=(Ua b (off+p+j)):=by
   by_cases k:j=0
   .subst k;simp[Addr.add]
   .simp[Addr.add,k]
  rw[e,hc j q];have:=hf (p+j);simp only[JX,JY,Option.some.injEq,Value.int.injEq,true_and];have m:(UInt8.ofNat (f (p+j)).toNat).toNat=(f (p+j)).toNat%256:=oP;rw[m];omega)
 rw[r]at this;exact this
theorem SY(ad:Us)(p cap:Nat)(f:Nat->Int):(convert 22 9 (Uf (Uq ad) 0 cap)).run prog w=.ok (Um (Bp f p 0)) w:=
 run_convert_bytes_back (P:=prog) w 22 9 5 ad cap [] underlying22 underlying5 underlying9 (λj hj=>by simp at hj)
def CP(w:Ur)(B:Nat)(v:aB)(zs:List Int):Prop:=Own w B v zs/\∀z∈zs,0<=z/\z<256
theorem EC(w:Ur)(B:Nat)(hB:B<=w.1.size):Own (w.alloc (Uj #[] 5)) B (Uf (Uc w.1.size) 0 0) []:=by
 have:=Vo (base:=B) (e:=5) (size:=1) w #[] 0 hB oL rfl;simpa[Own]using this
def eL(zs:List Int):ByteArray:=Bp (λi=>zs.getD i 0) 0 zs.length
theorem uH(zs:List Int):(eL zs).size=zs.length:=by simp[eL,Bp,ByteArray.size]
theorem Tc(h:CP w B v zs):∀k,(convert 22 9 v).run prog (w.drewN k)=.ok (Um (eL zs)) (w.drewN k):=by
 have⟨m,u⟩:=h;by_cases j:zs=[]
 .subst j;have⟨_,r⟩:=m;rcases r with⟨rfl,_⟩|⟨g,cap,z,rfl,_⟩
  .intro k;rw[run_convert_bytes_string _ _ _ 5 Up 0 0 underlying22 underlying5 underlying9];rfl
  .exact λk=>SY (w:=w.drewN k) (Ub g) 0 cap (λ_=>0)
 .obtain⟨g,cap,rfl,_,_,_,_,_,s⟩:=m.shape j;rcases s with q|⟨b,off,e,t,y⟩
  .exact absurd (List.length_eq_zero_iff.1 q) j
  .injection e with e;injection e with e1 e2 _;subst e1 e2;intro k;have:=SZ (w:=w.drewN k) (b:=g) (off:=0) (p:=0) (L:=zs.length) (cap:=cap) (f:=λi=>zs.getD i 0) (OM u) (λi hi=>by have:=y i hi;simpa using this);simpa[eL]using this
def gF(s:ByteArray)(n:Nat):List Int:=(JZ n (gM s)).flatten
theorem OT(s:ByteArray)(n:Nat):gF s (n+1)=gF s n++gM s:=by simp[gF,KA]
theorem yR(s:ByteArray)(n:Nat):(gF s n).length=n*s.size:=by simp[gF,mE]
theorem OW(s:ByteArray)(n:Nat):∀z∈gF s n,0<=z/\z<256:=by
 intro z j;simp only[gF,List.mem_flatten,List.mem_replicate]at j;obtain⟨l,⟨_,rfl⟩,h⟩:=j;exact AZ s z h
theorem qI(s:ByteArray)(n:Nat)(w:Ur)(hs:s.size<=1)(hn:n<=1000):
  Cl 20 #[Um s,Ud (n:Int)] w (Rt w (Um (eL (gF s n)))):=by
 have⟨X,hi,K,L,N⟩:=info_parts Tryz.infoByte;have p:=aC<|EC w w.1.size zL;have g:=aC<|zO w (Uj #[] 5);go_enter func20,ntmps20;go_wp2_with fail;go_loopw [5,6] (λb i wr=>∃(j:Nat) (m:List Int),j<=n/\m.length<=j/\i=Ud (j:Int)/\aA (Own wr w.1.size b m)/\aA (gF s j=m)/\aA (Bl w wr)) (λ_ i _=>n-(intOf i).toNat);case atStart=>exact⟨0,[],UB _,UB _,rfl,p,aC rfl,g⟩
 case round=>
  obtain⟨j,m,D,F,rfl,y,v,u⟩:=hrel;have C:=u.size;by_cases I:j<n
  .have⟨cap,B,J,r,P,O⟩:=Z6 s wr;have z:B.ownsRow w.1.size 5 1 u5 m.length (m.map (Value.int .u8)):=y.kept r<|λk hk=>(World.ownsRow.lt y k hk).2;have q:aA (∀k,u5.ownBlock=Uq k->w.1.size<=k):=λk hk=>(World.ownsRow.lt z k hk).1;have E:=aC O;have M:=aC<|Lib.strCells_oneCell s;have A:=aC<|Lib.strCells_length s;have o:=aC<|u.trans (r.mono C);go_wp2_with (at_builtin;refine wpList_append_own _ rfl _ _ 22 rfl w.1.size 5 X (Ug .u8 0) 1 1 underlying22 hi K L N rfl oD _ _ _ rfl z (Ub wr.1.size) s.size cap (Lib.strCells s) rfl (by rw[A.out];omega) E M ?c3 ?c4 ?c5 ?_);case c3=>unfold maxLen;omega
   case c4=>omega
   case c5=>omega
   .intro v' Y V U _;have R:aA (Own Y w.1.size v' (m++gM s)):=by
     show Own _ _ _ _;unfold Own;rw[UM,List.map_append,mE,Oj];exact V
    have G:aA (Bl w Y):=o.grown U oM q;have Z:aA (gF s (j+1)=m++gM s):=aC (by rw[OT,v.out]);have H:(m++gM s).length<=j+1:=(by rw[UM,mE];omega);go_wp2_with fail;go_roundw;case rel=>exact⟨j+1,m++gM s,I,H,oN,R,Z,G⟩
    case measure=>exact oE
  .obtain rfl:j=n:=oM;have Q:=Tc ⟨y,by rw[<-v.out];exact OW s j⟩ 0;rw[JV]at Q;generalize h:eL m=t;have q:aA (eL (gF s j)=t):=aC (by rw[v.out];exact h);rw[h]at Q;go_wp2_with fail;go_ret;exact⟨by rw[q.out];rfl,u⟩
theorem MV(B rb:Nat)(f:Nat->Int)(n x:Nat)(w:Ur)(h:cA w B rb f n x):
  Cl 68 #[Uk (Uc rb)] w λe w'=>e=Ui (Ud ((n-x:Nat):Int))/\cA w' B rb f n x/\w.grownBy w' (Uq rb):=by
 have j:=aC h;have⟨a,c,m,u,q,y,g,r,v⟩:=h;have⟨t,o,i⟩:=m;have⟨d,k⟩:=zE (n-x:Nat);have z:IntKind.i64.wrap ((n:Int)-(x:Int))=(d:Int):=by rw[show(n:Int)-(x:Int)=(d:Int)from by omega];exact cK _ oM oM
 rw[k];go_enter func68,ntmps68;go_wp2_with fail;try (go_quiet (fail);go_wp2_with fail)
 go_ret;first|exact⟨rfl,j,zY _ _ _⟩|exact⟨rfl,j,zY _ 0 _⟩
def kY(ts:List ByteArray):List aB:=ts.map Value.string
theorem Y8(ts:List ByteArray):(kY ts).length=ts.length:=by simp[kY]
theorem Xl{ts:List ByteArray}(h:w.ownsRow B 9 1 v ts.length (kY ts)):∃a c,v=Uf a ts.length c/\aV w a ts/\ts.length<=c/\c<=9223372036854775807:=by
 rcases h.2 with⟨rfl,j⟩|⟨g,cap,y,rfl,t,k,m,r,z,u⟩
 .exact⟨Up,0,by rw[j],.inl j,oM,oM⟩
 .refine⟨_,cap,rfl,.inr ⟨g,0,rfl,(Array.getElem?_eq_some_iff.1 k).1,λi hi=>?_⟩,m,by unfold maxLen at r;omega⟩;have q:w.cell? (Ua g i)=(kY ts)[i]? :=by
   rw[<-u,Nat.mul_one,List.getElem?_take_of_lt hi];simp[Vx,k]
  rw[UA,q];simp[kY,gS,UL,hi]
theorem Tz{size:Nat}(h:w.ownsRow B e size v n xs)(hk:∀g,v.ownBlock=Uq g->w'.1[g]? =w.1[g]?):w'.ownsRow B e size v n xs:=by
 exact vL
theorem PD{size:Nat}(h:w.ownsRow B e size v n xs)(hb:Bl w w'):w'.ownsRow B e size v n xs:=Tz h λg hg=>hb.block g (h.lt g hg).2
theorem DM(base:Nat)(w:Ur)(v:aB)(xs ns:List ByteArray)(a:Us)(c:Nat)(ho:w.ownsRow base 9 1 v xs.length (kY xs))(hn:∀i,i<ns.length->w.cell? (a.add i)=Uq (Um (gS ns i)))(hm:xs.length+ns.length<=4194304)(hb:base<=w.1.size):
  ∃v' w',(Builtin.append_ #[31,31] 31 #[v,Uf (Uq a) ns.length c]).run prog w=.ok v' w'/\w'.ownsRow base 9 1 v' (xs++ns).length (kY (xs++ns))/\w.grownBy w' v.ownBlock/\Below base w w'/\(v≠Ue->v'≠Ue):=by
 have⟨o,hi,h,g,t⟩:=info_parts uE;have⟨v',w',r,y,m,z⟩:=run_append_own (P:=prog) w base 31 31 9 o (Um ByteArray.empty) 1 16 underlying31 hi h g t rfl oD v xs.length (kY xs) ho a ns.length c (kY ns) (by rw[Y8];omega) (λj u hu=>by
  have q:j<ns.length:=by
   by_cases e:j<ns.length
   .exact e
   .rw[List.getElem?_eq_none (by rw[Y8];omega)]at hu;cases hu
  rw[hn j q,<-hu];simp[kY,gS,UL,q]) (λu hu=>by
   obtain⟨s,_,rfl⟩:=List.mem_map.1 hu;rfl) oL oM hb
 refine⟨v',w',r,?_,m,?_,λhv e=>hv (z.1 e).1⟩
 .rw[UM];simpa[kY]using y
 .exact(Below.refl base w).grown m hb (λk hk=>(ho.lt k hk).1)
theorem FU{o:Oper}{a:Act}{K:Act->Ur->Prop}{Q:Exit->Act->Ur->Prop}(s x:Operand)(t:TypeId)(ho:o.op=.call {callee:=.builtin .append,args:=#[s,x],argTypes:=#[t,t]})(hr:(Builtin.append_ #[t,t] t' #[v,u]).run P w=.ok v' w')(hs:a.eval s=v)(hx:a.eval x=u)(ht:o.type=t')(h:K (a.put o.dst v') w'):Oper.wp P o a w K Q:=by
 subst ht;unfold Oper.wp execOp;simp only[ho,resolve,invoke,builtin,Sem.run_bind,Sem.run_pure,Result.andThen_ok,KB,UQ,VN,hs,hx,hr];exact h
theorem Dw{ops:Array Oper}{rest:List Oper}{o:Oper}{a:Act}{Q:Exit->Act->Ur->Prop}(hgd:o.guard=Up)(s x:Operand)(t:TypeId)(ho:o.op=.call {callee:=.builtin .append,args:=#[s,x],argTypes:=#[t,t]})(hr:(Builtin.append_ #[t,t] t' #[v,u]).run P w=.ok v' w')(hs:a.eval s=v)(hx:a.eval x=u)(ht:o.type=t')(h:wpList P ops Q rest (a.put o.dst v') w'):wpList P ops Q (o::rest) a w:=by
 refine wpList_plain hgd λK hK=>?_;exact FU s x t ho hr hs hx ht<|hK _ _ h
theorem KZ(s:ByteArray)(a b:Nat)(h:b<=c):(s.extract a b).size<=c:=by
 rw[ByteArray.size_extract];exact Uz (Nat.sub_le _ _)<|Uz (Nat.min_le_left _ _) h
theorem vE{Q:Prop}(h:Q:=by go_wp2_with fail;refine y.mono ?_;rintro e o⟨rfl,u⟩;go_wp2_with fail;go_ret;exact⟨rfl,r1.bw (u.mono (oH m.size)),uX m u⟩):Q:=h
theorem FV(f:Nat->Int)(n x:Nat):∃v:ByteArray,v.size<=201/\∀(B rb:Nat) (w:Ur),B<=w.1.size->cA w B rb f n x->
  Cl 39 #[Uk (Uc rb)] w λe w'=>e=Ui (Um v)/\cA w' B rb f n (rx n x)/\w.grownBy w' (Uq rb):=by
 have⟨k,q⟩:=zE (rk f n x);by_cases p:k=255
 .refine⟨eL (gF ⟨#[118]⟩ 201),by rw[uH,yR];decide,λB rb w hB h=>?_⟩;have j:=aC<|jW B rb f n x w h;rw[q]at j;have z:((k:Int)==255)=true:=oS;go_enter func39,ntmps39;go_wp2_with fail;refine j.mono ?_;rintro e w1⟨rfl,r1,m⟩;have y:=aC<|qI ⟨#[118]⟩ 201 w1 oD oM;exact vE
 .by_cases s:250<=k;refine⟨eL (gF ⟨#[118]⟩ 200),by rw[uH,yR];decide,λB rb w hB h=>?_⟩;rotate_left;have⟨r,t⟩:=zE (k%4:Nat);refine⟨(⟨#[119,120,121,122]⟩:ByteArray).extract r 4,KZ _ _ _ oM,λB rb w hB h=>?_⟩;rotate_left;all_goals have j:=aC (jW B rb f n x w h);rw[q]at j;have z:((k:Int)==255)=false:=oS
  have g:(250:Int)<=(k:Int):=oM;rotate_left;have g:¬(250:Int)<=(k:Int):=oM;have i:(k:Int)%4=(r:Int):=oM;rotate_left;all_goals go_enter func39,ntmps39;go_wp2_with fail;refine j.mono ?_;rintro e w1⟨rfl,r1,m⟩
  .have y:=aC<|qI ⟨#[118]⟩ 200 w1 oD oM;exact vE
  .go_wp2_with fail;go_ret;exact⟨rfl,r1,m⟩
def PR(w:Ur)(B:Nat)(v:aB)(ps:List ByteArray):Prop:=w.ownsRow B 9 1 v ps.length (kY ps)
structure iO(w:Ur)(lo:Nat)(pa:Option Us)(pc:Nat)(p:List ByteArray):Prop where
 cap:p.length<=pc/\pc<=9223372036854775807
 seg:∀w':Ur,w.1.size<=w'.1.size->(∀q,lo<=q->q<w.1.size->w'.1[q]? =w.1[q]?)->aV w' pa p
theorem iO.move(h:iO w lo pa pc p)(hl:lo'<=lo)(hs:w.1.size<=w1.1.size)(hq:∀q,lo<=q->q<w.1.size->w1.1[q]? =w.1[q]?):iO w1 lo' pa pc p:=
 ⟨h.cap,λw' h1 h2=>h.seg w' (Uz hs h1) (λq h3 h4=>(h2 q (Uz hl h3) (Ut h4 hs)).trans (hq q h3 h4))⟩
theorem iO.bw(h:iO w lo pa pc p)(hb:Bl w w1):iO w1 lo pa pc p:=h.move zL hb.size (λq _ h2=>hb.block q h2)
theorem iO.at(h:iO w lo pa pc p):aV w pa p:=h.seg w zL (λ_ _ _=>rfl)
theorem PR.ptn{ps:List ByteArray}(h:PR w B v ps)(hl:lo<=B):∃j pc,v=Uf j ps.length pc/\iO w lo j pc ps:=by
 have⟨j,pc,e,s,c⟩:=Xl h;refine⟨j,pc,e,c,λw' h1 h2=>?_⟩;have⟨q,r,k,m,_⟩:=Xl (Tz h (λg hg=>h2 g (Uz hl (h.lt g hg).1) (h.lt g hg).2));rw[e]at k;injection k with e1 e2 e3;rw[e1];exact m
theorem Mq(B:Nat)(w:Ur)(v:aB)(ps:List ByteArray)(s:ByteArray)(h:PR w B v ps)(hB:B<=w.1.size)(hl:ps.length<=100):
  ∃v' w',(Builtin.append_ #[31,31] 31 #[v,Uf (Uc w.1.size) 1 1]).run prog (w.alloc (Uj #[Um s] 9))=.ok v' w'/\PR w' B v' (ps++[s])/\Below B w w':=by
 have j:Bl w (w.alloc (Uj #[Um s] 9)):=zO _ _;have⟨v',w',k,m,r,q,u⟩:=DM B (w.alloc (Uj #[Um s] 9)) v ps [s] (Ub w.1.size) 1 (PD h j) (λi hi=>by
  obtain rfl:i=0:=by simp at hi;omega
  simp[Addr.add,gS]) oS oS
 exact⟨v',w',k,m,(j.mono hB).trans q⟩
theorem PR.lit1(w:Ur)(s:ByteArray):PR (w.alloc (Uj #[Um s] 9)) w.1.size (Uf (Uc w.1.size) 1 1) [s]:=
 Vo (base:=w.1.size) (e:=9) (size:=1) w #[Um s] 1 zL oL rfl
theorem PR.lit0(w:Ur):PR (w.alloc (Uj #[] 9)) w.1.size (Uf (Uc w.1.size) 0 0) []:=
 Vo (base:=w.1.size) (e:=9) (size:=1) w #[] 0 zL oL rfl
def mG(f:Nat->Int)(n x:Nat)(p:List ByteArray):Prop:=p.length<=9/\∀(B rb:Nat) (w:Ur),B<=w.1.size->cA w B rb f n x->
  Cl 38 #[Uk (Uc rb)] w λe w'=>∃pa pc,e=Ui (Uf pa p.length pc)/\iO w' w.1.size pa pc p/\cA w' B rb f n (rx n x)/\w.grownBy w' (Uq rb)
theorem mG.fin(hB:B<=w.1.size)(r1:cA w1 B rb f n (rx n x))(g1:w.grownBy w1 (Uq rb))(h:PR w2 w1.1.size v p)(b2:Bl w1 w2):∃j pc,Ending.returned v=Ui (Uf j p.length pc)/\iO w2 w.1.size j pc p/\cA w2 B rb f n (rx n x)/\w.grownBy w2 (Uq rb):=by
 have⟨j,pc,e,k⟩:=h.ptn g1.size;exact⟨j,pc,by rw[e],k,r1.bw (b2.mono (oH g1.size)),uX g1 b2⟩
theorem EI(f:Nat->Int)(n x k:Nat)(hk:rk f n x=k)(h1:252<=k):∃p,mG f n x p:=by
 have⟨r,b⟩:=zE (k%2:Nat);have⟨m,i⟩:=zE (40+r:Nat);have⟨t,y⟩:=zE (eL (gF ⟨#[110]⟩ m));refine⟨[t],oP,λB rb w hB h=>?_⟩;have u:=aC<|jW B rb f n x w h;rw[hk]at u;have A:(252:Int)<=(k:Int):=oM;have E:(k:Int)%2=(r:Int):=oM;have M:IntKind.i64.wrap (40+(r:Int))=(m:Int):=by rw[show(40:Int)+(r:Int)=(m:Int) by omega];exact cK _ oM oM
 have g:aA (m<=1000):=aC oM;have o:=aC y;go_enter func38,ntmps38;go_wp2_with fail;refine u.mono ?_;rintro e w1⟨rfl,r1,v⟩;have q:=aC<|qI ⟨#[110]⟩ m w1 oD g;rw[o.out]at q;go_wp2_with fail;refine q.mono ?_;rintro e s⟨rfl,j⟩;have z:=aC<|mG.fin hB r1 v (oF (PR.lit1 s t) j.size) (aE j (zO _ _));go_wp2_with fail;go_ret;exact z
theorem EH(f:Nat->Int)(n x k:Nat)(hk:rk f n x=k)(h1:¬252<=k)(h2:248<=k):∃p,mG f n x p:=by
 have⟨r,Y⟩:=zE (k%2:Nat);have⟨m,V⟩:=zE (8+r:Nat);refine⟨JZ m ⟨#[100]⟩,oS,λB rb w hB h=>?_⟩;have g:=aC<|jW B rb f n x w h;rw[hk]at g;have G:(248:Int)<=(k:Int):=oM;have H:(k:Int)%2=(r:Int):=oM;have I:IntKind.i64.wrap (8+(r:Int))=(m:Int):=by rw[show(8:Int)+(r:Int)=(m:Int) by omega];exact cK _ oM oM
 have K:m<=9:=oM;go_enter func38,ntmps38;go_wp2_with fail;refine g.mono ?_;rintro e w1⟨rfl,r1,t⟩;have Q:=aC r1;have M:=aC t;have z:=aC<|PR.lit0 w1;have y:=aC<|zO w1 (Uj #[] 9);go_wp2_with fail;go_loopw [4,5] (λv i wr=>∃j:Nat,j<=m/\i=Ud (j:Int)/\aA (PR wr w1.1.size v (JZ j ⟨#[100]⟩))/\aA (Bl w1 wr)) (λ_ i _=>m-(intOf i).toNat);case atStart=>exact⟨0,UB _,rfl,z,y⟩
 case round=>
  obtain⟨j,J,rfl,u,q⟩:=hrel;by_cases U:j<m
  .have⟨v',w',o,s,b⟩:=Mq w1.1.size wr u4 _ ⟨#[100]⟩ u q.size oS;have O:aA (PR w' w1.1.size v' (JZ (j+1) ⟨#[100]⟩)):=aC (by rw[KA];exact s);have A:=aC<|q.trans b;go_wp2_with (at_builtin;refine Dw rfl _ _ _ rfl o (by rfl) (by rfl) rfl ?_;clear o);go_roundw;case rel=>exact⟨j+1,U,oN,O,A⟩
   case measure=>exact oE
  .obtain rfl:j=m:=oM;have E:=aC<|mG.fin hB Q M u q;go_wp2_with fail;go_ret;exact E
theorem EG(f:Nat->Int)(n x k:Nat)(hk:rk f n x=k)(h1:¬248<=k)(h2:244<=k):∃p,mG f n x p:=by
 have⟨r,t⟩:=zE (k%4:Nat);have m:(([⟨#[97]⟩,⟨#[]⟩,⟨#[98]⟩]:List ByteArray).take r).length=r:=by rw[List.length_take];show min r 3=r;omega
 refine⟨([⟨#[97]⟩,⟨#[]⟩,⟨#[98]⟩]:List ByteArray).take r,oM,λB rb w hB h=>?_⟩;rw[m];have u:=aC<|jW B rb f n x w h;rw[hk]at u;have s:(244:Int)<=(k:Int):=oM;have A:(k:Int)%4=(r:Int):=oM;have q:=aC m;go_enter func38,ntmps38;go_wp2_with fail;refine u.mono ?_;rintro e w1⟨rfl,r1,y⟩;have z:=aC r1;have j:=aC y;go_wp2_with fail;go_ret;have v:Bl w1 (w1.alloc (Uj #[Um ⟨#[97]⟩,Um ⟨#[]⟩,Um ⟨#[98]⟩] 9)):=zO _ _;refine⟨_,3,rfl,⟨by rw[q.out];omega,λw' z1 z2=>?_⟩,z.bw (v.mono (oH j.size)),uX j v⟩;have e:=z2 w1.1.size j.size oP;refine .inr ⟨w1.1.size,0,rfl,by simp at z1;omega,λi hi=>?_⟩;rw[Vy (a:=(Ua w1.1.size (0+i))) e,UA];rw[q.out]at hi;have g:i<3:=oM;match i,hi,g with
 |0,hi,_=>simp[gS,UL,hi]
 |1,hi,_=>simp[gS,UL,hi]
 |2,hi,_=>simp[gS,UL,hi]
theorem EF(f:Nat->Int)(n x k:Nat)(hk:rk f n x=k)(h1:¬244<=k):∃p,mG f n x p:=by
 have⟨r1,Y⟩:=zE (k%3:Nat);have⟨g,Q⟩:=zE (r1+1:Nat);have⟨q,V⟩:=zE (k/3%3:Nat);have⟨r2,Z⟩:=zE (k/9%2:Nat);have⟨t,U⟩:=zE (r2+1:Nat);have⟨b,G⟩:=zE (k/18%3:Nat);have X:(k:Int)%3=(r1:Int):=oM;have C:(k:Int)/3%3=(q:Int):=oM;have D:(k:Int)/9%2=(r2:Int):=oM;have F:(k:Int)/18%3=(b:Int):=oM;have P:IntKind.i64.wrap ((r1:Int)+1)=(g:Int):=by rw[show(r1:Int)+1=(g:Int) by omega];exact cK _ oM oM
 have R:IntKind.i64.wrap ((r2:Int)+1)=(t:Int):=by rw[show(r2:Int)+1=(t:Int) by omega];exact cK _ oM oM
 have H:g<=3/\r1<=g:=oM;have I:t<=2/\r2<=t:=oM;have⟨j,S⟩:=zE ((⟨#[97,98,99]⟩:ByteArray).extract r1 g);have⟨o,T⟩:=zE ((⟨#[97,98]⟩:ByteArray).extract r2 t);have⟨M,W⟩:=zE ((⟨#[97,255,47]⟩:ByteArray).extract b 3);have⟨Ha,Hb⟩:=H;have⟨Hc,Hd⟩:=I;by_cases q0:q=0
 .have J:¬(0:Int)<(q:Int):=oM;have O:¬(1:Int)<(q:Int):=oM;refine⟨[j],oP,λB rb w hB h=>?_⟩;have m:=aC<|jW B rb f n x w h;rw[hk]at m;go_enter func38,ntmps38;go_wp2_with fail;refine m.mono ?_;rintro e w1⟨rfl,r1,r⟩;have v:=aC<|mG.fin hB r1 r (PR.lit1 w1 j) (zO _ _);go_wp2_with fail;go_ret;exact v
 .have J:(0:Int)<(q:Int):=oM;by_cases q1:q=1;have O:¬(1:Int)<(q:Int):=oM;refine⟨[j]++[o],oP,λB rb w hB h=>?_⟩;rotate_left;have O:(1:Int)<(q:Int):=oM;refine⟨[j]++[o]++[M],oP,λB rb w hB h=>?_⟩;rotate_left;all_goals have m:=aC (jW B rb f n x w h);rw[hk]at m;go_enter func38,ntmps38;go_wp2_with fail;refine m.mono ?_;rintro e w1⟨rfl,r1,r⟩;have⟨v',w',u,z,y⟩:=Mq w1.1.size (w1.alloc (Uj #[Um j] 9)) _ _ o (PR.lit1 w1 j) oP oP;rw[show(w1.alloc (Uj #[Um j] 9)).1.size=w1.1.size+1 from by simp]at u
  .have v:=aC<|mG.fin hB r1 r z ((zO _ _).trans y);go_wp2_with (at_builtin;refine Dw rfl _ _ _ rfl u (by rfl) (by rfl) rfl ?_;clear u);go_ret;exact v
  .have i:Bl w1 w':=(zO _ _).trans y;have⟨v2,w2,s,E,A⟩:=Mq w1.1.size w' _ _ M z i.size oP;have v:=aC<|mG.fin hB r1 r E (i.trans A);go_wp2_with (at_builtin;first|(refine Dw rfl _ _ _ rfl u (by rfl) (by rfl) rfl ?_;clear u)|(refine Dw rfl _ _ _ rfl s (by rfl) (by rfl) rfl ?_;clear s));go_ret;exact v
theorem EE(f:Nat->Int)(n x:Nat):∃p,mG f n x p:=by
 by_cases j:252<=rk f n x
 .exact EI f n x _ rfl j
 .by_cases k:248<=rk f n x
  .exact EH f n x _ rfl j k
  .by_cases m:244<=rk f n x
   .exact EG f n x _ rfl k m
   .exact EF f n x _ rfl m
theorem Mc(id:Int)(hi:0<=id/\id<8)(w:Ur):Cl 42 #[Ud id] w λe w'=>∃R:Rq,e=Ui (Ul #[.agg R.vs,Un true])/\Al id w w' R/\(R.S=Sx.mt/\R.D=Sx.mt/\R.c=0/\R.c'=0):=by
 obtain⟨P,q⟩:∃P:Ending->Ur->Prop,(λe w'=>∃R:Rq,e=Ui (Ul #[.agg R.vs,Un true])/\Al id w w' R/\(R.S=Sx.mt/\R.D=Sx.mt/\R.c=0/\R.c'=0))=P:=⟨_,rfl⟩;rw[q];have E:=aC q;generalize j:w.alloc (Uj #[Ud 0,Ue,Ue,Ue,Ue] 30)=W;have z:Bl w W:=j▸zO _ _;have u:aF W w.1.size (Ud 0) Ue Ue Ue Ue:=j▸aF.new _ _ _ _ _ _ _;have r:=aC u;have b:=aC z;have A:=aC hi;have U:decide (id<0)=false:=oS;have V:decide (8<=id)=false:=oS;go_enter func42,ntmps42;go_wp2_with fail;refine(Dk _).mono ?_;rintro e w1⟨g,k,rfl,h⟩;have p:=aC h;go_wp2_with fail;refine(Dk _).mono ?_;rintro e Z⟨o,i,rfl,t⟩;have m:=aE p t;have y:=r.bw m r.lt;have⟨M,r1,r2,O,Q,Y⟩:=y.p5;have s:=aC<|aE b m;go_wp2_with fail;refine zF (v:=Ul #[Uo #[Ud id,Uf (Uc g) 0 0,Uf (Uc k) 0 0,Uf (Uc o) 0 0,Uf (Uc i) 0 0],Un true]) (by simp[results,results42,go_sem,M,r1,r2,O,Q]) ?_;rw[<-E.out];exact⟨⟨id,Sx.mt,Sx.mt,Uq (Ub g),0,Uq (Ub k),0,Uq (Ub o),0,Uq (Ub i),0⟩,rfl,⟨rfl,⟨aT.mtC _ _ _ _,aT.mtC _ _ _ _⟩,tL A Cg Cg,nW s zL _ _ _ _ _⟩,rfl,rfl,rfl,rfl⟩
theorem aH.sm3{b:Nat}(h:aH w b v0 v1 v2)(e:w'.1[b]? =w.1[b]?)(hs:w.1.size<=w'.1.size):aH w' b v0 v1 v2:=
 ⟨(Vy (a:=(Ub b)) e).trans h.c0,(Vy (a:=(Ua b 1)) e).trans h.c1,(Vy (a:=(Ua b 2)) e).trans h.c2,λi=>(Vz (a:=(Ua b i)) e).trans (h.f i),Ut h.lt hs⟩
def BN(w:Ur)(B rb:Nat)(f:Nat->Int)(n:Nat)(e:Ending)(w':Ur):Prop:=∃(K:Int) (pa:Option Us) (pc:Nat) (p:List ByteArray) (v:ByteArray) (x':Nat),e=Ui (Uo #[Ud K,Uf pa p.length pc,Um v])/\(K=1\/(2<=K/\K<=4)/\v=⟨#[]⟩)/\(p.length<=9/\v.size<=201)/\iO w' w.1.size pa pc p/\cA w' B rb f n x'/\w.grownBy w' (Uq rb)
theorem wP{Q:Prop}(h:Q:=by rintro e m⟨rfl,M,O,T⟩;obtain⟨p1,p2,Y,pf⟩:=M.p3;obtain⟨F,R,S,yf⟩:=O.p3;have Hr:=aC M;have Hf:=aC O;clear M O o0 o1 o2 of;go_wp2_with fail;have Q:=((Hf.sm3 (zH m (Ua j.1.size 2) (Um v) w.1.size (Ne.symm I)) (by simp[Vr])).set (Ud 1) (Uf u p.length pc) (Um v));refine zF (v:=Uo #[Ud 1,Uf u p.length pc,Um v]) (by simp[results,results17,go_sem,Q.c0,Q.c1,Q.c2]) ?_;exact T _ rfl rfl rfl (X m _ _ _ _).1 (X m _ _ _ _).2 oP):Q:=h
theorem Nq(B rb:Nat)(f:Nat->Int)(n x:Nat)(w:Ur)(hB:B<=w.1.size)(h:cA w B rb f n x):Cl 17 #[Uk (Uc rb)] w λe w'=>BN w B rb f n e w':=by
 have⟨P,hP⟩:=zE (BN w B rb f n);rw[hP];have HP:=aC hP;have⟨p,Hu,Ha⟩:=EE f n (rx n x);have⟨v,hv,Hd⟩:=FV f n (rx n (rx n x));have hk:=qA h;have⟨k,Hg⟩:=zE (rk f n x);rw[Hg]at hk;have⟨W,L⟩:=zE (w.alloc (Uj #[Ud 0,Ue,Um ⟨#[]⟩] 33));have b0:Bl w W:=L▸zO _ _;have zW:W.1.size=w.1.size+1:=L▸oP;have E:aH W w.1.size (Ud 0) Ue (Um ⟨#[]⟩):=L▸aH.made _ _ _ _ _;have Hv:=h.lt;have HN:=aC (jW B rb f n x W (h.bw (b0.mono hB)));rw[Hg]at HN;have Hj:=aC Ha;have Hq:=aC Hd;have HR:=aC E;have N:=aC b0;have G:=aC (And.intro hB Hv);have z:=aC zW;go_enter func17,ntmps17;go_wp2_with fail;refine HN.mono ?_;rintro e w1⟨rfl,r1,g1⟩;have Hk:=aC (Hj B rb w1 (by have:=g1.size;have:=z.out;have:=G.out;omega) r1);have Hi:=aC g1;go_wp2_with fail;refine Hk.mono ?_;rintro e j⟨u,pc,rfl,pt,r2,g2⟩;have Hn:=aC pt;have J:=aC (sW Hi g2);have Hl:=aC r2;have A:aA (W.1.size<=w1.1.size/\w1.1.size<=j.1.size):=aC ⟨Hi.size,g2.size⟩;have Hc:aA (∀(U V Z:Ur) (K:Int) (s:ByteArray) (x':Nat),Bl j U->U.grownBy V (Uq rb)->cA V B rb f n x'->Z.os=V.os->Z.tape=V.tape->Z.output=V.output->Z.1.size=V.1.size->(∀q,q≠w.1.size->q≠j.1.size->Z.1[q]? =V.1[q]?)->(K=1\/(2<=K/\K<=4)/\s=⟨#[]⟩)->s.size<=201->P (Ui (Uo #[Ud K,Uf u p.length pc,Um s])) Z):=aC (λU V Z K s x' y gV rV z1 z2 z3 z4 o hK hs=>by
  have g:=z.out;have C:=A.out;have h3:=y.size;have h4:=gV.size;rw[<-HP.out];refine⟨K,u,pc,p,s,x',rfl,hK,⟨Hu,hs⟩,?_,rV.bw ⟨z1,z2,z3,oM,λq h=>o q oM oM⟩,⟨?_,?_,?_,oM,λq h I=>?_⟩⟩
  .exact Hn.move oM oM<|λq h5 h6=>(o q oM oM).trans ((gV.block q oM (λe=>oI e)).trans (y.block q h6))
  .exact z1.trans<|gV.os.trans (y.os.trans (J.os.trans N.os))
  .exact z2.trans<|gV.tape.trans (y.tape.trans (J.tape.trans N.tape))
  .exact z3.trans<|gV.output.trans (y.output.trans (J.output.trans N.output))
  .exact(o q oM oM).trans ((gV.block q oM I).trans ((y.block q oM).trans ((J.block q oM I).trans (N.block q h)))))
 have⟨r,Hx⟩:=zE (k%4:Nat);have e4:(k:Int)%4=(r:Int):=oM;have h4:r<4:=oM;go_upto_region 3 with fail;have⟨U,D⟩:=zE (j.alloc (Uj #[Ud (1+(r:Int)),Uf u p.length pc,Um ⟨#[]⟩] 33));have y:Bl j U:=D▸zO _ _;have OU:aH U j.1.size (Ud (1+(r:Int))) (Uf u p.length pc) (Um ⟨#[]⟩):=D▸aH.made _ _ _ _ _;have He:=aC OU;have H:=aC y;have Hp:=aC (Hl.bw (y.mono (by have:=A.out;have:=z.out;have:=G.out;omega)));have Hb:aA (aH U w.1.size (Ud 0) Ue (Um ⟨#[]⟩)):=aC (by
  have e:=(y.block w.1.size (oJ A z)).trans (J.block w.1.size (oH z) (λe=>by injection e with e;have:=G.out;omega));have E:=HR.out;exact⟨(Vy (a:=(Ub w.1.size)) e).trans E.c0,(Vy (a:=(Ua w.1.size 1)) e).trans E.c1,(Vy (a:=(Ua w.1.size 2)) e).trans E.c2,λi=>(Vz (a:=(Ua w.1.size i)) e).trans (E.f i),by have:=A.out;have:=z.out;have:=y.size;omega⟩)
 have I:j.1.size≠w.1.size:=oJ A z;have Hy:rb≠j.1.size/\rb≠w.1.size:=by have:=A.out;have:=z.out;have:=G.out;omega
 go_cut [20]from 13 to 20 (λb wx=>Ck b (k%8<4/\0<r)/\wx=U);case first=>
  by_cases h8:k%8<4
  .have d8:decide ((k:Int)%8<4)=true:=oS;by_cases h0:0<r
   .go_wp2_with fail;go_meet;exact⟨Ck.t oM,rfl⟩
   .have d1:decide (0<r)=false:=oS;go_wp2_with fail;go_meet;exact⟨Ck.f oM,rfl⟩
  .have d8:decide ((k:Int)%8<4)=false:=oS;have d9:¬(k:Int)%8<4:=oM;go_wp2_with fail;go_meet;exact⟨Ck.f oM,rfl⟩
 case rest=>
 obtain⟨Ht,rfl⟩:=hcut;have Hh:aA (∀(U1:Ur) (K:Int),aH U1 j.1.size (Ud K) (Uf u p.length pc) (Um ⟨#[]⟩)->(∀q,q≠j.1.size->U1.1[q]? =wc.1[q]?)->U1.1.size=wc.1.size->U1.os=wc.os->U1.tape=wc.tape->U1.output=wc.output->Cl 39 #[Uk (Uc rb)] U1 λe m=>e=Ui (Um v)/\aH m j.1.size (Ud K) (Uf u p.length pc) (Um ⟨#[]⟩)/\aH m w.1.size (Ud 0) Ue (Um ⟨#[]⟩)/\aA (∀Z:Ur,Z.os=m.os->Z.tape=m.tape->Z.output=m.output->Z.1.size=m.1.size->(∀q,q≠w.1.size->q≠j.1.size->Z.1[q]? =m.1[q]?)->K=1->P (Ui (Uo #[Ud K,Uf u p.length pc,Um v])) Z)):=aC (λU1 K hx o hz z1 z2 z3=>by
  have g:=z.out;have C:=A.out;have h3:=H.size;have Hm:Bl j U1:=⟨z1.trans H.os,z2.trans H.tape,z3.trans H.output,oM,λq h=>(o q oM).trans (H.block q h)⟩;refine(Hq B rb U1 oM (Hl.bw (Hm.mono oM))).mono ?_;rintro e m⟨rfl,Hw,g4⟩;have Hs:aH U1 w.1.size (Ud 0) Ue (Um ⟨#[]⟩):=Hb.sm3 (o _ (Ne.symm I)) oM;exact⟨rfl,hx.gr g4 (λk e=>oI e),Hs.gr g4 (λk e=>oI e),aC λZ F R S y4 y5 hK=>Hc.out U1 m Z K v _ Hm g4 Hw F R S y4 y5 (.inl hK) hv⟩)
 have X:aA (∀(V:Ur) (a0 a1 a2 b2:aB),((((V.setCell (Ua j.1.size 2) b2).setCell (Ub w.1.size) a0).setCell (Ua w.1.size 1) a1).setCell (Ua w.1.size 2) a2).1.size=V.1.size/\∀q,q≠w.1.size->q≠j.1.size->((((V.setCell (Ua j.1.size 2) b2).setCell (Ub w.1.size) a0).setCell (Ua w.1.size 1) a1).setCell (Ua w.1.size 2) a2).1[q]? =V.1[q]?):=aC (λV a0 a1 a2 b2=>⟨by simp[Vr],λq g C=>by
  rw[zH _ _ _ _ g,zH _ _ _ _ g,zH _ _ _ _ g,zH _ _ _ _ C]⟩)
 have⟨o0,o1,o2,of⟩:=He.p3;obtain⟨rfl,o⟩|⟨rfl,o⟩:=Ht
 .go_wp2_with fail;refine(Hh (wc.setCell (Ub j.1.size) (Ud 1)) 1 (He.set0 _) (λq h=>zH _ _ _ _ h) (by simp[Vr]) rfl rfl rfl).mono ?_;exact wP
 .by_cases h0:r=0
  .subst h0;go_wp2_with fail;refine(Hh wc 1 (oU He) (λq h=>rfl) rfl rfl rfl rfl).mono ?_;exact wP
  .have d1:((1+(r:Int))==1)=false:=oS;have⟨F,R,S,yf⟩:=Hb.p3;have Ho:aA (2<=1+(r:Int)/\1+(r:Int)<=4):=aC oM;go_wp2_with fail;have Q:=Hb.set (Ud (1+(r:Int))) (Uf u p.length pc) (Um ⟨#[]⟩);refine zF (v:=Uo #[Ud (1+(r:Int)),Uf u p.length pc,Um ⟨#[]⟩]) (by simp[results,results17,go_sem,Q.c0,Q.c1,Q.c2]) ?_;exact Hc wc wc _ _ ⟨#[]⟩ _ H ⟨rfl,rfl,rfl,Ux _,λ_ _ _=>rfl⟩ Hp rfl rfl rfl (by simp[Vr]) (λq g C=>by
    rw[zH _ _ _ _ g,zH _ _ _ _ g,zH _ _ _ _ g]) (.inr ⟨Ho,rfl⟩) oD
def XJ(rb:Nat)(w:Ur)(e:Ending)(w':Ur):Prop:=∃b c f,e=Ui (.map (Uq b))/\pA w' b c f/\(f 1=Uq (.func (.func 114) #[Uk (Uc rb)] #[])/\f 2=Uq (.func (.func 115) #[Uk (Uc rb)] #[])/\f 3=Uq (.func (.func 115) #[Uk (Uc rb)] #[])/\∀k,k≠1->k≠2->k≠3->f k=Up)/\Bl w w'
theorem SF(rb:Nat)(w:Ur):Cl 67 #[Uk (Uc rb)] w λe w'=>XJ rb w e w':=by
 generalize j:w.alloc (.map #[] 0)=W;have z:pA W w.1.size 0 (λ_=>Up):=j▸pA.made w;have h:Bl w W:=j▸zO _ _;have u:=aC z;have m:=aC h;have E:=@run_makeMap prog;go_enter func67,ntmps67;go_wp2_with fail;refine I4 (k:=1) u oD oD ?_;intro w1 i g;have v:=aC i;have q:=aC<|m.grown g m.size (λk e=>oI e);go_wp2_with fail;refine I4 (k:=2) v oD oD ?_;intro M b t;have y:=aC b;have r:=aC<|q.grown t q.size (λk e=>oI e);go_wp2_with fail;refine I4 (k:=3) y oD oD ?_;intro O p o;have A:=aC p;have s:=aC<|r.grown o r.size (λk e=>oI e);go_wp2_with fail;go_ret;exact⟨_,_,_,rfl,A,⟨by simp[dE],by simp[dE],by simp[dE],λk h1 h2 h3=>by simp[dE,h1,h2,h3]⟩,s⟩
theorem AJ{W:Ur}(h:Bl w W)(g:W.grownBy w' row):w.grownBy w' row:=
 ⟨g.os.trans h.os,g.tape.trans h.tape,g.output.trans h.output,Uz h.size g.size,λk hk hne=>(g.block k (Ut hk h.size) hne).trans (h.block k hk)⟩
theorem IN(V:Ur){r:Nat}(h:q≠r)(v0 v1 v2 v3 v4:aB):(((((V.setCell (Ub r) v0).setCell (Ua r 1) v1).setCell (Ua r 2) v2).setCell (Ua r 3) v3).setCell (Ua r 4) v4).1[q]? =V.1[q]? :=by
 rw[zH _ _ _ _ h,zH _ _ _ _ h,zH _ _ _ _ h,zH _ _ _ _ h,zH _ _ _ _ h]
theorem TR{r:Nat}(h:Bl w V)(hr:w.1.size<=r)(v0 v1 v2 v3 v4:aB):Bl w (((((V.setCell (Ub r) v0).setCell (Ua r 1) v1).setCell (Ua r 2) v2).setCell (Ua r 3) v3).setCell (Ua r 4) v4):=
 ((((h.setCell (p:=(Ub r)) hr _).setCell (p:=(Ua r 1)) hr _).setCell (p:=(Ua r 2)) hr _).setCell (p:=(Ua r 3)) hr _).setCell (p:=(Ua r 4)) hr _
theorem aF.sm{wk wk':Ur}{b:Nat}(h:aF wk b v0 v1 v2 v3 v4)(e:wk'.1[b]? =wk.1[b]?)(hs:wk.1.size<=wk'.1.size):aF wk' b v0 v1 v2 v3 v4:=
 ⟨(Vy (a:=(Ub b)) e).trans h.c0,(Vy (a:=(Ua b 1)) e).trans h.c1,(Vy (a:=(Ua b 2)) e).trans h.c2,(Vy (a:=(Ua b 3)) e).trans h.c3,(Vy (a:=(Ua b 4)) e).trans h.c4,λi=>(Vz (a:=(Ua b i)) e).trans (h.f i),Ut h.lt hs⟩
abbrev Rq.Bx(R:Rq)(w:Ur)(b:Nat):Prop:=aF w b (Ud R.id) (Uf R.a R.S.l.length R.c) (Uf R.x R.S.n R.d) (Uf R.a' R.D.l.length R.c') (Uf R.x' R.D.n R.d')
abbrev kQ(w:Ur)(b:Nat):Prop:=aF w b (Ud 0) Ue Ue Ue Ue
theorem aF.set5{b:Nat}(h:aF w b v0 v1 v2 v3 v4)(u0 u1 u2 u3 u4:aB):aF (((((w.setCell (Ub b) u0).setCell (Ua b 1) u1).setCell (Ua b 2) u2).setCell (Ua b 3) u3).setCell (Ua b 4) u4) b u0 u1 u2 u3 u4:=((((h.set0 u0).set1 u1).set2 u2).set3 u3).set4 u4
theorem mT(V:Ur){r:Nat}(h:q≠r)(v0 v1 v2 v3 v4:aB):(((((V.setCell (Ub r) v0).setCell (Ua r 1) v1).setCell (Ua r 2) v2).setCell (Ua r 3) v3).setCell (Ua r 4) v4).1[q]? =V.1[q]? :=by
 rw[zH _ _ _ _ h,zH _ _ _ _ h,zH _ _ _ _ h,zH _ _ _ _ h,zH _ _ _ _ h]
theorem B3(V:Ur)(r:Nat)(v0 v1 v2 v3 v4:aB):(((((V.setCell (Ub r) v0).setCell (Ua r 1) v1).setCell (Ua r 2) v2).setCell (Ua r 3) v3).setCell (Ua r 4) v4).1.size=V.1.size:=by simp[Vr]
theorem dU(w:Ur)(p:Us)(v:aB):(w.setCell p v).os=w.os/\(w.setCell p v).tape=w.tape/\(w.setCell p v).output=w.output:=⟨rfl,rfl,rfl⟩
theorem Ia(V:Ur)(r:Nat)(v0 v1 v2 v3 v4:aB):(((((V.setCell (Ub r) v0).setCell (Ua r 1) v1).setCell (Ua r 2) v2).setCell (Ua r 3) v3).setCell (Ua r 4) v4).os=V.os/\(((((V.setCell (Ub r) v0).setCell (Ua r 1) v1).setCell (Ua r 2) v2).setCell (Ua r 3) v3).setCell (Ua r 4) v4).tape=V.tape/\(((((V.setCell (Ub r) v0).setCell (Ua r 1) v1).setCell (Ua r 2) v2).setCell (Ua r 3) v3).setCell (Ua r 4) v4).output=V.output:=by
 refine⟨?_,?_,?_⟩
 .rw[(dU _ _ _).1,(dU _ _ _).1,(dU _ _ _).1,(dU _ _ _).1,(dU _ _ _).1]
 .rw[(dU _ _ _).2.1,(dU _ _ _).2.1,(dU _ _ _).2.1,(dU _ _ _).2.1,(dU _ _ _).2.1]
 .rw[(dU _ _ _).2.2,(dU _ _ _).2.2,(dU _ _ _).2.2,(dU _ _ _).2.2,(dU _ _ _).2.2]
theorem Dn{r:Nat}(h:kQ wr r)(v0 v1 v2 v3 v4:aB):∃Z,Z=(((((wr.setCell (Ub r) v0).setCell (Ua r 1) v1).setCell (Ua r 2) v2).setCell (Ua r 3) v3).setCell (Ua r 4) v4)/\aF Z r v0 v1 v2 v3 v4/\(∀q,q≠r->Z.1[q]? =wr.1[q]?)/\Z.1.size=wr.1.size/\Z.os=wr.os/\Z.tape=wr.tape/\Z.output=wr.output:=
 ⟨_,rfl,h.set5 v0 v1 v2 v3 v4,λq hq=>mT wr hq v0 v1 v2 v3 v4,B3 wr r v0 v1 v2 v3 v4,Ia wr r v0 v1 v2 v3 v4⟩
structure iA(ok:Rq->Prop)(w wr:Ur)(B rb:Nat)(f:Nat->Int)(n x L ba bb:Nat)(R Q:Rq):Prop where
 rd:cA wr B rb f n x
 gr:w.grownBy wr (Uq rb)
 a:R.Bx wr ba
 b:Q.Bx wr bb
 na:R.Nw wr L
 nb:Q.Nw wr L
 oa:ok R
 ob:ok Q
 la:w.1.size+2<=ba/\ba<L
 lb:w.1.size+2<=bb/\bb<L
 ne:ba≠bb
 lw:L<=wr.1.size
 hb:B<=ba/\B<=bb/\rb<B/\rb≠w.1.size/\rb≠w.1.size+1
 r1:kQ wr w.1.size
 r2:kQ wr (w.1.size+1)
section
variable {ok : Rq-> Prop}{w wr w1 : Ur}{B rb : Nat}{f : Nat-> Int}{n x x1 L ba bb : Nat}{R R' Q : Rq}
theorem iA.grow(h:iA ok w wr B rb f n x L ba bb R Q)(g:wr.grownBy w1 (Uq rb))(r:cA w1 B rb f n x1):iA ok w w1 B rb f n x1 L ba bb R Q:=by
 have j:=h.la;have k:=h.lb;have m:=h.hb;have u:=h.lw;have e:∀q,q≠rb->q<wr.1.size->w1.1[q]? =wr.1[q]? :=λq j k=>g.block q k (λe=>j (by injection e));exact⟨r,sW h.gr g,h.a.sm (e _ oM oM) g.size,h.b.sm (e _ oM oM) g.size,h.na.move zL g.size (λq h5 h6=>e q oM h6),h.nb.move zL g.size (λq h5 h6=>e q oM h6),h.oa,h.ob,j,k,h.ne,Uz u g.size,m,h.r1.sm (e _ oM oM) g.size,h.r2.sm (e _ oM oM) g.size⟩
theorem iA.bw(h:iA ok w wr B rb f n x L ba bb R Q)(b:Bl wr w1):iA ok w w1 B rb f n x L ba bb R Q:=h.grow ⟨b.os,b.tape,b.output,b.size,λq h1 _=>b.block q h1⟩ (h.rd.bw (b.mono (by have:=h.hb;have:=h.lw;have:=h.la;omega)))
theorem iA.swap(h:iA ok w wr B rb f n x L ba bb R Q):iA ok w wr B rb f n x L bb ba Q R:=⟨h.rd,h.gr,h.b,h.a,h.nb,h.na,h.ob,h.oa,h.lb,h.la,h.ne.symm,h.lw,⟨h.hb.2.1,h.hb.1,h.hb.2.2⟩,h.r1,h.r2⟩
theorem iA.setA(h:iA ok w wr B rb f n x L ba bb R Q)(hN:R'.Nw wr L)(hk:ok R'):iA ok w (((((wr.setCell (Ub ba) (Ud R'.id)).setCell (Ua ba 1) (Uf R'.a R'.S.l.length R'.c)).setCell (Ua ba 2) (Uf R'.x R'.S.n R'.d)).setCell (Ua ba 3) (Uf R'.a' R'.D.l.length R'.c')).setCell (Ua ba 4) (Uf R'.x' R'.D.n R'.d')) B rb f n x L ba bb R' Q:=by
 have E:=h.la;have M:=h.lb;have O:=h.hb;have Y:=h.lw;have U:=h.ne;obtain⟨j,t⟩:∃v:aB,Ud R'.id=v:=⟨_,rfl⟩;have⟨m,i⟩:=zE (Value.slice R'.a R'.S.l.length R'.c);have⟨r,p⟩:=zE (Value.slice R'.x R'.S.n R'.d);have⟨u,s⟩:=zE (Value.slice R'.a' R'.D.l.length R'.c');have⟨y,A⟩:=zE (Value.slice R'.x' R'.D.n R'.d');rw[t,i,p,s,A];have X:aF (((((wr.setCell (Ub ba) j).setCell (Ua ba 1) m).setCell (Ua ba 2) r).setCell (Ua ba 3) u).setCell (Ua ba 4) y) ba j m r u y:=h.a.set5 _ _ _ _ _;have z:=B3 wr ba j m r u y;have q:=λq (hq:q≠ba)=>mT wr hq j m r u y;have o:(((((wr.setCell (Ub ba) j).setCell (Ua ba 1) m).setCell (Ua ba 2) r).setCell (Ua ba 3) u).setCell (Ua ba 4) y).os=wr.os/\(((((wr.setCell (Ub ba) j).setCell (Ua ba 1) m).setCell (Ua ba 2) r).setCell (Ua ba 3) u).setCell (Ua ba 4) y).tape=wr.tape/\(((((wr.setCell (Ub ba) j).setCell (Ua ba 1) m).setCell (Ua ba 2) r).setCell (Ua ba 3) u).setCell (Ua ba 4) y).output=wr.output:=Ia wr ba j m r u y;have⟨V,g⟩:=zE (((((wr.setCell (Ub ba) j).setCell (Ua ba 1) m).setCell (Ua ba 2) r).setCell (Ua ba 3) u).setCell (Ua ba 4) y);rw[g]at X z o⊢;simp only[g]at q;have Z:=h.gr.size;refine⟨h.rd.bw ⟨o.1,o.2.1,o.2.2,oM,λk hk=>q k oM⟩,⟨o.1.trans h.gr.os,o.2.1.trans h.gr.tape,o.2.2.trans h.gr.output,oM,λk hk hn=>(q k oM).trans (h.gr.block k hk hn)⟩,?_,h.b.sm (q _ oM) oM,hN.move zL oM (λk h5 _=>q k oM),h.nb.move zL oM (λk h5 _=>q k oM),hk,h.ob,E,M,U,oM,O,h.r1.sm (q _ oM) oM,h.r2.sm (q _ oM) oM⟩;unfold Rq.Bx;rw[t,i,p,s,A];exact X
theorem iA.sz(h:iA ok w wr B rb f n x L ba bb R Q):B<=wr.1.size/\L<=wr.1.size:=by have:=h.hb;have:=h.la;have:=h.lw;omega
theorem iA.fin(h:iA ok w wr B rb f n x L ba bb R Q):∃m j,m=(((((wr.setCell (Ub w.1.size) (Ud R.id)).setCell (Ua w.1.size 1) (Uf R.a R.S.l.length R.c)).setCell (Ua w.1.size 2) (Uf R.x R.S.n R.d)).setCell (Ua w.1.size 3) (Uf R.a' R.D.l.length R.c')).setCell (Ua w.1.size 4) (Uf R.x' R.D.n R.d'))/\
  j=(((((m.setCell (Ua (w.1.size+1) 0) (Ud Q.id)).setCell (Ua (w.1.size+1) 1) (Uf Q.a Q.S.l.length Q.c)).setCell (Ua (w.1.size+1) 2) (Uf Q.x Q.S.n Q.d)).setCell (Ua (w.1.size+1) 3) (Uf Q.a' Q.D.l.length Q.c')).setCell (Ua (w.1.size+1) 4) (Uf Q.x' Q.D.n Q.d'))/\
  (R.Bx m ba/\Q.Bx m bb/\kQ m (w.1.size+1))/\(R.Bx j ba/\Q.Bx j bb)/\R.Bx j w.1.size/\Q.Bx j (w.1.size+1)/\R.Nw j w.1.size/\Q.Nw j w.1.size/\(B<=w.1.size->cA j B rb f n x)/\w.grownBy j (Uq rb):=by
 have i:=h.la;have p:=h.lb;have E:=h.gr.size;have⟨m,t,z,k,M,u⟩:=Dn h.r1 (Ud R.id) (Uf R.a R.S.l.length R.c) (Uf R.x R.S.n R.d) (Uf R.a' R.D.l.length R.c') (Uf R.x' R.D.n R.d');have y:kQ m (w.1.size+1):=h.r2.sm (k _ oM) oM;have⟨j,o,g,r,O,v⟩:=Dn y (Ud Q.id) (Uf Q.a Q.S.l.length Q.c) (Uf Q.x Q.S.n Q.d) (Uf Q.a' Q.D.l.length Q.c') (Uf Q.x' Q.D.n Q.d');refine⟨m,j,t,o,⟨h.a.sm (k _ oM) oM,h.b.sm (k _ oM) oM,y⟩,⟨h.a.sm ((r _ oM).trans (k _ oM)) oM,h.b.sm ((r _ oM).trans (k _ oM)) oM⟩,z.sm (r _ oM) oM,g,h.na.move oM oM (λq h5 _=>(r q oM).trans (k q oM)),h.nb.move oM oM (λq h5 _=>(r q oM).trans (k q oM)),λhB=>h.rd.bw ⟨v.1.trans u.1,v.2.1.trans u.2.1,v.2.2.trans u.2.2,oM,λq hq=>(r q oM).trans (k q oM)⟩,⟨(v.1.trans u.1).trans h.gr.os,(v.2.1.trans u.2.1).trans h.gr.tape,(v.2.2.trans u.2.2).trans h.gr.output,oM,λq hq hn=>((r q oM).trans (k q oM)).trans (h.gr.block q hq hn)⟩⟩
end
theorem Xm(h:Own w B (Uf a zs.length c) zs):zs.length<=c/\c<=9223372036854775807/\(∀y,a=Uq y->y.block<w.1.size)/\bY w a zs.length (gz zs):=by
 have j:=h.any;have⟨p,s,e,j⟩:=j;injection e with e1 e2 e3;subst e1;refine⟨?_,?_,?_,j⟩
 .rcases h.2 with⟨e,u⟩|⟨v,q,r,k,g,z,o,m,i,b⟩
  .injection e with e1 e2 e3;omega
  .injection k with e1 e2 e3;omega
 .rcases h.2 with⟨e,u⟩|⟨v,q,r,k,g,z,o,m,i,b⟩
  .injection e with e1 e2 e3;omega
  .injection k with e1 e2 e3;unfold maxLen at m;omega
 .intro y t;subst t;exact(World.ownsRow.lt h y.block rfl).2
theorem V1(h:bM Y=true):dO (gz Y.b):=(By.app (SO (iW h).1.1) (S9 (iW h).1.2.2.1 (iW h).1.lvB _ _):By Y.b).byt
structure BQ(wx:Ur)(L bn:Nat)(R':Rq)(K:Int)(v:aB)(Bo:Bool):Prop where
 x:R'.Bx wx bn
 nx:R'.Nw wx L
 ox:R'.ok
 fr:aD wx (bn+1) (Ud K) v
 fq:qK wx L K v Bo
 bl:L<=bn
theorem qK.low(h:qK w lo K v Bo)(hl:lo'<=lo):qK w lo' K v Bo:=by
 rcases h with h|⟨j,k,Y,u,y,m,q,r⟩
 .exact .inl h
 .exact .inr ⟨j,k,Y,u,y,m,q,r.weak hl⟩
theorem qK.stay(h:qK w lo K v Bo)(hq:∀q,lo<=q->q<w.1.size->w'.1[q]? =w.1[q]?):qK w' lo K v Bo:=by
 rcases h with h|⟨j,k,Y,y,z,m,r,u⟩
 .exact .inl h
 .exact .inr ⟨j,k,Y,y,z,m,r,u.stay hq⟩
def BS(w:Ur)(B rb:Nat)(f:Nat->Int)(n:Nat)(e:Ending)(w':Ur):Prop:=∃(R Q:Rq) (x':Nat),e=Ui (Ul #[.agg R.vs,.agg Q.vs])/\(R.Nw w' w.1.size/\R.ok)/\(Q.Nw w' w.1.size/\Q.ok)/\cA w' B rb f n x'/\w.grownBy w' (Uq rb)
theorem xK{Q:Prop}(h:Q:=by
 refine cZ 3 ?_;intro K z;go_simp;refine(Y7 ⟨jd,T,E,g,k,y,m,g',k',y',m'⟩ KK pa pc p v _ (O.nb.at O.ob) O.ob oM pt.cap pt.at oM).mono ?_;rintro e w6⟨⟨zd,X,Z,ya,yc,yx,yd,Hg,Hh,Hj,Hi⟩,C6,rfl,Hl,Hd,He,b6⟩;simp only[Rq.vs];have H6:=aC<|O.bw b6;have Hb:=aC<|Hd.move (lo':=L) (w':=w6) O.sz.2 zL (λ_ _ _=>rfl);have Hc:=aC He;refine z.out _ _ trivial<|λqh=>?_;clear z K;try simp only[zP]
 refine tZ 4 55 ?_;refine tZ 5 60 ?_;refine tZ 6 61 ?_;obtain⟨x0,I,J,C,F,xf⟩:=H6.b.p5;refine cZ 7 ?_;intro K z;go_simp;refine z.out _ _ trivial<|λqh=>?_;clear z K;try simp only[zP]
 refine zD ?_;have H7:=aC<|(H6.swap.setA Hb Hc).swap;clear x0 I J C F xf qh Hd He Hl b6 pt r5 g5 M O H6 Hb Hc G;go_wp2_with fail;go_roundw;case rel=>exact⟨j+1,_,_,_,Hf,oN,H7⟩
 case measure=>exact oE):Q:=h
theorem xJ{Q:Prop}(h:Q:=by
 refine cZ 3 ?_;intro K z;go_simp;refine(Y7 ⟨id,S,D,a,c,x,d,a',c',x',d'⟩ KK pa pc p v _ (O.na.at O.oa) O.oa oM pt.cap pt.at oM).mono ?_;rintro e w6⟨⟨zd,X,Z,ya,yc,yx,yd,Hg,Hh,Hj,Hi⟩,C6,rfl,Hl,Hd,He,b6⟩;simp only[Rq.vs];have H6:=aC<|O.bw b6;have Hb:=aC<|Hd.move (lo':=L) (w':=w6) O.sz.2 zL (λ_ _ _=>rfl);have Hc:=aC He;refine z.out _ _ trivial<|λqh=>?_;clear z K;try simp only[zP]
 refine tZ 4 45 ?_;refine tZ 5 50 ?_;refine tZ 6 51 ?_;obtain⟨x0,I,J,C,F,xf⟩:=H6.a.p5;refine cZ 7 ?_;intro K z;go_simp;refine z.out _ _ trivial<|λqh=>?_;clear z K;try simp only[zP]
 refine zD ?_;have H7:=aC<|H6.setA Hb Hc;clear x0 I J C F xf qh Hd He Hl b6 pt r5 g5 M O H6 Hb Hc G;go_wp2_with fail;go_roundw;case rel=>exact⟨j+1,_,_,_,Hf,oN,H7⟩
 case measure=>exact oE):Q:=h
theorem NI(B rb:Nat)(f:Nat->Int)(n x:Nat)(w:Ur)(hB:B<=w.1.size)(h:cA w B rb f n x):Cl 40 #[Uk (Uc rb)] w λe w'=>BS w B rb f n e w':=by
 have⟨P,hP⟩:=zE (BS w B rb f n);rw[hP];have HP:=aC hP;have⟨W,hW⟩:=zE ((w.alloc (Uj #[Ud 0,Ue,Ue,Ue,Ue] 30)).alloc (Uj #[Ud 0,Ue,Ue,Ue,Ue] 30));have b0:Bl w W:=hW▸aU _ _ _;have zW:W.1.size=w.1.size+2:=hW▸oP;have R1:kQ W w.1.size:=hW▸(aF.new _ _ _ _ _ _ _).up _;have R2:kQ W (w.1.size+1):=by
  rw[<-hW];simpa using aF.new (w.alloc (Uj #[Ud 0,Ue,Ue,Ue,Ue] 30)) (Ud 0) Ue Ue Ue Ue 30
 have Gf:=aC R1;have Gg:=aC R2;have Gp:=aC b0;have HZ:=aC zW;have Kt:=aC h;have Kp:=aC<|And.intro hB h.lt.2;clear hP b0 zW R1 R2 h;go_enter func40,ntmps40;go_wp2_with fail;try rw[hW]
 clear hW;refine(Mc 0 oM W).mono ?_;rintro e w1⟨⟨id,S,D,a,c,x,d,a',c',x',d'⟩,rfl,⟨Kf,Kv,Kk,b1⟩,G9,G4,Hu,Kd⟩;dsimp only at Kf G9 G4 Hu Kd;subst Kf G9 G4 Hu Kd;simp only[Rq.vs];have H2:=aC b1;have Gx:=aC Kk;clear Kv Kk b1;go_wp2_with fail;have⟨U1,Hw⟩:=zE (w1.alloc (Uj #[Ud 0,Uf a Sx.mt.l.length 0,Uf x Sx.mt.n d,Uf a' Sx.mt.l.length 0,Uf x' Sx.mt.n d'] 30));have G2:Bl w1 U1:=Hw▸zO _ _;have A1:Rq.Bx ⟨0,Sx.mt,Sx.mt,a,0,x,d,a',0,x',d'⟩ U1 w1.1.size:=Hw▸aF.new _ _ _ _ _ _ _;have H1:=aC A1;have Hp:=aC<|aE H2 G2;have G0:aA (W.1.size<=w1.1.size/\w1.1.size<U1.1.size):=aC ⟨H2.size,A1.lt⟩;try rw[Hw]
 clear Hw G2 A1;refine(Mc 1 oM U1).mono ?_;rintro e w2⟨⟨jd,T,E,g,k,y,m,g',k',y',m'⟩,rfl,⟨Kg,Kx,Kl,b2⟩,Ka,G5,Hz,Ke⟩;dsimp only at Kg Ka G5 Hz Ke;subst Kg Ka G5 Hz Ke;simp only[Rq.vs];have H3:=aC b2;have Gy:=aC Kl;clear Kx Kl b2;go_upto_region 3 with fail;have⟨U2,Hx⟩:=zE (w2.alloc (Uj #[Ud 1,Uf g Sx.mt.l.length 0,Uf y Sx.mt.n m,Uf g' Sx.mt.l.length 0,Uf y' Sx.mt.n m'] 30));have G3:Bl w2 U2:=Hx▸zO _ _;have A2:Rq.Bx ⟨1,Sx.mt,Sx.mt,g,0,y,m,g',0,y',m'⟩ U2 w2.1.size:=Hx▸aF.new _ _ _ _ _ _ _;obtain⟨x0,Hq⟩:∃x0,aA (iA Rq.ok w U2 B rb f n x0 U2.1.size w1.1.size w2.1.size ⟨0,Sx.mt,Sx.mt,a,0,x,d,a',0,x',d'⟩ ⟨1,Sx.mt,Sx.mt,g,0,y,m,g',0,y',m'⟩):=⟨_,aC (by
  have h1:=HZ.out;have h2:=G0.out;have h3:=H3.size;have h4:=Kp.out;have h5:=A2.lt;have G1:=aE H3 G3;have b2:=aE Hp G1;have U:=aE Gp b2;exact⟨Kt.bw (U.mono hB),⟨U.os,U.tape,U.output,U.size,λq hq _=>U.block q hq⟩,H1.bw G1 H1.lt,A2,⟨aT.mtC _ _ _ _,aT.mtC _ _ _ _⟩,⟨aT.mtC _ _ _ _,aT.mtC _ _ _ _⟩,Gx,Gy,oM,oM,oM,Ux _,⟨oM,oM,h4.2,oM,oM⟩,Gf.bw b2 Gf.lt,Gg.bw b2 Gg.lt⟩)⟩
 try rw[Hx]
 clear Hx G3 A2;have⟨L,hL⟩:=zE U2.1.size;have⟨ba,Gk⟩:=zE w1.1.size;have⟨bb,Gl⟩:=zE w2.1.size;rw[hL,Gk,Gl]at Hq;rw[Gk,Gl];clear hL Gk Gl H1 Hp H2 H3 Gp Gx Gy G0 Gf Gg;have Gc:=aC<|jW B rb f n _ U2 Hq.rd;have Gm:rk f n x0<256:=qA Hq.rd;have⟨kn,Ki⟩:=zE (rk f n x0);rw[Ki]at Gc Gm;clear Ki;go_wp2_with fail;refine Gc.mono ?_;rintro e w3⟨rfl,r3,g3⟩;have Gv:=aC<|Hq.grow g3 r3;clear r3 g3 Gc Hq;have⟨N,hN⟩:=zE (3+kn%10:Nat);have eN:(3:Int)+(kn:Int)%10=(N:Int):=oM;clear hN;go_wp2_with fail;go_loopw [9] (λi wr=>∃(j x:Nat) (R Q:Rq),j<=N/\i=Ud (j:Int)/\aA (iA Rq.ok w wr B rb f n x L ba bb R Q)) (λi _=>N-(intOf i).toNat);case atStart=>exact⟨0,_,_,_,UB _,rfl,Gv⟩
 case round=>
  clear Gv;obtain⟨j,xx,⟨id,S,D,a,c,x,d,a',c',x',d'⟩,⟨jd,T,E,g,k,y,m,g',k',y',m'⟩,hj,rfl,HI⟩:=hrel;go_upto_region 5 with fail;go_cut [37]from 26 to 37 (λb wx=>(∃t:Bool,b=Un t/\(t=true->j<N))/\aA (iA Rq.ok w wx B rb f n xx L ba bb ⟨id,S,D,a,c,x,d,a',c',x',d'⟩ ⟨jd,T,E,g,k,y,m,g',k',y',m'⟩));case first=>
   by_cases Hf:j<N
   .by_cases h3:j<3
    .have d3:decide ((j:Int)<3)=true:=oS;go_wp2_with fail;go_meet;exact⟨⟨true,rfl,λ_=>Hf⟩,HI⟩
    .have d3:decide ((j:Int)<3)=false:=oS;have d4:¬(j:Int)<3:=oM;have Gb:=aC<|MV B rb f n xx wr HI.rd;have⟨lf,Kj⟩:=zE (n-xx);rw[Kj]at Gb;clear Kj;go_wp2_with fail;refine Gb.mono ?_;rintro e w4⟨rfl,r4,g4⟩;have G:=aC<|HI.grow g4 r4;clear r4 g4 Gb;go_wp2_with fail;go_meet;exact⟨⟨_,rfl,λ_=>Hf⟩,G⟩
   .have d2:¬(j:Int)<(N:Int):=oM;go_wp2_with fail;go_meet;exact⟨⟨false,rfl,λh=>by cases h⟩,HI⟩
  case rest=>
  clear HI;obtain⟨⟨t,rfl,ht⟩,HI⟩:=hcut;cases t with
  |false=>
   have M:=aC<|HI.bw zI.drew;go_wp2_with fail;refine zR (S:=λu=>u.cell? (Ub ba)=Uq (Ud id)/\u.cell? (Ua ba 1)=Uq (Uf a S.l.length c)/\u.cell? (Ua ba 2)=Uq (Uf x S.n d)/\u.cell? (Ua ba 3)=Uq (Uf a' D.l.length c')/\u.cell? (Ua ba 4)=Uq (Uf x' D.n d')/\u.cell? (Ub bb)=Uq (Ud jd)/\u.cell? (Ua bb 1)=Uq (Uf g T.l.length k)/\u.cell? (Ua bb 2)=Uq (Uf y T.n m)/\u.cell? (Ua bb 3)=Uq (Uf g' E.l.length k')/\u.cell? (Ua bb 4)=Uq (Uf y' E.n m')) ⟨M.a.c0,M.a.c1,M.a.c2,M.a.c3,M.a.c4,M.b.c0,M.b.c1,M.b.c2,M.b.c3,M.b.c4⟩<|λqh=>?_;refine tY 0 86 ?_;have⟨z0,Ko⟩:=zE wc.drew;rw[Ko]at M qh⊢;clear Ko;have⟨Z1,Z2,e1,e2,⟨A1,C1,Y1⟩,⟨A2,C2⟩,HF⟩:=M.fin;dsimp only at e1 e2;have Gq:=aC e1;have Gr:=aC e2;clear e1 e2;have Kr:=aC HF;have⟨x0,I,J,C,F,xf⟩:=M.r1.p5;refine cZ 2 ?_;intro K z;go_simp;rw[<-Gq.out];refine z.out _ _ ⟨A1.c0,A1.c1,A1.c2,A1.c3,A1.c4,C1.c0,C1.c1,C1.c2,C1.c3,C1.c4⟩<|λqh=>?_;clear z K;try simp only[zP]
   clear x0 I J C F xf;have⟨x0,I,J,C,F,xf⟩:=Y1.p5;refine cZ 3 ?_;intro K z;go_simp;rw[<-Gr.out];refine z.out _ _ ⟨A2.c0,A2.c1,A2.c2,A2.c3,A2.c4,C2.c0,C2.c1,C2.c2,C2.c3,C2.c4⟩<|λqh=>?_;clear z K;try simp only[zP]
   refine zD ?_;clear x0 I J C F xf qh A1 C1 Y1 A2 C2 HF Gq Gr;go_wp2_with fail;have⟨u1,u2,u3,u4,u5,u6⟩:=Kr.out;refine zF (v:=Ul #[Uo #[Ud id,Uf a S.l.length c,Uf x S.n d,Uf a' D.l.length c',Uf x' D.n d'],Uo #[Ud jd,Uf g T.l.length k,Uf y T.n m,Uf g' E.l.length k',Uf y' E.n m']]) (by simp[results,results40,go_sem,u1.c0,u1.c1,u1.c2,u1.c3,u1.c4,u2.c0,u2.c1,u2.c2,u2.c3,u2.c4]) ?_;rw[<-HP.out];exact⟨_,_,_,rfl,⟨u3,HI.oa⟩,⟨u4,HI.ob⟩,u5 hB,u6⟩
  |true=>
   have Hf:=ht rfl;have Gd:=aC<|jW B rb f n _ wc HI.rd;have K0:rk f n xx<256:=qA HI.rd;have⟨kk,Kh⟩:=zE (rk f n xx);rw[Kh]at Gd K0;clear Kh;go_wp2_with fail;refine Gd.mono ?_;rintro e w4⟨rfl,r4,g4⟩;have G:=aC<|HI.grow g4 r4;clear r4 g4 Gd HI ht;have⟨r8,K4⟩:=zE (kk%8:Nat);have e8:(kk:Int)%8=(r8:Int):=oM;clear K4;by_cases h3:r8<3
   .have d3:decide ((r8:Int)<3)=true:=oS;have M:=aC<|G.bw zI.drew;go_wp2_with fail;refine zR (S:=λ_=>True) trivial<|λqh=>?_;refine tZ 1 47 ?_;refine fU (i:=0) (j:=2) (d:=Uq 46) (d':=Uq 48) oK oK oK ?_ ?_;have⟨x0,I,J,C,F⟩:=M.a.q5;all_goals intro o ho Gn K z;simp only[eB,dZ,dY,eU]at ho;subst ho
    focus
     go_simp;refine z.out _ _ trivial<|λqh=>?_;clear z K;try simp only[zP]
     clear x0 I J C F;refine cZ 2 ?_;intro K z
    all_goals go_simp;refine(Nq B rb f n _ _ M.sz.1 M.rd).mono ?_;rintro e w5⟨KK,pa,pc,p,v,x5,rfl,Gj,Go,pt,r5,g5⟩;have O:=aC<|M.grow g5 r5;refine z.out _ _ trivial<|λqh=>?_;clear z K;try simp only[zP]
    .exact xJ
    .have⟨x0,I,J,C,F⟩:=O.a.q5;refine cZ 0 ?_;intro K z;go_simp;refine z.out _ _ trivial<|λqh=>?_;clear z K;try simp only[zP]
     clear x0 I J C F;exact xJ
   .have d3:decide ((r8:Int)<3)=false:=oS;by_cases h6:r8<6
    .have d6:decide ((r8:Int)<6)=true:=oS;have M:=aC<|G.bw zI.drew;go_wp2_with fail;refine zR (S:=λ_=>True) trivial<|λqh=>?_;refine tZ 1 57 ?_;refine fU (i:=0) (j:=2) (d:=Uq 56) (d':=Uq 58) oK oK oK ?_ ?_;have⟨x0,I,J,C,F⟩:=M.b.q5;all_goals intro o ho Gn K z;simp only[eB,dZ,dY,eU]at ho;subst ho
     focus
      go_simp;refine z.out _ _ trivial<|λqh=>?_;clear z K;try simp only[zP]
      clear x0 I J C F;refine cZ 2 ?_;intro K z
     all_goals go_simp;refine(Nq B rb f n _ _ M.sz.1 M.rd).mono ?_;rintro e w5⟨KK,pa,pc,p,v,x5,rfl,Gj,Go,pt,r5,g5⟩;have O:=aC<|M.grow g5 r5;refine z.out _ _ trivial<|λqh=>?_;clear z K;try simp only[zP]
     .exact xK
     .have⟨x0,I,J,C,F⟩:=O.b.q5;refine cZ 0 ?_;intro K z;go_simp;refine z.out _ _ trivial<|λqh=>?_;clear z K;try simp only[zP]
      clear x0 I J C F;exact xK
    .have d6:decide ((r8:Int)<6)=false:=oS;have Gt:=aC<|TC ⟨id,S,D,a,c,x,d,a',c',x',d'⟩ w4 (G.na.at G.oa) G.oa;have⟨p0,p1,p2,p3,p4⟩:=G.a.q5;go_wp2_with fail;refine Gt.mono ?_;rintro e w5⟨⟨zd,X,Z,ya,yc,yx,yd,Hg,Hh,Hj,Hi⟩,K,v,Bo,rfl,⟨Ky,G7,Km,b5⟩,Gi⟩;simp only[Rq.vs];have Ga:=aC<|G.bw b5;have Hk:=aC b5;have Gw:=aC<|G7.move (lo':=L) (w':=w5) G.sz.2 zL (λ_ _ _=>rfl);have Gs:=aC<|Gi.low G.sz.2;have Gz:=aC Km;obtain⟨va,vn,vc,rfl⟩:∃va vn vc,v=Uf va vn vc:=by
      rcases Gi with⟨_,_,e⟩|⟨_,_,Y,va,vc,_,e,_⟩
      .exact⟨_,_,_,e⟩
      .exact⟨_,_,_,e⟩
     clear p0 p1 p2 p3 p4 Gt G7 Km Gi Ky b5;go_upto_region 13 with fail;have⟨U5,Ht⟩:=zE ((w5.alloc (Uj #[Ud zd,Uf ya X.l.length yc,Uf yx X.n yd,Uf Hg Z.l.length Hh,Uf Hj Z.n Hi] 30)).alloc (Uj #[Ud K,Uf va vn vc] 41));have b5:Bl w5 U5:=Ht▸aU _ _ _;have⟨H,Hy⟩:=zE w5.1.size;have A:=aC (Ga.bw b5);have Ho:=aC (aE Hk b5);have Hs:aA (w4.1.size<=H):=aC (Hy▸Hk.size);have Ha:aA (BQ U5 L H ⟨zd,X,Z,ya,yc,yx,yd,Hg,Hh,Hj,Hi⟩ K (Uf va vn vc) Bo):=aC (by
      rw[<-Hy];refine⟨?_,Gw.move zL b5.size (λq _ h2=>b5.block q h2),Gz,?_,Gs.stay (λq _ h2=>b5.block q h2),Ga.lw⟩
      .rw[<-Ht];exact(aF.new _ _ _ _ _ _ _).up _
      .rw[<-Ht];simpa using aD.made (w5.alloc (Uj #[Ud zd,Uf ya X.l.length yc,Uf yx X.n yd,Uf Hg Z.l.length Hh,Uf Hj Z.n Hi] 30)) (Ud K) (Uf va vn vc) 41)
     try rw[Ht]
     try rw[Hy]
     clear Ht b5 Hy Ga Gw Gs Gz Hk;go_upto_if 70 with fail;go_cut [13]from 38 to 76 (λokv wx=>∃(Bo:Bool) (R':Rq) (K:Int) (va:Option Us) (vn vc:Nat),okv=Un Bo/\aA (iA Rq.ok w wx B rb f n (rx n xx) L ba bb ⟨id,S,D,a,c,x,d,a',c',x',d'⟩ ⟨jd,T,E,g,k,y,m,g',k',y',m'⟩)/\aA (BQ wx L H R' K (Uf va vn vc) Bo));case first=>
      by_cases h7:r8=7
      .have d7:((r8:Int)==7)=true:=oS;clear h7;have Gh:=aC<|SG id a x a' x' c d c' d' S D U5 (A.na.at A.oa).c.1 (A.na.at A.oa).c.2 (A.na.at A.oa).c'.1 (A.na.at A.oa).c'.2 (A.na.at A.oa).m.1 (A.na.at A.oa).m'.1 (A.na.at A.oa).s.lf (A.na.at A.oa).s.rn (A.na.at A.oa).t.lf (A.na.at A.oa).t.rn;rw[show xU id S D=(2,S.b,true)from by unfold xU;rw[if_pos A.oa,(iW (kD A.oa).2.1).2.2]]at Gh;have⟨p0,p1,p2,p3,p4⟩:=A.a.q5;go_wp2_with fail;refine Gh.mono ?_;rintro e w7⟨K7,v7,zs,B7,rfl,hz,ho,b7⟩;injection hz with hz1 hz;injection hz with hz2 hz3;subst hz1 hz2 hz3;obtain⟨Hm,Hn,rfl,_⟩:=ho.any;have Hr:=aC<|A.bw b7;have H4:=aC<|aE Ho b7;have F7:=Ha.fr.bw b7 Ha.fr.lt;have N7:=Ha.x.bw b7 Ha.x.lt;have HL:=aC Ha.bl;have Ku:aA (U5.1.size<=w7.1.size/\L<=U5.1.size):=aC ⟨b7.size,A.lw⟩;have Ge:=aC ho;have⟨f0,f1,ff⟩:=F7.p2;have Kq:=aC F7;have Hv:=aC N7;clear p0 p1 p2 p3 p4 ho b7 F7 N7 Gh;have⟨p0,p1,p2,p3,p4⟩:=Hr.a.q5;have⟨q0,q1,q2,q3,q4,qf⟩:=Hv.p5;have Je:¬ba=H+1:=oJ HL Hr.la;have Jf:¬H+1=ba:=oM;go_wp2_with fail;go_meet;have z1:=HL.out;have z2:=Hs.out;have z3:=Ku.out;have z4:=Ha.fr.lt;have bT:Bl w4 ((w7.setCell (Ua (H+1) 0) (Ud 2)).setCell (Ua (H+1) 1) (Uf Hm S.b.length Hn)):=(H4.setCell (p:=(Ua (H+1) 0)) oQ _).setCell (p:=(Ua (H+1) 1)) oQ _;have qT:∀q,q≠H+1->((w7.setCell (Ua (H+1) 0) (Ud 2)).setCell (Ua (H+1) 1) (Uf Hm S.b.length Hn)).1[q]? =w7.1[q]? :=λq hq=>by rw[zH _ _ _ _ hq,zH _ _ _ _ hq]
       have zT:((w7.setCell (Ua (H+1) 0) (Ud 2)).setCell (Ua (H+1) 1) (Uf Hm S.b.length Hn)).1.size=w7.1.size:=(by simp[Vr]);have FT:=Kq.set (Ud 2)<|Uf Hm S.b.length Hn;have NT:=Hv.sm (qT H oM) oM;have⟨V,hV⟩:=zE ((w7.setCell (Ua (H+1) 0) (Ud 2)).setCell (Ua (H+1) 1) (Uf Hm S.b.length Hn));rw[hV]at bT zT FT NT⊢;simp only[hV]at qT;clear hV;have bZ:=nW (r:=H) bT oM (Ud id) (Uf a S.l.length c) (Uf x S.n d) (Uf a' D.l.length c')<|Uf x' D.n d';have zZ:=B3 V H (Ud id) (Uf a S.l.length c) (Uf x S.n d) (Uf a' D.l.length c')<|Uf x' D.n d';exact⟨true,⟨id,S,D,a,c,x,d,a',c',x',d'⟩,2,Hm,S.b.length,Hn,rfl,aC (G.bw bZ),aC ⟨NT.set5 _ _ _ _ _,G.na.move zL bZ.size (λq _ h2=>bZ.block q h2),G.oa,FT.sm (mT V oM _ _ _ _ _) (JP zZ.symm),.inr ⟨rfl,.inl rfl,S,Hm,Hn,(kD G.oa).2.1,rfl,(Ge.stay (λq h1 h2=>(mT V oM _ _ _ _ _).trans (qT q oM))).weak oM⟩,z1⟩⟩
      .have d7:((r8:Int)==7)=false:=oS;go_wp2_with fail;go_meet;exact⟨Bo,_,K,va,vn,vc,rfl,A,Ha⟩
     case rest=>
     clear A Ha G Ho Hs;obtain⟨Bo,⟨zd,X,Z,ya,yc,yx,yd,Hg,Hh,Hj,Hi⟩,K,va,vn,vc,rfl,A,Ha⟩:=hcut;cases Bo with
     |false=>
      clear Ha;go_wp2_with fail;go_roundw;case rel=>exact⟨j+1,_,_,_,Hf,oN,A⟩
      case measure=>exact oE
     |true=>
      obtain⟨h,_⟩|⟨_,G6,Y,Jg,Jh,hY,hv,ho⟩:=Ha.fq
      .cases h
      injection hv with e1 e2 e3;subst e1 e2 e3;have⟨Hu,Hz,Kb,Kc⟩:=Xm ho;have Gu:=aC<|WM ⟨jd,T,E,g,k,y,m,g',k',y',m'⟩ K va vc Y wc (A.nb.at A.ob) A.ob G6 hY Kc (V1 hY) Hu Kb;have⟨p0,p1,p2,p3,p4⟩:=A.b.q5;have⟨f0,f1⟩:=Ha.fr.q2;clear Hu Hz Kb Kc ho hY G6;go_wp2_with fail;refine Gu.mono ?_;rintro e w7⟨⟨td,X7,Z7,ta,tc,tx,K9,K5,K6,Ja,K8⟩,v7,C7,rfl,Kz,G8,Kn,b7⟩;simp only[Rq.vs];have Hr:=aC<|A.bw b7;have Hv:=aC<|G8.move (lo':=L) (w':=w7) A.lw zL (λ_ _ _=>rfl);have Ge:=aC Kn;have X8:=Ha.x.bw b7 Ha.x.lt;have K1:¬H=bb/\¬bb=H:=oJ Ha.bl A.lb;have⟨K2,K3⟩:=K1;have H8:=aC (Hr.swap.setA Hv Ge).swap;have Ks:=aC<|Rq.Nw.five (lo':=L) (r:=bb) (Ha.nx.move (w':=w7) zL b7.size (λq _ h2=>b7.block q h2)) A.lb.2 zL (Ud td) (Uf ta X7.l.length tc) (Uf tx X7.n K9) (Uf K5 Z7.l.length K6) (Uf Ja Z7.n K8);have H9:=aC<|H8.setA Ks Ha.ox;clear p0 p1 p2 p3 p4 f0 f1 b7 G8 Kn Kz Gu;have⟨p0,p1,p2,p3,p4,pf⟩:=Hr.b.p5;have⟨q0,q1,q2,q3,q4⟩:=X8.q5;have⟨r0,r1,r2,r3,r4,rf⟩:=H8.a.p5;dsimp only at r0 r1 r2 r3 r4 rf;clear X8;go_wp2_with fail;go_roundw;case rel=>exact⟨j+1,_,_,_,Hf,oN,H9⟩
      case measure=>exact oE
def bD(w:Ur)(B size:Nat)(v:aB)(n:Nat)(xs:List aB):Prop:=
 ∃g off c,v=Uf (Uq (Ua g off)) n c/\B<=g/\g<w.1.size/\n<=c/\c<=maxLen/\xs.length=n*size/\(∀j,j<n*size->w.cell? (Ua g (off+j))=xs[j]?)/\(∀j,j<c*size->(w.cell? (Ua g (off+j))).isSome=true)/\(∀j,j<c*size->w.frozen? (Ua g (off+j))=false)
theorem TE{e:TypeId}{size:Nat}(h:w.ownsRow B e size v n xs)(hv:v≠Ue):bD w B size v n xs:=by
 rcases h.2 with⟨e,_⟩|⟨g,cap,k,e,m,u,y,q,r,z⟩
 .exact absurd e hv
 .subst e;refine⟨g,0,cap,rfl,m,(h.lt g rfl).2,y,q,h.1,λj hj=>?_,λj hj=>?_,λj hj=>?_⟩
  .rw[UA];exact h.cellAt j hj
  .rw[UA];have:j<k.size:=(by rw[r];exact hj);simp[Vx,u,this]
  .rw[UA];exact h.frozenAt j
theorem bD.bw{size:Nat}(h:bD w B size v n xs)(hb:Below C w w')(hC:w.1.size<=C):bD w' B size v n xs:=by
 have⟨g,off,c,e,y,m,o,z,t,q,r,u⟩:=h;have k:g<C:=Ut m hC;exact⟨g,off,c,e,y,Ut m hb.size,o,z,t,λj hj=>(hb.cell (p:=(Ua g (off+j))) k).trans (q j hj),λj hj=>by rw[hb.cell (p:=(Ua g (off+j))) k];exact r j hj,λj hj=>(hb.frozen (p:=(Ua g (off+j))) k).trans (u j hj)⟩
theorem bD.gr{size:Nat}(h:bD w B size v n xs)(hg:w.grownBy w' row)(hne:v.ownBlock≠row):bD w' B size v n xs:=by
 obtain⟨g,off,c,rfl,u,k,t,y,z,m,q,r⟩:=h;have e:w'.1[g]? =w.1[g]? :=hg.block g k hne;exact⟨g,off,c,rfl,u,Ut k hg.size,t,y,z,λj hj=>(Vy e).trans (m j hj),λj hj=>by rw[Vy (a:=(Ua g (off+j))) e];exact q j hj,λj hj=>(Vz (a:=(Ua g (off+j))) e).trans (r j hj)⟩
theorem bD.weak{B' size:Nat}(h:bD w B size v n xs)(hB:B'<=B):bD w B' size v n xs:=by
 have⟨g,off,c,e,j,r⟩:=h;exact⟨g,off,c,e,Uz hB j,r⟩
theorem bD.lt{size:Nat}(h:bD w B size v n xs):∃g,v.ownBlock=Uq g/\B<=g/\g<w.1.size:=by
 obtain⟨g,off,c,rfl,j,k,_⟩:=h;exact⟨g,rfl,j,k⟩
theorem Ov(b:Nat):∀(vs:List aB) (o:Nat) (w:Ur),w.grownBy (w.setCells b o vs) (Uq b)
 |[],o,w=>⟨rfl,rfl,rfl,Ux _,λ_ _ _=>rfl⟩
 |v::r,o,w=>by
  have j:=Ov b r (o+1)<|w.setCell (Ua b o) v;have m:(w.setCell (Ua b o) v).1.size=w.1.size:=by simp[Vr]
  exact⟨j.os,j.tape,j.output,by have:=j.size;rw[m]at this;exact this,λk hk hne=>(j.block k (by rw[m];exact hk) hne).trans (Below.heap_setCell _ _ _ _ (λe=>hne (by rw[e])))⟩
theorem WQ(w:Ur)(B:Nat)(t ty e:TypeId)(i:TypeInfo)(z:aB)(size bytes:Nat)(ht:P.underlying t=Uq (.slice e))(hi:P.info? e=Uq i)(hz:i.zero=Uq z)
  (hsize:i.size=size) (hby:i.bytes=bytes) (hzs:z.cells.size=size) (v:aB) (n:Nat) (xs:List aB) (hown:bD w B size v n xs)
  (a:Us) (m c:Nat) (news:List aB) (hl:news.length=m*size) (hnews:∀j u,news[j]? =Uq u->w.cell? (a.add j)=Uq u) (h1:∀u∈news,u.oneCell'=true)
  (h63:n+m<=maxLen) (hbytes:(n+m)*bytes<=140737488355328) (hbase:B<=w.1.size):
  ∃v' w',(Builtin.append_ #[t,t] ty #[v,Uf (Uq a) m c]).run P w=.ok v' w'/\bD w' B size v' (n+m) (xs++news)/\w.grownBy w' v.ownBlock/\(v'.ownBlock=v.ownBlock\/v'.ownBlock=Uq w.1.size):=by
 subst hsize;subst hby;obtain⟨g,off,cap,rfl,G,J,D,I,o,Q,U,V⟩:=hown;have O:Src P i.size t (Uf (Uq a) m c) m news w:=Src.ofSlice w ht a m c news hl hnews h1;have r:(xs++news).length=(n+m)*i.size:=by rw[UM,o,hl,JR]
 have F:(n+m)*i.size=n*i.size+m*i.size:=JR _ _ _;by_cases b:n+m<=cap
 .have N:(n+m)*i.size<=cap*i.size:=UH _ b;have Y:∀j,j<news.length->(w.cell? (Ua g (off+n*i.size+j))).isSome=true:=λj q=>by rw[UF];exact U _ oM
  have y:=run_append_room_src (P:=P) (w:=w) t t ty e i ht hi g off n cap (Uf (Uq a) m c) m news O b Y (λj q=>by rw[UF];exact V _ oM);have E:=World.cell?_setCells_in g news (off+n*i.size) w Y;refine⟨_,_,y,⟨g,off,cap,rfl,G,?_,b,I,r,λj q=>?_,λj q=>?_,λj q=>?_⟩,Ov g news _ w,.inl rfl⟩
  .exact Ut J (Ov g news _ w).size
  .by_cases M:j<n*i.size
   .rw[JW g news _ w _ (λ_ _=> .inl oQ),Q j M,List.getElem?_append_left oM]
   .have:=E (j-n*i.size) oM;rw[show off+n*i.size+(j-n*i.size)=off+j by omega]at this;rw[this,List.getElem?_append_right oM,o,List.getElem?_eq_getElem oM]
  .by_cases M:n*i.size<=j/\j<n*i.size+news.length
   .have:=E (j-n*i.size) oM;rw[show off+n*i.size+(j-n*i.size)=off+j by omega]at this;rw[this];rfl
   .rw[JW g news _ w _ (λ_ _=>oQ)];exact U j q
  .rw[World.frozen?_setCells];exact V j q
 .have K:(Builtin.firstCells i.size n (Uf (Uq (Ua g off)) n cap)).run P w.drew=.ok xs.toArray w.drew:=run_firstCells_some (P:=P) w.drew i.size n (Ua g off) n cap xs o (λj u hu=>by
   have q:j<xs.length:=(List.getElem?_eq_some_iff.1 hu).1;have:=Q j oM;rw[hu]at this;have Z:((Ua g off):Us).add j=(Ua g (off+j)):=by
    by_cases p:j=0
    .subst p;simp[Addr.add]
    .simp[Addr.add,p]
   rw[Z];exact this)
  have y:=run_append_grow_src (P:=P) (w:=w) t t ty e i z ht hi hz (Uq (Ua g off)) n cap xs K (Uf (Uq a) m c) m news O oM (by unfold maxLen at h63;omega)<|growslice_fits oM hbytes;have h:=grownCap_ge w (n+m) cap e;have A:grownCap w (n+m) cap e<=maxLen:=grownCap_le_maxLen w (n+m) cap e h63;generalize H:grownCap w (n+m) cap e=C;rw[H]at y h A;have L:((xs++news).toArray++Builtin.zeroCells z.cells (C-(n+m))).size=C*i.size:=by
   simp only[Array.size_append,YA,size_zeroCells,hzs];rw[r,<-JR];congr 1;omega
  have s:∀j,(w.drew.alloc (.cells ((xs++news).toArray++Builtin.zeroCells z.cells (C-(n+m))) e)).cell? (Ua w.1.size j)=((xs++news).toArray++Builtin.zeroCells z.cells (C-(n+m)))[j]? :=λj=>by
   have:=heap_alloc_new w.drew (.cells ((xs++news).toArray++Builtin.zeroCells z.cells (C-(n+m))) e);rw[show(w.drew).1.size=w.1.size from rfl]at this;unfold Vx;dsimp only;rw[this];rfl
  refine⟨_,_,y,⟨w.1.size,0,C,rfl,hbase,oP,h,A,r,λj q=>?_,λj q=>?_,λj q=>?_⟩,⟨rfl,rfl,rfl,oP,λk hk _=>heap_alloc_old w.drew _ hk⟩,.inr rfl⟩
  .rw[UA,s,Array.getElem?_append_left (by rw[YA,r];exact q)];simp
  .rw[UA,s,Array.getElem?_eq_getElem (by rw[L];exact q)];rfl
  .rw[UA];have:=heap_alloc_new w.drew (.cells ((xs++news).toArray++Builtin.zeroCells z.cells (C-(n+m))) e);rw[show(w.drew).1.size=w.1.size from rfl]at this;unfold World.frozen?;dsimp only;rw[this];show(decide (0<=j)&&decide (j<0))=false;simp
theorem Z9{o:Oper}{a:Act}{K:Act->Ur->Prop}{Q:Exit->Act->Ur->Prop}(s x:Operand)(t:TypeId)
  (ho:o.op=.call {callee:=.builtin .append,args:=#[s,x],argTypes:=#[t,t]})
  (base:Nat) (e:TypeId) (i:TypeInfo) (z:aB) (size bytes:Nat) (ht:P.underlying t=Uq (.slice e)) (hi:P.info? e=Uq i) (hz:i.zero=Uq z)
  (hsize:i.size=size) (hby:i.bytes=bytes) (hzs:z.cells.size=size)
  (v:aB) (n:Nat) (xs:List aB) (hs:a.eval s=v) (hown:bD w base size v n xs)
  (ad:Us) (m c:Nat) (news:List aB) (hx:a.eval x=Uf (Uq ad) m c) (hl:news.length=m*size) (hnews:∀j u,news[j]? =Uq u->w.cell? (ad.add j)=Uq u) (h1:∀u∈news,u.oneCell'=true)
  (h63:n+m<=maxLen) (hbytes:(n+m)*bytes<=140737488355328) (hbase:base<=w.1.size)
  (h:∀v' w',bD w' base size v' (n+m) (xs++news)->w.grownBy w' v.ownBlock->(v'.ownBlock=v.ownBlock\/v'.ownBlock=Uq w.1.size)->K (a.put o.dst v') w'):o.wp P a w K Q:=by
 have⟨v',w',y,k,q,r⟩:=WQ (P:=P) w base t o.type e i z size bytes ht hi hz hsize hby hzs v n xs hown ad m c news hl hnews h1 h63 hbytes hbase;unfold Oper.wp execOp;simp only[ho,resolve,invoke,builtin,Sem.run_bind,Sem.run_pure,Result.andThen_ok,KB,UQ,VN,hs,hx,y];exact h v' w' k q r
theorem BJ{ops:Array Oper}{rest:List Oper}{o:Oper}{a:Act}{Q:Exit->Act->Ur->Prop}(hgd:o.guard=Up)(s x:Operand)(t:TypeId)
  (ho:o.op=.call {callee:=.builtin .append,args:=#[s,x],argTypes:=#[t,t]})
  (base:Nat) (e:TypeId) (i:TypeInfo) (z:aB) (size bytes:Nat) (ht:P.underlying t=Uq (.slice e)) (hi:P.info? e=Uq i) (hz:i.zero=Uq z)
  (hsize:i.size=size) (hby:i.bytes=bytes) (hzs:z.cells.size=size)
  (v:aB) (n:Nat) (xs:List aB) (hs:a.eval s=v) (hown:bD w base size v n xs)
  (ad:Us) (m c:Nat) (news:List aB) (hx:a.eval x=Uf (Uq ad) m c) (hl:news.length=m*size) (hnews:∀j u,news[j]? =Uq u->w.cell? (ad.add j)=Uq u) (h1:∀u∈news,u.oneCell'=true)
  (h63:n+m<=maxLen) (hbytes:(n+m)*bytes<=140737488355328) (hbase:base<=w.1.size)
  (h:∀v' w',bD w' base size v' (n+m) (xs++news)->w.grownBy w' v.ownBlock->(v'.ownBlock=v.ownBlock\/v'.ownBlock=Uq w.1.size)->wpList P ops Q rest (a.put o.dst v') w'):wpList P ops Q (o::rest) a w:=
 wpList_plain hgd λ_ hK=>Z9 s x t ho base e i z size bytes ht hi hz hsize hby hzs v n xs hs hown ad m c news hx hl hnews h1 h63 hbytes hbase λv' w' h2 h3 h4=>hK _ _ (h v' w' h2 h3 h4)
open Go.Sort
def dA(w:Ur)(B:Nat)(v:aB)(l:List Rn):Prop:=bD w B 3 v l.length (bC l)
theorem Fw:∀(l:List Rn) (i:Nat),i<l.length->(bC l)[i*3]? =Uq (Ud (gR l i).1)/\(bC l)[i*3+1]? =Uq (Ud (gR l i).2.1)/\(bC l)[i*3+2]? =Uq (Ud (gR l i).2.2)
 |[],i,hi=>by simp at hi
 |a::l,0,hi=>by simp[bC,gR]
 |a::l,i+1,hi=>by
  have:=Fw l i (oU hi);have e:bC (a::l)=Ud a.1::Ud a.2.1::Ud a.2.2::bC l:=by simp[bC]
  rw[e,show(i+1)*3=i*3+1+1+1 from by omega];simpa[gR]using this
theorem dA.fs(h:dA w B v l):∃g off c,v=Uf (Uq (Ua g off)) l.length c/\FS w (Uq (Ua g off)) l/\l.length<=c/\c<=9223372036854775807/\B<=g/\g<w.1.size:=by
 have⟨g,off,c,e,m,k,r,q,b,j,t,o⟩:=h;refine⟨g,off,c,e,.inr ⟨g,off,rfl,k,λi hi=>?_⟩,r,by unfold maxLen at q;omega,m,k⟩;have⟨u,y,z⟩:=Fw l i hi;rw[j _ oM,UF,j _ oM,UF,j _ oM];exact⟨u,y,z⟩
def Ao(l:List Rn):Prop:=∀p∈l,0<=p.1/\p.1<=7/\0<=p.2.1/\p.2.1<=1000000000/\0<=p.2.2/\p.2.2<=1000000000
theorem dI.br(h:dI l):Ao l:=λp hp=>by
 have:=h.2 p hp;unfold dG at this;omega
theorem Ih(w:Ur)(a b c:aB)(t:TypeId):∀j u,[a,b,c][j]? =Uq u->(w.alloc (Uj #[a,b,c] t)).cell? (((Ub w.1.size):Us).add j)=Uq u:=by
 exact vK
theorem bD.put1{size:Nat}(h:bD w B size (Uf (Uq (Ua g off)) n c) n xs)(j:Nat)(hj:j<n*size)(a:aB):bD (w.setCell (Ua g (off+j)) a) B size (Uf (Uq (Ua g off)) n c) n (xs.set j a):=by
 have⟨s,E,c',e,z,i,q,o,b,v,m,y⟩:=h;injection e with e1 _ e3;injection e1 with e1;injection e1 with e1 e2 _;subst e1 e2 e3;have A:n*size<=c*size:=UH _ q;have p:∃u,w.cell? (Ua g (off+j))=Uq u:=Option.isSome_iff_exists.1<|m j oM;have⟨u,r⟩:=p;refine⟨g,off,c,rfl,z,by simp[Vr];exact i,q,o,by simp[b],λt ht=>?_,λt ht=>?_,λt ht=>?_⟩
 .by_cases k:t=j
  .subst k;rw[Vs _ _ _ r,List.getElem?_set_self oM]
  .rw[Vt _ _ _ _ (by intro e;injection e with _ e;omega),KC (λe=>k e.symm)];exact v t ht
 .by_cases k:t=j
  .subst k;rw[Vs _ _ _ r];rfl
  .rw[Vt _ _ _ _ (by intro e;injection e with _ e;omega)];exact m t ht
 .rw[Vq];exact y t ht
theorem Zz:∀(l:List Rn) (i:Nat) (a b c:Int),bC (l.set i (a,b,c))=(((bC l).set (i*3) (Ud a)).set (i*3+1) (Ud b)).set (i*3+2) (Ud c)
 |[],i,a,b,c=>by simp[bC]
 |p::l,0,a,b,c=>by simp[bC]
 |p::l,i+1,a,b,c=>by
  have e:∀q:Rn,∀m:List Rn,bC (q::m)=Ud q.1::Ud q.2.1::Ud q.2.2::bC m:=λq m=>by simp[bC]
  rw[KD,e,e,Zz l i a b c,show(i+1)*3=i*3+1+1+1 from by omega];simp[KD]
theorem dA.put(h:dA w B (Uf (Uq (Ua g off)) l.length c) l)(i:Nat)(hi:i<l.length)(a b d:Int):
  dA (((w.setCell (Ua g (off+i*3)) (Ud a)).setCell (Ua g (off+i*3+1)) (Ud b)).setCell (Ua g (off+i*3+2)) (Ud d)) B (Uf (Uq (Ua g off)) l.length c) (l.set i (a,b,d)):=by
 have j:=bD.put1 h (i*3) oM<|Ud a;have k:=bD.put1 j (i*3+1) oM<|Ud b;have m:=bD.put1 k (i*3+2) oM<|Ud d;unfold dA;rw[KE,Zz];exact m
structure O7(w w':Ur)(C rb:Nat):Prop where
 os:w'.os=w.os
 tape:w'.tape=w.tape
 output:w'.output=w.output
 size:w.1.size<=w'.1.size
 block:∀k,k<C->k≠rb->w'.1[k]? =w.1[k]?
def pC(l:List Rn):Prop:=∀p∈l, -100<=p.1/\p.1<=100/\-100<=p.2.1/\p.2.1<=2000000000/\-100<=p.2.2/\p.2.2<=2000000000
theorem Ao.bs(h:Ao l):pC l:=λp hp=>by have:=h p hp;omega
theorem pC.set(h:pC l)(i:Nat)(a b c:Int)(h0: -100<=a/\a<=100/\-100<=b/\b<=2000000000/\-100<=c/\c<=2000000000):pC (l.set i (a,b,c)):=λp j=>by
 rcases List.mem_or_eq_of_mem_set j with j|j
 .exact h p j
 .subst j;exact h0
theorem pC.snoc(h:pC l)(a b c:Int)(h0: -100<=a/\a<=100/\-100<=b/\b<=2000000000/\-100<=c/\c<=2000000000):pC (l++[(a,b,c)]):=λp j=>by
 rcases List.mem_append.1 j with j|j
 .exact h p j
 .simp at j;subst j;exact h0
theorem dA.lit1(w:Ur)(B:Nat)(hB:B<=w.1.size)(a b c:Int):dA (w.alloc (Uj #[Ud a,Ud b,Ud c] 103)) B (Uf (Uc w.1.size) 1 1) [(a,b,c)]:=by
 refine⟨w.1.size,0,1,rfl,hB,oP,Ux _,oL,rfl,λj hj=>?_,λj hj=>?_,λj hj=>?_⟩
 .have k:j<3:=oU hj;rw[UA];match j,k with
  |0,_=>simp[bC]
  |1,_=>simp[bC]
  |2,_=>simp[bC]
 .have k:j<3:=oU hj;rw[UA];match j,k with
  |0,_=>simp
  |1,_=>simp
  |2,_=>simp
 .simp
theorem dA.at(h:dA w B (Uf (Uq (Ua g off)) n c) l)(i:Nat)(hi:i<l.length):
  (w.cell? (Ua g (off+i*3))=Uq (Ud (gR l i).1)/\w.cell? (Ua g (off+i*3+1))=Uq (Ud (gR l i).2.1)/\w.cell? (Ua g (off+i*3+2))=Uq (Ud (gR l i).2.2))/\w.frozen? (Ua g (off+i*3))=false/\w.frozen? (Ua g (off+i*3+1))=false/\w.frozen? (Ua g (off+i*3+2))=false:=by
 have⟨v,s,c',e,z,b,m,t,p,j,y,k⟩:=h;injection e with e1 _ e3;injection e1 with e1;injection e1 with e1 e2 _;subst e1 e2 e3;have⟨q,r,u⟩:=Fw l i hi;refine⟨⟨(j _ oM).trans q,?_,?_⟩,k _ oM,?_,?_⟩
 .rw[UF];exact(j _ oM).trans r
 .rw[UF];exact(j _ oM).trans u
 .rw[UF];exact k _ oM
 .rw[UF];exact k _ oM
theorem zX(h:dA w1 C (Uf (Uq (Ua g off)) l.length c) l)(hi:ii<l.length)(m1:w1.cell? (Ub b4)=Uq Ue)(hg:g≠b4)(hC:C<=b4)(hz:b4<w1.1.size)(a b d:Int)(o:Obj):
  dA (((((w1.setCell (Ua g (off+ii*3)) (Ud a)).setCell (Ua g (off+ii*3+1)) (Ud b)).setCell (Ua g (off+ii*3+2)) (Ud d)).setCell (Ub b4) (Uf (Uq (Ua g off)) l.length c)).alloc o) C (Uf (Uq (Ua g off)) l.length c) (l.set ii (a,b,d))/\
  Below C w1 (((((w1.setCell (Ua g (off+ii*3)) (Ud a)).setCell (Ua g (off+ii*3+1)) (Ud b)).setCell (Ua g (off+ii*3+2)) (Ud d)).setCell (Ub b4) (Uf (Uq (Ua g off)) l.length c)).alloc o)/\
  (((((w1.setCell (Ua g (off+ii*3)) (Ud a)).setCell (Ua g (off+ii*3+1)) (Ud b)).setCell (Ua g (off+ii*3+2)) (Ud d)).setCell (Ub b4) (Uf (Uq (Ua g off)) l.length c)).alloc o).cell? (Ub b4)=Uq (Uf (Uq (Ua g off)) l.length c):=by
 have⟨s,t,m,_⟩:=bD.lt h;have i:g=s:=by simpa[Value.ownBlock]using t
 subst i;have y:=h.put ii hi a b d;have⟨W,j⟩:=zE (((w1.setCell (Ua g (off+ii*3)) (Ud a)).setCell (Ua g (off+ii*3+1)) (Ud b)).setCell (Ua g (off+ii*3+2)) (Ud d));have z:Below C w1 W:=by rw[<-j];exact((zI.setCell (p:=(Ua g (off+ii*3))) m _).setCell (p:=(Ua g (off+ii*3+1))) m _).setCell (p:=(Ua g (off+ii*3+2))) m _
 have M:W.1.size=w1.1.size:=by rw[<-j];simp[Vr]
 have E:W.cell? (Ub b4)=Uq Ue:=by
  rw[<-j];have q:∀(X:Ur) (o:Nat) (u:aB),(X.setCell (Ua g o) u).cell? (Ub b4)=X.cell? (Ub b4):=λX o u=>Vt _ _ _ _ (λe=>hg (by injection e));rw[q,q,q];exact m1
 rw[j]at y⊢;have A:W.grownBy (W.setCell (Ub b4) (Uf (Uq (Ua g off)) l.length c)) (Uq b4):=⟨rfl,rfl,rfl,by simp[Vr],λk hk hne=>zH _ _ _ _ (λe=>hne (by rw[e]))⟩;have r:(W.setCell (Ub b4) (Uf (Uq (Ua g off)) l.length c)).1.size=w1.1.size:=by rw[<-M];simp[Vr]
 have v:=(Below.refl w1.1.size (W.setCell (Ub b4) (Uf (Uq (Ua g off)) l.length c))).alloc (by rw[r];exact Ux _) o;refine⟨bD.bw (bD.gr y A (λe=>by simp[Value.ownBlock]at e;exact hg e)) v (by rw[r];exact Ux _),(z.setCell (p:=(Ub b4)) hC _).alloc (by rw[r];omega) o,?_⟩;exact(v.cell (p:=(Ub b4)) hz).trans (Vs _ _ _ E)
theorem Of(h:dA w1 C (Uf (Uq (Ua g off)) l.length c) l)(hi:ii<l.length)(m1:w1.cell? (Ub b4)=Uq Ue)(hg:g≠b4)(hC:C<=b4)(a b d:Int):
  dA ((((w1.setCell (Ua g (off+ii*3)) (Ud a)).setCell (Ua g (off+ii*3+1)) (Ud b)).setCell (Ua g (off+ii*3+2)) (Ud d)).setCell (Ub b4) (Uf (Uq (Ua g off)) l.length c)) C (Uf (Uq (Ua g off)) l.length c) (l.set ii (a,b,d))/\
  Below C w1 ((((w1.setCell (Ua g (off+ii*3)) (Ud a)).setCell (Ua g (off+ii*3+1)) (Ud b)).setCell (Ua g (off+ii*3+2)) (Ud d)).setCell (Ub b4) (Uf (Uq (Ua g off)) l.length c))/\
  ((((w1.setCell (Ua g (off+ii*3)) (Ud a)).setCell (Ua g (off+ii*3+1)) (Ud b)).setCell (Ua g (off+ii*3+2)) (Ud d)).setCell (Ub b4) (Uf (Uq (Ua g off)) l.length c)).cell? (Ub b4)=Uq (Uf (Uq (Ua g off)) l.length c):=by
 have⟨t,y,j,_⟩:=bD.lt h;have z:g=t:=by simpa[Value.ownBlock]using y
 subst z;have r:=h.put ii hi a b d;have⟨W,m⟩:=zE (((w1.setCell (Ua g (off+ii*3)) (Ud a)).setCell (Ua g (off+ii*3+1)) (Ud b)).setCell (Ua g (off+ii*3+2)) (Ud d));have v:Below C w1 W:=by rw[<-m];exact((zI.setCell (p:=(Ua g (off+ii*3))) j _).setCell (p:=(Ua g (off+ii*3+1))) j _).setCell (p:=(Ua g (off+ii*3+2))) j _
 have s:W.cell? (Ub b4)=Uq Ue:=by
  rw[<-m];have q:∀(X:Ur) (o:Nat) (u:aB),(X.setCell (Ua g o) u).cell? (Ub b4)=X.cell? (Ub b4):=λX o u=>Vt _ _ _ _ (λe=>hg (by injection e));rw[q,q,q];exact m1
 rw[m]at r⊢;have i:W.grownBy (W.setCell (Ub b4) (Uf (Uq (Ua g off)) l.length c)) (Uq b4):=⟨rfl,rfl,rfl,by simp[Vr],λk hk hne=>zH _ _ _ _ (λe=>hne (by rw[e]))⟩;exact⟨bD.gr r i (λe=>by simp[Value.ownBlock]at e;exact hg e),v.setCell (p:=(Ub b4)) hC _,Vs _ _ _ s⟩
theorem WI{ops:Array Oper}{o:Oper}{a:Act}{K:Act->Ur->Prop}{Q:Exit->Act->Ur->Prop}{E:Prop}(hgd:o.guard=Up)(s x:Operand)(t:TypeId)
  (ho:o.op=.call {callee:=.builtin .append,args:=#[s,x],argTypes:=#[t,t]})
  (base:Nat) (e:TypeId) (i:TypeInfo) (z:aB) (size bytes:Nat) (ht:P.underlying t=Uq (.slice e)) (hi:P.info? e=Uq i) (hz:i.zero=Uq z)
  (hsize:i.size=size) (hby:i.bytes=bytes) (hzs:z.cells.size=size)
  (v:aB) (n:Nat) (xs:List aB) (hs:a.eval s=v) (hown:bD w base size v n xs)
  (ad:Us) (m c:Nat) (news:List aB) (hx:a.eval x=Uf (Uq ad) m c) (hl:news.length=m*size) (hnews:∀j u,news[j]? =Uq u->w.cell? (ad.add j)=Uq u) (h1:∀u∈news,u.oneCell'=true)
  (h63:n+m<=maxLen) (hbytes:(n+m)*bytes<=140737488355328) (hbase:base<=w.1.size)
  (h:∀k q c' w',bD w' base size (Uf (Uq (Ua k q)) (n+m) c') (n+m) (xs++news)->w.grownBy w' v.ownBlock->(Uq k=v.ownBlock\/Uq k=Uq w.1.size)->K (a.put o.dst (Uf (Uq (Ua k q)) (n+m) c')) w'):
  if Region.wanted o (yielded ops a.tmps)=true then Oper.wp P o a w K Q else E:=by
 have y:Region.wanted o (yielded ops a.tmps)=true:=by simp[Region.wanted,hgd]
 rw[if_pos y];refine Z9 s x t ho base e i z size bytes ht hi hz hsize hby hzs v n xs hs hown ad m c news hx hl hnews h1 h63 hbytes hbase<|λv' w' h2 h3 h4=>?_;obtain⟨k,q,c',rfl,r⟩:=h2;exact h k q c' w' ⟨k,q,c',rfl,r⟩ h3<|h4.imp id id
theorem Nx{W2 w7:Ur}{b3 b7 g7 o7 c7 ii:Nat}{L:List Rn}{u3 p0 p1 p2:aB}(hg:W2.grownBy w7 (Uq g))(ho:dA w7 C (Uf (Uq (Ua g7 o7)) L.length c7) L)(hl:g7=g\/W2.1.size<=g7)(h3:b3<W2.1.size)(h4:b4<W2.1.size)(h7:b7<W2.1.size)(n3:g≠b3)(n4:g≠b4)(n7:g≠b7)(n34:b3≠b4)(n37:b3≠b7)(hC3:C<=b3)(hCg:C<=g)(hCW:C<=W2.1.size)
  (c3:W2.cell? (Ub b3)=Uq u3) (f3:W2.frozen? (Ub b3)=false) (c4:W2.cell? (Ub b4)=Uq Ue) (f4:W2.frozen? (Ub b4)=false) (q0:W2.cell? (Ub b7)=Uq p0) (q1:W2.cell? (Ua b7 1)=Uq p1) (q2:W2.cell? (Ua b7 2)=Uq p2):
  (w7.cell? (Ub b3)=Uq u3/\w7.frozen? (Ub b3)=false/\g7≠b4/\g7≠b3)/\∀j,w7.setCell (Ub b3) (Uf (Uq (Ua g7 o7)) L.length c7)=j->
   j.cell? (Ub b3)=Uq (Uf (Uq (Ua g7 o7)) L.length c7)/\j.cell? (Ub b4)=Uq Ue/\j.frozen? (Ub b4)=false/\j.cell? (Ub b7)=Uq p0/\j.cell? (Ua b7 1)=Uq p1/\j.cell? (Ua b7 2)=Uq p2/\dA j C (Uf (Uq (Ua g7 o7)) L.length c7) L/\Below C W2 j:=by
 have v:=hg.block b3 h3 (λe=>n3 (by injection e with e;exact e.symm));have y:=hg.block b4 h4 (λe=>n4 (by injection e with e;exact e.symm));have m:=hg.block b7 h7 (λe=>n7 (by injection e with e;exact e.symm));have r:=(Vy (a:=(Ub b3)) v).trans c3;refine⟨⟨r,(Vz (a:=(Ub b3)) v).trans f3,by rcases hl with h|h<;>omega,by rcases hl with h|h<;>omega⟩,?_⟩;rintro j rfl;have q:∀(b o:Nat) (u:aB),b3≠b->(w7.setCell (Ub b3) u).cell? (Ua b o)=w7.cell? (Ua b o):=λb o u hb=>Vt _ _ _ _ (λe=>hb (by injection e));have t:∀u,w7.grownBy (w7.setCell (Ub b3) u) (Uq b3):=λu=>⟨rfl,rfl,rfl,by simp[Vr],λk hk hne=>zH _ _ _ _ (λe=>hne (by rw[e]))⟩;have z:Below C W2 w7:=zI.grown hg hCW<|λk e=>oI e;refine⟨Vs _ _ _ r,?_,?_,?_,?_,?_,bD.gr ho (t _) (λe=>by simp[Value.ownBlock]at e;rcases hl with h|h<;>omega),z.setCell (p:=(Ub b3)) hC3 _⟩
 .rw[q _ _ _ n34];exact(Vy (a:=(Ub b4)) y).trans c4
 .rw[Vq];exact(Vz (a:=(Ub b4)) y).trans f4
 .rw[q _ _ _ n37];exact(Vy (a:=(Ub b7)) m).trans q0
 .rw[q _ _ _ n37];exact(Vy (a:=(Ua b7 1)) m).trans q1
 .rw[q _ _ _ n37];exact(Vy (a:=(Ua b7 2)) m).trans q2
def lM(k:Nat)(p q:Rn)(l:List Rn)(i:Nat):List Rn:=
 if k%8=0 then l.set i (((k/8:Nat):Int)-8,p.2.1,p.2.2)
 else if k%8=1 then l.set i (p.1,p.2.2+1,p.2.2)
 else if k%8=2 then l.set i (p.1,p.2.1,1000000001)
 else if k%8=3 then l.set i (p.1,0,p.2.2)
 else if k%8=4 then(l++[(p.1,p.2.2+1,p.2.2+2)]).set i p
 else if k%8=5 then(l++[p]).set i p
 else if k%8=6 then(l++[q]).set i p
 else l.set i (p.1,p.2.1-1,p.2.2)
def mL(k:Nat)(l:List Rn):List Rn:=if l.length=0 then [(0,0,(k:Int))] else lM k (gR l (k/8%l.length)) (gR l 0) l (k/8%l.length)
theorem GE{k:Nat}(hk:k<256)(h:Ao l):(mL k l).length<=l.length+1/\pC (mL k l):=by
 unfold mL;split
 .exact⟨oP,λp j=>by simp at j;subst j;simp only;omega⟩
 .rename_i h0;have hi:k/8%l.length<l.length:=Nat.mod_lt _ oM;have j:=h _<|rQ hi;have r:=h _ (rQ (show 0<l.length by omega));generalize k/8%l.length=i at hi j⊢;generalize gR l i=p at j⊢;generalize gR l 0=q at r⊢;obtain⟨u,v,y⟩:=p;obtain⟨z,g,t⟩:=q;simp only at j r;have m:=h.bs;unfold lM;repeat' split
  all_goals refine⟨oP,?_⟩
  all_goals first|exact m.set i _ _ _ (by first|omega|(simp only;omega))|exact(m.snoc _ _ _ (by first|omega|(simp only;omega))).set i _ _ _ (by first|omega|(simp only;omega))
theorem FX(B rb C:Nat)(f:Nat->Int)(n x:Nat)(v:aB)(l:List Rn)(w:Ur)(h:cA w B rb f n x)(hB:B<=C)(hC:C<=w.1.size)(C0:Nat)(ho:dA w C0 v l)(h0:l.length=0\/C0=C)(hB0:B<=C0)(hl:l.length<=1001)(hbr:Ao l):
  Cl 119 #[Uk (Uc rb),Uo #[v]] w λe w'=>∃v',e=Ui (Uo #[v'])/\dA w' C v' (mL (rk f n x) l)/\cA w' B rb f n (rx n x)/\O7 w w' C rb:=by
 have⟨k,Ga⟩:=zE (rk f n x);rw[Ga];have⟨i0,H8,Gi,Gj,Gk⟩:=info_parts Tryz.infoRun;obtain⟨g,off,c,rfl,Gz,G6,G7,H7,G8⟩:=ho.fs;clear Gz;have⟨W,hW⟩:=zE ((w.alloc (Uj #[Uf (Uq (Ua g off)) l.length c] 26)).alloc (Uj #[Ue] 26));have bW:Bl w W:=hW▸aU _ _ _;have k0:W.cell? (Ub w.1.size)=Uq (Uf (Uq (Ua g off)) l.length c):=hW▸oP;have k1:W.cell? (Ua (w.1.size+1) 0)=Uq Ue:=hW▸oP;have f0:W.frozen? (Ub w.1.size)=false:=hW▸oP;have f1:W.frozen? (Ua (w.1.size+1) 0)=false:=hW▸oP;have zW:aA (W.1.size=w.1.size+2):=hW▸aC oP;have Kc:=h.lt;have HR:=aC (h.bw (bW.mono oM));have HO:=aC (bD.bw ho bW zL);have Hl:=aC bW;have hk:=qA HR;have Gm:=aC (jW B rb f n x W HR);rw[Ga]at hk Gm;clear h bW ho Ga;go_enter func119,ntmps119;go_wp2_with fail;clear hW;refine Gm.mono ?_;rintro e w1⟨rfl,r1,D⟩;have z1:=D.size;have K:w.1.size+1<w1.1.size:=oH zW;have nb:Uq w.1.size≠Uq rb:=λe=>oI e;have G5:Uq (w.1.size+1)≠Uq rb:=λe=>oI e;have P:=D.block w.1.size (oH zW) nb;have R:=D.block (w.1.size+1) (oH zW) G5;have m0:=(Vy (a:=(Ub w.1.size)) P).trans k0;have I:=(Vy (a:=(Ua (w.1.size+1) 0)) R).trans k1;have y0:=(Vz (a:=(Ub w.1.size)) P).trans f0;have y1:=(Vz (a:=(Ua (w.1.size+1) 0)) R).trans f1;have Gb:dA w1 C0 (Uf (Uq (Ua g off)) l.length c) l:=bD.gr HO D (λe=>by simp[Value.ownBlock]at e;omega);have Hh:=aC Gb;have Hf:aA (∀W3:Ur,Below C w1 W3->cA W3 B rb f n (rx n x)/\O7 w W3 C rb):=aC (λW3 hb=>by
  refine⟨r1.bw (hb.mono hB),hb.os.trans (D.os.trans Hl.os),hb.tape.trans (D.tape.trans Hl.tape),hb.output.trans (D.output.trans Hl.output),Uz Hl.size (Uz D.size hb.size),λk hk hne=>?_⟩;have q:=Hl.size;exact(hb.block k hk).trans ((D.block k oM (λe=>hne (by injection e))).trans (Hl.block k oM)))
 have Hq:w.1.size<w1.1.size:=oM;have zg:g<w1.1.size:=oH Hl.size;have Hn:g≠w.1.size:=oM;have Hc:g≠w.1.size+1:=oM;clear r1 D P R k0 k1 f0 f1 HR HO;by_cases Hy:l.length=0
 .have d0:((l.length:Int)==0)=true:=by rw[Hy];rfl
  have OL:=aC<|fun(X:Ur) (hX:C<=X.1.size)=>dA.lit1 X C hX 0 0 (k:Int);go_wp2_with fail;have zS:∀u,(w1.setCell (Ua (w.1.size+1) 0) u).1.size=w1.1.size:=λu=>by simp[Vr]
  have oo:=OL (w1.setCell (Ua (w.1.size+1) 0) (Uf (Uc w1.1.size) 1 1)) (by rw[zS];omega);rw[zS]at oo;have bA:=(Below.refl w1.1.size (w1.setCell (Ua (w.1.size+1) 0) (Uf (Uc w1.1.size) 1 1))).alloc (by rw[zS];exact Ux _)<|Uj #[Ud 0,Ud 0,Ud (k:Int)] 103;have U:=(bA.cell (p:=(Ua (w.1.size+1) 0)) K).trans<|Vs _ _ _ I;have⟨t,o⟩:=Hf _ (((Below.refl C w1).setCell (p:=(Ua (w.1.size+1) 0)) (show C<=w.1.size+1 by omega) (Uf (Uc w1.1.size) 1 1)).alloc (by rw[zS];omega) (Uj #[Ud 0,Ud 0,Ud (k:Int)] 103));refine zF (v:=Uo #[Uf (Uc w1.1.size) 1 1]) (by simp[results,results119,go_sem,U]) ?_;exact⟨_,rfl,by unfold mL;rw[if_pos Hy];exact oo,t,o⟩
 .obtain rfl:C=C0:=(h0.resolve_left Hy).symm;have d0:((l.length:Int)==0)=false:=by rw[beq_eq_false_iff_ne];omega
  obtain⟨mm,Hx⟩:∃mm:Int,(k:Int)/8%(l.length:Int)=mm:=⟨_,rfl⟩;have Ka:0<=mm:=Hx▸KH _ oM;have Kb:mm<(l.length:Int):=Hx▸KI _ oM;obtain⟨ii,rfl⟩:∃ii:Nat,mm=(ii:Int):=⟨mm.toNat,oM⟩;have Ho:ii<l.length:=oM;have⟨⟨x0,x1,x2⟩,z0,Gl,z2⟩:=Gb.at ii Ho;have hp:=hbr (gR l ii) (rQ Ho);obtain⟨y,Gg⟩:∃y:Nat,(gR l ii).1=(y:Int):=⟨((gR l ii).1).toNat,oM⟩;obtain⟨z,Gf⟩:∃z:Nat,(gR l ii).2.1=(z:Int):=⟨((gR l ii).2.1).toNat,oM⟩;obtain⟨m,Gh⟩:∃m:Nat,(gR l ii).2.2=(m:Int):=⟨((gR l ii).2.2).toNat,oM⟩;have Hj:aA (mL k l=lM k ((y:Int),(z:Int),(m:Int)) (gR l 0) l ii):=aC (by
   have P:k/8%l.length=ii:=(by exact_mod_cast Hx);have R:gR l ii=((y:Int),(z:Int),(m:Int)):=Prod.ext Gg (Prod.ext Gf Gh);unfold mL;rw[if_neg Hy,P,R])
  rw[Gg,Gf,Gh]at hp;rw[Gg]at x0;rw[Gf]at x1;rw[Gh]at x2;have Kf:Int.tmod ((k:Int)/8) (l.length:Int)=(ii:Int):=by rw[KJ oM];exact Hx
  have Ki:IntKind.i64.wrap (ii:Int)=(ii:Int):=by rw[Vm];omega
  clear Gb h0;obtain⟨k8,G9⟩:∃k8:Nat,(k:Int)%8=(k8:Int):=⟨k%8,oM⟩;have H9:k8<8:=oM;have r:aA (k%8=k8):=aC oM;match k8,H9 with
  |0,_=>obtain⟨a,ha⟩:∃a:Int,(k:Int)/8-8=a:=⟨_,rfl⟩;have wa:IntKind.i64.wrap ((k:Int)/8-8)=a:=(by rw[Vm];omega);go_wp2_with fail;have⟨Y,Z,U⟩:=zX Hh Ho I Hc oM K (a) ((z:Int)) ((m:Int)) (Uj #[Ud (a),Ud ((z:Int)),Ud ((m:Int))] 103);have⟨t,o⟩:=Hf _ Z;refine zF (v:=Uo #[Uf (Uq (Ua g off)) l.length c]) (by simp[results,results119,go_sem,U]) ?_;exact⟨_,rfl,by rw[Hj.out];unfold lM;rw[if_pos r.out];rw[show((k/8:Nat):Int)-8=a by omega];exact Y,t,o⟩
  |1,_=>obtain⟨a,ha⟩:∃a:Int,(m:Int)+1=a:=⟨_,rfl⟩;have wa:IntKind.i64.wrap ((m:Int)+1)=a:=(by rw[Vm];omega);go_wp2_with fail;have⟨Y,Z,U⟩:=zX Hh Ho I Hc oM K ((y:Int)) (a) ((m:Int)) (Uj #[Ud ((y:Int)),Ud (a),Ud ((m:Int))] 103);have⟨t,o⟩:=Hf _ Z;refine zF (v:=Uo #[Uf (Uq (Ua g off)) l.length c]) (by simp[results,results119,go_sem,U]) ?_;exact⟨_,rfl,by rw[Hj.out];unfold lM;rw[if_neg (by rw[r.out];decide)];rw[if_pos r.out];show dA _ _ _ (l.set ii ((y:Int),(m:Int)+1,(m:Int)));rw[ha];exact Y,t,o⟩
  |2,_=>go_wp2_with fail;have⟨Y,Z,U⟩:=zX Hh Ho I Hc oM K ((y:Int)) ((z:Int)) (1000000001) (Uj #[Ud ((y:Int)),Ud ((z:Int)),Ud (1000000001)] 103);have⟨t,o⟩:=Hf _ Z;refine zF (v:=Uo #[Uf (Uq (Ua g off)) l.length c]) (by simp[results,results119,go_sem,U]) ?_;exact⟨_,rfl,by rw[Hj.out];unfold lM;rw[if_neg (by rw[r.out];decide)];rw[if_neg (by rw[r.out];decide)];rw[if_pos r.out];exact Y,t,o⟩
  |3,_=>go_wp2_with fail;have⟨Y,Z,U⟩:=zX Hh Ho I Hc oM K ((y:Int)) (0) ((m:Int)) (Uj #[Ud ((y:Int)),Ud (0),Ud ((m:Int))] 103);have⟨t,o⟩:=Hf _ Z;refine zF (v:=Uo #[Uf (Uq (Ua g off)) l.length c]) (by simp[results,results119,go_sem,U]) ?_;exact⟨_,rfl,by rw[Hj.out];unfold lM;rw[if_neg (by rw[r.out];decide)];rw[if_neg (by rw[r.out];decide)];rw[if_neg (by rw[r.out];decide)];rw[if_pos r.out];exact Y,t,o⟩
  |4,_=>
   obtain⟨a1,G0⟩:∃a1:Int,(m:Int)+1=a1:=⟨_,rfl⟩;obtain⟨a2,G1⟩:∃a2:Int,(m:Int)+2=a2:=⟨_,rfl⟩;have Kg:IntKind.i64.wrap ((m:Int)+1)=a1:=(by rw[Vm];omega);have Kh:IntKind.i64.wrap ((m:Int)+2)=a2:=(by rw[Vm];omega);have⟨j,s⟩:=zE (w1.alloc (Uj #[Ud (y:Int),Ud (z:Int),Ud (m:Int)] 103));have b:Bl w1 j:=s▸zO _ _;have F:aA (j.1.size=w1.1.size+1):=s▸aC oP;have q0:j.cell? (Ub w1.1.size)=Uq (Ud (y:Int)):=s▸oP;have t:j.cell? (Ua w1.1.size 1)=Uq (Ud (z:Int)):=s▸oP;have o:j.cell? (Ua w1.1.size 2)=Uq (Ud (m:Int)):=s▸oP;have n0:=(b.cell (p:=(Ub w.1.size)) Hq).trans m0;have n1:=(b.cell (p:=(Ua (w.1.size+1) 0)) K).trans I;have u0:=(b.frozen (p:=(Ub w.1.size)) Hq).trans y0;have u1:=(b.frozen (p:=(Ua (w.1.size+1) 0)) K).trans y1;have Hi:=aC<|bD.bw (bD.bw Hh b zL) (zO j (Uj #[Ud (y:Int),Ud a1,Ud a2] 103)) zL;have Hg:=aC<|Ih j (Ud (y:Int)) (Ud a1) (Ud a2) 103;have Hr:=aC b;clear b;go_wp2_with (at_builtin;refine BJ rfl _ _ 24 rfl C 103 i0 _ 3 24 underlying24 H8 Gi Gj Gk rfl _ _ _ rfl Hi (Ub j.1.size) 1 1 [Ud (y:Int),Ud a1,Ud a2] ?f0 rfl ?f1 ?f2 ?f3 ?f4 ?f5 ?_);case f0=>rfl
   case f1=>exact Hg
   case f2=>exact nE
   case f3=>unfold maxLen;omega
   case f4=>omega
   case f5=>have:=F.out;simp;omega
   intro v7 Q Hb Hd Ha;have gg:j.grownBy Q (Uq g):=(VA j _ _).trans Hd;have⟨L,S⟩:=zE (l++[((y:Int),a1,a2)]);have H:L.length=l.length+1:=S▸oP;have T:dA Q C v7 L:=(by unfold dA;rw[H,<-S,Ef];exact Hb);have H1:aA (l++[((y:Int),(m:Int)+1,(m:Int)+2)]=L):=aC (by rw[<-S,G0,G1]);obtain⟨i,G,V,rfl,_,G2,H3,G3,_⟩:=T.fs;have He:i=g\/j.1.size<=i:=by
    rcases Ha with q|q
    .simp[Value.ownBlock]at q;exact .inl q
    .simp[Value.ownBlock]at q;exact .inr oM
   have H0:=F.out;have⟨⟨d3,H2,Hv,Go⟩,Hk⟩:=Nx gg T He (b3:=w.1.size) (b4:=w.1.size+1) (b7:=w1.1.size) (ii:=ii) oM oM oM Hn Hc oM oM oM oM H7 oM n0 u0 n1 u1 q0 t o;have⟨A,Hm⟩:=zE (Q.setCell (Ub w.1.size) (Uf (Uq (Ua i G)) L.length V));have⟨s3,s4,Hz,t0,t1,t2,J,N⟩:=Hk A Hm;have⟨⟨Gp,Gq,Gr⟩,Gs,Hw,Gt⟩:=J.at ii oM;have i3:(ii:Int)<(L.length:Int):=oM;have Hu:=aC J;have Hs:aA (Below C w1 A):=aC<|(Hr.mono oM).trans N;have Hp:=aC H;have HD:=aC Hv;clear Hb Hd Ha gg T H S Hk J N n0 n1 u0 u1 q0 t o x0 x1 x2 z0 Gl z2 Hi Hg H0 He m0 I y0 y1 s;go_wp2_with fail;have⟨Y,Z,U⟩:=Of (ii:=ii) Hu (oH Hp) s4 HD oM (y:Int) (z:Int) (m:Int);have⟨t,o⟩:=Hf _ (Hs.trans Z);refine zF (v:=Uo #[Uf (Uq (Ua i G)) L.length V]) (by simp[results,results119,go_sem,U]) ?_;exact⟨_,rfl,by rw[Hj.out];unfold lM;rw[if_neg (by rw[r.out];decide)];rw[if_neg (by rw[r.out];decide)];rw[if_neg (by rw[r.out];decide)];rw[if_neg (by rw[r.out];decide)];rw[if_pos r.out];rw[H1.out];exact Y,t,o⟩
  |5,_=>
   have⟨j,s⟩:=zE (w1.alloc (Uj #[Ud (y:Int),Ud (z:Int),Ud (m:Int)] 103));have b:Bl w1 j:=s▸zO _ _;have F:aA (j.1.size=w1.1.size+1):=s▸aC oP;have q0:j.cell? (Ub w1.1.size)=Uq (Ud (y:Int)):=s▸oP;have t:j.cell? (Ua w1.1.size 1)=Uq (Ud (z:Int)):=s▸oP;have o:j.cell? (Ua w1.1.size 2)=Uq (Ud (m:Int)):=s▸oP;have n0:=(b.cell (p:=(Ub w.1.size)) Hq).trans m0;have n1:=(b.cell (p:=(Ua (w.1.size+1) 0)) K).trans I;have u0:=(b.frozen (p:=(Ub w.1.size)) Hq).trans y0;have u1:=(b.frozen (p:=(Ua (w.1.size+1) 0)) K).trans y1;have Hi:=aC<|bD.bw (bD.bw Hh b zL) (zO j (Uj #[Ud (y:Int),Ud (z:Int),Ud (m:Int)] 103)) zL;have Hg:=aC<|Ih j (Ud (y:Int)) (Ud (z:Int)) (Ud (m:Int)) 103;have Hr:=aC b;clear b;go_wp2_with (at_builtin;refine BJ rfl _ _ 24 rfl C 103 i0 _ 3 24 underlying24 H8 Gi Gj Gk rfl _ _ _ rfl Hi (Ub j.1.size) 1 1 [Ud (y:Int),Ud (z:Int),Ud (m:Int)] ?k0 rfl ?k1 ?k2 ?k3 ?k4 ?k5 ?_);case k0=>rfl
   case k1=>exact Hg
   case k2=>exact nE
   case k3=>unfold maxLen;omega
   case k4=>omega
   case k5=>have:=F.out;simp;omega
   intro v7 Q Hb Hd Ha;have gg:j.grownBy Q (Uq g):=(VA j _ _).trans Hd;have⟨L,S⟩:=zE (l++[((y:Int),(z:Int),(m:Int))]);have H:L.length=l.length+1:=S▸oP;have T:dA Q C v7 L:=(by unfold dA;rw[H,<-S,Ef];exact Hb);have H1:aA (l++[((y:Int),(z:Int),(m:Int))]=L):=aC S;obtain⟨i,G,V,rfl,_,G2,H3,G3,_⟩:=T.fs;have He:i=g\/j.1.size<=i:=by
    rcases Ha with q|q
    .simp[Value.ownBlock]at q;exact .inl q
    .simp[Value.ownBlock]at q;exact .inr oM
   have H0:=F.out;have⟨⟨d3,H2,Hv,Go⟩,Hk⟩:=Nx gg T He (b3:=w.1.size) (b4:=w.1.size+1) (b7:=w1.1.size) (ii:=ii) oM oM oM Hn Hc oM oM oM oM H7 oM n0 u0 n1 u1 q0 t o;have⟨A,Hm⟩:=zE (Q.setCell (Ub w.1.size) (Uf (Uq (Ua i G)) L.length V));have⟨s3,s4,Hz,t0,t1,t2,J,N⟩:=Hk A Hm;have⟨⟨Gp,Gq,Gr⟩,Gs,Hw,Gt⟩:=J.at ii oM;have i3:(ii:Int)<(L.length:Int):=oM;have Hu:=aC J;have Hs:aA (Below C w1 A):=aC<|(Hr.mono oM).trans N;have Hp:=aC H;have HD:=aC Hv;clear Hb Hd Ha gg T H S Hk J N n0 n1 u0 u1 q0 t o x0 x1 x2 z0 Gl z2 Hi Hg H0 He m0 I y0 y1 s;go_wp2_with fail;have⟨Y,Z,U⟩:=Of (ii:=ii) Hu (oH Hp) s4 HD oM (y:Int) (z:Int) (m:Int);have⟨t,o⟩:=Hf _ (Hs.trans Z);refine zF (v:=Uo #[Uf (Uq (Ua i G)) L.length V]) (by simp[results,results119,go_sem,U]) ?_;exact⟨_,rfl,by rw[Hj.out];unfold lM;rw[if_neg (by rw[r.out];decide)];rw[if_neg (by rw[r.out];decide)];rw[if_neg (by rw[r.out];decide)];rw[if_neg (by rw[r.out];decide)];rw[if_neg (by rw[r.out];decide)];rw[if_pos r.out];rw[H1.out];exact Y,t,o⟩
  |6,_=>
   have⟨j,s⟩:=zE (w1.alloc (Uj #[Ud (y:Int),Ud (z:Int),Ud (m:Int)] 103));have b:Bl w1 j:=s▸zO _ _;have F:aA (j.1.size=w1.1.size+1):=s▸aC oP;have q0:j.cell? (Ub w1.1.size)=Uq (Ud (y:Int)):=s▸oP;have t:j.cell? (Ua w1.1.size 1)=Uq (Ud (z:Int)):=s▸oP;have o:j.cell? (Ua w1.1.size 2)=Uq (Ud (m:Int)):=s▸oP;have n0:=(b.cell (p:=(Ub w.1.size)) Hq).trans m0;have n1:=(b.cell (p:=(Ua (w.1.size+1) 0)) K).trans I;have u0:=(b.frozen (p:=(Ub w.1.size)) Hq).trans y0;have u1:=(b.frozen (p:=(Ua (w.1.size+1) 0)) K).trans y1;have Gc:dA j C (Uf (Uq (Ua g off)) l.length c) l:=bD.bw Hh b zL;have⟨⟨e0,P,R⟩,_⟩:=Gc.at 0 oM;rw[Nat.zero_mul,Nat.add_zero]at e0 P R;have Ge:=hbr (gR l 0) (rQ (show 0<l.length by omega));obtain⟨M,H5⟩:∃M:Int,(gR l 0).1=M:=⟨_,rfl⟩;obtain⟨E,H4⟩:∃E:Int,(gR l 0).2.1=E:=⟨_,rfl⟩;obtain⟨O,H6⟩:∃O:Int,(gR l 0).2.2=O:=⟨_,rfl⟩;have Gu:aA (gR l 0=(M,E,O)):=aC (Prod.ext H5 (Prod.ext H4 H6));rw[H5]at e0 Ge;rw[H4]at P Ge;rw[H6]at R Ge;have Kj:w.1.size<j.1.size:=oH F;have i4:0<l.length:=oM;have Hi:=aC (bD.bw Gc (zO j (Uj #[Ud M,Ud E,Ud O] 103)) zL);have Hg:=aC (Ih j (Ud M) (Ud E) (Ud O) 103);have Hr:=aC b;clear b Gc H5 H4 H6;go_wp2_with fail;have Gv:aA (∀u∈[Value.int Uh M,Ud E,Ud O],u.oneCell'=true):=aC (λu hu=>by simp at hu;rcases hu with rfl|rfl|rfl<;>rfl);have Gw:aA (l.length+1<=maxLen):=aC oL;have Gx:aA ((l.length+1)*24<=140737488355328):=aC oM;have Gy:aA (C<=((j.alloc (Uj #[Ud M,Ud E,Ud O] 103)).drew).1.size):=aC (by have:=F.out;show C<=(j.alloc _).1.size;simp;omega);have Gn:aA (bD (j.alloc (Uj #[Ud M,Ud E,Ud O] 103)).drew C 3 (Uf (Uq (Ua g off)) l.length c) l.length (bC l)):=aC (bD.bw Hi zI.drew zL);have Ht:aA (∀(i G V:Nat) (Q:Ur),bD Q C 3 (Uf (Uq (Ua i G)) (l.length+1) V) (l.length+1) (bC l++[Ud M,Ud E,Ud O])->(j.alloc (Uj #[Ud M,Ud E,Ud O] 103)).drew.grownBy Q (Uq g)->(Uq i=Uq g\/i=j.1.size+1)->(Q.cell? (Ub w.1.size)=Uq (Uf (Uq (Ua g off)) l.length c)/\Q.frozen? (Ub w.1.size)=false/\i≠w.1.size+1/\i≠w.1.size)/\∀A,Q.setCell (Ub w.1.size) (Uf (Uq (Ua i G)) (l.length+1) V)=A->
     A.cell? (Ub w.1.size)=Uq (Uf (Uq (Ua i G)) (l.length+1) V)/\A.cell? (Ua (w.1.size+1) 0)=Uq Ue/\A.frozen? (Ua (w.1.size+1) 0)=false/\A.cell? (Ub w1.1.size)=Uq (Ud (y:Int))/\A.cell? (Ua w1.1.size 1)=Uq (Ud (z:Int))/\A.cell? (Ua w1.1.size 2)=Uq (Ud (m:Int))/\dA A C (Uf (Uq (Ua i G)) (l.length+1) V) (l++[(M,E,O)])/\Below C w1 A):=aC (by
    intro i G V Q Gd G4 He;have H0:=F.out;have gg:j.grownBy Q (Uq g):=(VA j _ _).trans ((show(j.alloc (Uj #[Ud M,Ud E,Ud O] 103)).grownBy (j.alloc (Uj #[Ud M,Ud E,Ud O] 103)).drew (Uq g)from⟨rfl,rfl,rfl,Ux _,λ_ _ _=>rfl⟩).trans G4);have H:(l++[(M,E,O)]).length=l.length+1:=oP;have T:dA Q C (Uf (Uq (Ua i G)) (l++[(M,E,O)]).length V) (l++[(M,E,O)]):=(by unfold dA;rw[H,Ef];exact Gd);have⟨I,m2⟩:=Nx gg T (by rcases He with q|q;exact .inl (by injection q);exact .inr oM) (b3:=w.1.size) (b4:=w.1.size+1) (b7:=w1.1.size) (ii:=ii) oM oM oM Hn Hc oM oM oM oM H7 oM n0 u0 n1 u1 q0 t o;rw[H]at m2;refine⟨I,λA h8=>?_⟩;have⟨s3,s4,Hz,t0,t1,t2,J,N⟩:=m2 A h8;exact⟨s3,s4,Hz,t0,t1,t2,J,(Hr.mono oM).trans N⟩)
   go_region_law (
    refine WI (w:=(j.alloc (Uj #[Ud M,Ud E,Ud O] 103)).drew) rfl _ _ 24 rfl C 103 i0 _ 3 24 underlying24 H8 Gi Gj Gk rfl _ _ _ rfl Gn (Ub j.1.size) 1 1 [Ud M,Ud E,Ud O] rfl rfl Hg Gv Gw Gx Gy ?_
    intro i G V Q Hb Hd Ha
    have⟨⟨d3,H2,Hv,Go⟩,Hk⟩:=Ht i G V Q Hb Hd (by rcases Ha with q|q;exact .inl q;exact .inr (by injection q with q;simpa using q)))
   all_goals (
    have⟨A,Hm⟩:=zE (Q.setCell (Ub w.1.size) (Uf (Uq (Ua i G)) (l.length+1) V));have⟨s3,s4,Hz,t0,t1,t2,J,N⟩:=Hk A Hm;rw[Hm];have H:(l++[(M,E,O)]).length=l.length+1:=oP;have⟨⟨Gp,Gq,Gr⟩,Gs,Hw,Gt⟩:=J.at ii oM;have i3:(ii:Int)<((l.length:Nat):Int)+1:=oM;rw[<-H]at J;have Hu:=aC J;have Hs:=aC N;have Hp:=aC H;have HD:=aC Hv;clear Hb Hd Ha H Hk J N n0 n1 u0 u1 q0 t o x0 x1 x2 z0 Gl z2 Hi Gn Hg m0 I y0 y1 s Ht e0 P R Hm d3 H2;go_wp2_with fail;have⟨Y,Z,U⟩:=Of (ii:=ii) Hu (oH Hp) s4 HD oM (y:Int) (z:Int) (m:Int);rw[Hp.out]at Y Z U;have⟨t,o⟩:=Hf _ (Hs.trans Z);refine zF (v:=Uo #[Uf (Uq (Ua i G)) (l.length+1) V]) (by simp[results,results119,go_sem,U]) ?_;exact⟨_,rfl,by rw[Hj.out];unfold lM;rw[if_neg (by rw[r.out];decide)];rw[if_neg (by rw[r.out];decide)];rw[if_neg (by rw[r.out];decide)];rw[if_neg (by rw[r.out];decide)];rw[if_neg (by rw[r.out];decide)];rw[if_neg (by rw[r.out];decide)];rw[if_pos r.out];rw[Gu.out];exact Y,t,o⟩)
  |7,_=>obtain⟨a,ha⟩:∃a:Int,(z:Int)-1=a:=⟨_,rfl⟩;have wa:IntKind.i64.wrap ((z:Int)-1)=a:=(by rw[Vm];omega);go_wp2_with fail;have⟨Y,Z,U⟩:=zX Hh Ho I Hc oM K ((y:Int)) (a) ((m:Int)) (Uj #[Ud ((y:Int)),Ud (a),Ud ((m:Int))] 103);have⟨t,o⟩:=Hf _ Z;refine zF (v:=Uo #[Uf (Uq (Ua g off)) l.length c]) (by simp[results,results119,go_sem,U]) ?_;exact⟨_,rfl,by rw[Hj.out];unfold lM;rw[if_neg (by rw[r.out];decide)];rw[if_neg (by rw[r.out];decide)];rw[if_neg (by rw[r.out];decide)];rw[if_neg (by rw[r.out];decide)];rw[if_neg (by rw[r.out];decide)];rw[if_neg (by rw[r.out];decide)];rw[if_neg (by rw[r.out];decide)];show dA _ _ _ (l.set ii ((y:Int),(z:Int)-1,(m:Int)));rw[ha];exact Y,t,o⟩
structure Dr(S:Sx):Prop where
 vd:Vd S
 t:lC S.T
theorem Sl{u:List Rn}(h:¬i<u.length):gR u i=(0,0,0):=by simp[gR,UL,h]
theorem Sp{u:List Rn}(h:dI u):lC λi=>(gR u i).2.2:=λi=>by
 by_cases hi:i<u.length
 .have e:gR u i=u[i]:=by simp[gR,UL,hi]
  have:=h.2 _ (List.getElem_mem hi);unfold dG at this;simp only[e];omega
 .simp only[Sl hi];omega
theorem DD{g:Lf->Prop}{P:List Lf}(h:Vd S)(hp:dN S P)(hf:fP S (aQ g S.l P)=0):Dr (eI S (aQ g S.l P))/\Dr (eC S (aQ g S.l P)):=by
 cases hc:iD S (aQ g S.l P)with
 |false=>rw[(rM hc).2.2]at hf;cases hf
 |true=>rw[(rL hc).1,(rL hc).2.1];unfold iD at hc;simp only[Bool.and_eq_true,decide_eq_true_eq]at hc;have⟨q,r,m⟩:=hc;have k:=rK (g:=g) h hp;have j:Dr (aQ g S.l P):=⟨⟨dL.2 ⟨k.1.1,m⟩,k.2⟩,Sp (rS h hp).1⟩;refine⟨⟨rO h j.vd q,?_⟩,j⟩;have:=(iL h j.vd).1;rw[qF,E7]at this;rw[qF];exact Sp this
theorem aT.gr{x:Option Us}(h:aT w lo a c x S)(hg:w.grownBy w1 (Uq rb))(hr:rb<lo):aT w1 lo a c x S:=h.move zL hg.size (λq h1 h2=>hg.block q h2 (λe=>by injection e with e;omega))
theorem uU(h1:w.grownBy w1 (Uq rb))(h2:Below B w1 w2)(hB:w.1.size<=B):w.grownBy w2 (Uq rb):=
 ⟨h2.os.trans h1.os,h2.tape.trans h1.tape,h2.output.trans h1.output,Uz h1.size h2.size,λk hk hne=>(h2.block k oM).trans (h1.block k hk hne)⟩
structure Gd(S:Sx):Prop where
 sm:S.Sm
 li:∀i,eK (gL S.l i)
 t:lC S.T
def jP(k:Nat)(y:Lf):Lf:=
 if k%8=1 then⟨y.p++[⟨#[]⟩],y.fl,y.r,y.q,y.v⟩
 else if k%8=2 then⟨y.p, !y.fl,y.r,y.q,y.v⟩
 else if k%8=3 then⟨y.p,y.fl,y.r,y.q+1,y.v⟩
 else if k%8=4 then⟨y.p,y.fl,y.r,y.q,eL (gF ⟨#[118]⟩ (200+k/128))⟩
 else if k%8=5 then y
 else if k%8=6 then⟨y.p,y.fl,7,y.q,y.v⟩
 else⟨y.p.set 0 ⟨#[99]⟩,y.fl,y.r,y.q,y.v⟩
def kX(k:Nat)(l:List Lf):List Lf:=(if k%8=5 then l++[gL l (k/8%l.length)] else l).set (k/8%l.length) (jP k (gL l (k/8%l.length)))
def lL(f:Nat->Int)(n x:Nat)(S:Sx):Sx:=if rk f n x%8=0\/S.l.length=0 then cT S.l (mL (rk f n (rx n x)) (fS S))else cT (kX (rk f n x) S.l) (fS S)
def Ap(f:Nat->Int)(n x:Nat)(S:Sx):Nat:=if rk f n x%8=0\/S.l.length=0 then rx n (rx n x)else rx n x
theorem Bv(l:List Lf)(hi:i<l.length)(y:Lf)(j:Nat):gL (l.set i y) j=if j=i then y else gL l j:=by
 by_cases e:j=i
 .subst e;rw[if_pos rfl];simp[gL,UL,hi]
 .rw[if_neg e];simp[gL,UL,KC (λh=>e h.symm)]
theorem GC{k:Nat}{y:Lf}(hp:y.p.length<=8)(hr:0<=y.r/\y.r<=1000000000)(hq:0<=y.q/\y.q<=1000000000):(jP k y).p.length<=9/\eK (jP k y):=by
 have a:∀r q:Int,0<=r/\r<=1000000001->0<=q/\q<=1000000001->∀p f v,eK ⟨p,f,r,q,v⟩:=λr q h1 h2 p f v=>⟨eX (by simp only;omega) (by simp only;omega),eX (by simp only;omega) (by simp only;omega)⟩;obtain⟨m,j,z,u,h⟩:=y;simp only at hp hr hq;unfold jP;repeat' split
 all_goals refine⟨by simp<;>omega,a _ _ (by first|omega|(dsimp only;omega)) (by first|omega|(dsimp only;omega)) _ _ _⟩
theorem rU(h:Vd S)(hi:i<S.l.length):1<=(gL S.l i).p.length/\(gL S.l i).p.length<=8/\(0<=(gL S.l i).r/\(gL S.l i).r<=1000000000)/\(0<=(gL S.l i).q/\(gL S.l i).q<=1000000000):=by
 have a:=sA h i hi;have b:=sE (mD h)<|lZ h _ (bJ.2 ⟨i,hi,rfl⟩);unfold dG cP at b;simp only at b;exact⟨a.1,a.2,oM,oM⟩
theorem Qh{l:List Lf}(h:¬i<l.length):eK (gL l i):=by
 rw[show gL l i=⟨[],false,0,0,ByteArray.empty⟩ by simp[gL,UL,h]];exact⟨oD,oD⟩
theorem Dr.gd(h:Dr S):Gd S:=by
 have j:=h.vd.2.1;refine⟨⟨oM,λi=>?_,oH ((dL.1 h.vd.1).2)⟩,λi=>?_,h.t⟩
 .by_cases hi:i<S.l.length
  .have:=(rU h.vd hi).2.1;omega
  .rw[Bz hi];simp
 .by_cases hi:i<S.l.length
  .have⟨_,_,b,c⟩:=rU h.vd hi;exact⟨eX oM oM,eX oM oM⟩
  .exact Qh hi
theorem Ry{l:List Lf}{u:List Rn}(h1:l.length<=1001)(h2:∀i,i<l.length->(gL l i).p.length<=9/\eK (gL l i))(h3:u.length<=1001)(h4:pC u):Gd (cT l u):=by
 refine⟨⟨by show l.length<=_;omega,λi=>?_,by show u.length<=_;omega⟩,λi=>?_,λi=>?_⟩
 .show(gL l i).p.length<=_;by_cases hi:i<l.length
  .have:=(h2 i hi).1;omega
  .rw[Bz hi];simp
 .show eK (gL l i);by_cases hi:i<l.length
  .exact(h2 i hi).2
  .exact Qh hi
 .show _<=(gR u i).2.2/\(gR u i).2.2<=_;by_cases hi:i<u.length
  .have:=h4 _ (rQ hi);omega
  .rw[Sl hi];exact⟨oD,oD⟩
theorem Rg(hS:Dr S)(hk:rk f n (rx n x)<256):Gd (lL f n x S):=by
 have z:=hS.vd.2.1;have r:=rT hS.vd;have h:=(dL.1 hS.vd.1).2;have q:∀i,i<S.l.length->(gL S.l i).p.length<=9/\eK (gL S.l i):=λi hi=>by
  have⟨_,a,b,c⟩:=rU hS.vd hi;exact⟨oM,eX oM oM,eX oM oM⟩
 have fl:=lW S;unfold lL;split
 .have⟨a,b⟩:=GE hk r.br;exact Ry oM q oM b
 .rename_i h0;have hi:rk f n x/8%S.l.length<S.l.length:=Nat.mod_lt _ oM;unfold kX;generalize rk f n x=k at h0 hi⊢;generalize k/8%S.l.length=i at hi⊢;have⟨_,a,b,c⟩:=rU hS.vd hi;have u:=GC (k:=k) a b c;generalize jP k (gL S.l i)=y at u⊢;have e:∀l:List Lf,l.length<=1001->i<l.length->(∀j,j<l.length->(gL l j).p.length<=9/\eK (gL l j))->Gd (cT (l.set i y) (fS S)):=λl h1 m h3=>by
   refine Ry (oU h1) (λj hj=>?_) oM r.br.bs;rw[Bv l m y j];split
   .exact u
   .exact h3 j<|oU hj
  split
  .refine e _ oS oS<|λj hj=>?_;by_cases m:j<S.l.length
   .rw[tQ _ _ m];exact q j m
   .have v:j=S.l.length:=(by simp at hj;omega);rw[v,tR];exact q i hi
  .exact e _ oM hi q
theorem NG(l:List Lf)(P Q:Nat->Nat)(hi:i<l.length)(y:Lf)(p pc:Nat):
  (((((((Vb (l.length*5)).map (eH l P Q)).set (i*5) (Uf (Uc p) y.p.length pc)).set (i*5+1) (Un y.fl)).set (i*5+2) (Ud y.r)).set (i*5+3) (Ud y.q)).set (i*5+4) (Um y.v))=(Vb (l.length*5)).map (eH (l.set i y) (λt=>if t=i then p else P t) (λt=>if t=i then pc else Q t)):=by
 refine List.ext_getElem oP<|λj h1 h2=>?_;have o:j<l.length*5:=oU h2;have⟨k,m,u,z,h⟩:=Ba (l.set i y) (λt=>if t=i then p else P t) (λt=>if t=i then pc else Q t) i;rw[Bv l hi y i]at k m u z h;simp only[if_pos]at k m u z h;rw[JX,JY];by_cases g:j/5=i
 .obtain e|e|e|e|e:j=i*5\/j=i*5+1\/j=i*5+2\/j=i*5+3\/j=i*5+4:=oM
  .subst e;rw[k];simp[KF]
  .subst e;rw[m];simp[KF]
  .subst e;rw[u];simp[KF]
  .subst e;rw[z];simp[KF]
  .subst e;rw[h];simp[KF]
 .rw[KG oM,KG oM,KG oM,KG oM,KG oM,JX,JY];unfold eH;rw[Bv l hi y,if_neg g];simp only[if_neg g]
theorem bD.moveB{size:Nat}(h:bD w B size v n xs)(hs:w.1.size<=w'.1.size)(hq:∀q,v.ownBlock=Uq q->B<=q->q<w.1.size->w'.1[q]? =w.1[q]?):bD w' B size v n xs:=by
 obtain⟨g,off,c,rfl,k,m,o,z,t,r,u,y⟩:=h;have e:w'.1[g]? =w.1[g]? :=hq g rfl k m;exact⟨g,off,c,rfl,k,Ut m hs,o,z,t,λj hj=>(Vy e).trans (r j hj),λj hj=>by rw[Vy (a:=(Ua g (off+j))) e];exact u j hj,λj hj=>(Vz (a:=(Ua g (off+j))) e).trans (y j hj)⟩
theorem Rw{ra:Option Us}{rc:Nat}{l:List Lf}{u:List Rn}{P Q:Nat->Nat}(h:LC w lo (Uf (Uc g) l.length c) l P Q)(ho:dA w lo (Uf ra u.length rc) u):aT w lo (Uc g) c ra (cT l u):=⟨λw' h1 h2=>by
 have j:=h.move h1 h2;have k:dA w' lo (Uf ra u.length rc) u:=bD.moveB ho h1 (λq _ a b=>h2 q a b);have⟨m,r,c',e,s,_⟩:=k.fs;injection e with e1 e2 e3;subst e1;exact⟨j.lcap rfl,s.rseg⟩,h.cp rfl⟩
structure qJ(w wx:Ur)(g b7:Nat)(y:Lf)(p pc:Nat):Prop where
 lo:w.1.size+2<=p
 lt:p<wx.1.size
 ng:p≠g
 nb:p≠b7
 wr:Wr wx p 9 y.p.length (λt=>Um (gS y.p t))
 c1:y.p.length<=pc
 c2:pc<=9223372036854775807
structure fA(w wx:Ur)(B rb:Nat)(f:Nat->Int)(n x b7 i:Nat)(l:List Lf)(y:Lf)(u:List Rn)(g c p pc gx cx:Nat)(P Q:Nat->Nat):Prop where
 bs:aD wx w.1.size (Uf (Uc g) l.length c) (Uf (Uc gx) u.length cx)
 br:aD wx (w.1.size+1) Ue Ue
 row:wx.ownsRow (w.1.size+2) 101 5 (Uf (Uc g) l.length c) l.length ((Vb (l.length*5)).map (eH l P Q))
 pts:∀j,j<l.length->j≠i->qJ w wx g b7 (gL l j) (P j) (Q j)
 pt:qJ w wx g b7 y p pc
 ru:dA wx (w.1.size+2) (Uf (Uc gx) u.length cx) u
 gn:gx≠g/\gx≠b7/\g≠b7
 hb:w.1.size+2<=b7
 rd:cA wx B rb f n x
 gr:w.grownBy wx (Uq rb)
 z:B<=w.1.size
section
variable {w wx w1 : Ur}{B rb n x b7 i : Nat}{f : Nat-> Int}{l : List Lf}{y y' : Lf}{u : List Rn}{g c p pc gx cx p' pc' : Nat}{P Q : Nat-> Nat}
theorem qJ.same(h:qJ w wx g b7 y p pc)(hs:wx.1.size<=w1.1.size)(he:w1.1[p]? =wx.1[p]?):qJ w w1 g b7 y p pc:=⟨h.lo,Ut h.lt hs,h.ng,h.nb,h.wr.same he,h.c1,h.c2⟩
theorem fA.glt(h:fA w wx B rb f n x b7 i l y u g c p pc gx cx P Q):w.1.size+2<=g/\g<wx.1.size:=h.row.lt g rfl
theorem fA.chg(h:fA w wx B rb f n x b7 i l y u g c p pc gx cx P Q){r:Nat}(hg:wx.grownBy w1 (Uq r))(hr:w.1.size+2<=r/\r≠g/\r≠gx/\∀j,j<l.length->j≠i->P j≠r)(hpt:qJ w w1 g b7 y' p' pc'):fA w w1 B rb f n x b7 i l y' u g c p' pc' gx cx P Q:=by
 have⟨r1,r2,t,v⟩:=hr;have m:∀b,b<wx.1.size->b≠r->w1.1[b]? =wx.1[b]? :=λb h1 h2=>hg.block b h1 (λe=>h2 (by injection e));have q:Below (w.1.size+2) wx w1:=zI.grown hg (oH h.br.lt)<|λk e=>oI e;refine⟨h.bs.grw hg oM,h.br.grw hg oM,dK h.row (λb hb=>?_),λj h1 h2=>(h.pts j h1 h2).same hg.size (m _ (h.pts j h1 h2).lt (v j h1 h2)),hpt,bD.gr h.ru hg (λe=>by simp[Value.ownBlock]at e;omega),h.gn,h.hb,h.rd.bw (q.mono (oH h.z)),uU h.gr (q.mono (JU _ _)) zL,h.z⟩;have e:g=b:=by simpa[Value.ownBlock]using hb
 exact m b (oH h.glt.2) oM
theorem fA.bw(h:fA w wx B rb f n x b7 i l y u g c p pc gx cx P Q)(hb:Bl wx w1):fA w w1 B rb f n x b7 i l y u g c p pc gx cx P Q:=
 h.chg (r:=b7) ⟨hb.os,hb.tape,hb.output,hb.size,λk hk _=>hb.block k hk⟩ ⟨h.hb,h.gn.2.2.symm,h.gn.2.1.symm,λj h1 h2=>(h.pts j h1 h2).nb⟩ (h.pt.same hb.size (hb.block _ h.pt.lt))
theorem fA.setB(h:fA w wx B rb f n x b7 i l y u g c p pc gx cx P Q)(t:Nat)(v:aB)(e:y'.p=y.p):fA w (wx.setCell (Ua b7 t) v) B rb f n x b7 i l y' u g c p pc gx cx P Q:=by
 have m:∀q,q≠b7->(wx.setCell (Ua b7 t) v).1[q]? =wx.1[q]? :=λq hq=>zH _ _ _ _ (oU hq);refine h.chg (r:=b7) ⟨rfl,rfl,rfl,by simp[Vr],λk hk hne=>m k (λe=>hne (by rw[e]))⟩ ⟨h.hb,h.gn.2.2.symm,h.gn.2.1.symm,λj h1 h2=>(h.pts j h1 h2).nb⟩ ?_;have:=h.pt.same (w1:=wx.setCell (Ua b7 t) v) (by simp[Vr]) (m _ h.pt.nb);exact⟨this.lo,this.lt,this.ng,this.nb,by rw[e];exact this.wr,by rw[e];exact this.c1,this.c2⟩
theorem fA.fin(h:fA w wx B rb f n x b7 i l y u g c p pc gx cx P Q)(hi:i<l.length){W5:Ur}(h5:((((wx.setCell (Ua g (i*5)) (Uf (Uc p) y.p.length pc)).setCell (Ua g (i*5+1)) (Un y.fl)).setCell (Ua g (i*5+2)) (Ud y.r)).setCell (Ua g (i*5+3)) (Ud y.q)).setCell (Ua g (i*5+4)) (Um y.v)=W5):
  aD W5 w.1.size (Uf (Uc g) l.length c) (Uf (Uc gx) u.length cx)/\aD W5 (w.1.size+1) Ue Ue/\
  ∀m,(W5.setCell (Ua (w.1.size+1) 0) (Uf (Uc g) l.length c)).setCell (Ua (w.1.size+1) 1) (Uf (Uc gx) u.length cx)=m->aD m (w.1.size+1) (Uf (Uc g) l.length c) (Uf (Uc gx) u.length cx)/\aT m w.1.size (Uc g) c (Uc gx) (cT (l.set i y) u)/\cA m B rb f n x/\w.grownBy m (Uq rb):=by
 have K:=h.glt;have L:=h.z;have I:W5.1.size=wx.1.size:=by rw[<-h5];simp[Vr]
 have U:∀b,b≠g->W5.1[b]? =wx.1[b]? :=λb hb=>by
  rw[<-h5];repeat rw[zH _ _ _ _ (oU hb)]
 have s:∀(X:Ur) (o:Nat) (v:aB),X.grownBy (X.setCell (Ua g o) v) (Uq g):=λX o v=>⟨rfl,rfl,rfl,by simp[Vr],λk hk hne=>zH _ _ _ _ (λe=>hne (by rw[e]))⟩;have A:wx.grownBy W5 (Uq g):=by rw[<-h5];exact((((s _ _ _).trans (s _ _ _)).trans (s _ _ _)).trans (s _ _ _)).trans (s _ _ _)
 have V:=h.bs.grw A oM;have E:=h.br.grw A oM;have Y:Below (w.1.size+1) wx W5:=zI.grown A (oH h.br.lt)<|λk e=>oI e;have H:W5.ownsRow (w.1.size+2) 101 5 (Uf (Uc g) l.length c) l.length ((Vb (l.length*5)).map (eH (l.set i y) (λt=>if t=i then p else P t) (λt=>if t=i then pc else Q t))):=by
  rw[<-h5,<-NG l P Q hi y p pc];exact(((((h.row.stored _ _).1.stored _ _).1.stored _ _).1.stored _ _).1.stored _ _).1
 have Z:LC W5 (w.1.size+2) (Uf (Uc g) (l.set i y).length c) (l.set i y) (λt=>if t=i then p else P t) (λt=>if t=i then pc else Q t):=by
  have M:(l.set i y).length=l.length:=KE;refine⟨by rw[M];exact H,λj hj=>?_⟩;rw[M]at hj;rw[Bv l hi y j];have O:∀{z:Lf}{a b:Nat},qJ w wx g b7 z a b->w.1.size+2<=a/\a<W5.1.size/\Uq a≠(Value.slice (Uc g) (l.set i y).length c).ownBlock/\Wr W5 a 9 z.p.length (λt=>Um (gS z.p t))/\z.p.length<=b/\b<=9223372036854775807:=fun{z a b} hp=>⟨hp.lo,by rw[I];exact hp.lt,λe=>hp.ng (by simpa[Value.ownBlock]using e),hp.wr.same (U _ hp.ng),hp.c1,hp.c2⟩;by_cases e:j=i
  .simp only[if_pos e];exact O h.pt
  .simp only[if_neg e];exact O<|h.pts j hj e
 have G:dA W5 (w.1.size+2) (Uf (Uc gx) u.length cx) u:=bD.gr h.ru A (λe=>h.gn.1 (by simpa[Value.ownBlock]using e));refine⟨V,E,?_⟩;rintro m rfl;have b7:Below (w.1.size+1) wx ((W5.setCell (Ua (w.1.size+1) 0) (Uf (Uc g) l.length c)).setCell (Ua (w.1.size+1) 1) (Uf (Uc gx) u.length cx)):=(Y.setCell (p:=(Ua (w.1.size+1) 0)) zL _).setCell (p:=(Ua (w.1.size+1) 1)) zL _;refine⟨E.set _ _,?_,h.rd.bw (b7.mono oM),uU h.gr (b7.mono (JU _ _)) zL⟩;have J:=Rw Z G;refine J.move (JU _ _) (by simp[Vr])<|λq h1 h2=>?_;rw[zH _ _ _ _ oS,zH _ _ _ _ oS]
end
theorem bD.self{size n':Nat}(h:bD w B size (Uf (Uq (Ua g off)) n' c) n xs):bD w g size (Uf (Uq (Ua g off)) n' c) n xs:=by
 have⟨k,m,c',e,q,r⟩:=h;have j:=e;injection e with e1 _ _;injection e1 with e1;injection e1 with e1 _ _;exact⟨k,m,c',j,JP e1,r⟩
structure xY(w wx:Ur)(B rb:Nat)(f:Nat->Int)(n x:Nat)(S:Sx)(g c gx cx:Nat)(P Q:Nat->Nat):Prop where
 bs:aD wx w.1.size (Uf (Uc g) S.l.length c) (Uf (Uc gx) S.n cx)
 br:aD wx (w.1.size+1) Ue Ue
 lc:LC wx (w.1.size+2) (Uf (Uc g) S.l.length c) S.l P Q
 ow:Ow wx (w.1.size+2) S.l P Q
 sep:rG P S.l.length
 ru:dA wx (w.1.size+2) (Uf (Uc gx) S.n cx) (fS S)
 gn:g≠gx
 pn:∀i,i<S.l.length->P i≠gx
 up:0<S.n->g<gx/\∀i,i<S.l.length->P i<gx
 rd:cA wx B rb f n x
 gr:w.grownBy wx (Uq rb)
 z:B<=w.1.size
section
variable {w w1 w2 : Ur}{B rb n x : Nat}{f : Nat-> Int}{S : Sx}{g c gx cx : Nat}{P Q : Nat-> Nat}
theorem Am.spA{va vx:aB}(h:Am w1 w2 S g c gx cx P Q)(hA:aD w1 w.1.size va vx)(hR:aD w1 (w.1.size+1) Ue Ue)(hr:cA w1 B rb f n x)(hg:w.grownBy w1 (Uq rb))(hB:B<=w.1.size):
  aD w2 w.1.size va vx/\xY w ((w2.setCell (Ub w.1.size) (Uf (Uc g) S.l.length c)).setCell (Ua w.1.size 1) (Uf (Uc gx) S.n cx)) B rb f n x S g c gx cx P Q:=by
 have u:=hR.lt;have k:=hA.bw h.low hA.lt;have j:∀b,b≠w.1.size->((w2.setCell (Ub w.1.size) (Uf (Uc g) S.l.length c)).setCell (Ua w.1.size 1) (Uf (Uc gx) S.n cx)).1[b]? =w2.1[b]? :=λb hb=>by
  rw[zH _ _ _ _ (oU hb),zH _ _ _ _ (oU hb)]
 have r:((w2.setCell (Ub w.1.size) (Uf (Uc g) S.l.length c)).setCell (Ua w.1.size 1) (Uf (Uc gx) S.n cx)).1.size=w2.1.size:=by simp[Vr]
 have m:Below w.1.size w1 ((w2.setCell (Ub w.1.size) (Uf (Uc g) S.l.length c)).setCell (Ua w.1.size 1) (Uf (Uc gx) S.n cx)):=((h.low.mono (show w.1.size<=w1.1.size by omega)).setCell (p:=(Ub w.1.size)) zL _).setCell (p:=(Ua w.1.size 1)) zL _;refine⟨k,k.set _ _,((hR.bw h.low hR.lt).setAt _ _ oP).setAt _ _ oP,(h.lc.move (JP r.symm) (λq h1 h2=>j q oM)).low oM,λi hi=>oF (dK (h.ow i hi) (λb hb=>?_)) oM,h.sep,?_,h.gn,h.pn,h.up,hr.bw (m.mono hB),uU hg m zL,hB⟩
 .exact j b<|oH (((h.ow i hi).lt b hb).1)
 .have o:dA w2 w1.1.size (Uf (Uc gx) S.n cx) (fS S):=TE h.fr oP;exact bD.weak (bD.moveB o (JP r.symm) (λq _ h1 h2=>j q oM)) oM
theorem xY.ctx{wx w4:Ur}{C gy oy cy x':Nat}{u:List Rn}(h:xY w wx B rb f n x S g c gx cx P Q)(hC:w.1.size+2<=C/\g<C/\∀i,i<S.l.length->P i<C)(hf:O7 wx w4 C rb)(ho:dA w4 C (Uf (Uq (Ua gy oy)) u.length cy) u)(hr:cA w4 B rb f n x')(hrb:rb<w.1.size):
  (aD w4 w.1.size (Uf (Uc g) S.l.length c) (Uf (Uc gx) S.n cx)/\aD w4 (w.1.size+1) Ue Ue)/\∀m,w4.setCell (Ua w.1.size 1) (Uf (Uq (Ua gy oy)) u.length cy)=m->(aD m w.1.size (Uf (Uc g) S.l.length c) (Uf (Uq (Ua gy oy)) u.length cy)/\aD m (w.1.size+1) Ue Ue)/\∀j,(m.setCell (Ua (w.1.size+1) 0) (Uf (Uc g) S.l.length c)).setCell (Ua (w.1.size+1) 1) (Uf (Uq (Ua gy oy)) u.length cy)=j->
   aD j (w.1.size+1) (Uf (Uc g) S.l.length c) (Uf (Uq (Ua gy oy)) u.length cy)/\aT j w.1.size (Uc g) c (Uq (Ua gy oy)) (cT S.l u)/\cA j B rb f n x'/\w.grownBy j (Uq rb):=by
 have⟨o,Z,E⟩:=hC;have t:∀{b:Nat}{u0 u1:aB},aD wx b u0 u1->b<C->b≠rb->aD w4 b u0 u1:=fun{b u0 u1} hb h1 h2=>by
  have e:=hf.block b h1 h2;exact⟨(Vy (a:=(Ub b)) e).trans hb.c0,(Vy (a:=(Ua b 1)) e).trans hb.c1,λi=>(Vz (a:=(Ua b i)) e).trans (hb.f i),Ut hb.lt hf.size⟩
 have r:=t h.bs oM oM;have v:=t h.br oM oM;have Y:LC w4 (w.1.size+2) (Uf (Uc g) S.l.length c) S.l P Q:=⟨dK h.lc.row (λb hb=>by
  have e:g=b:=by simpa[Value.ownBlock]using hb
  have:=(h.lc.lt g rfl).1;exact hf.block b oM oM),λi hi=>by
  have⟨M,O,U,s⟩:=h.lc.pt i hi;exact⟨M,Ut O hf.size,U,s.1.same (hf.block _ (E i hi) oM),s.2⟩⟩
 have V:w.grownBy w4 (Uq rb):=by
  refine⟨hf.os.trans h.gr.os,hf.tape.trans h.gr.tape,hf.output.trans h.gr.output,Uz h.gr.size hf.size,λk hk hne=>?_⟩;exact(hf.block k oM (λe=>hne (by rw[e]))).trans (h.gr.block k hk hne)
 refine⟨⟨r,v⟩,?_⟩;rintro m rfl;have A:=r.set1<|Uf (Uq (Ua gy oy)) u.length cy;have y:=v.setAt (Ua w.1.size 1) (Uf (Uq (Ua gy oy)) u.length cy) oP;refine⟨⟨A,y⟩,?_⟩;rintro j rfl;have b7:Below w.1.size w4 (((w4.setCell (Ua w.1.size 1) (Uf (Uq (Ua gy oy)) u.length cy)).setCell (Ua (w.1.size+1) 0) (Uf (Uc g) S.l.length c)).setCell (Ua (w.1.size+1) 1) (Uf (Uq (Ua gy oy)) u.length cy)):=((zI.setCell (p:=(Ua w.1.size 1)) zL _).setCell (p:=(Ua (w.1.size+1) 0)) (Nat.le_succ _) _).setCell (p:=(Ua (w.1.size+1) 1)) (Nat.le_succ _) _;refine⟨y.set _ _,?_,hr.bw (b7.mono h.z),uU V b7 zL⟩;refine(Rw Y (bD.weak ho o)).move (JU _ _) (by simp[Vr]) (λq h1 h2=>?_);rw[zH _ _ _ _ oS,zH _ _ _ _ oS,zH _ _ _ _ oS]
theorem xY.leaf{wx:Ur}(h:xY w wx B rb f n x S g c gx cx P Q){i:Nat}(hi:i<S.l.length)(y:Lf)(hy:gL S.l i=y)(vs:Array aB){W4:Ur}(h4:wx.alloc (.cells vs 101)=W4):
  fA w W4 B rb f n x wx.1.size i S.l y (fS S) g c (P i) (Q i) gx cx P Q/\LC W4 (w.1.size+2) (Uf (Uc g) S.l.length c) S.l P Q/\W4.ownsRow (w.1.size+2) 9 1 (Uf (Uq ⟨P i,0,Up⟩) y.p.length (Q i)) y.p.length (dJ y.p):=by
 have b4:Bl wx W4:=h4▸zO _ _;have E:=h.lc.lt g rfl;have U:=h.br.lt;have⟨A,m,M,O⟩:=bD.lt h.ru;have m:gx=A:=by simpa[Value.ownBlock]using m
 have r:=h.lc.bw b4;have q:∀j,j<S.l.length->qJ w W4 g wx.1.size (gL S.l j) (P j) (Q j):=λj hj=>by
  have⟨u,k,v,t,o,s⟩:=h.lc.pt j hj;exact⟨u,Ut k b4.size,λe=>v (by simp[Value.ownBlock,e]),oM,t.same (b4.block _ k),o,s⟩
 subst hy;refine⟨⟨?_,h.br.bw b4 h.br.lt,r.row,λj h1 _=>q j h1,q i hi,?_,⟨h.gn.symm,oM,oM⟩,oM,h.rd.bw (b4.mono (oH h.z)),uU h.gr b4 (oH h.gr.size),h.z⟩,r,dK (h.ow i hi) (λb hb=>b4.block b ((h.ow i hi).lt b hb).2)⟩
 .rw[lW];exact h.bs.bw b4 h.bs.lt
 .rw[lW];exact bD.bw h.ru b4 zL
theorem fA.more{wx wy w3:Ur}{b7 i:Nat}{l:List Lf}{y:Lf}{u:List Rn}{p pc q' cap':Nat}{P' Q':Nat->Nat}(h:fA w wx B rb f n x b7 i l y u g c p pc gx cx P Q)(hb:Bl wx wy)(lc:LC w3 (w.1.size+2) (Uf (Uc q') (l.length+1) cap') (l++[y]) P' Q')(gr:Gr wy w3 (Uf (Uc g) l.length c) (Uf (Uc q') (l.length+1) cap'))(hP:∀j,j<l.length->P' j≠b7)(hP2:P' l.length≠b7)(hbw:b7<wx.1.size):
  (aD w3 w.1.size (Uf (Uc g) l.length c) (Uf (Uc gx) u.length cx))/\fA w (w3.setCell (Ub w.1.size) (Uf (Uc q') (l.length+1) cap')) B rb f n x b7 i (l++[y]) y u q' cap' p pc gx cx P' Q':=by
 have r:=h.bw hb;have m:wy.grownBy w3 (Uq g):=gr.g;have H:=h.glt;have N:=hb.size;have L:=m.size;have o:q'=g\/wy.1.size<=q':=by
  rcases gr.l with e|⟨q,e,o⟩
  .exact .inl (by simpa[Value.ownBlock]using e)
  .have e:q'=q:=(by simpa[Value.ownBlock]using e);exact .inr oM
 have t:(l++[y]).length=l.length+1:=oP;have s:=r.bs.grw m oM;have v:∀b,b≠w.1.size->(w3.setCell (Ub w.1.size) (Uf (Uc q') (l.length+1) cap')).1[b]? =w3.1[b]? :=λb hb=>zH _ _ _ _ (oU hb);have b3:Below w.1.size wy w3:=zI.grown m oM<|λk e=>oI e;have E:Below w.1.size wy (w3.setCell (Ub w.1.size) (Uf (Uc q') (l.length+1) cap')):=b3.setCell (p:=(Ub w.1.size)) zL _;have⟨G,A,I,J⟩:=bD.lt h.ru;have A:gx=G:=by simpa[Value.ownBlock]using A
 refine⟨s,?_,((r.br.grw m oM).setAt _ _ oP),?_,λj hj hne=>?_,?_,?_,⟨?_,h.gn.2.1,?_⟩,h.hb,r.rd.bw (E.mono h.z),uU r.gr E zL,h.z⟩
 .rw[t];exact s.set0 _
 .rw[t];have:=lc.row;rw[t]at this;exact dK this<|λb hb=>v b (oH ((lc.lt b hb).1))
 .have⟨M,O,U,V,Y,Z⟩:=lc.pt j hj;refine⟨M,by simpa[Vr]using O,λe=>U (by simp[Value.ownBlock,e]),?_,V.same (v _ oM),Y,Z⟩;by_cases e:j<l.length
  .exact hP j e
  .rw[show j=l.length by rw[t]at hj;omega];exact hP2
 .have:=r.pt;refine⟨this.lo,by simp[Vr];have:=this.lt;omega,?_,this.nb,(this.wr.same (m.block _ this.lt (λe=>this.ng (by injection e)))).same (v _ (oH this.lo)),this.c1,this.c2⟩;rcases o with e|e
  .rw[e];exact this.ng
  .have:=h.pt.lt;omega
 .refine bD.moveB (bD.gr r.ru m (λe=>h.gn.1 (by simpa[Value.ownBlock]using e))) (by simp[Vr])<|λq _ a b=>v q oM
 .rcases o with e|e
  .rw[e];exact h.gn.1
  .omega
 .rcases o with e|e
  .rw[e];exact h.gn.2.2
  .omega
end
theorem SE{cur:Array aB}{t:TypeId}(h:w.1[g]? =Uq (.cells cur t (0,0))):(w.setCell (Ub g) u).1[g]? =Uq (.cells (cur.setIfInBounds 0 u) t (0,0)):=by
 have j:g<w.1.size:=(Array.getElem?_eq_some_iff.1 h).1;simp[Vr,Array.getElem?_modify,h]
theorem Ph{Q:Prop}(h:Q:=by
 refine cZ 5 ?_;intro K U;refine oX _ _ _ _ rfl Ha (by rfl) (by rfl) rfl ?_;refine U.out _ _ c7<|λqh=>?_;clear U K;try simp only[zP]
 refine tZ 6 79 ?_;have t0:=A7.c0;have tf:=A7.f;refine cZ 7 ?_;intro K U;go_simp;refine U.out _ _ l7<|λqh=>?_;clear U K;try simp only[zP]
 refine zD ?_;clear qh G Hb Hi Ha A7 M7 c7 l7 t0 tf Hf p1 p2 Ht Hr Hd q1 I H3;go_wp2_with fail;go_meet;obtain⟨P',Q',M8,X8⟩:=Hz.out;exact⟨S.l++[⟨m,s,O,z,A⟩],⟨m,s,O,z,A⟩,q',X,p,pc,P',Q',aC ⟨M8,X8,oS,oS,Hg _ _ (by rw[if_pos M.out]) (by unfold jP;rw[if_neg (by rw[M.out];decide)];rw[if_neg (by rw[M.out];decide)];rw[if_neg (by rw[M.out];decide)];rw[if_neg (by rw[M.out];decide)];rw[if_pos M.out])⟩⟩):Q:=h
theorem xM{Q:Prop}(h:Q:=by
 go_wp2_with fail;try rw[Hn]
 clear Hn;refine Hm.mono ?_;rintro e w4⟨v4,rfl,o4,r4,f4⟩;obtain⟨gy,oy,cy,rfl,_⟩:=o4.fs;obtain⟨⟨A4,R4⟩,h5⟩:=F.ctx Hp f4 o4 r4 oM;obtain⟨W5,Hk⟩:=zE (w4.setCell (Ua w.1.size 1) (Uf (Uq (Ua gy oy)) u.length cy));obtain⟨⟨A5,R5⟩,h7⟩:=h5 W5 Hk;obtain⟨q0,q1,qf⟩:=A4.p2;obtain⟨v0,v1⟩:=A5.q2;obtain⟨o0,o1,of⟩:=R5.p2;have HF:=aC (h7 _ rfl);clear o4 r4 f4 A4 R4 A5 R5 h5 h7 s0 s1 sf t0 t1 Hm F Hp;go_wp2_with fail;obtain⟨X7,Hl,r7,g7⟩:=HF.out;obtain⟨y0,y1⟩:=X7.q2;have E:Z=cT S.l u/\ZX=rx n (rx n x):=⟨by rw[Hh.1,if_pos HE.out],by rw[Hh.2,if_pos HE.out]⟩;obtain⟨rfl,rfl⟩:=E;refine zF (v:=Uo #[Uf (Uc g) S.l.length L,Uf (Uq (Ua gy oy)) u.length cy]) (by simp[results,results71,go_sem,y0,y1]) ?_;exact⟨_,L,_,cy,rfl,Hl,r7,g7⟩):Q:=h
theorem pH{Q:Prop}(h:Q:=by
 refine cZ 4 ?_;intro K U;go_simp;refine U.out _ _ (Hd _ Hi)<|λqh=>?_;clear U K;try simp only[zP]
 exact Ph):Q:=h
theorem Xd(B rb lo:Nat)(f:Nat->Int)(n x:Nat)(a xx:Option Us)(c d:Nat)(S:Sx)(w:Ur)(h:cA w B rb f n x)(hB:B<=w.1.size)(hS:Dr S)(hs:aT w lo a c xx S)(hlo:rb<lo):
  Cl 71 #[Uk (Uc rb),Uo #[Uf a S.l.length c,Uf xx S.n d]] w λe w'=>∃a' c' x' d',e=Ui (Uo #[Uf a' (lL f n x S).l.length c',Uf x' (lL f n x S).n d'])/\aT w' w.1.size a' c' x' (lL f n x S)/\cA w' B rb f n (Ap f n x S)/\w.grownBy w' (Uq rb):=by
 have⟨W,hW⟩:=zE ((w.alloc (Uj #[Uf a S.l.length c,Uf xx S.n d] 28)).alloc (Uj #[Ue,Ue] 28));have b0:Bl w W:=hW▸aU _ _ _;have A0:aD W w.1.size (Uf a S.l.length c) (Uf xx S.n d):=hW▸(aD.made w _ _ _).allocs _;have R0:aD W (w.1.size+1) Ue Ue:=by rw[<-hW];simpa using aD.made (w.alloc (Uj #[Uf a S.l.length c,Uf xx S.n d] 28)) Ue Ue 28
 have Kv:=h.lt;have HR:=aC (h.bw (b0.mono hB));have HN:=aC (jW B rb f n x W HR);have hk:=qA HR;have⟨k,H2⟩:=zE (rk f n x);rw[H2]at hk HN;have Ho:=aC b0;have Gm:=aC A0;have Gc:=aC R0;have Go:=aC (hs.bw b0);have Kb:=aC hS.gd;have Hq:=aC hS;have Hh:aA (lL f n x S=(if k%8=0\/S.l.length=0 then cT S.l (mL (rk f n (rx n x)) (fS S))else cT (kX k S.l) (fS S))/\Ap f n x S=(if k%8=0\/S.l.length=0 then rx n (rx n x)else rx n x)):=aC (by unfold lL Ap;rw[H2];exact⟨rfl,rfl⟩);have⟨Z,hZ⟩:=zE (lL f n x S);have⟨ZX,Gz⟩:=zE (Ap f n x S);rw[hZ,Gz]at Hh⊢;clear b0 A0 R0 h hs hS H2 hZ Gz;go_enter func71,ntmps71;go_wp2_with fail;clear hW;refine HN.mono ?_;rintro e w1⟨rfl,r1,g1⟩;have Kw:w.1.size+2<=W.1.size:=Gc.lt;have A1:=Gm.grw g1 oM;have R1:=Gc.grw g1 oM;have H8:aA (w.grownBy w1 (Uq rb)):=aC ⟨g1.os.trans Ho.os,g1.tape.trans Ho.tape,g1.output.trans Ho.output,Uz Ho.size g1.size,λq hq hne=>(g1.block q oM hne).trans (Ho.block q hq)⟩;have Gl:=Go.gr g1 hlo;have HC:=aC (Mh a xx c d S w1 Kb.sm (λi hi=>(rU Hq.vd hi).1) ⟨Gl.at.1,Gl.at.2⟩);have G8:=aC A1;have Kd:=aC R1;have Gd:=aC r1;have⟨a0,a1⟩:=A1.q2;clear A1 R1 g1 r1 Gl HN HR Gm Gc Go;go_wp2_with fail;refine HC.mono ?_;rintro e w2⟨g,L,H,T,P,Q,rfl,G2⟩;have⟨A2,H4⟩:=G2.spA G8 Kd Gd H8 hB;have⟨s0,s1,sf⟩:=A2.p2;have⟨W3,Hn⟩:=zE ((w2.setCell (Ub w.1.size) (Uf (Uc g) S.l.length L)).setCell (Ua w.1.size 1) (Uf (Uc H) S.n T));rw[Hn]at H4;have F:=aC H4;have⟨t0,t1⟩:=H4.bs.q2;have Ku:S.l.length<=1000:=Hq.vd.2.1;clear a0 a1 A2 G2 H4 HC;have G6:aA (∃C,B<=C/\C<=W3.1.size/\(w.1.size+2<=C/\g<C/\∀i,i<S.l.length->P i<C)/\((fS S).length=0\/H=C)):=aC (by
  have hz:=F.br.lt;have G3:=F.lc.lt g rfl;have⟨Gf,e1,Kk,Kl⟩:=bD.lt F.ru;have e1:H=Gf:=by simpa[Value.ownBlock]using e1
  by_cases h0:0<S.n
  .have⟨u1,u2⟩:=F.up h0;exact⟨H,oM,oM,⟨oM,u1,u2⟩,.inr rfl⟩
  .exact⟨W3.1.size,oM,Ux _,⟨oM,G3.2,λi hi=>(F.lc.pt i hi).2.1⟩,.inl (by rw[lW];omega)⟩)
 have⟨C,Gv,Gw,Gx,Gy⟩:=G6.out;have G9:aA (B<=H):=aC (by
  have⟨Gf,e1,Kk,Kl⟩:=bD.lt F.ru;have e1:H=Gf:=by simpa[Value.ownBlock]using e1
  omega)
 have Hm:=aC (FX B rb C f n (rx n x) (Uf (Uc H) S.n T) (fS S) W3 F.rd Gv Gw H (bD.self F.ru) Gy G9 (by rw[lW];have:=(dL.1 Hq.vd.1).2;omega) (rT Hq.vd).br);have Hp:=aC Gx;clear Gv Gw Gx Gy G6;have⟨u,hu⟩:=zE (mL (rk f n (rx n x)) (fS S));rw[hu]at Hm Hh;clear hu;by_cases e0:k%8=0
 .have d0:((k:Int)%8==0)=true:=by rw[beq_iff_eq];omega
  have HE:aA (k%8=0\/S.l.length=0):=aC<|.inl e0;clear e0;exact xM
 .have d0:((k:Int)%8==0)=false:=by rw[beq_eq_false_iff_ne];omega
  by_cases Gh:S.l.length=0
  .have d1:((S.l.length:Int)==0)=true:=(by rw[Gh];rfl);have HE:aA (k%8=0\/S.l.length=0):=aC<|.inr Gh;clear e0 Gh;exact xM
  .have d1:((S.l.length:Int)==0)=false:=(by rw[beq_eq_false_iff_ne];omega);clear Hm Hp;obtain⟨mm,Hw⟩:∃mm:Int,(k:Int)/8%(S.l.length:Int)=mm:=⟨_,rfl⟩;have Ki:0<=mm:=Hw▸KH _ oM;have Kj:mm<(S.l.length:Int):=Hw▸KI _ oM;obtain⟨ii,rfl⟩:∃ii:Nat,mm=(ii:Int):=⟨mm.toNat,oM⟩;have He:ii<S.l.length:=oM;have HI:aA (k/8%S.l.length=ii):=aC (by exact_mod_cast Hw);have⟨c0,c1,c2,c3,c4⟩:=F.lc.cell rfl He;have⟨y,hy⟩:=zE (gL S.l ii);have Hu:=rU Hq.vd He;rw[hy]at c0 c1 c2 c3 c4 Hu;have⟨p,hp⟩:=zE (P ii);have⟨pc,Gj⟩:=zE (Q ii);rw[hp,Gj]at c0;have⟨Y,Hv⟩:=zE (W3.alloc (Uj #[Uf (Uc p) y.p.length pc,Un y.fl,Ud y.r,Ud y.q,Um y.v] 101));have hM:=F.leaf He y hy _ Hv;have X4:aF Y W3.1.size (Uf (Uc p) y.p.length pc) (Un y.fl) (Ud y.r) (Ud y.q) (Um y.v):=Hv▸aF.new _ _ _ _ _ _ _;rw[hp,Gj]at hM;have Hs:aA (∀j,j<S.l.length->j≠ii->P j≠p):=aC (λj h1 h2 e=>F.sep j ii h1 He h2 (by rw[e,hp]));have Kc:aA (P ii=p):=aC hp;have Gn:aA (p≠H):=aC (hp▸F.pn ii He);have Ka:aA (Z=cT (kX k S.l) (fS S)/\ZX=rx n x):=aC (by
    have hn:¬(k%8=0\/S.l.length=0):=oM;exact⟨by rw[Hh.1,if_neg hn],by rw[Hh.2,if_neg hn]⟩)
   have Hg:aA (∀(l':List Lf) (y':Lf),l'=(if k%8=5 then S.l++[y] else S.l)->y'=jP k y->l'.set ii y'=kX k S.l):=aC (λl' y' e1 e2=>by unfold kX;rw[HI.out,hy,<-e1,<-e2]);have Kr:=aC hy;have N:=aC hM.1;have H9:=aC hM.2.1;have Gb:=aC hM.2.2;have V:=aC X4;have i1:(0:Int)<=(ii:Int):=VH _;have i2:(ii:Int)<(S.l.length:Int):=oM;have Kp:Int.tmod ((k:Int)/8) (S.l.length:Int)=(ii:Int):=(by rw[KJ oM];exact Hw);have Kx:IntKind.i64.wrap (ii:Int)=(ii:Int):=(by rw[Vm];omega);have⟨m,s,O,z,A⟩:=y;dsimp only at c0 c1 c2 c3 c4 V Hu Hv X4;clear hM X4 hy hp Gj Hh F Ki Kj;go_upto_if 40 with fail;clear Hv c0 c1 c2 c3 c4 s0 s1 sf t0 t1 Hn;have⟨b7,G1⟩:=zE W3.1.size;rw[G1]at N V⊢;clear G1;go_cut []from 8 to 87 (λwx=>∃(l':List Lf) (y':Lf) (g' c' p' H5:Nat) (P' Q':Nat->Nat),aA (fA w wx B rb f n (rx n x) b7 ii l' y' (fS S) g' c' p' H5 H T P' Q'/\aF wx b7 (Uf (Uc p') y'.p.length H5) (Un y'.fl) (Ud y'.r) (Ud y'.q) (Um y'.v)/\ii<l'.length/\l'.length<=1001/\l'.set ii y'=kX k S.l));case first=>
    obtain⟨k8,Kt⟩:∃k8:Nat,(k:Int)%8=(k8:Int):=⟨k%8,oM⟩;have Gg:k8<8:=oM;have M:aA (k%8=k8):=aC oM;have⟨x0,x1,x2,x3,x4,xf⟩:=V.p5;match k8,Gg with
    |0,_=>exact absurd M e0
    |1,_=>
     have⟨W5,Hk⟩:=zE (Y.alloc (Uj #[Um ⟨#[]⟩] 9));have G:Bl Y W5:=Hk▸zO _ _;have z5:W5.cell? (Ub Y.1.size)=Uq (Um ⟨#[]⟩):=Hk▸oP;have G7:=dK Gb<|λb hb=>G.block b (Gb.lt b hb).2;have Km:=N.br.lt;have⟨q,cap,w6,Ha,Hy,g6,q1,I⟩:=Tw G7 (oH G.size) (oH Hu.2.1) ⟨#[]⟩ Y.1.size z5;have H0:Y.grownBy w6 (Uq p):=⟨g6.os.trans G.os,g6.tape.trans G.tape,g6.output.trans G.output,Uz G.size g6.size,λb hb hne=>(g6.block b (Ut hb G.size) hne).trans (G.block b hb)⟩;have Hc:=N.pt;have X6:aF w6 b7 (Uf (Uc p) m.length pc) (Un s) (Ud O) (Ud z) (Um A):=by
      have e:w6.1[b7]? =Y.1[b7]? :=H0.block b7 V.lt (λe=>Hc.nb (by injection e with e;exact e.symm));have q:=λo=>Vy (w:=Y) (w':=w6) (a:=(Ua b7 o)) e;exact⟨(q 0).trans V.c0,(q 1).trans V.c1,(q 2).trans V.c2,(q 3).trans V.c3,(q 4).trans V.c4,λi=>(Vz (a:=(Ua b7 i)) e).trans (V.f i),Ut V.lt H0.size⟩
     have hq:q=p\/q=W5.1.size:=by
      rcases I with e|e
      .exact .inl (by simpa[Value.ownBlock]using e.symm)
      .exact .inr e
     have G5:=(Hy.lt q rfl).2;have R:aA (fA w (w6.setCell (Ub b7) (Uf (Uc q) (m.length+1) cap)) B rb f n (rx n x) b7 ii S.l ⟨m++[⟨#[]⟩],s,O,z,A⟩ (fS S) g L q cap H T P Q/\aF (w6.setCell (Ub b7) (Uf (Uc q) (m.length+1) cap)) b7 (Uf (Uc q) (m++[(⟨#[]⟩:ByteArray)]).length cap) (Un s) (Ud O) (Ud z) (Um A)):=aC (by
      have G3:=N.glt;have H1:=V.lt;have Ks:=G.size;have M6:fA w w6 B rb f n (rx n x) b7 ii S.l ⟨m++[⟨#[]⟩],s,O,z,A⟩ (fS S) g L q cap H T P Q:=by
       refine N.chg (r:=p) H0 ⟨Hc.lo,Hc.ng,Gn,Hs⟩ ⟨?_,G5,?_,?_,?_,?_,?_⟩
       .rcases hq with e|e
        .rw[e];exact Hc.lo
        .omega
       .rcases hq with e|e
        .rw[e];exact Hc.ng
        .omega
       .rcases hq with e|e
        .rw[e];exact Hc.nb
        .omega
       .have:=(tX Hy oP).2;simpa using this
       .rcases Hy.2 with⟨e,_⟩|⟨g',X,Hj,hv,_,_,e1,e2,_⟩
        .cases e
        .injection hv with _ _ e3;simp;omega
       .rcases Hy.2 with⟨e,_⟩|⟨g',X,Hj,hv,_,_,e1,e2,_⟩
        .cases e
        .injection hv with _ _ e3;unfold maxLen at e2;omega
      exact⟨M6.setB _ _ rfl,oU (X6.set0 (Uf (Uc q) (m.length+1) cap))⟩)
     have u0:=X6.c0;have uf:=X6.f;clear G z5 G7 Hy g6 H0 Hc X6 hq G5 q1 I;go_wp2_with (at_builtin;refine cL rfl _ _ _ _ rfl Ha (by rfl) (by rfl) rfl ?_;clear Ha);go_meet;exact⟨S.l,⟨m++[⟨#[]⟩],s,O,z,A⟩,g,L,q,cap,P,Q,aC ⟨R.1,R.2,He,oM,Hg _ _ (by rw[if_neg (by rw[M.out];decide)]) (by unfold jP;rw[if_pos M.out])⟩⟩
    |2,_=>have R:aA (fA w (Y.setCell (Ua b7 1) (Un !s)) B rb f n (rx n x) b7 ii S.l ⟨m, !s,O,z,A⟩ (fS S) g L p pc H T P Q/\aF (Y.setCell (Ua b7 1) (Un !s)) b7 (Uf (Uc p) (⟨m, !s,O,z,A⟩:Lf).p.length pc) (Un (⟨m, !s,O,z,A⟩:Lf).fl) (Ud (⟨m, !s,O,z,A⟩:Lf).r) (Ud (⟨m, !s,O,z,A⟩:Lf).q) (Um (⟨m, !s,O,z,A⟩:Lf).v)):=aC ⟨N.setB _ _ rfl,V.set1 _⟩;go_wp2_with fail;go_meet;exact⟨S.l,⟨m, !s,O,z,A⟩,g,L,p,pc,P,Q,aC ⟨R.1,R.2,He,oM,Hg _ _ (by rw[if_neg (by rw[M.out];decide)]) (by unfold jP;rw[if_neg (by rw[M.out];decide)];rw[if_pos M.out])⟩⟩
    |3,_=>have wq:IntKind.i64.wrap (z+1)=z+1:=cK _ oM oM;have R:aA (fA w (Y.setCell (Ua b7 3) (Ud (z+1))) B rb f n (rx n x) b7 ii S.l ⟨m,s,O,z+1,A⟩ (fS S) g L p pc H T P Q/\aF (Y.setCell (Ua b7 3) (Ud (z+1))) b7 (Uf (Uc p) (⟨m,s,O,z+1,A⟩:Lf).p.length pc) (Un (⟨m,s,O,z+1,A⟩:Lf).fl) (Ud (⟨m,s,O,z+1,A⟩:Lf).r) (Ud (⟨m,s,O,z+1,A⟩:Lf).q) (Um (⟨m,s,O,z+1,A⟩:Lf).v)):=aC ⟨N.setB _ _ rfl,V.set3 _⟩;go_wp2_with fail;go_meet;exact⟨S.l,⟨m,s,O,z+1,A⟩,g,L,p,pc,P,Q,aC ⟨R.1,R.2,He,oM,Hg _ _ (by rw[if_neg (by rw[M.out];decide)]) (by unfold jP;rw[if_neg (by rw[M.out];decide)];rw[if_neg (by rw[M.out];decide)];rw[if_pos M.out])⟩⟩
    |4,_=>have⟨n4,G4⟩:=zE (200+k/128:Nat);have wn:IntKind.i64.wrap (200+(k:Int)/128)=(n4:Int):=(by rw[show 200+(k:Int)/128=(n4:Int) by omega];exact cK _ oM oM);have Ge:=aC<|qI ⟨#[118]⟩ n4 Y oD oM;have Ga:=aC G4;clear G4;have⟨tx,Gk⟩:=zE (eL (gF ⟨#[118]⟩ n4));rw[Gk]at Ge;have Ke:=aC Gk;clear Gk;go_wp2_with fail;refine Ge.mono ?_;rintro e D⟨rfl,G⟩;have X5:=V.bw G V.lt;have R:aA (fA w (D.setCell (Ua b7 4) (Um tx)) B rb f n (rx n x) b7 ii S.l ⟨m,s,O,z,tx⟩ (fS S) g L p pc H T P Q/\aF (D.setCell (Ua b7 4) (Um tx)) b7 (Uf (Uc p) m.length pc) (Un s) (Ud O) (Ud z) (Um tx)):=aC ⟨(N.bw G).setB _ _ rfl,X5.set4 _⟩;have u4:=X5.c4;have uf:=X5.f;clear X5 G x0 x1 x2 x3 x4 xf Ge;go_wp2_with fail;go_meet;exact⟨S.l,⟨m,s,O,z,tx⟩,g,L,p,pc,P,Q,aC ⟨R.1,R.2,He,oM,Hg _ _ (by rw[if_neg (by rw[M.out];decide)]) (by unfold jP;rw[if_neg (by rw[M.out];decide)];rw[if_neg (by rw[M.out];decide)];rw[if_neg (by rw[M.out];decide)];rw[if_pos M.out,Ga.out,Ke.out])⟩⟩
    |5,_=>
     have Hc:=N.pt;have Km:=N.br.lt;have Hr:aA (∀w1,Bl Y w1->Cl 72 #[Uo #[Uf (Uc p) m.length pc,Un s,Ud O,Ud z,Um A]] w1 λe w'=>∃q cap,e=Ui (Uo #[Uf (Uc q) m.length cap,Un s,Ud O,Ud z,Um A])/\Bl w1 w'/\w1.1.size<=q/\q<w'.1.size/\Wr w' q 9 m.length (λt=>Um (gS m t))/\m.length<=cap/\cap<=9223372036854775807/\w'.ownsRow w1.1.size 9 1 (Uf (Uc q) m.length cap) m.length (dJ m)):=aC (λw1 hb=>by
      exact Mf p 0 m.length pc ⟨m,s,O,z,A⟩ w1 rfl (oH Hu.2.1) (Ut Hc.lt hb.size) (λt ht=>by rw[UA];exact(hb.cell (p:=(Ua p t)) Hc.lt).trans (Hc.wr.cell ht)))
     have Hd:aA (∀w',Bl Y w'->(w'.cell? (Ub b7)=Uq (Uf (Uc p) m.length pc)/\w'.cell? (Ua b7 1)=Uq (Un s)/\w'.cell? (Ua b7 2)=Uq (Ud O)/\w'.cell? (Ua b7 3)=Uq (Ud z)/\w'.cell? (Ua b7 4)=Uq (Um A))):=aC (λw' hb=>⟨(hb.cell (p:=(Ub b7)) V.lt).trans V.c0,(hb.cell (p:=(Ua b7 1)) V.lt).trans V.c1,(hb.cell (p:=(Ua b7 2)) V.lt).trans V.c2,(hb.cell (p:=(Ua b7 3)) V.lt).trans V.c3,(hb.cell (p:=(Ua b7 4)) V.lt).trans V.c4⟩);have Ht:aA (∀D q qc,Bl Y D->Y.1.size<=q->q<D.1.size->Wr D q 9 m.length (λt=>Um (gS m t))->(m.length<=qc/\qc<=9223372036854775807)->∃q' X J,(Builtin.append_ #[23,23] 23 #[Uf (Uc g) S.l.length L,Uf (Uc D.1.size) 1 1]).run prog (D.alloc (Uj #[Uf (Uc q) m.length qc,Un s,Ud O,Ud z,Um A] 101))=.ok (Uf (Uc q') (S.l.length+1) X) J/\
       aD J w.1.size (Uf (Uc g) S.l.length L) (Uf (Uc H) (fS S).length T)/\(∃P' Q',fA w (J.setCell (Ub w.1.size) (Uf (Uc q') (S.l.length+1) X)) B rb f n (rx n x) b7 ii (S.l++[⟨m,s,O,z,A⟩]) ⟨m,s,O,z,A⟩ (fS S) q' X p pc H T P' Q'/\aF (J.setCell (Ub w.1.size) (Uf (Uc q') (S.l.length+1) X)) b7 (Uf (Uc p) m.length pc) (Un s) (Ud O) (Ud z) (Um A))/\(J.cell? (Ub b7)=Uq (Uf (Uc p) m.length pc)/\J.cell? (Ua b7 1)=Uq (Un s)/\J.cell? (Ua b7 2)=Uq (Ud O)/\J.cell? (Ua b7 3)=Uq (Ud z)/\J.cell? (Ua b7 4)=Uq (Um A))/\((J.setCell (Ub w.1.size) (Uf (Uc q') (S.l.length+1) X)).cell? (Ub b7)=Uq (Uf (Uc p) m.length pc)/\(J.setCell (Ub w.1.size) (Uf (Uc q') (S.l.length+1) X)).cell? (Ua b7 1)=Uq (Un s)/\(J.setCell (Ub w.1.size) (Uf (Uc q') (S.l.length+1) X)).cell? (Ua b7 2)=Uq (Ud O)/\(J.setCell (Ub w.1.size) (Uf (Uc q') (S.l.length+1) X)).cell? (Ua b7 3)=Uq (Ud z)/\(J.setCell (Ub w.1.size) (Uf (Uc q') (S.l.length+1) X)).cell? (Ua b7 4)=Uq (Um A))):=aC (λD q qc hb h1 h2 h3 h4=>by
      have⟨q',X,J,hr,Kn,Gu⟩:=H9.app hb oM oM ⟨m,s,O,z,A⟩ q qc oM h2 (λe=>oH ((H9.lt q e.symm).2)) h3 h4;have H1:=V.lt;have Kf:=N.gn.2.2;have⟨A7,M7⟩:=N.more hb Kn Gu (λj hj=>by
       (try dsimp only)
       rw[if_neg oM];by_cases e:j=ii
       .rw[e,Kc.out];exact Hc.nb
       .exact(N.pts j hj e).nb) (by(try dsimp only);rw[if_pos rfl];omega) H1
      have gg:D.grownBy J (Uq g):=Gu.g;have e7:J.1[b7]? =Y.1[b7]? :=(gg.block b7 (Ut H1 hb.size) (λe=>Kf (by injection e with e;exact e.symm))).trans<|hb.block b7 H1;have e8:(J.setCell (Ub w.1.size) (Uf (Uc q') (S.l.length+1) X)).1[b7]? =Y.1[b7]? :=(zH _ _ _ _ (by have:=N.hb;simp;omega)).trans e7;have cc:∀{w8:Ur},w8.1[b7]? =Y.1[b7]?->Y.1.size<=w8.1.size->aF w8 b7 (Uf (Uc p) m.length pc) (Un s) (Ud O) (Ud z) (Um A):=fun{w8} e hs=>by
       have q:=λo=>Vy (w:=Y) (w':=w8) (a:=(Ua b7 o)) e;exact⟨(q 0).trans V.c0,(q 1).trans V.c1,(q 2).trans V.c2,(q 3).trans V.c3,(q 4).trans V.c4,λi=>(Vz (a:=(Ua b7 i)) e).trans (V.f i),Ut V.lt hs⟩
      have s7:Y.1.size<=J.1.size:=Uz hb.size gg.size;have X7:=cc e7 s7;have X8:=cc e8 (by simpa[Vr]using s7);exact⟨q',X,J,hr,A7,⟨_,_,M7,X8⟩,⟨X7.c0,X7.c1,X7.c2,X7.c3,X7.c4⟩,⟨X8.c0,X8.c1,X8.c2,X8.c3,X8.c4⟩⟩)
     have H6:=aC N.bs;have H7:aA (∀w',Bl Y w'->w'.cell? (Ub w.1.size)=Uq (Uf (Uc g) S.l.length L)):=aC<|λw' hb=>(hb.cell (p:=(Ub w.1.size)) H6.lt).trans H6.c0;clear Hc;have t0:=H6.c0;go_wp2_with fail;clear t0;refine zS Hd<|λqh=>?_;clear x0 x1 x2 x3 x4 xf;refine tZ 0 73 ?_;refine tZ 2 75 ?_;refine fU (i:=1) (j:=3) (d:=Uq 74) (d':=Uq 76) oK oK oK ?_ ?_;have t0:=H7 _ zI.drew;all_goals intro o ho Gi K U;simp only[eB,dZ,dY,eU]at ho;subst ho
     focus
      go_simp;refine bZ U (Hd _ zI.drew)<|λqh=>?_;clear U K;clear t0;refine cZ 3 ?_;intro K U
     all_goals go_simp;refine(Hr _ zI.drew).mono ?_;rintro e D⟨q,qc,rfl,G,p1,p2,Hf,q1,I,H3⟩;have Hb:Bl Y D:=⟨G.os,G.tape,G.output,G.size,G.block⟩;have Hi:Bl Y (D.alloc (Uj #[Uf (Uc q) m.length qc,Un s,Ud O,Ud z,Um A] 101)):=Hb.alloc Hb.size _;have⟨q',X,J,Ha,A7,M7,c7,l7⟩:=Ht D q qc Hb p1 p2 Hf ⟨q1,I⟩;have Hz:=aC M7;refine bZ U (Hd _ Hb)<|λqh=>?_;clear U K
     .exact pH
     .refine fU (i:=1) (j:=4) (d:=Uq 74) (d':=Uq 77) oK oK oK ?_ ?_;have t0:=H7 _ Hb;all_goals intro o ho Gi K U;simp only[eB,dZ,dY,eU]at ho;subst ho;go_simp
      .refine bZ U (Hd _ Hb)<|λqh=>?_;clear U K;clear t0;exact pH
      .refine bZ U (Hd _ Hi)<|λqh=>?_;clear U K;have t0:=H7 _ Hi;refine cZ 1 ?_;intro K U;go_simp;refine bZ U (Hd _ Hi)<|λqh=>?_;clear U K;clear t0;exact Ph
    |6,_=>have R:aA (fA w (Y.setCell (Ua b7 2) (Ud 7)) B rb f n (rx n x) b7 ii S.l ⟨m,s,7,z,A⟩ (fS S) g L p pc H T P Q/\aF (Y.setCell (Ua b7 2) (Ud 7)) b7 (Uf (Uc p) (⟨m,s,7,z,A⟩:Lf).p.length pc) (Un (⟨m,s,7,z,A⟩:Lf).fl) (Ud (⟨m,s,7,z,A⟩:Lf).r) (Ud (⟨m,s,7,z,A⟩:Lf).q) (Um (⟨m,s,7,z,A⟩:Lf).v)):=aC ⟨N.setB _ _ rfl,V.set2 _⟩;go_wp2_with fail;go_meet;exact⟨S.l,⟨m,s,7,z,A⟩,g,L,p,pc,P,Q,aC ⟨R.1,R.2,He,oM,Hg _ _ (by rw[if_neg (by rw[M.out];decide)]) (by unfold jP;rw[if_neg (by rw[M.out];decide)];rw[if_neg (by rw[M.out];decide)];rw[if_neg (by rw[M.out];decide)];rw[if_neg (by rw[M.out];decide)];rw[if_neg (by rw[M.out];decide)];rw[if_pos M.out])⟩⟩
    |7,_=>
     have Hf:=N.pt.wr;have Hx:0<m.length:=oH Hu.1;have j0:=Hf.cell (i:=0) Hx;have jf:=Hf.frozen 0;have R:aA (fA w (Y.setCell (Ub p) (Um ⟨#[99]⟩)) B rb f n (rx n x) b7 ii S.l ⟨m.set 0 ⟨#[99]⟩,s,O,z,A⟩ (fS S) g L p pc H T P Q/\aF (Y.setCell (Ub p) (Um ⟨#[99]⟩)) b7 (Uf (Uc p) m.length pc) (Un s) (Ud O) (Ud z) (Um A)):=aC (by
      have hp:=N.pt;refine⟨N.chg (r:=p) ⟨rfl,rfl,rfl,by simp[Vr],λq hq hne=>zH _ _ _ _ (λe=>hne (by rw[e]))⟩ ⟨hp.lo,hp.ng,Gn,Hs⟩ ⟨hp.lo,by simpa[Vr]using hp.lt,hp.ng,hp.nb,?_,oU hp.c1,hp.c2⟩,V.setAt _ _ hp.nb⟩;have⟨Hj,q1,I,q3⟩:=hp.wr;have I:m.length<=Hj.size:=I;have q3:∀i,i<m.length->Hj[i]? =Uq (Um (gS m i)):=q3;have qz:0<Hj.size:=oM;refine⟨Hj.setIfInBounds 0 (Um ⟨#[99]⟩),?_,oU I,λt ht=>?_⟩
      .exact SE q1
      .simp only[KE]at ht;by_cases e:t=0
       .subst e;simp[gS,UL,Hx,KL,qz]
       .rw[show(Hj.setIfInBounds 0 (Um ⟨#[99]⟩))[t]? =Hj[t]? by simp[KL,Ne.symm e],q3 t ht];simp[gS,UL,KC (Ne.symm e)])
     clear Hf;go_wp2_with fail;go_meet;have Kg:(m.set 0 (⟨#[99]⟩:ByteArray)).length=m.length:=KE;exact⟨S.l,⟨m.set 0 ⟨#[99]⟩,s,O,z,A⟩,g,L,p,pc,P,Q,aC ⟨R.1,by(try dsimp only);rw[Kg];exact R.2,He,oM,Hg _ _ (by rw[if_neg (by rw[M.out];decide)]) (by unfold jP;rw[if_neg (by rw[M.out];decide)];rw[if_neg (by rw[M.out];decide)];rw[if_neg (by rw[M.out];decide)];rw[if_neg (by rw[M.out];decide)];rw[if_neg (by rw[M.out];decide)];rw[if_neg (by rw[M.out];decide)])⟩⟩
   case rest=>
    have⟨l',y',g',c',p',H5,P',Q',HH⟩:=hcut;have⟨m1,m2,m3,m4,m5⟩:=HH.out;have⟨W5,Hk⟩:=zE (((((wc.setCell (Ua g' (ii*5)) (Uf (Uc p') y'.p.length H5)).setCell (Ua g' (ii*5+1)) (Un y'.fl)).setCell (Ua g' (ii*5+2)) (Ud y'.r)).setCell (Ua g' (ii*5+3)) (Ud y'.q)).setCell (Ua g' (ii*5+4)) (Um y'.v));have⟨A5,R5,h7⟩:=m1.fin m3 Hk;have HF:=aC<|h7 _ rfl;have⟨q0,q1⟩:=m1.bs.q2;have⟨x0,x1,x2,x3,x4⟩:=m2.q5;have hw:=tW m1.row;have⟨Gp,Gq,Gr,Gs,Gt⟩:=Ba l' P' Q' ii;have z0:=(hw.cell (i:=ii*5) oM).trans<|congrArg Uq Gp;have z1:=(hw.cell (i:=ii*5+1) oM).trans<|congrArg Uq Gq;have z2:=(hw.cell (i:=ii*5+2) oM).trans<|congrArg Uq Gr;have z3:=(hw.cell (i:=ii*5+3) oM).trans<|congrArg Uq Gs;have z4:=(hw.cell (i:=ii*5+4) oM).trans<|congrArg Uq Gt;have zf:=λt=>hw.frozen t;have⟨v0,v1⟩:=A5.q2;have⟨o0,o1,of⟩:=R5.p2;have i4:(ii:Int)<(l'.length:Int):=oM;have HE:=aC m5;clear A5 R5 h7 m1 m2 m5 hw Gp Gq Gr Gs Gt HH N H9 Gb V Hw Kp i2 d0 d1;go_wp2_with fail;have⟨X7,Hl,r7,g7⟩:=HF.out;have⟨y0,y1⟩:=X7.q2;rw[HE.out]at Hl;have Kh:(kX k S.l).length=l'.length:=(by rw[<-HE.out];simp);obtain⟨rfl,rfl⟩:=Ka.out;refine zF (v:=Uo #[Uf (Uc g') l'.length c',Uf (Uc H) (fS S).length T]) (by simp[results,results71,go_sem,y0,y1]) ?_;have G0:Ending.returned (Uo #[Uf (Uc g') l'.length c',Uf (Uc H) (fS S).length T])=Ui (Uo #[Uf (Uc g') (cT (kX k S.l) (fS S)).l.length c',Uf (Uc H) (cT (kX k S.l) (fS S)).n T]):=by
     rw[show(cT (kX k S.l) (fS S)).l.length=l'.length from Kh];rfl
    first
     |exact⟨_,c',_,T,G0,Hl,r7,g7⟩
     |exact⟨_,c',_,⟨T,G0⟩,Hl,r7,g7⟩
def rA(m i:Nat):ByteArray:=eL (gF ⟨#[118]⟩ (if i=19 then m else 200))
def Av(m i:Nat):Lf:=⟨[eL [97+(i:Int)]],false,0,((i+1:Nat):Int),rA m i⟩
def gP(m k:Nat):List Lf:=(Vb k).map (Av m)
theorem jL(m k:Nat):(gP m k).length=k:=by simp[gP]
theorem PK(m k:Nat):gP m (k+1)=gP m k++[Av m k]:=by simp[gP,List.range_succ]
theorem Ci{k:Nat}(h:i<k):gL (gP m k) i=Av m i:=by simp[gL,UL,gP,h]
def jA(m:Nat):Sx:=⟨gP m 20,1,λ_=>0,λ_=>1,λ_=>20⟩
theorem EN:∀i:Nat,i<20->0<i->Op.bytesLess (eL [97+((i-1:Nat):Int)]).data.toList (eL [97+(i:Int)]).data.toList=true:=by decide+kernel
theorem Ch(hm:m<=200):bG (λ_=>0) (λ_=>1) (λ_=>20) 1 (gP m 20):=by
 refine⟨oD,by rw[jL];omega,λi hi=>?_,λi hi j hj=>?_⟩
 .rw[jL]at hi;rw[Ci hi];refine⟨⟨⟨Ux _,by show 1<=8;omega,λt ht=>?_⟩,?_,λh=>by cases h⟩,?_,λh0=>?_⟩
  .obtain rfl:t=0:=(by have:t<1:=ht;omega);show 1<=(eL [97+(i:Int)]).size/\(eL [97+(i:Int)]).size<=40;rw[uH];simp
  .show(rA m i).size<=200;unfold rA;rw[uH,yR];have:(⟨#[118]⟩:ByteArray).size=1:=rfl;rw[this];split<;>omega
  .show cE (λ_=>0) (λ_=>1) (λ_=>20) 0 ((i+1:Nat):Int) ((i+1:Nat):Int) 1=true;simp[cE];omega
  .rw[Ci oM];have q:kA (eL [97+((i-1:Nat):Int)]) (eL [97+(i:Int)])=true:=by
    unfold kA;rw[ByteArray.toList_eq,ByteArray.toList_eq];exact EN i hi h0
   have k:aW [eL [97+((i-1:Nat):Int)]] [eL [97+(i:Int)]]= -1:=by
    unfold aW dD;rw[if_pos q];rfl
   show dX (aW [eL [97+((i-1:Nat):Int)]] [eL [97+(i:Int)]]) _<0;rw[k];simp[dX]
 .rw[jL]at hi;rw[Ci hi,Ci oM];rintro⟨_,h⟩;have:((j+1:Nat):Int)=((i+1:Nat):Int):=h;omega
theorem LC.setBo{b:Nat}{l:List Lf}{P Q:Nat->Nat}(h:LC w lo v l P Q)(hv:v.ownBlock≠Uq b)(hP:∀j,j<l.length->P j≠b):LC (w.setCell (Ua b i) u) lo v l P Q:=
 ⟨dK h.row (λg hg=>zH _ _ _ _ (λe=>hv (by rw[hg,e]))),λj hj=>by
  have⟨m,q,r,k⟩:=h.pt j hj;exact⟨m,by simpa[Vr]using q,r,k.1.same (zH _ _ _ _ (λe=>hP j hj e)),k.2⟩⟩
structure vD(w wr:Ur)(m j g c:Nat)(P Q:Nat->Nat):Prop where
 bx:aD wr (w.1.size+1+1) (Uf (Uc g) j c) Ue
 lc:LC wr (w.1.size+1) (Uf (Uc g) j c) (gP m j) P Q
 gb:g≠w.1.size+1+1
 pb:∀i,i<j->P i≠w.1.size+1+1
 rs:aD wr w.1.size Ue Ue
 low:Bl w wr
 sz:w.1.size+3<=wr.1.size
theorem vD.bw{j:Nat}{P Q:Nat->Nat}(h:vD w wr m j g c P Q)(hb:Bl wr w1):vD w w1 m j g c P Q:=
 ⟨h.bx.bw hb h.bx.lt,h.lc.bw hb,h.gb,h.pb,h.rs.bw hb h.rs.lt,aE h.low hb,Uz h.sz hb.size⟩
theorem P7(k:Nat)(hk:k<16)(w:Ur):
  Cl 43 #[Ud (k:Int)] w λe w'=>∃a c x d,e=Ui (Uo #[Uf a (jA (30+k%10)).l.length c,Uf x (jA (30+k%10)).n d])/\aT w' w.1.size a c x (jA (30+k%10))/\Bl w w':=by
 have⟨i0,hi,Hw,Hx,Hy⟩:=info_parts yZ;have⟨m,hm⟩:=zE (30+k%10);have Hv:IntKind.i64.wrap (30+(k:Int)%10)=(m:Int):=by rw[show 30+(k:Int)%10=(m:Int) by omega];exact cK _ oM oM
 have Ht:m<=1000:=oM;rw[hm];clear hm;have H:aA (vD w (((w.alloc (Uj #[Ue,Ue] 28)).alloc (Uj #[] 101)).alloc (Uj #[Uf (Uq (Ua (w.1.size+1) 0)) 0 0,Ue] 28)) m 0 (w.1.size+1) 0 (λ_=>0) (λ_=>0)):=aC (by
  have R:=Vo (base:=w.1.size+1) (e:=101) (size:=5) (w.alloc (Uj #[Ue,Ue] 28)) #[] 0 oP oL rfl;refine⟨?_,⟨?_,λi hi=>by simp[gP]at hi⟩,oM,λi hi=>oM,((aD.made w _ _ _).allocs _).allocs _,(aU _ _ _).alloc oS _,oP⟩
  .simpa using aD.made ((w.alloc (Uj #[Ue,Ue] 28)).alloc (Uj #[] 101)) (Uf (Uq (Ua (w.1.size+1) 0)) 0 0) Ue 28
  .have R2:=dK R (λg hg=>(zO _ (Uj #[Uf (Uq (Ua (w.1.size+1) 0)) 0 0,Ue] 28)).block g (R.lt g hg).2);simpa[gP]using R2)
 go_enter func43,ntmps43;go_wp2_with fail;have⟨W3,B⟩:=zE ((((w.alloc (Uj #[Ue,Ue] 28)).alloc (Uj #[] 101)).alloc (Uj #[Uf (Uq (Ua (w.1.size+1) 0)) 0 0,Ue] 28)));rw[B]at H;try rw[B]
 clear B;go_loopw [5] (λi wr=>∃(j g c:Nat) (P Q:Nat->Nat),j<=20/\i=Ud (j:Int)/\aA (vD w wr m j g c P Q)) (λi _=>20-(intOf i).toNat);case atStart=>exact⟨0,_,_,_,_,UB _,rfl,H⟩
 case round=>
  clear H;obtain⟨j,g,c,P,Q,hj,rfl,r⟩:=hrel;by_cases Hs:j<20
  .have i1:(j:Int)<20:=oM;have⟨u,Hc⟩:=zE (97+j:Nat);have w1:IntKind.i64.wrap (97+(j:Int))=(u:Int):=(by rw[show 97+(j:Int)=(u:Int) by omega];exact cK _ oM oM);have v1:IntKind.u8.wrap (u:Int)=(u:Int):=(by rw[IntKind.wrap_u8];omega);have Hd:[97+(j:Int)]=[(u:Int)]:=(by rw[show 97+(j:Int)=(u:Int) by omega]);go_wp2_with fail;refine(qI ⟨#[118]⟩ 200 wr oD oM).mono ?_;rintro e u1⟨rfl,Hj⟩;have G:=aC Hj;clear Hj;go_upto_if 18 with fail;go_cut [6]from 15 to 22 (λv wx=>v=Um (rA m j)/\aA (Bl wr wx));case first=>
    by_cases N:j=19
    .have e1:((j:Int)==19)=true:=oS;have Hp:=aC N;clear N;go_wp2_with fail;refine(qI ⟨#[118]⟩ m u1 oD Ht).mono ?_;rintro e u2⟨rfl,Hk⟩;have Hq:=aC<|aE G Hk;clear Hk;go_wp2_with fail;go_meet;exact⟨by unfold rA;rw[if_pos Hp.out],Hq⟩
    .have e1:((j:Int)==19)=false:=oS;go_wp2_with fail;go_meet;exact⟨by unfold rA;rw[if_neg N],G⟩
   case rest=>
   obtain⟨rfl,Hh⟩:=hcut;have J:=aC<|r.bw Hh;clear r Hh G;have⟨wr,Hm⟩:=zE wc;rw[Hm]at J⊢;have r:=J;clear J Hm;have⟨vv,Hb⟩:=zE (rA m j);rw[Hb];have⟨o,W⟩:=zE (eL [97+(j:Int)]);have Hu:(convert 22 9 (Uf (Uc wr.1.size) 1 1)).run prog (wr.alloc (Uj #[Ug .u8 (u:Int)] 5))=.ok (Um o) (wr.alloc (Uj #[Ug .u8 (u:Int)] 5)):=by
    have hO:Own (wr.alloc (Uj #[Ug .u8 (u:Int)] 5)) wr.1.size (Uf (Uc wr.1.size) 1 1) [97+(j:Int)]:=by
     rw[Hd];exact Vo (base:=wr.1.size) (e:=5) (size:=1) wr #[Ug .u8 (u:Int)] 1 zL oL rfl
    have:=Tc ⟨hO,λz hz=>by rw[Hd]at hz;simp at hz;omega⟩ 0;rw[JV,W]at this;exact this
   have A:Bl wr ((wr.alloc (Uj #[Ug .u8 (u:Int)] 5)).alloc (Uj #[Um o] 9)):=aU _ _ _;have M:((wr.alloc (Uj #[Ug .u8 (u:Int)] 5)).alloc (Uj #[Um o] 9)).1.size=wr.1.size+1+1:=oP;have T:=r.sz;have F:=(r.lc.lt g rfl);have hR:((wr.alloc (Uj #[Ug .u8 (u:Int)] 5)).alloc (Uj #[Um o] 9)).ownsRow (wr.1.size+1) 9 1 (Uf (Uq (Ua (wr.1.size+1) 0)) 1 1) 1 ((Vb (1*1)).map λt=>Um (gS [o] t)):=by
    have:=Vo (base:=wr.1.size+1) (e:=9) (size:=1) (wr.alloc (Uj #[Ug .u8 (u:Int)] 5)) #[Um o] 1 oP oL rfl;simpa[gS]using this
   have⟨L,c',w7,C,E,s⟩:=LC.app r.lc A oM (by rw[jL];omega) ⟨[o],false,0,((j+1:Nat):Int),vv⟩ (wr.1.size+1) 1 oM (by rw[M];omega) (λe=>by simp[Value.ownBlock]at e;omega) (oU (tW hR)) oP;rw[M,jL]at C;rw[jL]at E s;have D:L≠w.1.size+1+1:=by
    have h1:=r.gb;rcases s.l with e|⟨q,e,h⟩
    .simp[Value.ownBlock]at e;omega
    .simp[Value.ownBlock]at e;rw[M]at h;omega
   have X:∀i,i<j+1->(if i=j then wr.1.size+1 else P i)≠w.1.size+1+1:=λi hi=>by
    by_cases e:i=j
    .rw[if_pos e];omega
    .rw[if_neg e];exact r.pb i oM
   have He:∀b,g≠b->∀k,(Value.slice (Uc g) j c).ownBlock=Uq k->k≠b:=λb hb k e e2=>hb (by simp[Value.ownBlock]at e;omega);have Y:=(r.bx.bw A r.bx.lt).gr s.g (He _ r.gb);have V:=(r.rs.bw A r.rs.lt).gr s.g (He _ oM);have Ha:Bl w w7:=(r.low.trans (A.mono oM)).trans (s.bw (by rw[M];omega) (λk e=>by simp[Value.ownBlock]at e;omega));have z7:=s.g.size;rw[M]at z7;have HN:aA (vD w (w7.setCell (Ua (w.1.size+1+1) 0) (Uf (Uc L) (j+1) c')) m (j+1) L c' (λi=>if i=j then wr.1.size+1 else P i) (λi=>if i=j then 1 else Q i)):=aC (by
    refine⟨Y.set0 _,?_,D,X,V.setAt _ _ oQ,Ha.setCell (p:=(Ua (w.1.size+1+1) 0)) oS _,by simp[Vr];omega⟩;have l8:gP m (j+1)=gP m j++[⟨[o],false,0,((j+1:Nat):Int),vv⟩]:=(by rw[PK];unfold Av;rw[W,Hb]);rw[l8];exact E.setBo (λe=>D (by simpa[Value.ownBlock]using e)) (λi hi=>X i (by simpa[jL]using hi)))
   have x0:=r.bx.c0;have x1:=(r.bx.allocs (Uj #[Ug .u8 (u:Int)] 5)).c0;have y0:=Y.c0;have yf:=Y.f;have wj:IntKind.i64.wrap ((j:Int)+1)=((j+1:Nat):Int):=(by rw[show(j:Int)+1=((j+1:Nat):Int) by omega];exact cK _ oM oM);clear Hd W A M T F hR E s D X He Y V Ha z7 Hc Hb r;go_wp2_with (at_builtin;refine cL rfl _ _ _ _ rfl C (by rfl) (by rfl) rfl ?_;clear C);go_roundw;case rel=>exact⟨j+1,_,_,_,_,Hs,oN,HN⟩
   case measure=>exact oE
  .obtain rfl:j=20:=oM;have i1:¬(20:Int)<20:=oM;have T:=r.sz;have F:=(r.lc.lt g rfl);have⟨y,U⟩:=zE (wr.alloc (Uj #[Ud 0,Ud 1,Ud 20] 103));have O:Bl wr y:=U▸zO _ _;have z5:y.1.size=wr.1.size+1:=U▸oP;have q0:y.cell? (Ub wr.1.size)=Uq (Ud 0):=U▸oP;have q1:y.cell? (Ua wr.1.size 1)=Uq (Ud 1):=U▸oP;have Z:y.cell? (Ua wr.1.size 2)=Uq (Ud 20):=U▸oP;have K:=r.bx.bw O r.bx.lt;have Ho:=r.rs.bw O r.rs.lt;have Hn:=r.lc.bw O;have Hl:=K.set1<|Uf (Uc wr.1.size) 1 1;have Hf:=Ho.setAt (Ua (w.1.size+1+1) 1) (Uf (Uc wr.1.size) 1 1) oQ;have V:=Hf.set (Uf (Uc g) 20 c)<|Uf (Uc wr.1.size) 1 1;have S:∀i,i<(gP m 20).length->w.1.size+1<=P i:=λi hi=>(r.lc.pt i hi).1;have E:LC (((y.setCell (Ua (w.1.size+1+1) 1) (Uf (Uc wr.1.size) 1 1)).setCell (Ub w.1.size) (Uf (Uc g) 20 c)).setCell (Ua w.1.size 1) (Uf (Uc wr.1.size) 1 1)) (w.1.size+1) (Uf (Uc g) 20 c) (gP m 20) P Q:=
    ((Hn.setBo (λe=>r.gb (by simpa[Value.ownBlock]using e)) (λi hi=>r.pb i (by simpa[jL]using hi))).setBo (λe=>by simp[Value.ownBlock]at e;omega) (λi hi=>oH (S i hi))).setBo (λe=>by simp[Value.ownBlock]at e;omega) (λi hi=>oH (S i hi))
   have Hi:=aC E;have Hr:=aC V;have Hg:aA (Bl w (((y.setCell (Ua (w.1.size+1+1) 1) (Uf (Uc wr.1.size) 1 1)).setCell (Ub w.1.size) (Uf (Uc g) 20 c)).setCell (Ua w.1.size 1) (Uf (Uc wr.1.size) 1 1))):=aC ((((aE r.low O).setCell (p:=(Ua (w.1.size+1+1) 1)) oS _).setCell (p:=(Ub w.1.size)) zL _).setCell (p:=(Ua w.1.size 1)) zL _);have HQ:aA ((∀i,i<3->(((y.setCell (Ua (w.1.size+1+1) 1) (Uf (Uc wr.1.size) 1 1)).setCell (Ub w.1.size) (Uf (Uc g) 20 c)).setCell (Ua w.1.size 1) (Uf (Uc wr.1.size) 1 1)).cell? (Ua wr.1.size i)=y.cell? (Ua wr.1.size i))/\wr.1.size<y.1.size/\w.1.size<=wr.1.size):=aC ⟨λi hi=>by
    rw[Vt _ _ _ _ (by simp<;>omega),Vt _ _ _ _ (by simp<;>omega),Vt _ _ _ _ (by simp<;>omega)],oM,oM⟩
   have⟨x0,x1,xf⟩:=K.p2;have⟨y0,y1⟩:=Hl.q2;have⟨o0,o1,of⟩:=Hf.p2;have I:=aC<|And.intro q0 (And.intro q1 Z);clear O z5 q0 q1 Z K Ho Hn Hl Hf V E S r T F;go_wp2_with fail;have⟨s0,s1⟩:=Hr.q2;refine zF (v:=Uo #[Uf (Uc g) 20 c,Uf (Uc wr.1.size) 1 1]) (by simp[results,results43,go_sem,s0,s1]) ?_;have G0:Ending.returned (Uo #[Uf (Uc g) 20 c,Uf (Uc wr.1.size) 1 1])=Ui (Uo #[Uf (Uc g) (jA m).l.length c,Uf (Uc wr.1.size) (jA m).n 1]):=by
    rw[show(jA m).l.length=20 from jL m 20];rfl
   have G1:aT (((y.setCell (Ua (w.1.size+1+1) 1) (Uf (Uc wr.1.size) 1 1)).setCell (Ub w.1.size) (Uf (Uc g) 20 c)).setCell (Ua w.1.size 1) (Uf (Uc wr.1.size) 1 1)) w.1.size (Uc g) c (Uc wr.1.size) (jA m):=⟨λw' k1 k2=>by
    constructor
    .have:=(Hi.move k1 (λq h1 h2=>k2 q oM h2));exact this.lcap (by rw[jL])
    .have h:=HQ.out;have e:=k2 wr.1.size h.2.2 (by simp[Vr];exact h.2.1);refine .inr ⟨wr.1.size,0,rfl,Ut (by simp[Vr];exact h.2.1) k1,λi hi=>?_⟩;obtain rfl:i=0:=(by have:i<1:=hi;omega);exact⟨(Vy (a:=(Ua wr.1.size (0+0*3))) e).trans ((h.1 0 oM).trans I.1),(Vy (a:=(Ua wr.1.size (0+0*3+1))) e).trans ((h.1 1 oM).trans I.2.1),(Vy (a:=(Ua wr.1.size (0+0*3+2))) e).trans ((h.1 2 oM).trans I.2.2)⟩,Hi.cp (jL _ _)⟩
   first
    |exact⟨_,c,_,1,G0,G1,Hg⟩
    |exact⟨_,c,_,⟨1,G0⟩,G1,Hg⟩
end Go.Proofs.YtnabjmnfhkcnjaaGreatDoor
