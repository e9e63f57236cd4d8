import Derived.Test.YtnabjmnfhkcnjaaGreatDoorRzg03
import Derived.Shelf.SlSortCmp.WholeK
import Derived.Lib.SlicesCompact
import Derived.RegionTactic
import Derived.ChangeAlike
import Derived.WalkSmall
import Derived.Shelf.SlIter.Collect
import Derived.Laws.BytesArg
import Derived.Laws.Concat
import Derived.Deep.Slices
import Derived.Deep.Strs
set_option linter.unusedVariables false
set_option linter.unusedSimpArgs false
set_option maxRecDepth 100000
set_option maxHeartbeats 40000000
namespace Go.Proofs.YtnabjmnfhkcnjaaGreatDoor
open Go.ChangeShapes Go.WideShapes Go.ChangeAt Go.RowKit Go.Maps Go.Proofs.Tryz
open Go.Value renaming slice->Uf,int->Ug,pointer->Uk,tuple->Ul,string->Um,bool->Un,agg->Uo
open Go.IntKind renaming i64->Uh
open Go.Ending renaming returned->Ui
open Go.Obj renaming cells->Uj
open Option renaming none->Up,some->Uq
open Go.RowKit renaming Hid->aA
open Go renaming World->Ur,Addr->Us,Value->aB
open Nat renaming zero_le->UB,le_trans->Uz,le_refl->Ux,lt_of_lt_of_le->Ut,lt_trichotomy->VL,add_assoc->UF,le_succ->UD,zero_add->UA,mul_one->VM
open List renaming append_assoc->Ve,take_add_one->Vc,getD->UL,take_length->Vj,map_append->UN,map_cons->UQ,map_nil->VN,append_nil->VO,mem_cons_self->Vf,mem_cons_of_mem->Vg,flatMap_cons->VP,length_append->UM,foldl_cons->VQ,take_of_length_le->VR,mem_cons->VS,pairwise_iff_getElem->VT,nodup_nil->VU,mem_singleton->UY,range->Vb,getElem?_take_of_lt->VV,getElem?_eq_none->UT,length_cons->UP,take_prefix->VW,cons_append->VX,mem_of_getLast?->VY,mem_append->VZ,prefix_refl->Ya,mem_map->Yb,length_singleton->Yc,range_succ->Yd,map_congr_left->Ye,prefix_append->Yf,sum_cons->Yg,flatMap_append->Yh,flatMap_nil->Yi,nil_append->Yj,nil_prefix->Yk,length->Yl,foldl_append->Ym,getElem?_append_left->Yn,getLast_mem->Yo,getElem?_range->Yp,getElem?_map->Yq,not_mem_nil->Yr
open Int renaming natCast_nonneg->VH,lt_or_eq_of_le->Ys
open Go.World renaming setCell->Vr,cell?_setCell_other->Vt,cell?_setCell_same->Vs,frozen?_setCell->Vq,cell?_of_block->Vy,frozen?_of_block->Vz,cell?_setCell_far->Vp,cell?_alloc_past->VD,cell?_alloc_at->VC,frozen?_alloc_at->VE,grownBy_alloc->VA,frozen?->Yt,ownsRow_lit->Vo
open Go.IntKind renaming wrap_u64->Vn
open Option renaming some->Yu,map_eq_some_iff->Yv
variable {B D M V b bm c cb e g h i j k lo n tb ub x':Nat}{F R T f:Nat->Int}{J J' acc l la lb ls m:List Lf}{L:Int->List (Int×Int)}{P:Program}{a:Option Us}{d:Dt}{kind q qf qr qt r:Int}{p:List ByteArray}{row:Option Nat}{s:ByteArray}{sa sb:List Rn}{t':TypeId}{u5 u6 v v' v0 v1 v2 v3 v4 vw:aB}{w' w1 wr:Ur}{x:Lf}{x0:Nat×Nat}{xs:List aB}{y:Ky}{z:List Ky}
variable {EX : Nat-> Option aB}
theorem SN{w0 w:Ur}{x:Nat}{g:List (Int×List (Int×Int))}{D0:DataW aB}{G0:Int->aB}(h:Cu EX w cb a n c f x)(U:nK (-1) 1000 g)(hR:Rb f n x (pW g) x')
  (hsb:∀y,a=Uq y->y.block<w0.1.size) (hc0:cb<w0.1.size) (hbm:w0.1.size<=bm) (hg0:w0.grownBy w (Uq cb)) (hG:eJ w bm 0 D0 G0 (λ_=>[])) (hGb:∀r g,(G0 r).ownBlock=Uq g->w0.1.size<=g):
  Cl 214 #[Uk (Uc cb),.map (Uq bm)] w λe w'=>e=Ui .nilIface/\w0.grownBy w' (Uq cb)/\Cu EX w' cb a n c f x'/\∃(nn:Nat) (D:DataW aB) (G:Int->aB),eJ w' bm nn D G (rB g)/\∀r g,(G r).ownBlock=Uq g->w0.1.size<=g:=by
 have⟨y0,r1,r2⟩:=hR.app;have He:=T3 g _ _ U oM oM;have J:=aC (oT (most:=8) h oM oM r1);have⟨V,N⟩:=zE g.length;rw[N]at J He;have K:=aC N;have HR:=aC (And.intro U r2);have F:=aC hg0;have R:=aC hG;have P:=aC hGb;have Hp:=aC hsb;go_enter func214,ntmps214;go_wp2_with fail;refine J.mono ?_;rintro e w1⟨rfl,L,cu⟩;have HG:=aC (iN F L);have HC:=aC cu;have S:=aC (R.gr (row:=Uq cb) L (λe=>oI e) (λr g hg e=>by injection e with e;have:=P r g hg;omega));go_wp2_with fail;go_loopw [7,8,22] (λlv bv iv wr=>∃(k y:Nat) (u o:Int) (D:DataW aB) (G:Int->aB),k<=V/\iv=Ud (k:Int)/\lv=Ud u/\bv=Ud o/\-1<=o/\o<=7/\0<=u/\u<=1000/\
  aA (eJ wr bm k D G (rB (g.take k)))/\aA (∀r g,(G r).ownBlock=Uq g->w0.1.size<=g)/\aA (Cu EX wr cb a n c f y)/\aA (w0.grownBy wr (Uq cb))/\bm<wr.1.size/\aA (nK o u (g.drop k)/\Rb f n y (iS (g.drop k)) x')) (λ_ _ iv _=>V-(intOf iv).toNat)
 case atStart=>exact⟨0,y0,1000, -1,D0,G0,UB _,rfl,rfl,rfl,oM,oM,oM,oM,S,P,HC,HG,S.own.lt,HR⟩
 case round=>
  obtain⟨k,y,u,o,D,G,U,rfl,rfl,rfl,Hw,Hx,H0,Ht,O,X,M,Q,Hz,Z⟩:=hrel;have zr:=Q.size;by_cases Hi:k<V
  .have⟨p,hp,ht⟩:=qG (l:=g) (k:=k) (by rw[K.out];exact Hi);have⟨Hj,Y⟩:=Z.out;rw[hp]at Hj Y;have⟨o1,o2,o3,H,o5,B,C⟩:=Hj;have⟨r,l⟩:=p;dsimp only at o1 o2 o3 H o5 B C;have⟨x2,q1,q2⟩:=(show Rb f n y ((aI 9 r.toNat++(aI 9 l.length++gU 1 l))++iS (g.drop (k+1))) x' from by
    have e:iS ((r,l)::g.drop (k+1))=aI 9 r.toNat++aI 9 l.length++gU 1 l++iS (g.drop (k+1)):=rfl;rw[e]at Y;simpa only[Ve]using Y).app
   have W:=aC<|OY M o1 o2 o3 o5 Ht H B q1;have I:=aC<|And.intro C (And.intro q2 ht);have Hn:=aC H;have⟨c0,c1,c2,_⟩:=M.cur;go_wp2_with fail;refine W.mono ?_;rintro e w2⟨v,⟨rfl,E,Hg⟩,s⟩;have z2:=E.size;have T:=aC (O.gr (row:=Uq cb) E (λe=>oI e) (λr g hg e=>by injection e with e;have:=X r g hg;omega));have m:=aC Hg;have Hl:=aC<|iN Q E;have Hb:=yY s;have Hf:aA (∀q,v.ownBlock=Uq q->w0.1.size<=q):=aC λq hq=>Uz zr (World.ownsRow.lt s q hq).1;have⟨A,nv,i,z⟩:=jY s;have Hu:nv=l.length:=by
    rcases s.2 with⟨e,e0⟩|⟨g',cap,Hh,e,_⟩
    .rw[e]at z;injection z with _ e1 _;omega
    .rw[e]at z;injection z with _ e1 _;omega
   subst Hu;have Hd:keyOf prog 3 (Ud r)=Uq (kI r):=keyOf_int_mk underlying3<|eX oM oM;have e3:IntKind.i64.wrap (u-(l.length:Int))=u-(l.length:Int):=cK _ oM oM;have Hc:aA (w2.ownsRow 0 225 2 (Uf A l.length i) l.length (eW l)):=z▸aC Hb;have Hq:aA (∀q,(Value.slice A l.length i).ownBlock=Uq q->w0.1.size<=q):=z▸Hf;subst z;have Ho:=aC T.own;go_wp2_with (at_mapUpdate;refine wpList_mapUpdate_own _ rfl _ _ _ 109 rfl 3 183 (int_keyed underlying3) underlying109 dT bm _ _ rfl Ho oL _ _ _ rfl rfl Hd (.held (Uf A l.length i)) [] rfl ?_;intro w3 Ha b;go_frame);go_roundw;case rel=>
    have Hs:Uq cb≠Uq bm:=λe=>oI e;have Hr:=b.block cb m.lt Hs;have Hm:=Hl.andThen b<|λj hj=> .inl (oI hj);refine⟨k+1,x2,u-(l.length:Int),r,D.put (kI r) (.held (Uf A l.length i)),eS G r (Uf A l.length i),Hi,oN,rfl,rfl,oM,oM,oM,oM,?_,?_,aC ⟨m.cur.at' Hr,m.seg.grown b (λy hy=>oH (Hp y hy)),m.ab,m.hn,m.nc,m.cc,m.byt⟩,aC Hm,?_,aC ⟨I.1,I.2.1⟩⟩
    .rw[I.2.2,PL];exact aC<|T.step Hc Hn Ha b
    .refine aC λq t hq=>?_;by_cases e:q=r
     .subst e;rw[dM]at hq;exact Hq t hq
     .rw[cQ _ _ e]at hq;exact X q t hq
    .have:=b.size;omega
   case measure=>exact oE
  .obtain rfl:k=V:=oM;have hd:g.drop k=[]:=(by rw[<-K.out];simp);have Hk:g.take k=g:=(by rw[<-K.out];simp);have HX:aA (x'=y):=aC (by have:=Z.2;rw[hd]at this;exact this.nil);rw[Hk]at O;go_wp2_with fail;go_ret;exact⟨rfl,Q,by rw[HX.out];exact M,k,D,G,O,X⟩
theorem bP.toR{w:Ur}{D:DataW aB}{G:Int->aB}(h:bP w bm n D G L):eJ w bm n D G L:=⟨h.own,h.at',h.has',λr=>yY (h.rows r)⟩
theorem EB{w:Ur}{x:Nat}{g:List (Int×List (Int×Int))}(h:Cu EX w cb a n c f x)(hk:nK (-1) 1000 g)(hR:Rb f n x (pW g) x')(hsb:∀y,a=Uq y->y.block<w.1.size):
  Cl 185 #[Uk (Uc cb)] w λe w'=>∃(bm q:Nat) (D:DataW aB) (G:Int->aB),kH EX w cb a n c f x' (Ul #[.map (Uq bm),.nilIface]) e w'/\eJ w' bm q D G (rB g)/\w.1.size<=bm/\∀r g,(G r).ownBlock=Uq g->w.1.size<=g:=by
 have b:=@run_makeMap prog;generalize k:w.alloc (.map #[] 0)=W;have m:Bl w W:=k▸zO _ _;have u:aA (eJ W w.1.size 0 (.map []) (λ_=>Ue) (λ_=>[])):=k▸aC (Dm w).toR;have v:=aC (SN (h.bw m) hk hR hsb h.lt zL (oY (sP w (Uq cb)) m) u (λr g hg=>by cases hg));have⟨p,s,A,_⟩:=h.cur;go_enter func185,ntmps185;go_wp2_with fail;refine v.mono ?_;rintro e w1⟨rfl,t,z,q,D,G,i,o⟩;have j:=aC<|And.intro t (And.intro z (And.intro i o));go_wp2_with fail;go_ret2;exact⟨_,q,D,G,⟨rfl,j.1,j.2.1⟩,j.2.2.1,Ux _,j.2.2.2⟩
def tK:Int->List (Int×Int)->Int
 |least,[]=>least
 |_,p::l=>tK (p.2+2) l
theorem TV(l:List (Int×Int))(p:Int×Int):∀j,tK j (l++[p])=p.2+2:=by
 induction l with
 |nil=>intro j;rfl
 |cons q l ih=>intro j;exact ih _
theorem TW(l:List (Int×Int))(p:Int×Int):∀j,gU j (l++[p])=gU j l++(aI 9 (p.1-tK j l).toNat++aI 9 (p.2-p.1).toNat):=by
 induction l with
 |nil=>intro j;simp[gU,tK]
 |cons q l ih=>intro j;show aI 9 _++aI 9 _++gU _ (l++[p])=(aI 9 _++aI 9 _++gU _ l)++_;rw[ih];simp only[Ve];rfl
theorem Xy{α:Type}(l:List α)(d:α)(h:k<l.length):l.take (k+1)=l.take k++[l.getD k d]:=by
 rw[Vc];simp[UL,h]
theorem Tt(l:List (Int×Int)):∀k,k<=l.length->fW l k=gU 1 (l.take k)/\fI l k=tK 1 (l.take k)
 |0,_=>by simp[fW,gU,fI,tK]
 |k+1,h=>by
  have⟨j,m⟩:=Tt l k oM;rw[Xy l (0,0) oM,TW,TV];refine⟨?_,rfl⟩;simp only[fW];rw[j,m];rfl
theorem QW(l:List (Int×Int)):mQ l=aI 9 l.length++gU 1 l:=by
 unfold mQ;rw[(Tt l l.length zL).1,Vj]
theorem RE(g g':List (Int×List (Int×Int))):iS (g++g')=iS g++iS g':=by
 induction g with
 |nil=>rfl
 |cons p g ih=>show aI 9 _++aI 9 _++gU 1 _++iS (g++g')=(aI 9 _++aI 9 _++gU 1 _++iS g)++iS g';rw[ih];simp only[Ve]
theorem Xi(L:Int->List (Int×Int))(ks:List Int):∀k,k<=ks.length->iJ L ks k=iS ((ks.take k).map λr=>(r,L r))
 |0,_=>by simp[iJ,iS]
 |k+1,h=>by
  rw[Xy ks 0 oM,UN,RE,<-Xi L ks k oM];simp only[iJ,rJ,QW,UQ,VN,iS,VO,Ve]
def mP(L:Int->List (Int×Int)):List (Int×List (Int×Int)):=(KS L 8).map λr=>(r,L r)
theorem PA(L:Int->List (Int×Int)):fF L=pW (mP L):=by
 unfold fF pW;rw[Xi L (KS L 8) _ zL,Vj];simp[mP]
theorem Tr:∀(l:List (Int×Int)) (least:Int),bL l->(∀p∈l,least<=p.1)->nJ least l
 |[],_,_,_=>trivial
 |q::l,least,h,h1=>by
  have j:=h.2 q Vf;have⟨k,m⟩:=List.pairwise_cons.1 h.1;exact⟨h1 q Vf,j.2.1,j.2.2,Tr l _ ⟨m,λp hp=>h.2 p (Vg _ hp)⟩ (λp hp=>oH (k p hp))⟩
theorem Ro(L:Int->List (Int×Int)):∀(ks:List Int) (before left:Int),ks.Pairwise (λx y=>x<y)->(∀r∈ks,before<r/\0<=r/\r<=7/\L r≠[]/\bL (L r))->((ks.flatMap λr=>eM r (L r)).length:Int)<=left->nK before left (ks.map λr=>(r,L r))
 |[],_,_,_,_,_=>trivial
 |k::ks,before,left,hp,ha,hl=>by
  have⟨g,t⟩:=List.pairwise_cons.1 hp;have⟨m,q,u,v,j⟩:=ha k Vf;rw[VP,UM]at hl;have o:(eM k (L k)).length=(L k).length:=by simp[eM]
  refine⟨m,q,u,v,by show(((L k).length:Nat):Int)<=left;omega,Tr _ _ j (λp hp=>(j.2 p hp).1),Ro L ks k _ t (λr hr=>?_) ?_⟩
  .have⟨_,z,b3,b4,h⟩:=ha r (Vg _ hr);exact⟨g r hr,z,b3,b4,h⟩
  .show _<=left-(((L k).length:Nat):Int);omega
theorem Zj(L:Int->List (Int×Int)):∀(ks:List Int) (M:Int->List (Int×Int)) (r:Int),(ks.map λr=>(r,L r)).foldl (λL p=>eS L p.1 p.2) M r=if r∈ks then L r else M r
 |[],M,r=>oP
 |k::ks,M,r=>by
  rw[UQ,VQ,Zj L ks];by_cases h:r∈ks
  .rw[if_pos h,if_pos (Vg _ h)]
  .rw[if_neg h];by_cases e:r=k
   .subst e;rw[if_pos Vf];exact dM _ _ _
   .rw[if_neg (λh2=>by rcases List.mem_cons.1 h2 with j|j;exact e j;exact h j)];exact cQ _ _ e
theorem Su(h:eQ R F T n=true):nK (-1) 1000 (mP (Lk R F T n))/\pW (mP (Lk R F T n))=fF (Lk R F T n)/\rB (mP (Lk R F T n))=Lk R F T n/\eV (Lk R F T n) 8=flat R F T n/\(∀r,bL (Lk R F T n r))/\(∀r,Lk R F T n r≠[]->0<=r/\r<8)/\∀r,(Lk R F T n r).length<=1000:=by
 have⟨j,y⟩:=dL.1 h;have k:∀r,bL (Lk R F T n r):=λr=>(kZ n j r).1;have m:eV (Lk R F T n) 8=flat R F T n:=by
  refine uniq (yT k 8 zL).1 (mU n j)<|λr x=>?_;rw[uG,(yT k 8 zL).2.1];constructor
  .rintro⟨_,_,v⟩;exact v
  .intro hi;have:=nZ n j r (λe=>by rw[e]at hi;exact Im hi);exact⟨oM,oM,hi⟩
 refine⟨Ro _ _ _ _ (Fp _ 8) (λr hr=>?_) ?_,(PA _).symm,?_,m,k,λr hr=>nZ n j r hr,λr=>Uz (jJ R F T n r) oM⟩
 .have⟨z,g,u⟩:=(sD _ 8 r).1 hr;exact⟨oM,oM,oM,(λe=>by rw[e]at u;cases u),k r⟩
 .have:(eV (Lk R F T n) 8).length=n:=by rw[m];simp[flat]
  unfold eV at this;omega
 .funext r;have e:=Zj (Lk R F T n) (KS (Lk R F T n) 8) (λ_=>[]) r;refine Eq.trans e ?_;split
  .rfl
  .rename_i hm;rw[sD]at hm;cases e:Lk R F T n r with
   |nil=>rfl
   |cons q t=>have:=nZ n j r (by rw[e];simp);exact absurd ⟨this.1,oM,by rw[e];rfl⟩ hm
theorem Cz(w:Ur):(zeroValue 107).run prog w=.ok (bE Up) w:=oK
theorem Mn(w:Ur):(zeroValue 161).run prog w=.ok (cH Up) w:=oK
structure PB(w:Ur)(h:Nat)(x:Nat×Nat)(r q:Int)(s:ByteArray):Prop where
 n:aD w h (.map (Uq x.1)) (.map (Uq x.2))
 d:aD w (h+1) (Ud r) (Ud q)
 m:gO w (h+2) (Um s)
theorem PB.bw{w:Ur}{x:Nat×Nat}(p:PB w h x r q s)(hb:Bl w w'):PB w' h x r q s:=⟨p.n.bw hb p.n.lt,p.d.bw hb p.d.lt,p.m.bw hb p.m.lt⟩
theorem PB.gt{w:Ur}{x:Nat×Nat}(p:PB w h x r q s)(hb:Gt B w w'):PB w' h x r q s:=⟨p.n.gt hb,p.d.gt hb,p.m.gt hb⟩
theorem PB.set{w:Ur}{x:Nat×Nat}(p:PB w h x r q s)(y:Nat×Nat):PB ((w.setCell (Ub h) (.map (Uq y.1))).setCell (Ua h 1) (.map (Uq y.2))) h y r q s:=
 ⟨p.n.set _ _,(p.d.setAt _ _ oP).setAt _ _ oP,(p.m.setAt _ _ oP).setAt _ _ oP⟩
theorem PB.setAt{w:Ur}{x:Nat×Nat}(p:PB w h x r q s)(a:Us)(u:aB)(ha:h+2<a.block):PB (w.setCell a u) h x r q s:=
 ⟨p.n.setAt _ _ oM,p.d.setAt _ _ oM,p.m.setAt _ _ oM⟩
theorem Pp(X:Nat)(p:List ByteArray)(a:Option Us)(cp:Nat)(k:Int)(r q:Int)(s:ByteArray)(B c:Nat)(N:List Ky->Option (Nat×Nat))(M:List Ky->Dt->Option ByteArray)(x0:Nat×Nat)(w:Ur)
  (hp:p.length<=1048576) (hs:∀i,(gS p i).size<=1048576) (hk:(Lit.int Uh k).wf=true) (hr:(Lit.int Uh r).wf=true) (hq:(Lit.int Uh q).wf=true) (hc:c<=1073741824) (hB:B<=w.1.size) (h:aV w a p) (hT:bB w B N M c) (h0:N []=Uq x0) (hX:X<w.1.size) (hXN:∀z x,N z=Uq x->x.1≠X/\x.2≠X):
  Cl 96 #[Uo #[.map (Uq x0.1),.map (Uq x0.2)],Uf a p.length cp,Ud k,Uo #[Ud r,Ud q],Uo #[Um s]] w λe w'=>e=Ui (Ul #[])/\Gt B w w'/\w'.1[X]? =w.1[X]? /\
   ∃N',bB w' B N' (mO M (aG p k) (r,q) s) (c+p.length+1)/\N' []=Uq x0/\∀z,(N' z).isSome=true↔(N z).isSome=true\/z <+:aG p k:=by
 generalize hW:((w.alloc (Uj #[.map (Uq x0.1),.map (Uq x0.2)] 107)).alloc (Uj #[Ud r,Ud q] 99)).alloc (Uj #[Um s] 161)=W;have b0:Bl w W:=hW▸((zO _ _).alloc oP _).alloc oS _;have P0:PB W w.1.size x0 r q s:=by
  have d1:=aD.made (w.alloc (Uj #[.map (Uq x0.1),.map (Uq x0.2)] 107)) (Ud r) (Ud q) 99;have m1:=gO.made ((w.alloc (Uj #[.map (Uq x0.1),.map (Uq x0.2)] 107)).alloc (Uj #[Ud r,Ud q] 99)) (Um s) 161;rw[<-hW];exact⟨((aD.made w _ _ _).allocs _).allocs _,by simpa using d1.allocs _,by simpa using m1⟩
 have Gd:aA (W.1[X]? =w.1[X]?):=aC<|b0.block X hX;have Hd:=aC hXN;have Gf:=aC hX;have HS:=aC h;have Ga:=aC P0;have Gc:=aC<|hT.bw b0;have H9:=aC<|Gt.of_below (B:=B) b0;have H0:=aC h0;have HB:=aC hB;have Hs:=aC hs;clear h hT h0 b0 P0 hs hB hX hXN;go_enter func96,ntmps96;go_wp2_with fail;clear hW;go_loopw [16] (λi wr=>∃j:Nat,j<=p.length/\i=Ud j/\aA (Gt B w wr)/\(∃g x,aA (bB wr B g M (c+j))/\aA (g []=Uq x0)/\aA (g ((aG p k).take j)=Uq x)/\aA (∀z,(g z).isSome=true↔(N z).isSome=true\/z <+:(aG p k).take j)/\aA (PB wr w.1.size x r q s)/\aA (wr.1[X]? =w.1[X]?)/\aA (∀z x,g z=Uq x->x.1≠X/\x.2≠X))) (λi _=>p.length-(intOf i).toNat);case atStart=>refine⟨0,UB _,rfl,H9,N,x0,Gc,H0,aC (oU H0),aC (λz=>?_),Ga,Gd,Hd⟩;simp only[List.take_zero,List.prefix_nil];exact⟨λh=> .inl h,λh=>h.elim id (λe=>by rw[e,H0.out];rfl)⟩
 case round=>
  clear Gc H9 Ga Gd Hd;obtain⟨j,hj,rfl,H,g,x,Y,Hy,E,R,I,HX,Ho⟩:=hrel;have H5:aA (X<wr.1.size):=aC<|Ut Gf H.size;have Hp:aA (w.1.size≠X):=aC<|oH Gf;by_cases Hq:j<p.length
  .have i2:(j:Int)<(p.length:Int):=oM;have Hj:=aC<|Wl p a cp k j wr hp Hq (HS.gt H);obtain⟨nm,t,F⟩:∃nm t,bO p k j=(nm,t):=⟨_,_,rfl⟩;have Hw:=aC F;rw[F]at Hj;obtain⟨G,He⟩:∃G,keyOf prog 175 (aP (nm,t))=Uq G:=by
    unfold bO at F;have e1:=(Prod.mk.inj F).1;have e2:=(Prod.mk.inj F).2;refine yH ?_ ?_
    .rw[<-e1];have:=Hs j;unfold maxLen;omega
    .rw[<-e2];split
     .decide
     .exact hk
   have Hi:=aC He;clear F He;dsimp only[aP]at Hj;go_wp2_with fail;refine Hj.mono ?_;rintro e w1⟨rfl,b1⟩;generalize H8:w1.alloc (Uj #[Um nm,Ud t] 175)=u;have C:Bl wr u:=H8▸b1.alloc b1.size _;have Hu:aD u w1.1.size (Um nm) (Ud t):=H8▸aD.made _ _ _ _;have Hl:=I.bw C;have Hn:=aC<|Y.bw C;have Hr:=aC<|H.keep C;have Ge:aA (u.1[X]? =w.1[X]?):=aC<|(C.block X H5).trans HX;have Hb:aA (X<u.1.size):=aC<|Ut H5 C.size;have e0:=Hl.n.c0;have⟨e1,e2⟩:=Hu.q2;have H1:=aC Hl;have Hv:=aC Hu;have Gm:aA (w.1.size+2<u.1.size):=aC Hl.m.lt;have Hf:=(Hn.kids _ x E).look_ok (mt:=104) gH underlying104 (Cz u) Hi;clear Hu Hl b1 C Hj Y H I;dsimp only[aP]at Hf;have Gi:(aG p k).take (j+1)=(aG p k).take j++[(nm,t)]:=(by rw[Dy Hq];have:=Hw.out;unfold bO at this;rw[this]);have Hm:=aC Gi;clear Gi;cases hNy:g ((aG p k).take j++[(nm,t)])with
   |some y=>
    rw[hNy]at Hf;dsimp only[bE,Option.isSome]at Hf;have Hk:=aC hNy;clear hNy;generalize Z:u.alloc (Uj #[.map (Uq y.1),.map (Uq y.2)] 107)=O;have b3:Bl u O:=Z▸zO _ _;have T:aD O u.1.size (.map (Uq y.1)) (.map (Uq y.2)):=Z▸aD.made _ _ _ _;have⟨g0,g1⟩:=T.q2;have L:=H1.bw b3;have⟨n0,n1⟩:=L.n.q2;have f0:=L.n.f 0;have f1:=L.n.f 1;have J:=aC ((Hn.bw b3).set (q:=(Ub w.1.size)) (.map (Uq y.1)) n0);have Gn:=aC (J.set (q:=(Ua w.1.size 1)) (.map (Uq y.2)) ((L.n.set0 _).c1));have Hh:=aC (((Hr.keep b3).set (Ub w.1.size) (.map (Uq y.1)) zL).set (Ua w.1.size 1) (.map (Uq y.2)) zL);have Gl:=aC (L.set y);have Gq:aA (((O.setCell (Ub w.1.size) (.map (Uq y.1))).setCell (Ua w.1.size 1) (.map (Uq y.2))).1[X]? =w.1[X]?):=aC (by
     rw[zH _ _ _ _ (by exact Hp.symm),zH _ _ _ _ (by exact Hp.symm)];exact(b3.block X Hb).trans Ge)
    clear b3 T L J;go_wp2_with fail;go_roundw;case rel=>
     refine⟨j+1,Hq,oN,Hh,g,y,aC (Gn.mono oM),Hy,aC (by rw[Hm.out];exact Hk),aC (λz=>?_),Gl,Gq,Ho⟩;rw[R z,Xb Hm.out];constructor
     .rintro(e|e)
      .exact .inl e
      .exact .inr<|.inl e
     .rintro(e|e|e)
      .exact .inl e
      .exact .inr e
      .exact(R z).1 (by rw[e,Hk.out];rfl)
    case measure=>exact oE
   |none=>
    rw[hNy]at Hf;dsimp only[bE,Option.isSome]at Hf;have Hk:=aC hNy;clear hNy;generalize Z:u.alloc (Uj #[.map Up,.map Up] 107)=O;have b3:Bl u O:=Z▸zO _ _;have T:aD O u.1.size (.map Up) (.map Up):=Z▸aD.made _ _ _ _;have S:=aC T;have Ha:=aC<|Hv.bw b3 Hv.lt;have Hz:=aC<|H1.bw b3;have J:=aC<|Hn.bw b3;have Hh:=aC<|Hr.keep b3;have Gp:aA (O.1[X]? =w.1[X]?):=aC<|(b3.block X Hb).trans Ge;have Hc:aA (X<O.1.size):=aC<|Ut Hb b3.size;have Go:=aC Z;clear b3 T H1 Hn Hr Hv Z;go_wp2_with fail;rw[Go.out];refine(sK O).mono ?_;rintro e w4⟨A,o,rfl,Gs,Gw,Gx,m1,m2,b4⟩;have K:=S.bw b4 S.lt;have⟨g0,g1⟩:=K.q2;have h0:=K.f 0;have h1:=K.f 1;generalize V:(w4.setCell (Ub u.1.size) (.map (Uq A))).setCell (Ua u.1.size 1) (.map (Uq o))=Q;have Gy:=Hz.m.lt;have Hg:u.1.size≠w1.1.size:=H8▸oP;have H6:PB Q w.1.size x r q s/\w.1.size+2<u.1.size:=by
     have hz:w.1.size+2<u.1.size:=Gm.out;rw[<-V];exact⟨((Hz.bw b4).setAt _ _ hz).setAt _ _ hz,hz⟩
    have K5:aD Q u.1.size (.map (Uq A)) (.map (Uq o)):=V▸K.set _ _;have Y5:aD Q w1.1.size (Um nm) (Ud t):=V▸((Ha.bw b4 Ha.lt).setAt _ _ Hg).setAt _ _ Hg;have T5:bB Q B g M (c+j):=V▸((J.bw b4).set _ g0).set _ (K.set0 _).c1;have G5:Gt B w Q:=V▸((Hh.keep b4).set _ _ oQ).set _ _ oQ;have X5:Q.1[X]? =w.1[X]? :=by
     have Gk:X≠u.1.size:=oH Hb;rw[<-V,zH _ _ _ _ Gk,zH _ _ _ _ Gk];exact(b4.block X Hc).trans Gp
    have Gu:w4.1.size=Q.1.size:=(by rw[<-V];simp[Vr]);have H4:aA (∀z x,dE g ((aG p k).take j++[(nm,t)]) (Uq (A,o)) z=Uq x->x.1≠X/\x.2≠X):=aC (λz y hy=>by
     have h3:=Hc.out;by_cases D:z=(aG p k).take j++[(nm,t)]
     .rw[D,iU]at hy;cases hy;exact⟨oQ,by show o≠X;omega⟩
     .rw[gJ _ _ D]at hy;exact Ho z y hy)
    have Gg:A≠u.1.size:=(by intro e;have:=S.lt;omega);have Gh:o≠u.1.size:=(by intro e;have:=S.lt;omega);have M1:aO Q 175 (α:=Ky) aP bE A 0 (λ_=>Up):=V▸(m1.same (zH _ _ _ _ Gg)).same (zH _ _ _ _ Gg);have M2:aO Q 99 (α:=Dt) aX cH o 0 (λ_=>Up):=V▸(m2.same (zH _ _ _ _ Gh)).same (zH _ _ _ _ Gh);have c1:=H6.1.n.c0;have⟨c2,c3⟩:=Y5.q2;have⟨c4,c5⟩:=K5.q2;have HU:aA (∀v,aO v 175 aP bE x.1 (c+j+1) (dE (λz=>g ((aG p k).take j++[z])) (nm,t) (Uq (A,o)))->Q.grownBy v (Uq x.1)->bB v B (dE g ((aG p k).take j++[(nm,t)]) (Uq (A,o))) M (c+j+1)/\Gt B w v/\PB v w.1.size x r q s/\aD v u.1.size (.map (Uq A)) (.map (Uq o))/\v.1[X]? =w.1[X]?):=aC (λv U b=>by
     have Gr:=(T5.lo _ x E).1;have H7:=Gt.grown b Gr (T5.kids _ x E).obj;refine⟨T5.add E Hk M1 M2 Gs (λq z hz=>?_) ⟨oH HB,by have:=HB.out;omega⟩ U b,G5.trans H7,H6.1.gt H7,K5.gt H7,(b.block X (oJ Hc b4.size) (λe=>(Ho _ x E).1 (Option.some.inj e).symm)).trans X5⟩;have:=J.lt hz;exact⟨oM,oM,oM,oM⟩)
    have Hx:=aC<|T5.kids _ x E;clear H6 X5 Gu K5 Y5 T5 G5 M1 M2 m1 m2 b4 K S Ha Hz J Hh;go_wp2_with (refine Ag _ rfl _ _ _ 104 rfl 175 107 gH aP (λ_ _=>oB) underlying104 bE x.1 (c+j) (λz=>g ((aG p k).take j++[z])) rfl Hx oL (nm,t) (A,o) G rfl rfl Hi ?_;intro v U b;have⟨T6,P,P6,K6,X6⟩:=HU v U b;have H3:=aC X6;clear X6;have H2:=aC T6;have Ht:=aC P;have Gb:=aC P6;have⟨t0,t1⟩:=P6.n.q2;have t2:=P6.n.f 0;have t3:=P6.n.f 1;have⟨t4,t5⟩:=K6.q2;clear U b T6 P P6 K6);go_roundw;case rel=>
     have T7:=(H2.set (q:=(Ub w.1.size)) (.map (Uq A)) t0).set (q:=(Ua w.1.size 1)) (.map (Uq o)) (Gb.n.set0 _).c1;refine⟨j+1,Hq,oN,aC ((Ht.set _ _ zL).set _ _ zL),dE g ((aG p k).take j++[(nm,t)]) (Uq (A,o)),(A,o),aC T7,aC ?_,aC ?_,aC (λz=>?_),aC (Gb.set (A,o)),aC ?_,H4⟩
     .rw[gJ _ _ oP];exact Hy
     .rw[Hm.out,iU]
     .rw[Xb Hm.out];by_cases D:z=(aG p k).take j++[(nm,t)]
      .rw[D,iU];exact⟨λ_=> .inr (.inr rfl),λ_=>rfl⟩
      .rw[gJ _ _ D,R.out z];constructor
       .rintro(h|h)
        .exact .inl h
        .exact .inr<|.inl h
       .rintro(h|h|h)
        .exact .inl h
        .exact .inr h
        .exact absurd h D
     .rw[zH _ _ _ _ (by exact Hp.symm),zH _ _ _ _ (by exact Hp.symm)];exact H3
    case measure=>exact oE
  .obtain rfl:j=p.length:=oM;have Gj:(aG p k).take p.length=aG p k:=VR (by rw[jN];exact Ux _);rw[Gj]at E R;obtain⟨G,He⟩:∃G,keyOf prog 99 (aX (r,q))=Uq G:=rR hr hq;have Hi:=aC He;have c0:=I.n.c1;have⟨c1,c2⟩:=I.d.q2;have c3:=I.m.c0;have Hx:=aC (Y.marks _ x E);have HU:aA (∀v,aO v 99 aX cH x.2 (c+p.length+1) (dE (M (aG p k)) (r,q) (Uq s))->wr.grownBy v (Uq x.2)->bB v B g (mO M (aG p k) (r,q) s) (c+p.length+1)/\Gt B w v/\v.1[X]? =w.1[X]?):=aC (λv U b=>
     ⟨Y.mark E U b,H.trans (Gt.grown b (Y.lo _ x E).2 (Y.marks _ x E).obj),(b.block X H5 (λe=>(Ho _ x E).2 (Option.some.inj e).symm)).trans HX⟩)
   clear Gj He Y H I;go_wp2_with (refine Ag _ rfl _ _ _ 105 rfl 99 161 gX aX (λ_ _=>sL) underlying105 cH x.2 (c+p.length) (M (aG p k)) rfl Hx oL (r,q) s G rfl rfl Hi ?_;intro v U b;have⟨T6,P,X6⟩:=HU v U b;have H3:=aC X6;clear X6;have H2:=aC T6;have Ht:=aC P;clear U b T6 P);go_end0;exact⟨rfl,Ht,H3,g,H2,Hy,R⟩
theorem AW(a a':Option Us)(c c':Nat)(p p':List ByteArray)(fl fl':Bool)(r q r' q':Int)(v v':ByteArray)(w:Ur)(hn:p.length<=1048576)(hn':p'.length<=1048576)(h:aV w a p)(h':aV w a' p'):
  Cl 104 #[Uo #[Uf a p.length c,Un fl,Ud r,Ud q,Um v],Uo #[Uf a' p'.length c',Un fl',Ud r',Ud q',Um v']] w (Rt w (Ud (aY ⟨p,fl,r,q,v⟩ ⟨p',fl',r',q',v'⟩))):=by
 generalize m:(w.alloc (Uj #[Uf a p.length c,Un fl,Ud r,Ud q,Um v] 101)).alloc (Uj #[Uf a' p'.length c',Un fl',Ud r',Ud q',Um v'] 101)=W;have g:Bl w W:=m▸aU _ _ _;have B:W.1.size=w.1.size+2:=m▸oP;have V:W.cell? (Ub w.1.size)=Uq (Uf a p.length c):=m▸oP;have Y:W.cell? (Ua w.1.size 1)=Uq (Un fl):=m▸oP;have Z:W.cell? (Ua w.1.size 2)=Uq (Ud r):=m▸oP;have G:W.cell? (Ua w.1.size 3)=Uq (Ud q):=m▸oP;have H:W.cell? (Ua w.1.size 4)=Uq (Um v):=m▸oP;have I:W.cell? (Ua (w.1.size+1) 0)=Uq (Uf a' p'.length c'):=m▸oP;have J:W.cell? (Ua (w.1.size+1) 1)=Uq (Un fl'):=m▸oP;have L:W.cell? (Ua (w.1.size+1) 2)=Uq (Ud r'):=m▸oP;have N:W.cell? (Ua (w.1.size+1) 3)=Uq (Ud q'):=m▸oP;have X:W.cell? (Ua (w.1.size+1) 4)=Uq (Um v'):=m▸oP;have o:=aC g;have y:w.1.size<W.1.size:=oM;have z:w.1.size+1<W.1.size:=oM;have Q:=aC<|h.bw g;have U:=aC<|h'.bw g;go_enter func104,ntmps104;go_wp2_with fail;have t:∀w',Bl W w'->(Bl W w'/\w'.cell? (Ub w.1.size)=Uq (Uf a p.length c)/\w'.cell? (Ua w.1.size 1)=Uq (Un fl)/\w'.cell? (Ua w.1.size 2)=Uq (Ud r)/\w'.cell? (Ua w.1.size 3)=Uq (Ud q)/\w'.cell? (Ua w.1.size 4)=Uq (Um v)/\w'.cell? (Ua (w.1.size+1) 0)=Uq (Uf a' p'.length c')/\w'.cell? (Ua (w.1.size+1) 1)=Uq (Un fl')/\w'.cell? (Ua (w.1.size+1) 2)=Uq (Ud r')/\w'.cell? (Ua (w.1.size+1) 3)=Uq (Ud q')/\w'.cell? (Ua (w.1.size+1) 4)=Uq (Um v')):=λw' k=>⟨k,(k.cell (p:=(Ub w.1.size)) y).trans V,(k.cell (p:=(Ua w.1.size 1)) y).trans Y,(k.cell (p:=(Ua w.1.size 2)) y).trans Z,(k.cell (p:=(Ua w.1.size 3)) y).trans G,(k.cell (p:=(Ua w.1.size 4)) y).trans H,(k.cell (p:=(Ua (w.1.size+1) 0)) z).trans I,(k.cell (p:=(Ua (w.1.size+1) 1)) z).trans J,(k.cell (p:=(Ua (w.1.size+1) 2)) z).trans L,(k.cell (p:=(Ua (w.1.size+1) 3)) z).trans N,(k.cell (p:=(Ua (w.1.size+1) 4)) z).trans X⟩;have u:=aC t;refine zS u<|λqh=>?_;refine tY 0 5 ?_;refine tY 2 7 ?_;refine tZ 5 10 ?_;refine tZ 7 12 ?_;refine tY 10 15 ?_;refine tY 12 17 ?_;refine cZ 4 ?_;intro K j;go_simp;refine(NW p p' a a' c c' _ hn hn' (Q.bw qh.1) (U.bw qh.1)).mono ?_;rintro e w1⟨rfl,rfl⟩;refine bZ j qh<|λqh=>?_;refine cZ 6 ?_;intro K j;go_simp;refine(My _ fl _ _ _ _).mono ?_;rintro e C⟨rfl,b⟩;have A:=qh.1.trans<|b.mono qh.1.size;refine bZ j (u _ A)<|λqh=>?_;refine cZ 8 ?_;intro K j;go_simp;refine(My _ fl' _ _ _ _).mono ?_;rintro e D⟨rfl,b3⟩;have E:=qh.1.trans<|b3.mono qh.1.size;refine bZ j (u _ E)<|λqh=>?_;refine cZ 9 ?_;intro K j;go_simp;refine(sG (kd fl) (kd fl') _).mono ?_;rintro e F⟨rfl,rfl⟩;refine bZ j qh<|λqh=>?_;refine cZ 14 ?_;intro K j;go_simp;refine(AM r q r' q' _).mono ?_;rintro e P⟨rfl,s⟩;have M:=qh.1.trans<|s.mono qh.1.size;refine bZ j (u _ M)<|λqh=>?_;refine cZ 15 ?_;intro K j;go_simp;have k:=qh.1.alloc qh.1.size<|Uj #[Ud (aW p p'),Ud (bN (kd fl) (kd fl')),Ud (nQ r q r' q')] 3;refine bZ j (u _ k)<|λqh=>?_;refine cZ 16 ?_;intro K j;go_simp;refine(Br _ 3 3 (λi=>if i=0 then aW p p' else if i=1 then bN (kd fl) (kd fl')else nQ r q r' q') _ oM (λi hi=>?_)).mono ?_
 .match i,hi with
  |0,_=>simp
  |1,_=>simp
  |2,_=>simp
 rintro e R⟨rfl,rfl⟩;refine bZ j qh<|λqh=>?_;refine tZ 17 4 ?_;refine zD ?_;have O:=aC<|o.trans (qh.1.mono o.size);go_wp2_with fail;go_ret;exact⟨lA BY,O⟩
theorem Bn{P:Prop} [Decidable P]:yes P=decide P:=by
 by_cases h:P
 .rw[aN h,decide_eq_true h]
 .rw[aJ h,decide_eq_false h]
theorem Nl{x y:Int}:bN x y<0↔x<y:=by unfold bN;split<;>(try split)<;>omega
theorem tS{x y:Int}:bN x y=0↔x=y:=by unfold bN;split<;>(try split)<;>omega
theorem CM{p p':List ByteArray}{fl fl':Bool}{r q r' q':Int}{v v':ByteArray}:
  (aW p p'≠0->yes (aY ⟨p,fl,r,q,v⟩ ⟨p',fl',r',q',v'⟩<0)=decide (aW p p'<0))/\
  (aW p p'=0->fl≠fl'->yes (aY ⟨p,fl,r,q,v⟩ ⟨p',fl',r',q',v'⟩<0)=fl')/\
  (aW p p'=0->fl=fl'->r≠r'->yes (aY ⟨p,fl,r,q,v⟩ ⟨p',fl',r',q',v'⟩<0)=decide (r<r'))/\
  (aW p p'=0->fl=fl'->r=r'->yes (aY ⟨p,fl,r,q,v⟩ ⟨p',fl',r',q',v'⟩<0)=decide (q<q')):=by
 refine⟨λh=>?_,λh hf=>?_,λh hf hr=>?_,λh hf hr=>?_⟩
 .rw[Bn];simp only[aY,dX,if_neg h]
 .have e:aY ⟨p,fl,r,q,v⟩ ⟨p',fl',r',q',v'⟩=bN (kd fl) (kd fl'):=by
   have:bN (kd fl) (kd fl')≠0:=(by rw[Ne,tS];cases fl<;>cases fl'<;>simp_all[kd]);simp only[aY,dX,if_pos h,if_neg this]
  rw[e,Bn];cases fl<;>cases fl'<;>simp_all[kd,bN]
 .have e:aY ⟨p,fl,r,q,v⟩ ⟨p',fl',r',q',v'⟩=bN r r':=by
   have j:bN (kd fl) (kd fl')=0:=(by rw[tS,hf]);have k:bN r r'≠0:=(by rw[Ne,tS];exact hr);simp only[aY,dX,if_pos h,if_pos j,nQ,if_neg k]
  rw[e,Bn];exact decide_eq_decide.2 Nl
 .have e:aY ⟨p,fl,r,q,v⟩ ⟨p',fl',r',q',v'⟩=bN q q':=by
   have j:bN (kd fl) (kd fl')=0:=(by rw[tS,hf]);have k:bN r r'=0:=(by rw[tS];exact hr);simp only[aY,dX,if_pos h,if_pos j,nQ,if_pos k]
  rw[e,Bn];exact decide_eq_decide.2 Nl
theorem lJ{Q:Prop}(h:Q:=by clear u y z g;go_wp2_with fail;go_ret;exact⟨cG t.symm,s⟩):Q:=h
theorem Xt(a a':Option Us)(c c':Nat)(p p':List ByteArray)(fl fl':Bool)(r q r' q':Int)(v v':ByteArray)(w:Ur)(hn:p.length<=1048576)(hn':p'.length<=1048576)(hc:p.length<=c)(hc':p'.length<=c')(M:c<=9223372036854775807)(hx':c'<=9223372036854775807)(h:aV w a p)(h':aV w a' p'):
  Cl 79 #[Uo #[Uf a p.length c,Un fl,Ud r,Ud q,Um v],Uo #[Uf a' p'.length c',Un fl',Ud r',Ud q',Um v']] w (Rt w (Un (yes (aY ⟨p,fl,r,q,v⟩ ⟨p',fl',r',q',v'⟩<0)))):=by
 have⟨W,j⟩:=zE ((w.alloc (Uj #[Uf a p.length c,Un fl,Ud r,Ud q,Um v] 101)).alloc (Uj #[Uf a' p'.length c',Un fl',Ud r',Ud q',Um v'] 101));have A:Bl w W:=j▸aU _ _ _;have zW:W.1.size=w.1.size+2:=j▸oP;have D:W.cell? (Ub w.1.size)=Uq (Uf a p.length c):=j▸oP;have H:W.cell? (Ua w.1.size 1)=Uq (Un fl):=j▸oP;have I:W.cell? (Ua w.1.size 2)=Uq (Ud r):=j▸oP;have J:W.cell? (Ua w.1.size 3)=Uq (Ud q):=j▸oP;have P:W.cell? (Ua (w.1.size+1) 0)=Uq (Uf a' p'.length c'):=j▸oP;have K:W.cell? (Ua (w.1.size+1) 1)=Uq (Un fl'):=j▸oP;have L:W.cell? (Ua (w.1.size+1) 2)=Uq (Ud r'):=j▸oP;have N:W.cell? (Ua (w.1.size+1) 3)=Uq (Ud q'):=j▸oP;have i:=aC A;have O:=aC<|zJ p p' a a' c c' W hc hc' M hx' (h.bw A) (h'.bw A);have⟨U,V,Y,Z⟩:=@CM p p' fl fl' r q r' q' v v';have u:=aC U;have y:=aC V;have z:=aC Y;have g:=aC Z;have⟨B,Q⟩:=zE (yes (aY ⟨p,fl,r,q,v⟩ ⟨p',fl',r',q',v'⟩<0));have⟨x,M⟩:=zE (aW p p');rw[Q]at u y z g;rw[M]at u y z g O;rw[Q];clear A zW h h' U V Y Z Q M;go_enter func79,ntmps79;go_wp2_with fail;clear j;refine O.mono ?_;rintro e w1⟨rfl,k,m⟩;have Ha:w1.cell? (Ua w.1.size 1)=Uq (Un fl):=by rw[m];exact H
 have Hb:w1.cell? (Ua w.1.size 2)=Uq (Ud r):=by rw[m];exact I
 have Hc:w1.cell? (Ua w.1.size 3)=Uq (Ud q):=by rw[m];exact J
 have Hd:w1.cell? (Ua (w.1.size+1) 1)=Uq (Un fl'):=by rw[m];exact K
 have He:w1.cell? (Ua (w.1.size+1) 2)=Uq (Ud r'):=by rw[m];exact L
 have Hf:w1.cell? (Ua (w.1.size+1) 3)=Uq (Ud q'):=by rw[m];exact N
 have s:aA (Bl w w1):=aC (by rw[m];exact⟨i.os,i.tape,i.output,i.size,i.block⟩);clear m D H I J P K L N O i;by_cases b:x=0
 .have X:(x !=0)=false:=by simp[b]
  by_cases o:fl=fl'
  .by_cases E:r=r'
   .have C:(r !=r')=false:=(by simp[E]);have t:=aC<|g b o E;exact lJ
   .have C:(r !=r')=true:=oU E;have t:=aC<|z b o E;exact lJ
  .have t:=aC<|y b o;clear u y z g;cases fl<;>cases fl'<;>first
    |exact absurd rfl o
    | (clear o;go_wp2_with fail;go_ret;exact⟨cG t.symm,s⟩)
 .have X:(x !=0)=true:=oU b;have t:=aC<|u b;exact lJ
theorem aF.set2{w:Ur}(h:aF w b v0 v1 v2 v3 v4)(u:aB):aF (w.setCell (Ua b 2) u) b v0 v1 u v3 v4:=
 ⟨by simp[Vt,h.c0],by simp[Vt,h.c1],Vs _ _ _ h.c2,by simp[Vt,h.c3],by simp[Vt,h.c4],λi=>by rw[Vq];exact h.f i,by simp[Vr];exact h.lt⟩
theorem aF.set3{w:Ur}(h:aF w b v0 v1 v2 v3 v4)(u:aB):aF (w.setCell (Ua b 3) u) b v0 v1 v2 u v4:=
 ⟨by simp[Vt,h.c0],by simp[Vt,h.c1],by simp[Vt,h.c2],Vs _ _ _ h.c3,by simp[Vt,h.c4],λi=>by rw[Vq];exact h.f i,by simp[Vr];exact h.lt⟩
theorem aF.set4{w:Ur}(h:aF w b v0 v1 v2 v3 v4)(u:aB):aF (w.setCell (Ua b 4) u) b v0 v1 v2 v3 u:=
 ⟨by simp[Vt,h.c0],by simp[Vt,h.c1],by simp[Vt,h.c2],by simp[Vt,h.c3],Vs _ _ _ h.c4,λi=>by rw[Vq];exact h.f i,by simp[Vr];exact h.lt⟩
def dB(R F T:Nat->Int)(n:Nat)(l:List Lf)(k:Nat):Prop:=∀i,i<k->jH (gL l i)/\cE R F T (gL l i).r (gL l i).q (gL l i).q n=true/\(0<i->aY (gL l (i-1)) (gL l i)<0)
def lD(x y:Lf):Prop:=¬(x.r=y.r/\x.q=y.q)
def fK(l:List Lf)(k:Nat):Prop:=∀i,i<k->∀j,j<i->lD (gL l j) (gL l i)
def bG(R F T:Nat->Int)(n:Nat)(l:List Lf):Prop:=eQ R F T n=true/\l.length<=1000/\dB R F T n l l.length/\fK l l.length
theorem dB.step(h:dB R F T n l k)(h1:jH (gL l k))(h2:cE R F T (gL l k).r (gL l k).q (gL l k).q n=true)(h3:0<k->aY (gL l (k-1)) (gL l k)<0):dB R F T n l (k+1):=λi hi=>by
 by_cases e:i=k
 .subst e;exact⟨h1,h2,h3⟩
 .exact h i oM
theorem fK.step(h:fK l k)(h1:∀j,j<k->lD (gL l j) (gL l k)):fK l (k+1):=λi hi j hj=>by
 by_cases e:i=k
 .subst e;exact h1 j hj
 .exact h i oM j hj
theorem oZ{a w:Ur}(h:Below B a w)(n:Nat):Below B a (w.drewN n):=⟨h.os,h.tape,h.output,h.size,h.block⟩
theorem vQ{Q:Prop}(h:Q:=by go_wp2_with fail;refine HA.mono ?_;rintro e Q⟨rfl,b4⟩;have E:=aC b4;clear b4;go_wp2_with fail;go_meet;exact⟨_,rfl,aC ⟨λh=>⟨Hg,h⟩,λh=>h.2⟩,E⟩):Q:=h
theorem vM{Q:Prop}(h:Q:=by
 clear V P H;go_wp2_with fail;go_quiet (fail);have Hl:=aC<|oZ G nq;go_wp2_with fail;go_roundw;case rel=>exact⟨j+1,Hw,oN,Hl,HD⟩
 case measure=>exact oE):Q:=h
theorem Ad(a:Option Us)(c:Nat)(l:List Lf)(x:Option Us)(n d:Nat)(R F T:Nat->Int)(w:Ur)(hn:l.length<=1048576)(hp:iP l)(hm:n<=1048576)(h:dH w a l)(h':bI w x n R F T):
  Cl 48 #[Uo #[Uf a l.length c,Uf x n d]] w (Rt w (Un (yes (bG R F T n l)))):=by
 have⟨W,hW⟩:=zE (w.alloc (Uj #[Uf a l.length c,Uf x n d] 28));have b0:Bl w W:=hW▸zO _ _;have zW:w.1.size<W.1.size:=hW▸oP;have k0:W.cell? (Ub w.1.size)=Uq (Uf a l.length c):=hW▸oP;have k1:W.cell? (Ua w.1.size 1)=Uq (Uf x n d):=hW▸oP;have HC:=aC<|Cn x n d R F T W hm (h'.bw b0);have HL:=aC<|h.bw b0;have HR:=aC<|h'.bw b0;have Hk:=aC b0;clear h h' b0;have⟨Y,hY⟩:=zE (yes (bG R F T n l));have HY:=aC hY;rw[hY];clear hY;go_enter func48,ntmps48;go_wp2_with fail;clear hW;refine HC.mono ?_;rintro e w1⟨rfl,b1⟩;have m0:=(b1.cell (p:=(Ub w.1.size)) zW).trans k0;have m1:=(b1.cell (p:=(Ua w.1.size 1)) zW).trans k1;have g:=aC<|Hk.trans (b1.mono Hk.size);have H8:=aC<|HL.bw b1;have H9:=aC<|HR.bw b1;have z1:w.1.size<w1.1.size:=Ut zW b1.size;clear HC HL HR Hk k0 k1 zW b1;have⟨C,hC⟩:=zE (eQ R F T n);have HC:=aC hC;rw[hC];clear hC;cases C with
 |false=>have M:aA (Y=false):=aC (by rw[<-HY.out];exact aJ (λh=>by have:=h.1;rw[HC.out]at this;cases this));go_wp2_with fail;go_ret;exact⟨cG M.symm,g⟩
 |true=>
  by_cases Hf:(1000:Int)<(l.length:Int)
  .have d0:decide ((1000:Int)<(l.length:Int))=true:=oU Hf;have M:aA (Y=false):=aC (by rw[<-HY.out];exact aJ (λh=>oH h.2.1));go_wp2_with fail;go_ret;exact⟨cG M.symm,g⟩
  .have d0:decide ((1000:Int)<(l.length:Int))=false:=oU Hf;go_wp2_with fail;clear d0;go_loopw [3] (λi wr=>∃k:Nat,k<=l.length/\i=Ud k/\aA (Bl w1 wr)/\aA (dB R F T n l k/\fK l k)) (λi _=>l.length-(intOf i).toNat);case atStart=>exact⟨0,UB _,rfl,aC zI,aC ⟨λi hi=>oM,λi hi=>oM⟩⟩
   case round=>
    obtain⟨k,hk,rfl,z,HI⟩:=hrel;have r0:=(z.cell (p:=(Ub w.1.size)) z1).trans m0;have r1:=(z.cell (p:=(Ua w.1.size 1)) z1).trans m1;by_cases Hi:k<l.length
    .rcases H8.out with h|⟨b,off,rfl,X,hc⟩
     .omega
     have⟨pa,pc,⟨c0,cp,cq⟩,s,c1,L,N,c4⟩:=hc k Hi;have x0:=(z.cell (p:=(Ua b (off+k*5))) X).trans c0;have x1:=(z.cell (p:=(Ua b (off+k*5+1))) X).trans c1;have x2:=(z.cell (p:=(Ua b (off+k*5+2))) X).trans L;have x3:=(z.cell (p:=(Ua b (off+k*5+3))) X).trans N;have x4:=(z.cell (p:=(Ua b (off+k*5+4))) X).trans c4;have HS:=aC (s.bw z);have i1:(0:Int)<=(k:Int):=VH _;have i2:(k:Int)<(l.length:Int):=oM;have H:=aC hc;have zr:w1.1.size<=wr.1.size:=z.size;clear hc c0 c1 L N c4 s m0 m1;go_upto_region 7 with fail;have⟨y,hy⟩:=zE (gL l k);have Hj:=hp k;rw[hy]at HS x0 x1 x2 x3 x4 cp Hj⊢;have S:=aC hy;clear hy;have⟨p,fl,r,q,v⟩:=y;dsimp only at HS x0 x1 x2 x3 x4 cp Hj⊢;have⟨W2,Hh⟩:=zE (wr.alloc (Uj #[Uf pa p.length pc,Un fl,Ud r,Ud q,Um v] 101));have b2:Bl wr W2:=Hh▸zO _ _;have B5:aF W2 wr.1.size (Uf pa p.length pc) (Un fl) (Ud r) (Ud q) (Um v):=(by rw[<-Hh];exact⟨oP,oP,oP,oP,oP,λi=>oP,oP⟩);have B:=(b2.cell (p:=(Ub w.1.size)) (show w.1.size<wr.1.size by omega)).trans r0;have t1:=(b2.cell (p:=(Ua w.1.size 1)) (show w.1.size<wr.1.size by omega)).trans r1;have⟨y0,y1,y2,y3,y4⟩:=B5.q5;have Hb:=aC (z.trans (b2.mono z.size));have Hq:=aC (HS.bw b2);have HP:=aC (Mv p pa pc W2 Hj Hq);have HA:=aC (E5 x n d R F T r q W2 hm (H9.bw Hb));have z2:wr.1.size<W2.1.size:=B5.lt;have u:=aC B5;rw[Hh];clear Hh b2 B5 x0 x1 x2 x3 x4 r0 r1 HS z;have H6:=aC (g.trans (Hb.mono g.size));have V:aA (¬(jH ⟨p,fl,r,q,v⟩/\cE R F T r q q n=true/\(0<k->aY (gL l (k-1)) ⟨p,fl,r,q,v⟩<0))->Y=false):=aC (λno=>by
      rw[<-HY.out];exact aJ (λh=>no (by have:=h.2.2.1 k Hi;rw[S.out]at this;exact this)))
     go_cut [54]from 16 to 81 (λv5 wx=>∃A:Bool,v5=Un (!A)/\aA (A=true↔jH ⟨p,fl,r,q,v⟩/\cE R F T r q q n=true)/\aA (Bl W2 wx));case first=>
      go_wp2_with fail;refine HP.mono ?_;rintro e w3⟨rfl,rfl⟩;have⟨Y1,Hv⟩:=zE (yes (dW p));have Hr:=aC Hv;rw[Hv];clear Hv HP V;cases Y1 with
      |false=>go_wp2_with fail;go_meet;exact⟨false,rfl,aC ⟨λh=>(by cases h),λh=>(by have:=aN h.1.1;rw[Hr.out]at this;cases this)⟩,aC zI⟩
      |true=>
       by_cases hv:(200:Int)<(v.size:Int)
       .have d1:decide ((200:Int)<(v.size:Int))=true:=oU hv;go_wp2_with fail;go_meet;exact⟨false,rfl,aC ⟨λh=>(by cases h),λh=>(by have:v.size<=200:=h.1.2.1;omega)⟩,aC zI⟩
       .have d1:decide ((200:Int)<(v.size:Int))=false:=oU hv;by_cases Ha:fl=true/\v.toList.isEmpty=false
        .obtain⟨rfl,Ha⟩:=Ha;go_wp2_with fail;go_meet;exact⟨false,rfl,aC ⟨λh=>(by cases h),λh=>(by have:v.toList.isEmpty=true:=h.1.2.2 rfl;rw[Ha]at this;cases this)⟩,aC zI⟩
        .have he:fl=true->v.toList.isEmpty=true:=λe=>by
          by_cases h:v.toList.isEmpty=true
          .exact h
          .exact absurd ⟨e,oU h⟩ Ha
         have Hg:aA (jH ⟨p,fl,r,q,v⟩):=aC ⟨sM.1 Hr,oQ,he⟩;clear Ha Hr;cases fl with
         |true=>have he:=he rfl;exact vQ
         |false=>clear he;exact vQ
     case rest=>
      obtain⟨A,rfl,Z,m⟩:=hcut;obtain⟨Q,rfl⟩:∃Q,Q=wc:=⟨_,rfl⟩;have zt:w.1.size<Q.1.size:=oH m.size;have U:wr.1.size<Q.1.size:=oH m.size;have B4:=u.bw m z2;have B:=(m.cell (p:=(Ub w.1.size)) (show w.1.size<W2.1.size by omega)).trans B;have⟨y0,y1,y2,y3,y4⟩:=B4.q5;have E:=aC<|Hb.trans (m.mono Hb.size);have H5:=aC<|Hq.bw m;have Hc:=aC<|g.trans (E.mono g.size);clear B4 u Hq H6 m HP HA t1 Hb z2;cases A with
      |false=>have M:=aC (V (λh=>by have:=Z.2 ⟨h.1,h.2.1⟩;cases this));clear V H;go_wp2_with fail;go_ret;exact⟨cG M.symm,Hc⟩
      |true=>
       have Hg:=aC (Z.1 rfl).1;have Hn:=aC (Z.1 rfl).2;clear Z;go_upto_region 9 with fail;go_cut [67]from 16 to 81 (λv5 wx=>∃A:Bool,v5=Un (!A)/\aA (A=true↔(0<k->aY (gL l (k-1)) ⟨p,fl,r,q,v⟩<0))/\aA (Bl Q wx));case first=>
        by_cases Gd:k=0
        .have d3:decide (0<k)=false:=oS;go_quiet (fail);go_wp2_with fail;go_meet;exact⟨true,rfl,aC ⟨λ_ h=>oM,λ_=>rfl⟩,aC (oZ zI _)⟩
        .obtain⟨j,hj⟩:∃j,k=j+1:=⟨k-1,oM⟩;have⟨H1,H2,⟨c0,Hs,Gc⟩,s',c1,L,N,c4⟩:=H j oM;have O:=fun(o:Nat)=>E.cell (p:=(Ua b o)) X;have j0:=(O _).trans c0;have j1:=(O _).trans c1;have j2:=(O _).trans L;have j3:=(O _).trans N;have j4:=(O _).trans c4;have Hp:=aC (s'.bw E);have Hx:=hp j;have⟨y',Hz⟩:=zE (gL l j);rw[Hz]at j0 j1 j2 j3 j4 Hp Hx Hs;have Hd:=aC Hz;have⟨p',He,r',O,v'⟩:=y';dsimp only at j0 j1 j2 j3 j4 Hp Hx Hs;have zb:b<Q.1.size:=oH E.size;have d3:decide (0<k)=true:=oS;have Hy:(k:Int)-1=(j:Int):=oM;have Ge:IntKind.i64.wrap (j:Int)=(j:Int):=(by rw[IntKind.wrap_i64];omega);have Gf:IntKind.i64.wrap ((k:Int)-1)=(j:Int):=(by rw[Hy];exact Ge);have q1:(0:Int)<=(j:Int):=VH _;have q2:(j:Int)<(l.length:Int):=oM;have H3:=aC hj;have⟨Bf,Hu⟩:=zE (yes (aY ⟨p',He,r',O,v'⟩ ⟨p,fl,r,q,v⟩<0));have H7:=aC Hu;have H4:aA (∀W,Bl Q W->Cl 79 #[Uo #[Uf H1 p'.length H2,Un He,Ud r',Ud O,Um v'],Uo #[Uf pa p.length pc,Un fl,Ud r,Ud q,Um v]] W (Rt W (Un Bf))):=aC (λW hB=>Hu▸Xt H1 pa H2 pc p' p He fl r' O r q v' v W Hx Hj Hs cp Gc cq (Hp.bw hB) (H5.bw hB));clear Hu hj Gd c0 c1 L N c4 s' Hz;have Hm:aA (∀w',Bl Q w'->(Bl Q w'/\w'.cell? (Ub w.1.size)=Uq (Uf (Uq (Ua b off)) l.length c)/\w'.cell? (Ub wr.1.size)=Uq (Uf pa p.length pc)/\w'.cell? (Ua wr.1.size 1)=Uq (Un fl)/\w'.cell? (Ua wr.1.size 2)=Uq (Ud r)/\w'.cell? (Ua wr.1.size 3)=Uq (Ud q)/\w'.cell? (Ua wr.1.size 4)=Uq (Um v)/\w'.cell? (Ua b (off+j*5))=Uq (Uf H1 p'.length H2)/\w'.cell? (Ua b (off+j*5+1))=Uq (Un He)/\w'.cell? (Ua b (off+j*5+2))=Uq (Ud r')/\w'.cell? (Ua b (off+j*5+3))=Uq (Ud O)/\w'.cell? (Ua b (off+j*5+4))=Uq (Um v'))):=aC (λw' hB=>⟨hB,(hB.cell (p:=(Ub w.1.size)) zt).trans B,(hB.cell (p:=(Ub wr.1.size)) U).trans y0,(hB.cell (p:=(Ua wr.1.size 1)) U).trans y1,(hB.cell (p:=(Ua wr.1.size 2)) U).trans y2,(hB.cell (p:=(Ua wr.1.size 3)) U).trans y3,(hB.cell (p:=(Ua wr.1.size 4)) U).trans y4,(hB.cell (p:=(Ua b (off+j*5))) zb).trans j0,(hB.cell (p:=(Ua b (off+j*5+1))) zb).trans j1,(hB.cell (p:=(Ua b (off+j*5+2))) zb).trans j2,(hB.cell (p:=(Ua b (off+j*5+3))) zb).trans j3,(hB.cell (p:=(Ua b (off+j*5+4))) zb).trans j4⟩);refine zS Hm (λqh=>?_);refine tY 0 55 ?_;refine tY 2 57 ?_;refine tY 4 59 ?_;refine tY 6 61 ?_;refine tY 8 63 ?_;refine cZ 10 ?_;intro K hK;go_simp;refine(H4 _ qh.1).mono ?_;rintro e D⟨rfl,b5⟩;have Ht:=qh.1.trans (b5.mono qh.1.size);refine bZ hK (Hm _ Ht) (λqh=>?_);clear hK K;refine tY 11 66 ?_;refine zD ?_;have u:=aC Ht;have Z:aA (Bf=true↔(0<k->aY (gL l (k-1)) ⟨p,fl,r,q,v⟩<0)):=aC (by
          have e:gL l (k-1)=⟨p',He,r',O,v'⟩:=(by rw[show k-1=j by have:=H3.out;omega,Hd.out]);rw[e,<-H7.out,sM];exact⟨λh _=>h,λh=>h (oH H3)⟩)
         clear qh Ht b5 Hm H4 V H;go_wp2_with fail;go_meet;exact⟨Bf,rfl,Z,u⟩
       case rest=>
        obtain⟨A,rfl,Z,m⟩:=hcut;obtain⟨D,rfl⟩:∃D,D=wc:=⟨_,rfl⟩;have u:=aC<|E.trans (m.mono E.size);have B:=(m.cell (p:=(Ub w.1.size)) zt).trans B;have y2:=(m.cell (p:=(Ua wr.1.size 2)) U).trans y2;have y3:=(m.cell (p:=(Ua wr.1.size 3)) U).trans y3;have zt:w.1.size<D.1.size:=Ut zt m.size;have U:wr.1.size<D.1.size:=Ut U m.size;clear m y0 y1 y4 H5 E Hc;cases A with
        |false=>have M:=aC (V (λh=>by have:=Z.2 h.2.2;cases this));have HZ:=aC<|g.trans (u.mono g.size);clear V H;go_wp2_with fail;go_ret;exact⟨cG M.symm,HZ⟩
        |true=>
         have Ho:aA (0<k->aY (gL l (k-1)) ⟨p,fl,r,q,v⟩<0):=aC<|Z.1 rfl;have Ga:aA (∀wi,Bl D wi->wi.cell? (Ua wr.1.size 2)=Uq (Ud r)):=aC<|λwi h=>(h.cell (p:=(Ua wr.1.size 2)) U).trans y2;have Gb:aA (∀wi,Bl D wi->wi.cell? (Ua wr.1.size 3)=Uq (Ud q)):=aC<|λwi h=>(h.cell (p:=(Ua wr.1.size 3)) U).trans y3;go_wp2_with fail;go_loopw [5] (λi wi=>∃j:Nat,j<=k/\i=Ud j/\aA (Bl D wi)/\aA (∀t,t<j->lD (gL l t) (gL l k))) (λi _=>k-(intOf i).toNat);case atStart=>exact⟨0,UB _,rfl,aC zI,aC (λt ht=>oM)⟩
         case round=>
          obtain⟨j,hj,rfl,G,P⟩:=hrel;have g0:=(G.cell (p:=(Ub w.1.size)) zt).trans B;have g2:=Ga _ G;have g3:=Gb _ G;by_cases Hw:j<k
          .have⟨ja,jc,_,_,_,L,N,_⟩:=H j oM;have j2:=(((u.trans (G.mono u.size)).cell (p:=(Ua b (off+j*5+2))) X)).trans L;have j3:=(((u.trans (G.mono u.size)).cell (p:=(Ua b (off+j*5+3))) X)).trans N;have⟨yj,H0⟩:=zE (gL l j);rw[H0]at j2 j3;have Hd:=aC H0;have⟨pj,fj,J,I,vj⟩:=yj;dsimp only at j2 j3;have q1:(0:Int)<=(j:Int):=VH _;have q2:(j:Int)<(l.length:Int):=oM;have q3:(j:Int)<(k:Int):=oM;have hG:=RJ;have EQ:∀w:Ur,(binOp .eql 99 (Uo #[Ud J,Ud I]) (Uo #[Ud r,Ud q])).run prog w=.ok (Un (J==r&&I==q)) w:=λw=>Sr J I r q w;clear H0 L N B y2 y3;by_cases hr:J=r
           .have e1:(J==r)=true:=oU hr;by_cases hq:I=q
            .have e2:(I==q)=true:=oU hq;have EQ:∀w:Ur,(binOp .eql 99 (Uo #[Ud J,Ud I]) (Uo #[Ud r,Ud q])).run prog w=.ok (Un true) w:=λw=>by rw[EQ w,e1,e2];rfl
             have M:aA (Y=false):=aC (by rw[<-HY.out];exact aJ (λh=>h.2.2.2 k Hi j Hw (by rw[Hd.out,S.out];exact⟨hr,hq⟩)));have HZ:=aC<|g.trans ((u.trans (G.mono u.size)).mono g.size);clear V P H;go_wp2_with fail;go_quiet (fail);go_wp2_with fail;go_ret;exact⟨cG M.symm,oZ HZ _⟩
            .have e2:(I==q)=false:=oU hq;have EQ:∀w:Ur,(binOp .eql 99 (Uo #[Ud J,Ud I]) (Uo #[Ud r,Ud q])).run prog w=.ok (Un false) w:=λw=>by rw[EQ w,e1,e2];rfl
             have HD:aA (∀t,t<j+1->lD (gL l t) (gL l k)):=aC (λt ht=>by
              by_cases e:t=j
              .rw[e,Hd.out,S.out];exact λh=>hq h.2
              .exact P t oM)
             exact vM
           .have e1:(J==r)=false:=oU hr;have EQ:∀w:Ur,(binOp .eql 99 (Uo #[Ud J,Ud I]) (Uo #[Ud r,Ud q])).run prog w=.ok (Un false) w:=λw=>by rw[EQ w,e1];rfl
            have HD:aA (∀t,t<j+1->lD (gL l t) (gL l k)):=aC (λt ht=>by
             by_cases e:t=j
             .rw[e,Hd.out,S.out];exact λh=>hr h.1
             .exact P t oM)
            exact vM
          .obtain rfl:j=k:=oM;have HN:aA (dB R F T n l (j+1)/\fK l (j+1)):=aC ⟨HI.1.step (by rw[S.out];exact Hg) (by rw[S.out];exact Hn) (λh=>by rw[S.out];exact Ho h),HI.2.step P⟩;have HZ:=aC<|u.trans (G.mono u.size);clear V P H B y2 y3 g0 g2 g3;go_wp2_with fail;go_roundw;case rel=>exact⟨j+1,Hi,oN,HZ,HN⟩
           case measure=>exact oE
    .obtain rfl:k=l.length:=oM;have M:aA (Y=true):=aC (by rw[<-HY.out];exact aN ⟨HC,oM,HI.1,HI.2⟩);have HB:=aC<|g.trans (z.mono g.size);clear m0 m1;go_wp2_with fail;go_ret;exact⟨cG M.symm,HB⟩
theorem mR.bw{w:Ur}{D:DataW aB}(h:mR w bm k l D)(hb:Bl w w1):mR w1 bm k l D:=
 ⟨h.own.kept ⟨hb.os,hb.tape,hb.output,hb.size,λk hk _=>hb.block k hk⟩ (by simp:Uq bm≠Up),h.tidy,h.has',h.le,h.eq⟩
def yB(R F T:Nat->Int)(n:Nat)(l:List Lf):Prop:=l.length<=1000/\dB R F T n l l.length/\fK l l.length
theorem xH{Q:Prop}(h:Q:=by
 have Ha:=N.own;have Hg:plainElem (H:=aB) prog 3 (Ud (k:Int))=Uq (.lit (.int Uh (k:Int)),[]):=plainElem_int underlying3<|eX oM oM;have Hf:keyOf prog 99 (Uo #[Ud r,Ud q])=Uq kl:=B;have Hs:=aC N;clear qh u E N B;go_wp2_with (refine wpList_mapUpdate_own _ rfl _ _ _ 254 rfl 99 3 gX underlying254 (plainElem prog 3) (w.1.size) k D rfl Ha oL _ _ kl rfl rfl Hf (.lit (.int Uh (k:Int))) [] Hg ?_;intro w6 Hb He);have Ht:=aC (Hs.step (by rw[I.out];exact Hv) Hb);have Hj:=m.trans<|Hr.mono m.size;have Hq:=aC<|Hj.grown He Hj.size (λt e=>oI e);have HN:aA (dB R F T n l (k+1)):=aC (HI.step (by rw[I.out];exact sM.1 Hl) (by rw[I.out];exact HA) (λh=>by rw[I.out];exact Hd h));go_roundw;case rel=>exact⟨k+1,Ho,oN,Hq,⟨_,Ht⟩,HN⟩
 case measure=>exact oE):Q:=h
theorem Ep{Q:Prop}(h:Q:=by refine tZ 2 21 ?_;refine tZ 3 22 ?_;refine uZ 4 23 ?_;refine uZ 5 24 ?_;refine uZ 6 25 ?_;refine uZ 7 26 ?_;refine uZ 8 27 ?_;refine tZ 9 28 ?_;refine tZ 10 29 ?_;refine uZ 11 30 ?_;refine uZ 12 31 ?_;refine uZ 13 32 ?_;refine uZ 14 33 ?_;refine uZ 15 34 ?_;refine uZ 16 35 ?_;refine uZ 17 36 ?_;refine uZ 18 37 ?_;refine uZ 19 38 ?_;refine uZ 20 39 ?_;refine uZ 21 40 ?_;refine uZ 22 41 ?_;refine tZ 23 42 ?_;refine zD ?_;have O:=aC (E (λh=>by have:=aN h.1;rw[Hl.out]at this;cases this));have Q:=aC (m.trans (Hi.mono m.size));clear qh u E;go_wp2_with fail;go_ret;exact⟨cG O.symm,Q⟩):Q:=h
theorem Eo{Q:Prop}(h:Q:=by refine tZ 8 27 ?_;refine tZ 9 28 ?_;refine tZ 10 29 ?_;refine uZ 11 30 ?_;refine uZ 12 31 ?_;refine uZ 13 32 ?_;refine uZ 14 33 ?_;refine uZ 15 34 ?_;refine uZ 16 35 ?_;refine uZ 17 36 ?_;refine uZ 18 37 ?_;refine uZ 19 38 ?_;refine uZ 20 39 ?_;refine uZ 21 40 ?_;refine uZ 22 41 ?_;refine tZ 23 42 ?_;refine zD ?_;have O:=aC (E (λh=>by have:=h.2.1;rw[HA.out]at this;cases this));have Q:=aC (m.trans (J.mono m.size));clear qh u E;go_wp2_with fail;go_ret;exact⟨cG O.symm,Q⟩):Q:=h
theorem Xq(a:Option Us)(c:Nat)(l:List Lf)(bm n:Nat)(M:DataW aB)(G:Int->aB)(R F T:Nat->Int)(w:Ur)(hn:l.length<=1048576)(hp:iP l)(hi:∀i,eK (gL l i))(h:gA w a l)
  (hG:bP w bm n M G (Lk R F T n)) (hs:∀r,bL (Lk R F T n r)) (hl:∀r,(Lk R F T n r).length<=1000000):
  Cl 132 #[Uf a l.length c,.map (Uq bm)] w (Rt w (Un (yes (yB R F T n l)))):=by
 have Gg:=@run_makeMap prog;have⟨Y,hY⟩:=zE (yes (yB R F T n l));have HY:=aC hY;rw[hY];clear hY;have HL:=aC h;have HG:=aC hG;clear h hG;by_cases Hk:(1000:Int)<(l.length:Int)
 .have O:aA (Y=false):=aC (by rw[<-HY.out];exact aJ (λh=>oH h.1));go_enter func132,ntmps132;go_wp2_with fail;go_ret;exact⟨cG O.symm,zI⟩
 .go_enter func132,ntmps132;go_wp2_with fail;skip;have H7:=aC<|mR.made w l;have H3:aA (Bl w (w.alloc (.map #[] 0))):=aC<|zO _ _;go_loopw [14] (λi wr=>∃k:Nat,k<=l.length/\i=Ud k/\aA (Bl w wr)/\(∃D,aA (mR wr w.1.size k l D))/\aA (dB R F T n l k)) (λi _=>l.length-(intOf i).toNat);case atStart=>exact⟨0,UB _,rfl,H3,⟨_,H7⟩,aC (λi hi=>oM)⟩
  case round=>
   clear H7 H3 Gg;obtain⟨k,hk,rfl,U,⟨D,Hh⟩,HI⟩:=hrel;by_cases Ho:k<l.length
   .rcases HL.out with h|⟨b,off,rfl,S,hc⟩
    .omega
    have⟨L,pc,c0,s,c1,c2,c3,c4⟩:=hc k Ho;have x0:=(U.cell (p:=(Ua b (off+k*5))) S).trans c0;have x1:=(U.cell (p:=(Ua b (off+k*5+1))) S).trans c1;have x2:=(U.cell (p:=(Ua b (off+k*5+2))) S).trans c2;have x3:=(U.cell (p:=(Ua b (off+k*5+3))) S).trans c3;have x4:=(U.cell (p:=(Ua b (off+k*5+4))) S).trans c4;have HS:=aC (s.bw U);have i1:(0:Int)<=(k:Int):=VH _;have i2:(k:Int)<(l.length:Int):=oM;have Gc:=aC hc;have C:=hi k;clear hc c0 c1 c2 c3 c4 s;have⟨y,hy⟩:=zE (gL l k);have Hp:=hp k;rw[hy]at HS x0 x1 x2 x3 x4 Hp C;have I:=aC hy;clear hy;have⟨p,fl,r,q,v⟩:=y;dsimp only[eK]at HS x0 x1 x2 x3 x4 Hp C;go_wp2_with fail;have⟨V,Hn⟩:=zE (wr.alloc (Uj #[Uf L p.length pc,Un fl,Ud r,Ud q,Um v] 101));have b2:Bl wr V:=Hn▸zO _ _;have B5:aF V wr.1.size (Uf L p.length pc) (Un fl) (Ud r) (Ud q) (Um v):=(by rw[<-Hn];exact⟨oP,oP,oP,oP,oP,λi=>oP,oP⟩);have⟨y0,y1,y2,y3,y4⟩:=B5.q5;have g:=B5.lt;have Hc:=aC b2;have m:=aC (U.trans (b2.mono U.size));have H8:=aC (HS.bw b2);have Ge:=aC (HG.bw m);rw[Hn];clear Hn b2 B5 x0 x1 x2 x3 x4 HS;have E:aA (¬(jH ⟨p,fl,r,q,v⟩/\cE R F T r q q n=true/\(0<k->aY (gL l (k-1)) ⟨p,fl,r,q,v⟩<0))->Y=false):=aC (λno=>by
     rw[<-HY.out];exact aJ (λh=>no (by have:=h.2.1 k Ho;rw[I.out]at this;exact this)))
    have⟨Y1,Hx⟩:=zE (yes (jH ⟨p,fl,r,q,v⟩));have Hl:=aC Hx;have H6:aA (∀W,Bl V W->Cl 171 #[Uo #[Uf L p.length pc,Un fl,Ud r,Ud q,Um v]] W (Rt W (Un Y1))):=aC<|λW hB=>Hx▸FH L pc p fl r q v W Hp (H8.bw hB);have⟨A,hA⟩:=zE (cE R F T r q q n);have HA:=aC hA;have H5:aA (∀W,Bl V W->Cl 172 #[.map (Uq bm),Uo #[Ud r,Ud q]] W (Rt W (Un A))):=aC (λW hB=>by rw[<-hA,<-yX];exact E4 (Ge.bw hB) r q C.1 (hs r) (hl r));clear Hx hA;by_cases Gb:k=0;have d3:decide (0<k)=false:=oS;have Hd:aA (0<k->aY (gL l (k-1)) ⟨p,fl,r,q,v⟩<0):=aC<|λh=>oM;clear Gb;have u:aA (∀w',Bl V w'->(Bl V w'/\w'.cell? (Ub wr.1.size)=Uq (Uf L p.length pc)/\w'.cell? (Ua wr.1.size 1)=Uq (Un fl)/\w'.cell? (Ua wr.1.size 2)=Uq (Ud r)/\w'.cell? (Ua wr.1.size 3)=Uq (Ud q)/\w'.cell? (Ua wr.1.size 4)=Uq (Um v))):=aC<|λw' hB=>⟨hB,(hB.cell (p:=(Ub wr.1.size)) g).trans y0,(hB.cell (p:=(Ua wr.1.size 1)) g).trans y1,(hB.cell (p:=(Ua wr.1.size 2)) g).trans y2,(hB.cell (p:=(Ua wr.1.size 3)) g).trans y3,(hB.cell (p:=(Ua wr.1.size 4)) g).trans y4⟩;rotate_left;obtain⟨j,hj⟩:∃j,k=j+1:=⟨k-1,oM⟩;have⟨H1,H2,c0,s',c1,c2,c3,c4⟩:=Gc j oM;have Z:=fun(o:Nat)=>m.cell (p:=(Ua b o)) S;have j0:=(Z _).trans c0;have j1:=(Z _).trans c1;have j2:=(Z _).trans c2;have j3:=(Z _).trans c3;have j4:=(Z _).trans c4;have Hw:=aC<|s'.bw m;have Hy:=hp j;have⟨y',H0⟩:=zE (gL l j);rw[H0]at j0 j1 j2 j3 j4 Hw Hy;have H4:=aC H0;have⟨p',Hm,r',Z,v'⟩:=y';dsimp only at j0 j1 j2 j3 j4 Hw Hy;have zb:b<V.1.size:=oH m.size;have d3:decide (0<k)=true:=oS;have Hz:(k:Int)-1=(j:Int):=oM;have Gh:IntKind.i64.wrap (j:Int)=(j:Int):=(by rw[IntKind.wrap_i64];omega);have Gi:IntKind.i64.wrap ((k:Int)-1)=(j:Int):=(by rw[Hz];exact Gh);have q1:(0:Int)<=(j:Int):=VH _;have q2:(j:Int)<(l.length:Int):=oM;have Hu:=aC hj;have⟨X,hX⟩:=zE (aY ⟨p',Hm,r',Z,v'⟩ ⟨p,fl,r,q,v⟩);have H9:=aC hX;have Gd:aA (∀W,Bl V W->Cl 104 #[Uo #[Uf H1 p'.length H2,Un Hm,Ud r',Ud Z,Um v'],Uo #[Uf L p.length pc,Un fl,Ud r,Ud q,Um v]] W (Rt W (Ud X))):=aC<|λW hB=>hX▸AW H1 L H2 pc p' p Hm fl r' Z r q v' v W Hy Hp (Hw.bw hB) (H8.bw hB);clear hX hj Gb c0 c1 c2 c3 c4 s' H0;have u:aA (∀w',Bl V w'->(Bl V w'/\w'.cell? (Ub wr.1.size)=Uq (Uf L p.length pc)/\w'.cell? (Ua wr.1.size 1)=Uq (Un fl)/\w'.cell? (Ua wr.1.size 2)=Uq (Ud r)/\w'.cell? (Ua wr.1.size 3)=Uq (Ud q)/\w'.cell? (Ua wr.1.size 4)=Uq (Um v)/\w'.cell? (Ua b (off+j*5))=Uq (Uf H1 p'.length H2)/\w'.cell? (Ua b (off+j*5+1))=Uq (Un Hm)/\w'.cell? (Ua b (off+j*5+2))=Uq (Ud r')/\w'.cell? (Ua b (off+j*5+3))=Uq (Ud Z)/\w'.cell? (Ua b (off+j*5+4))=Uq (Um v'))):=aC<|λw' hB=>⟨hB,(hB.cell (p:=(Ub wr.1.size)) g).trans y0,(hB.cell (p:=(Ua wr.1.size 1)) g).trans y1,(hB.cell (p:=(Ua wr.1.size 2)) g).trans y2,(hB.cell (p:=(Ua wr.1.size 3)) g).trans y3,(hB.cell (p:=(Ua wr.1.size 4)) g).trans y4,(hB.cell (p:=(Ua b (off+j*5))) zb).trans j0,(hB.cell (p:=(Ua b (off+j*5+1))) zb).trans j1,(hB.cell (p:=(Ua b (off+j*5+2))) zb).trans j2,(hB.cell (p:=(Ua b (off+j*5+3))) zb).trans j3,(hB.cell (p:=(Ua b (off+j*5+4))) zb).trans j4⟩;rotate_left;all_goals
     refine zS u<|λqh=>?_;refine tZ 0 19 ?_;refine cZ 1 ?_;intro K z;go_simp;refine(H6 _ qh.1).mono ?_;rintro e w3⟨rfl,b3⟩;have Hi:=qh.1.trans<|b3.mono qh.1.size;refine bZ z (u _ Hi)<|λqh=>?_;clear z K;cases Y1
     .exact Ep
    all_goals
     refine tY 2 21 ?_;refine tY 4 23 ?_;refine tZ 6 25 ?_;refine cZ 7 ?_;intro K z;go_simp;refine(H5 _ qh.1).mono ?_;rintro e w4⟨rfl,b4⟩;have J:=qh.1.trans<|b4.mono qh.1.size;refine bZ z (u _ J)<|λqh=>?_;clear z K;cases A
     .exact Eo
    all_goals refine tY 8 27 ?_;refine tY 10 29 ?_;refine tY 12 31 ?_
    .refine uZ 14 33 ?_;refine uZ 15 34 ?_;refine uZ 16 35 ?_;refine uZ 17 36 ?_;refine uZ 18 37 ?_;refine uZ 19 38 ?_;refine uZ 20 39 ?_;refine uZ 21 40 ?_;refine tY 22 41 ?_;refine zD ?_;have Hr:=aC J;have y2:=(J.cell (p:=(Ua wr.1.size 2)) g).trans y2;have y3:=(J.cell (p:=(Ua wr.1.size 3)) g).trans y3;have⟨kl,B⟩:=rR C.1 C.2;have Hv:=aC B;have N:=Hh.bw<|Hc.trans (J.mono Hc.size);exact xH
    .refine tY 14 33 ?_;refine tY 16 35 ?_;refine tY 18 37 ?_;refine cZ 20 ?_;intro K z;go_simp;refine(Gd _ qh.1).mono ?_;rintro e w5⟨rfl,b5⟩;have P:=qh.1.trans<|b5.mono qh.1.size;refine bZ z (u _ P)<|λqh=>?_;clear z K;by_cases Ga:(0:Int)<=X;rotate_left;have Hd:aA (0<k->aY (gL l (k-1)) ⟨p,fl,r,q,v⟩<0):=aC (λ_=>by rw[show k-1=j by have:=Hu.out;omega,H4,H9.out];omega);rotate_left;all_goals refine tY 21 40 ?_;refine tZ 23 42 ?_;refine zD ?_
     .have O:=aC (E (λh=>by have e:=h.2.2 (oH Hu);rw[show k-1=j by have:=Hu.out;omega,H4,H9.out]at e;omega));have Q:=aC<|m.trans (P.mono m.size);clear qh u E;go_wp2_with fail;go_ret;exact⟨cG O.symm,Q⟩
     .have Hr:=aC P;have y2:=(P.cell (p:=(Ua wr.1.size 2)) g).trans y2;have y3:=(P.cell (p:=(Ua wr.1.size 3)) g).trans y3;have⟨kl,B⟩:=rR C.1 C.2;have Hv:=aC B;have N:=Hh.bw<|Hc.trans (P.mono Hc.size);exact xH
   .obtain rfl:k=l.length:=oM;have Ha:=Hh.own;have Gf:aA (Y=((Maps.size D:Int)==(l.length:Int))):=aC (by
     rw[<-HY.out];by_cases e:Maps.size D=l.length
     .rw[aN ⟨oM,HI.out,λi hi j hj=>Hh.eq.1 e i hi j hj⟩,e];simp
     .rw[aJ (λh=>e (Hh.eq.2 (λi hi j hj=>h.2.2 i hi j hj)))];symm;simp;omega)
    have Q:=aC U;go_wp2_with (refine wpList_len_own _ rfl _ 254 rfl 99 3 underlying254 _ _ _ _ rfl Ha ?_);go_ret;exact⟨cG Gf.symm,Q⟩
theorem SU(a:Option Us)(c:Nat)(l:List Lf)(x:Option Us)(n d:Nat)(R F T:Nat->Int)(w:Ur)(hn:l.length<=1048576)(hp:iP l)(hi:∀i,eK (gL l i))(hm:n<=1048576)(h:gA w a l)(h':bI w x n R F T):
  Cl 94 #[Uo #[Uf a l.length c,Uf x n d]] w λe w'=>(∃M,e=Ui (Ul #[M,Un (yes (bG R F T n l))]))/\Bl w w':=by
 have⟨W,k⟩:=zE (w.alloc (Uj #[Uf a l.length c,Uf x n d] 28));have q:Bl w W:=k▸zO _ _;have V:w.1.size<W.1.size:=k▸oP;have u:W.cell? (Ub w.1.size)=Uq (Uf a l.length c):=k▸oP;have U:W.cell? (Ua w.1.size 1)=Uq (Uf x n d):=k▸oP;have Z:=aC (h.bw q);have A:=aC (h'.bw q);have t:=aC q;have⟨Y,z⟩:=zE (yes (bG R F T n l));have v:=aC z;rw[z];cases hcx:eQ R F T n;have s:aA (Y=false):=aC (by rw[<-v.out];exact aJ (λh=>by have:=h.1;rw[hcx]at this;cases this));have m:=aC (PE x n d R F T W hm A hcx);have K:=s.out;subst K;rotate_left;have g:=dL.1 hcx;have m:=aC (Qr x n d R F T W hm A hcx);have I:aA (∀r,bL (Lk R F T n r)):=aC (λr=>(kZ n g.1 r).1);have H:aA (∀r,(Lk R F T n r).length<=1000000):=aC (λr=>oJ (jJ R F T n r) g.2);have b:aA (Y=yes (yB R F T n l)):=aC (by
  rw[<-v.out];by_cases e:yB R F T n l
  .rw[aN e,aN ⟨hcx,e.1,e.2.1,e.2.2⟩]
  .rw[aJ e,aJ (λh=>e ⟨h.2.1,h.2.2.1,h.2.2.2⟩)])
 rotate_left;all_goals
  go_enter func94,ntmps94;go_wp2_with fail
  refine m.mono ?_
 .rintro e w1⟨rfl,j⟩;have N:=(j.cell (p:=(Ub w.1.size)) V).trans u;have y:=aC<|aE t j;go_wp2_with fail;go_ret2;exact⟨⟨_,rfl⟩,y⟩
 .rintro e w1⟨J,D,G,rfl,Q,L,j⟩;have N:=(j.cell (p:=(Ub w.1.size)) V).trans u;have o:=aC<|Xq a c l J n D G R F T w1 hn hp hi (Z.bw j) Q I H;have y:=aC<|aE t j;go_wp2_with fail;refine o.mono ?_;rintro e X⟨rfl,O⟩;have E:=aC<|aE y O;rw[<-b.out];cases Y;all_goals go_wp2_with fail;go_ret2;exact⟨⟨_,rfl⟩,E⟩
noncomputable def Mk(l:List Lf):Nat->List Ky->Dt->Option ByteArray
 |0=>λ_ _=>Up
 |k+1=>mO (Mk l k) (aG (gL l k).p (kd (gL l k).fl)) ((gL l k).r,(gL l k).q) (gL l k).v
def aS(x:Lf):List Ky:=aG x.p (kd x.fl)
theorem lT{l:List Lf}{p:List Ky}{d:Dt}:∀{k:Nat},Mk l k p d≠Up↔∃j,j<k/\aS (gL l j)=p/\((gL l j).r,(gL l j).q)=d
 |0=>⟨λh=>absurd rfl h,λ⟨j,m,_⟩=>oM⟩
 |k+1=>by
  have y:=lT (l:=l) (p:=p) (d:=d) (k:=k);simp only[Mk];by_cases e:p=aG (gL l k).p (kd (gL l k).fl)
  .rw[e,uQ,<-e];by_cases u:d=((gL l k).r,(gL l k).q)
   .rw[u,iU];exact⟨λ_=>⟨k,oM,e.symm,rfl⟩,λ_ h=>by cases h⟩
   .rw[gJ _ _ u,y];constructor
    .rintro⟨j,m,r⟩;exact⟨j,oM,r⟩
    .rintro⟨j,m,r1,r2⟩;by_cases v:j=k
     .subst v;exact absurd r2.symm u
     .exact⟨j,oM,r1,r2⟩
  .rw[sN _ _ _ e,y];constructor
   .rintro⟨j,m,r⟩;exact⟨j,oM,r⟩
   .rintro⟨j,m,r1,r2⟩;by_cases v:j=k
    .subst v;exact absurd r1.symm e
    .exact⟨j,oM,r1,r2⟩
def iX(l:List Lf)(k:Nat)(N:List Ky->Option (Nat×Nat)):Prop:=∀z,(N z).isSome=true↔z=[]\/∃j,j<k/\z <+:aS (gL l j)
theorem SQ(a:Option Us)(c:Nat)(l:List Lf)(x:Option Us)(n d:Nat)(R F T:Nat->Int)(w:Ur)(hn:l.length<=1048576)(hp:iP l)(hi:∀i,eK (gL l i))(hm:n<=1048576)(h:gA w a l)(h':bI w x n R F T)(hok:bG R F T n l):
  Cl 94 #[Uo #[Uf a l.length c,Uf x n d]] w λe w'=>(∃j D G,e=Ui (Ul #[.map (Uq j),Un true])/\bP w' j n D G (Lk R F T n)/\w.1.size<=j)/\Bl w w':=by
 generalize k:w.alloc (Uj #[Uf a l.length c,Uf x n d] 28)=W;have m:Bl w W:=k▸zO _ _;have E:w.1.size<W.1.size:=k▸oP;have A:W.cell? (Ub w.1.size)=Uq (Uf a l.length c):=k▸oP;have K:W.cell? (Ua w.1.size 1)=Uq (Uf x n d):=k▸oP;have V:=aC<|h.bw m;have Z:=aC<|h'.bw m;have M:=aC m;have v:=hok.1;have z:=dL.1 v;have o:=aC<|Qr x n d R F T W hm Z v;have H:aA (∀r,bL (Lk R F T n r)):=aC<|λr=>(kZ n z.1 r).1;have Y:aA (∀r,(Lk R F T n r).length<=1000000):=aC<|λr=>oJ (jJ R F T n r) z.2;have t:aA (yes (yB R F T n l)=true):=aC<|aN ⟨hok.2.1,hok.2.2.1,hok.2.2.2⟩;have b:=aC E;go_enter func94,ntmps94;go_wp2_with fail;refine o.mono ?_;rintro e w1⟨j,D,G,rfl,y,s,q⟩;have L:=(q.cell (p:=(Ub w.1.size)) b).trans A;have g:=aC<|Xq a c l j n D G R F T w1 hn hp hi (V.bw q) y H Y;have I:=aC<|aE M q;have U:=aC y;have O:=aC s;go_wp2_with fail;refine g.mono ?_;rintro e N⟨rfl,u⟩;have J:=aC<|aE I u;have Q:=aC<|U.bw u;rw[t.out];go_wp2_with fail;go_ret2;exact⟨⟨j,D,G,rfl,Q,Uz (Nat.le_of_lt b) O⟩,J⟩
structure aH(w:Ur)(b:Nat)(v0 v1 v2:aB):Prop where
 c0:w.cell? (Ub b)=Uq v0
 c1:w.cell? (Ua b 1)=Uq v1
 c2:w.cell? (Ua b 2)=Uq v2
 f:∀i,w.frozen? (Ua b i)=false
 lt:b<w.1.size
theorem aH.q2{w:Ur}(h:aH w b v0 v1 v2):w.cell? (Ub b)=Uq v0/\w.cell? (Ua b 1)=Uq v1:=⟨h.c0,h.c1⟩
theorem aH.p2{w:Ur}(h:aH w b v0 v1 v2):w.cell? (Ub b)=Uq v0/\w.cell? (Ua b 1)=Uq v1/\∀i,w.frozen? (Ua b i)=false:=⟨h.c0,h.c1,h.f⟩
theorem aH.q3{w:Ur}(h:aH w b v0 v1 v2):w.cell? (Ub b)=Uq v0/\w.cell? (Ua b 1)=Uq v1/\w.cell? (Ua b 2)=Uq v2:=⟨h.c0,h.c1,h.c2⟩
theorem aH.p3{w:Ur}(h:aH w b v0 v1 v2):w.cell? (Ub b)=Uq v0/\w.cell? (Ua b 1)=Uq v1/\w.cell? (Ua b 2)=Uq v2/\∀i,w.frozen? (Ua b i)=false:=⟨h.c0,h.c1,h.c2,h.f⟩
theorem aH.bw{w:Ur}(h:aH w b v0 v1 v2)(hb:Below B w w')(hB:b<B):aH w' b v0 v1 v2:=
 ⟨(hb.cell (p:=(Ub b)) hB).trans h.c0,(hb.cell (p:=(Ua b 1)) hB).trans h.c1,(hb.cell (p:=(Ua b 2)) hB).trans h.c2,λi=>(hb.frozen (p:=(Ua b i)) hB).trans (h.f i),Ut h.lt hb.size⟩
theorem aH.gt{w:Ur}(h:aH w b v0 v1 v2)(hg:Gt B w w'):aH w' b v0 v1 v2:=
 ⟨hg.cell h.c0,hg.cell h.c1,hg.cell h.c2,λi=>(hg.frozen (q:=(Ua b i)) h.c0 rfl).trans (h.f i),Ut h.lt hg.size⟩
theorem aH.made(w:Ur)(v0 v1 v2:aB)(t:TypeId):aH (w.alloc (Uj #[v0,v1,v2] t)) w.1.size v0 v1 v2:=⟨oP,oP,oP,λi=>oP,oP⟩
theorem aH.set0{w:Ur}(h:aH w b v0 v1 v2)(u:aB):aH (w.setCell (Ub b) u) b u v1 v2:=
 ⟨Vs _ _ _ h.c0,by simp[Vt,h.c1],by simp[Vt,h.c2],λi=>by rw[Vq];exact h.f i,by simp[Vr];exact h.lt⟩
theorem aH.set1{w:Ur}(h:aH w b v0 v1 v2)(u:aB):aH (w.setCell (Ua b 1) u) b v0 u v2:=
 ⟨by simp[Vt,h.c0],Vs _ _ _ h.c1,by simp[Vt,h.c2],λi=>by rw[Vq];exact h.f i,by simp[Vr];exact h.lt⟩
theorem aH.set2{w:Ur}(h:aH w b v0 v1 v2)(u:aB):aH (w.setCell (Ua b 2) u) b v0 v1 u:=
 ⟨by simp[Vt,h.c0],by simp[Vt,h.c1],Vs _ _ _ h.c2,λi=>by rw[Vq];exact h.f i,by simp[Vr];exact h.lt⟩
theorem aH.set{w:Ur}(h:aH w b v0 v1 v2)(u0 u1 u2:aB):aH (((w.setCell (Ub b) u0).setCell (Ua b 1) u1).setCell (Ua b 2) u2) b u0 u1 u2:=((h.set0 u0).set1 u1).set2 u2
theorem iX.step{N N':List Ky->Option (Nat×Nat)}(h:iX l k N)(h':∀z,(N' z).isSome=true↔(N z).isSome=true\/z <+:aS (gL l k)):iX l (k+1) N':=λz=>by
 rw[h' z,h z];constructor
 .rintro((e|⟨j,q,e⟩)|e)
  .exact .inl e
  .exact .inr ⟨j,oM,e⟩
  .exact .inr ⟨k,oM,e⟩
 .rintro(e|⟨j,q,e⟩)
  .exact .inl<|.inl e
  .by_cases m:j=k
   .subst m;exact .inr e
   .exact .inl<|.inr ⟨j,oM,e⟩
theorem ES(fl:Bool):(Lit.int Uh (kd fl)).wf=true:=by cases fl<;>decide
theorem AS(a:Option Us)(c:Nat)(l:List Lf)(x:Option Us)(n d:Nat)(R F T:Nat->Int)(w:Ur)(hn:l.length<=1048576)(hp:iP l)(hi:∀i,eK (gL l i))(hm:n<=1048576)(h:gA w a l)(h':bI w x n R F T)(hok:¬bG R F T n l):
  Cl 57 #[Uo #[Uf a l.length c,Uf x n d]] w (Rt w (Ul #[Uo #[.map Up,.map Up,.map Up],Un false])):=by
 generalize k:(w.alloc (Uj #[Uf a l.length c,Uf x n d] 28)).alloc (Uj #[.map Up,.map Up,.map Up] 111)=W;have m:Bl w W:=k▸aU _ _ _;have u:aH W (w.1.size+1) (.map Up) (.map Up) (.map Up):=by rw[<-k];simpa using aH.made (w.alloc (Uj #[Uf a l.length c,Uf x n d] 28)) (.map Up) (.map Up) (.map Up) 111
 have o:W.cell? (Ub w.1.size)=Uq (Uf a l.length c):=k▸oP;have b:W.cell? (Ua w.1.size 1)=Uq (Uf x n d):=k▸oP;have q:=aC<|SU a c l x n d R F T W hn hp hi hm (h.bw m) (h'.bw m);have z:=aC m;have y:=aC u;rw[aJ hok]at q;go_enter func57,ntmps57;go_wp2_with fail;refine q.mono ?_;rintro e w1⟨⟨M,rfl⟩,r⟩;have j:=y.bw r y.lt;have⟨s,A,E⟩:=j.q3;have O:=j.f 0;have Q:=j.f 1;have U:=j.f 2;have t:=aC<|aE z r;have g:=aC<|j.set (.map Up) (.map Up) (.map Up);go_wp2_with fail;have⟨p,r1,r2⟩:=g.q3;refine zF (v:=Ul #[Uo #[.map Up,.map Up,.map Up],Un false]) (by simp[results,results57,go_sem,p,r1,r2]) ⟨rfl,?_⟩;exact((t.setCell oP _).setCell oP _).setCell oP _
theorem bP.set{w:Ur}{D:DataW aB}{G:Int->aB}(h:bP w bm n D G L)(q:Us)(u:aB)(hq:q.block<bm):bP (w.setCell q u) bm n D G L:=by
 have j:w.grownBy (w.setCell q u) (Uq q.block):=⟨rfl,rfl,rfl,by simp[Vr],λk _ hk=>zH _ _ _ _ (λe=>hk (by rw[e]))⟩;refine⟨h.own.kept j (λe=>oI e),h.at',h.has',λr=>(h.rows r).kept j ?_,h.apart⟩;cases e:(G r).ownBlock with
 |none=>exact .inl rfl
 |some g=>exact .inr (λe2=>by have:=((h.rows r).lt g e).1;injection e2 with e2;omega)
theorem Zr(a:Option Us)(c:Nat)(l:List Lf)(x:Option Us)(n d:Nat)(R F T:Nat->Int)(w:Ur)(hn:l.length<=1048576)(hp:iP l)(hi:∀i,eK (gL l i))(hm:n<=1048576)(h:gA w a l)(h':bI w x n R F T)(hok:bG R F T n l):
  Cl 57 #[Uo #[Uf a l.length c,Uf x n d]] w λe w'=>(∃x0 g D G N B,e=Ui (Ul #[Uo #[.map (Uq x0.1),.map (Uq x0.2),.map (Uq g)],Un true])/\bP w' g n D G (Lk R F T n)/\w.1.size<=g/\w.1.size<=B/\g<B/\bB w' B N (Mk l l.length) (9*l.length)/\N []=Uq x0/\iX l l.length N)/\Bl w w':=by
 generalize U:(w.alloc (Uj #[Uf a l.length c,Uf x n d] 28)).alloc (Uj #[.map Up,.map Up,.map Up] 111)=W;have L:Bl w W:=U▸aU _ _ _;have B0:aH W (w.1.size+1) (.map Up) (.map Up) (.map Up):=by rw[<-U];simpa using aH.made (w.alloc (Uj #[Uf a l.length c,Uf x n d] 28)) (.map Up) (.map Up) (.map Up) 111
 have k0:W.cell? (Ub w.1.size)=Uq (Uf a l.length c):=U▸oP;have k1:W.cell? (Ua w.1.size 1)=Uq (Uf x n d):=U▸oP;have HO:=aC<|SQ a c l x n d R F T W hn hp hi hm (h.bw L) (h'.bw L) hok;have Hv:=aC L;have H:=aC B0;have H1:=aC hok;have HL:=aC<|h.bw L;have H8:=hok.2.1;go_enter func57,ntmps57;go_wp2_with fail;refine HO.mono ?_;rintro e w1⟨⟨g,D,G,rfl,Hb,H7⟩,X⟩;have B1:=H.bw X H.lt;have Z:=aC B1;have HZ:=aC<|aE Hv X;have k2:=(X.cell (p:=(Ub w.1.size)) (show w.1.size<W.1.size by have:=H.lt;omega)).trans k0;have Hk:=aC<|HL.bw X;have Hj:=aC Hb;have P:=aC (show w.1.size+1<g from by have:=H.lt;omega);go_wp2_with fail;refine(sK w1).mono ?_;rintro e Y⟨m,u,rfl,Hu,Hs,Ht,m1,m2,b2⟩;generalize V:Y.alloc (Uj #[.map (Uq m),.map (Uq u)] 107)=M;have b3:Bl w1 M:=V▸b2.alloc b2.size _;have NB:aD M Y.1.size (.map (Uq m)) (.map (Uq u)):=V▸aD.made _ _ _ _;have Hl:=aC NB;have T0:bB M w1.1.size (λz=>if z=[] then Uq (m,u)else Up) (Mk l 0) 0:=by
  have e1:M.1[m]? =Y.1[m]? :=V▸Below.heap_alloc _ _ _ m1.lt;have e2:M.1[u]? =Y.1[u]? :=V▸Below.heap_alloc _ _ _ m2.lt;refine⟨λp x hx=>?_,λp x hx=>?_,λp q x y hx A=>?_,λp x hx=>?_,λp hp=>rfl,λp y hp=>oP⟩
  .split at hx
   .cases hx;exact(m1.same e1).ext (λy=>oP)
   .cases hx
  .split at hx
   .cases hx;exact m2.same e2
   .cases hx
  .split at hx
   .rename_i ep;split at A
    .rename_i eq;injection hx with hx;injection A with A;subst hx;subst A;exact⟨Hu,λ_=>by rw[ep,eq],λ_=>by rw[ep,eq]⟩
    .cases A
   .cases hx
  .split at hx
   .cases hx;exact⟨Hs,Ht⟩
   .cases hx
 have Hn:=aC T0;have Hc:=aC<|Z.bw b3 Z.lt;have H4:=aC<|aE HZ b3;have k3:=(b3.cell (p:=(Ub w.1.size)) (show w.1.size<w1.1.size by have:=Z.lt;omega)).trans k2;have Hz:=aC<|Hk.bw b3;have H6:=aC b3;have O:=aC<|show w.1.size<=w1.1.size/\w.1.size+1<w1.1.size/\g<w1.1.size/\w1.1.size<=M.1.size from⟨HZ.size,Z.lt,Hj.own.lt,b3.size⟩;go_wp2_with fail;go_loopw [21] (λi wr=>∃k:Nat,k<=l.length/\i=Ud k/\aA (Gt w1.1.size M wr)/\(∃N,aA (bB wr w1.1.size N (Mk l k) (9*k))/\aA (N []=Uq (m,u))/\aA (iX l k N))) (λi _=>l.length-(intOf i).toNat);case atStart=>
  refine⟨0,UB _,rfl,aC (Gt.refl _ _),_,Hn,aC (if_pos rfl),aC (λz=>?_)⟩;show((if z=[] then Uq (m,u)else Up:Option (Nat×Nat)).isSome=true↔_);by_cases e:z=[]
  .rw[if_pos e];exact⟨λ_=> .inl e,λ_=>rfl⟩
  .rw[if_neg e];exact⟨λh=>by simp at h,λh=>by rcases h with h|⟨j,hj,_⟩;exact absurd h e;omega⟩
 case round=>
  obtain⟨k,hk,rfl,o,N,HT,HN,HI⟩:=hrel;by_cases Hh:k<l.length
  .rcases (Hz.gt o.out)with h|⟨b,off,rfl,hb,hc⟩
   .omega
   have⟨pa,pc,x0,s,x1,x2,x3,x4⟩:=hc k Hh;have Hg:=H1.2.2.1 k Hh;have S:=hi k;have Hi:=hp k;have i1:(0:Int)<=(k:Int):=VH _;have i2:(k:Int)<(l.length:Int):=oM;generalize A:gL l k=y;rw[A]at s x0 x1 x2 x3 x4 Hi S Hg;have HS:=aC s;have HE:=aC A;have⟨p,fl,r,q,v⟩:=y;dsimp only[eK]at HS x0 x1 x2 x3 x4 Hi S;have Hm:=aC Hg.1.1;have Ha:=aC<|Hl.gt o;generalize Hr:wr.alloc (Uj #[Uf pa p.length pc,Un fl,Ud r,Ud q,Um v] 101)=J;have b4:Bl wr J:=Hr▸zO _ _;have t:aF J wr.1.size (Uf pa p.length pc) (Un fl) (Ud r) (Ud q) (Um v):=(by rw[<-Hr];exact⟨oP,oP,oP,oP,oP,λi=>oP,oP⟩);have I:=Ha.bw b4 Ha.lt;have⟨y0,y1,y2,y3,y4⟩:=t.q5;have⟨n0,n1⟩:=I.q2;have H2:=aC<|HS.bw b4;have Ho:=aC<|HT.bw b4;have He:=aC<|o.keep b4;go_wp2_with fail;have Hd:aA (∀w',Gt w1.1.size J w'->(Gt w1.1.size J w'/\w'.cell? (Ub Y.1.size)=Uq (.map (Uq m))/\w'.cell? (Ua Y.1.size 1)=Uq (.map (Uq u))/\w'.cell? (Ub wr.1.size)=Uq (Uf pa p.length pc)/\w'.cell? (Ua wr.1.size 1)=Uq (Un fl)/\w'.cell? (Ua wr.1.size 2)=Uq (Ud r)/\w'.cell? (Ua wr.1.size 3)=Uq (Ud q)/\w'.cell? (Ua wr.1.size 4)=Uq (Um v))):=aC<|λw' hB=>⟨hB,hB.cell n0,hB.cell n1,hB.cell y0,hB.cell y1,hB.cell y2,hB.cell y3,hB.cell y4⟩;refine zA Hd (Gt.of_below zI.drew)<|λqh=>?_;refine tY 0 25 ?_;refine tY 2 27 ?_;refine tY 5 30 ?_;refine tY 7 32 ?_;refine tZ 9 34 ?_;refine cZ 4 ?_;intro K C;go_simp;refine(My _ fl _ _ _ _).mono ?_;rintro e w5⟨rfl,Q⟩;have E:Bl J w5:=⟨Q.os,Q.tape,Q.output,Q.size,Q.block⟩;refine bZ C (Hd _ (Gt.of_below E))<|λqh=>?_;refine cZ 10 ?_;intro K C;go_simp;refine(Pp 0 p pa pc (kd fl) r q v w1.1.size (9*k) N (Mk l k) (m,u) w5 Hi (λi=>?_) (ES fl) S.1 S.2 oM ?_ (H2.bw E) (Ho.bw E) HN ?_ (λz x hz=>?_)).mono ?_
   .by_cases hi':i<p.length
    .have:=(Hm.2.2 i hi').2;omega
    .rw[Sk oM];simp
   .have h1:=O.2.2.2;have h2:=He.size;have h3:=E.size;omega
   .have h1:=O.out;have h2:=He.size;have h3:=E.size;omega
   .have h1:=Ho.lo z x hz;have h2:=O.2.1;exact⟨oM,oM⟩
   rintro e w6⟨rfl,g6,_,N',T6,Hq,Hp⟩;have Hw:=aC<|(He.keep E).trans g6;have H3:=aC T6;have Hy:=aC Hp;have H0:=aC Hq;refine bZ C (Hd _ ((Gt.of_below E).trans g6))<|λqh=>?_;refine zD ?_;go_wp2_with fail;go_roundw;case rel=>
    have H9:=Hm.2.1;refine⟨k+1,Hh,oN,Hw,N',aC ?_,H0,aC (HI.step ?_)⟩
    .have e:Mk l (k+1)=mO (Mk l k) (aG p (kd fl)) (r,q) v:=(by simp only[Mk];rw[HE.out]);rw[e];exact H3.mono oM
    .rw[HE.out];exact Hy
   case measure=>exact oE
  .obtain rfl:k=l.length:=oM;have I:=Hl.gt o;have⟨n0,n1⟩:=I.q2;have t:=Hc.gt o;have⟨c0,c1,c2⟩:=t.q3;have f0:=t.f 0;have f1:=t.f 1;have f2:=t.f 2;have HC:=aC<|t.set (.map (Uq m)) (.map (Uq u)) (.map (Uq g));have Hf:Below w1.1.size M wr:=o.bw O.2.2.2;have Hx:=aC<|Hj.bw (H6.trans Hf);have H5:=aC<|H4.trans (Hf.mono O.1);go_wp2_with fail;have⟨r0,r1,r2⟩:=HC.q3;refine zF (v:=Ul #[Uo #[.map (Uq m),.map (Uq u),.map (Uq g)],Un true]) (by simp[results,results57,go_sem,r0,r1,r2]) ⟨⟨(m,u),g,D,G,N,w1.1.size,rfl,?_,oH P,O.1,O.2.2.1,?_,HN,HI⟩,?_⟩
   .exact((Hx.set _ _ P.out).set _ _ P.out).set _ _ P.out
   .exact((HT.set _ c0).set _ (Hc.gt o.out|>.set0 _).c1).set _ ((Hc.gt o.out|>.set0 _).set1 _).c2
   .exact((H5.setCell oP _).setCell oP _).setCell oP _
theorem fU{ops:Array Oper}{Q:Exit->Act->Ur->Prop}{md:Region.Mode}{S:Ur->Prop}{d d':Option Tmp}{fuel:Nat}{listed:Array Bool}{a:Act}{w:Ur}
  (hd:ops[i]?.map (λo=>o.dst)=Uq d) (hd':ops[j]?.map (λo=>o.dst)=Uq d') (hr:Region.ready md ops listed=[i,j])
  (h:∀o,ops[i]? =Uq o->o.dst=d->∀K':Act->Ur->Prop,Shut (∀a w,S w->(S w->wpAnyH P md ops Q S fuel (listed.setIfInBounds i true) a w)->K' a w)->if Region.wanted o (yielded ops a.tmps)=true then Oper.wp P o a w K' Q else K' (a.put o.dst undef) w)
  (h':∀o,ops[j]? =Uq o->o.dst=d'->∀K':Act->Ur->Prop,Shut (∀a w,S w->(S w->wpAnyH P md ops Q S fuel (listed.setIfInBounds j true) a w)->K' a w)->if Region.wanted o (yielded ops a.tmps)=true then Oper.wp P o a w K' Q else K' (a.put o.dst undef) w):
  wpAnyH P md ops Q S (fuel+1) listed a w:=by
 exact vT
def mF(o:Option (Nat×Nat)):Option Nat:=o.map Prod.fst
def mS(o:Option (Nat×Nat)):Option Nat:=o.map Prod.snd
theorem MY(o:Option (Nat×Nat)):bE o=Uo #[.map (mF o),.map (mS o)]:=by cases o<;>rfl
theorem bB.look{w:Ur}{N:List Ky->Option (Nat×Nat)}{M:List Ky->Dt->Option ByteArray}(h:bB w B N M c)(p:List Ky)(y:Ky){kl:Lit}(hk:keyOf prog 175 (aP y)=Uq kl):
  (Instr.lookup 104 (.map (mF (N p))) (aP y) false).run prog w=.ok (Uo #[.map (mF (N (p++[y]))),.map (mS (N (p++[y])))]) w:=by
 rw[<-MY];cases e:N p with
 |some x=>exact(h.kids p x e).look gH underlying104 (Cz w) hk
 |none=>rw[h.up p y e];exact Maps.look_nil false gH underlying104 (Cz w) hk
theorem wR{Q:Prop}(h:Q:=by
 have t:Bl wr w1:=⟨m.os,m.tape,m.output,m.size,m.block⟩;have F:=H _ t;refine cZ 6 ?_;intro K q;go_simp;refine q.out _ _ trivial<|λqh=>?_;clear q K;try simp only[zP]
 clear F;obtain⟨U,t1,t2,t3,V,Y,Z⟩:=E _ t;have X:=aC V;have C:=aC Y;have D:=aC Z;clear V Y Z;refine cZ 7 ?_;intro K q;go_simp;refine q.out _ _ trivial<|λqh=>?_;clear q K;try simp only[zP]
 refine zD ?_;clear qh m t U t1 t2 t3 E H G;go_wp2_with fail;go_roundw;case rel=>exact⟨j+1,I,oN,X,s,v',Hf,C,D⟩
 case measure=>exact oE):Q:=h
theorem BZ(p:List ByteArray)(a:Option Us)(cp:Nat)(k:Int)(B c:Nat)(N:List Ky->Option (Nat×Nat))(M:List Ky->Dt->Option ByteArray)(w:Ur)
  (hp:p.length<=1048576) (hs:∀i,(gS p i).size<=1048576) (hk:(Lit.int Uh k).wf=true) (h:aV w a p) (hT:bB w B N M c):
  Cl 191 #[Uo #[.map (mF (N [])),.map (mS (N []))],Uf a p.length cp,Ud k] w (Rt w (Uo #[.map (mF (N (aG p k))),.map (mS (N (aG p k)))])):=by
 have⟨J,T⟩:=zE (mF (N []));have⟨L,Ha⟩:=zE (mS (N []));rw[T,Ha];have⟨W,O⟩:=zE ((w.alloc (Uj #[.map J,.map L] 107)).alloc (Uj #[.map Up,.map Up] 107));have b0:Bl w W:=O▸aU _ _ _;have P0:aD W w.1.size (.map J) (.map L):=O▸(aD.made w _ _ _).allocs _;have P1:aD W (w.1.size+1) (.map Up) (.map Up):=by rw[<-O];simpa using aD.made (w.alloc (Uj #[.map J,.map L] 107)) (.map Up) (.map Up) 107
 have HS:=aC h;have Hd:=aC P0;have He:=aC P1;have HT:=aC hT;have Hc:=aC b0;have z:=aC<|And.intro T Ha;have Hs:=aC hs;clear h hT b0 P0 P1 hs T Ha;go_enter func191,ntmps191;go_wp2_with fail;clear O;go_loopw [10] (λi wr=>∃j:Nat,j<=p.length/\i=Ud j/\aA (Bl w wr)/\(∃u v,aA (mF (N ((aG p k).take j))=u/\mS (N ((aG p k).take j))=v)/\aA (aD wr w.1.size (.map u) (.map v))/\aA (aD wr (w.1.size+1) (.map Up) (.map Up)))) (λi _=>p.length-(intOf i).toNat);case atStart=>exact⟨0,UB _,rfl,Hc,J,L,aC (oU z),Hd,He⟩
 case round=>
  clear Hd He Hc z;obtain⟨j,hj,rfl,r,u,v,z,g,y⟩:=hrel;by_cases I:j<p.length
  .have i2:(j:Int)<(p.length:Int):=oM;obtain⟨nm,b,A⟩:∃nm b,bO p k j=(nm,b):=⟨_,_,rfl⟩;obtain⟨kl,Hg⟩:∃kl,keyOf prog 175 (aP (nm,b))=Uq kl:=by
    unfold bO at A;have e1:=(Prod.mk.inj A).1;have e2:=(Prod.mk.inj A).2;refine yH ?_ ?_
    .rw[<-e1];have:=Hs j;unfold maxLen;omega
    .rw[<-e2];split
     .decide
     .exact hk
   have Hh:(aG p k).take (j+1)=(aG p k).take j++[(nm,b)]:=(by rw[Dy I];have:=A;unfold bO at this;rw[this]);have G:aA (∀w1,Bl wr w1->Cl 133 #[Uf a p.length cp,Ud j,Ud k] w1 (Rt w1 (Uo #[Um nm,Ud b]))):=aC (λw1 m=>by
    have:=Wl p a cp k j w1 hp I (HS.bw (r.trans (m.mono r.size)));rw[A]at this;exact this)
   have⟨s,R⟩:=zE (mF (N ((aG p k).take (j+1))));have⟨v',Hb⟩:=zE (mS (N ((aG p k).take (j+1))));have Hf:=aC (And.intro R Hb);have H:aA (∀w1,Bl wr w1->(Instr.lookup 104 (.map u) (Uo #[Um nm,Ud b]) false).run prog w1=.ok (Uo #[.map s,.map v']) w1):=aC (λw1 m=>by
    have:=(HT.bw (r.trans (m.mono r.size))).look ((aG p k).take j) (nm,b) Hg;rw[<-Hh,R,Hb,z.1]at this;exact this)
   have n0:=g.c0;have E:aA (∀w1,Bl wr w1->w1.cell? (Ub w.1.size)=Uq (.map u)/\w1.cell? (Ua w.1.size 1)=Uq (.map v)/\w1.frozen? (Ub w.1.size)=false/\w1.frozen? (Ua w.1.size 1)=false/\Bl w ((w1.setCell (Ub w.1.size) (.map s)).setCell (Ua w.1.size 1) (.map v'))/\aD ((w1.setCell (Ub w.1.size) (.map s)).setCell (Ua w.1.size 1) (.map v')) w.1.size (.map s) (.map v')/\aD ((w1.setCell (Ub w.1.size) (.map s)).setCell (Ua w.1.size 1) (.map v')) (w.1.size+1) (.map Up) (.map Up)):=aC (λw1 m=>by
    have P:=g.bw m g.lt;exact⟨P.c0,P.c1,P.f 0,P.f 1,((r.trans (m.mono r.size)).setCell (p:=(Ub w.1.size)) zL _).setCell (p:=(Ua w.1.size 1)) zL _,P.set _ _,((y.bw m y.lt).setAt _ _ oP).setAt _ _ oP⟩)
   clear A Hg Hh R Hb r g y z;go_wp2_with fail;refine zR (S:=λw'=>True) trivial<|λqh=>?_;refine tZ 0 13 ?_;refine tY 2 15 ?_;refine tZ 4 17 ?_;refine fU (i:=1) (j:=5) (d:=Uq 14) (d':=Uq 18) oK oK oK ?_ ?_;all_goals intro o Q Hj K q;simp only[eB,dZ,dY,eU]at Q;subst Q
   focus
    go_simp;refine bZ q trivial<|λqh=>?_;clear q K;refine cZ 5 ?_;intro K q
   all_goals go_simp;refine(G _ zI.drew).mono ?_;rintro e w1⟨rfl,m⟩;refine bZ q trivial<|λqh=>?_;clear q K
   .exact wR
   .have U:=(E _ ⟨m.os,m.tape,m.output,m.size,m.block⟩).1;refine cZ 1 ?_;intro K q;go_simp;refine bZ q trivial<|λqh=>?_;clear q K;clear U;exact wR
  .obtain rfl:j=p.length:=oM;have Hi:(aG p k).take p.length=aG p k:=VR (by rw[jN];exact Ux _);rw[Hi]at z;have⟨c0,c1⟩:=g.q2;have⟨d0,d1⟩:=y.q2;have f0:=y.f 0;have f1:=y.f 1;have HX:=aC<|y.set (.map u) (.map v);clear Hi g y;go_wp2_with fail;have⟨r0,r1⟩:=HX.q2;refine zF (v:=Uo #[.map u,.map v]) (by simp[results,results191,go_sem,r0,r1]) ⟨by rw[z.1,z.2],?_⟩;exact(r.setCell oP _).setCell oP _
theorem sO{t:ByteArray}(h:s.toList=t.toList):s=t:=by
 rw[ByteArray.toList_eq,ByteArray.toList_eq]at h;exact bytes_inj h
theorem N6:∀l:List UInt8,Op.bytesLess l l=false
 |[]=>rfl
 |a::l=>by simp[Op.bytesLess,N6 l]
theorem lY{t:ByteArray}:dD s t=0↔s=t:=by
 unfold dD kA pU;constructor
 .intro h;split at h
  .cases h
  .split at h
   .rename_i e;exact sO<|oU e
   .cases h
 .rintro rfl;rw[if_neg (by rw[N6];simp),if_pos oP]
theorem tU:∀{p q:List ByteArray},aW p q=0↔p=q
 |[],[]=>by simp[aW]
 |[],_::_=>by simp[aW]
 |_::_,[]=>by simp[aW]
 |s::p,t::q=>by
  simp only[aW];by_cases e:dD s t=0
  .rw[if_pos e,tU];have:=lY.1 e;subst this;simp
  .rw[if_neg e];exact⟨λh=>absurd h e,λh=>by injection h with h1 h2;exact absurd (lY.2 h1) e⟩
open Go.Sort Go.Lib Go.Shelf
structure bH{α:Type}(f:α->α->Int):Prop where
 z:∀x y,f x y=0↔x=y
 neg:∀x y,f x y<0↔0<f y x
 tr:∀x y z,f x y<0->f y z<0->f x z<0
theorem bH.irr{α:Type}{f:α->α->Int}(h:bH f)(x:α):f x x=0:=(h.z x x).2 rfl
theorem bH.swo{α:Type}{f:α->α->Int}(h:bH f):SWO (ltOf f) where
 irrefl x:=by simp[ltOf,h.irr x]
 trans x y z h1 h2:=by simp only[ltOf,decide_eq_true_eq]at*;exact h.tr x y z h1 h2
 ntrans x y z h1 h2:=by
  simp only[ltOf,decide_eq_false_iff_not]at*;intro k;have j:0<=f x y:=oM;have m:0<=f y z:=oM;rcases Ys j with j|j
  .have:=h.tr y x z ((h.neg y x).2 j) k;omega
  .have:=(h.z x y).1 j.symm;subst this;omega
theorem bH.int:bH bN:=⟨λx y=>tS,λx y=>by unfold bN;split<;>split<;>(try split)<;>(try split)<;>omega,λx y z h1 h2=>by rw[Nl]at*;omega⟩
theorem bH.pair{α β:Type}{f:α->α->Int}{g:β->β->Int}(hf:bH f)(hg:bH g):bH (λx y:α×β=>dX (f x.1 y.1) (g x.2 y.2)):=by
 refine⟨λx y=>?_,λx y=>?_,λx y z=>?_⟩
 .simp only[dX];by_cases e:f x.1 y.1=0
  .rw[if_pos e,hg.z];exact⟨λh=>Prod.ext ((hf.z _ _).1 e) h,λh=>by rw[h]⟩
  .rw[if_neg e];exact⟨λh=>absurd h e,λh=>by rw[h]at e;exact absurd (hf.irr _) e⟩
 .simp only[dX];by_cases e:f x.1 y.1=0
  .have r:f y.1 x.1=0:=(hf.z _ _).2 ((hf.z _ _).1 e).symm;rw[if_pos e,if_pos r,hg.neg]
  .have r:f y.1 x.1≠0:=λh=>e ((hf.z _ _).2 ((hf.z _ _).1 h).symm);rw[if_neg e,if_neg r,hf.neg]
 .simp only[dX];intro q k;by_cases e:f x.1 y.1=0
  .rw[if_pos e]at q;have:=(hf.z _ _).1 e;by_cases j:f y.1 z.1=0
   .rw[if_pos j]at k;have m:f x.1 z.1=0:=(by rw[this];exact j);rw[if_pos m];exact hg.tr _ _ _ q k
   .rw[if_neg j]at k;have m:f x.1 z.1≠0:=(by rw[this];exact j);rw[if_neg m,this];exact k
  .rw[if_neg e]at q;by_cases j:f y.1 z.1=0
   .have:=(hf.z _ _).1 j;have m:f x.1 z.1≠0:=this▸e;rw[if_neg m,<-this];exact q
   .rw[if_neg j]at k;have u:=hf.tr _ _ _ q k;rw[if_neg oM];exact u
theorem Xo:∀x y:List UInt8,Op.bytesLess x y=false->Op.bytesLess y x=false->x=y
 |[],[],_,_=>rfl
 |[],_::_,h,_=>by simp[Op.bytesLess]at h
 |_::_,[],_,h=>by simp[Op.bytesLess]at h
 |a::x,b::y,h,h'=>by
  simp only[Op.bytesLess,Bool.or_eq_false_iff,decide_eq_false_iff_not,Bool.and_eq_false_iff]at h h';have e:a=b:=by
   have k:=h.1;have m:=h'.1;rcases VL a.toNat b.toNat with j|j|j
   .exact absurd (UInt8.lt_iff_toNat_lt.2 j) k
   .exact UInt8.toNat_inj.1 j
   .exact absurd (UInt8.lt_iff_toNat_lt.2 j) m
  subst e;rw[Xo x y (oU h.2) (oU h'.2)]
theorem Xp:∀x y:List UInt8,Op.bytesLess x y=true->Op.bytesLess y x=false
 |[],[],_=>rfl
 |[],_::_,_=>rfl
 |_::_,[],h=>by simp[Op.bytesLess]at h
 |a::x,b::y,h=>by
  simp only[Op.bytesLess,Bool.or_eq_true,decide_eq_true_eq,Bool.and_eq_true,beq_iff_eq]at h;simp only[Op.bytesLess,Bool.or_eq_false_iff,decide_eq_false_iff_not,Bool.and_eq_false_iff];rcases h with h|⟨rfl,h⟩
  .have j:=UInt8.lt_iff_toNat_lt.1 h;refine⟨λh2=>oH (UInt8.lt_iff_toNat_lt.1 h2),.inl ?_⟩;simp only[beq_eq_false_iff_ne];intro e;subst e;omega
  .exact⟨λh2=>oH (UInt8.lt_iff_toNat_lt.1 h2),.inr (Xp x y h)⟩
theorem Zt:∀x y z:List UInt8,Op.bytesLess x y=true->Op.bytesLess y z=true->Op.bytesLess x z=true
 |_,_,[],_,h=>by cases ‹List UInt8›<;>simp[Op.bytesLess]at h
 |[],_,_::_,_,_=>rfl
 |_::_,[],_,h,_=>by simp[Op.bytesLess]at h
 |a::x,b::y,c::z,h,j=>by
  simp only[Op.bytesLess,Bool.or_eq_true,decide_eq_true_eq,Bool.and_eq_true,beq_iff_eq]at h j⊢;rcases h with h|⟨rfl,h⟩
  .rcases j with j|⟨rfl,j⟩
   .exact .inl<|UInt8.lt_iff_toNat_lt.2 (oJ (UInt8.lt_iff_toNat_lt.1 h) (UInt8.lt_iff_toNat_lt.1 j))
   .exact .inl h
  .rcases j with j|⟨rfl,j⟩
   .exact .inl j
   .exact .inr ⟨rfl,Zt x y z h j⟩
theorem Ni{t:ByteArray}:dD s t<0↔Op.bytesLess s.toList t.toList=true:=by
 unfold dD kA pU;split
 .rename_i h;exact⟨λ_=>h,λ_=>oD⟩
 .rename_i h;split<;>exact⟨λh2=>oM,λh2=>absurd h2 h⟩
theorem bH.str:bH dD:=by
 refine⟨λx y=>lY,λx y=>?_,λx y z h1 h2=>?_⟩
 .rw[Ni];constructor
  .intro h;have:=Xp _ _ h;unfold dD kA pU;rw[if_neg (by rw[this];simp),if_neg]
   .decide
   .intro e;rw[sO (by simpa using e:y.toList=x.toList),N6]at h;cases h
  .intro h;cases e:Op.bytesLess x.toList y.toList with
   |true=>rfl
   |false=>
    exfalso;cases e':Op.bytesLess y.toList x.toList with
    |true=>have:=Ni.2 e';omega
    |false=>rw[lY.2 (sO (Xo _ _ e' e))]at h;omega
 .rw[Ni]at*;exact Zt _ _ _ h1 h2
def eR(x y:Ky):Int:=dX (dD x.1 y.1) (bN x.2 y.2)
def fG(x y:Dt):Int:=dX (bN x.1 y.1) (bN x.2 y.2)
theorem bH.key:bH eR:=bH.str.pair bH.int
theorem bH.dot:bH fG:=bH.int.pair bH.int
theorem bH.uniq{α:Type}{f:α->α->Int}(h:bH f):∀{l m:List α},l.Pairwise (λx y=>f x y<0)->m.Pairwise (λx y=>f x y<0)->(∀x,x∈l↔x∈m)->l=m
 |[],[],_,_,_=>rfl
 |[],y::m,_,_,hm=>by have:=(hm y).2 oP;simp at this
 |x::l,[],_,_,hm=>by have:=(hm x).1 oP;simp at this
 |x::l,y::m,hl,hm',hm=>by
  have q:=List.pairwise_cons.1 hl;have r:=List.pairwise_cons.1 hm';have e:x=y:=by
   rcases List.mem_cons.1 ((hm x).1 oP)with e|e
   .exact e
   .rcases List.mem_cons.1 ((hm y).2 oP)with k|k
    .exact k.symm
    .have v:=r.1 x e;have g:=q.1 y k;have:=h.tr _ _ _ v g;rw[h.irr]at this;omega
  subst e;congr 1;refine h.uniq q.2 r.2 λz=>?_;have u:=hm z;simp only[VS]at u;constructor
  .intro j;rcases u.1 (.inr j)with e|e
   .subst e;have:=q.1 _ j;rw[h.irr]at this;omega
   .exact e
  .intro j;rcases u.2 (.inr j)with e|e
   .subst e;have:=r.1 _ j;rw[h.irr]at this;omega
   .exact e
theorem bH.rises{α:Type} [Inhabited α]{f:α->α->Int}(h:bH f){d:Array α}(hs:SortedIn (ltOf f) 0 d.size d)(hn:d.toList.Nodup):d.toList.Pairwise (λx y=>f x y<0):=by
 rw[VT];intro i j hi m q;have k:=hs i j oM q<|oU m;have hi':i<d.size:=oU hi;have g:j<d.size:=oU m;have r:d[i]! =d[i]:=getElem!_pos d i hi';have u:d[j]! =d[j]:=getElem!_pos d j g;rw[r,u]at k;simp only[ltOf,decide_eq_false_iff_not]at k;have t:d[i]≠d[j]:=by
  have:=(List.nodup_iff_pairwise_ne.1 hn);rw[VT]at this;simpa using this i j hi m q
 have o:f d[i] d[j]≠0:=λe=>t ((h.z _ _).1 e);have v:=h.neg (d[j])<|d[i];have b:¬0<f d[i] d[j]:=λe=>k (v.2 e);have:f d[i] d[j]<0:=oM;simpa using this
def Bw(w w':Ur):Prop:=Bl w w'/\w.drawn<=w'.drawn
theorem Bw.grown{w:Ur}(h:Bw w w'):∃q r,w'=grow (w.drewN q) r:=by
 have⟨u,v⟩:=h;refine⟨w'.drawn-w.drawn,w'.heap.extract w.1.size w'.1.size,?_⟩;have⟨o,s,z,r,out⟩:=w;have⟨y,A,g,b,p⟩:=w';have⟨j,k,b3,b4,m⟩:=u;simp only at j k b3 b4 m v;subst j;subst k;subst b3;simp only[grow,World.drewN,World.mk.injEq,and_true,true_and];refine⟨?_,oM⟩;apply Array.ext_getElem?;intro i;rw[Array.getElem?_append];split
 .rename_i hi;exact m i hi
 .rename_i hi;rw[Array.getElem?_extract];by_cases t:i<y.size
  .rw[if_pos oM];congr 1;omega
  .rw[if_neg oM];exact Array.getElem?_eq_none oM
theorem Wf{α:Type}{cs:Array α}(h:cs.size=2):∃c0 c1,cs=#[c0,c1]:=by
 have⟨l⟩:=cs;match l,h with
 |[c0,c1],_=>exact⟨c0,c1,rfl⟩
theorem uS{kl:Lit}(h:keyOf prog 175 v=Uq kl):∃x,v=aP x:=by
 unfold keyOf at h;rw[underlying175]at h;simp only[Qa,Bool.true_and]at h;have p:0<prog.types.size:=of_decide_eq_true oK;obtain⟨m,o⟩:∃m,prog.types.size=m+1:=⟨prog.types.size-1,oM⟩;rw[o]at h;have z:prog.cellsOf 175=2:=oK;have g:prog.cellsOf 3=1:=oK;have t:prog.cellsOf 9=1:=oK;cases v<;>simp[Value.formed,underlying175,z,Program.keyLits,underlying3,underlying9,g,t,Value.cells]at h;obtain⟨u,a,⟨i,h⟩,b⟩:=h;obtain⟨y,j,rfl⟩:=Wf u;cases y<;>simp at h;rename_i s;by_cases r:s.size<=maxLen
 .cases j<;>simp[r]at h;rename_i k n;by_cases q:k=Uh/\(Lit.int Uh n).wf=true
  .exact⟨(s,n),by rw[q.1];rfl⟩
  .rw[if_neg q]at h;simp at h
 .cases j<;>simp[r]at h
theorem Ze{kl:Lit}(h:keyOf prog 99 v=Uq kl):∃x,v=aX x:=by
 unfold keyOf at h;rw[underlying99]at h;simp only[Fg,Bool.true_and]at h;have b:0<prog.types.size:=of_decide_eq_true oK;obtain⟨m,t⟩:∃m,prog.types.size=m+1:=⟨prog.types.size-1,oM⟩;rw[t]at h;have z:prog.cellsOf 99=2:=oK;have g:prog.cellsOf 3=1:=oK;cases v<;>simp[Value.formed,underlying99,z,Program.keyLits,underlying3,g,Value.cells]at h;obtain⟨r,a,⟨o,h⟩,i⟩:=h;obtain⟨u,y,rfl⟩:=Wf r;cases u<;>simp at h;rename_i k n;by_cases j:k=Uh/\(Lit.int Uh n).wf=true
 .rw[if_pos j]at h;cases y<;>simp at h;rename_i k' n';by_cases q:k'=Uh/\(Lit.int Uh n').wf=true
  .exact⟨(n,n'),by rw[j.1,q.1];rfl⟩
  .rw[if_neg q]at h;simp at h
 .rw[if_neg j]at h;simp at h
structure kR{α β:Type}(t:TypeId)(kv:α->aB)(f:α->Option β)(left:Lit->Bool)(ss:List α):Prop where
 nd:ss.Nodup
 old:∀x∈ss,f x≠Up/\∀kl,keyOf prog t (kv x)=Uq kl->left kl=false
 all:∀x,f x≠Up->x∈ss\/∀kl,keyOf prog t (kv x)=Uq kl->left kl=true
def iM{α β:Type}(f:α->Option β)(ss:List α):Prop:=ss.Nodup/\∀x,x∈ss↔f x≠Up
section
variable {α β : Type}{w : Ur}{t : TypeId}{kv : α-> aB}{vo : Option β-> aB}{b c : Nat}{f : α-> Option β}{D : DataW aB}{left : Lit-> Bool}{ss : List α}
theorem kR.start(h:FM w t kv vo b c f D):kR t kv f (has D) ([]:List α):=by
 refine⟨VU,λx hx=>absurd hx oP,λx hx=>Or.inr λkl hk=>?_⟩;rw[(h.at' x kl hk).1];cases e:f x with
 |none=>exact absurd e hx
 |some y=>rfl
theorem kR.step(hC:kR t kv f left ss)(h:FM w t kv vo b c f D)(K:Keyed prog t)(hi:∀x y,kv x=kv y->x=y){x:α}{kl:Lit}{y:DataW aB}(hk:keyOf prog t (kv x)=Uq kl)(hl:left kl=true)(hat:∀zd,D.atKey kl zd=y):
  kR t kv f (λz=>left z&&!z.sameKey kl) (ss++[x]):=by
 have q:x ∉ ss:=λhm=>by have:=(hC.old x hm).2 kl hk;rw[hl]at this;cases this
 have m:f x≠Up:=λe=>by
  have k:=has_true_of_atKey hat;rw[(h.at' x kl hk).1,e]at k;cases k
 refine⟨?_,λz j=>?_,λz j=>?_⟩
 .rw[List.nodup_append];exact⟨hC.nd,oP,λa ha b hb=>by rw[UY]at hb;subst hb;exact λe=>q (e▸ha)⟩
 .rcases List.mem_append.1 j with j|j
  .refine⟨(hC.old z j).1,λkl' hk'=>?_⟩;show(left kl'&&!kl'.sameKey kl)=false;rw[(hC.old z j).2 kl' hk'];rfl
  .rw[UY]at j;subst j;refine⟨m,λkl' hk'=>?_⟩;rw[hk]at hk';cases hk';show(left kl&&!kl.sameKey kl)=false;rw[WideAt.sameKey_self (K.key hk)];simp
 .by_cases e:z=x
  .subst e;exact .inl oP
  .rcases hC.all z j with k|k
   .exact .inl<|List.mem_append.2 (.inl k)
   .refine .inr λkl' hk'=>?_;show(left kl'&&!kl'.sameKey kl)=true;rw[k kl' hk',sameKey_ne (λe2=>e (hi _ _ (by subst e2;exact K.inj hk' hk)))];rfl
theorem kR.done(hC:kR t kv f left ss)(h:FM w t kv vo b c f D)(hl:∀j,left j=false):iM f ss:=
 ⟨hC.nd,λx=>⟨λhx=>(hC.old x hx).1,λhx=>by
  rcases hC.all x hx with k|k
  .exact k
  .have⟨j,m⟩:=h.ok x hx;have:=k j m;rw[hl j]at this;cases this⟩⟩
end
theorem Wv:∀p q:List ByteArray,aW p q<0↔0<aW q p
 |[],[]=>by simp[aW]
 |[],_::_=>by simp[aW]
 |_::_,[]=>by simp[aW]
 |s::p,t::q=>by
  simp only[aW];by_cases e:dD s t=0
  .have j:dD t s=0:=lY.2 (lY.1 e).symm;rw[if_pos e,if_pos j];exact Wv p q
  .have j:dD t s≠0:=λh=>e (lY.2 (lY.1 h).symm);rw[if_neg e,if_neg j];exact bH.str.neg s t
theorem Wc:∀p q r:List ByteArray,aW p q<0->aW q r<0->aW p r<0
 |[],[],_,h,_=>by simp[aW]at h
 |[],_::_,[],_,h=>by simp[aW]at h
 |[],_::_,_::_,_,_=>by simp[aW]
 |_::_,[],_,h,_=>by simp[aW]at h
 |_::_,_::_,[],_,h=>by simp[aW]at h
 |s::p,t::q,u::r,h,h'=>by
  simp only[aW]at*;by_cases e:dD s t=0
  .rw[if_pos e]at h;have:=lY.1 e;subst this;by_cases j:dD s u=0
   .rw[if_pos j]at h'⊢;exact Wc p q r h h'
   .rw[if_neg j]at h'⊢;exact h'
  .rw[if_neg e]at h;by_cases j:dD t u=0
   .have:=lY.1 j;subst this;rw[if_neg e];exact h
   .rw[if_neg j]at h';have k:=bH.str.tr s t u h h';rw[if_neg oM];exact k
theorem bH.path:bH aW:=⟨λ_ _=>tU,Wv,Wc⟩
theorem Iy{y z:Lf}(h:aY x y<0)(h':aY y z<0):aY x z<0:=
 (bH.path.pair (bH.int.pair bH.dot)).tr (x.p,(kd x.fl,(x.r,x.q))) (y.p,(kd y.fl,(y.r,y.q))) (z.p,(kd z.fl,(z.r,z.q))) h h'
theorem dB.lt(h:dB R F T n l k):∀j,i<j->j<k->aY (gL l i) (gL l j)<0
 |0,h1,_=>oM
 |j+1,h1,h2=>by
  have m:=(h (j+1) h2).2.2 oM;simp only[Nat.add_sub_cancel]at m;by_cases e:i=j
  .subst e;exact m
  .exact Iy (h.lt j oM oM) m
theorem Fj(p:List ByteArray):aG p 3=(Vb p.length).map λi=>(gS p i,3):=by
 unfold aG;congr 1;funext i;split<;>rfl
theorem Tl{q:List ByteArray}(h:p <+:q)(hi:i<p.length):gS q i=gS p i:=by
 obtain⟨r,rfl⟩:=h;simp[gS,UL,List.getElem?_append,hi]
theorem U9{q:List ByteArray}{k:Int}(h:p <+:q)(hl:p.length<q.length):(aG q k).take p.length=aG p 3:=by
 apply List.ext_getElem?;intro i;by_cases hi:i<p.length
 .rw[VV hi,oC oM,Fj,if_pos oM,Tl h hi];simp[hi]
 .rw[List.getElem?_take_eq_none oM,UT (by rw[jN];omega)]
noncomputable def nx(p:List ByteArray)(x:Lf):Option Ky:=if yes (p <+:x.p/\p.length<x.p.length)=true then Uq (bO x.p (kd x.fl) p.length)else Up
theorem Cf:aG p 3++[y] <+:aS x↔nx p x=Uq y:=by
 unfold nx aS;constructor
 .intro h;have z:p.length+1<=x.p.length:=by have:=h.length_le;simpa[jN]using this
  have j:=List.prefix_iff_eq_take.1 h;simp only[UM,jN,UP,List.length_nil]at j;rw[Dy oM]at j;have m:=List.append_inj' j rfl;have v:p <+:x.p:=by
   have r:p=x.p.take p.length:=by
    refine Fv oS λi hi=>?_;have:=congrArg (λl=>l[i]?) m.1;rw[VV hi,oC hi,oC (k:=kd x.fl) (show i<x.p.length by omega)]at this;injection this with this;rw[(Prod.mk.inj this).1];simp[gS,UL,VV hi]
   rw[r];exact VW _ _
  rw[if_pos (aN ⟨v,oM⟩)];have q:=m.2;simp only[List.cons.injEq,and_true]at q;rw[q];rfl
 .intro h;by_cases e:p <+:x.p/\p.length<x.p.length
  .rw[if_pos (aN e)]at h;injection h with h;have:=Dy (k:=kd x.fl) e.2;rw[U9 e.1 e.2]at this;have u:(gS x.p p.length,if p.length+1<x.p.length then 3 else kd x.fl)=y:=h;rw[u]at this;rw[<-this];exact VW _ _
  .rw[aJ e]at h;simp at h
theorem Ww:∀(p a b:List ByteArray),aW (p++a) (p++b)=aW a b
 |[],_,_=>rfl
 |s::p,a,b=>by
  simp only[VX,aW];rw[if_pos (lY.2 rfl)];exact Ww p a b
theorem uM{a b:Lf}{z:Ky}(h:aY a b<0)(ha:nx p a=Uq y)(hb:nx p b=Uq z):eR y z<=0:=by
 unfold nx at ha hb;by_cases m:p <+:a.p/\p.length<a.p.length
 .by_cases q:p <+:b.p/\p.length<b.p.length
  .rw[if_pos (aN m)]at ha;rw[if_pos (aN q)]at hb;injection ha with ha;injection hb with hb;have⟨⟨j,g⟩,i⟩:=m;have⟨⟨rb,o⟩,A⟩:=q;cases j with
   |nil=>rw[<-g]at i;simp at i
   |cons s j=>
    cases rb with
    |nil=>rw[<-o]at A;simp at A
    |cons t rb=>
     have M:y=(s,if j=[] then kd a.fl else 3):=by
      rw[<-ha];unfold bO;rw[<-g];have r:gS (p++s::j) p.length=s:=(by simp[gS,UL]);rw[r];cases j<;>simp
     have O:z=(t,if rb=[] then kd b.fl else 3):=by
      rw[<-hb];unfold bO;rw[<-o];have r:gS (p++t::rb) p.length=t:=(by simp[gS,UL]);rw[r];cases rb<;>simp
     unfold aY at h;rw[<-g,<-o,Ww]at h;rw[M,O];unfold eR;simp only[aW]at h;by_cases k:dD s t=0
     .rw[if_pos k]at h;simp only[dX,k,if_true];have Q:kd a.fl<=3:=(by cases a.fl<;>decide);cases j with
      |nil=>
       cases rb with
       |nil=>
        simp only[if_true];simp only[aW,dX,if_true]at h;by_cases E:bN (kd a.fl) (kd b.fl)=0
        .omega
        .rw[if_neg E]at h;omega
       |cons u rb=>
        simp only[if_true,reduceCtorEq,if_false];unfold bN;split
        .omega
        .split<;>omega
      |cons u j=>
       cases rb with
       |nil=>simp[aW,dX]at h
       |cons v rb=>simp[bN]
     .rw[if_neg k]at h;simp only[dX,k,if_false]at h⊢;omega
  .rw[aJ q]at hb;simp at hb
 .rw[aJ m]at ha;simp at ha
noncomputable def kS(l:List Lf)(p:List ByteArray):Nat->List Ky
 |0=>[]
 |k+1=>match nx p (gL l k)with
  |none=>kS l p k
  |some y=>if yes ((kS l p k).getLast? =Uq y)=true then kS l p k else kS l p k++[y]
theorem uB(h:nx p (gL l k)=Up):kS l p (k+1)=kS l p k:=by simp only[kS,h]
theorem uA(h:nx p (gL l k)=Uq y):kS l p (k+1)=if yes ((kS l p k).getLast? =Uq y)=true then kS l p k else kS l p k++[y]:=by simp only[kS,h]
theorem tP(l:List Lf)(p:List ByteArray):∀k,(kS l p k).length<=k
 |0=>by simp[kS]
 |k+1=>by
  have j:=tP l p k;cases h:nx p (gL l k)with
  |none=>rw[uB h];omega
  |some y=>rw[uA h];split<;>simp<;>omega
theorem lU{R F T:Nat->Int}{n:Nat}{l:List Lf}(p:List ByteArray)(h:dB R F T n l l.length):∀k,k<=l.length->(kS l p k).Pairwise (λx y=>eR x y<0)/\∀y,y∈kS l p k↔∃j,j<k/\nx p (gL l j)=Uq y
 |0,_=>⟨List.Pairwise.nil,λy=>by simp[kS]⟩
 |k+1,hk=>by
  have⟨r,i⟩:=lU p h k oM;have t:∀y,(∃j,j<k+1/\nx p (gL l j)=Uq y)↔y∈kS l p k\/nx p (gL l k)=Uq y:=λy=>by
   rw[i];constructor
   .rintro⟨j,v,e⟩;by_cases s:j=k
    .subst s;exact .inr e
    .exact .inl ⟨j,oM,e⟩
   .rintro(⟨j,v,e⟩|e)
    .exact⟨j,oM,e⟩
    .exact⟨k,oM,e⟩
  cases hn:nx p (gL l k)with
  |none=>
   rw[uB hn];refine⟨r,λy=>?_⟩;rw[t y,hn];simp
  |some z=>
   have g:∀y∈kS l p k,eR y z<=0:=λy hy=>by
    have⟨j,v,e⟩:=(i y).1 hy;exact uM (h.lt k v oM) e hn
   rw[uA hn];by_cases e:(kS l p k).getLast? =Uq z
   .rw[if_pos (aN e)];refine⟨r,λy=>?_⟩;rw[t y,hn];constructor
    .exact .inl
    .rintro(m|m)
     .exact m
     .cases m;exact VY e
   .rw[if_neg (by rw[aJ e];simp)];have q:z ∉ kS l p k:=λq=>by
     obtain⟨b,u,E⟩:∃b u,kS l p k=b++[u]:=by
      refine⟨(kS l p k).dropLast,(kS l p k).getLast (List.ne_nil_of_mem q),(List.dropLast_concat_getLast _).symm⟩
     rw[E]at q g e r;simp at e;rcases List.mem_append.1 q with m|m
     .have o:=(List.pairwise_append.1 r).2.2 z m u oP;have M:=g u oP;have A:=bH.key.neg z u;have:0<eR u z:=A.1 o;omega
     .simp at m;exact e m.symm
    refine⟨List.pairwise_append.2 ⟨r,List.pairwise_singleton _ _,λx hx y hy=>?_⟩,λy=>?_⟩
    .simp at hy;subst hy;have m:=g x hx;have o:eR x y≠0:=λe=>q ((bH.key.z x y).1 e▸hx);omega
    .rw[t y,hn];simp only[VZ,UY,Option.some.injEq];exact⟨λh=>h.imp id Eq.symm,λh=>h.imp id Eq.symm⟩
theorem Ti{N:List Ky->Option (Nat×Nat)}{ts:List Ky}(h:dB R F T n l l.length)(hI:iX l l.length N)(h1:ts.Pairwise (λx y=>eR x y<0))(h2:∀x,x∈ts↔N (aG p 3++[x])≠Up):ts=kS l p l.length:=by
 have⟨m,q⟩:=lU p h l.length zL;refine bH.key.uniq h1 m λx=>?_;rw[h2,q];have:=hI (aG p 3++[x]);rw[Option.isSome_iff_ne_none]at this;rw[this];simp only[List.append_eq_nil_iff,List.cons_ne_self,and_false,false_or,reduceCtorEq];constructor
 .rintro⟨j,k,e⟩;exact⟨j,k,Cf.1 e⟩
 .rintro⟨j,k,e⟩;exact⟨j,k,Cf.2 e⟩
noncomputable def rV(l:List Lf)(p:List ByteArray):Nat->List ByteArray
 |0=>[]
 |k+1=>if yes ((gL l k).fl=false/\(gL l k).p=p)=true then rV l p k++[(gL l k).v] else rV l p k
theorem Ik{l:List Lf}{p:List Ky}{d:Dt}{s:ByteArray}:∀{k:Nat},fK l k->(Mk l k p d=Uq s↔∃j,j<k/\aS (gL l j)=p/\((gL l j).r,(gL l j).q)=d/\(gL l j).v=s)
 |0,_=>⟨λh=>by simp[Mk]at h,λ⟨j,m,_⟩=>oM⟩
 |k+1,hd=>by
  have g:=Ik (l:=l) (p:=p) (d:=d) (s:=s) (k:=k)<|λi hi j m=>hd i oM j m;simp only[Mk];by_cases e:p=aG (gL l k).p (kd (gL l k).fl)
  .rw[e,uQ,<-e];by_cases z:d=((gL l k).r,(gL l k).q)
   .rw[z,iU];constructor
    .intro h;injection h with h;exact⟨k,oM,e.symm,rfl,h⟩
    .rintro⟨j,m,r1,r2,y⟩;by_cases u:j=k
     .subst u;rw[y]
     .have:=hd k oM j oM;exact absurd ⟨congrArg Prod.fst r2,congrArg Prod.snd r2⟩ this
   .rw[gJ _ _ z,g];constructor
    .rintro⟨j,m,r⟩;exact⟨j,oM,r⟩
    .rintro⟨j,m,r1,r2,y⟩;by_cases u:j=k
     .subst u;exact absurd r2.symm z
     .exact⟨j,oM,r1,r2,y⟩
  .rw[sN _ _ _ e,g];constructor
   .rintro⟨j,m,r⟩;exact⟨j,oM,r⟩
   .rintro⟨j,m,r1,r2,y⟩;by_cases u:j=k
    .subst u;exact absurd r1.symm e
    .exact⟨j,oM,r1,r2,y⟩
noncomputable def bF(l:List Lf)(p:List ByteArray)(y:Ky):Nat->List Lf
 |0=>[]
 |k+1=>if yes (nx p (gL l k)=Uq y)=true then bF l p y k++[gL l k] else bF l p y k
theorem oV(h:nx p (gL l k)=Uq y):bF l p y (k+1)=bF l p y k++[gL l k]:=by simp only[bF];rw[if_pos (aN h)]
theorem lX(h:nx p (gL l k)≠Uq y):bF l p y (k+1)=bF l p y k:=by simp only[bF];rw[if_neg (by rw[aJ h];simp)]
theorem kT{l:List Lf}{p:List ByteArray}{y:Ky}{x:Lf}:∀{k:Nat},x∈bF l p y k↔∃j,j<k/\nx p (gL l j)=Uq y/\gL l j=x
 |0=>by simp[bF]
 |k+1=>by
  have v:=kT (l:=l) (p:=p) (y:=y) (x:=x) (k:=k);by_cases h:nx p (gL l k)=Uq y
  .rw[oV h,VZ,UY,v];constructor
   .rintro(⟨j,u,e⟩|rfl)
    .exact⟨j,oM,e⟩
    .exact⟨k,oM,h,rfl⟩
   .rintro⟨j,u,m,q⟩;by_cases r:j=k
    .subst r;exact .inr q.symm
    .exact .inl ⟨j,oM,m,q⟩
  .rw[lX h,v];constructor
   .rintro⟨j,u,e⟩;exact⟨j,oM,e⟩
   .rintro⟨j,u,m,q⟩;by_cases r:j=k
    .subst r;exact absurd m h
    .exact⟨j,oM,m,q⟩
theorem Iu(l:List Lf)(p:List ByteArray)(y:Ky):∀k,(bF l p y k).length<=k
 |0=>by simp[bF]
 |k+1=>by
  have j:=Iu l p y k;by_cases h:nx p (gL l k)=Uq y
  .rw[oV h];simp;exact j
  .rw[lX h];omega
def cU(k:Int)(x:Lf):List Int:=aI 9 x.r.toNat++(aI 9 x.q.toNat++if k=1 then cM x.v else [])
def mB(ls:List Lf)(k:Int):List Int:=aI 9 ls.length++ls.flatMap (cU k)
noncomputable def tB(l:List Lf):Nat->List ByteArray->List Int
 |0,_=>[]
 |f+1,p=>aI 9 (kS l p l.length).length++(kS l p l.length).flatMap λy=>cM y.1++([y.2]++if y.2=3 then tB l f (p++[y.1])else mB (bF l p y l.length) y.2)
noncomputable def kB(l:List Lf)(f:Nat)(p:List ByteArray)(y:Ky):List Int:=cM y.1++([y.2]++if y.2=3 then tB l f (p++[y.1])else mB (bF l p y l.length) y.2)
theorem pZ(l:List Lf)(f:Nat)(p:List ByteArray):tB l (f+1) p=aI 9 (kS l p l.length).length++(kS l p l.length).flatMap (kB l f p):=rfl
theorem pM{Q:Prop}(h:Q:=by
 unfold nx;by_cases h:p <+:x.p/\p.length<x.p.length
 .rw[if_pos (aN h)];simp[h]
 .rw[if_neg (by rw[aJ h];simp)];simp[h]):Q:=h
theorem mY:nx p x=Uq y↔(p <+:x.p/\p.length<x.p.length)/\bO x.p (kd x.fl) p.length=y:=by
 exact pM
theorem nU:nx p x≠Up↔p <+:x.p/\p.length<x.p.length:=by
 exact pM
theorem lV(b:Bool):kd b=1\/kd b=2:=by cases b<;>simp[kd]
theorem Xj{q:List ByteArray}:p++[s] <+:q↔(p <+:q/\p.length<q.length)/\gS q p.length=s:=by
 constructor
 .rintro⟨r,rfl⟩;refine⟨⟨⟨s::r,oP⟩,oP⟩,?_⟩;simp[gS,UL]
 .rintro⟨⟨⟨r,rfl⟩,h⟩,e⟩;cases r with
  |nil=>simp at h
  |cons t r=>simp[gS,UL]at e;subst e;exact⟨r,oP⟩
theorem sC:nx p x=Uq (s,3)↔nx (p++[s]) x≠Up:=by
 rw[mY,nU,Xj];unfold bO;constructor
 .rintro⟨h,e⟩;have q:=congrArg Prod.fst e;have j:=congrArg Prod.snd e;dsimp only at q j;by_cases m:p.length+1<x.p.length
  .exact⟨⟨h,q⟩,oU m⟩
  .rw[if_neg m]at j;rcases lV x.fl with k|k<;>rw[k]at j<;>exact absurd j oD
 .rintro⟨⟨h,e⟩,m⟩;refine⟨h,?_⟩;rw[if_pos (oU m),e]
theorem Mb(hy:y.2≠3):nx p x=Uq y↔aS x=aG p 3++[y]:=by
 rw[<-Cf];constructor
 .intro h;have k:=Cf.1 h;rw[mY]at k;have⟨⟨_,m⟩,e⟩:=k;have j:=congrArg Prod.snd e;unfold bO at j;dsimp only at j;have q:¬p.length+1<x.p.length:=λhh=>by rw[if_pos hh]at j;exact hy j.symm
  refine(h.eq_of_length ?_).symm;simp[aS,jN];omega
 .intro h;rw[h];exact Ya _
theorem Ea(hy:y.2≠3)(h:nx p x=Uq y):x.p=p++[y.1]/\kd x.fl=y.2:=by
 rw[mY]at h;have⟨⟨r,m⟩,e⟩:=h;have k:=congrArg Prod.fst e;have j:=congrArg Prod.snd e;unfold bO at k j;dsimp only at k j;have q:¬p.length+1<x.p.length:=λhh=>by rw[if_pos hh]at j;exact hy j.symm
 rw[if_neg q]at j;exact⟨((Xj.2 ⟨⟨r,m⟩,k⟩).eq_of_length oS).symm,j⟩
theorem Bu{a b:Bool}(h:kd a=kd b):a=b:=by cases a<;>cases b<;>simp[kd]at h⊢
theorem Z3{R F T:Nat->Int}{n:Nat}{l:List Lf}{p:List ByteArray}{y:Ky}(h:dB R F T n l l.length)(hy:y.2≠3):∀k,k<=l.length->((bF l p y k).map λx=>((x.r,x.q):Dt)).Pairwise (λx y=>fG x y<0)
 |0,_=>by simp[bF]
 |k+1,hk=>by
  have u:=Z3 (p:=p) h hy k oM;by_cases e:nx p (gL l k)=Uq y
  .rw[oV e,UN];refine List.pairwise_append.2 ⟨u,oP,λa ha b hb=>?_⟩;simp only[UQ,VN,UY]at hb;subst hb;obtain⟨x,g,rfl⟩:=List.mem_map.1 ha;obtain⟨j,z,v,rfl⟩:=kT.1 g;have m:=h.lt (i:=j) k z oM;have⟨s,t⟩:=Ea hy v;have⟨A,o⟩:=Ea hy e;unfold aY at m;rw[s,A,t,o,tU.2 rfl,show bN y.2 y.2=0 from bH.int.irr _]at m;simpa[dX,nQ,fG]using m
  .rw[lX e];exact u
theorem Zl{ts:List Dt}(h:dB R F T n l l.length)(hy:y.2≠3)(h1:ts.Pairwise (λx y=>fG x y<0))(h2:∀d,d∈ts↔Mk l l.length (aG p 3++[y]) d≠Up):ts=(bF l p y l.length).map λx=>((x.r,x.q):Dt):=by
 refine bH.dot.uniq h1 (Z3 h hy _ zL) λd=>?_;rw[h2,lT,Yb];constructor
 .rintro⟨j,m,k,u⟩;exact⟨gL l j,kT.2 ⟨j,m,(Mb hy).2 k,rfl⟩,u⟩
 .rintro⟨x,v,e⟩;obtain⟨j,m,k,rfl⟩:=kT.1 v;exact⟨j,m,(Mb hy).1 k,e⟩
theorem Zd(hy:y.2≠3)(hd:fK l l.length)(hx:x∈bF l p y l.length):Mk l l.length (aG p 3++[y]) (x.r,x.q)=Uq x.v:=by
 obtain⟨j,m,k,rfl⟩:=kT.1 hx;exact(Ik hd).2 ⟨j,m,(Mb hy).1 k,rfl,rfl⟩
theorem Mo(p:List ByteArray)(s:ByteArray):aG (p++[s]) 3=aG p 3++[(s,3)]:=by
 rw[Fj,Fj,UM,Yc,Yd,UN];congr 1
 .refine Ye λi hi=>?_;rw[Tl (Yf p [s]) (oU hi)]
 .simp[gS,UL]
noncomputable def uK(l:List Lf)(p:List ByteArray):Nat->Nat
 |0=>0
 |k+1=>uK l p k+(if yes (nx p (gL l k)≠Up)=true then 1 else 0)
theorem Qj(l:List Lf)(p:List ByteArray):∀k,uK l p k<=k
 |0=>Ux _
 |k+1=>by have:=Qj l p k;simp only[uK];split<;>omega
theorem Ta(f:Ky->Nat)(z:Ky):∀ys:List Ky,ys.Nodup->(ys.map λy=>f y+if y=z then 1 else 0).sum<=(ys.map f).sum+(if yes (z∈ys)=true then 1 else 0)
 |[],_=>oP
 |a::r,h=>by
  have j:=Ta f z r (List.nodup_cons.1 h).2;have k:=(List.nodup_cons.1 h).1;simp only[UQ,Yg];by_cases e:a=z
  .subst e;rw[aJ k]at j;rw[aN (Vf),if_pos rfl,if_pos rfl];simp at j;omega
  .rw[if_neg e];have:(z∈a::r)=(z∈r):=(by simp[show z≠a from λh=>e h.symm]);rw[this];omega
theorem Rc(l:List Lf)(p:List ByteArray)(ys:List Ky)(hn:ys.Nodup):∀k,(ys.map λy=>(bF l p y k).length).sum<=uK l p k
 |0=>by
  have:(ys.map λy=>(bF l p y 0).length)=ys.map λ_=>0:=by simp[bF]
  have u:∀ys:List Ky,(ys.map λ_=>0).sum=0:=λys=>by
   induction ys with
   |nil=>rfl
   |cons a r m=>simp only[UQ,Yg,m]
  rw[this,u];exact UB _
 |k+1=>by
  have m:=Rc l p ys hn k;cases h:nx p (gL l k)with
  |none=>
   have e:(ys.map λy=>(bF l p y (k+1)).length)=ys.map λy=>(bF l p y k).length:=Ye λy _=>by rw[lX (by rw[h];simp)]
   rw[e];simp only[uK];omega
  |some z=>
   have e:(ys.map λy=>(bF l p y (k+1)).length)=ys.map λy=>(bF l p y k).length+if y=z then 1 else 0:=Ye λy _=>by
    by_cases j:y=z
    .subst j;rw[oV h,if_pos rfl];simp
    .rw[lX (by rw[h];simpa using λe=>j e.symm),if_neg j];omega
   have v:=Ta (λy=>(bF l p y k).length) z ys hn;have q:uK l p (k+1)=uK l p k+1:=(by simp only[uK];rw[if_pos (aN (by rw[h];simp))]);rw[e,q];have g:(if yes (z∈ys)=true then 1 else 0)<=1:=(by split<;>omega);omega
theorem Se(l:List Lf)(p:List ByteArray)(s:ByteArray):∀k,uK l (p++[s]) k=(bF l p (s,3) k).length
 |0=>rfl
 |k+1=>by
  have j:=Se l p s k;by_cases h:nx p (gL l k)=Uq (s,3)
  .rw[oV h];simp only[uK];rw[if_pos (aN (sC.1 h)),j];simp
  .rw[lX h];simp only[uK];rw[if_neg (by rw[aJ (λhh=>h (sC.2 hh))];simp),j];rfl
theorem uO{α:Type}(f:α->List Int)(g:α->Nat)(C:Nat):∀ys:List α,(∀y∈ys,(f y).length<=C*g y)->(ys.flatMap f).length<=C*(ys.map g).sum
 |[],_=>oP
 |a::r,h=>by
  have k:=uO f g C r<|λy hy=>h y (Vg _ hy);have j:=h a<|Vf;simp only[VP,UM,UQ,Yg,Nat.mul_add];omega
theorem sU(s:ByteArray):(cM s).length<=10+s.size:=by
 have:=(cF 9 s.size).1;simp only[cM,UM,mE];omega
theorem FE(k:Int)(h:∀x∈ls,x.v.size<=200):(mB ls k).length<=10+230*ls.length:=by
 have t:=(cF 9 ls.length).1;have j:=uO (cU k) (λ_=>1) 230 ls (λx hx=>by
  have u:=(cF 9 x.r.toNat).1;have y:=(cF 9 x.q.toNat).1;have z:=sU x.v;have g:=h x hx;unfold cU;simp only[UM];split
  .omega
  .simp;omega)
 have m:∀ls:List Lf,(ls.map λ_=>1).sum=ls.length:=λls=>by
  induction ls with
  |nil=>rfl
  |cons a r ih=>simp only[UQ,Yg,ih,UP];omega
 rw[m]at j;unfold mB;simp only[UM];omega
theorem yU(hx:jH x)(h:nx p x=Uq y):y.1.size<=40:=by
 rw[mY]at h;have⟨⟨_,k⟩,e⟩:=h;have j:=congrArg Prod.fst e;unfold bO at j;dsimp only at j;rw[<-j];exact(hx.1.2.2 _ k).2
theorem Fm{R F T:Nat->Int}{n:Nat}{l:List Lf}(h:dB R F T n l l.length):∀f p,(tB l f p).length<=10+(400+100*f)*uK l p l.length
 |0,p=>by simp[tB]
 |f+1,p=>by
  have u:=Fm h f;have⟨v,z⟩:=lU p h l.length zL;have r:(kS l p l.length).Nodup:=v.imp fun{a b} hab e=>by subst e;rw[bH.key.irr]at hab;omega
  have t:=(cF 9 (kS l p l.length).length).1;have o:=uO (kB l f p) (λy=>(bF l p y l.length).length) (500+100*f) (kS l p l.length) (λy hy=>by
   have⟨j,m,e⟩:=(z y).1 hy;have M:1<=(bF l p y l.length).length:=List.length_pos_of_mem<|kT.2 ⟨j,m,e,rfl⟩;have O:=sU y.1;have Q:=yU (h j m).1 e;have g:(if y.2=3 then tB l f (p++[y.1])else mB (bF l p y l.length) y.2).length<=10+(400+100*f)*(bF l p y l.length).length:=by
    by_cases k:y.2=3
    .rw[if_pos k];have:=u (p++[y.1]);rw[Se,show(y.1,(3:Int))=y by rw[<-k]]at this;exact this
    .rw[if_neg k];have:=FE (ls:=bF l p y l.length) y.2 (λx hx=>by
      obtain⟨i,hi,_,rfl⟩:=kT.1 hx;exact(h i hi).1.2.1)
     have A:230*(bF l p y l.length).length<=(400+100*f)*(bF l p y l.length).length:=Nat.mul_le_mul_right _ oM;omega
   unfold kB;simp only[UM,Yc];have E:(500+100*f)*(bF l p y l.length).length=(400+100*f)*(bF l p y l.length).length+100*(bF l p y l.length).length:=(by rw[<-Nat.add_mul];congr 1;omega);omega)
  have q:=Rc l p _ r l.length;have s:(500+100*f)*((kS l p l.length).map λy=>(bF l p y l.length).length).sum<=(500+100*f)*uK l p l.length:=Nat.mul_le_mul_left _ q;rw[pZ,UM,show 400+100*(f+1)=500+100*f by omega];omega
def Iv(l:List Lf)(p:List ByteArray)(i e:Nat):Prop:=(∀j,j<l.length->(nx p (gL l j)≠Up↔i<=j/\j<e))/\i<=e/\e<=l.length
theorem Iv.start(h:Iv l p i e):∀k,k<=i->kS l p k=[]
 |0,_=>rfl
 |k+1,hk=>by
  rw[uB]
  .exact h.start k oM
  .have:=h.1 k (oH h.2);cases e1:nx p (gL l k)with
   |none=>rfl
   |some y=>rw[e1]at this;have:=this.1 oP;omega
theorem Iv.stop(h:Iv l p i e):∀k,e<=k->k<=l.length->kS l p k=kS l p e:=by
 intro k m q;induction k with
 |zero=>rw[show e=0 by omega]
 |succ k ih=>
  by_cases j:e=k+1
  .rw[j]
  .rw[uB,ih oM oM];have:=h.1 k oM;cases e1:nx p (gL l k)with
   |none=>rfl
   |some y=>rw[e1]at this;have:=this.1 oP;omega
section
variable {R F T : Nat-> Int}{n : Nat}{l : List Lf}{p : List ByteArray}{i e j g : Nat}{y : Ky}
theorem Nd(hy:y ∉ kS l p j)(hg:∀t,t<g->nx p (gL l (j+t))=Uq y):∀t,t<g->kS l p (j+(t+1))=kS l p j++[y]
 |0,h=>by
  show kS l p (j+1)=_;have k:=hg 0 h;rw[Nat.add_zero]at k;rw[uA k,if_neg (by rw[aJ (λe=>hy (VY e))];simp)]
 |t+1,h=>by
  have m:=Nd hy hg t oM;show kS l p (j+(t+1)+1)=_;rw[uA (hg (t+1) h),m,if_pos (aN oP)]
theorem QS(hl:dB R F T n l l.length)(hI:Iv l p i e)(hj:i<=j)(hy:y ∉ kS l p j)(h1:1<=g)(hge:j+g<=e)(hg:∀t,t<g->nx p (gL l (j+t))=Uq y)(hs:j+g<e->nx p (gL l (j+g))≠Uq y):
  ∀t,t<l.length->(nx p (gL l t)=Uq y↔j<=t/\t<j+g):=λt ht=>by
 have M:=hI.2.2;constructor
 .intro k;have⟨_,u⟩:=lU p hl j oM;refine⟨Nat.le_of_not_lt λh=>hy ((u y).2 ⟨t,h,k⟩),Nat.lt_of_not_le λh=>?_⟩;have O:=(hI.1 t ht).1 (by rw[k];simp);have m:=hs oM;cases ez:nx p (gL l (j+g))with
  |none=>have:=(hI.1 (j+g) oM).2 oM;exact this ez
  |some z=>
   have r:z≠y:=λe=>m (by rw[ez,e]);have v:=uM (hl.lt (i:=j+(g-1)) (j+g) oM oM) (hg (g-1) oM) ez;have o:eR y z≠0:=λe=>r ((bH.key.z y z).1 e).symm;by_cases q:t=j+g
   .subst q;exact m k
   .have b:=uM (hl.lt (i:=j+g) t oM ht) ez k;have s:=(bH.key.neg y z).1 oM;omega
 .rintro⟨A,E⟩;have:=hg (t-j) oM;rwa [show j+(t-j)=t by omega]at this
theorem QT(hl:dB R F T n l l.length)(hI:Iv l p i e)(hy:y ∉ kS l p j)(h1:1<=g)(hge:j+g<=e)(hg:∀t,t<g->nx p (gL l (j+t))=Uq y)(hs:j+g<e->nx p (gL l (j+g))≠Uq y){z:Ky}(hlt:j+g<e)(hz:nx p (gL l (j+g))=Uq z):z ∉ kS l p (j+g):=λk=>by
 have E:=hI.2.2;have q:=Nd hy hg (g-1) oM;rw[show j+(g-1+1)=j+g by omega]at q;rw[q,VZ,UY]at k;have r:z≠y:=λe=>hs hlt (by rw[hz,e]);rcases k with k|k
 .have⟨_,h⟩:=lU p hl j oM;have⟨t,v,u⟩:=(h z).1 k;have m:=hg 0 oM;rw[Nat.add_zero]at m;have o:=uM (hl.lt (i:=t) j v oM) u m;have b:=uM (hl.lt (i:=j) (j+g) oM oM) m hz;have s:eR z y≠0:=λe=>r ((bH.key.z z y).1 e);have A:=(bH.key.neg z y).1 oM;omega
 .exact r k
theorem QU(ho:∀t,t<l.length->(nx p (gL l t)=Uq y↔j<=t/\t<j+g))(hge:j+g<=l.length):bF l p y l.length=(Vb g).map λt=>gL l (j+t):=by
 have q:∀k,k<=l.length->bF l p y k=(Vb (min (k-j) g)).map λt=>gL l (j+t):=by
  intro k;induction k with
  |zero=>intro _;simp[bF]
  |succ k m=>
   intro u;have m:=m oM;by_cases h:nx p (gL l k)=Uq y
   .have:=(ho k oM).1 h;rw[oV h,m,show min (k+1-j) g=(k-j)+1 by omega,show min (k-j) g=k-j by omega,Yd,UN];simp[show j+(k-j)=k by omega]
   .have r:¬(j<=k/\k<j+g):=λhh=>h ((ho k oM).2 hh);rw[lX h,m];congr 2;omega
 rw[q _ zL,show min (l.length-j) g=g by omega]
theorem LV{s:ByteArray}(ho:∀t,t<l.length->(nx p (gL l t)=Uq (s,3)↔j<=t/\t<j+g))(hge:j+g<=l.length):Iv l (p++[s]) j (j+g):=
 ⟨λt ht=>by rw[<-sC,ho t ht],oM,hge⟩
end
variable {EX : Nat-> Option aB}
theorem PW{w:Ur}{x q:Nat}(h:Cu EX w cb a n c f x)(hV:V<=M)(hm1:M<=1000000)(hq:q+V<=n)(hR:Rb f n x (aI 9 V) q):
  Cl 264 #[Uk (Uc cb),Ud (M:Int)] w λe w'=>kH EX w cb a n c f q (Ul #[Ud (V:Int),.nilIface]) e w':=by
 have m:=aC<|Pl h oM hR;have y:=h.hn;have b:IntKind.u64.wrap (M:Int)=(M:Int):=by rw[Vn];omega
 have g:decide ((M:Int)<0)=false:=oP;obtain⟨r,t⟩:∃r:Nat,(r:Int)=(n:Int)-(q:Int):=⟨n-q,oM⟩;have p:IntKind.u64.wrap (IntKind.i64.wrap ((n:Int)-(q:Int)))=(r:Int):=by rw[cK _ oM oM,Vn];omega
 have s:IntKind.u64.wrap ((n:Int)-(q:Int))=(r:Int):=by rw[Vn];omega
 have i:IntKind.i64.wrap (V:Int)=(V:Int):=cK _ oM oM;go_enter func264,ntmps264;go_wp2_with fail;refine m.mono ?_;rintro e w1⟨rfl,v,k⟩;have u:=aC<|And.intro v k;have⟨A,E,O,z⟩:=k.cur;go_wp2_with fail;go_quiet (fail);go_wp2_with fail;go_ret2;exact⟨rfl,u.1.andThen (Af _ _ _) (λj hj=> .inr hj),u.2.bw (AN zI _)⟩
theorem Qm{w:Ur}{x:Nat}(h:Cu EX w cb a n c f x)(hV:s.size<=M)(hm1:M<=1000000)(hR:Rb f n x (cM s) x'):
  Cl 257 #[Uk (Uc cb),Ud (M:Int)] w λe w'=>kH EX w cb a n c f x' (Ul #[Um s,.nilIface]) e w':=by
 have⟨q,r1,r2⟩:=hR.app;have⟨p,u,D⟩:=r2;rw[mE]at u;have y:=Td h.byt p;have⟨V,U⟩:=zE s.size;rw[U]at u y r1 hV;have o:=aC<|PW h hV hm1 oM r1;have r:=aC h;have Hc:0<n:=by have:=r1.2.1;have:=(cF 9 V).2;have:=r1.2.2;omega
 have C:=h.hn;have Hd:=h.nc;have S:=h.cc;have g:=aC y;have L:=aC u;have K:aA (((q+V:Nat):Int)=(q:Int)+(V:Int)):=aC (by push_cast;rfl);have Hj:q+V<=n:=oM;have⟨Y,Z,G,_⟩:=h.cur;go_enter func257,ntmps257;go_wp2_with fail;refine o.mono ?_;rintro e w1⟨rfl,E,v⟩;have J:=aC E;have H:=aC v;have⟨Y,Z,G,P⟩:=v.cur;have Hh:IntKind.i64.wrap (V:Int)=(V:Int):=cK _ oM oM;have Hi:IntKind.i64.wrap ((q:Int)+(V:Int))=(q:Int)+(V:Int):=cK _ oM oM;generalize m:w1.setCell (Ua cb 1) (Ud ((q:Int)+(V:Int)))=W;rcases r.seg with h|⟨b,off,rfl,N,O⟩
 .omega
 have X:=r.ab _ rfl;have A:fV EX W cb (Uq (Ua b off)) n c ((q:Int)+(V:Int)):=m▸H.cur.set _;have I:=aC A;have⟨j0,j1,j2,F⟩:=A;have z:=aC (show w.grownBy W (Uq cb)from by rw[<-m];exact iN J (Nn (sP _ _) _));have Q:∀i,i<V->W.cell? (Ua b (off+q+i))=Uq (Ug .u8 (f (q+i))):=λi hi=>by
  rw[Vy (z.block b N (by simp;exact X)),UF];exact O (q+i) oM
 have B:∀k cap,(convert 22 9 (Uf (Uq (Ua b (off+q))) V cap)).run prog (W.drewN k)=.ok (Um s) (W.drewN k):=λk cap=>by rw[<-g.out];exact Nv r.byt<|λi hi=>Q i hi
 have He:(0:Int)<=(q:Int):=VH _;have Hf:(q:Int)<=(q:Int)+(V:Int):=oM;have Hg:(q:Int)+(V:Int)<=(c:Int):=oM;have t:aA (∀k,kH EX w cb (Uq (Ua b off)) n c f x' (Ul #[Um s,.nilIface]) (Ui (Ul #[Um s,.nilIface])) (W.drewN k)):=aC (λk=>⟨rfl,z.andThen (Af _ _ _) (λj hj=> .inr hj),r.mv (z.andThen (Af _ _ _) (λj hj=> .inr hj)) (by rw[L.out,K.out];exact I)⟩);by_cases T:q<c;rotate_left;have R:V<=0:=oM;have Ha:c<=q:=oM;have Hb:∀k ad cap,(convert 22 9 (Uf (Uq ad) V cap)).run prog (W.drewN k)=.ok (Um s) (W.drewN k):=λk ad cap=>by
  obtain rfl:V=0:=oM;rw[<-g.out];exact Nu (w:=W.drewN k) ad q cap f
 rotate_left;all_goals
  go_wp2_with fail
  go_quiet (fail);go_wp2_with fail;go_ret2;exact t _
theorem CD{w:Ur}{D:DataW aB}{G:Int->aB}(h:eJ w bm n D G L)(r q:Int)(hr:(Lit.int Uh r).wf=true)(hs:bL (L r))(hl:(L r).length<=1000000):
  Cl 172 #[.map (Uq bm),Uo #[Ud r,Ud q]] w (Rt w (Un (gQ (L r) q q))):=Qf (λw' hb=>⟨(h.bw hb).look r hr,_,(h.bw hb).rows r⟩:sY w bm r (G r) (L r)) q hs hl
theorem CI{w:Ur}{x:Nat}(h:Cu EX w cb a n c f x)(hV:V<=7)(hM:M<=1000000000)(hR:Rb f n x (aI 9 V++aI 9 M) x'):
  Cl 265 #[Uk (Uc cb)] w λe w'=>kH EX w cb a n c f x' (Ul #[Uo #[Ud (V:Int),Ud (M:Int)],.nilIface]) e w':=by
 have⟨y,r1,r2⟩:=hR.app;have I:=h.lt;generalize j:w.alloc (Uj #[Ud 0,Ud 0] 99)=W;have k:Bl w W:=j▸zO _ _;have X:W.1.size=w.1.size+1:=j▸oP;have A:w.grownBy W (Uq cb):=oY (sP w (Uq cb)) k;have o:aD W w.1.size (Ud 0) (Ud 0):=j▸aD.made _ _ _ _;have O:aA (∀w1,W.grownBy w1 (Uq cb)->aD w1 w.1.size (Ud 0) (Ud 0)):=aC<|λw1 g=>o.sm (g.block w.1.size oM oS) g.size;have u:=aC<|oT (most:=7) (h.bw k) oM oM r1;have z:=aC<|λw1(h1:Cu EX w1 cb a n c f y)=>oT (most:=1000000000) h1 oM oM r2;have H:=aC A;have Q:=aC h;go_enter func265,ntmps265;go_wp2_with fail;refine u.mono ?_;rintro e w1⟨rfl,s,b⟩;have q:=aC<|z w1 b;have r:=aC s;go_wp2_with fail;refine q.mono ?_;rintro e C⟨rfl,m,p⟩;have i:=O _<|iN r m;have⟨J,K,B⟩:=i.p2;have G:=aC<|iN H (iN r m);have U:=aC p;go_wp2_with fail;have⟨Z,E,L,N,t,Y⟩:=E0 (Ud (V:Int)) (Ud (M:Int)) G U.cur I J K;rw[<-E];exact bodyPost_ret (v:=Ul #[Uo #[Ud (V:Int),Ud (M:Int)],.nilIface]) (by simp[results,results265,go_sem,L,N]) rfl ⟨rfl,t,Q.mv t Y⟩
structure Ax(w:Ur)(ub:Nat)(acc:List Lf)(D:DataW aB):Prop where
 own:w.ownsMap prog 99 jR ub acc.length D
 tidy:Tidy D
 has':∀r q kl,keyOf prog 99 (iE r q)=Uq kl->(has D kl=true↔∃y∈acc,y.r=r/\y.q=q)
 sz:size D=acc.length
 val:∀r q kl,keyOf prog 99 (iE r q)=Uq kl->D.atKey kl (.held (Uo #[]))=.held (Uo #[])
def iR(w:Ur)(ub:Nat)(acc:List Lf):Prop:=∃D,Ax w ub acc D
theorem iR.same{w:Ur}(h:iR w ub acc)(e:w'.1[ub]? =w.1[ub]?):iR w' ub acc:=by
 have⟨D,h⟩:=h;exact⟨D,sH h.own e,h.tidy,h.has',h.sz,h.val⟩
theorem iR.lt{w:Ur}(h:iR w ub acc):ub<w.1.size:=by
 have⟨D,h⟩:=h;exact h.own.lt
theorem iR.made(w:Ur):iR (w.alloc (.map #[] 0)) w.1.size []:=
 ⟨.map [],World.ownsMap_made w _ _ _,tidy_empty,λr q kl hk=>⟨λh=>by simp[has]at h,λ⟨y,hy,_⟩=>by simp at hy⟩,by simp[size],λr q kl hk=>rfl⟩
theorem Ax.step{w:Ur}{D:DataW aB}{z:Lf}{kl:Lit}(h:Ax w ub acc D)(hk:keyOf prog 99 (iE z.r z.q)=Uq kl)(hf:∀y∈acc,¬(y.r=z.r/\y.q=z.q))
  (ho:w'.ownsMap prog 99 jR ub (acc.length+1) (D.put kl (.held (Uo #[])))):Ax w' ub (acc++[z]) (D.put kl (.held (Uo #[]))):=by
 have m:=gX.key hk;have t:=size_put (k:=kl) h.tidy<|.held (Uo #[]);have g:¬has D kl=true:=λhh=>by
  have⟨y,j,e⟩:=(h.has' _ _ _ hk).1 hh;exact hf y j e
 refine⟨oU ho,h.tidy.put m _,λr q kl' hk'=>?_,?_,λr q kl' hk'=>?_⟩
 .by_cases e:kl'=kl
  .subst e;have⟨u,v⟩:=Z4 hk hk';rw[has_put_same h.tidy.isMap m];exact⟨λ_=>⟨z,oP,u,v⟩,λ_=>rfl⟩
  .rw[has_put_other e,h.has' r q kl' hk'];constructor
   .rintro⟨y,j,r1⟩;exact⟨y,by simp[j],r1⟩
   .rintro⟨y,j,r1,r2⟩;rcases List.mem_append.1 j with j|j
    .exact⟨y,j,r1,r2⟩
    .simp at j;subst j;rw[r1,r2,hk']at hk;injection hk with hk;exact absurd hk e
 .rw[t,if_neg g,h.sz];simp
 .by_cases e:kl'=kl
  .subst e;rw[atKey_put_same h.tidy.isMap m]
  .rw[atKey_put_other e];exact h.val r q kl' hk'
def xX(kb ub:Nat)(i:Nat):Option aB:=if i=2 then Uq (.map (Uq kb))else if i=3 then Uq (.map (Uq ub))else Up
theorem PT(w:Ur):(zeroValue 369).run prog w=.ok (Uo #[]) w:=oK
theorem CR{w:Ur}{kb nn x:Nat}{D:DataW aB}{G:Int->aB}{z:Lf}
  (hcur:fV (xX kb ub) w tb a n c (x:Int)) (hU:iR w ub acc) (hG:eJ w kb nn D G L) (hS:∀r,bL (L r)/\(L r).length<=1000000) (hr:(Lit.int Uh z.r).wf=true) (hq:(Lit.int Uh z.q).wf=true) (b:gQ (L z.r) z.q z.q=true) (hf:∀y∈acc,¬(y.r=z.r/\y.q=z.q)) (hl:acc.length<1000):
  Cl 266 #[Uk (Uc tb),Uo #[Ud z.r,Ud z.q]] w λe w'=>e=Ui .nilIface/\iR w' ub (acc++[z])/\w.grownBy w' (Uq ub):=by
 obtain⟨P,B⟩:∃P:Ending->Ur->Prop,(λe w'=>e=Ui .nilIface/\iR w' ub (acc++[z])/\w.grownBy w' (Uq ub))=P:=⟨_,rfl⟩;rw[B];have HP:=aC B;generalize g:w.alloc (Uj #[Ud z.r,Ud z.q] 99)=W;have Q:Bl w W:=g▸zO _ _;have x0:W.cell? (Ub w.1.size)=Uq (Ud z.r):=g▸oP;have R:W.cell? (Ua w.1.size 1)=Uq (Ud z.q):=g▸oP;have S:w.1.size<W.1.size:=g▸oP;have V:=hcur.bw Q hcur.lt;have T:=V.lt;have kc:W.cell? (Ua tb 2)=Uq (.map (Uq kb)):=(V.2.2.2 2 oM).1.trans rfl;have uc:W.cell? (Ua tb 3)=Uq (.map (Uq ub)):=(V.2.2.2 3 oM).1.trans rfl;have E:aA (∀w1,Bl W w1->Cl 172 #[.map (Uq kb),Uo #[Ud z.r,Ud z.q]] w1 (Rt w1 (Un true))):=aC<|λw1 U=>b▸CD (hG.bw (aE Q U)) z.r z.q hr (hS z.r).1 (hS z.r).2;have Hg:=aC Q;have X:=aC hU;have Hc:=aC hf;have⟨I,He⟩:=rR hr hq;have t:=aC He;have⟨N,Z⟩:=zE z.r;have⟨J,Y⟩:=zE z.q;rw[Z]at x0 E;rw[Y]at R E;rw[Z,Y]at g t⊢;have O:=aC<|And.intro Z Y;go_enter func266,ntmps266;go_wp2_with fail;have A:aA (∀w',Bl W w'->(Bl W w'/\w'.cell? (Ua tb 2)=Uq (.map (Uq kb))/\w'.cell? (Ub w.1.size)=Uq (Ud N)/\w'.cell? (Ua w.1.size 1)=Uq (Ud J))):=aC<|λw' j=>⟨j,(j.cell (p:=(Ua tb _)) T).trans kc,(j.cell (p:=(Ua w.1.size _)) S).trans x0,(j.cell (p:=(Ua w.1.size _)) S).trans R⟩;refine zS A<|λqh=>?_;refine tY 0 7 ?_;refine tY 2 9 ?_;refine tZ 4 11 ?_;refine cZ 5 ?_;intro K b;go_simp;refine(E _ qh.1).mono ?_;rintro e w1⟨rfl,U⟩;have j:=aE qh.1 U;refine bZ b (A _ j)<|λqh=>?_;refine tZ 6 13 ?_;refine zD ?_;have⟨_,_,y0,y1⟩:=A _ j;have Hj:=(j.cell (p:=(Ua tb 3)) T).trans uc;have Hb:=aC<|aE Hg j;have M:=aC<|X.same (Hb.block ub X.lt);have Hd:=aC j.size;have⟨s,h⟩:=M.out;have hT:has s I=false:=by
  cases e:has s I with
  |false=>rfl
  |true=>
   have⟨y,hy,e1,e2⟩:=(h.has' N J I t).1 e;exact absurd ⟨e1.trans O.1.symm,e2.trans O.2.symm⟩<|Hc y hy
 have C:∀v:Ur,v.1[ub]? =w1.1[ub]?->(Instr.lookup 271 (.map (Uq ub)) (Uo #[Ud N,Ud J]) true).run prog v=.ok (Ul #[Uo #[],Un false]) v:=λv hv=>by
  have F:v.ownsMap prog 99 jR ub acc.length s:=sH h.own hv;have⟨u,ps,Ha,hu⟩:=F.look_ok gX underlying271 (PT v) (zd:=.held (Uo #[])) (zp:=[]) rfl t;have H:=Du hu;have Hi:=h.val N J I t;rw[Hi]at H;injection H with H;rw[<-H,hT]at Ha;exact Ha
 have Hl:=C w1.drew rfl;have m:Bl w1 (w1.alloc (Uj #[] 369)):=zO _ _;have Hf:w.1.size<w1.1.size:=Ut S Hd;have Hk:tb<w1.1.size:=Ut T Hd;have Hn:=(m.cell (p:=(Ub w.1.size)) Hf).trans y0;have Ho:=(m.cell (p:=(Ua w.1.size 1)) Hf).trans y1;have Hp:=(m.cell (p:=(Ua tb 3)) Hk).trans Hj;have Hh:=C (w1.alloc (Uj #[] 369)).drew<|m.block ub M.lt;have Hm:(Builtin.len_ #[271] 3 #[.map (Uq ub)]).run prog (w1.alloc (Uj #[] 369)).drew=.ok (Ud (acc.length:Int)) (w1.alloc (Uj #[] 369)).drew:=by
  have F:(w1.alloc (Uj #[] 369)).drew.ownsMap prog 99 jR ub acc.length s:=sH h.own<|m.block ub M.lt;have:=F.len underlying271 3;rw[h.sz]at this;exact this
 have⟨w9,r9,o9,i⟩:=(sH (w':=(w1.alloc (Uj #[] 369)).drew.drew) h.own (m.block ub M.lt)).update gX underlying271 oL t (val:=Uo #[]) (d:=.held (Uo #[])) (ps:=[]) rfl;have H9:aA (iR w9 ub (acc++[z])/\w.grownBy w9 (Uq ub)):=aC ⟨⟨_,h.step (by have:=t.out;rw[<-O.1,<-O.2]at this;exact this) Hc o9⟩,by
  have o:=(aE Hb m);exact⟨i.os.trans o.os,i.tape.trans o.tape,i.output.trans o.output,Uz o.size i.size,λk hk hne=>(i.block k (Ut hk o.size) hne).trans (o.block k hk)⟩⟩
 have dl:((acc.length:Int)==1000)=false:=oS;unfold iE at r9;go_wp2_with fail;go_region;all_goals go_wp2_with fail
 all_goals go_region
 all_goals go_wp2_with fail
 all_goals (rw[<-HP.out];exact⟨rfl,H9.1,H9.2⟩)
structure G2(tb ub:Nat)(w w':Ur):Prop where
 os:w'.os=w.os
 tape:w'.tape=w.tape
 output:w'.output=w.output
 size:w.1.size<=w'.1.size
 block:∀k,k<w.1.size->k≠tb->k≠ub->w'.1[k]? =w.1[k]?
theorem G2.trans{a b c:Ur}(h:G2 tb ub a b)(k:G2 tb ub b c):G2 tb ub a c:=
 ⟨k.os.trans h.os,k.tape.trans h.tape,k.output.trans h.output,Uz h.size k.size,λg hg h1 h2=>(k.block g (Ut hg h.size) h1 h2).trans (h.block g hg h1 h2)⟩
theorem G2.bw{w:Ur}(h:Bl w w'):G2 tb ub w w':=⟨h.os,h.tape,h.output,h.size,λk hk _ _=>h.block k hk⟩
theorem G2.t{w:Ur}(h:w.grownBy w' (Uq tb)):G2 tb ub w w':=⟨h.os,h.tape,h.output,h.size,λk hk h1 _=>h.block k hk (λe=>h1 (by injection e))⟩
theorem G2.u{w:Ur}(h:w.grownBy w' (Uq ub)):G2 tb ub w w':=⟨h.os,h.tape,h.output,h.size,λk hk _ h2=>h.block k hk (λe=>h2 (by injection e))⟩
theorem G2.cell{w:Ur}(h:G2 tb ub w w')(hk:k<w.1.size)(h1:k≠tb)(h2:k≠ub):w'.cell? (Ua k i)=w.cell? (Ua k i):=Vy (a:=(Ua k i)) (h.block k hk h1 h2)
theorem G2.frozen{w:Ur}(h:G2 tb ub w w')(hk:k<w.1.size)(h1:k≠tb)(h2:k≠ub):w'.frozen? (Ua k i)=w.frozen? (Ua k i):=Vz (a:=(Ua k i)) (h.block k hk h1 h2)
theorem G2.set{w:Ur}(h:G2 tb ub w w')(q:Us)(v:aB)(hq:w.1.size<=q.block):G2 tb ub w (w'.setCell q v):=
 ⟨h.os,h.tape,h.output,by simpa[Vr]using h.size,λk hk h1 h2=>(zH _ _ _ _ oM).trans (h.block k hk h1 h2)⟩
structure Ev where
 tb:Nat
 kb:Nat
 ub:Nat
 bs:Nat
 hi:Nat
 n:Nat
 c:Nat
 a:Option Us
 f:Nat->Int
 L:Int->List (Int×Int)
abbrev Gv(E:Ev):=G2 E.tb E.ub
abbrev Rv(E:Ev):=Rb E.f E.n
structure TS(E:Ev)(w:Ur)(x:Nat)(acc:List Lf):Prop where
 cu:Cu (xX E.kb E.ub) w E.tb E.a E.n E.c E.f x
 us:iR w E.ub acc
 grp:∃nn D G,eJ w E.kb nn D G E.L/\∀r g,(G r).ownBlock=Uq g->E.bs<=g/\g<E.hi
 ab:∀y,E.a=Uq y->y.block≠E.ub/\y.block<E.hi
 ne:E.tb≠E.ub
 tl:E.tb<E.bs
 ul:E.ub<E.bs
 kl:E.bs<=E.kb
 kh:E.kb<E.hi
 srt:∀r,bL (E.L r)/\(E.L r).length<=1000000
 kok:∀r q,gQ (E.L r) q q=true->0<=r/\r<=7/\1<=q/\q<=1000000000
section
variable {w w' v v' : Ur}{E : Ev}{x x' : Nat}{acc acc' : List Lf}
theorem TS.t(h:TS E w x acc)(g:w.grownBy w' (Uq E.tb))(cu:Cu (xX E.kb E.ub) w' E.tb E.a E.n E.c E.f x'):TS E w' x' acc:=by
 have⟨q,D,G,m,j⟩:=h.grp;refine⟨cu,h.us.same (g.block E.ub h.us.lt (λe=>h.ne (by injection e with e;exact e.symm))),⟨q,D,G,m.gr g (λe=>?_) (λr k hk e=>?_),j⟩,h.ab,h.ne,h.tl,h.ul,h.kl,h.kh,h.srt,h.kok⟩
 .injection e with e;have:=h.tl;have:=h.kl;omega
 .injection e with e;have:=h.tl;have:=(j r k hk).1;omega
theorem Cu.far{EX:Nat->Option aB}{cb n c b:Nat}{a:Option Us}{f:Nat->Int}(h:Cu EX w cb a n c f x)(g:w.grownBy w' (Uq b))(h1:cb≠b)(h2:∀y,a=Uq y->y.block≠b):Cu EX w' cb a n c f x:=
 ⟨h.cur.at' (g.block cb h.lt (λe=>h1 (by injection e))),h.seg.grown g h2,h.ab,h.hn,h.nc,h.cc,h.byt⟩
theorem TS.u(h:TS E w x acc)(g:w.grownBy w' (Uq E.ub))(us:iR w' E.ub acc'):TS E w' x acc':=by
 have⟨q,D,G,m,j⟩:=h.grp;refine⟨h.cu.far g h.ne (λy hy=>(h.ab y hy).1),us,⟨q,D,G,m.gr g (λe=>?_) (λr k hk e=>?_),j⟩,h.ab,h.ne,h.tl,h.ul,h.kl,h.kh,h.srt,h.kok⟩
 .injection e with e;have:=h.ul;have:=h.kl;omega
 .injection e with e;have:=h.ul;have:=(j r k hk).1;omega
theorem TS.bw(h:TS E w x acc)(hb:Bl w w'):TS E w' x acc:=by
 have⟨m,D,G,j,k⟩:=h.grp;exact⟨h.cu.bw hb,h.us.same (hb.block E.ub h.us.lt),⟨m,D,G,j.bw hb,k⟩,h.ab,h.ne,h.tl,h.ul,h.kl,h.kh,h.srt,h.kok⟩
theorem TS.gr(h:TS E w x acc){b:Nat}(g:w.grownBy w' (Uq b))(hb:E.hi<=b):TS E w' x acc:=by
 have⟨q,D,G,m,j⟩:=h.grp;have u:=h.tl;have v:=h.ul;have z:=h.kl;have t:=h.kh;exact⟨h.cu.far g oM (λy hy=>oH ((h.ab y hy).2)),h.us.same (g.block E.ub h.us.lt (λe=>oI e)),⟨q,D,G,m.gr g (λe=>oI e) (λr k hk e=>by injection e with e;have:=(j r k hk).2;omega),j⟩,h.ab,h.ne,h.tl,h.ul,h.kl,h.kh,h.srt,h.kok⟩
theorem TS.setF(h:TS E w x acc)(q:Us)(v:aB)(hq:E.hi<=q.block):TS E (w.setCell q v) x acc:=h.gr (eZ w q v) hq
theorem TS.low(h:TS E w x acc):E.tb<w.1.size/\E.ub<w.1.size:=⟨h.cu.lt,h.us.lt⟩
structure RB(v:Ur)(b:Nat):Prop where
 c0:∃u,v.cell? (Ub b)=Uq (Ud u)
 c1:∃u,v.cell? (Ua b 1)=Uq (Ud u)
 c2:∃u,v.cell? (Ua (b+1) 0)=Uq (Um u)
 f0:∀i,v.frozen? (Ua b i)=false
 f1:∀i,v.frozen? (Ua (b+1) i)=false
 lt:b+1<v.1.size
theorem RB.q2{v:Ur}{b:Nat}(h:RB v b):(∃u,v.cell? (Ub b)=Uq (Ud u))/\(∃u,v.cell? (Ua b 1)=Uq (Ud u)):=⟨h.c0,h.c1⟩
theorem RB.q3{v:Ur}{b:Nat}(h:RB v b):(∃u,v.cell? (Ub b)=Uq (Ud u))/\(∃u,v.cell? (Ua b 1)=Uq (Ud u))/\(∃u,v.cell? (Ua (b+1) 0)=Uq (Um u)):=⟨h.c0,h.c1,h.c2⟩
theorem RB.g2{b tb ub:Nat}(h:RB v b)(g:G2 tb ub v v')(h1:tb<b)(h2:ub<b):RB v' b:=by
 have l:=h.lt;have⟨q,j⟩:=h.c0;have⟨r,k⟩:=h.c1;have⟨u,m⟩:=h.c2;exact⟨⟨q,(g.cell oM oM oM).trans j⟩,⟨r,(g.cell oM oM oM).trans k⟩,⟨u,(g.cell oM oM oM).trans m⟩,λi=>(g.frozen oM oM oM).trans (h.f0 i),λi=>(g.frozen oM oM oM).trans (h.f1 i),Ut l g.size⟩
theorem RB.fill{b tb ub:Nat}(h:RB v b)(g:G2 tb ub w v)(hb:w.1.size<=b)(r q:Int)(s:ByteArray):
  ∃Z,Z=((v.setCell (Ub b) (Ud r)).setCell (Ua b 1) (Ud q)).setCell (Ua (b+1) 0) (Um s)/\Z.cell? (Ub b)=Uq (Ud r)/\Z.cell? (Ua b 1)=Uq (Ud q)/\Z.cell? (Ua (b+1) 0)=Uq (Um s)/\G2 tb ub w Z:=by
 have⟨u,j⟩:=h.c0;have⟨y,k⟩:=h.c1;have⟨z,m⟩:=h.c2;refine⟨_,rfl,?_,?_,?_,((g.set _ _ hb).set _ _ hb).set _ _ oS⟩
 .rw[Vp _ _ _ _ oP,Vt _ _ _ _ oP];exact Vs _ _ _ j
 .rw[Vp _ _ _ _ oP];exact Vs _ _ _ (by rw[Vt _ _ _ _ oP];exact k)
 .exact Vs _ _ _ (by rw[Vp _ _ _ _ oP,Vp _ _ _ _ oP];exact m)
theorem TS.fill{b:Nat}(t:TS E v x acc)(ht:E.hi<=b)(r q:Int)(s:ByteArray):TS E (((v.setCell (Ub b) (Ud r)).setCell (Ua b 1) (Ud q)).setCell (Ua (b+1) 0) (Um s)) x acc:=
 ((t.setF _ _ ht).setF _ _ ht).setF _ _ oS
end
theorem SW(w:Ur)(c0 c1 c2:Array aB)(t0 t1 t2:TypeId):(∀i,(((w.alloc (.cells c0 t0)).alloc (.cells c1 t1)).alloc (.cells c2 t2)).cell? (Ua w.1.size i)=c0[i]?)/\(∀i,(((w.alloc (.cells c0 t0)).alloc (.cells c1 t1)).alloc (.cells c2 t2)).cell? (Ua (w.1.size+1) i)=c1[i]?)/\(∀i,(((w.alloc (.cells c0 t0)).alloc (.cells c1 t1)).alloc (.cells c2 t2)).cell? (Ua (w.1.size+1+1) i)=c2[i]?)/\(∀i,(((w.alloc (.cells c0 t0)).alloc (.cells c1 t1)).alloc (.cells c2 t2)).frozen? (Ua (w.1.size+1) i)=false)/\(∀i,(((w.alloc (.cells c0 t0)).alloc (.cells c1 t1)).alloc (.cells c2 t2)).frozen? (Ua (w.1.size+1+1) i)=false):=by
 refine⟨λi=>?_,λi=>?_,λi=>?_,λi=>?_,λi=>?_⟩
 .rw[VD _ _ _ oS,VD _ _ _ oP,VC _ _ _ _ rfl]
 .rw[VD _ _ _ oP,VC _ _ _ _ oP]
 .rw[VC _ _ _ _ oP]
 .rw[World.frozen?_alloc_past _ _ _ oP,VE _ _ _ _ oP]
 .rw[VE _ _ _ _ oP]
theorem ER{w:Ur}{E:Ev}{x:Nat}{br bq:Int}{z:Lf}(hk:kind=1\/kind=2)(hT:TS E w x acc)(hhi:E.hi<=w.1.size)(hl:acc.length<1000)
  (hz:(0<=z.r/\z.r<=7)/\0<=z.q/\z.q<=1000000000) (hv:z.v.size<=200) (he:kind=2->z.v=ByteArray.empty) (hK:gQ (E.L z.r) z.q z.q=true) (hc:nQ br bq z.r z.q<0) (hf:∀y∈acc,¬(y.r=z.r/\y.q=z.q)) (hR:Rv E x (cU kind z) x'):
  Cl 258 #[Uk (Uc E.tb),Ud kind,Uo #[Ud br,Ud bq]] w λe w'=>e=Ui (Ul #[Uo #[Ud z.r,Ud z.q],Uo #[Um z.v],.nilIface])/\Gv E w w'/\TS E w' x' (acc++[z]):=by
 have⟨W,I⟩:=zE (((w.alloc (Uj #[Ud br,Ud bq] 99)).alloc (Uj #[Ud 0,Ud 0] 99)).alloc (Uj #[Um ⟨#[]⟩] 161));have b0:Bl w W:=I▸((zO _ _).alloc oP _).alloc oS _;have zW:W.1.size=w.1.size+1+1+1:=I▸oP;have⟨R,S,m2,m3,m4⟩:=SW w #[Ud br,Ud bq] #[Ud 0,Ud 0] #[Um ⟨#[]⟩] 99 99 161;rw[I]at R S m2 m3 m4;have x0:W.cell? (Ub w.1.size)=Uq (Ud br):=R 0;have x1:W.cell? (Ua w.1.size 1)=Uq (Ud bq):=R 1;have R0:RB W (w.1.size+1):=⟨⟨0,S 0⟩,⟨0,S 1⟩,⟨⟨#[]⟩,m2 0⟩,m3,m4,oM⟩;have⟨yq,Q,k⟩:=(show Rv E x ((aI 9 z.r.toNat++aI 9 z.q.toNat)++if kind=1 then cM z.v else []) x' from by rw[Ve];exact hR).app;have Hb:=aC k;have T0:=hT.bw b0;have Hx:=hT.low;have K:=aC (CI (V:=z.r.toNat) (M:=z.q.toNat) T0.cu oM oM Q);rw[show((z.r.toNat:Nat):Int)=z.r by omega,show((z.q.toNat:Nat):Int)=z.q by omega]at K;have Hd:aA (∀u y,TS E u y acc->Cl 266 #[Uk (Uc E.tb),Uo #[Ud z.r,Ud z.q]] u λe w'=>e=Ui .nilIface/\iR w' E.ub (acc++[z])/\u.grownBy w' (Uq E.ub)):=aC (λu y t=>by
  have⟨nn,D,G,Hw,_⟩:=t.grp;exact CR t.cu.cur t.us Hw t.srt (eX oM oM) (eX oM oM) hK hf hl)
 have HV:=aC<|And.intro hv he;have⟨r,P⟩:=zE z.r;have⟨q,F⟩:=zE z.q;have⟨s,hs⟩:=zE z.v;rw[P,F]at K Hd;rw[P,F]at hc;rw[hs]at HV Hb;rw[P,F,hs];have Ht:=aC T0;have Hs:=aC R0;have Hq:=aC<|G2.bw (tb:=E.tb) (ub:=E.ub) b0;have HZ:=aC zW;have HX:=aC<|And.intro x0 x1;go_enter func258,ntmps258;go_wp2_with fail;have B:E.tb<w.1.size+1:=oM;have C:E.ub<w.1.size+1:=oM;refine K.mono ?_;rintro e w1⟨rfl,X,h⟩;have T1:=Ht.t X h;have⟨i,Hf⟩:=zE (w1.alloc (Uj #[Ud r,Ud q] 99));have bA:Bl w1 i:=Hf▸zO _ _;have j:aD i w1.1.size (Ud r) (Ud q):=Hf▸aD.made _ _ _ _;have Hy:w.1.size+1+1+1<=w1.1.size:=oJ X.size HZ;have H:Gv E W i:=(G2.t X).trans<|G2.bw bA;have Hh:=aC<|Hq.trans H;have Hj:=aC<|Hs.g2 H B C;have Hl:=aC<|T1.bw bA;have y0:i.cell? (Ub w.1.size)=Uq (Ud br):=(H.cell (oH HZ) oM oM).trans HX.1;have y1:i.cell? (Ua w.1.size 1)=Uq (Ud bq):=(H.cell (oH HZ) oM oM).trans HX.2;have⟨b,p⟩:=j.q2;have g:=aC j;have Hg:=aC<|AM br bq r q i;go_wp2_with fail;refine Hg.mono ?_;rintro e w2⟨rfl,Y⟩;have⟨cv,Hn⟩:=zE (nQ br bq r q);rw[Hn]at hc⊢;have dc:decide (0<=cv)=false:=oS;have Hi:=aC<|Hh.trans (G2.bw Y);have Hk:=aC<|Hj.g2 (G2.bw (tb:=E.tb) (ub:=E.ub) Y) B C;have Hc:=aC<|Hl.bw Y;have j:=g.bw Y g.lt;have⟨b,p⟩:=j.q2;have T:=aC j;have HU:=aC<|Hd w2 _ Hc;go_wp2_with fail;refine HU.mono ?_;rintro e w3⟨rfl,us,A⟩;have N:=aC<|Hc.u A us;have Ha:=aC<|Hi.trans (G2.u A);have m:=aC<|Hk.g2 (G2.u (tb:=E.tb) A) B C;have j:=T.sm (A.block w1.1.size T.lt (λe=>oI e)) A.size;have Hp:w.1.size<=w.1.size+1:=oM;have Ho:E.hi<=w.1.size+1:=oM;have⟨b,p⟩:=j.q2;have g:=aC j;rcases hk with rfl|rfl
 .have Hm:=aC (Qm (M:=200) N.cu HV.1 oM (by have:=Hb.out;rw[if_pos rfl]at this;exact this));go_wp2_with fail;refine Hm.mono ?_;rintro e w4⟨rfl,O,h⟩;have Hu:=aC<|N.t O h;have Hr:=aC<|Ha.trans (G2.t O);have o:=aC<|m.g2 (G2.t (ub:=E.ub) O) B C;have j:=g.sm (O.block w1.1.size g.lt (λe=>oI e)) O.size;have⟨b,p⟩:=j.q2;have⟨u0,k0⟩:=o.c0;have⟨u1,k1⟩:=o.c1;have⟨u2,k2⟩:=o.c2;have f0:=o.f0;have f1:=o.f1;go_wp2_with fail;have⟨Z,J,q0,Q,k,He⟩:=o.fill Hr Hp r q s;have U:=Hu.fill Ho r q s;rw[<-J]at U⊢;exact bodyPost_ret (v:=Ul #[Uo #[Ud r,Ud q],Uo #[Um s],.nilIface]) (by simp[results,results258,go_sem,q0,Q,k]) rfl ⟨rfl,He,U⟩
 .have⟨u0,k0⟩:=m.c0;have⟨u1,k1⟩:=m.c1;have⟨u2,k2⟩:=m.c2;have f0:=m.f0;have f1:=m.f1;obtain rfl:s=⟨#[]⟩:=HV.2 rfl;have Hv:aA (x'=yq):=aC (by have:=Hb.out;rw[if_neg oD]at this;exact this.nil);go_wp2_with fail;have⟨Z,J,q0,Q,k,He⟩:=m.fill Ha Hp r q ⟨#[]⟩;have U:=N.fill Ho r q ⟨#[]⟩;rw[<-J]at U⊢;exact bodyPost_ret (v:=Ul #[Uo #[Ud r,Ud q],Uo #[Um ⟨#[]⟩],.nilIface]) (by simp[results,results258,go_sem,q0,Q,k]) rfl ⟨rfl,He,by rw[Hv.out];exact U⟩
variable {EX : Nat-> Option aB}
theorem XA{w:Ur}{x:Nat}{k:Int}(h:Cu EX w tb a n c f x)(h0:s.size≠0)(h40:s.size<=40)(hR:Rb f n x (cM s++[k]) x'):
  Cl 239 #[Uk (Uc tb)] w λe w'=>kH EX w tb a n c f x' (Ul #[Uo #[Um s,Ud k],.nilIface]) e w':=by
 have⟨y,r1,r2⟩:=hR.app;have⟨z,O,G⟩:=r2.cons;have Q:=G.nil;generalize m:w.alloc (Uj #[Um ⟨#[]⟩,Ud 0] 175)=W;have r:Bl w W:=m▸zO _ _;have q:aD W w.1.size (Um ⟨#[]⟩) (Ud 0):=m▸aD.made _ _ _ _;have B:=h.lt;have L:aA (w.grownBy W (Uq tb)):=aC<|oY (sP w (Uq tb)) r;have b:=aC<|Qm (M:=40) (h.bw r) h40 oM r1;have i:aA (∀u,Cu EX u tb a n c f y->Cl 255 #[Uk (Uc tb)] u λe w'=>kH EX u tb a n c f (y+1) (Ul #[Ug .u8 k,.nilIface]) e w'):=aC<|λu hu=>z▸Qu hu O;have C:s.toList.isEmpty=false:=by
  cases e:s.toList.isEmpty with
  |false=>rfl
  |true=>exact absurd (by rw[Lib.toList_data]at e;have⟨⟨l⟩⟩:=s;cases l with|nil=>rfl|cons a l=>cases e) h0
 have Y:=h.byt y;rw[z]at Y;have⟨S,T⟩:=Y;have X:=aC Q;have I:=aC h;have H:aA (∀w1,W.grownBy w1 (Uq tb)->aD w1 w.1.size (Um ⟨#[]⟩) (Ud 0)):=aC<|λw1 g=>q.sm (g.block w.1.size q.lt oS) g.size;clear h hR r1 r2 G z O Q r q h0;go_enter func239,ntmps239;go_wp2_with fail;try rw[m]
 clear m;refine b.mono ?_;clear b;rintro e w1⟨rfl,U,j⟩;have p:=aC<|i w1 j;have o:=aC U;clear U j i;go_wp2_with fail;refine p.mono ?_;clear p C;rintro e w2⟨rfl,t,j⟩;have E:=H _<|iN o t;have⟨D,F,kf⟩:=E.p2;have N:=aC<|iN L (iN o t);have J:=aC j;clear t j E;go_wp2_with fail;have⟨Z,V,P,R,A,K⟩:=E0 (Um s) (Ud k) N J.cur B D F;try rw[<-V]
 clear V;exact bodyPost_ret (v:=Ul #[Uo #[Um s,Ud k],.nilIface]) (by simp[results,results239,go_sem,P,R]) rfl ⟨rfl,A,by rw[X.out];exact I.mv A K⟩
theorem BV{Q:Prop}(h:Q:=by
 have b:Bw w W:=by rw[<-u];exact⟨aU _ _ _,Ux _⟩
 have t:aD W w.1.size (Um s) (Ud k):=u▸(aD.made w _ _ _).allocs _;have o:aD W (w.1.size+1) (Um q) (Ud m):=by rw[<-u];simpa using aD.made (w.alloc (Uj #[Um s,Ud k] 175)) (Um q) (Ud m) 175
 have v:=aC b;have h:=aC t;have g:=aC o;clear b t o;go_enter func152,ntmps152;go_wp2_with fail;try rw[u]
 clear u;have z:aA (∀w',Bw W w'->(Bw W w'/\w'.cell? (Ub w.1.size)=Uq (Um s)/\w'.cell? (Ua w.1.size 1)=Uq (Ud k)/\w'.cell? (Ua (w.1.size+1) 0)=Uq (Um q)/\w'.cell? (Ua (w.1.size+1) 1)=Uq (Ud m))):=aC (λw' r=>by
  have x0:=h.bw r.1 h.lt;have p:=g.bw r.1 g.lt;exact⟨r,x0.c0,x0.c1,p.c0,p.c1⟩)
 refine zA z ⟨zI.drew,UD _⟩<|λqh=>?_;refine tZ 0 5 ?_;refine tZ 1 6 ?_;refine tZ 2 7 ?_;refine tZ 3 8 ?_;refine tZ 5 10 ?_;refine tZ 6 11 ?_;refine tZ 7 12 ?_;refine tZ 8 13 ?_;refine cZ 4 ?_;intro K j;go_simp;refine(Wb s q _).mono ?_;rintro e w1⟨rfl,rfl⟩;refine j.out _ _ qh<|λqh=>?_;clear j K;try simp only[zP]
 refine cZ 9 ?_;intro K j;go_simp;refine(sG k m _).mono ?_;rintro e E⟨rfl,rfl⟩;refine j.out _ _ qh<|λqh=>?_;clear j K;try simp only[zP]
 refine cZ 10 ?_;intro K j;go_simp;have r:Bw W (W.drew.alloc (Uj #[Ud (dD s q),Ud (bN k m)] 3)):=⟨qh.1.1.alloc qh.1.1.size _,qh.1.2⟩;refine j.out _ _ (z _ r)<|λqh=>?_;clear j K;try simp only[zP]
 refine cZ 11 ?_;intro K j;go_simp;refine(Br _ 2 2 (λi=>if i=0 then dD s q else bN k m) _ oM (λi hi=>?_)).mono ?_
 .match i,hi with
  |0,_=>simp
  |1,_=>simp
 rintro e M⟨rfl,rfl⟩;refine j.out _ _ qh<|λqh=>?_;clear j K;try simp only[zP]
 refine tZ 12 4 ?_;refine zD ?_;have A:aA (Bw w (W.drew.alloc (Uj #[Ud (dD s q),Ud (bN k m)] 3))):=aC ⟨v.1.trans (qh.1.1.mono v.1.size),Uz v.2 qh.1.2⟩;clear qh r;go_wp2_with fail;go_ret;exact⟨lA Eu,A⟩):Q:=h
theorem vG{Q:Prop}(h:Q:=by obtain⟨s,k⟩:=x;obtain⟨q,m⟩:=y;dsimp only;obtain⟨W,u⟩:=zE ((w.alloc (Uj #[Um s,Ud k] 175)).alloc (Uj #[Um q,Ud m] 175));exact BV):Q:=h
theorem XD(x y:Ky)(w:Ur):Cl 152 #[Uo #[Um x.1,Ud x.2],Uo #[Um y.1,Ud y.2]] w λe w'=>e=Ui (Ud (eR x y))/\Bw w w':=by
 exact vG
theorem CB{w:Ur}{x:Nat}{bs:ByteArray}{k bk:Int}(h:Cu EX w tb a n c f x)(h0:s.size≠0)(h40:s.size<=40)(hc:eR (bs,bk) (s,k)<0)(hR:Rb f n x (cM s++[k]) x'):
  Cl 216 #[Uk (Uc tb),Uo #[Um bs,Ud bk]] w λe w'=>kH EX w tb a n c f x' (Ul #[Uo #[Um s,Ud k],.nilIface]) e w':=by
 have⟨W,j⟩:=zE ((w.alloc (Uj #[Um bs,Ud bk] 175)).alloc (Uj #[Um ⟨#[]⟩,Ud 0] 175));have m:Bl w W:=j▸aU _ _ _;have z:aD W w.1.size (Um bs) (Ud bk):=j▸(aD.made w _ _ _).allocs _;have u:aD W (w.1.size+1) (Um ⟨#[]⟩) (Ud 0):=by rw[<-j];simpa using aD.made (w.alloc (Uj #[Um bs,Ud bk] 175)) (Um ⟨#[]⟩) (Ud 0) 175
 have S:=h.lt;have D:aA (w.grownBy W (Uq tb)):=aC<|oY (sP w (Uq tb)) m;have Q:=aC<|XA (h.bw m) h0 h40 hR;have Ha:=(h.bw m).cur.2.1;have X:=aC h;have A:aA (∀w1,W.grownBy w1 (Uq tb)->aD w1 w.1.size (Um bs) (Ud bk)/\aD w1 (w.1.size+1) (Um ⟨#[]⟩) (Ud 0)):=aC<|λw1 g=>⟨z.sm (g.block w.1.size z.lt oS) g.size,u.sm (g.block (w.1.size+1) u.lt oS) g.size⟩;go_enter func216,ntmps216;go_wp2_with fail;refine Q.mono ?_;rintro e w1⟨rfl,I,H⟩;have⟨y,p⟩:=zE (w1.alloc (Uj #[Um s,Ud k] 175));have o:Bl w1 y:=p▸zO _ _;have i:=oY I o;have t:aD y w1.1.size (Um s) (Ud k):=p▸aD.made _ _ _ _;have⟨Y,_⟩:=A _ i;have M:=aC i;have E:=aC<|H.bw o;have O:=aC<|XD (bs,bk) (s,k) y;have⟨L,N⟩:=t.q2;have⟨z0,z1⟩:=Y.q2;have r:=aC t;go_wp2_with fail;refine O.mono ?_;rintro e w2⟨rfl,q,_⟩;have⟨P,K⟩:=zE (eR (bs,bk) (s,k));rw[K]at hc⊢;have dc:decide (0<=P)=false:=oS;have b:=oY M q;have⟨_,V⟩:=A _ b;have⟨T,k1,kf⟩:=V.p2;have G:=r.bw q r.lt;have⟨L,N⟩:=G.q2;have F:=aC<|iN D b;have B:=aC<|E.bw q;have R:w.1.size<=w.1.size+1:=UD _;go_wp2_with fail;have⟨Z,J,q0,q1,U,C⟩:=Qv (Um s) (Ud k) F B.cur S R T k1;rw[<-J];exact bodyPost_ret (v:=Ul #[Uo #[Um s,Ud k],.nilIface]) (by simp[results,results216,go_sem,q0,q1]) rfl ⟨rfl,U,X.mv U C⟩
section
variable {w w' v v' : Ur}{tb ub : Nat}
theorem G2.gr(h:G2 tb ub w v){b:Nat}(g:v.grownBy v' (Uq b))(hb:w.1.size<=b):G2 tb ub w v':=
 ⟨g.os.trans h.os,g.tape.trans h.tape,g.output.trans h.output,Uz h.size g.size,λk hk h1 h2=>(g.block k (Ut hk h.size) (λe=>oI e)).trans (h.block k hk h1 h2)⟩
structure NB(v:Ur)(b:Nat):Prop where
 c0:∃u,v.cell? (Ub b)=Uq (.map u)
 c1:∃u,v.cell? (Ua b 1)=Uq (.map u)
 f0:∀i,v.frozen? (Ua b i)=false
 lt:b<v.1.size
theorem NB.q2{v:Ur}{b:Nat}(h:NB v b):(∃u,v.cell? (Ub b)=Uq (.map u))/\(∃u,v.cell? (Ua b 1)=Uq (.map u)):=⟨h.c0,h.c1⟩
theorem NB.made(w:Ur)(t:TypeId):NB (w.alloc (Uj #[.map Up,.map Up] t)) w.1.size:=
 ⟨⟨Up,oP⟩,⟨Up,oP⟩,λi=>by rw[VE _ _ _ _ rfl],oP⟩
theorem NB.same{b:Nat}(h:NB v b)(e:v'.1[b]? =v.1[b]?)(hz:v.1.size<=v'.1.size):NB v' b:=by
 have⟨m,j⟩:=h.c0;have⟨q,k⟩:=h.c1;exact⟨⟨m,(Vy (a:=(Ub b)) e).trans j⟩,⟨q,(Vy (a:=(Ua b 1)) e).trans k⟩,λi=>(Vz (a:=(Ua b i)) e).trans (h.f0 i),Ut h.lt hz⟩
theorem NB.g2{b:Nat}(h:NB v b)(g:G2 tb ub v v')(h1:b≠tb)(h2:b≠ub):NB v' b:=h.same (g.block b h.lt h1 h2) g.size
theorem NB.fill{b:Nat}(h:NB v b)(g:G2 tb ub w v)(hb:w.1.size<=b)(s s':Option Nat):
  ∃Z,Z=(v.setCell (Ub b) (.map s)).setCell (Ua b 1) (.map s')/\Z.cell? (Ub b)=Uq (.map s)/\Z.cell? (Ua b 1)=Uq (.map s')/\G2 tb ub w Z/\(∀k,k≠b->Z.1[k]? =v.1[k]?)/\v.grownBy Z (Uq b):=by
 have⟨r,m⟩:=h.c0;have⟨u,q⟩:=h.c1;have j:∀k,k≠b->((v.setCell (Ub b) (.map s)).setCell (Ua b 1) (.map s')).1[k]? =v.1[k]? :=λk hk=>(zH _ _ _ _ oS).trans (zH _ _ _ _ oS);refine⟨_,rfl,?_,?_,(g.set _ _ hb).set _ _ hb,j,⟨rfl,rfl,rfl,by simp[Vr],λk hk hne=>j k (λe=>hne (by rw[e]))⟩⟩
 .rw[Vt _ _ _ _ oP];exact Vs _ _ _ m
 .exact Vs _ _ _ (by rw[Vt _ _ _ _ oP];exact q)
end
noncomputable def pR(l:List Lf):Dt->Option ByteArray:=l.foldl (λg z=>dE g (z.r,z.q) (Uq z.v)) (λ_=>Up)
theorem ND(l:List Lf)(z:Lf):pR (l++[z])=dE (pR l) (z.r,z.q) (Uq z.v):=by simp[pR]
structure BP(K:Int->Int->Bool)(kind:Int)(p:List ByteArray)(z:Lf):Prop where
 p:z.p=p
 fl:z.fl=decide (kind=2)
 k:K z.r z.q=true
 v:z.v.size<=200
 e:kind=2->z.v=ByteArray.empty
def tA(K:Int->Int->Bool):Prop:=∀r q,K r q=true->0<=r/\r<=7/\1<=q/\q<=1000000000
def kE(K:Int->Int->Bool)(kind:Int)(p:List ByteArray):Dt->List Lf->List Lf->Prop
 |_,_,[]=>True
 |before,acc,z::B=>BP K kind p z/\fG before (z.r,z.q)<0/\(∀y∈acc,¬(y.r=z.r/\y.q=z.q))/\acc.length≠1000/\kE K kind p (z.r,z.q) (acc++[z]) B
abbrev Ev.K(E:Ev):Int->Int->Bool:=λr q=>gQ (E.L r) q q
def Eg(E:Ev)(w:Ur)(acc l:List Lf)(x':Nat)(e:Ending)(w':Ur):Prop:=∃s s':Nat,e=Ui (Ul #[Uo #[.map (Uq s),.map (Uq s')],.nilIface])/\Gv E w w'/\TS E w' x' (acc++l)/\(acc++l).length<=1000/\
 s≠s'/\w.1.size<=s/\w.1.size<=s'/\aO w' 175 (α:=Ky) aP bE s 0 (λ_=>Up)/\aO w' 99 (α:=Dt) aX cH s' l.length (pR l)
theorem NE{w:Ur}{E:Ev}{x:Nat}{B:List Lf}(hk:kind=1\/kind=2)(o:TS E w x acc)(hhi:E.hi<=w.1.size)(hl:acc.length<=1000)(hB0:B≠[])(hB1:B.length<=1000)(hO:kE E.K kind p (0,0) acc B)(g:Rv E x (mB B kind) x'):
  Cl 240 #[Uk (Uc E.tb),Ud kind] w λe w'=>Eg E w acc B x' e w':=by
 have⟨P,hP⟩:=zE (Eg E w acc B x');rw[hP];have HP:=aC hP;have⟨W,hW⟩:=zE (w.alloc (Uj #[.map Up,.map Up] 107));have b0:Bl w W:=hW▸zO _ _;have H2:aA (NB W w.1.size):=aC (hW▸NB.made _ _);have Hm:=aC (o.bw b0);have Hw:=aC (G2.bw (tb:=E.tb) (ub:=E.ub) b0);have⟨G8,G9⟩:=o.low;have Ha:=o.kok;have⟨y0,r1,r2⟩:=g.app;have HU:=aC (oT (most:=1000) Hm.cu oM oM r1);have⟨V,T⟩:=zE B.length;have G4:0<V:=T▸List.length_pos_iff.2 hB0;rw[T]at HU hB1;have HV:=aC T;have HI:=aC (And.intro hO r2);have Gh:=aC Ha;have d0:((V:Int)==0)=false:=oS;have Hs:w.1.size≠E.tb:=oM;have Ht:w.1.size≠E.ub:=oM;have Gx:w.1.size<=w.1.size:=Ux _;go_enter func240,ntmps240;go_wp2_with fail;refine HU.mono ?_;rintro e w1⟨rfl,D,C⟩;have H3:=aC (Hm.t D C);have Hf:=aC (Hw.trans (G2.t D));have Hj:=aC (H2.g2 (G2.t (ub:=E.ub) D) Hs Ht);go_wp2_with fail;refine(sK w1).mono ?_;rintro e u⟨s,m,rfl,Gd,G6,G7,m1,m2,b2⟩;have⟨W3,I⟩:=zE ((u.alloc (Uj #[.map (Uq s),.map (Uq m)] 107)).alloc (Uj #[Ud 0,Ud 0] 99));have b3:Bl u W3:=I▸aU _ _ _;have Gs:aA (aD W3 u.1.size (.map (Uq s)) (.map (Uq m))):=aC (I▸(aD.made u _ _ _).allocs _);have Hu:aA (aD W3 (u.1.size+1) (Ud 0) (Ud 0)):=aC (by rw[<-I];simpa using aD.made (u.alloc (Uj #[.map (Uq s),.map (Uq m)] 107)) (Ud 0) (Ud 0) 99);have X:=aE b2 b3;have Gq:=aC (H3.bw X);have Gf:=aC (Hf.trans (G2.bw X));have Go:=aC (Hj.g2 (G2.bw (tb:=E.tb) (ub:=E.ub) X) Hs Ht);have Gl:=aC (m1.same (b3.block s m1.lt));have Gm:=aC (m2.same (b3.block m m2.lt));have Kb:=Hj.lt;have Kd:=b2.size;have Gw:=m1.lt;have Hr:=m2.lt;go_wp2_with fail;go_loopw [31] (λiv wr=>∃(k y:Nat) (l:List Lf) (br bq:Int),k<=V/\iv=Ud (k:Int)/\(acc++l).length<=1000/\u.1.size+1<wr.1.size/\aA (l=B.take k/\l.length=k)/\aA (TS E wr y (acc++l))/\aA (Gv E w wr)/\aA (NB wr w.1.size)/\
  aA (aD wr u.1.size (.map (Uq s)) (.map (Uq m)))/\aA (aD wr (u.1.size+1) (Ud br) (Ud bq))/\aA (aO wr 175 (α:=Ky) aP bE s 0 (λ_=>Up))/\aA (aO wr 99 (α:=Dt) aX cH m k (pR l))/\
  aA (kE E.K kind p (br,bq) (acc++l) (B.drop k)/\Rv E y ((B.drop k).flatMap (cU kind)) x')) (λiv _=>V-(intOf iv).toNat)
 case atStart=>exact⟨0,y0,[],0,0,UB _,rfl,oU hl,Hu.lt,aC ⟨oP,rfl⟩,oU Gq,Gf,Go,Gs,Hu,Gl,Gm,oU HI⟩
 case round=>
  obtain⟨k,y,l,br,bq,G5,rfl,H6,Ke,J,o,H,g,hX,F,R,S,Hd⟩:=hrel;by_cases Ga:k<V
  .have⟨z,hp,Ge⟩:=qG (l:=B) (k:=k) (by rw[HV.out];exact Ga);have⟨Gb,Hc⟩:=Hd.out;rw[hp]at Gb Hc;have⟨L,o2,o3,o4,o5⟩:=Gb;rw[VP]at Hc;have⟨x2,q1,U⟩:=Rb.app Hc;have⟨G1,G3,Kf,G0⟩:=Gh _ _ L.k;have⟨kl,H7⟩:=rR (eX (r:=z.r) oM oM) (eX (r:=z.q) oM oM);have H0:=aC<|ER hk o (Uz hhi H.size) oM ⟨⟨G1,G3⟩,oM,G0⟩ L.v L.e L.k o2 o3 q1;have Hz:=aC H7;have HN:aA (kE E.K kind p (z.r,z.q) (acc++(l++[z])) (B.drop (k+1))/\Rv E x2 ((B.drop (k+1)).flatMap (cU kind)) x'):=aC ⟨by rw[<-Ve];exact o5,U⟩;have Gk:aA (l++[z]=B.take (k+1)/\(l++[z]).length=k+1):=aC ⟨by rw[Ge,J.1],by simp[J.2]⟩;have Hq:(acc++(l++[z])).length<=1000:=(by simp at H6 o4⊢;omega);have⟨d0,d1⟩:=F.q2;have⟨c0,c1,c2,_⟩:=o.cu.cur;go_wp2_with fail;refine H0.mono ?_;rintro e i⟨rfl,g4,t4⟩;have⟨O,Ho⟩:=zE ((i.alloc (Uj #[Ud z.r,Ud z.q] 99)).alloc (Uj #[Um z.v] 161));have b5:Bl i O:=Ho▸aU _ _ _;have h:Gv E wr O:=g4.trans<|G2.bw b5;have Y5:aD O i.1.size (Ud z.r) (Ud z.q):=Ho▸(aD.made i _ _ _).allocs _;have M5:O.cell? (Ua (i.1.size+1) 0)=Uq (Um z.v):=(by rw[<-Ho];rw[VC _ _ _ _ oP];rfl);have Ka:=g4.size;have X5:=hX.sm (h.block _ hX.lt oM oM) h.size;have D5:=F.sm (h.block _ F.lt oM oM) h.size;have H1:=aC<|S.same (h.block m S.lt oM oM);have Hg:=aC<|R.same (h.block s R.lt oM oM);have H4:=aC<|t4.bw b5;have Hx:=aC<|H.trans h;have Hk:=aC<|g.g2 h Hs Ht;have⟨x0,Gz⟩:=X5.q2;have⟨y0,y1⟩:=Y5.q2;have Hn:=aC X5;have He:=aC D5;have G:=aC Y5;have⟨Y,r9,m9,A⟩:=H1.store gX (λ_ _=>sL) underlying105 oL (x:=(z.r,z.q)) (y:=z.v) Hz;have M:∀b,b≠m->b<O.1.size->Y.1[b]? =O.1[b]? :=λb h1 h2=>A.block b h2 (λe=>h1 (by injection e));have v0:=(Vy (a:=(Ub i.1.size)) (M i.1.size oM G.lt)).trans G.c0;have v1:=(Vy (a:=(Ua i.1.size 1)) (M i.1.size oM G.lt)).trans G.c1;have D9:=He.sm (M _ oM He.lt) A.size;have X9:=Hn.sm (M _ oM Hn.lt) A.size;have H5:=aC<|H4.gr A oM;have Hy:=aC<|Hx.gr A oM;have Hl:=aC<|Hk.same (M w.1.size oM Hk.lt) A.size;have Hh:=aC<|Hg.same (M s Gd Hg.lt);have Hi:aA (aO Y 99 (α:=Dt) aX cH m (k+1) (pR (l++[z]))):=aC (by rw[ND];exact m9);have⟨Zw,Hp⟩:=zE ((Y.setCell (Ua (u.1.size+1) 0) (Ud z.r)).setCell (Ua (u.1.size+1) 1) (Ud z.q));have Q:Y.grownBy Zw (Uq (u.1.size+1)):=by
    rw[<-Hp];exact⟨rfl,rfl,rfl,by simp[Vr],λj hj hne=>(zH _ _ _ _ (λe=>hne (by rw[e]))).trans (zH _ _ _ _ (λe=>hne (by rw[e])))⟩
   have Hv:aA (aD Zw (u.1.size+1) (Ud z.r) (Ud z.q)):=aC<|Hp▸D9.set _ _;have N:∀b,b≠u.1.size+1->b<Y.1.size->Zw.1[b]? =Y.1[b]? :=λb h1 h2=>Q.block b h2 (λe=>h1 (by injection e));have Gt:=aC<|X9.sm (N _ oM X9.lt) Q.size;have Gr:=aC<|H5.gr Q oM;have Gg:=aC<|Hy.gr Q oM;have Gp:=aC<|Hl.same (N w.1.size oM Hl.lt) Q.size;have Gi:=aC<|Hh.same (N s oM Hh.lt);have Gn:=aC<|Hi.same (N m oM Hi.lt);have⟨e0,e1,ef⟩:=D9.p2;unfold aX iE cH at r9;dsimp only at r9;go_wp2_with fail;go_roundw;case rel=>exact⟨k+1,x2,l++[z],z.r,z.q,Ga,oN,Hq,Hv.lt,Gk,by rw[<-Ve];exact Gr,Gg,Gp,Gt,Hv,Gi,Gn,HN⟩
   case measure=>exact oE
  .obtain rfl:k=V:=oM;have hd:B.drop k=[]:=(by rw[<-HV.out];simp);have⟨H8,Hb⟩:=J.out;have H9:l=B:=(by rw[H8,<-HV.out];simp);have Gu:aA (x'=y):=aC (by have:=Hd.2;rw[hd]at this;exact Rb.nil this);have Gj:=aC<|And.intro H9 Hb;have⟨x0,Gz⟩:=hX.q2;have⟨u0,k0⟩:=g.c0;have⟨u1,k1⟩:=g.c1;have f0:=g.f0;go_wp2_with fail;have⟨Z,hZ,q0,q1,gZ,bZ,gg⟩:=g.fill H Gx (Uq s) (Uq m);rw[<-hZ];refine zF (v:=Ul #[Uo #[.map (Uq s),.map (Uq m)],.nilIface]) (by simp[results,results240,go_sem,q0,q1]) ?_;obtain⟨rfl,Hb⟩:=Gj.out;rw[<-HP.out,Gu.out];refine⟨s,m,rfl,gZ,o.gr gg hhi,H6,Gd,oM,oM,R.same (bZ s oM),?_⟩;rw[Hb];exact S.same<|bZ m oM
noncomputable def uL(l:List Lf)(p:List ByteArray):Nat->List Lf
 |0=>[]
 |k+1=>if yes (nx p (gL l k)≠Up)=true then uL l p k++[gL l k] else uL l p k
noncomputable def wL(l:List Lf):Nat->List ByteArray->List Lf
 |0,_=>[]
 |f+1,p=>(kS l p l.length).flatMap λy=>if y.2=3 then wL l f (p++[y.1])else bF l p y l.length
theorem Ic(l:List Lf)(p:List ByteArray)(s:ByteArray):∀k,bF l p (s,3) k=uL l (p++[s]) k
 |0=>rfl
 |k+1=>by
  have j:=Ic l p s k;by_cases h:nx p (gL l k)=Uq (s,3)
  .rw[oV h];simp only[uL];rw[if_pos (aN (sC.1 h)),j]
  .rw[lX h];simp only[uL];rw[if_neg (by rw[aJ (λhh=>h (sC.2 hh))];simp),j]
theorem zK{α β:Type}{f g:α->List β}:∀{ys:List α},(∀y∈ys,f y=g y)->ys.flatMap f=ys.flatMap g
 |[],_=>rfl
 |a::r,h=>by
  rw[VP,VP,h a (Vf),zK (λy hy=>h y (Vg _ hy))]
theorem Np{R F T:Nat->Int}{n:Nat}{l:List Lf}(p:List ByteArray)(h:dB R F T n l l.length):∀k,k<=l.length->(kS l p k).flatMap (λy=>bF l p y k)=uL l p k
 |0,_=>rfl
 |k+1,hk=>by
  have b:=Np p h k oM;cases e:nx p (gL l k)with
  |none=>
   rw[uB e];have:(kS l p k).flatMap (λy=>bF l p y (k+1))=(kS l p k).flatMap (λy=>bF l p y k):=zK λy _=>lX (by rw[e];simp);rw[this,b];simp only[uL];rw[if_neg (by rw[aJ (λhh=>hh e)];simp)]
  |some y=>
   have O:uL l p (k+1)=uL l p k++[gL l k]:=(by simp only[uL];rw[if_pos (aN (by rw[e];simp))]);have⟨r,s⟩:=lU p h k oM;rw[O,<-b,uA e];by_cases m:(kS l p k).getLast? =Uq y
   .rw[if_pos (aN m)];have⟨i,u⟩:=List.getLast?_eq_some_iff.1 m;have v:y ∉ i:=λhm=>by
     rw[u]at r;have:=(List.pairwise_append.1 r).2.2 y hm y (List.mem_singleton.2 rfl);rw[bH.key.irr]at this;omega
    rw[u,Yh,Yh];simp only[VP,Yi,VO];rw[oV e,<-Ve];congr 2;exact zK λz q=>lX (by rw[e];simp;exact λhh=>v (hh▸q))
   .rw[if_neg (by rw[aJ m];simp)];have v:y ∉ kS l p k:=λhm=>by
     generalize u:kS l p k=i;rw[u]at r m hm;rcases List.eq_nil_or_concat i with A|⟨Y,z,q⟩
     .rw[A]at hm;cases hm
     .rw[q]at m hm r;simp only[List.concat_eq_append]at m hm r;have Q:z≠y:=λhh=>m (by rw[hh];simp);rcases List.mem_append.1 hm with t|t
      .have E:=(List.pairwise_append.1 r).2.2 y t z<|List.mem_singleton.2 rfl;have⟨j,o,g⟩:=(s z).1 (by rw[u,q];simp);have U:=uM (h.lt k o oM) g e;have V:=(bH.key.neg y z).1 E;omega
      .exact Q (List.mem_singleton.1 t).symm
    have M:bF l p y k=[]:=by
     cases hd:bF l p y k with
     |nil=>rfl
     |cons x xs=>
      have⟨j,o,g,_⟩:=kT.1 (show x∈bF l p y k by rw[hd];exact Vf);exact absurd ((s y).2 ⟨j,o,g⟩) v
    rw[Yh];simp only[VP,Yi,VO];rw[oV e,M,Yj];congr 1;exact zK λz q=>lX (by rw[e];simp;exact λhh=>v (hh▸q))
theorem Qi{R F T:Nat->Int}{n:Nat}{l:List Lf}(h:dB R F T n l l.length):∀f p,p.length+f=8->wL l f p=uL l p l.length
 |0,p,hp=>by
  have:∀k,k<=l.length->uL l p k=[]:=λk=>by
   induction k with
   |zero=>intro _;rfl
   |succ k ih=>
    intro m;simp only[uL];rw[if_neg (by
     rw[aJ (λhh=>?_)]
     .simp
     .have:=(nU.1 hh).2;have:=(h k oM).1.1.2.1;omega),ih oM]
  exact(this _ zL).symm
 |f+1,p,hp=>by
  rw[<-Np p h l.length zL];show(kS l p l.length).flatMap _=_;refine zK λy _=>?_;by_cases j:y.2=3
  .rw[if_pos j,Qi h f (p++[y.1]) (by rw[UM];simp;omega),<-Ic];rw[show(y.1,(3:Int))=y by rw[<-j]]
  .rw[if_neg j]
theorem Fk{R F T:Nat->Int}{n:Nat}{l:List Lf}(h:dB R F T n l l.length):∀k,k<=l.length->uL l [] k=l.take k
 |0,_=>by simp[uL]
 |k+1,hk=>by
  simp only[uL];rw[if_pos (aN (nU.2 ⟨Yk,by have:=(h k oM).1.1.1;simp;omega⟩)),Fk h k oM,Vc];congr 1;simp[gL,UL,show k<l.length by omega]
theorem Sc(h:dB R F T n l l.length):wL l 8 []=l:=by
 rw[Qi h 8 [] rfl,Fk h _ zL,Vj]
def iQ(x:Lf):List ByteArray×Int×Dt:=(x.p,kd x.fl,x.r,x.q)
theorem U8:bH (λx y:List ByteArray×Int×Dt=>dX (aW x.1 y.1) (dX (bN x.2.1 y.2.1) (fG x.2.2 y.2.2))):=bH.path.pair (bH.int.pair bH.dot)
theorem Nk(x y:Lf):aY x y<0↔0<aY y x:=U8.neg (iQ x) (iQ y)
theorem Ig(x y:Lf):aY x y=0↔iQ x=iQ y:=U8.z (iQ x) (iQ y)
theorem U6{y:Lf}(h:iQ x=iQ y):x.p=y.p/\x.fl=y.fl/\x.r=y.r/\x.q=y.q:=by
 unfold iQ at h;have j:=congrArg Prod.fst h;have k:=congrArg (λz=>z.2.1) h;have m:=congrArg (λz=>z.2.2.1) h;have u:=congrArg (λz=>z.2.2.2) h;exact⟨j,Bu k,m,u⟩
noncomputable def dS(x:Lf):List Lf->List Lf
 |[]=>[x]
 |y::r=>if yes (aY y x<0)=true then y::dS x r else x::y::r
theorem Dl{x z:Lf}:∀{ls:List Lf},z∈dS x ls↔z=x\/z∈ls
 |[]=>by simp[dS]
 |y::r=>by
  have j:=Dl (x:=x) (z:=z) (ls:=r);simp only[dS];split
  .rw[VS,j,VS];constructor
   .rintro(h|h|h)
    .exact .inr<|.inl h
    .exact .inl h
    .exact .inr<|.inr h
   .rintro(h|h|h)
    .exact .inr<|.inl h
    .exact .inl h
    .exact .inr<|.inr h
  .rw[VS]
theorem sQ(x:Lf):∀ls:List Lf,(dS x ls).length=ls.length+1
 |[]=>rfl
 |y::r=>by
  simp only[dS];split
  .simp[sQ x r]
  .simp
theorem Ot{x:Lf}:∀{ls:List Lf},ls.Pairwise (λa b=>aY a b<0)->(∀y∈ls,iQ y≠iQ x)->(dS x ls).Pairwise (λa b=>aY a b<0)
 |[],_,_=>by simp[dS]
 |y::r,h,hne=>by
  have k:=List.pairwise_cons.1 h;have q:=Ot k.2<|λz hz=>hne z (Vg _ hz);simp only[dS];by_cases j:aY y x<0
  .rw[if_pos (aN j)];refine List.pairwise_cons.2 ⟨λz hz=>?_,q⟩;rcases Dl.1 hz with e|e
   .rw[e];exact j
   .exact k.1 z e
  .rw[if_neg (by rw[aJ j];simp)];have u:aY y x≠0:=λe=>hne y (Vf) ((Ig y x).1 e);have m:aY x y<0:=(Nk x y).2 oM;refine List.pairwise_cons.2 ⟨λz hz=>?_,h⟩;rcases List.mem_cons.1 hz with e|e
   .rw[e];exact m
   .exact Iy m<|k.1 z e
noncomputable def fZ(P:Lf->Prop)(ls:List Lf)(out:List Lf):Nat->List Lf
 |0=>out
 |k+1=>if yes (P (gL ls k))=true then dS (gL ls k) (fZ P ls out k)else fZ P ls out k
theorem Mt{P:Lf->Prop}{out:List Lf}(h:P (gL ls k)):fZ P ls out (k+1)=dS (gL ls k) (fZ P ls out k):=by simp only[fZ];rw[if_pos (aN h)]
theorem L9{P:Lf->Prop}{out:List Lf}(h:¬P (gL ls k)):fZ P ls out (k+1)=fZ P ls out k:=by simp only[fZ];rw[if_neg (by rw[aJ h];simp)]
theorem uJ{P:Lf->Prop}{ls out:List Lf}{z:Lf}:∀{k:Nat},z∈fZ P ls out k↔z∈out\/∃j,j<k/\P (gL ls j)/\gL ls j=z
 |0=>by simp[fZ]
 |k+1=>by
  have v:=uJ (P:=P) (ls:=ls) (out:=out) (z:=z) (k:=k);by_cases h:P (gL ls k)
  .rw[Mt h,Dl,v];constructor
   .rintro(e|e|⟨j,u,m,q⟩)
    .exact .inr ⟨k,oM,h,e.symm⟩
    .exact .inl e
    .exact .inr ⟨j,oM,m,q⟩
   .rintro(e|⟨j,u,m,q⟩)
    .exact .inr<|.inl e
    .by_cases r:j=k
     .subst r;exact .inl q.symm
     .exact .inr<|.inr ⟨j,oM,m,q⟩
  .rw[L9 h,v];constructor
   .rintro(e|⟨j,u,m,q⟩)
    .exact .inl e
    .exact .inr ⟨j,oM,m,q⟩
   .rintro(e|⟨j,u,m,q⟩)
    .exact .inl e
    .by_cases r:j=k
     .subst r;exact absurd m h
     .exact .inr ⟨j,oM,m,q⟩
theorem C5{P:Lf->Prop}{ls out:List Lf}:∀k,(fZ P ls out k).length<=out.length+k
 |0=>by simp[fZ]
 |k+1=>by
  have j:=C5 (P:=P) (ls:=ls) (out:=out) k;simp only[fZ];split
  .rw[sQ];omega
  .omega
theorem Oo{P:Lf->Prop}{ls out:List Lf}(ho:out.Pairwise (λa b=>aY a b<0))(hl:∀i j,i<j->j<ls.length->aY (gL ls i) (gL ls j)<0)(hne:∀j,j<ls.length->P (gL ls j)->∀y∈out,iQ y≠iQ (gL ls j)):∀k,k<=ls.length->(fZ P ls out k).Pairwise (λa b=>aY a b<0)
 |0,_=>ho
 |k+1,hk=>by
  have m:=Oo ho hl hne k oM;by_cases h:P (gL ls k)
  .rw[Mt h];refine Ot m<|λy hy=>?_;rcases uJ.1 hy with e|⟨j,q,u,r⟩
   .exact hne k oM h y e
   .intro e;rw[<-r]at e;have:=(Ig _ _).2 e;have:=hl j k q oM;omega
  .rw[L9 h];exact m
noncomputable def rC(la lb:List Lf)(hasA hasB:Lf->Prop):List Lf:=fZ (λx=>¬hasA x) lb (fZ (λx=>x∈lb\/¬hasB x) la [] la.length) lb.length
theorem bJ:x∈l↔∃j,j<l.length/\gL l j=x:=by
 constructor
 .intro h;have⟨j,k,e⟩:=List.getElem_of_mem h;exact⟨j,k,by simp[gL,UL,k,e]⟩
 .rintro⟨j,k,e⟩;rw[<-e];have:gL l j=l[j]:=by simp[gL,UL,k]
  rw[this];exact List.getElem_mem k
theorem uC{hasA hasB:Lf->Prop}{z:Lf}:z∈rC la lb hasA hasB↔(z∈la/\(z∈lb\/¬hasB z))\/(z∈lb/\¬hasA z):=by
 unfold rC;rw[uJ,uJ];constructor
 .rintro((e|⟨j,m,k,q⟩)|⟨j,m,k,q⟩)
  .cases e
  .rw[q]at k;exact .inl ⟨bJ.2 ⟨j,m,q⟩,k⟩
  .rw[q]at k;exact .inr ⟨bJ.2 ⟨j,m,q⟩,k⟩
 .rintro(⟨m,k⟩|⟨m,k⟩)
  .have⟨j,r,e⟩:=bJ.1 m;exact .inl (.inr ⟨j,r,by rw[e];exact k,e⟩)
  .have⟨j,r,e⟩:=bJ.1 m;exact .inr ⟨j,r,by rw[e];exact k,e⟩
theorem TN{hasA hasB:Lf->Prop}(hA:∀i j,i<j->j<la.length->aY (gL la i) (gL la j)<0)(hB:∀i j,i<j->j<lb.length->aY (gL lb i) (gL lb j)<0)(hk:∀x∈la,hasA x)(hd:∀x y,iQ x=iQ y->(hasA x↔hasA y)):(rC la lb hasA hasB).Pairwise (λa b=>aY a b<0):=by
 unfold rC;refine Oo (Oo List.Pairwise.nil hA (λj _ _ y hy=>by cases hy) _ zL) hB (λj hj hP y hy e=>?_) _ zL;rcases uJ.1 hy with h|⟨i,k,_,m⟩
 .cases h
 .exact hP<|(hd _ _ e).1 (hk y (bJ.2 ⟨i,k,m⟩))
theorem uN:∀{a b:List Lf},a.Pairwise (λx y=>aY x y<0)->b.Pairwise (λx y=>aY x y<0)->(∀z,z∈a↔z∈b)->a=b
 |[],[],_,_,_=>rfl
 |[],y::_,_,_,h=>by have:=(h y).2 (Vf);cases this
 |x::_,[],_,_,h=>by have:=(h x).1 (Vf);cases this
 |x::r,y::s,ha,hb,h=>by
  have m:=List.pairwise_cons.1 ha;have q:=List.pairwise_cons.1 hb;have u:∀z:Lf,¬aY z z<0:=λz j=>oH ((Nk z z).1 j);have e:x=y:=by
   rcases List.mem_cons.1 ((h x).1 (Vf))with e|e
   .exact e
   .rcases List.mem_cons.1 ((h y).2 (Vf))with k|k
    .exact k.symm
    .exact absurd (Iy (m.1 y k) (q.1 x e))<|u x
  subst e;congr 1;refine uN m.2 q.2 λz=>?_;constructor
  .intro j;rcases List.mem_cons.1 ((h z).1 (Vg _ j))with e|e
   .subst e;exact absurd (m.1 z j)<|u z
   .exact e
  .intro j;rcases List.mem_cons.1 ((h z).2 (Vg _ j))with e|e
   .subst e;exact absurd (q.1 z j)<|u z
   .exact e
def eE(R F T:Nat->Int)(n:Nat)(l:List Lf):Prop:=(fQ R F T n/\n<=2000)/\l.length<=1000/\dB R F T n l l.length/\fK l l.length
theorem bG.w(h:bG R F T n l):eE R F T n l:=⟨by have:=dL.1 h.1;exact⟨this.1,oM⟩,h.2⟩
def cY(R F T:Nat->Int)(n:Nat)(x:Lf):Prop:=cE R F T x.r x.q x.q n=true
theorem Wp{y:Lf}(h:iQ x=iQ y):cY R F T n x↔cY R F T n y:=by
 have⟨_,_,j,k⟩:=U6 h;unfold cY;rw[j,k]
theorem FG{y:Lf}(h:aS x=aS y)(h0:0<x.p.length)(hd:(x.r,x.q)=(y.r,y.q))(hv:x.v=y.v):x=y:=by
 have⟨j,z⟩:=Nt h h0;have k:=Bu z;have m:x.r=y.r:=congrArg Prod.fst hd;have u:x.q=y.q:=congrArg Prod.snd hd;cases x;cases y;simp only at j k m u hv;subst j k m u hv;rfl
theorem Il(hd:fK l l.length){v:ByteArray}:Mk l l.length z d=Uq v↔∃x∈l,aS x=z/\(x.r,x.q)=d/\x.v=v:=by
 rw[Ik hd];constructor
 .rintro⟨j,y,k,m,u⟩;exact⟨gL l j,bJ.2 ⟨j,y,rfl⟩,k,m,u⟩
 .rintro⟨x,g,k,m,u⟩;have⟨j,h,e⟩:=bJ.1 g;exact⟨j,h,by rw[e];exact k,by rw[e];exact m,by rw[e];exact u⟩
theorem Ix(hd:fK l l.length){y:Lf}(hx:x∈l)(hy:y∈l)(h:x.r=y.r/\x.q=y.q):x=y:=by
 have⟨i,hi,k⟩:=bJ.1 hx;have⟨j,u,m⟩:=bJ.1 hy;rcases VL i j with e|e|e
 .have:=hd j u i e;exact absurd (by rw[k,m];exact h) this
 .subst e;rw[<-k,<-m]
 .have:=hd i hi j e;exact absurd (by rw[k,m];exact⟨h.1.symm,h.2.symm⟩) this
theorem Y4(h:l.Pairwise (λa b=>aY a b<0))(hij:i<j)(hj:j<l.length):aY (gL l i) (gL l j)<0:=by
 have:=List.pairwise_iff_getElem.1 h i j oM hj hij;have k:gL l i=l[i]:=by simp[gL,UL,show i<l.length by omega]
 have m:gL l j=l[j]:=by simp[gL,UL,hj]
 rw[k,m];exact this
section
variable {R F T : Nat-> Int}{n : Nat}{la : List Lf}{R' F' T' : Nat-> Int}{n' : Nat}{lb : List Lf}
noncomputable def jn(R F T:Nat->Int)(n:Nat)(la:List Lf)(R' F' T':Nat->Int)(n':Nat)(lb:List Lf):List Lf:=rC la lb (cY R F T n) (cY R' F' T' n')
theorem oG(h:eE R F T n la)(h':eE R' F' T' n' lb):(jn R F T n la R' F' T' n' lb).Pairwise (λa b=>aY a b<0):=
 TN (λi j h1 h2=>h.2.2.1.lt j h1 h2) (λi j h1 h2=>h'.2.2.1.lt j h1 h2) (λx hx=>by
  have⟨j,k,e⟩:=bJ.1 hx;have:=(h.2.2.1 j k).2.1;rw[e]at this;exact this) (λx y e=>Wp e)
theorem yW(z:Lf)(hz:z∈jn R F T n la R' F' T' n' lb):z∈la\/(z∈lb/\¬cY R F T n z):=by
 rcases uC.1 hz with h|h
 .exact .inl h.1
 .exact .inr h
theorem yJ(h:eE R F T n la)(h':eE R' F' T' n' lb):fK (jn R F T n la R' F' T' n' lb) (jn R F T n la R' F' T' n' lb).length:=λi hi j u hh=>by
 have g:=Y4 (oG h h') u hi;have m:=yW _ (bJ.2 ⟨j,oM,rfl⟩:gL (jn R F T n la R' F' T' n' lb) j∈_);have k:=yW _ (bJ.2 ⟨i,hi,rfl⟩:gL (jn R F T n la R' F' T' n' lb) i∈_);have v:∀z∈la,cY R F T n z:=λz hz=>by
  have⟨j,u,e⟩:=bJ.1 hz;have:=(h.2.2.1 j u).2.1;rw[e]at this;exact this
 have same:∀{x y:Lf},x.r=y.r/\x.q=y.q->(cY R F T n x↔cY R F T n y):=fun{x y} e=>by unfold cY;rw[e.1,e.2]
 have b:∀z:Lf,¬aY z z<0:=λz hz=>oH ((Nk z z).1 hz);have e:gL (jn R F T n la R' F' T' n' lb) j=gL (jn R F T n la R' F' T' n' lb) i:=by
  rcases m with m|⟨m,o⟩
  .rcases k with k|⟨k,t⟩
   .exact Ix h.2.2.2 m k hh
   .exact absurd ((same hh).1 (v _ m)) t
  .rcases k with k|⟨k,t⟩
   .exact absurd ((same hh).2 (v _ k)) o
   .exact Ix h'.2.2.2 m k hh
 rw[e]at g;exact b _ g
theorem Qb{U V X:Nat->Int}{m:Nat}(h:eE R F T n la)(h':eE R' F' T' n' lb)(hu:∀z:Lf,cY R F T n z\/cY R' F' T' n' z->cY U V X m z):dB U V X m (jn R F T n la R' F' T' n' lb) (jn R F T n la R' F' T' n' lb).length:=λi hi=>by
 have r:=oG h h';have k:=yW _ (bJ.2 ⟨i,hi,rfl⟩:gL (jn R F T n la R' F' T' n' lb) i∈_);refine⟨?_,?_,λh0=>Y4 r oM hi⟩
 .rcases k with k|⟨k,_⟩
  .have⟨j,q,e⟩:=bJ.1 k;rw[<-e];exact(h.2.2.1 j q).1
  .have⟨j,q,e⟩:=bJ.1 k;rw[<-e];exact(h'.2.2.1 j q).1
 .refine hu _ ?_;rcases k with k|⟨k,_⟩
  .have⟨j,q,e⟩:=bJ.1 k;refine .inl ?_;have:=(h.2.2.1 j q).2.1;rw[e]at this;exact this
  .have⟨j,q,e⟩:=bJ.1 k;refine .inr ?_;have:=(h'.2.2.1 j q).2.1;rw[e]at this;exact this
theorem LM(h:eE R F T n la)(h':eE R' F' T' n' lb)(z:List Ky)(d:Dt)(v:ByteArray):
  Mk (jn R F T n la R' F' T' n' lb) (jn R F T n la R' F' T' n' lb).length z d=Uq v↔(Mk la la.length z d=Uq v/\(Mk lb lb.length z d=Uq v\/cE R' F' T' d.1 d.2 d.2 n'=false))\/(Mk lb lb.length z d=Uq v/\cE R F T d.1 d.2 d.2 n=false):=by
 have A:∀b:Bool,¬b=true↔b=false:=λb=>by cases b<;>simp
 rw[Il (yJ h h'),Il h.2.2.2,Il h'.2.2.2];constructor
 .rintro⟨x,i,m,k,u⟩;have t:x.r=d.1:=congrArg Prod.fst k;have o:x.q=d.2:=congrArg Prod.snd k;rcases uC.1 i with⟨E,s⟩|⟨E,s⟩
  .refine .inl ⟨⟨x,E,m,k,u⟩,s.imp (λg=>⟨x,g,m,k,u⟩) (λg=>?_)⟩;unfold cY at g;rw[t,o]at g;exact(A _).1 g
  .refine .inr ⟨⟨x,E,m,k,u⟩,?_⟩;unfold cY at s;rw[t,o]at s;exact(A _).1 s
 .rintro(⟨⟨x,i,m,k,u⟩,g⟩|⟨⟨x,i,m,k,u⟩,g⟩);all_goals have t:x.r=d.1:=congrArg Prod.fst k;have o:x.q=d.2:=congrArg Prod.snd k
  .have M:0<x.p.length:=by
    have⟨j,O,e⟩:=bJ.1 i;have:=(h.2.2.1 j O).1.1.1;rw[e]at this;omega
   refine⟨x,uC.2 (.inl ⟨i,?_⟩),m,k,u⟩;rcases g with⟨y,Q,U,V,Y⟩|g
   .have:x=y:=FG (m.trans U.symm) M (k.trans V.symm) (u.trans Y.symm);rw[this];exact .inl Q
   .refine .inr ?_;unfold cY;rw[t,o];exact(A _).2 g
  .refine⟨x,uC.2 (.inr ⟨i,?_⟩),m,k,u⟩;unfold cY;rw[t,o];exact(A _).2 g
end
def jC(N N1:List Ky->Option (Nat×Nat))(k:Ky):List Ky->Option (Nat×Nat)
 |[]=>N []
 |y::r=>if y=k then N1 r else N (y::r)
def nM(M M1:List Ky->Dt->Option ByteArray)(k:Ky):List Ky->Dt->Option ByteArray
 |[]=>M []
 |y::r=>if y=k then M1 r else M (y::r)
def Pe(N N1:List Ky->Option (Nat×Nat)):Prop:=∀p q x y,N p=Uq x->N1 q=Uq y->x.1≠y.1/\x.1≠y.2/\x.2≠y.1/\x.2≠y.2
section
variable {w w' : Ur}{B c : Nat}{N N1 : List Ky-> Option (Nat × Nat)}{M M1 : List Ky-> Dt-> Option ByteArray}
theorem bB.hang{x0 x1:Nat×Nat}{k:Ky}(h:bB w B N M c)(h1:bB w B N1 M1 c)(hN:N []=Uq x0)(hN1:N1 []=Uq x1)(hap:Pe N N1)(hg:w.grownBy w' (Uq x0.1))(hm:aO w' 175 aP bE x0.1 (c+1) (λy=>if y=k then Uq x1 else N [y])):bB w' B (jC N N1 k) (nM M M1 k) (c+1):=by
 have A:∀p x,N p=Uq x->p≠[]->w'.1[x.1]? =w.1[x.1]? :=λp x hx hp=>hg.block _ (h.lt hx).1 (λe=>hp ((h.apart p [] x x0 hx hN).2.1 (by injection e)));have b:∀p x,N p=Uq x->w'.1[x.2]? =w.1[x.2]? :=λp x hx=>hg.block _ (h.lt hx).2 (λe=>(h.apart [] p x0 x hN hx).1 (by injection e with e;exact e.symm));have i:∀p x,N1 p=Uq x->w'.1[x.1]? =w.1[x.1]? /\w'.1[x.2]? =w.1[x.2]? :=λp x hx=>by
  have a:=hap [] p x0 x hN hx;exact⟨hg.block _ (h1.lt hx).1 (λe=>a.1 (by injection e with e;exact e.symm)),hg.block _ (h1.lt hx).2 (λe=>a.2.1 (by injection e with e;exact e.symm))⟩
 have g:∀p x,jC N N1 k p=Uq x->(p=[]/\x=x0)\/(∃r,p=k::r/\N1 r=Uq x)\/(∃y r,p=y::r/\y≠k/\N (y::r)=Uq x):=λp x hx=>by
  cases p with
  |nil=>exact .inl ⟨rfl,by simp only[jC]at hx;rw[hN]at hx;exact(Option.some.inj hx).symm⟩
  |cons y r=>
   simp only[jC]at hx;by_cases e:y=k
   .rw[if_pos e]at hx;exact .inr (.inl ⟨r,by rw[e],hx⟩)
   .rw[if_neg e]at hx;exact .inr<|.inr ⟨y,r,rfl,e,hx⟩
 refine⟨λp x hx=>?_,λp x hx=>?_,λp q x y hx hy=>?_,λp x hx=>?_,λp hp=>?_,λp y hp=>?_⟩
 .rcases g p x hx with⟨rfl,rfl⟩|⟨r,rfl,j⟩|⟨y,r,rfl,t,j⟩
  .refine hm.ext λy=>?_;show(if y=k then Uq x1 else N [y])=jC N N1 k [y];simp only[jC];by_cases e:y=k
   .rw[if_pos e,if_pos e,hN1]
   .rw[if_neg e,if_neg e]
  .refine(((h1.kids r x j).same (i r x j).1).mono (UD _)).ext λz=>?_;show N1 (r++[z])=jC N N1 k (k::(r++[z]));simp[jC]
  .refine(((h.kids _ x j).same (A _ x j oP)).mono (UD _)).ext λz=>?_;show N (y::r++[z])=jC N N1 k (y::(r++[z]));simp[jC,t]
 .rcases g p x hx with⟨rfl,rfl⟩|⟨r,rfl,j⟩|⟨y,r,rfl,t,j⟩
  .exact((h.marks [] x hN).same (b [] x hN)).mono (UD _)
  .refine(((h1.marks r x j).same (i r x j).2).mono (UD _)).ext λd=>?_;simp[nM]
  .refine(((h.marks _ x j).same (b _ x j)).mono (UD _)).ext λd=>?_;simp[nM,t]
 .rcases g p x hx with⟨rfl,rfl⟩|⟨r,rfl,j⟩|⟨u,r,rfl,t,j⟩;all_goals rcases g q y hy with⟨rfl,rfl⟩|⟨s,rfl,m⟩|⟨v,s,rfl,o,m⟩
  .exact h.apart [] [] _ _ hN hN
  .have a:=hap [] s x y hN m;exact⟨a.2.1,λe=>absurd e a.1,λe=>absurd e a.2.2.2⟩
  .exact h.apart [] _ _ _ hN m
  .have a:=hap [] r y x hN j;exact⟨λe=>a.2.2.1 e.symm,λe=>absurd e.symm a.1,λe=>absurd e.symm a.2.2.2⟩
  .have a:=h1.apart r s x y j m;exact⟨a.1,λe=>by rw[a.2.1 e],λe=>by rw[a.2.2 e]⟩
  .have a:=hap _ r y x m j;exact⟨λe=>a.2.2.1 e.symm,λe=>absurd e.symm a.1,λe=>absurd e.symm a.2.2.2⟩
  .exact h.apart _ [] _ _ j hN
  .have a:=hap _ s x y j m;exact⟨a.2.1,λe=>absurd e a.1,λe=>absurd e a.2.2.2⟩
  .exact h.apart _ _ _ _ j m
 .rcases g p x hx with⟨rfl,rfl⟩|⟨r,rfl,j⟩|⟨y,r,rfl,t,j⟩
  .exact h.lo [] _ hN
  .exact h1.lo r x j
  .exact h.lo _ x j
 .cases p with
  |nil=>simp only[jC]at hp;rw[hN]at hp;cases hp
  |cons y r=>
   simp only[jC]at hp;by_cases e:y=k
   .rw[if_pos e]at hp;show nM M M1 k (y::r)=_;simp only[nM];rw[if_pos e];exact h1.none' r hp
   .rw[if_neg e]at hp;show nM M M1 k (y::r)=_;simp only[nM];rw[if_neg e];exact h.none' _ hp
 .cases p with
  |nil=>simp only[jC]at hp;rw[hN]at hp;cases hp
  |cons z r=>
   simp only[jC,VX]at hp⊢;by_cases e:z=k
   .rw[if_pos e]at hp⊢;exact h1.up r y hp
   .rw[if_neg e]at hp⊢;exact h.up (z::r) y hp
theorem pE{Q:Prop}(h:Q:=by obtain⟨rfl,rfl⟩:=nil p x hx;obtain⟨rfl,rfl⟩:=nil q y hy;exact⟨hne,λ_=>rfl,λ_=>rfl⟩):Q:=h
theorem bB.new{x0:Nat×Nat}(hk:aO w 175 (α:=Ky) aP bE x0.1 0 (λ_=>Up))(hm:aO w 99 (α:=Dt) aX cH x0.2 0 (λ_=>Up))(hne:x0.1≠x0.2)(hB:B<=x0.1/\B<=x0.2):bB w B (λz=>if z=[] then Uq x0 else Up) (λ_ _=>Up) 0:=by
 have nil:∀(p:List Ky) (x:Nat×Nat),(if p=[] then Uq x0 else Up)=Uq x->p=[]/\x=x0:=λp x hx=>by
  by_cases e:p=[]
  .rw[if_pos e]at hx;exact⟨e,(Option.some.inj hx).symm⟩
  .rw[if_neg e]at hx;cases hx
 refine⟨λp x hx=>?_,λp x hx=>?_,λp q x y hx hy=>?_,λp x hx=>?_,λp hp=>rfl,λp y hp=>by rw[if_neg oP]⟩
 .obtain⟨rfl,rfl⟩:=nil p x hx;exact hk.ext λy=>oP
 .obtain⟨rfl,rfl⟩:=nil p x hx;exact hm.ext λd=>rfl
 .exact pE
 .obtain⟨rfl,rfl⟩:=nil p x hx;exact hB
end
noncomputable def mJ(J:List Lf)(z:List Ky)(K:Ky->Prop):List Ky->Dt->Option ByteArray
 |[]=>Mk J J.length z
 |y::r=>if yes (K y)=true then Mk J J.length (z++y::r)else λ_=>Up
def Ah(J:List Lf)(z:List Ky):Prop:=∃x∈J,z <+:aS x
structure JT(w:Ur)(B:Nat)(J:List Lf)(z:List Ky)(K:Ky->Prop)(N:List Ky->Option (Nat×Nat))(c:Nat)(x0:Nat×Nat):Prop where
 tre:bB w B N (mJ J z K) c
 root:N []=Uq x0
 there:∀y r,(N (y::r)).isSome=true↔K y/\Ah J (z++y::r)
structure JF(w:Ur)(B:Nat)(J:List Lf)(z:List Ky)(N:List Ky->Option (Nat×Nat))(c:Nat)(x0:Nat×Nat):Prop where
 tre:bB w B N (λr=>Mk J J.length (z++r)) c
 root:N []=Uq x0
 there:∀y r,(N (y::r)).isSome=true↔Ah J (z++y::r)
theorem JT.full{w:Ur}{K:Ky->Prop}{N:List Ky->Option (Nat×Nat)}(h:JT w B J z K N c x0)(hK:∀y,Ah J (z++[y])->K y):JF w B J z N c x0:=by
 have k:∀y r,Ah J (z++y::r)->Ah J (z++[y]):=λy r ⟨x,hx,hp⟩=>⟨x,hx,List.IsPrefix.trans (by rw[show z++y::r=(z++[y])++r by simp];exact Yf _ _) hp⟩;have m:mJ J z K=λr=>Mk J J.length (z++r):=by
  funext r;cases r with
  |nil=>simp[mJ]
  |cons y r=>
   simp only[mJ];by_cases e:K y
   .rw[if_pos (aN e)]
   .rw[if_neg (by rw[aJ e];simp)];funext d;cases hv:Mk J J.length (z++y::r) d with
    |none=>rfl
    |some v=>
     have⟨j,u,q,_⟩:=lT.1 (show Mk J J.length (z++y::r) d≠Up by rw[hv];simp);exact absurd (hK y (k y r ⟨gL J j,bJ.2 ⟨j,u,rfl⟩,by rw[q];exact Ya _⟩)) e
 exact⟨m▸h.tre,h.root,λy r=>(h.there y r).trans ⟨λg=>g.2,λg=>⟨hK y (k y r g),g⟩⟩⟩
theorem JT.hang{w:Ur}{K:Ky->Prop}{N N1:List Ky->Option (Nat×Nat)}{x1:Nat×Nat}(h:JT w B J z K N c x0)(h1:JF w B J (z++[y]) N1 c x1)(hy:¬K y)(ha:Ah J (z++[y]))(hap:Pe N N1)(hg:w.grownBy w' (Uq x0.1))(hm:aO w' 175 aP bE x0.1 (c+1) (λu=>if u=y then Uq x1 else N [u])):
  JT w' B J z (λu=>K u\/u=y) (jC N N1 y) (c+1) x0:=by
 have k:=h.tre.hang h1.tre h.root h1.root hap hg hm;have m:nM (mJ J z K) (λr=>Mk J J.length ((z++[y])++r)) y=mJ J z (λu=>K u\/u=y):=by
  funext r;cases r with
  |nil=>rfl
  |cons u r=>
   simp only[nM,mJ];by_cases e:u=y
   .rw[if_pos e,if_pos (aN (.inr e)),e];simp
   .rw[if_neg e];by_cases j:K u
    .rw[if_pos (aN j),if_pos (aN (.inl j))]
    .rw[if_neg (by rw[aJ j];simp),if_neg (by rw[aJ (λhh=>hh.elim j e)];simp)]
 rw[m]at k;refine⟨k,h.root,λu r=>?_⟩;simp only[jC];by_cases e:u=y
 .rw[if_pos e];cases r with
  |nil=>rw[h1.root,e];exact⟨λ_=>⟨.inr rfl,ha⟩,λ_=>rfl⟩
  |cons v r=>rw[h1.there v r,e];rw[show z++[y]++v::r=z++y::v::r by simp];exact⟨λg=>⟨.inr rfl,g⟩,λg=>g.2⟩
 .rw[if_neg e,h.there u r];exact⟨λg=>⟨.inl g.1,g.2⟩,λg=>⟨g.1.resolve_right e,g.2⟩⟩
theorem JT.skip{w:Ur}{K:Ky->Prop}{N:List Ky->Option (Nat×Nat)}(h:JT w B J z K N c x0)(hy:¬K y)(ha:¬Ah J (z++[y])):JT w B J z (λu=>K u\/u=y) N c x0:=by
 have t:∀r,¬Ah J (z++y::r):=λr ⟨x,hx,hp⟩=>ha ⟨x,hx,List.IsPrefix.trans (by rw[show z++y::r=(z++[y])++r by simp];exact Yf _ _) hp⟩;have o:mJ J z K=mJ J z (λu=>K u\/u=y):=by
  funext r;cases r with
  |nil=>rfl
  |cons u r=>
   simp only[mJ];by_cases k:K u
   .rw[if_pos (aN k),if_pos (aN (.inl k))]
   .rw[if_neg (by rw[aJ k];simp)];by_cases e:u=y
    .rw[if_pos (aN (.inr e))];funext d;cases hv:Mk J J.length (z++u::r) d with
     |none=>rfl
     |some v=>
      have⟨j,b,i,_⟩:=lT.1 (show Mk J J.length (z++u::r) d≠Up by rw[hv];simp);exact absurd ⟨gL J j,bJ.2 ⟨j,b,rfl⟩,by rw[i,e];exact Ya _⟩<|t r
    .rw[if_neg (by rw[aJ (λhh=>hh.elim k e)];simp)]
 refine⟨o▸h.tre,h.root,λu r=>?_⟩;rw[h.there u r];constructor
 .exact λg=>⟨.inl g.1,g.2⟩
 .rintro⟨m|m,q⟩
  .exact⟨m,q⟩
  .rw[m]at q;exact absurd q<|t r
theorem JF.bears{w:Ur}{N:List Ky->Option (Nat×Nat)}(h:JF w B J z N c x0):Ah J z↔(∃y,N [y]≠Up)\/∃d,Mk J J.length z d≠Up:=by
 constructor
 .rintro⟨x,k,u⟩;have⟨s,g⟩:=u;have⟨j,m,e⟩:=bJ.1 k;cases s with
  |nil=>exact .inr ⟨(x.r,x.q),lT.2 ⟨j,m,by rw[e,<-g];simp,by rw[e]⟩⟩
  |cons y s=>refine .inl ⟨y,λhn=>?_⟩;have:=(h.there y []).2 ⟨x,k,by rw[<-g,show z++y::s=(z++[y])++s by simp];exact Yf _ _⟩;rw[hn]at this;cases this
 .rintro(⟨y,b⟩|⟨d,i⟩)
  .have t:(N [y]).isSome=true:=by
    cases hv:N [y]with
    |none=>exact absurd hv b
    |some v=>rfl
   have⟨x,k,u⟩:=(h.there y []).1 t;exact⟨x,k,List.IsPrefix.trans (Yf _ _) u⟩
  .have⟨j,m,o,_⟩:=lT.1 i;exact⟨gL J j,bJ.2 ⟨j,m,rfl⟩,by rw[o];exact Ya _⟩
theorem JF.mono{w:Ur}{c':Nat}{N:List Ky->Option (Nat×Nat)}(h:JF w B J z N c x0)(hc:c<=c'):JF w B J z N c' x0:=⟨h.tre.mono hc,h.root,h.there⟩
noncomputable def iH(fa fb:Dt->Option ByteArray)(hb:Dt->Bool)(f:Dt->Option ByteArray):Dt->Option ByteArray:=λd=>
 match fa d with
 |some m=>if yes (hb d=false\/fb d=Uq m)=true then Uq m else f d
 |none=>f d
theorem Mz{fa fb:Dt->Option ByteArray}{hb:Dt->Bool}{f:Dt->Option ByteArray}{v:ByteArray}:iH fa fb hb f d=Uq v↔(fa d=Uq v/\(hb d=false\/fb d=Uq v))\/((∀m,fa d=Uq m->¬(hb d=false\/fb d=Uq m))/\f d=Uq v):=by
 unfold iH;cases hf:fa d with
 |none=>
  constructor
  .intro h;exact .inr ⟨λm hm=>(by cases hm),h⟩
  .rintro(⟨h,_⟩|⟨_,h⟩)
   .cases h
   .exact h
 |some m=>
  dsimp only;by_cases e:hb d=false\/fb d=Uq m
  .rw[if_pos (aN e)];constructor
   .intro h;cases h;exact .inl ⟨rfl,e⟩
   .rintro(⟨h,_⟩|⟨h,_⟩)
    .exact h
    .exact absurd e<|h m rfl
  .rw[if_neg (by rw[aJ e];simp)];constructor
   .intro h;exact .inr ⟨λm' hm=>by cases hm;exact e,h⟩
   .rintro(⟨h,j⟩|⟨_,h⟩)
    .cases h;exact absurd j e
    .exact h
section
variable {R F T : Nat-> Int}{n : Nat}{la : List Lf}{R' F' T' : Nat-> Int}{n' : Nat}{lb : List Lf}
theorem TH(h:eE R F T n la){z:List Ky}{d:Dt}{v:ByteArray}(hv:Mk la la.length z d=Uq v):cE R F T d.1 d.2 d.2 n=true:=by
 have⟨j,y,_,k⟩:=lT.1 (show Mk la la.length z d≠Up by rw[hv];simp);have:=(h.2.2.1 j y).2.1;have m:(gL la j).r=d.1:=congrArg Prod.fst k;have u:(gL la j).q=d.2:=congrArg Prod.snd k;rw[m,u]at this;exact this
theorem FI(h:eE R F T n la)(h':eE R' F' T' n' lb)(z:List Ky):
  iH (Mk lb lb.length z) (Mk la la.length z) (λd=>cE R F T d.1 d.2 d.2 n) (iH (Mk la la.length z) (Mk lb lb.length z) (λd=>cE R' F' T' d.1 d.2 d.2 n') (λ_=>Up))=Mk (jn R F T n la R' F' T' n' lb) (jn R F T n la R' F' T' n' lb).length z:=by
 funext d;have q:∀v,iH (Mk lb lb.length z) (Mk la la.length z) (λd=>cE R F T d.1 d.2 d.2 n) (iH (Mk la la.length z) (Mk lb lb.length z) (λd=>cE R' F' T' d.1 d.2 d.2 n') (λ_=>Up)) d=Uq v↔Mk (jn R F T n la R' F' T' n' lb) (jn R F T n la R' F' T' n' lb).length z d=Uq v:=λv=>by
  rw[Mz,Mz,LM h h'];constructor
  .rintro(⟨k,j|j⟩|⟨_,⟨k,j|j⟩|⟨_,g⟩⟩)
   .exact .inr ⟨k,j⟩
   .exact .inl ⟨j,.inl k⟩
   .exact .inl ⟨k,.inr j⟩
   .exact .inl ⟨k,.inl j⟩
   .cases g
  .rintro(⟨k,j|j⟩|⟨k,j⟩)
   .exact .inl ⟨j,.inr k⟩
   .refine .inr ⟨λm hm=>?_,.inl ⟨k,.inl j⟩⟩;have:=TH h' hm;rw[this]at j;cases j
   .exact .inl ⟨k,.inl j⟩
 cases hv:Mk (jn R F T n la R' F' T' n' lb) (jn R F T n la R' F' T' n' lb).length z d with
 |some v=>exact(q v).2 hv
 |none=>
  cases hk:iH (Mk lb lb.length z) (Mk la la.length z) (λd=>cE R F T d.1 d.2 d.2 n) (iH (Mk la la.length z) (Mk lb lb.length z) (λd=>cE R' F' T' d.1 d.2 d.2 n') (λ_=>Up)) d with
  |none=>rfl
  |some v=>have:=(q v).1 hk;rw[hv]at this;cases this
end
theorem JT.start{w:Ur}(hk:aO w 175 (α:=Ky) aP bE x0.1 0 (λ_=>Up))(hm:aO w 99 (α:=Dt) aX cH x0.2 c (Mk J J.length z))(hne:x0.1≠x0.2)(hB:B<=x0.1/\B<=x0.2):JT w B J z (λ_=>False) (λr=>if r=[] then Uq x0 else Up) c x0:=by
 have nil:∀(p:List Ky) (x:Nat×Nat),(if p=[] then Uq x0 else Up)=Uq x->p=[]/\x=x0:=λp x hx=>by
  by_cases e:p=[]
  .rw[if_pos e]at hx;exact⟨e,(Option.some.inj hx).symm⟩
  .rw[if_neg e]at hx;cases hx
 refine⟨⟨λp x hx=>?_,λp x hx=>?_,λp q x y hx hy=>?_,λp x hx=>?_,λp hp=>?_,λp y hp=>by rw[if_neg oP]⟩,if_pos rfl,λy r=>?_⟩
 .obtain⟨rfl,rfl⟩:=nil p x hx;exact(hk.mono (UB _)).ext λy=>oP
 .obtain⟨rfl,rfl⟩:=nil p x hx;exact hm
 .exact pE
 .obtain⟨rfl,rfl⟩:=nil p x hx;exact hB
 .cases p with
  |nil=>simp at hp
  |cons y r=>simp only[mJ];rw[if_neg (by rw[aJ (λh=>h)];simp)]
 .rw[if_neg oP];exact⟨λh=>(by cases h),λh=>h.1.elim⟩
noncomputable def fE(fa fb:Dt->Option ByteArray)(hb:Dt->Bool)(f:Dt->Option ByteArray)(ds:List Dt):Dt->Option ByteArray:=λd=>if yes (d∈ds)=true then iH fa fb hb f d else f d
section
variable {fa fb : Dt-> Option ByteArray}{hb : Dt-> Bool}{f : Dt-> Option ByteArray}{ds : List Dt}{d : Dt}{v : ByteArray}
theorem SA:fE fa fb hb f []=f:=by
 funext x;unfold fE;rw[if_neg (by rw[aJ oP];simp)]
theorem vH{Q:Prop}(h:Q:=by
 by_cases j:x∈ds
 .rw[if_pos (aN (by simp[j])),if_pos (aN j)]
 .rw[if_neg (by rw[aJ (by simp[e,j])];simp),if_neg (by rw[aJ j];simp)]):Q:=h
theorem Xu(hd:fa d=Uq v)(hk:hb d=false\/fb d=Uq v):fE fa fb hb f (ds++[d])=dE (fE fa fb hb f ds) d (Uq v):=by
 funext x;unfold fE dE;by_cases e:x=d
 .subst e;rw[if_pos (aN oP)];have:iH fa fb hb f x=Uq v:=Mz.2 (.inl ⟨hd,hk⟩);rw[this];simp
 .rw[if_neg e];dsimp only;exact vH
theorem Wk(hd:fa d=Uq v)(hn:d ∉ ds)(hk:¬(hb d=false\/fb d=Uq v)):fE fa fb hb f (ds++[d])=fE fa fb hb f ds:=by
 funext x;unfold fE;by_cases e:x=d
 .subst e;rw[if_pos (aN oP),if_neg (by rw[aJ hn];simp)];unfold iH;rw[hd];dsimp only;rw[if_neg (by rw[aJ hk];simp)]
 .exact vH
theorem QK(hk:iM fa ds):fE fa fb hb f ds=iH fa fb hb f:=by
 funext x;unfold fE;by_cases e:x∈ds
 .rw[if_pos (aN e)]
 .rw[if_neg (by rw[aJ e];simp)];have:fa x=Up:=by
   cases hv:fa x with
   |none=>rfl
   |some v=>exact absurd ((hk.2 x).2 (by rw[hv];simp)) e
  unfold iH;rw[this]
end
noncomputable def cW(J:List Lf)(z:List Ky):Nat:=(J.filter (λx=>yes (z <+:aS x))).length
noncomputable def mW(J:List Lf)(z:List Ky):Nat:=(J.filter (λx=>yes (aS x=z))).length
theorem Tb(f:Ky->Nat)(y:Ky):∀ks:List Ky,ks.Nodup->y∈ks->(ks.map λu=>f u+if u=y then 1 else 0).sum=(ks.map f).sum+1
 |[],_,h=>by cases h
 |a::r,hn,h=>by
  have j:=List.nodup_cons.1 hn;simp only[UQ,Yg];by_cases e:a=y
  .have m:(r.map λu=>f u+if u=y then 1 else 0)=r.map f:=Ye λu hu=>by
    have:u≠y:=λe2=>j.1 (by rw[e,<-e2];exact hu);rw[if_neg this];rfl
   rw[m,if_pos e];omega
  .have k:y∈r:=by
    rcases List.mem_cons.1 h with h|h
    .exact absurd h.symm e
    .exact h
   rw[Tb f y r j.2 k,if_neg e];omega
theorem Mp(f g:Ky->Nat)(ks:List Ky)(h:∀u∈ks,f u=g u):(ks.map f).sum=(ks.map g).sum:=by
 rw[Ye h]
theorem Ii(z:List Ky)(ks:List Ky)(hn:ks.Nodup):∀J:List Lf,(∀x∈J,∀y,z++[y] <+:aS x->y∈ks)->cW J z=mW J z+(ks.map λy=>cW J (z++[y])).sum
 |[],_=>by
  have:(ks.map λy=>cW [] (z++[y])).sum=0:=by
   have Q:∀ks:List Ky,(ks.map λy=>cW [] (z++[y])).sum=0:=λks=>by
    induction ks with
    |nil=>rfl
    |cons a r m=>simp only[UQ,Yg,m];rfl
   exact Q ks
  rw[this];rfl
 |x::J,h=>by
  have m:=Ii z ks hn J<|λu i=>h u (Vg _ i);have A:∀(P:Lf->Bool),((x::J).filter P).length=(J.filter P).length+if P x=true then 1 else 0:=λP=>by
   cases j:P x with
   |true=>simp[j]
   |false=>simp[j]
  have q:cW (x::J) z=cW J z+if yes (z <+:aS x)=true then 1 else 0:=A _;have v:mW (x::J) z=mW J z+if yes (aS x=z)=true then 1 else 0:=A _;have g:∀y,cW (x::J) (z++[y])=cW J (z++[y])+if yes (z++[y] <+:aS x)=true then 1 else 0:=λy=>A _;by_cases j:z <+:aS x
  .have⟨s,k⟩:=j;cases s with
   |nil=>
    have o:aS x=z:=k▸oP;have p:∀y,¬z++[y] <+:aS x:=λy hh=>by
     have:=hh.length_le;rw[o]at this;simp at this;omega
    rw[q,v,if_pos (aN (by rw[o];exact Ya _)),if_pos (aN o),m,Mp (λy=>cW (x::J) (z++[y])) (λy=>cW J (z++[y])) ks (λy _=>by rw[g y,if_neg (by rw[aJ (p y)];simp)];rfl)];omega
   |cons y s=>
    have M:z++[y] <+:aS x:=(by rw[<-k,show z++y::s=(z++[y])++s by simp];exact Yf _ _);have b:aS x≠z:=λe=>by
     have:=congrArg Yl (k.trans e);simp at this
    have only:∀u,z++[u] <+:aS x↔u=y:=λu=>by
     constructor
     .intro i;have⟨t,E⟩:=i;rw[<-k]at E;have:[u]++t=y::s:=List.append_cancel_left (by rw[<-Ve];exact E);injection this
     .intro e;rw[e];exact M
    rw[q,v,if_pos (aN ⟨y::s,k⟩),if_neg (by rw[aJ b];simp),m];have O:(ks.map λu=>cW (x::J) (z++[u])).sum=(ks.map λu=>cW J (z++[u])+if u=y then 1 else 0).sum:=Mp _ _ ks (λu _=>by
     rw[g u];by_cases e:u=y
     .rw[if_pos e,if_pos (aN ((only u).2 e))]
     .rw[if_neg e,if_neg (by rw[aJ (λhh=>e ((only u).1 hh))];simp)])
    rw[O,Tb (λu=>cW J (z++[u])) y ks hn (h x (Vf) y M)];omega
  .have b:aS x≠z:=λe=>j (by rw[e];exact Ya _);have p:∀y,¬z++[y] <+:aS x:=λy hh=>j (List.IsPrefix.trans (Yf _ _) hh);rw[q,v,if_neg (by rw[aJ j];simp),if_neg (by rw[aJ b];simp),m,Mp (λy=>cW (x::J) (z++[y])) (λy=>cW J (z++[y])) ks (λy _=>by rw[g y,if_neg (by rw[aJ (p y)];simp)];rfl)];omega
theorem GU(J:List Lf):cW J []=J.length:=by
 unfold cW;rw[List.filter_eq_self.2 (λx _=>aN Yk)]
section
variable {α β : Type}{w : Ur}{t : TypeId}{kv : α-> aB}{vo : Option β-> aB}{b c : Nat}{f : α-> Option β}{D : DataW aB}
theorem LL{es:List (Lit×DataW aB)}(hp:es.Pairwise (λp q=>p.1≠q.1))(hc:∀p∈es,∃x,keyOf prog t (kv x)=Uq p.1):∃k:List α,k.length=es.length/\k.Nodup/\(∀x,x∈k->∃p∈es,keyOf prog t (kv x)=Uq p.1)/\∀p∈es,∃x∈k,keyOf prog t (kv x)=Uq p.1:=by
 induction es with
 |nil=>exact⟨[],rfl,VU,λx m=>(by cases m),λp hp=>(by cases hp)⟩
 |cons p r ih=>
  have h:=List.pairwise_cons.1 hp;have⟨k,g,o,z,i⟩:=ih h.2 (λq j=>hc q (Vg _ j));have⟨x,m⟩:=hc p (Vf);refine⟨x::k,by simp[g],List.nodup_cons.2 ⟨λhm=>?_,o⟩,λy v=>?_,λq j=>?_⟩
  .have⟨q,j,e⟩:=z x hm;rw[m]at e;exact h.1 q j<|Option.some.inj e
  .rcases List.mem_cons.1 v with e|e
   .rw[e];exact⟨p,Vf,m⟩
   .have⟨q,j,u⟩:=z y e;exact⟨q,Vg _ j,u⟩
  .rcases List.mem_cons.1 j with e|e
   .rw[e];exact⟨x,Vf,m⟩
   .have⟨y,v,u⟩:=i q e;exact⟨y,Vg _ v,u⟩
theorem FM.size(h:FM w t kv vo b c f D)(K:Keyed prog t)(hi:∀x y,kv x=kv y->x=y){ks:List α}(hk:iM f ks):Maps.size D=ks.length:=by
 obtain⟨k,rfl,U,Q⟩:=h.own.entries K;have q:∀p∈k,has (DataW.map k) p.1=true:=λp j=>by
  rw[has_eq];exact List.any_eq_true.2 ⟨p,j,WideAt.sameKey_self (Q p j)⟩
 have⟨o,A,E,M,O⟩:=LL (t:=t) (kv:=kv) U (λp j=>h.cov p.1 (q p j));have i:∀x,x∈o->x∈ks:=λx hx=>by
  have⟨p,j,e⟩:=M x hx;refine(hk.2 x).2 λhn=>?_;have:=(h.at' x p.1 e).1;rw[q p j,hn]at this;cases this
 have G:Maps.size (DataW.map k)=k.length:=by simp[Maps.size]
 rw[G,<-A];have s:∀x,x∈ks->x∈o:=λx hx=>by
  have⟨g,u⟩:=h.ok x ((hk.2 x).1 hx);have r:=(h.at' x g u).1;have Y:(f x).isSome=true:=by
   cases hv:f x with
   |none=>exact absurd hv ((hk.2 x).1 hx)
   |some v=>rfl
  rw[Y,has_eq]at r;have⟨p,j,z⟩:=List.any_eq_true.1 r;have V:p.1=g:=by
   first
    |exact WideAt.sameKey_eq z
    |exact(WideAt.sameKey_eq z).symm
  have⟨y,Z,m⟩:=O p j;rw[V]at m;have:=hi _ _ (K.inj u m);rw[this];exact Z
 exact((List.perm_ext_iff_of_nodup E hk.1).2 (λx=>⟨i x,s x⟩)).length_eq
end
theorem RL(hd:fK J J.length):J.Pairwise (λx y=>((x.r,x.q):Dt)≠(y.r,y.q)):=by
 refine List.pairwise_iff_getElem.2 λi j hi hj hij e=>?_;have k:=hd j hj i hij;have m:gL J i=J[i]:=by simp[gL,UL,hi]
 have u:gL J j=J[j]:=by simp[gL,UL,hj]
 rw[m,u]at k;exact k ⟨congrArg Prod.fst e,congrArg Prod.snd e⟩
theorem Zs(hd:fK J J.length)(z:List Ky):iM (Mk J J.length z) ((J.filter (λx=>yes (aS x=z))).map λx=>((x.r,x.q):Dt)):=by
 refine⟨?_,λd=>?_⟩
 .rw[List.Nodup,List.pairwise_map];exact(RL hd).sublist List.filter_sublist
 .rw[Yb];constructor
  .rintro⟨x,t,e⟩;have u:=List.mem_filter.1 t;have⟨j,k,m⟩:=bJ.1 u.1;have g:aS x=z:=by
    refine Classical.byContradiction λhn=>?_;have:=u.2;rw[aJ hn]at this;cases this
   exact lT.2 ⟨j,k,by rw[m];exact g,by rw[m];exact e⟩
  .intro h;have⟨j,k,v,y⟩:=lT.1 h;exact⟨gL J j,List.mem_filter.2 ⟨bJ.2 ⟨j,k,rfl⟩,aN v⟩,y⟩
theorem SV(hd:fK J J.length){w:Ur}{D:DataW aB}(h:FM w 99 aX cH b c (Mk J J.length z) D):Maps.size D=mW J z:=by
 rw[h.size gX (λ_ _=>sL) (Zs hd z),List.length_map];rfl
def MO{α β:Type}(w:Ur)(t:TypeId)(kv:α->aB)(vo:Option β->aB)(mo:Option Nat)(c:Nat)(f:α->Option β):Prop:=
 match mo with
 |some b=>aO w t kv vo b c f
 |none=>∀x,f x=Up
def dV{α β:Type}(w:Ur)(t:TypeId)(kv:α->aB)(vo:Option β->aB)(mo:Option Nat)(r c:Nat)(f:α->Option β)(ds:List α)(cnt:Nat):Prop:=
 match mo with
 |some b=>∃D left,w.ranges prog t jR b r c D left cnt/\FM w t kv vo b c f D/\kR t kv f left ds/\ds.length+cnt<=Maps.size D
 |none=>w.1[r]? =Uq (.mapIter Up 0 #[] 0)/\ds=[]/\cnt=0/\∀x,f x=Up
section
variable {α β : Type}{w w' : Ur}{t : TypeId}{kv : α-> aB}{vo : Option β-> aB}{mo : Option Nat}{r c cnt : Nat}{f : α-> Option β}{ds : List α}
theorem MO.lt(h:MO w t kv vo mo c f):∀b,mo=Yu b->b<w.1.size:=λb e=>by subst e;exact aO.lt h
theorem MO.kept{row:Option Nat}(h:MO w t kv vo mo c f)(hg:w.grownBy w' row)(hne:∀b,mo=Yu b->row≠Yu b):MO w' t kv vo mo c f:=by
 cases mo with
 |none=>exact h
 |some b=>exact aO.same h (hg.block b (aO.lt h) (λe=>hne b rfl e.symm))
theorem MO.bw{B:Nat}(h:MO w t kv vo mo c f)(hb:Below B w w')(hne:∀b,mo=Yu b->b<B):MO w' t kv vo mo c f:=by
 cases mo with
 |none=>exact h
 |some b=>exact aO.same h (hb.block b (hne b rfl))
theorem dV.left_eq{b:Nat}(h:dV w t kv vo (Yu b) r c f ds cnt):w.rangeLeft b r=cnt:=by
 have⟨D,j,h,_⟩:=h;exact h.left_eq
theorem dV.lt(h:dV w t kv vo mo r c f ds cnt):r<w.1.size:=by
 cases mo with
 |none=>exact(Array.getElem?_eq_some_iff.1 h.1).1
 |some b=>have⟨D,j,h,_⟩:=h;exact h.lt
theorem dV.mlt(h:dV w t kv vo mo r c f ds cnt):∀b,mo=Yu b->b<w.1.size:=λb e=>by
 subst e;have⟨D,j,h,_⟩:=h;exact h.owns.lt
theorem dV.len(h:dV w t kv vo mo r c f ds cnt):ds.length+cnt<=c:=by
 cases mo with
 |none=>rw[h.2.1,h.2.2.1];simp
 |some b=>have⟨D,m,h,j,_,k⟩:=h;have:=h.owns.size_le;omega
theorem dV.kept{row:Option Nat}(h:dV w t kv vo mo r c f ds cnt)(hg:w.grownBy w' row)(hne:∀b,mo=Yu b->row≠Yu b)(hr:row≠Yu r):dV w' t kv vo mo r c f ds cnt:=by
 have q:=h.lt;cases mo with
 |none=>exact⟨(hg.block r q (λe=>hr e.symm)).trans h.1,h.2⟩
 |some b=>have⟨D,u,h,j,m⟩:=h;have k:=h.kept hg (λe=>hne b rfl e.symm)<|λe=>hr e.symm;exact⟨D,u,k,⟨k.owns,j.at',j.cov,j.ok⟩,m⟩
theorem dV.same(h:dV w t kv vo mo r c f ds cnt)(hg:∀b,mo=Yu b->w'.1[b]? =w.1[b]?)(hr:w'.1[r]? =w.1[r]?):dV w' t kv vo mo r c f ds cnt:=by
 cases mo with
 |none=>exact⟨hr.trans h.1,h.2⟩
 |some b=>have⟨D,m,⟨v,u,A,s,q,g,F,i,z,o,p⟩,j,y⟩:=h;have k:w'.ranges prog t jR b r c D m cnt:=⟨v,u,A,s,q,(hg b rfl).trans g,F,i,z,hr.trans o,p⟩;exact⟨D,m,k,⟨k.owns,j.at',j.cov,j.ok⟩,y⟩
end
theorem WY{w:Ur}{r:Nat}(h:w.1[r]? =Uq (.mapIter Up 0 #[] 0))(ty:TypeId):(Instr.next (Uk (Uc r)) false ty).run prog w=.ok (Ul #[Un false]) w:=by
 simp only[Instr.next,getObj,Sem.run_bind,Sem.run,h,Result.andThen];rfl
section
variable {α β : Type}{t : TypeId}{kv : α-> aB}{vo : Option β-> aB}{mo : Option Nat}{r c cnt : Nat}{f : α-> Option β}{ds : List α}
variable (w : Ur) {ops : Array Oper}{rest : List Oper}{o : Oper}{a : Act}{Q : Exit-> Act-> Ur-> Prop}
theorem uY(hg:o.guard=Up)(m:Operand)(mt:TypeId)(hop:o.op=Op.range mt m)(t e:TypeId)(K:Keyed prog t)(ht:prog.underlying mt=Uq (.map t e))(kv:α->aB)(vo:Option β->aB)(mo:Option Nat)(c:Nat)(f:α->Option β)
  (hm:a.eval m=.map mo) (h:MO w t kv vo mo c f)
  (hK:∀w' cnt,dV w' t kv vo mo w.1.size c f ([]:List α) cnt->w.grownBy w' Up->w'.1.size=w.1.size+1->wpList prog ops Q rest (a.put o.dst (Uk (Uc w.1.size))) w'):
  wpList prog ops Q (o::rest) a w:=by
 cases mo with
 |some b=>have⟨D,h⟩:=h;refine wpList_range_own w hg m mt hop t e K ht jR b c D hm h.own ?_;intro r k j q;exact hK r _ ⟨D,_,k,⟨k.owns,h.at',h.cov,h.ok⟩,kR.start h,oP⟩ j q
 |none=>refine wpList_plain hg λK' hK'=>?_;unfold Oper.wp;simp[execOp,hop,hm,run_range_nilMap w mt t e ht,Result.andThen];exact hK' _ _<|hK _ 0 ⟨heap_alloc_new w _,rfl,rfl,h⟩ (VA w _ Up) oP
theorem uV(hg:o.guard=Up)(it:Operand)(hop:o.op=Op.next it false)(t:TypeId)(K:Keyed prog t)(kv:α->aB)(hi:∀x y,kv x=kv y->x=y)(invK:∀key j,keyOf prog t key=Uq j->∃x,key=kv x)(vo:Option β->aB)(mo:Option Nat)(r c:Nat)(f:α->Option β)(ds:List α)(cnt:Nat)
  (hit:a.eval it=Uk (Uc r)) (h:dV w t kv vo mo r c f ds cnt)
  (hDone:iM f ds->wpList prog ops Q rest (a.put o.dst (Ul #[Un false])) w)
  (hMore:∀(x:α) (y:β) (w':Ur) (cnt' b:Nat),mo=Uq b->f x=Uq y->x ∉ ds->(∃j,keyOf prog t (kv x)=Uq j)->dV w' t kv vo mo r c f (ds++[x]) cnt'->cnt'<cnt->w.grownBy w' (Uq r)->w'.1.size=w.1.size->
   (Instr.entry (Uk (Uc r))).run prog w'=.ok (Ul #[kv x,vo (Uq y)]) w'->wpList prog ops Q rest (a.put o.dst (Ul #[Un true,kv x,vo (Uq y)])) w'):
  wpList prog ops Q (o::rest) a w:=by
 cases mo with
 |none=>refine wpList_plain hg λK' hK'=>?_;unfold Oper.wp;simp[execOp,hop,hit,WY h.1,Result.andThen];refine hK' _ _<|hDone ?_;rw[h.2.1];exact⟨VU,λx=>⟨λhx=>(by cases hx),λhx=>absurd (h.2.2.2 x) hx⟩⟩
 |some b=>
  have⟨D,L,G,k,u,N⟩:=h;refine wpList_next_ranges (α:=α) (β:=aB) w hg it hop t K jR kv id invK (λv _ _=>⟨v,rfl⟩) b r c D L cnt hit G (λh0 hl=>hDone (u.done k hl)) ?_;intro x v j y w1 E m p I g s Y U H O;have V:=has_true_of_atKey g;have i:=(k.at' x j m).1;rw[V]at i;obtain⟨z,A⟩:∃z,f x=Uq z:=by
   cases e:f x with
   |none=>rw[e]at i;cases i
   |some z=>exact⟨z,rfl⟩
  have J:v=vo (Uq z):=by
   have q:=(k.at' x j m).2;rw[g,A]at q;have M:=Du I;rw[M]at q;injection q
  subst J;have Z:x ∉ ds:=λhx=>by have:=(u.old x hx).2 j m;rw[p]at this;cases this
  exact hMore x z w1 E b rfl A Z ⟨j,m⟩ ⟨D,_,s,⟨s.owns,k.at',k.cov,k.ok⟩,u.step k K hi m p g,oS⟩ Y U H O
end
section
variable {α β : Type}{w w' : Ur}{t : TypeId}{kv : α-> aB}{vo : Option β-> aB}{mo : Option Nat}{r c cnt : Nat}{f : α-> Option β}{ds : List α}
theorem MO.look_ok{mt e:TypeId}(h:MO w t kv vo mo c f)(K:Keyed prog t)(ht:prog.underlying mt=Yu (.map t e))(hz:(zeroValue e).run prog w=.ok (vo Up) w){x:α}{kl:Lit}(hk:keyOf prog t (kv x)=Yu kl):
  (Instr.lookup mt (.map mo) (kv x) true).run prog w=.ok (Ul #[vo (f x),Un (f x).isSome]) w:=by
 cases mo with
 |some b=>exact aO.look_ok h K ht hz hk
 |none=>rw[h x];exact Maps.look_nil true K ht hz hk
end
theorem BE{kl:Lit}(h:keyOf prog 99 (aX (r,q))=Uq kl):(Lit.int Uh r).wf=true/\(Lit.int Uh q).wf=true:=by
 unfold keyOf at h;rw[underlying99]at h;simp only[Fg,Bool.true_and]at h;have z:0<prog.types.size:=of_decide_eq_true oK;obtain⟨m,y⟩:∃m,prog.types.size=m+1:=⟨prog.types.size-1,oM⟩;rw[y]at h;have u:prog.cellsOf 99=2:=oK;have v:prog.cellsOf 3=1:=oK;simp[aX,iE,Value.formed,underlying99,u,Program.keyLits,underlying3,v,Value.cells]at h;by_cases j:(Lit.int Uh r).wf=true
 .by_cases k:(Lit.int Uh q).wf=true
  .exact⟨j,k⟩
  .simp[j,k]at h
 .simp[j]at h
theorem CU:prog.fieldsOf 161=match prog.underlying 161 with|some (.struct fs)=>fs|_=>#[]:=rfl
theorem PG:prog.stoodInHeld 161=false:=oK
theorem MC(s s':ByteArray)(w:Ur):(binOp .eql 161 (Uo #[Um s]) (Uo #[Um s'])).run prog w=.ok (Un (s.toList==s'.toList)) w:=by
 rw[run_eql_struct,show(10000:Nat)=9999+1 from rfl,run_equalIn_agg _ _ _ _ _ oK PG,CU,underlying161];cases h1:(s.toList==s'.toList)<;>simp[Op.eqFields,go_sem,underlying9,h1]
theorem wN{Q:Prop}(h:Q:=by
 have L:=aC (G.kept Z (λb e h=>g.1 (by rw[e,h])) (λh=>by have p:=g.2.2.1;have h2:=Hn.out;injection h with h;omega));have O:aA (aO i 99 aX cH bj (c+(m++[(v,u)]).length) (fE fa fb hb f (m++[(v,u)]))):=aC (by rw[Q.out];simpa[UF]using B);have Hk:=aC<|J.trans Z;clear B Z;simp only[Act.put];go_roundw;case rel=>exact⟨_,_,L,O,Hk⟩
 case measure=>exact Hg i L):Q:=h
theorem vV{Q:Prop}(h:Q:=by
 have O:aA (aO D 99 aX cH bj (c+(m++[(v,u)]).length) (fE fa fb hb f (m++[(v,u)]))):=aC (by rw[Q.out];exact He.mono oP);go_wp2_with fail;go_roundw;case rel=>exact⟨_,_,G,O,J⟩
 case measure=>exact Hg D G):Q:=h
theorem Zu(ka ma kb mb kj na:Option Nat)(bj bm ca cb c:Nat)(fa fb f:Dt->Option ByteArray)(hb:Dt->Bool)(w:Ur)
  (hA:MO w 99 aX cH ma ca fa) (hB:MO w 99 aX cH mb cb fb) (hJ:aO w 99 aX cH bj c f) (hna:ma≠Uq bj) (hnb:mb≠Uq bj) (hc:c+ca<=1048576)
  (hH:∀w',w.grownBy w' (Uq bj)->∀r q H,keyOf prog 99 (aX (r,q))=Uq H->Cl 172 #[.map (Uq bm),Uo #[Ud r,Ud q]] w' λe w''=>e=Ui (Un (hb (r,q)))/\Bl w' w''):
  Cl 134 #[Uo #[.map ka,.map ma,.map na],Uo #[.map kb,.map mb,.map (Uq bm)],Uo #[.map kj,.map (Uq bj)]] w λe w'=>e=Ui (Ul #[])/\aO w' 99 aX cH bj (c+ca) (iH fa fb hb f)/\w.grownBy w' (Uq bj):=by
 generalize V:((w.alloc (Uj #[.map ka,.map ma,.map na] 111)).alloc (Uj #[.map kb,.map mb,.map (Uq bm)] 111)).alloc (Uj #[.map kj,.map (Uq bj)] 107)=W;have X:w.grownBy W (Uq bj):=V▸((VA w _ _).trans (VA _ _ _)).trans (VA _ _ _);have b0:Bl w W:=V▸((zO _ _).alloc oP _).alloc oS _;have X0:aH W w.1.size (.map ka) (.map ma) (.map na):=by
  rw[<-V];exact((aH.made w (.map ka) (.map ma) (.map na) 111).bw (zO _ _) (aH.made w (.map ka) (.map ma) (.map na) 111).lt).bw (zO _ _) oS
 have X1:aH W (w.1.size+1) (.map kb) (.map mb) (.map (Uq bm)):=by
  rw[<-V];have:=aH.made (w.alloc (Uj #[.map ka,.map ma,.map na] 111)) (.map kb) (.map mb) (.map (Uq bm)) 111;exact(by simpa using this:aH _ (w.1.size+1) _ _ _).bw (zO _ _) oP
 have X2:aD W (w.1.size+2) (.map kj) (.map (Uq bj)):=by
  rw[<-V];simpa using aD.made ((w.alloc (Uj #[.map ka,.map ma,.map na] 111)).alloc (Uj #[.map kb,.map mb,.map (Uq bm)] 111)) (.map kj) (.map (Uq bj)) 107
 have HA:=aC (hA.kept X (λb e h=>hna (by rw[e];exact h.symm)));have HB:=aC (hB.kept X (λb e h=>hnb (by rw[e];exact h.symm)));have HJ:=aC<|aO.same hJ (b0.block bj hJ.lt);have g:=aC (⟨hna,hnb,hJ.lt,hc⟩:ma≠Uq bj/\mb≠Uq bj/\bj<w.1.size/\c+ca<=1048576);have HH:=aC<|λw' (hg:W.grownBy w' (Uq bj))=>hH w' (X.trans hg);have Gi:=aC X;have H7:W.1.size=w.1.size+3:=V▸oP;have Hn:=aC H7;have N:=aC (⟨X1,X2⟩:aH W (w.1.size+1) (.map kb) (.map mb) (.map (Uq bm))/\aD W (w.1.size+2) (.map kj) (.map (Uq bj)));have k1:=X0.c1;clear hA hB hJ hna hnb hc hH X b0 X0 X1 X2 H7;go_enter func134,ntmps134;go_wp2_with (at_range;refine uY _ rfl _ 105 rfl 99 161 gX underlying105 aX cH ma ca fa rfl HA ?_;intro w0 Gm Hc Hq Gn);have Hx:aA (W.grownBy w0 (Uq bj)):=aC<|Hq.but _;have H0:aA (aO w0 99 aX cH bj (c+([]:List Dt).length) (fE fa fb hb f [])):=aC (by rw[SA];exact aO.same HJ (Hq.block bj HJ.lt oP));clear Hq Gn HJ HA k1 V;try go_frame
 go_loopw [] (λwr=>∃(m:List Dt) (Ho:Nat),dV wr 99 aX cH ma W.1.size ca fa m Ho/\aA (aO wr 99 aX cH bj (c+m.length) (fE fa fb hb f m))/\aA (W.grownBy wr (Uq bj))) (λwr=>wr.rangeLeft (ma.getD 0) W.1.size);case atStart=>exact⟨[],_,Hc,H0,Hx⟩
 case round=>
  clear Hc H0 Hx;have⟨m,Ho,Hh,Hl,Hz⟩:=hrel;have Ha:=aC Hh;go_wp2_with (at_next;refine uV _ rfl _ rfl 99 gX aX (λ_ _=>sL) (λkey H y=>Ze y) cH ma W.1.size ca fa m Ho rfl Hh ?_ ?_)
  .intro y;have HE:aA (aO wr 99 aX cH bj (c+ca) (iH fa fb hb f)):=aC (by rw[<-QK y];exact Hl.mono (oH Ha.len));have Gh:=aC<|Gi.trans Hz;clear y Hh;go_wp2_with fail;go_end0;exact⟨rfl,HE,Gh⟩
  .intro v u s E Hp b1 Gb H9 Gd H Ga Hd Hb Hr Go H8;have S:=aC H9;have H4:=aC Gd;have Hf:=aC Ga;have Hv:aA (c+m.length<maxLen):=aC (by have p:=Ha.len;have h2:=g.2.2.2;have h3:=Hb;unfold maxLen;omega);have Hg:aA (∀i,dV i 99 aX cH ma W.1.size ca fa (m++[(v,u)]) Hp->i.rangeLeft (ma.getD 0) W.1.size<wr.rangeLeft (ma.getD 0) W.1.size):=aC (λi h9=>by
    have p:=Ha.out;rw[Gb]at h9 p⊢;show i.rangeLeft b1 _<wr.rangeLeft b1 _;rw[h9.left_eq,p.left_eq];exact Hb)
   have Hy:aA (W.grownBy E (Uq bj)):=aC (Hz.andThen Hr (λj e=>by cases e;exact .inl zL));have H1:aA (aO E 99 aX cH bj (c+m.length) (fE fa fb hb f m)):=aC (aO.same Hl (Hr.block bj Hl.lt (λe=>by have p:=g.2.2.1;have h2:=Hn.out;injection e with e;omega)));have Hm:=aC Hd;clear H9 Gd Ga Hh Hd Hb Hr Go Gb;generalize Hj:(E.alloc (Uj #[Ud v,Ud u] 99)).alloc (Uj #[Um s] 161)=M;have U:Bl E M:=Hj▸aU _ _ _;have D6:aD M E.1.size (Ud v) (Ud u):=Hj▸(aD.made E _ _ _).allocs _;have M6:gO M (E.1.size+1) (Um s):=(by rw[<-Hj];simpa using gO.made (E.alloc (Uj #[Ud v,Ud u] 99)) (Um s) 161);have I:W.grownBy M (Uq bj):=Hy.andThen (row':=Up) ⟨U.os,U.tape,U.output,U.size,λk y _=>U.block k y⟩ (λj e=>by cases e);have o:∀k,w.1.size<=k->Uq k≠Uq bj:=λk y e=>by have p:=g.2.2.1;injection e with e;omega
   have o1:=I.cell N.1.c1<|o _ oP;have⟨d0,d1⟩:=D6.q2;have Hw:=aC D6;have H2:=aC M6;have Gj:=aC I;have Gf:=aC U;have Hs:=(HB.kept I (λb e h=>g.2.1 (by rw[e,h]))).look_ok gX underlying105 (Mn M) (x:=(v,u)) Hf;obtain⟨t,Gc,Ge⟩:∃t,cH (fb (v,u))=Uo #[Um t]/\((fb (v,u)=Up/\t=ByteArray.empty)\/fb (v,u)=Uq t):=by
    cases fb (v,u)with
    |none=>exact⟨_,rfl,.inl ⟨rfl,rfl⟩⟩
    |some t=>exact⟨t,rfl,.inr rfl⟩
   generalize A:(fb (v,u)).isSome=q;rw[Gc,A]at Hs;have Gk:=aC Ge;have H5:=aC A;clear Gc Ge A;dsimp only[aX,iE,cH]at H8 Hs⊢;clear U D6 M6 I o;generalize Ht:M.alloc (Uj #[Um t] 161)=w7;have b7:Bl M w7:=Ht▸zO _ _;have T7:gO w7 M.1.size (Um t):=Ht▸gO.made _ _ _;have T:aA (W.grownBy w7 (Uq bj)):=aC (Gj.andThen (row':=Up) ⟨b7.os,b7.tape,b7.output,b7.size,λk y _=>b7.block k y⟩ (λj e=>by cases e));have Gg:=aC<|aE Gf b7;have D7:=Hw.bw b7 Hw.lt;have M7:=H2.bw b7 H2.lt;have P:=aC D7;have H3:=aC M7;have H6:=aC T7;have Hu:=aC<|HH w7 T v u H Hf;have o:∀k,w.1.size<=k->Uq k≠Uq bj:=λk y e=>by have p:=g.2.2.1;injection e with e;omega
   have p2:=T.cell N.1.c2<|o _ oP;have⟨q0,q1⟩:=D7.q2;clear b7 T7 D7 M7 o;go_wp2_with fail;refine Hu.mono ?_;rintro e D⟨rfl,z⟩;have J:aA (W.grownBy D (Uq bj)):=aC (T.andThen (row':=Up) ⟨z.os,z.tape,z.output,z.size,λk y _=>z.block k y⟩ (λj e=>by cases e));have F:=aE Gg z;have He:=aC<|aO.same H1 (F.block bj H1.lt);have G:=aC<|Hm.same (λb e=>F.block b (Hm.mlt b e)) (F.block _ Hm.lt);have o:∀k,w.1.size<=k->Uq k≠Uq bj:=λk y e=>by have p:=g.2.2.1;injection e with e;omega
   have r1:=J.cell N.2.c1<|o _ oP;have s0:=(P.bw z P.lt).c0;have s1:=(P.bw z P.lt).c1;have s2:=(H3.bw z H3.lt).c0;have s3:=(H6.bw z H6.lt).c0;clear z F o Hs H8 o1 d0 d1 p2 q0 q1 Hj Ht Hu;cases hhb:hb (v,u)with
   |false=>have K:=aC hhb;clear hhb;have Q:aA (fE fa fb hb f (m++[(v,u)])=dE (fE fa fb hb f m) (v,u) (Uq s)):=aC<|Xu S (.inl K);go_wp2_with (refine Ag _ rfl _ _ _ 105 rfl 99 161 gX aX (λ_ _=>sL) underlying105 cH bj (c+m.length) (fE fa fb hb f m) rfl He Hv (v,u) s H rfl rfl Hf ?_;intro i B Z);exact wN
   |true=>
    rcases Gk.out with⟨Y,rfl⟩|Y;all_goals have A:=H5.out;rw[Y]at A;subst A;have R:=aC Y;clear Y;have K:=aC hhb
    .clear hhb;have Q:aA (fE fa fb hb f (m++[(v,u)])=fE fa fb hb f m):=aC (Wk S H4 (λh=>h.elim (λh=>by rw[K.out]at h;cases h) (λh=>by rw[R.out]at h;cases h)));exact vV
    .have EQ:∀w:Ur,(binOp .eql 161 (Uo #[Um t]) (Uo #[Um s])).run prog w=.ok (Un (t.toList==s.toList)) w:=λw=>MC t s w;clear hhb;by_cases Hi:t=s
     .subst Hi;have C:(t.toList==t.toList)=true:=oP;rw[C]at EQ;clear C;have Q:aA (fE fa fb hb f (m++[(v,u)])=dE (fE fa fb hb f m) (v,u) (Uq t)):=aC<|Xu S (.inr R);go_wp2_with (refine Ag _ rfl _ _ _ 105 rfl 99 161 gX aX (λ_ _=>sL) underlying105 cH bj (c+m.length) (fE fa fb hb f m) rfl He Hv (v,u) t H rfl rfl Hf ?_;intro i B Z);exact wN
     .have C:(t.toList==s.toList)=false:=(by simpa using λh=>Hi (sO h));have Gl:=aC Hi;rw[C]at EQ;clear C Hi;have Q:aA (fE fa fb hb f (m++[(v,u)])=fE fa fb hb f m):=aC (Wk S H4 (λh=>h.elim (λh=>by rw[K.out]at h;cases h) (λh=>by rw[R.out]at h;exact Gl (Option.some.inj h))));exact vV
theorem Sd(z:List Ky)(s:ByteArray)(k:Int)(kn:Option Nat)(B c:Nat)(N:List Ky->Option (Nat×Nat))(M:List Ky->Dt->Option ByteArray)(w:Ur)(kl:Lit)(hk:keyOf prog 175 (aP (s,k))=Uq kl)(hT:bB w B N M c):
  Cl 136 #[Uo #[.map (mF (N z)),.map (mS (N z)),.map kn],Uo #[Um s,Ud k]] w (Rt w (Uo #[.map (mF (N (z++[(s,k)]))),.map (mS (N (z++[(s,k)]))),.map kn])):=by
 have y:aA (∀w',Bl w w'->(Instr.lookup 104 (.map (mF (N z))) (Uo #[Um s,Ud k]) false).run prog w'=.ok (Uo #[.map (mF (N (z++[(s,k)]))),.map (mS (N (z++[(s,k)])))]) w'):=aC<|λw' b=>(hT.bw b).look z (s,k) hk;have⟨m,g⟩:=zE (mF (N z));have⟨r,E⟩:=zE (mS (N z));have⟨i,t⟩:=zE (mF (N (z++[(s,k)])));have⟨p,o⟩:=zE (mS (N (z++[(s,k)])));rw[g,t,o]at y;rw[g,E,t,o];have⟨W,u⟩:=zE (((w.alloc (Uj #[.map m,.map r,.map kn] 111)).alloc (Uj #[Um s,Ud k] 175)).alloc (Uj #[.map Up,.map Up,.map Up] 111));have j:Bl w W:=u▸((zO _ _).alloc oP _).alloc oS _;have h:aH W w.1.size (.map m) (.map r) (.map kn):=by
  rw[<-u];exact((aH.made w (.map m) (.map r) (.map kn) 111).bw (zO _ _) (aH.made w (.map m) (.map r) (.map kn) 111).lt).bw (zO _ _) oS
 have A:aD W (w.1.size+1) (Um s) (Ud k):=by
  rw[<-u];have:=aD.made (w.alloc (Uj #[.map m,.map r,.map kn] 111)) (Um s) (Ud k) 175;exact(by simpa using this:aD _ (w.1.size+1) _ _).bw (zO _ _) oP
 have q:aH W (w.1.size+1+1) (.map Up) (.map Up) (.map Up):=by
  rw[<-u];simpa using aH.made ((w.alloc (Uj #[.map m,.map r,.map kn] 111)).alloc (Uj #[Um s,Ud k] 175)) (.map Up) (.map Up) (.map Up) 111
 have Y:(Instr.lookup 104 (.map m) (Uo #[Um s,Ud k]) false).run prog W.drew=.ok (Uo #[.map i,.map p]) W.drew:=y _ ⟨j.os,j.tape,j.output,j.size,j.block⟩;have x0:=h.c0;have I:=h.c2;have⟨J,K⟩:=A.q2;have⟨L,X,C⟩:=q.q3;have Z:=q.f 0;have G:=q.f 1;have H:=q.f 2;have U:=aC j;have Q:=aC q;go_enter func136,ntmps136;go_wp2_with fail;go_region;have O:=aC<|Q.set (.map i) (.map p) (.map kn);go_wp2_with fail;have⟨V,r1,r2⟩:=O.q3;refine zF (v:=Uo #[.map i,.map p,.map kn]) (by simp[results,results136,go_sem,V,r1,r2]) ⟨rfl,?_⟩;exact(((U.setCell oS _).setCell oS _).setCell oS _).drew
def jV(g1:Ky->Option (Nat×Nat))(g2:Dt->Option ByteArray):Prop:=(∃y,g1 y≠Up)\/(∃d,g2 d≠Up)
theorem vX{Q:Prop}(h:Q:=by go_enter func135,ntmps135;go_wp2_with (refine Ag _ rfl _ _ _ 104 rfl 175 107 gH aP (λ_ _=>oB) underlying104 bE x0.1 c f rfl p b (s,k) x1 kl rfl rfl E ?_;intro m y v);have i:=aC (M m y v r);clear y v;go_end0;exact⟨rfl,i⟩):Q:=h
theorem Qg(x0 x1:Nat×Nat)(s:ByteArray)(k:Int)(c:Nat)(f g1:Ky->Option (Nat×Nat))(g2:Dt->Option ByteArray)(w:Ur)(kl:Lit)(hk:keyOf prog 175 (aP (s,k))=Uq kl)
  (hF:aO w 175 aP bE x0.1 c f) (h1:aO w 175 aP bE x1.1 c g1) (h2:aO w 99 aX cH x1.2 c g2) (hc:c<1048576):
  Cl 135 #[Uo #[.map (Uq x0.1),.map (Uq x0.2)],Uo #[Um s,Ud k],Uo #[.map (Uq x1.1),.map (Uq x1.2)]] w λe w'=>e=Ui (Ul #[])/\w.grownBy w' (Uq x0.1)/\
   (jV g1 g2->aO w' 175 aP bE x0.1 (c+1) (dE f (s,k) (Uq x1)))/\(¬jV g1 g2->Bl w w'):=by
 generalize g:((w.alloc (Uj #[.map (Uq x0.1),.map (Uq x0.2)] 107)).alloc (Uj #[Um s,Ud k] 175)).alloc (Uj #[.map (Uq x1.1),.map (Uq x1.2)] 107)=W;have j:Bl w W:=g▸((zO _ _).alloc oP _).alloc oS _;have Q:aD W w.1.size (.map (Uq x0.1)) (.map (Uq x0.2)):=by
  rw[<-g];exact((aD.made w (.map (Uq x0.1)) (.map (Uq x0.2)) 107).allocs _).allocs _
 have U:aD W (w.1.size+1) (Um s) (Ud k):=by
  rw[<-g];have:=aD.made (w.alloc (Uj #[.map (Uq x0.1),.map (Uq x0.2)] 107)) (Um s) (Ud k) 175;exact(by simpa using this:aD _ (w.1.size+1) _ _).allocs _
 have V:aD W (w.1.size+1+1) (.map (Uq x1.1)) (.map (Uq x1.2)):=by
  rw[<-g];simpa using aD.made ((w.alloc (Uj #[.map (Uq x0.1),.map (Uq x0.2)] 107)).alloc (Uj #[Um s,Ud k] 175)) (.map (Uq x1.1)) (.map (Uq x1.2)) 107
 have⟨t,J,K,Y⟩:=(aO.same h1 (j.block _ h1.lt)).len gH underlying104;have⟨o,L,N,Z⟩:=(aO.same h2 (j.block _ h2.lt)).len gX underlying105;have p:=aC<|aO.same hF (j.block _ hF.lt);have z:=aC<|And.intro Y Z;have A:aA (w.grownBy W (Uq x0.1)):=aC ⟨j.os,j.tape,j.output,j.size,λk hk _=>j.block k hk⟩;have G:=aC j;have b:aA (c<maxLen):=aC oL;have E:=aC hk;have C:=Q.c0;have⟨D,F⟩:=U.q2;have⟨P,R⟩:=V.q2;have X:(0:Int)<=(t:Int):=VH _;have B:(0:Int)<=(o:Int):=VH _;have O:∀m,aO m 175 aP bE x0.1 (c+1) (dE f (s,k) (Uq x1))->W.grownBy m (Uq x0.1)->jV g1 g2->w.grownBy m (Uq x0.1)/\
   (jV g1 g2->aO m 175 aP bE x0.1 (c+1) (dE f (s,k) (Uq x1)))/\(¬jV g1 g2->Bl w m):=λm h9 g9 hh=>⟨A.trans g9,λ_=>h9,λhn=>absurd hh hn⟩
 have M:=aC O;clear j Q U V hF h1 h2 hc hk Y Z O;by_cases q:0<t
 .have H:decide (0<t)=true:=oU q;have r:aA (jV g1 g2):=aC<|Or.inl (z.1.1 q);clear q;exact vX
 .obtain rfl:t=0:=oM;by_cases u:0<o
  .have I:decide (0<o)=true:=oU u;have r:aA (jV g1 g2):=aC<|Or.inr (z.2.1 u);clear q u;exact vX
  .obtain rfl:o=0:=oM;have r:aA (¬jV g1 g2):=aC<|λh=>Or.elim h (λh=>q (z.1.2 h)) (λh=>u (z.2.2 h));clear q u;go_enter func135,ntmps135;go_wp2_with fail;go_end0;exact⟨rfl,A,λh=>absurd h r,λ_=>G.out⟩
theorem Zi{w:Ur}{a:Us}(hg:w.grownBy w' row)(hlt:a.block<w.1.size)(hne:Uq a.block≠row):w'.frozen? a=w.frozen? a:=by
 unfold Yt;rw[hg.block a.block hlt hne]
theorem aH.gr{w:Ur}(h:aH w b v0 v1 v2)(hg:w.grownBy w' row)(hr:∀k,row=Uq k->k≠b):aH w' b v0 v1 v2:=
 have j:Uq b≠row:=λe=>hr b e.symm rfl
 ⟨hg.cell h.c0 j,hg.cell h.c1 j,hg.cell h.c2 j,λi=>(Zi hg h.lt j).trans (h.f i),Ut h.lt hg.size⟩
theorem aD.gr{w:Ur}(h:aD w b v0 v1)(hg:w.grownBy w' row)(hr:∀k,row=Uq k->k≠b):aD w' b v0 v1:=
 have j:Uq b≠row:=λe=>hr b e.symm rfl
 ⟨hg.cell h.c0 j,hg.cell h.c1 j,λi=>(Zi hg h.lt j).trans (h.f i),Ut h.lt hg.size⟩
theorem sR{w:Ur}(b:Bl w w')(row:Option Nat):w.grownBy w' row:=⟨b.os,b.tape,b.output,b.size,λk hk _=>b.block k hk⟩
structure JB(w:Ur)(s t:Nat)(a0 a1 a2 b0 b1 b2:Option Nat)(x0:Nat×Nat):Prop where
 a:aH w s (.map a0) (.map a1) (.map a2)
 b:aH w (s+1) (.map b0) (.map b1) (.map b2)
 r:aD w (s+1+1) (.map Up) (.map Up)
 j:aD w t (.map (Uq x0.1)) (.map (Uq x0.2))
section
variable {w w' : Ur}{s t : Nat}{a0 a1 a2 b0 b1 b2 : Option Nat}{x0 : Nat × Nat}
theorem JB.gr{row:Option Nat}(h:JB w s t a0 a1 a2 b0 b1 b2 x0)(hg:w.grownBy w' row)(hr:∀k,row=Uq k->k≠s/\k≠s+1/\k≠s+1+1/\k≠t):JB w' s t a0 a1 a2 b0 b1 b2 x0:=
 ⟨h.a.gr hg (λk e=>(hr k e).1),h.b.gr hg (λk e=>(hr k e).2.1),h.r.gr hg (λk e=>(hr k e).2.2.1),h.j.gr hg (λk e=>(hr k e).2.2.2)⟩
theorem JB.bw(h:JB w s t a0 a1 a2 b0 b1 b2 x0)(hb:Bl w w'):JB w' s t a0 a1 a2 b0 b1 b2 x0:=h.gr (sR hb Up) (λk e=>by cases e)
end
section
variable {w w' : Ur}{B c : Nat}{N : List Ky-> Option (Nat × Nat)}{M : List Ky-> Dt-> Option ByteArray}
theorem bB.lower{B':Nat}(h:bB w B N M c)(hB:B'<=B):bB w B' N M c:=⟨h.kids,h.marks,h.apart,λp x hx=>by have:=h.lo p x hx;omega,h.none',h.up⟩
theorem bB.mo_marks(h:bB w B N M c)(z:List Ky):MO w 99 aX cH (mS (N z)) c (M z):=by
 cases e:N z with
 |none=>exact λx=>by rw[h.none' z e]
 |some x=>exact h.marks z x e
theorem bB.mo_kids(h:bB w B N M c)(z:List Ky):MO w 175 aP bE (mF (N z)) c (λy=>N (z++[y])):=by
 cases e:N z with
 |none=>exact λx=>h.up z x e
 |some x=>exact h.kids z x e
end
section
variable {w w' : Ur}{B c : Nat}{J : List Lf}{z : List Ky}{K : Ky-> Prop}{N N1 : List Ky-> Option (Nat × Nat)}{x0 x1 : Nat × Nat}
theorem JT.congr{K':Ky->Prop}(h:JT w B J z K N c x0)(hK:∀u,K u↔K' u):JT w B J z K' N c x0:=by
 have:K=K':=funext λu=>propext (hK u);rw[<-this];exact h
theorem JT.mono{c':Nat}(h:JT w B J z K N c x0)(hc:c<=c'):JT w B J z K N c' x0:=⟨h.tre.mono hc,h.root,h.there⟩
theorem JT.bw(h:JT w B J z K N c x0)(hb:Bl w w'):JT w' B J z K N c x0:=⟨h.tre.bw hb,h.root,h.there⟩
theorem JT.kept'{r:Nat}(h:JT w B J z K N c x0)(hg:w.grownBy w' (Uq r))(hr:∀k j,w.1[r]? ≠Uq (.map k j)):JT w' B J z K N c x0:=
 ⟨h.tre.same λp x hx=>⟨hg.block _ (h.tre.lt hx).1 (λe=>by have⟨k,j,m⟩:=(h.tre.kids p x hx).obj;injection e with e;rw[e]at m;exact hr k j m),hg.block _ (h.tre.lt hx).2 (λe=>by have⟨k,j,m⟩:=(h.tre.marks p x hx).obj;injection e with e;rw[e]at m;exact hr k j m)⟩,h.root,h.there⟩
theorem JT.round{w8 w9 w10:Ur}{y:Ky}(h:JT w8 B J z K N c x0)(b9:Bl w8 w9)(h1:JF w9 w8.1.size J (z++[y]) N1 c x1)(hB:B<=w8.1.size)(hy:¬K y)(hg:w9.grownBy w10 (Uq x0.1))
  (hm:jV (λu=>N1 [u]) (Mk J J.length (z++[y]))->aO w10 175 aP bE x0.1 (c+1) (dE (λu=>N [u]) y (Uq x1))) (hn:¬jV (λu=>N1 [u]) (Mk J J.length (z++[y]))->Bl w9 w10):
  ∃N',JT w10 B J z (λu=>K u\/u=y) N' (c+1) x0:=by
 by_cases e:jV (λu=>N1 [u]) (Mk J J.length (z++[y]))
 .refine⟨_,(h.bw b9).hang ⟨h1.tre.lower hB,h1.root,h1.there⟩ hy (h1.bears.2 e) (λp q a b ha hb=>?_) hg ((hm e).ext λu=>?_)⟩
  .have j:=h.tre.lt ha;have k:=h1.tre.lo q b hb;omega
  .unfold dE;by_cases e:u=y<;>simp[e]
 .exact⟨N,((h.bw b9).skip hy (λha=>e (h1.bears.1 ha))).bw (hn e)|>.mono (UD _)⟩
end
theorem JB.sees{w:Ur}{s t u:Nat}{a0 a1 a2 b0 b1 b2:Option Nat}{ks:ByteArray}{kk:Int}(h:JB w s t a0 a1 a2 b0 b1 b2 x0)(hk:aD w u (Um ks) (Ud kk)):
  w.cell? (Ub t)=Uq (.map (Uq x0.1))/\w.cell? (Ua t 1)=Uq (.map (Uq x0.2))/\w.cell? (Ub u)=Uq (Um ks)/\w.cell? (Ua u 1)=Uq (Ud kk)/\w.cell? (Ub s)=Uq (.map a0)/\w.cell? (Ua s 1)=Uq (.map a1)/\w.cell? (Ua s 2)=Uq (.map a2)/\w.cell? (Ua (s+1) 0)=Uq (.map b0)/\w.cell? (Ua (s+1) 1)=Uq (.map b1)/\w.cell? (Ua (s+1) 2)=Uq (.map b2):=
 ⟨h.j.c0,h.j.c1,hk.c0,hk.c1,h.a.c0,h.a.c1,h.a.c2,h.b.c0,h.b.c1,h.b.c2⟩
theorem FQ(h:k<l.length):l.take (k+1)=l.take k++[gL l k]:=by
 rw[Vc];simp[gL,UL,h]
noncomputable def pQ(M:List Ky->Dt->Option ByteArray)(z:Lf):List Ky->Dt->Option ByteArray:=mO M (aS z) (z.r,z.q) z.v
theorem Wj(l:List Lf):∀k,k<=l.length->Mk l k=(l.take k).foldl pQ (λ_ _=>Up)
 |0,_=>by simp[Mk]
 |k+1,h=>by
  rw[FQ oM,Ym,<-Wj l k oM];rfl
theorem tT(l:List Lf):Mk l l.length=l.foldl pQ (λ_ _=>Up):=by
 rw[Wj l _ zL,Vj]
theorem C4{q:List Ky}:∀(m:List Lf) (M:List Ky->Dt->Option ByteArray),(∀z∈m,aS z≠q)->(m.foldl pQ M) q=M q
 |[],M,_=>rfl
 |z::m,M,h=>by
  rw[VQ,C4 m _ (λy hy=>h y (Vg _ hy))];exact sN _ _ _<|Ne.symm (h z (Vf ..))
theorem Qo{q:List Ky}:∀(m:List Lf) (M M':List Ky->Dt->Option ByteArray),M q=M' q->(m.foldl pQ M) q=(m.foldl pQ M') q
 |[],M,M',h=>h
 |z::m,M,M',h=>by
  rw[VQ,VQ];refine Qo m _ _ ?_;unfold pQ;by_cases e:q=aS z
  .subst e;rw[uQ,uQ,h]
  .rw[sN _ _ _ e,sN _ _ _ e,h]
theorem To{q:List Ky}:∀(m:List Lf) (M:List Ky->Dt->Option ByteArray),(∀z∈m,aS z=q)->(m.foldl pQ M) q=m.foldl (λg z=>dE g (z.r,z.q) (Uq z.v)) (M q)
 |[],M,_=>rfl
 |z::m,M,h=>by
  rw[VQ,VQ,To m _ (λy hy=>h y (Vg _ hy))];have e:=h z<|Vf ..;congr 1;unfold pQ;rw[e,uQ]
theorem W7{q:List Ky}(h:∀z∈m,aS z≠q):Mk (l++m) (l++m).length q=Mk l l.length q:=by
 rw[tT,tT,Ym,C4 m _ h]
theorem RX{q:List Ky}(h:∀z∈l,aS z≠q):Mk (l++m) (l++m).length q=Mk m m.length q:=by
 rw[tT,tT,Ym];exact Qo m _ _<|C4 l _ h
theorem IG{q:List Ky}(h:∀z∈l,aS z=q):Mk l l.length q=pR l:=by
 rw[tT,To l _ h];rfl
theorem OR{q:List Ky}(h:∀z∈l,aS z≠q):Mk l l.length q=λ_=>Up:=by
 rw[tT,C4 l _ h]
theorem AA(p:List ByteArray)(s:ByteArray)(k:Int):aG (p++[s]) k=aG p 3++[(s,k)]:=by
 unfold aG;rw[UM,Yc,Yd,UN];congr 1
 .refine Ye λi hi=>?_;have hi:=List.mem_range.1 hi;rw[if_pos oM];have e:gS (p++[s]) i=gS p i:=by simp[gS,UL,Yn hi]
  rw[e];by_cases h:i+1<p.length
  .rw[if_pos h]
  .rw[if_neg h]
 .simp[gS,UL]
theorem JF.leaves{w:Ur}{s s':Nat}(hz:∀x∈l,aS x=z)(hss:s≠s')(h1:B<=s)(h2:B<=s')(m1:aO w 175 (α:=Ky) aP bE s 0 (λ_=>Up))(m2:aO w 99 (α:=Dt) aX cH s' l.length (pR l)):
  JF w B l z (λr=>if r=[] then Uq (s,s')else Up) l.length (s,s'):=by
 have u:∀y r,∀x∈l,aS x≠z++y::r:=λy r x j e=>by
  have:=congrArg Yl ((hz x j).symm.trans e);simp at this
 have k:∀p x,(λr:List Ky=>if r=[] then Uq (s,s')else Up) p=Uq x->p=[]/\x=(s,s'):=λp x h=>by
  by_cases e:p=[]
  .simp[e]at h;exact⟨e,h.symm⟩
  .simp[e]at h
 refine⟨⟨λp x j=>?_,λp x j=>?_,λp q x y j hy=>?_,λp x j=>?_,λp m=>?_,λp y m=>?_⟩,oP,λy r=>?_⟩
 .obtain⟨rfl,rfl⟩:=k p x j;exact(m1.mono (UB _)).ext (λy=>oP)
 .obtain⟨rfl,rfl⟩:=k p x j;rw[VO,IG hz];exact m2
 .obtain⟨rfl,rfl⟩:=k p x j;obtain⟨rfl,rfl⟩:=k q y hy;exact⟨hss,λ_=>rfl,λ_=>rfl⟩
 .obtain⟨rfl,rfl⟩:=k p x j;exact⟨h1,h2⟩
 .cases p with
  |nil=>simp at m
  |cons y r=>exact OR (u y r)
 .simp
 .constructor
  .intro h;simp at h
  .rintro⟨x,j,m⟩;rw[hz x j]at m;have:=m.length_le;simp at this;omega
theorem JF.more{w:Ur}{N:List Ky->Option (Nat×Nat)}(h:JF w B J' z N c x0)(hn:∀x∈J,¬z <+:aS x):JF w B (J++J') z N c x0:=by
 have e:(λr=>Mk (J++J') (J++J').length (z++r))=λr=>Mk J' J'.length (z++r):=by
  funext r;exact RX (λx j e=>hn x j (by rw[e];exact Yf _ _))
 refine⟨by rw[e];exact h.tre,h.root,λy r=>(h.there y r).trans ?_⟩;constructor
 .rintro⟨x,j,k⟩;exact⟨x,List.mem_append.2 (.inr j),k⟩
 .rintro⟨x,j,k⟩;rcases List.mem_append.1 j with j|j
  .exact absurd ((Yf z (y::r)).trans k)<|hn x j
  .exact⟨x,j,k⟩
theorem JT.more{w:Ur}{K:Ky->Prop}{N:List Ky->Option (Nat×Nat)}(h:JT w B J z K N c x0)(h0:∀x∈J',aS x≠z)(hn:∀x∈J',∀y,K y->¬(z++[y]) <+:aS x):JT w B (J++J') z K N c x0:=by
 have u:∀y r,z++y::r=(z++[y])++r:=λy r=>oP;have e:mJ (J++J') z K=mJ J z K:=by
  funext r;cases r with
  |nil=>exact W7 h0
  |cons y r=>
   simp only[mJ];by_cases k:K y
   .rw[if_pos (aN k),if_pos (aN k)];exact W7 (λx j e=>hn x j y k (by rw[e,u y r];exact Yf _ _))
   .rw[if_neg (by rw[aJ k];simp),if_neg (by rw[aJ k];simp)]
 refine⟨by rw[e];exact h.tre,h.root,λy r=>(h.there y r).trans ?_⟩;constructor
 .rintro⟨m,x,j,q⟩;exact⟨m,x,List.mem_append.2 (.inl j),q⟩
 .rintro⟨m,x,j,q⟩;rcases List.mem_append.1 j with j|j
  .exact⟨m,x,j,q⟩
  .exact absurd ((by rw[u y r];exact Yf _ _:(z++[y]) <+:z++y::r).trans q)<|hn x j y m
section
variable {w w' : Ur}{B B' c c' tb ub : Nat}{N : List Ky-> Option (Nat × Nat)}{M : List Ky-> Dt-> Option ByteArray}{J : List Lf}{z : List Ky}{K : Ky-> Prop}{x0 : Nat × Nat}
theorem bB.g2(h:bB w B N M c)(g:G2 tb ub w w')(h1:tb<B)(h2:ub<B):bB w' B N M c:=h.same λp x hx=>by
 have l:=h.lo p x hx;have k:=h.lt hx;exact⟨g.block _ k.1 oM oM,g.block _ k.2 oM oM⟩
theorem bB.box(h:bB w B N M c){b i:Nat}{v:aB}(hc:w.cell? (Ua b i)=Uq v)(g:w.grownBy w' (Uq b)):bB w' B N M c:=h.same λp x hx=>by
 refine⟨g.block _ (h.lt hx).1 λe=>?_,g.block _ (h.lt hx).2 λe=>?_⟩
 .injection e with e;have⟨m,k,j⟩:=(h.kids p x hx).obj;rw[e]at j;exact uP hc _ _ j
 .injection e with e;have⟨m,k,j⟩:=(h.marks p x hx).obj;rw[e]at j;exact uP hc _ _ j
theorem JF.lower(h:JF w B J z N c x0)(hb:B'<=B):JF w B' J z N c x0:=⟨h.tre.lower hb,h.root,h.there⟩
theorem JF.box(h:JF w B J z N c x0){b i:Nat}{v:aB}(hc:w.cell? (Ua b i)=Uq v)(g:w.grownBy w' (Uq b)):JF w' B J z N c x0:=⟨h.tre.box hc g,h.root,h.there⟩
theorem JF.bw(h:JF w B J z N c x0)(hb:Bl w w'):JF w' B J z N c x0:=⟨h.tre.bw hb,h.root,h.there⟩
theorem JT.box(h:JT w B J z K N c x0){b i:Nat}{v:aB}(hc:w.cell? (Ua b i)=Uq v)(g:w.grownBy w' (Uq b)):JT w' B J z K N c x0:=⟨h.tre.box hc g,h.root,h.there⟩
theorem JT.g2(h:JT w B J z K N c x0)(g:G2 tb ub w w')(h1:tb<B)(h2:ub<B):JT w' B J z K N c x0:=⟨h.tre.g2 g h1 h2,h.root,h.there⟩
theorem JT.new(z:List Ky)(hk:aO w 175 (α:=Ky) aP bE x0.1 0 (λ_=>Up))(hm:aO w 99 (α:=Dt) aX cH x0.2 0 (λ_=>Up))(hne:x0.1≠x0.2)(hB:B<=x0.1/\B<=x0.2):JT w B [] z (λ_=>False) (λr=>if r=[] then Uq x0 else Up) 0 x0:=by
 have e:mJ [] z (λ_=>False)=λ_ _=>Up:=by
  funext r;cases r with
  |nil=>rfl
  |cons y r=>simp only[mJ];rw[if_neg (by rw[aJ (λh=>h)];simp)]
 refine⟨by rw[e];exact bB.new hk hm hne hB,oP,λy r=>?_⟩;simp
theorem Ma{u v:Ky}{q:List Ky}(h1:z++[u] <+:q)(h2:z++[v] <+:q):u=v:=by
 have e:=List.IsPrefix.eq_of_length (List.prefix_of_prefix_length_le h1 h2 oP) oP;simpa using e
end
structure TL(w:Ur)(B:Nat)(l:List Lf)(z:List Ky)(before:Ky)(D k:Nat)(x0:Nat×Nat):Prop where
 ex:∃(K:Ky->Prop) (N:List Ky->Option (Nat×Nat)) (c:Nat),JT w B l z K N c x0/\(∀u,K u->eR u before<=0)/\(∀x∈l,∃v,K v/\(z++[v]) <+:aS x)/\c<=D*l.length
 some':k<=l.length
section
variable {w w' v : Ur}{B D k tb ub : Nat}{J l : List Lf}{z : List Ky}{before y : Ky}{x0 : Nat × Nat}
theorem TL.new(z:List Ky)(before:Ky)(D:Nat)(hk:aO w 175 (α:=Ky) aP bE x0.1 0 (λ_=>Up))(hm:aO w 99 (α:=Dt) aX cH x0.2 0 (λ_=>Up))(hne:x0.1≠x0.2)(hB:B<=x0.1/\B<=x0.2):TL w B [] z before D 0 x0:=
 ⟨⟨_,_,0,JT.new z hk hm hne hB,λ_ h=>h.elim,λx hx=>by simp at hx,UB _⟩,UB _⟩
theorem TL.box(h:TL w B l z before D k x0){b i:Nat}{v:aB}(hc:w.cell? (Ua b i)=Uq v)(g:w.grownBy w' (Uq b)):TL w' B l z before D k x0:=by
 have⟨⟨K,N,c,j,m⟩,q⟩:=h;exact⟨⟨K,N,c,j.box hc g,m⟩,q⟩
theorem TL.full(h:TL w B l z before D k x0):∃N c,JF w B l z N c x0/\c<=D*l.length/\∀x∈l,z <+:aS x:=by
 have⟨⟨K,N,c,r,g,m,u⟩,_⟩:=h;refine⟨N,c,r.full λy ⟨x,hx,hp⟩=>?_,u,λx hx=>?_⟩
 .have⟨v,q,j⟩:=m x hx;rw[Ma hp j];exact q
 .have⟨v,q,j⟩:=m x hx;exact(Yf _ _).trans j
theorem TL.hang{B1 cnt:Nat}{N1:List Ky->Option (Nat×Nat)}{x1:Nat×Nat}(h:TL w B l z before (D+1) k x0)(g:G2 tb ub w v)(h1:tb<B)(h2:ub<B)(hj:JF v B1 J (z++[y]) N1 cnt x1)(hb1:w.1.size<=B1)(hb:B<=w.1.size)(hy:eR before y<0)(hJ:∀x∈J,(z++[y]) <+:aS x)(hne:J≠[])(hc:cnt<=D*J.length):
  ∃(c:Nat) (F:Ky->Option (Nat×Nat)),c<=(D+1)*(l++J).length/\aO v 175 aP bE x0.1 c F/\∀w',v.grownBy w' (Uq x0.1)->aO w' 175 aP bE x0.1 (c+1) (dE F y (Uq x1))->TL w' B (l++J) z y (D+1) (k+1) x0:=by
 have⟨⟨K,N,c,A,i,E,I⟩,L⟩:=h;have Z:1<=J.length:=List.length_pos_iff.2 hne;have G:D*J.length+1<=(D+1)*J.length:=by rw[Nat.succ_mul];omega
 have H:(D+1)*(l++J).length=(D+1)*l.length+(D+1)*J.length:=by rw[UM,Nat.mul_add]
 have t:¬K y:=λhk=>by
  have:=i y hk;have:=bH.key.neg y before;have:=bH.key.irr y;rcases Ys (i y hk)with e|e
  .have:=bH.key.tr _ _ _ e hy;omega
  .rw[(bH.key.z _ _).1 e]at hy;rw[bH.key.irr]at hy;omega
 have Q:=A.g2 g h1 h2;have s:JT v B (l++J) z K N (c+cnt) x0:=(Q.more (λx j e=>by
  have:=(hJ x j).length_le;rw[e]at this;simp at this;omega) (λx j u r hp=>by
  have e:=Ma hp (hJ x j);rw[e]at r;exact t r)).mono (Nat.le_add_right _ _)
 have U:JF v B (l++J) (z++[y]) N1 (c+cnt) x1:=(((hj.lower (Uz hb hb1)).more (λx j hp=>by
  have⟨u,r,o⟩:=E x j;rw[Ma hp o]at t;exact t r)).mono (Nat.le_add_left _ _))
 refine⟨c+cnt,λu=>N [u],oM,s.tre.kids [] x0 s.root,λw' gw m=>?_⟩;have M:Pe N N1:=λp q a b ha hb'=>by
  have V:=A.tre.lt ha;have Y:=hj.tre.lo q b hb';exact⟨oM,oM,oM,oM⟩
 have O:=s.hang U t ⟨_,List.mem_append.2 (.inr (Yo hne)),hJ _ (Yo hne)⟩ M gw (m.ext λu=>by
  by_cases e:u=y
  .subst e;rw[iU,if_pos rfl]
  .rw[gJ _ _ e,if_neg e])
 refine⟨⟨_,_,_,O,λu r=>?_,λx j=>?_,oM⟩,by rw[UM];omega⟩
 .rcases r with r|rfl
  .rcases Ys (i u r)with e|e
   .exact Int.le_of_lt<|bH.key.tr _ _ _ e hy
   .rw[(bH.key.z _ _).1 e];exact Int.le_of_lt hy
  .rw[bH.key.irr];exact Int.le_refl _
 .rcases List.mem_append.1 j with j|j
  .have⟨u,r,o⟩:=E x j;exact⟨u,.inl r,o⟩
  .exact⟨y,.inr rfl,hJ x j⟩
end
abbrev tC:=Ky×List Lf×List Int
def RD(K:Int->Int->Bool)(R:List ByteArray->List Lf->List Lf->List Int->Prop)(p:List ByteArray)(y:Ky)(acc B:List Lf)(U:List Int):Prop:=
 if y.2=3 then R (p++[y.1]) acc B U else(y.2=1\/y.2=2)/\B≠[]/\B.length<=1000/\kE K y.2 (p++[y.1]) (0,0) acc B/\U=mB B y.2
def RK(K:Int->Int->Bool)(R:List ByteArray->List Lf->List Lf->List Int->Prop)(p:List ByteArray):Ky->List Lf->List tC->Prop
 |_,_,[]=>True
 |before,acc,g::G=>(g.1.1.size≠0/\g.1.1.size<=40/\eR before g.1<0)/\RD K R p g.1 acc g.2.1 g.2.2/\RK K R p g.1 (acc++g.2.1) G
def gB(g:tC):List Int:=cM g.1.1++([g.1.2]++g.2.2)
def RT(K:Int->Int->Bool):Nat->List ByteArray->List Lf->List Lf->List Int->Prop
 |0,_,_,_,_=>False
 |d+1,p,acc,B,U=>∃G:List tC,B=G.flatMap (λg=>g.2.1)/\U=aI 9 G.length++G.flatMap gB/\G.length<=1000/\(G=[]->p.length=0)/\(G≠[]->p.length<8)/\RK K (RT K d) p (ByteArray.empty,0) acc G
def kF(E:Ev)(w:Ur)(acc J:List Lf)(x':Nat)(z:List Ky)(D:Nat)(e:Ending)(w':Ur):Prop:=∃(cnt:Nat) (N:List Ky->Option (Nat×Nat)) (x0:Nat×Nat),e=Ui (Ul #[Uo #[.map (Uq x0.1),.map (Uq x0.2)],.nilIface])/\Gv E w w'/\TS E w' x' (acc++J)/\
 (∀y∈J,z <+:aS y)/\(J≠[]\/z=[])/\cnt<=D*J.length/\(acc++J).length<=1000/\JF w' w.1.size J z N cnt x0
theorem kF.box{E:Ev}{w W Z:Ur}{e:Ending}(h:kF E W acc J x' z D e w1)(g0:Gv E w W)(hb:w.1.size<=b)(hhi:E.hi<=b)(hN:NB w1 b)(gz:w1.grownBy Z (Uq b)):kF E w acc J x' z D e Z:=by
 have⟨j,N,x0,k,m,q,r,u,v,y,g⟩:=h;have⟨o,t⟩:=hN.c0;exact⟨j,N,x0,k,(g0.trans m).gr gz hb,q.gr gz hhi,r,u,v,y,(g.lower g0.size).box t gz⟩
theorem Eg.node{E:Ev}{w:Ur}{e:Ending}(hk:kind=1\/kind=2)(hD:1<=D)(hne:l≠[])(hw:∀z∈l,z.p=p++[s]/\z.fl=decide (kind=2))(h:Eg E w acc l x' e w'):kF E w acc l x' (aG p 3++[(s,kind)]) D e w':=by
 have⟨A,M,q,r,u,v,g,t,o,i,b⟩:=h;have j:∀x∈l,aS x=aG p 3++[(s,kind)]:=λx hx=>by
  have⟨k,m⟩:=hw x hx;unfold aS;rw[k,m,AA];rcases hk with rfl|rfl<;>rfl
 exact⟨l.length,_,(A,M),q,r,u,λy hy=>by rw[j y hy];exact Ya _,.inl hne,Nat.le_mul_of_pos_left _ hD,v,JF.leaves j g t o i b⟩
theorem kE.way{K:Int->Int->Bool}{kind:Int}{p:List ByteArray}:∀{B:List Lf}{before:Dt}{acc:List Lf},kE K kind p before acc B->∀z∈B,z.p=p/\z.fl=decide (kind=2)
 |[],_,_,_,z,j=>by cases j
 |y::B,_,_,⟨lg,_,_,_,h5⟩,z,j=>by
  rcases List.mem_cons.1 j with rfl|j
  .exact⟨lg.p,lg.fl⟩
  .exact kE.way h5 z j
theorem NB.fill2{v:Ur}(h:NB v b)(s s':Option Nat):
  ∃Z,Z=(v.setCell (Ub b) (.map s)).setCell (Ua b 1) (.map s')/\Z.cell? (Ub b)=Uq (.map s)/\Z.cell? (Ua b 1)=Uq (.map s')/\v.grownBy Z (Uq b):=by
 have⟨r,m⟩:=h.c0;have⟨u,q⟩:=h.c1;refine⟨_,rfl,?_,?_,⟨rfl,rfl,rfl,by simp[Vr],λk hk hne=>?_⟩⟩
 .rw[Vt _ _ _ _ oP];exact Vs _ _ _ m
 .exact Vs _ _ _ (by rw[Vt _ _ _ _ oP];exact q)
 .have j:k≠b:=λe=>hne (by rw[e]);exact(zH _ _ _ _ j).trans (zH _ _ _ _ j)
theorem CA{w:Ur}{E:Ev}{x:Nat}{U:List Int}{dep:Int}{R:List ByteArray->List Lf->List Lf->List Int->Prop}(hD:1<=D)(hT:TS E w x acc)(hhi:E.hi<=w.1.size)(hl:acc.length<=1000)(hd:RD E.K R p (s,kind) acc J U)(hR:Rv E x U x')
  (hrec:kind=3->R (p++[s]) acc J U->∀W,TS E W x acc->E.hi<=W.1.size->Cl 186 #[Uk (Uc E.tb),Ud dep] W λe w'=>kF E W acc J x' (aG p 3++[(s,kind)]) D e w'):
  Cl 217 #[Uk (Uc E.tb),Ud kind,Ud dep] w λe w'=>kF E w acc J x' (aG p 3++[(s,kind)]) D e w':=by
 have⟨P,z⟩:=zE (kF E w acc J x' (aG p 3++[(s,kind)]) D);have⟨W,m⟩:=zE (w.alloc (Uj #[.map Up,.map Up] 107));have y:Bl w W:=m▸zO _ _;have T:W.1.size=w.1.size+1:=m▸oP;have o:NB W w.1.size:=m▸NB.made _ _;have u:=hT.bw y;have A:=G2.bw (tb:=E.tb) (ub:=E.ub) y;have⟨Hb,Hc⟩:=hT.low;have t:aA (∀e w1,kF E W acc J x' (aG p 3++[(s,kind)]) D e w1->∃x0:Nat×Nat,e=Ui (Ul #[Uo #[.map (Uq x0.1),.map (Uq x0.2)],.nilIface])/\NB w1 w.1.size/\∀Z,w1.grownBy Z (Uq w.1.size)->P e Z):=aC (λe w1 h=>by
  have X:=h;have⟨Ha,N,x0,M,C,_⟩:=h;have j:=o.g2 C oM oM;exact⟨x0,M,j,λZ gz=>z▸X.box A zL oM j gz⟩)
 have r:aA ((kind=1\/kind=2->Cl 240 #[Uk (Uc E.tb),Ud kind] W λe w'=>kF E W acc J x' (aG p 3++[(s,kind)]) D e w')/\(kind=3->Cl 186 #[Uk (Uc E.tb),Ud dep] W λe w'=>kF E W acc J x' (aG p 3++[(s,kind)]) D e w')):=aC ⟨λhk=>by
  unfold RD at hd;rw[if_neg (show¬(s,kind).2=3 by rcases hk with h|h<;>simp[h])]at hd;have⟨_,i,G,b,H⟩:=hd;exact(NE hk u oM hl i G b (H▸hR)).mono λe w1 h=>h.node hk hD i (kE.way b),λk=>by
  unfold RD at hd;rw[if_pos (show(s,kind).2=3 from k)]at hd;exact hrec k hd W u oM⟩
 have B:kind=1\/kind=2\/kind=3:=by
  unfold RD at hd;by_cases k:(s,kind).2=3
  .exact .inr<|.inr k
  .rw[if_neg k]at hd;rcases hd.1 with h|h
   .exact .inl h
   .exact .inr<|.inl h
 rw[z];rcases B with rfl|rfl|rfl;all_goals
  have g:=aC (by first|exact r.1 (.inl rfl)|exact r.1 (.inr rfl)|exact r.2 rfl)
  go_enter func217,ntmps217
  go_wp2_with fail
  refine g.mono ?_
  intro e w1 h
  obtain⟨⟨O,Q⟩,rfl,j,q⟩:=t e w1 h
  have V:=aC j
  have Y:=aC q
  have⟨u0,k0⟩:=j.c0
  have⟨u1,M⟩:=j.c1
  have I:=j.f0
  go_wp2_with fail
  have⟨Z,q,F,S,L⟩:=V.fill2 (Uq O) (Uq Q)
  rw[<-q]
  exact bodyPost_ret (v:=Ul #[Uo #[.map (Uq O),.map (Uq Q)],.nilIface]) (by simp[results,results217,go_sem,F,S]) rfl<|Y Z L
theorem XG{w:Ur}{cur:Array aB}{t:TypeId}{f:Nat×Nat}{u:aB}(h:w.1[g]? =Uq (.cells cur t f)):(w.setCell (Ua g i) u).1[g]? =Uq (.cells (cur.setIfInBounds i u) t f):=by
 simp[Vr,Array.getElem?_modify,h]
def Wr(w:Ur)(g:Nat)(t:TypeId)(n:Nat)(C:Nat->aB):Prop:=∃cur,w.1[g]? =Uq (.cells cur t (0,0))/\n<=cur.size/\∀i,i<n->cur[i]? =Uq (C i)
theorem Wr.cell{w:Ur}{t:TypeId}{C:Nat->aB}(h:Wr w g t n C)(hi:i<n):w.cell? (Ua g i)=Uq (C i):=by
 have⟨m,j,q,k⟩:=h;simp[World.cell?,j,k i hi]
theorem Wr.frozen{w:Ur}{t:TypeId}{C:Nat->aB}(h:Wr w g t n C)(i:Nat):w.frozen? (Ua g i)=false:=by
 have⟨k,j,m,q⟩:=h;simp[Yt,j]
theorem Wr.set{w:Ur}{t:TypeId}{C:Nat->aB}(h:Wr w g t n C)(i:Nat)(u:aB):Wr (w.setCell (Ua g i) u) g t n (λj=>if j=i then u else C j):=by
 have⟨k,m,q,r⟩:=h;refine⟨_,XG m,oU q,λj hj=>?_⟩;rw[Array.getElem?_setIfInBounds];by_cases e:i=j
 .subst e;rw[if_pos rfl,if_pos oM];simp
 .rw[if_neg e];show k[j]? =Uq (if j=i then u else C j);rw[if_neg (Ne.symm e)];exact r j hj
theorem Wr.same{w:Ur}{t:TypeId}{C:Nat->aB}(h:Wr w g t n C)(e:w'.1[g]? =w.1[g]?):Wr w' g t n C:=by
 have⟨j,k,r⟩:=h;exact⟨j,e.trans k,r⟩
theorem Wr.lt{w:Ur}{t:TypeId}{C:Nat->aB}(h:Wr w g t n C):g<w.1.size:=by
 have⟨k,j,_⟩:=h;exact(Array.getElem?_eq_some_iff.1 j).1
open Go.Deep
structure Sx where
 l:List Lf
 n:Nat
 R:Nat->Int
 F:Nat->Int
 T:Nat->Int
structure Sx.Sm(S:Sx):Prop where
 l1:S.l.length<=1048576
 p1:iP S.l
 n1:S.n<=1048576
structure cX(w:Ur)(a x:Option Us)(S:Sx):Prop where
 lf:gA w a S.l
 rn:bI w x S.n S.R S.F S.T
theorem cX.bw{w:Ur}{x:Option Us}{S:Sx}(h:cX w a x S)(hb:Bl w w'):cX w' a x S:=⟨h.lf.bw hb,h.rn.bw hb⟩
structure eP(w:Ur)(a x:Option Us)(S:Sx):Prop where
 lf:dH w a S.l
 rn:bI w x S.n S.R S.F S.T
theorem eP.bw{w:Ur}{x:Option Us}{S:Sx}(h:eP w a x S)(hb:Bl w w'):eP w' a x S:=⟨h.lf.bw hb,h.rn.bw hb⟩
theorem vL{Q:Prop}(h:Q:=by
 obtain⟨u,j⟩:=h;refine⟨u,?_⟩;rcases j with j|⟨g,cap,k,e,q,m,r⟩
 .exact .inl j
 .subst e;exact .inr ⟨g,cap,k,rfl,q,(hk g rfl).trans m,r⟩):Q:=h
theorem dK{w:Ur}{size:Nat}(h:w.ownsRow B e size v n xs)(hk:∀g,v.ownBlock=Uq g->w'.1[g]? =w.1[g]?):w'.ownsRow B e size v n xs:=by
 exact vL
theorem oF{w:Ur}{C size:Nat}(h:w.ownsRow B e size v n xs)(hc:C<=B):w.ownsRow C e size v n xs:=by
 have⟨q,j⟩:=h;refine⟨q,?_⟩;rcases j with j|⟨g,cap,k,e,m,r⟩
 .exact .inl j
 .exact .inr ⟨g,cap,k,e,Uz hc m,r⟩
theorem aF.new(w:Ur)(v0 v1 v2 v3 v4:aB)(t:TypeId):aF (w.alloc (Uj #[v0,v1,v2,v3,v4] t)) w.1.size v0 v1 v2 v3 v4:=
 ⟨oP,oP,oP,oP,oP,λi=>oP,oP⟩
theorem aF.up{w:Ur}(h:aF w b v0 v1 v2 v3 v4)(o:Obj):aF (w.alloc o) b v0 v1 v2 v3 v4:=h.bw (zO w o) h.lt
theorem oX{o:Oper}{a:Act}{w:Ur}{K:Act->Ur->Prop}{Q:Exit->Act->Ur->Prop}(s x:Operand)(t u:TypeId)(ho:o.op=.call {callee:=.builtin .append,args:=#[s,x],argTypes:=#[t,u]}){x':aB}(hr:(Builtin.append_ #[t,u] t' #[v,x']).run P w=.ok v' w')(hs:a.eval s=v)(hx:a.eval x=x')(ht:o.type=t')(h:K (a.put o.dst v') w'):Oper.wp P o a w K Q:=by
 subst ht;unfold Oper.wp execOp;simp only[ho,resolve,invoke,builtin,Sem.run_bind,Sem.run_pure,Result.andThen_ok,List.map_toArray,UQ,VN,hs,hx,hr];exact h
theorem cL{ops:Array Oper}{rest:List Oper}{o:Oper}{a:Act}{w:Ur}{Q:Exit->Act->Ur->Prop}(hgd:o.guard=Up)(s x:Operand)(t u:TypeId)(ho:o.op=.call {callee:=.builtin .append,args:=#[s,x],argTypes:=#[t,u]}){x':aB}(hr:(Builtin.append_ #[t,u] t' #[v,x']).run P w=.ok v' w')(hs:a.eval s=v)(hx:a.eval x=x')(ht:o.type=t')(h:wpList P ops Q rest (a.put o.dst v') w'):wpList P ops Q (o::rest) a w:=by
 refine wpList_plain hgd λK hK=>?_;exact oX s x t u ho hr hs hx ht<|hK _ _ h
theorem FW(B:Nat)(v:aB)(zs:List Int)(s:ByteArray)(w:Ur)(ho:Own w B v zs)(hB:B<=w.1.size)(hl:zs.length<=10000000000)(hs:s.size<=1048576):
  ∃v' w',(Builtin.append_ #[22,9] 22 #[v,Um s]).run prog w=.ok v' w'/\Own w' B v' (zs++gM s)/\Gr w w' v v':=by
 have⟨r,hi,u,q,y⟩:=info_parts Tryz.infoByte;have k:w.ownsRow B 5 1 v zs.length (zs.map (Value.int .u8)):=ho;have⟨v',w',m,o,i,O⟩:=Lib.run_append_own_string (P:=prog) w B 22 9 22 5 r underlying22 underlying9 hi u q y v zs.length _ k s oL oM hB;refine⟨v',w',m,?_,i,?_⟩
 .unfold Own;simp only[UM,UN,mE,Oj];exact o
 .rcases k.2 with⟨rfl,t⟩|⟨g,cap,z,rfl,h,A,U,Q,p,V⟩
  .have E:w.ownsRow w.1.size 5 1 Ue zs.length (zs.map (Value.int .u8)):=⟨k.1,.inl ⟨rfl,t⟩⟩;have⟨Y,Z,j,b,_,_⟩:=Lib.run_append_own_string (P:=prog) w w.1.size 22 9 22 5 r underlying22 underlying9 hi u q y _ zs.length _ E s oL oM zL;rw[m]at j;injection j with e1 e2;subst e1;subst e2;rcases b.2 with⟨rfl,_⟩|⟨g,cap,z,rfl,h,_⟩
   .exact .inl rfl
   .exact .inr ⟨g,rfl,h⟩
  .by_cases M:zs.length+s.size<=cap
   .have j:=Lib.run_append_room_string (P:=prog) w 22 9 22 5 r underlying22 underlying9 hi q g zs.length cap z A s M (by rw[p];omega);rw[m]at j;injection j with e1 e2;subst e1;exact .inl rfl
   .have j:=Lib.run_append_grow_string (P:=prog) w 22 9 22 5 r (Ug .u8 0) underlying22 underlying9 hi u (Ub g) zs.length cap _ (by rw[q];simp) (k.cells (g:=g) rfl) s oM oM (by rw[y];exact growslice_fits oM oM);rw[m]at j;injection j with e1 e2;subst e1;exact .inr ⟨_,rfl,Ux _⟩
theorem zC(B:Nat)(v:aB)(zs ns:List Int)(a:Us)(m c:Nat)(w:Ur)(ho:Own w B v zs)(hm:ns.length=m)(hn:∀i u,(ns.map (Value.int .u8))[i]? =Uq u->w.cell? (a.add i)=Uq u)(hB:B<=w.1.size)(hl:zs.length+m<=10000000000):
  ∃v' w',(Builtin.append_ #[22,22] 22 #[v,Uf (Uq a) m c]).run prog w=.ok v' w'/\Own w' B v' (zs++ns)/\Gr w w' v v':=by
 have⟨o,hi,h,g,t⟩:=info_parts Tryz.infoByte;have r:w.ownsRow B 5 1 v zs.length (zs.map (Value.int .u8)):=ho;have⟨v',w',y,j,k,b,q⟩:=run_append_own_at (P:=prog) w B 22 22 5 o (Ug .u8 0) 1 1 underlying22 hi h g t rfl oD v zs.length _ r a m c (ns.map (Value.int .u8)) (by simp[hm]) hn (λu hu=>by obtain⟨z,_,rfl⟩:=List.mem_map.1 hu;rfl) oL oM hB;refine⟨v',w',y,?_,Gr.app k q⟩;unfold Own;rw[UM,UN,hm];exact j
structure nC(l:List Lf):Prop where
 rep:∀i,i<l.length->0<=(gL l i).r/\(gL l i).r<8
 seq:∀i,i<l.length->0<=(gL l i).q/\(gL l i).q<=1000000000
 val:∀i,i<l.length->(gL l i).v.size<=200
 len:l.length<=1000
 dis:fK l l.length
theorem tW{w:Ur}{cap size:Nat}{e:TypeId}{C:Nat->aB}(h:w.ownsRow B e size (Uf (Uc g) n cap) n ((Vb (n*size)).map C)):Wr w g e (n*size) C:=by
 rcases h.2 with⟨y,_⟩|⟨v,t,m,z,p,r,o,i,b,q⟩
 .cases y
 .have u:g=v:=by injection z with k _ _;exact congrArg Addr.block (Option.some.inj k)
  rw[<-u]at r;refine⟨m,r,?_,λj hj=>?_⟩
  .have:=congrArg Yl q;simp at this;omega
  .have k:(m.toList.take (n*size))[j]? =((Vb (n*size)).map C)[j]? :=(by rw[q]);rw[VV hj]at k;rw[<-Array.getElem?_toList,k];simp[Yp hj]
theorem Nh(t e:TypeId)(i:TypeInfo)(z:aB)(size bytes:Nat)(ht:prog.underlying t=Uq (.slice e))(hi:prog.info? e=Uq i)(hz:i.zero=Uq z)(hsize:i.size=size)(hby:i.bytes=bytes)(hzs:z.cells.size=size)(hsz:0<size)(hb2:bytes<=64)(q g off m c:Nat)(C:Nat->aB)(w:Ur)(B:Nat)(hm:m<=1048576)(ho:w.ownsRow B e size (Uf (Uc q) 0 0) 0 [])(hB:B<=w.1.size)(hC:∀j,j<m*size->w.cell? (Ua g (off+j))=Uq (C j))(h1:∀j,j<m*size->(C j).oneCell'=true):
  ∃v cap w',(Builtin.append_ #[t,t] t #[Uf (Uc q) 0 0,Uf (Uq (Ua g off)) m c]).run prog w=.ok (Uf (Uc v) m cap) w'/\w'.ownsRow B e size (Uf (Uc v) m cap) m ((Vb (m*size)).map C)/\w.grownBy w' (Uq q)/\(v=q\/v=w.1.size):=by
 have⟨v',w',E,b,s,A,y⟩:=run_append_own_at (P:=prog) w B t t e i z size bytes ht hi hz hsize hby hzs hsz (Uf (Uc q) 0 0) 0 [] ho (Ua g off) m c ((Vb (m*size)).map C) oP (λj u o=>by
  simp only[Yq,Yv]at o;obtain⟨q,k,rfl⟩:=o;have p:j<m*size:=by
   rcases Nat.lt_or_ge j (m*size)with h|h
   .exact h
   .rw[UT (oU h)]at k;cases k
  rw[Yp p]at k;have k:=Option.some.inj k;rw[<-k,zM];exact hC j p) (λu hu=>by
  obtain⟨j,o,rfl⟩:=List.mem_map.1 hu;exact h1 j (oU o)) oL (by
   have:m*bytes<=1048576*64:=Nat.mul_le_mul hm hb2;rw[UA];omega) hB
 rw[UA,Yj]at b;rcases b.2 with⟨M,_⟩|⟨v,cap,O,rfl,r⟩
 .have:=A.1 M;exact absurd this.1 oP
 .refine⟨v,cap,w',E,b,s,?_⟩;rcases y with y|y
  .exact .inl (by simpa[Value.ownBlock]using y)
  .exact .inr (by simpa[Value.ownBlock]using y)
def eH(l:List Lf)(P Q:Nat->Nat)(j:Nat):aB:=
 if j%5=0 then Uf (Uq ⟨P (j/5),0,Up⟩) (gL l (j/5)).p.length (Q (j/5))else if j%5=1 then Un (gL l (j/5)).fl else if j%5=2 then Ud (gL l (j/5)).r else if j%5=3 then Ud (gL l (j/5)).q else Um (gL l (j/5)).v
theorem wI{Q:Prop}(h:Q:=by
 refine⟨?_,?_,?_,?_,?_⟩
 .rw[if_pos oM,show i*5/5=i by omega]
 .rw[if_neg oM,if_pos oM,show(i*5+1)/5=i by omega]
 .rw[if_neg oM,if_neg oM,if_pos oM,show(i*5+2)/5=i by omega]
 .rw[if_neg oM,if_neg oM,if_neg oM,if_pos oM,show(i*5+3)/5=i by omega]
 .rw[if_neg oM,if_neg oM,if_neg oM,if_neg oM,show(i*5+4)/5=i by omega]):Q:=h
theorem Ba(l:List Lf)(P Q:Nat->Nat)(i:Nat):eH l P Q (i*5)=Uf (Uq ⟨P i,0,Up⟩) (gL l i).p.length (Q i)/\eH l P Q (i*5+1)=Un (gL l i).fl/\eH l P Q (i*5+2)=Ud (gL l i).r/\eH l P Q (i*5+3)=Ud (gL l i).q/\eH l P Q (i*5+4)=Um (gL l i).v:=by
 unfold eH;exact wI
theorem PN(l:List Lf)(P Q:Nat->Nat)(k p q:Nat):(Vb ((k+1)*5)).map (eH l (λi=>if i=k then p else P i) (λi=>if i=k then q else Q i))=(Vb (k*5)).map (eH l P Q)++[Uf (Uc p) (gL l k).p.length q,Un (gL l k).fl,Ud (gL l k).r,Ud (gL l k).q,Um (gL l k).v]:=by
 rw[show(k+1)*5=k*5+1+1+1+1+1 by omega];simp only[Yd,UN,UQ,VN,Ve,VX,Yj];have⟨m,u,y,z,h⟩:=Ba l (λi=>if i=k then p else P i) (λi=>if i=k then q else Q i) k;rw[m,u,y,z,h];simp only[if_pos];congr 1;refine Ye λj hj=>?_;have t:j<k*5:=oU hj;unfold eH;have g:j/5≠k:=oM;simp only[if_neg g]
theorem AX(w:Ur)(v0 v1 v2 v3 v4:aB)(t:TypeId):∀j u,[v0,v1,v2,v3,v4][j]? =Uq u->(w.alloc (Uj #[v0,v1,v2,v3,v4] t)).cell? (((Ub w.1.size):Us).add j)=Uq u:=by
 intro j u k;have m:=aF.new w v0 v1 v2 v3 v4 t;rw[zM,UA];match j,k with
 |0,k=>rw[m.c0];simpa using k
 |1,k=>rw[m.c1];simpa using k
 |2,k=>rw[m.c2];simpa using k
 |3,k=>rw[m.c3];simpa using k
 |4,k=>rw[m.c4];simpa using k
 |j+5,k=>simp at k
structure LC(w:Ur)(lo:Nat)(v:aB)(l:List Lf)(P Q:Nat->Nat):Prop where
 row:w.ownsRow lo 101 5 v l.length ((Vb (l.length*5)).map (eH l P Q))
 pt:∀i,i<l.length->lo<=P i/\P i<w.1.size/\Uq (P i)≠v.ownBlock/\Wr w (P i) 9 (gL l i).p.length (λt=>Um (gS (gL l i).p t))/\(gL l i).p.length<=Q i/\Q i<=9223372036854775807
def rG(P:Nat->Nat)(n:Nat):Prop:=∀i j,i<n->j<n->i≠j->P i≠P j
def LB(w:Ur)(lo:Nat)(v:aB)(l:List Lf):Prop:=∃P Q,LC w lo v l P Q/\rG P l.length
section
variable {w w' : Ur}{lo : Nat}{v : aB}{l : List Lf}{P Q : Nat-> Nat}
theorem LC.nil(w:Ur)(lo:Nat)(P Q:Nat->Nat):LC w lo Ue [] P Q:=⟨⟨rfl,.inl ⟨rfl,rfl⟩⟩,λi hi=>by simp at hi⟩
theorem LC.move(h:LC w lo v l P Q)(hz:w.1.size<=w'.1.size)(hs:∀q,lo<=q->q<w.1.size->w'.1[q]? =w.1[q]?):LC w' lo v l P Q:=
 ⟨dK h.row (λg hg=>hs g (h.row.lt g hg).1 (h.row.lt g hg).2),λi hi=>by
  have⟨j,k,r,m⟩:=h.pt i hi;exact⟨j,Ut k hz,r,m.1.same (hs _ j k),m.2⟩⟩
theorem LC.bw(h:LC w lo v l P Q)(hb:Bl w w'):LC w' lo v l P Q:=h.move hb.size (λq _ h2=>hb.block q h2)
theorem LB.move(h:LB w lo v l)(hz:w.1.size<=w'.1.size)(hs:∀q,lo<=q->q<w.1.size->w'.1[q]? =w.1[q]?):LB w' lo v l:=by
 have⟨P,Q,j,k⟩:=h;exact⟨P,Q,j.move hz hs,k⟩
theorem LB.bw(h:LB w lo v l)(hb:Bl w w'):LB w' lo v l:=h.move hb.size (λq _ h2=>hb.block q h2)
theorem LB.lt(h:LB w lo v l):∀g,v.ownBlock=Uq g->lo<=g/\g<w.1.size:=by
 have⟨P,Q,j,k⟩:=h;exact λg hg=>j.row.lt g hg
theorem LB.nil(w:Ur)(lo:Nat):LB w lo Ue []:=⟨λ_=>0,λ_=>0,LC.nil w lo _ _,λi j hi=>by simp at hi⟩
end
theorem LB.form{w:Ur}(h:LB w lo v l):∃a c,v=Uf a l.length c:=by
 have⟨P,Q,k,_⟩:=h;rcases k.row.2 with⟨e,j⟩|⟨g,cap,m,e,_⟩
 .exact⟨Up,0,by rw[e,j]⟩
 .exact⟨_,cap,e⟩
theorem tQ(l:List Lf)(y:Lf)(hi:i<l.length):gL (l++[y]) i=gL l i:=by simp[gL,UL,Yn hi]
theorem tR(l:List Lf)(y:Lf):gL (l++[y]) l.length=y:=by simp[gL,UL]
theorem NH(l:List Lf)(y:Lf)(P Q:Nat->Nat)(p q:Nat):(Vb ((l.length+1)*5)).map (eH (l++[y]) (λi=>if i=l.length then p else P i) (λi=>if i=l.length then q else Q i))=(Vb (l.length*5)).map (eH l P Q)++[Uf (Uc p) y.p.length q,Un y.fl,Ud y.r,Ud y.q,Um y.v]:=by
 rw[PN,tR];congr 1;refine Ye λj hj=>?_;have k:j<l.length*5:=oU hj;unfold eH;rw[tQ l y (show j/5<l.length by omega)]
theorem LC.app{w:Ur}{P Q:Nat->Nat}(h:LC w lo v l P Q)(hb:Bl w w1)(hlo:lo<=w.1.size)(hk:l.length<=1048576)(y:Lf)(p pc:Nat)(hp1:lo<=p)(hp2:p<w1.1.size)(hp3:Uq p≠v.ownBlock)(hw:Wr w1 p 9 y.p.length (λt=>Um (gS y.p t)))(hpc:y.p.length<=pc/\pc<=9223372036854775807):
  ∃j k z,(Builtin.append_ #[23,23] 23 #[v,Uf (Uc w1.1.size) 1 1]).run prog (w1.alloc (Uj #[Uf (Uc p) y.p.length pc,Un y.fl,Ud y.r,Ud y.q,Um y.v] 101))=.ok (Uf (Uc j) (l.length+1) k) z/\
   LC z lo (Uf (Uc j) (l.length+1) k) (l++[y]) (λi=>if i=l.length then p else P i) (λi=>if i=l.length then pc else Q i)/\Gr w1 z v (Uf (Uc j) (l.length+1) k):=by
 have⟨D,hi,X,B,C⟩:=info_parts yZ;have N:=h.bw hb;have s:Bl w1 (w1.alloc (Uj #[Uf (Uc p) y.p.length pc,Un y.fl,Ud y.r,Ud y.q,Um y.v] 101)):=zO _ _;have M:=N.bw s;have J:=hw.same (s.block p hp2);have Y:=AX w1 (Uf (Uc p) y.p.length pc) (Un y.fl) (Ud y.r) (Ud y.q) (Um y.v) 101;have⟨o,V⟩:=zE (w1.alloc (Uj #[Uf (Uc p) y.p.length pc,Un y.fl,Ud y.r,Ud y.q,Um y.v] 101));rw[V]at M J Y s⊢;have hz:o.1.size=w1.1.size+1:=V▸oP;have W:=hb.size;have⟨v',z,H,E,A,R,m⟩:=run_append_own_at (P:=prog) o lo 23 23 101 D _ 5 64 underlying23 hi X B C rfl oD v l.length _ M.row (Ub w1.1.size) 1 1 [Uf (Uc p) y.p.length pc,Un y.fl,Ud y.r,Ud y.q,Um y.v] rfl Y (λu hu=>by
  simp only[VS,Yr,or_false]at hu;rcases hu with e|e|e|e|e<;>rw[e]<;>rfl) oL oM oM
 rcases E.2 with⟨I,S⟩|⟨j,k,F,I,r⟩
 .omega
 rw[I]at H E m;have G:Uq j=v.ownBlock\/j=o.1.size:=by
  rcases m with m|m
  .exact .inl (by simpa[Value.ownBlock]using m)
  .exact .inr (by simpa[Value.ownBlock]using m)
 have T:=A.size;have L:Gr w1 z v (Uf (Uc j) (l.length+1) k):=by
  refine(Gr.of_below (b:=v) s).trans ⟨A,?_⟩;rcases G with e|e
  .exact .inl e
  .exact .inr ⟨j,rfl,oM⟩
 refine⟨j,k,z,H,⟨?_,λi hi=>?_⟩,L⟩
 .rw[UM,Yc,NH];exact E
 .have Z:∀b,Uq b≠v.ownBlock->b<o.1.size->Uq b≠(Value.slice (Uc j) (l.length+1) k).ownBlock:=λb hb1 hb2 e=>by
   have e:b=j:=(by simpa[Value.ownBlock]using e);rcases G with g|g
   .exact hb1 (by rw[e];exact g)
   .omega
  by_cases e:i=l.length
  .subst e;simp only[if_pos];rw[tR];exact⟨hp1,oM,Z p hp3 oM,J.same (A.block p oM hp3),hpc⟩
  .have hi':i<l.length:=(by simp at hi;omega);simp only[if_neg e];rw[tQ l y hi'];have⟨K,g,O,U⟩:=M.pt i hi';exact⟨K,oM,Z _ O g,U.1.same (A.block _ g O),U.2⟩
theorem rG.app{P:Nat->Nat}{p:Nat}(h:rG P n)(hp:∀i,i<n->P i≠p):rG (λi=>if i=n then p else P i) (n+1):=by
 intro i j hi q m;dsimp only;by_cases e:i=n
 .rw[if_pos e,if_neg oM];exact λk=>hp j oM k.symm
 .rw[if_neg e];by_cases k:j=n
  .rw[if_pos k];exact hp i oM
  .rw[if_neg k];exact h i j oM oM m
theorem LB.app{w:Ur}(h:LB w lo v l)(hb:Bl w w1)(hlo:lo<=w.1.size)(hk:l.length<=1048576)(y:Lf)(p pc:Nat)(hp1:w.1.size<=p)(hp2:p<w1.1.size)(hw:Wr w1 p 9 y.p.length (λt=>Um (gS y.p t)))(hpc:y.p.length<=pc/\pc<=9223372036854775807):
  ∃k j m,(Builtin.append_ #[23,23] 23 #[v,Uf (Uc w1.1.size) 1 1]).run prog (w1.alloc (Uj #[Uf (Uc p) y.p.length pc,Un y.fl,Ud y.r,Ud y.q,Um y.v] 101))=.ok (Uf (Uc k) (l.length+1) j) m/\
   LB m lo (Uf (Uc k) (l.length+1) j) (l++[y])/\Gr w1 m v (Uf (Uc k) (l.length+1) j):=by
 have⟨P,Q,u,b⟩:=h;have⟨k,j,m,z,g,o⟩:=u.app hb hlo hk y p pc oM hp2 (λe=>oH ((u.row.lt p e.symm).2)) hw hpc;exact⟨k,j,m,z,⟨_,_,g,by rw[UM,Yc];exact b.app (λi hi=>oH ((u.pt i hi).2.1))⟩,o⟩
def kC(w:Ur)(vw:aB)(p:List ByteArray):Prop:=(vw=Ue/\p=[])\/∃g c,vw=Uf (Uc g) p.length c/\g<w.1.size/\∀t,t<p.length->w.cell? (Ua g t)=Uq (Um (gS p t))
theorem kC.move{w:Ur}(h:kC w vw p)(hz:w.1.size<=w'.1.size)(hs:∀g,vw.ownBlock=Uq g->w'.1[g]? =w.1[g]?):kC w' vw p:=by
 rcases h with h|⟨g,c,rfl,k,j⟩
 .exact .inl h
 .exact .inr ⟨g,c,rfl,oM,λt ht=>(Vy (a:=(Ua g t)) (hs g rfl)).trans (j t ht)⟩
theorem kC.lt{w:Ur}(h:kC w vw p):∀g,vw.ownBlock=Uq g->g<w.1.size:=by
 rcases h with⟨rfl,_⟩|⟨g,c,rfl,k,m⟩
 .intro g e;cases e
 .intro j e;have e:g=j:=by simpa[Value.ownBlock]using e
  omega
theorem kC.bw{w:Ur}(h:kC w vw p)(hb:Bl w w'):kC w' vw p:=h.move hb.size (λg hg=>hb.block g (h.lt g hg))
def dJ(p:List ByteArray):List aB:=(Vb (p.length*1)).map λt=>Um (gS p t)
theorem FN(p:List ByteArray)(s:ByteArray)(hi:i<p.length):gS (p++[s]) i=gS p i:=by simp[gS,UL,Yn hi]
theorem FO(p:List ByteArray)(s:ByteArray):gS (p++[s]) p.length=s:=by simp[gS,UL]
theorem SM(p:List ByteArray)(s:ByteArray):dJ (p++[s])=dJ p++[Um s]:=by
 unfold dJ;rw[VM,VM,UM,Yc,Yd,UN,List.map_singleton,FO];congr 1;refine Ye λj hj=>?_;rw[FN p s (oU hj)]
theorem Sw(g m c:Nat)(p:List ByteArray)(w:Ur)(hp:p.length=m)(hm:m<=1048576)(hg:g<w.1.size)(h:∀t,t<m->w.cell? (Ua g t)=Uq (Um (gS p t))):
  Cl 139 #[Uf (Uc g) m c] w λe w'=>∃q cap,e=Ui (Uf (Uc q) m cap)/\Bl w w'/\w'.ownsRow w.1.size 9 1 (Uf (Uc q) m cap) m (dJ p):=by
 have⟨M,hi,s,A,E⟩:=info_parts uE;have r:Bl w (w.alloc (Uj #[] 9)):=zO _ _;have y:(w.alloc (Uj #[] 9)).ownsRow w.1.size 9 1 (Uf (Uc w.1.size) 0 0) 0 []:=by
  have:=Vo (base:=w.1.size) (e:=9) (size:=1) w #[] 0 zL oL rfl;simpa using this
 have⟨q,cap,w',u,z,v,b⟩:=Nh 31 9 M _ 1 16 underlying31 hi s A E rfl oD oM w.1.size g 0 m c (λt=>Um (gS p t)) (w.alloc (Uj #[] 9)) w.1.size hm y oP (λj hj=>by rw[UA];exact(r.cell (p:=(Ua g j)) hg).trans (h j oM)) (λ_ _=>rfl);have o:aA (Bl w w'):=aC<|r.grown v r.size (λk e=>oI e);have i:aA (w'.ownsRow w.1.size 9 1 (Uf (Uc q) m cap) m (dJ p)):=aC (by unfold dJ;rw[hp];exact z);have O:∀w:Ur,(binOp .eql 31 (Uf (Uc g) m c) Ue).run prog w=.ok (Un false) w:=λ_=>rfl;go_enter func139,ntmps139;go_wp2_with (at_builtin;refine cL rfl _ _ _ _ rfl u (by rfl) (by rfl) rfl ?_;clear u);go_ret;exact⟨q,cap,rfl,o,i⟩
theorem GT(w:Ur):Cl 139 #[Ue] w λe w'=>e=Ui Ue/\w'=w:=by
 have j:∀w:Ur,(binOp .eql 31 Ue Ue).run prog w=.ok (Un true) w:=λ_=>rfl;go_enter func139,ntmps139;go_wp2_with fail;go_ret;exact⟨rfl,rfl⟩
theorem GS(vw:aB)(p:List ByteArray)(w:Ur)(hp:p.length<=1048576)(h:kC w vw p):
  Cl 139 #[vw] w λe w'=>∃v,e=Ui v/\Bl w w'/\w'.ownsRow w.1.size 9 1 v p.length (dJ p):=by
 rcases h with⟨rfl,rfl⟩|⟨g,c,rfl,j,k⟩
 .refine(GT w).mono ?_;rintro e w'⟨rfl,rfl⟩;exact⟨_,rfl,zI,⟨rfl,.inl ⟨rfl,rfl⟩⟩⟩
 .refine(Sw g p.length c p w rfl hp j k).mono ?_;rintro e w'⟨q,cap,rfl,m,r⟩;exact⟨_,rfl,m,r⟩
theorem Tw{w:Ur}(h:w.ownsRow lo 9 1 v p.length (dJ p))(hlo:lo<=w.1.size)(hp:p.length<=1048576)(s:ByteArray)(b:Nat)(hb:w.cell? (Ub b)=Uq (Um s)):
  ∃q cap k,(Builtin.append_ #[31,31] 31 #[v,Uf (Uc b) 1 1]).run prog w=.ok (Uf (Uc q) (p.length+1) cap) k/\k.ownsRow lo 9 1 (Uf (Uc q) (p.length+1) cap) (p.length+1) (dJ (p++[s]))/\w.grownBy k v.ownBlock/\lo<=q/\(v.ownBlock=Uq q\/q=w.1.size):=by
 have⟨O,hi,A,E,M⟩:=info_parts uE;have⟨v',k,z,m,i,U,y⟩:=run_append_own_at (P:=prog) w lo 31 31 9 O _ 1 16 underlying31 hi A E M rfl oD v p.length _ h (Ub b) 1 1 [Um s] rfl (λj u hj=>by
  match j,hj with
  |0,hj=>simp at hj;rw[<-hj,zM];exact hb
  |j+1,hj=>simp at hj) (λu hu=>by
  simp only[VS,Yr,or_false]at hu;rw[hu];rfl) oL oM oM
 rcases m.2 with⟨g,V⟩|⟨t,o,Q,g,r⟩
 .omega
 rw[g]at z m y;exact⟨t,o,k,z,by rw[SM];exact m,i,(m.lt t rfl).1,y.imp (λe=>e.symm) (λe=>by simpa[Value.ownBlock]using e)⟩
theorem Fy{w:Ur}(h:w.ownsRow lo 9 1 v p.length (dJ p))(hlo:lo<=w.1.size)(hp:p.length<=1048576)(s:ByteArray)(b:Nat)(hb:w.cell? (Ub b)=Uq (Um s)):
  ∃q cap j,(Builtin.append_ #[31,31] 31 #[v,Uf (Uc b) 1 1]).run prog w=.ok (Uf (Uc q) (p.length+1) cap) j/\j.ownsRow lo 9 1 (Uf (Uc q) (p.length+1) cap) (p.length+1) (dJ (p++[s]))/\w.grownBy j v.ownBlock/\lo<=q:=by
 have⟨q,cap,j,k,m,r,u,_⟩:=Tw h hlo hp s b hb;exact⟨q,cap,j,k,m,r,u⟩
theorem tX{w:Ur}{q m cap:Nat}(h:w.ownsRow lo 9 1 (Uf (Uc q) m cap) m (dJ p))(hp:p.length=m):kC w (Uf (Uc q) m cap) p/\Wr w q 9 m (λt=>Um (gS p t)):=by
 unfold dJ at h;rw[hp]at h;have j:=tW h;rw[VM]at j;exact⟨.inr ⟨q,cap,by rw[hp],j.lt,λt ht=>j.cell oM⟩,j⟩
theorem lF{Q:Prop}(h:Q:=by go_wp2_with fail;go_ret;exact⟨cG u.symm,A⟩):Q:=h
theorem Tg(a a':Option Us)(c c':Nat)(p p':List ByteArray)(fl fl':Bool)(r q r' q':Int)(v v':ByteArray)(w:Ur)(hc:p.length<=c)(hc':p'.length<=c')(E:c<=9223372036854775807)(hx':c'<=9223372036854775807)(h:aV w a p)(h':aV w a' p'):
  Cl 56 #[Uo #[Uf a p.length c,Un fl,Ud r,Ud q,Um v],Uo #[Uf a' p'.length c',Un fl',Ud r',Ud q',Um v']] w (Rt w (Un (yes ((⟨p,fl,r,q,v⟩:Lf)=⟨p',fl',r',q',v'⟩)))):=by
 have⟨W,j⟩:=zE ((w.alloc (Uj #[Uf a p.length c,Un fl,Ud r,Ud q,Um v] 101)).alloc (Uj #[Uf a' p'.length c',Un fl',Ud r',Ud q',Um v'] 101));have M:Bl w W:=j▸aU _ _ _;have C:W.cell? (Ub w.1.size)=Uq (Uf a p.length c):=j▸oP;have Z:W.cell? (Ua w.1.size 1)=Uq (Un fl):=j▸oP;have G:W.cell? (Ua w.1.size 2)=Uq (Ud r):=j▸oP;have H:W.cell? (Ua w.1.size 3)=Uq (Ud q):=j▸oP;have I:W.cell? (Ua w.1.size 4)=Uq (Um v):=j▸oP;have D:W.cell? (Ua (w.1.size+1) 0)=Uq (Uf a' p'.length c'):=j▸oP;have J:W.cell? (Ua (w.1.size+1) 1)=Uq (Un fl'):=j▸oP;have K:W.cell? (Ua (w.1.size+1) 2)=Uq (Ud r'):=j▸oP;have L:W.cell? (Ua (w.1.size+1) 3)=Uq (Ud q'):=j▸oP;have N:W.cell? (Ua (w.1.size+1) 4)=Uq (Um v'):=j▸oP;have b:=aC M;have O:=aC (zJ p p' a a' c c' W hc hc' E hx' (h.bw M) (h'.bw M));have g:aA (yes ((⟨p,fl,r,q,v⟩:Lf)=⟨p',fl',r',q',v'⟩)=true↔aW p p'=0/\fl=fl'/\r=r'/\q=q'/\v=v'):=aC (by
  rw[tU];constructor
  .intro e;have e:(⟨p,fl,r,q,v⟩:Lf)=⟨p',fl',r',q',v'⟩:=Classical.byContradiction λhn=>by rw[aJ hn]at e;cases e
   injection e with Q t U e4 e5;exact⟨Q,t,U,e4,e5⟩
  .rintro⟨rfl,rfl,rfl,rfl,rfl⟩;exact aN rfl)
 have⟨B,V⟩:=zE (yes ((⟨p,fl,r,q,v⟩:Lf)=⟨p',fl',r',q',v'⟩));have⟨x,E⟩:=zE (aW p p');rw[V,E]at g;rw[E]at O;rw[V];clear M h h' V E;go_enter func56,ntmps56;go_wp2_with fail;clear j;refine O.mono ?_;rintro e w1⟨rfl,k,m⟩;have F:w1.cell? (Ua w.1.size 1)=Uq (Un fl):=by rw[m];exact Z
 have P:w1.cell? (Ua w.1.size 2)=Uq (Ud r):=by rw[m];exact G
 have R:w1.cell? (Ua w.1.size 3)=Uq (Ud q):=by rw[m];exact H
 have S:w1.cell? (Ua w.1.size 4)=Uq (Um v):=by rw[m];exact I
 have T:w1.cell? (Ua (w.1.size+1) 1)=Uq (Un fl'):=by rw[m];exact J
 have Ha:w1.cell? (Ua (w.1.size+1) 2)=Uq (Ud r'):=by rw[m];exact K
 have Hb:w1.cell? (Ua (w.1.size+1) 3)=Uq (Ud q'):=by rw[m];exact L
 have Hc:w1.cell? (Ua (w.1.size+1) 4)=Uq (Um v'):=by rw[m];exact N
 have A:aA (Bl w w1):=aC (by rw[m];exact⟨b.os,b.tape,b.output,b.size,b.block⟩);clear m C Z G H I D J K L N O b;have z:¬(x=0/\fl=fl'/\r=r'/\q=q'/\v=v')->aA (B=false):=λhn=>aC (by
  cases hb:B with
  |false=>rfl
  |true=>exact absurd (g.1 hb) hn)
 by_cases y:x=0
 .have X:(x==0)=true:=by simp[y]
  by_cases o:fl=fl'
  .have Q:(fl==fl')=true:=(by simp[o]);have Y:∀w:Ur,(binOp .eql 99 (Uo #[Ud r,Ud q]) (Uo #[Ud r',Ud q'])).run prog w=.ok (Un (r==r'&&q==q')) w:=λw=>Sr r q r' q' w;by_cases i:r=r'/\q=q'
   .have t:(r==r'&&q==q')=true:=(by simp[i]);rw[t]at Y;by_cases s:v=v'
    .have U:(v.toList==v'.toList)=true:=(by simp[s]);have u:aA (B=true):=aC<|g.2 ⟨y,o,i.1,i.2,s⟩;clear g z t y o i s;exact lF
    .have U:(v.toList==v'.toList)=false:=(by simpa using λh=>s (sO h));have u:=z<|λh=>s h.2.2.2.2;clear g z t y o i s;exact lF
   .have t:(r==r'&&q==q')=false:=by
     cases hb:(r==r'&&q==q')with
     |false=>rfl
     |true=>exact absurd (oU hb) i
    rw[t]at Y;have u:=z<|λh=>i ⟨h.2.2.1,h.2.2.2.1⟩;clear g z t y o i;exact lF
  .have Q:(fl==fl')=false:=oU o;have u:=z<|λh=>o h.2.1;clear g z y o;exact lF
 .have X:(x==0)=false:=oU y;have u:=z<|λh=>y h.1;clear g z y;exact lF
theorem LI(a a':Option Us)(c c':Nat)(l:List Lf)(p':List ByteArray)(fl':Bool)(r' q':Int)(v':ByteArray)(w:Ur)(hl:l.length<=1048576)(hc':p'.length<=c')(hx':c'<=9223372036854775807)(h:dH w a l)(h':aV w a' p'):
  Cl 81 #[Uf a l.length c,Uo #[Uf a' p'.length c',Un fl',Ud r',Ud q',Um v']] w λe w'=>(∃i:Int,e=Ui (Ud i)/\(0<=i↔(⟨p',fl',r',q',v'⟩:Lf)∈l))/\Bl w w':=by
 generalize Q:w.alloc (Uj #[Uf a' p'.length c',Un fl',Ud r',Ud q',Um v'] 101)=W;have O:Bl w W:=Q▸zO _ _;have X0:aF W w.1.size (Uf a' p'.length c') (Un fl') (Ud r') (Ud q') (Um v'):=Q▸aF.new _ _ _ _ _ _ _;have HX:=aC X0;have P:=aC O;have HL:=aC<|h.bw O;have HP:=aC<|h'.bw O;have T:=aC<|And.intro hc' hx';go_enter func81,ntmps81;go_wp2_with fail;go_loopw [5] (λi wr=>∃j:Nat,j<=l.length/\i=Ud j/\aA (Bl W wr)/\aA (∀t,t<j->gL l t≠⟨p',fl',r',q',v'⟩)) (λi _=>l.length-(intOf i).toNat);case atStart=>exact⟨0,UB _,rfl,aC zI,aC (λt J=>oM)⟩
 case round=>
  obtain⟨j,hj,rfl,m,Y⟩:=hrel;by_cases I:j<l.length
  .have i1:(0:Int)<=(j:Int):=VH _;have i2:(j:Int)<(l.length:Int):=oM;obtain⟨b,off,rfl,hb,Ha⟩:=(HL.bw m).resolve_left oM;have⟨pa,pc,⟨g,d0⟩,sg,s,A,E,M⟩:=Ha j I;have u:=aC (λw1 (k:Bl wr w1)=>Tg pa a' pc c' (gL l j).p p' (gL l j).fl fl' (gL l j).r (gL l j).q r' q' (gL l j).v v' w1 d0.1 T.1 d0.2 T.2 (sg.bw k) ((HP.bw m).bw k));generalize L:gL l j=y;have HY:=aC L;rw[L]at g s A E M u;have⟨X,N,D,C,F⟩:=y;dsimp only at g s A E M u;generalize H:yes ((⟨X,N,D,C,F⟩:Lf)=⟨p',fl',r',q',v'⟩)=B;have S:=aC H;rw[H]at u;have Z:=HX.bw m HX.lt;have U:aA (∀w',Bl wr w'->(w'.cell? (Ua b (off+j*5))=Uq (Uf pa X.length pc)/\w'.cell? (Ua b (off+j*5+1))=Uq (Un N)/\w'.cell? (Ua b (off+j*5+2))=Uq (Ud D)/\w'.cell? (Ua b (off+j*5+3))=Uq (Ud C)/\w'.cell? (Ua b (off+j*5+4))=Uq (Um F)/\w'.cell? (Ub w.1.size)=Uq (Uf a' p'.length c')/\w'.cell? (Ua w.1.size 1)=Uq (Un fl')/\w'.cell? (Ua w.1.size 2)=Uq (Ud r')/\w'.cell? (Ua w.1.size 3)=Uq (Ud q')/\w'.cell? (Ua w.1.size 4)=Uq (Um v'))):=aC (λw' k=>by
    have q:=λo=>k.cell (p:=(Ua b o)) hb;have z:=Z.bw k Z.lt;exact⟨(q _).trans g,(q _).trans s,(q _).trans A,(q _).trans E,(q _).trans M,z.c0,z.c1,z.c2,z.c3,z.c4⟩)
   go_wp2_with fail;refine zS U<|λqh=>?_;refine tY 0 12 ?_;refine tY 2 14 ?_;refine tZ 4 16 ?_;refine cZ 5 ?_;intro K hK;go_simp;refine(u _ zI.drew).mono ?_;rintro e w1⟨rfl,k⟩;have G:Bl wr w1:=⟨k.os,k.tape,k.output,k.size,k.block⟩;refine bZ hK (U _ G)<|λqh=>?_;refine zD ?_;have R:=aC<|m.trans (G.mono m.size);cases B with
   |true=>
    have V:aA ((⟨p',fl',r',q',v'⟩:Lf)∈l):=aC (by
     have e:(⟨X,N,D,C,F⟩:Lf)=⟨p',fl',r',q',v'⟩:=Classical.byContradiction λhn=>by have:=S.out;rw[aJ hn]at this;cases this
     rw[<-e,<-HY.out];exact bJ.2 ⟨j,I,rfl⟩)
    go_wp2_with fail;go_ret;exact⟨⟨(j:Int),rfl,⟨λ_=>V.out,λ_=>i1⟩⟩,aE P R⟩
   |false=>
    have Hb:aA (∀t,t<j+1->gL l t≠⟨p',fl',r',q',v'⟩):=aC (λt J=>by
     by_cases e:t=j
     .rw[e,HY.out];intro e2;have:=S.out;rw[aN e2]at this;cases this
     .exact Y t oM)
    go_wp2_with fail;go_roundw;case rel=>exact⟨j+1,I,oN,R,Hb⟩
    case measure=>exact oE
  .obtain rfl:j=l.length:=oM;have V:aA (¬(⟨p',fl',r',q',v'⟩:Lf)∈l):=aC (λhm=>by
    have⟨t,J,e⟩:=bJ.1 hm;exact Y t J e)
   go_wp2_with fail;go_ret;exact⟨⟨-1,rfl,⟨λh=>oM,λh=>absurd h V⟩⟩,aE P m⟩
theorem LC.cast{w:Ur}{P Q P' Q':Nat->Nat}(h:LC w lo v l P Q)(e:∀i,i<l.length->P' i=P i/\Q' i=Q i):LC w lo v l P' Q':=by
 refine⟨?_,λi hi=>?_⟩
 .have:(Vb (l.length*5)).map (eH l P' Q')=(Vb (l.length*5)).map (eH l P Q):=Ye λj hj=>by
   have q:j<l.length*5:=oU hj;have⟨k,m⟩:=e (j/5) oM;unfold eH;rw[k,m]
  rw[this];exact h.row
 .have⟨k,m⟩:=e i hi;rw[k,m];exact h.pt i hi
theorem Ml{y:Lf}:∀{ls:List Lf}{k:Nat},k<=ls.length->(∀i,i<k->aY (gL ls i) y<0)->(k<ls.length->¬aY (gL ls k) y<0)->dS y ls=ls.take k++y::ls.drop k
 |[],k,hk,_,_=>by
  obtain rfl:k=0:=oU hk;simp[dS]
 |x::r,0,_,_,j=>by
  have j:=j oP;have e:gL (x::r) 0=x:=rfl;rw[e]at j;simp only[dS];rw[if_neg (by rw[aJ j];simp)];simp
 |x::r,k+1,hk,h1,j=>by
  have e:gL (x::r) 0=x:=rfl;have m:=h1 0 oM;rw[e]at m;simp only[dS];rw[if_pos (aN m),Ml (ls:=r) (k:=k) (oU hk) (λi hi=>h1 (i+1) oM) (λhh=>j oS)];simp
theorem LC.cell{w:Ur}{cap:Nat}{P Q:Nat->Nat}(h:LC w lo (Uf (Uc g) n cap) l P Q)(hn:n=l.length)(hi:i<l.length):
  w.cell? (Ua g (i*5))=Uq (Uf (Uq ⟨P i,0,Up⟩) (gL l i).p.length (Q i))/\w.cell? (Ua g (i*5+1))=Uq (Un (gL l i).fl)/\w.cell? (Ua g (i*5+2))=Uq (Ud (gL l i).r)/\w.cell? (Ua g (i*5+3))=Uq (Ud (gL l i).q)/\w.cell? (Ua g (i*5+4))=Uq (Um (gL l i).v):=by
 subst hn;have j:=tW h.row;have⟨k,m,u,y,z⟩:=Ba l P Q i;exact⟨by rw[j.cell oM,k],by rw[j.cell oM,m],by rw[j.cell oM,u],by rw[j.cell oM,y],by rw[j.cell oM,z]⟩
theorem LC.seg{w:Ur}{P Q:Nat->Nat}(h:LC w lo v l P Q)(hi:i<l.length):aV w (Uq ⟨P i,0,Up⟩) (gL l i).p:=by
 have⟨m,j,q,k,r⟩:=h.pt i hi;exact .inr ⟨P i,0,rfl,j,λt ht=>by rw[UA];exact k.cell ht⟩
theorem LC.lt{w:Ur}{P Q:Nat->Nat}(h:LC w lo v l P Q):∀g,v.ownBlock=Uq g->lo<=g/\g<w.1.size:=λg hg=>h.row.lt g hg
theorem LC.low{w:Ur}{lo':Nat}{P Q:Nat->Nat}(h:LC w lo v l P Q)(hl:lo'<=lo):LC w lo' v l P Q:=⟨oF h.row hl,λi hi=>by have⟨j,k⟩:=h.pt i hi;exact⟨Uz hl j,k⟩⟩
theorem LC.cap{w:Ur}{lo g n cap:Nat}{l:List Lf}{P Q:Nat->Nat}(h:LC w lo (Uf (Uc g) n cap) l P Q):l.length<=cap/\cap<=9223372036854775807:=by
 rcases h.row.2 with⟨j,_⟩|⟨u,q,r,m,o,t,v,k,y,z⟩
 .cases j
 .injection m with e1 e2 e3;unfold maxLen at k;omega
theorem LC.rest{w:Ur}{P Q:Nat->Nat}(h:LC w lo v l P Q)(hlo:lo<=w.1.size)(l':List Lf)(P' Q':Nat->Nat)(g k m c off:Nat)(hk:k+m=l'.length)(hl:l.length+m<=1048576)(hoff:0<m->off=k*5)(hC:∀j,j<l'.length*5->w.cell? (Ua g j)=Uq (eH l' P' Q' j))(hp:∀i,i<l'.length->lo<=P' i/\P' i<w.1.size/\Uq (P' i)≠v.ownBlock/\Wr w (P' i) 9 (gL l' i).p.length (λt=>Um (gS (gL l' i).p t))/\(gL l' i).p.length<=Q' i/\Q' i<=9223372036854775807)(hv:v≠Ue):
  ∃y o M,(Builtin.append_ #[23,23] 23 #[v,Uf (Uq (Ua g off)) m c]).run prog w=.ok (Uf (Uc y) (l.length+m) o) M/\
   LC M lo (Uf (Uc y) (l.length+m) o) (l++l'.drop k) (λi=>if i<l.length then P i else P' (k+(i-l.length))) (λi=>if i<l.length then Q i else Q' (k+(i-l.length)))/\Gr w M v (Uf (Uc y) (l.length+m) o):=by
 have⟨i0,hi,S,T,W⟩:=info_parts yZ;have R:∀j,(eH l' P' Q' j).oneCell'=true:=λj=>by unfold eH;split;rfl;split;rfl;split;rfl;split;rfl;rfl
 have⟨v',M,N,Z,V,B,A⟩:=run_append_own_at (P:=prog) w lo 23 23 101 i0 _ 5 64 underlying23 hi S T W rfl oD v l.length _ h.row (Ua g off) m c ((Vb (m*5)).map λj=>eH l' P' Q' (k*5+j)) oP (λj u s=>by
  simp only[Yq,Yv]at s;obtain⟨q,E,rfl⟩:=s;have F:j<m*5:=by
   rcases Nat.lt_or_ge j (m*5)with h|h
   .exact h
   .rw[UT (oU h)]at E;cases E
  rw[Yp F]at E;have E:=Option.some.inj E;rw[<-E,zM,hoff oM];exact hC _ oM) (λu hu=>by
  obtain⟨j,s,rfl⟩:=List.mem_map.1 hu;exact R _) oL oM hlo
 rcases Z.2 with⟨G,h0⟩|⟨y,o,Ha,G,r⟩
 .exact absurd (B.1 G).1 hv
 rw[G]at N Z A;have L:Uq y=v.ownBlock\/y=w.1.size:=by
  rcases A with A|A
  .exact .inl (by simpa[Value.ownBlock]using A)
  .exact .inr (by simpa[Value.ownBlock]using A)
 have Hb:=V.size;have C:Gr w M v (Uf (Uc y) (l.length+m) o):=by
  refine⟨V,?_⟩;rcases L with e|e
  .exact .inl e
  .exact .inr ⟨y,rfl,oM⟩
 have J:(l++l'.drop k).length=l.length+m:=oS;have K:∀b,Uq b≠v.ownBlock->b<w.1.size->Uq b≠(Value.slice (Uc y) (l.length+m) o).ownBlock:=λb hb1 hb2 e=>by
  have e:b=y:=by simpa[Value.ownBlock]using e
  rcases L with z|z
  .exact hb1 (by rw[e];exact z)
  .omega
 have H:∀i,i<l.length->gL (l++l'.drop k) i=gL l i:=λi hi=>by simp[gL,UL,Yn hi]
 have I:∀i,l.length<=i->gL (l++l'.drop k) i=gL l' (k+(i-l.length)):=λi hi=>by simp[gL,UL,List.getElem?_append_right hi]
 refine⟨y,o,M,N,⟨?_,λi hi=>?_⟩,C⟩
 .rw[J];have X:(Vb ((l.length+m)*5)).map (eH (l++l'.drop k) (λi=>if i<l.length then P i else P' (k+(i-l.length))) (λi=>if i<l.length then Q i else Q' (k+(i-l.length))))=(Vb (l.length*5)).map (eH l P Q)++(Vb (m*5)).map λj=>eH l' P' Q' (k*5+j):=by
   rw[Nat.add_mul,List.range_add,UN,List.map_map];congr 1
   .refine Ye λj s=>?_;have D:j<l.length*5:=oU s;unfold eH;rw[H (j/5) oM];dsimp only;rw[if_pos (show j/5<l.length by omega),if_pos (show j/5<l.length by omega)]
   .refine Ye λj s=>?_;have D:j<m*5:=oU s;simp only[Function.comp];unfold eH;rw[I ((l.length*5+j)/5) oM];dsimp only;rw[if_neg (show¬(l.length*5+j)/5<l.length by omega),if_neg (show¬(l.length*5+j)/5<l.length by omega),show k+((l.length*5+j)/5-l.length)=(k*5+j)/5 by omega,show(l.length*5+j)%5=(k*5+j)%5 by omega]
  rw[X];exact Z
 .by_cases e:i<l.length;simp only[if_pos e];rw[H i e];have⟨Y,z,O,U⟩:=h.pt i e;rotate_left;simp only[if_neg e];rw[I i oM];have⟨Y,z,O,U⟩:=hp (k+(i-l.length)) (by rw[J]at hi;omega);rotate_left;all_goals exact⟨Y,oM,K _ O z,U.1.same (V.block _ z O),U.2⟩
theorem jK{q:Nat}(h:(Value.slice (Uc q) n c).ownBlock=Uq k):q=k:=by simpa[Value.ownBlock]using h
theorem xE{Q:Prop}(h:Q:=by go_wp2_with (first|(at_builtin;refine cL rfl _ _ _ _ rfl J (by rfl) (by rfl) rfl ?_;clear J)|(at_builtin;refine cL rfl _ _ _ _ rfl L (by rfl) (by rfl) rfl ?_;clear L));go_ret;first|exact⟨⟨u,H,rfl,Y,s,A,by rw[I.out];exact V⟩,U⟩|exact⟨⟨u,H,s,A,rfl,Y,by rw[I.out];exact V⟩,U⟩|exact⟨⟨u,H,rfl,s,A,Y,by rw[I.out];exact V⟩,U⟩):Q:=h
theorem Cm(g cap:Nat)(l:List Lf)(P Q:Nat->Nat)(w:Ur)(lo pb pc:Nat)(yp:List ByteArray)(yf:Bool)(yr yq:Int)(yv:ByteArray)(h:LC w lo (Uf (Uc g) l.length cap) l P Q)(hlo:lo<=w.1.size)(hl:l.length<=100000)(hpl:∀i,i<l.length->(gL l i).p.length<=1048576)(hyl:yp.length<=1048576)(hy1:lo<=pb/\pb<w.1.size)(hyw:Wr w pb 9 yp.length (λt=>Um (gS yp t)))(hpc:yp.length<=pc/\pc<=9223372036854775807):
  Cl 82 #[Uf (Uc g) l.length cap,Uo #[Uf (Uc pb) yp.length pc,Un yf,Ud yr,Ud yq,Um yv]] w λe w'=>(∃g' cap' s A,e=Ui (Uf (Uc g') (l.length+1) cap')/\w.1.size<=g'/\LC w' lo (Uf (Uc g') (l.length+1) cap') (dS ⟨yp,yf,yr,yq,yv⟩ l) s A)/\Bl w w':=by
 generalize hW:(w.alloc (Uj #[Uf (Uc pb) yp.length pc,Un yf,Ud yr,Ud yq,Um yv] 101)).alloc (Uj #[] 101)=W;have b0:Bl w W:=hW▸aU _ _ _;have X0:aF W w.1.size (Uf (Uc pb) yp.length pc) (Un yf) (Ud yr) (Ud yq) (Um yv):=hW▸(aF.new _ _ _ _ _ _ _).up _;have zW:W.1.size=w.1.size+2:=hW▸oP;have Ht:LC W w.1.size (Uf (Uq (Ua (w.1.size+1) 0)) 0 0) [] P Q:=by
  refine⟨?_,λi hi=>by simp at hi⟩;have:=Vo (base:=w.1.size) (e:=101) (size:=5) (w.alloc (Uj #[Uf (Uc pb) yp.length pc,Un yf,Ud yr,Ud yq,Um yv] 101)) #[] 0 oP oL rfl;rw[hW]at this;simpa using this
 have hg:=(h.lt g rfl).2;have HH:=aC h;have HX:=aC X0;have Hs:=aC hyw;have HY:=aC (And.intro hy1 hpc);have H4:=aC hpl;have Hj:=aC hlo;have Hn:=aC Ht;have H7:=h.cap;have Hr:aA (∀i,i<l.length->lo<=P i/\P i<w.1.size):=aC (λi hi=>⟨(h.pt i hi).1,(h.pt i hi).2.1⟩);have H0:=aC hg;have H5:=aC zW;have Hy:=aC b0;have H1:aA (∀wr q k b,Gr W wr (Uf (Uq (Ua (w.1.size+1) 0)) 0 0) (Uf (Uc q) k b)->Bl w wr/\aF wr w.1.size (Uf (Uc pb) yp.length pc) (Un yf) (Ud yr) (Ud yq) (Um yv)/\w.1.size<q):=aC (λwr q k b hG=>by
  have hz:=H5.out;have hs:=hG.g.size;have e:=hG.g.block w.1.size oM<|λe=>oH (jK e.symm);refine⟨Hy.trans (hG.bw oM (λk N=>oH (jK N))),?_,?_⟩
  .have q:=λo=>Vy (w:=W) (w':=wr) (a:=(Ua w.1.size o)) e;exact⟨(q 0).trans HX.c0,(q 1).trans HX.c1,(q 2).trans HX.c2,(q 3).trans HX.c3,(q 4).trans HX.c4,λi=>(Vz (a:=(Ua w.1.size i)) e).trans (HX.f i),oH HX.lt⟩
  .rcases hG.l with E|⟨j,E,h2⟩
   .have:=jK (k:=w.1.size+1) E;omega
   .have:=jK E;omega)
 have Hp:aA (∀w1 k q b,k<=l.length->LC w1 lo (Uf (Uc q) k b) (l.take k) P Q->Bl w w1->w.1.size<q->∃z y M,(Builtin.append_ #[23,23] 23 #[Uf (Uc q) k b,Uf (Uc w1.1.size) 1 1]).run prog (w1.alloc (Uj #[Uf (Uc pb) yp.length pc,Un yf,Ud yr,Ud yq,Um yv] 101))=.ok (Uf (Uc z) (k+1) y) M/\Bl w M/\w.1.size<=z/\
   ∀off c',(k<l.length->off=k*5)->∃u G R s A,(Builtin.append_ #[23,23] 23 #[Uf (Uc z) (k+1) y,Uf (Uq (Ua g off)) (l.length-k) c']).run prog M=.ok (Uf (Uc u) (l.length+1) G) R/\Bl w R/\w.1.size<=u/\LC R lo (Uf (Uc u) (l.length+1) G) (l.take k++(⟨yp,yf,yr,yq,yv⟩:Lf)::l.drop k) s A):=aC (λw1 k q b N hLC O hq=>by
  have He:(l.take k).length=k:=oS;have hY:=HY.out;have H6:=O.size;have⟨z,y,M,e1,e2,e3⟩:=hLC.app zI (oH Hj) (by rw[He];omega) ⟨yp,yf,yr,yq,yv⟩ pb pc hY.1.1 oM (λe=>oH (jK e.symm)) (Hs.same (O.block pb hY.1.2)) hY.2;rw[He]at e1 e2 e3;have b3:Bl w M:=O.trans<|e3.bw H6 (λk N=>oH (jK N));have Hh:w.1.size<=z:=by
   rcases e3.l with E|⟨j,E,h2⟩
   .have:=jK (k:=q) E;omega
   .have:=jK E;omega
  refine⟨z,y,M,e1,b3,Hh,λoff c' hoff=>?_⟩;have Hu:=HH.bw b3;have Ga:=tW Hu.row;have Hx:(l.take k++[(⟨yp,yf,yr,yq,yv⟩:Lf)]).length=k+1:=oS;have⟨u,G,R,f1,f2,f3⟩:=e2.rest (oJ b3.size Hj) l P Q g k (l.length-k) c' off oM (by rw[Hx];omega) (λhm=>hoff oM) (λj hj=>Ga.cell hj) (λi hi=>by
   have⟨x1,x2,x3,x4⟩:=Hu.pt i hi;have:=Hr i hi;exact⟨x1,x2,λe=>oH (jK e.symm),x4⟩) oP
  rw[Hx,show k+1+(l.length-k)=l.length+1 by omega]at f1 f2 f3;have X:w.1.size<=u:=by
   rcases f3.l with E|⟨j,E,h2⟩
   .have:=jK (k:=z) E;omega
   .have:=jK E;have:=b3.size;omega
  rw[Ve,List.singleton_append]at f2;exact⟨u,G,R,_,_,f1,b3.trans (f3.bw b3.size (λk N=>oH (jK N))),X,f2⟩)
 go_enter func82,ntmps82;go_wp2_with fail;go_loopw [5,6] (λb' i wr=>∃(k q b:Nat),k<=l.length/\i=Ud k/\b'=Uf (Uc q) k b/\aA (∀j,j<k->aY (gL l j) ⟨yp,yf,yr,yq,yv⟩<0)/\aA (LC wr lo (Uf (Uc q) k b) (l.take k) P Q)/\aA (Gr W wr (Uf (Uq (Ua (w.1.size+1) 0)) 0 0) (Uf (Uc q) k b))) (λ_ i _=>l.length-(intOf i).toNat);case atStart=>exact⟨0,_,0,UB _,rfl,rfl,aC (λj hj=>oM),aC (oU (Hn.low Hj)),aC (Gr.refl _ _)⟩
 case round=>
  obtain⟨k,q,b,N,rfl,rfl,HJ,T,HG⟩:=hrel;have H9:=T.cap;have He:(l.take k).length=k:=oS;rw[He]at H9;have i1:(0:Int)<=(k:Int):=VH _;have⟨bR,xR,hq⟩:=H1 wr q k b HG;have C:=aC bR;have Hk:=aC xR;have HQ:=aC hq;have Hq:=aC He;by_cases Hb:k<l.length;focus
   have i2:(k:Int)<(l.length:Int):=oM;have Hm:=HH.bw C;have⟨c0,c1,c2,y,G⟩:=Hm.cell rfl Hb;have⟨p1,p2,p3,p4,p5⟩:=Hm.pt k Hb;have Hg:=aC (λw1 (m:Bl wr w1)=>Xt (Uq ⟨P k,0,Up⟩) (Uc pb) (Q k) pc (gL l k).p yp (gL l k).fl yf (gL l k).r (gL l k).q yr yq (gL l k).v yv w1 (H4 k Hb) hyl p5.1 HY.2.1 p5.2 HY.2.2 ((Hm.seg Hb).bw m) (.inr ⟨pb,0,rfl,by have E:=HY.1.2;have h2:=C.size;have h3:=m.size;omega,λt ht=>by rw[UA];exact((Hs.same (C.block pb HY.1.2)).same (m.block pb (by have E:=HY.1.2;have h2:=C.size;omega))).cell ht⟩));have Hf:aA (∀w1,Bl wr w1->∃z y M,(Builtin.append_ #[23,23] 23 #[Uf (Uc q) k b,Uf (Uc w1.1.size) 1 1]).run prog (w1.alloc (Uj #[Uf (Uq ⟨P k,0,Up⟩) (gL l k).p.length (Q k),Un (gL l k).fl,Ud (gL l k).r,Ud (gL l k).q,Um (gL l k).v] 101))=.ok (Uf (Uc z) (k+1) y) M/\LC M lo (Uf (Uc z) (k+1) y) (l.take (k+1)) P Q/\Gr w1 M (Uf (Uc q) k b) (Uf (Uc z) (k+1) y)):=aC (λw1 m=>by
    have⟨z,y,M,e1,e2,e3⟩:=T.app m (oJ Hj C.size) (by rw[Hq.out];omega) (gL l k) (P k) (Q k) p1 (oH m.size) (λe=>by have:=jK e.symm;have E:=(Hr k Hb).2;have h2:=HQ.out;omega) (p4.same (m.block _ p2)) p5;rw[Hq.out]at e1 e2 e3;refine⟨z,y,M,e1,?_,e3⟩;have et:l.take (k+1)=l.take k++[gL l k]:=(by rw[Vc];simp[gL,UL,Hb]);rw[et];exact e2.cast λi hi=>by
     by_cases e:i=k
     .rw[if_pos e,if_pos e,e];exact⟨rfl,rfl⟩
     .rw[if_neg e,if_neg e];exact⟨rfl,rfl⟩)
   have Hc:aA (yes (aY (gL l k) ⟨yp,yf,yr,yq,yv⟩<0)=true->∀j,j<k+1->aY (gL l j) ⟨yp,yf,yr,yq,yv⟩<0):=aC (λO j hj=>by
    by_cases e:j=k
    .rw[e];exact Classical.byContradiction λhn=>by rw[aJ hn]at O;cases O
    .exact HJ j oM)
   have Hd:aA (yes (aY (gL l k) ⟨yp,yf,yr,yq,yv⟩<0)=false->dS ⟨yp,yf,yr,yq,yv⟩ l=l.take k++(⟨yp,yf,yr,yq,yv⟩:Lf)::l.drop k):=aC (λO=>Ml N HJ (λ_ hn=>by rw[aN hn]at O;cases O));have D:aA (∀w',Bl wr w'->(w'.cell? (Ua g (k*5))=Uq (Uf (Uq ⟨P k,0,Up⟩) (gL l k).p.length (Q k))/\w'.cell? (Ua g (k*5+1))=Uq (Un (gL l k).fl)/\w'.cell? (Ua g (k*5+2))=Uq (Ud (gL l k).r)/\w'.cell? (Ua g (k*5+3))=Uq (Ud (gL l k).q)/\w'.cell? (Ua g (k*5+4))=Uq (Um (gL l k).v)/\w'.cell? (Ub w.1.size)=Uq (Uf (Uc pb) yp.length pc)/\w'.cell? (Ua w.1.size 1)=Uq (Un yf)/\w'.cell? (Ua w.1.size 2)=Uq (Ud yr)/\w'.cell? (Ua w.1.size 3)=Uq (Ud yq)/\w'.cell? (Ua w.1.size 4)=Uq (Um yv))):=aC (λw' m=>by
    have H8:g<wr.1.size:=(by have E:=H0.out;have h2:=C.size;omega);have q:=λo=>m.cell (p:=(Ua g o)) H8;have Z:=Hk.bw m Hk.lt;exact⟨(q _).trans c0,(q _).trans c1,(q _).trans c2,(q _).trans y,(q _).trans G,Z.c0,Z.c1,Z.c2,Z.c3,Z.c4⟩)
   generalize hx:gL l k=x;generalize Hv:P k=Pk;generalize Hw:Q k=Qk;rw[hx,Hv,Hw]at Hg Hf D;rw[hx]at Hc Hd;have⟨xp,xf,xr,xq,xv⟩:=x;dsimp only at Hg Hf D Hc Hd;generalize O:yes (aY (⟨xp,xf,xr,xq,xv⟩:Lf) ⟨yp,yf,yr,yq,yv⟩<0)=B;rw[O]at Hg Hc Hd;go_wp2_with fail;refine zR (S:=λw'=>w'.cell? (Ua g (k*5))=Uq (Uf (Uc Pk) xp.length Qk)/\w'.cell? (Ua g (k*5+1))=Uq (Un xf)/\w'.cell? (Ua g (k*5+2))=Uq (Ud xr)/\w'.cell? (Ua g (k*5+3))=Uq (Ud xq)/\w'.cell? (Ua g (k*5+4))=Uq (Um xv)/\w'.cell? (Ub w.1.size)=Uq (Uf (Uc pb) yp.length pc)/\w'.cell? (Ua w.1.size 1)=Uq (Un yf)/\w'.cell? (Ua w.1.size 2)=Uq (Ud yr)/\w'.cell? (Ua w.1.size 3)=Uq (Ud yq)/\w'.cell? (Ua w.1.size 4)=Uq (Um yv)) (D _ zI.drew)<|λqh=>?_
  rotate_left;focus
   obtain rfl:k=l.length:=oM;have I:aA (dS ⟨yp,yf,yr,yq,yv⟩ l=l.take l.length++(⟨yp,yf,yr,yq,yv⟩:Lf)::l.drop l.length):=aC (Ml zL HJ (λh=>oM));have D:aA (∀w',Bl wr w'->(w'.cell? (Ub w.1.size)=Uq (Uf (Uc pb) yp.length pc)/\w'.cell? (Ua w.1.size 1)=Uq (Un yf)/\w'.cell? (Ua w.1.size 2)=Uq (Ud yr)/\w'.cell? (Ua w.1.size 3)=Uq (Ud yq)/\w'.cell? (Ua w.1.size 4)=Uq (Um yv))):=aC (λw' m=>by
    have Z:=Hk.bw m Hk.lt;exact⟨Z.c0,Z.c1,Z.c2,Z.c3,Z.c4⟩)
   go_wp2_with fail;refine zR (S:=λw'=>True) trivial<|λqh=>?_
  rotate_left;all_goals refine tY 0 9 ?_;refine tY 2 11 ?_;refine tZ 4 13 ?_
  .refine tY 5 14 ?_;refine tY 7 16 ?_;refine tZ 9 18 ?_;refine cZ 10 ?_;intro K hK;go_simp;refine(Hg _ zI.drew).mono ?_;rintro e w1⟨rfl,m⟩;have Hl:Bl wr w1:=⟨m.os,m.tape,m.output,m.size,m.block⟩;refine bZ hK (D _ Hl)<|λqh=>?_;refine tZ 11 20 ?_;refine zD ?_;have Hi:=aC Hl;have⟨c0,c1,c2,y,G,y0,y1,y2,y3,y4⟩:=D _ Hl;cases B with
   |true=>
    have⟨z,Ho,M,J,l3,g3⟩:=Hf w1 Hi;have H3:=aC l3;have Hz:=aC<|(HG.trans (Gr.of_below Hi)).trans g3;have H2:=aC<|Hc rfl;go_wp2_with (at_builtin;refine cL rfl _ _ _ _ rfl J (by rfl) (by rfl) rfl ?_;clear J);go_roundw;case rel=>exact⟨k+1,z,Ho,Hb,oN,rfl,H2,H3,Hz⟩
    case measure=>exact oE
   |false=>have I:=aC (Hd rfl);have⟨z,Ho,M,J,b3,Hh,Ha⟩:=Hp w1 k q b N (T.bw Hi) (C.trans (Hi.mono C.size)) HQ;have⟨u,H,R,s,A,L,b4,X,F⟩:=Ha (k*5) (cap-k) (λ_=>rfl);have U:=aC b4;have V:=aC F;have Y:=aC X;exact xE
  .refine uZ 5 14 ?_;refine uZ 6 15 ?_;refine uZ 7 16 ?_;refine uZ 8 17 ?_;refine uZ 9 18 ?_;refine uZ 10 19 ?_;refine tZ 11 20 ?_;refine zD ?_;have⟨y0,y1,y2,y3,y4⟩:=D _ zI.drew;have⟨z,Ho,M,J,b3,Hh,Ha⟩:=Hp wr.drew l.length q b N (T.bw zI.drew) C.drew HQ;by_cases Gb:l.length<cap;have⟨u,H,R,s,A,L,b4,X,F⟩:=Ha (l.length*5) (cap-l.length) (λ_=>rfl);rw[Nat.sub_self]at L;rotate_left;have⟨u,H,R,s,A,L,b4,X,F⟩:=Ha 0 0 (λh=>oM);rw[Nat.sub_self]at L;obtain rfl:cap=l.length:=oM;rotate_left;all_goals have U:=aC b4;have V:=aC F;have Y:=aC X;exact xE
def mk3(k0 c:Nat)(i:Nat):Int:=((k0+3*i+c:Nat):Int)
def gR(l:List Rn)(i:Nat):Rn:=l.getD i (0,0,0)
def FS(w:Ur)(a:Option Us)(l:List Rn):Prop:=
 l.length=0\/∃g off,a=Uq (Ua g off)/\g<w.1.size/\∀i,i<l.length->w.cell? (Ua g (off+i*3))=Uq (Ud (gR l i).1)/\w.cell? (Ua g (off+i*3+1))=Uq (Ud (gR l i).2.1)/\w.cell? (Ua g (off+i*3+2))=Uq (Ud (gR l i).2.2)
theorem QY{w:Ur}{cap:Nat}{l:List Rn}(h:w.ownsRow B 103 3 (Uf (Uc g) n cap) n (bC l))(hl:l.length=n):
  ∀i,i<n->w.cell? (Ua g (i*3))=Uq (Ud (gR l i).1)/\w.cell? (Ua g (i*3+1))=Uq (Ud (gR l i).2.1)/\w.cell? (Ua g (i*3+2))=Uq (Ud (gR l i).2.2):=by
 intro i hi;have j:∀(l:List Rn) (i:Nat),i<l.length->(bC l)[i*3]? =Uq (Ud (gR l i).1)/\(bC l)[i*3+1]? =Uq (Ud (gR l i).2.1)/\(bC l)[i*3+2]? =Uq (Ud (gR l i).2.2):=by
  intro l;induction l with
  |nil=>intro i hi;simp at hi
  |cons a l ih=>
   intro i hi;cases i with
   |zero=>simp[bC,gR]
   |succ i=>
    have:=ih i (oU hi);have e:bC (a::l)=Ud a.1::Ud a.2.1::Ud a.2.2::bC l:=(by simp[bC]);rw[e,show(i+1)*3=i*3+1+1+1 from by omega];simpa[gR]using this
 rw[h.cellAt _ oM,h.cellAt _ oM,h.cellAt _ oM];exact j l i oM
theorem FR.fs{w:Ur}{l:List Rn}(h:FR w B v l):∃a c,v=Uf a l.length c/\FS w a l/\l.length<=c/\c<=9223372036854775807:=by
 rcases h.2 with⟨e,j⟩|⟨g,cap,r,e,u,_,q,m,_⟩
 .exact⟨Up,0,by rw[e,j],.inl j,oM,oM⟩
 .refine⟨_,cap,e,.inr ⟨g,0,rfl,(World.ownsRow.lt h g (by rw[e];rfl)).2,λi hi=>?_⟩,q,by unfold maxLen at m;omega⟩;have k:w.ownsRow B 103 3 v l.length (bC l):=h;rw[e]at k;rw[UA];exact QY k rfl i hi
theorem Og(l:List Rn):(bC l).length=l.length*3:=by
 induction l with
 |nil=>rfl
 |cons a l ih=>simp[bC]at*;omega
theorem FS.rseg{w:Ur}{l:List Rn}(h:FS w a l):bI w a l.length (λi=>(gR l i).1) (λi=>(gR l i).2.1) (λi=>(gR l i).2.2):=h
theorem FR.gr{w:Ur}{l:List Rn}(h:FR w B v l)(hg:w.grownBy w' row)(hne:∀g,v.ownBlock=Yu g->Yu g≠row):FR w' B v l:=
 World.ownsRow.kept h hg (by
  cases e:v.ownBlock with
  |none=>exact .inl rfl
  |some g=>exact .inr (hne g e))
theorem FR.bw{w:Ur}{l:List Rn}(h:FR w B v l)(hb:Bl w w'):FR w' B v l:=
 h.gr (row:=Up) ⟨hb.os,hb.tape,hb.output,hb.size,λk hk _=>hb.block k hk⟩ oP
def kW(l:List Rn)(r:Rn)(k:Nat):List Rn×Rn×List Rn:=(l.take k).foldl iV ([],r,[])
theorem Mr{l:List Rn}{r:Rn}(h:k<l.length):kW l r (k+1)=iV (kW l r k) (gR l k):=by
 unfold kW;rw[Vc,Ym];simp[gR,UL,h]
theorem Tq(l:List Rn)(r:Rn):kW l r l.length=rP l r:=by unfold kW rP;rw[Vj]
def kJ(p:Rn):Prop:=(-2000000000<=p.1/\p.1<=2000000000)/\(-2000000000<=p.2.1/\p.2.1<=2000000000)/\-2000000000<=p.2.2/\p.2.2<=2000000000
theorem dG.bnd{p:Rn}(h:dG p):kJ p:=by unfold dG at h;unfold kJ;omega
theorem WT{s:List Rn×Rn×List Rn}{q:Rn}(h:kJ s.2.1)(hq:kJ q):kJ (iV s q).2.1:=by
 unfold iV;split
 .exact h
 .split
  .exact h
  .unfold kJ at*;simp only;omega
theorem WS(s:List Rn×Rn×List Rn)(q:Rn):(iV s q).1.length+(iV s q).2.2.length<=s.1.length+s.2.2.length+1:=by
 unfold iV;split
 .simp;omega
 .split
  .simp;omega
  .simp
theorem I7(l:List Rn)(r:Rn):∀k,k<=l.length->(kW l r k).1.length+(kW l r k).2.2.length<=k
 |0,_=>by simp[kW]
 |k+1,h=>by
  rw[Mr oM];have:=WS (kW l r k) (gR l k);have:=I7 l r k oM;omega
theorem rQ{l:List Rn}(h:k<l.length):gR l k∈l:=by simp[gR,UL,h]
theorem Tp{l:List Rn}{r:Rn}(hl:∀p∈l,kJ p)(hr:kJ r):∀k,k<=l.length->kJ (kW l r k).2.1
 |0,_=>by simpa[kW]using hr
 |k+1,h=>by rw[Mr oM];exact WT (Tp hl hr k oM)<|hl _ (rQ oM)
theorem D4{t r' f' f t':Int}:fT r t r' f'=true↔fB (r,f,t) (r',f',t'):=by unfold fT fB;simp
structure IL(w wr:Ur)(u5 u6:aB)(sb:List Rn)(qr qf qt:Int)(sa:List Rn):Prop where
 b:FR wr (w.1.size+1) u5 sb
 a:FR wr (w.1.size+1) u6 sa
 ne:∀g,u5.ownBlock=Uq g->u6.ownBlock≠Uq g
 nb:u5.ownBlock≠Up
 na:u6.ownBlock≠Up
 bel:Bl w wr
 sz:w.1.size+1<=wr.1.size
 c0:wr.cell? (Ub w.1.size)=Uq (Ud qr)
 c1:wr.cell? (Ua w.1.size 1)=Uq (Ud qf)
 c2:wr.cell? (Ua w.1.size 2)=Uq (Ud qt)
 f1:wr.frozen? (Ua w.1.size 1)=false
 f2:wr.frozen? (Ua w.1.size 2)=false
theorem IL.q2{w:Ur}(h:IL w wr u5 u6 sb qr qf qt sa):(wr.cell? (Ub w.1.size)=Uq (Ud qr))/\(wr.cell? (Ua w.1.size 1)=Uq (Ud qf)):=⟨h.c0,h.c1⟩
theorem IL.q3{w:Ur}(h:IL w wr u5 u6 sb qr qf qt sa):(wr.cell? (Ub w.1.size)=Uq (Ud qr))/\(wr.cell? (Ua w.1.size 1)=Uq (Ud qf))/\(wr.cell? (Ua w.1.size 2)=Uq (Ud qt)):=⟨h.c0,h.c1,h.c2⟩
theorem IL.box5{w:Ur}(h:IL w wr u5 u6 sb qr qf qt sa):Uq w.1.size≠u5.ownBlock:=λe=>by have:=(World.ownsRow.lt h.b _ e.symm).1;omega
theorem IL.bw{w:Ur}(h:IL w wr u5 u6 sb qr qf qt sa)(hb:Bl wr w1):IL w w1 u5 u6 sb qr qf qt sa:=by
 have j:=h.sz;have k:=hb.size;exact⟨uR h.b hb,uR h.a hb,h.ne,h.nb,h.na,h.bel.trans (hb.mono oM),oM,(hb.cell (p:=(Ub w.1.size)) (show w.1.size<wr.1.size by omega)).trans h.c0,(hb.cell (p:=(Ua w.1.size 1)) (show w.1.size<wr.1.size by omega)).trans h.c1,(hb.cell (p:=(Ua w.1.size 2)) (show w.1.size<wr.1.size by omega)).trans h.c2,((jG hb).2 w.1.size 1 oM).trans h.f1,((jG hb).2 w.1.size 2 oM).trans h.f2⟩
theorem IL.app5{w:Ur}(h:IL w wr u5 u6 sb qr qf qt sa)(p:Rn)(hown:w1.ownsRow (w.1.size+1) 103 3 v (sb.length+1) (bC sb++[Ud p.1,Ud p.2.1,Ud p.2.2]))
  (hg:wr.grownBy w1 u5.ownBlock) (hloc:v.ownBlock=u5.ownBlock\/v.ownBlock=Uq wr.1.size):IL w w1 v u6 (sb++[p]) qr qf qt sa:=by
 have r:=h.sz;have u:=hg.size;have m:=h.box5;have q:=hg.block w.1.size oM m;refine⟨?_,World.ownsRow.kept h.a hg ?_,λg e1 e2=>?_,?_,h.na,h.bel.grown hg oM (λk hk=>oH ((World.ownsRow.lt h.b k hk).1)),oM,hg.cell h.c0 m,hg.cell h.c1 m,hg.cell h.c2 m,(Vz q).trans h.f1,(Vz q).trans h.f2⟩
 .unfold FR;rw[Ou,UM];exact hown
 .cases e:u6.ownBlock with
  |none=>exact .inl rfl
  |some g=>exact .inr (λe2=>h.ne g e2.symm e)
 .rcases hloc with j|j
  .exact h.ne g (j▸e1) e2
  .rw[j]at e1;injection e1 with e1;have:=(World.ownsRow.lt h.a g e2).2;omega
 .rcases hloc with j|j
  .rw[j];exact h.nb
  .rw[j];simp
theorem IL.app6{w:Ur}(h:IL w wr u5 u6 sb qr qf qt sa)(p:Rn)(hown:w1.ownsRow (w.1.size+1) 103 3 v (sa.length+1) (bC sa++[Ud p.1,Ud p.2.1,Ud p.2.2]))
  (hg:wr.grownBy w1 u6.ownBlock) (hloc:v.ownBlock=u6.ownBlock\/v.ownBlock=Uq wr.1.size):IL w w1 u5 v sb qr qf qt (sa++[p]):=by
 have k:IL w wr u6 u5 sa qr qf qt sb:=⟨h.a,h.b,λg e1 e2=>h.ne g e2 e1,h.na,h.nb,h.bel,h.sz,h.c0,h.c1,h.c2,h.f1,h.f2⟩;have j:=k.app5 p hown hg hloc;exact⟨j.a,j.b,λg e1 e2=>j.ne g e2 e1,j.na,j.nb,j.bel,j.sz,j.c0,j.c1,j.c2,j.f1,j.f2⟩
theorem IL.row_set{w:Ur}{l:List Rn}(h:FR wr (w.1.size+1) v l)(i:Nat)(u:aB):FR (wr.setCell (Ua w.1.size i) u) (w.1.size+1) v l:=by
 refine World.ownsRow.kept h (eZ wr (Ua w.1.size i) u) ?_;cases e:v.ownBlock with
 |none=>exact .inl rfl
 |some g=>exact .inr (λj=>by have:=(World.ownsRow.lt h g e).1;injection j with j;have j:g=w.1.size:=j;omega)
theorem IL.set1{w:Ur}(h:IL w wr u5 u6 sb qr qf qt sa)(z:Int):IL w (wr.setCell (Ua w.1.size 1) (Ud z)) u5 u6 sb qr z qt sa:=
 ⟨IL.row_set h.b _ _,IL.row_set h.a _ _,h.ne,h.nb,h.na,h.bel.setCell (p:=(Ua w.1.size 1)) zL _,oU h.sz,(Vt _ _ _ _ oP).trans h.c0,Vs _ _ _ h.c1,(Vt _ _ _ _ oP).trans h.c2,oU h.f1,by simpa using h.f2⟩
theorem IL.set2{w:Ur}(h:IL w wr u5 u6 sb qr qf qt sa)(z:Int):IL w (wr.setCell (Ua w.1.size 2) (Ud z)) u5 u6 sb qr qf z sa:=
 ⟨IL.row_set h.b _ _,IL.row_set h.a _ _,h.ne,h.nb,h.na,h.bel.setCell (p:=(Ua w.1.size 2)) zL _,oU h.sz,(Vt _ _ _ _ oP).trans h.c0,(Vt _ _ _ _ oP).trans h.c1,Vs _ _ _ h.c2,oU h.f1,by simpa using h.f2⟩
theorem IL.drew{w:Ur}(h:IL w wr u5 u6 sb qr qf qt sa):IL w wr.drew u5 u6 sb qr qf qt sa:=h.bw zI.drew
theorem Z0(l:List Rn):∀u∈bC l,u.oneCell'=true:=by
 intro u j;unfold bC at j;have⟨p,_,h⟩:=List.mem_flatMap.1 j;simp at h;rcases h with rfl|rfl|rfl<;>rfl
theorem Ef(l l':List Rn):bC (l++l')=bC l++bC l':=by simp[bC]
theorem AF(r f t r' f' t':Int)(w:Ur)(h0: -2000000000<=t)(h1:t<=2000000000):
  Cl 124 #[Uo #[Ud r,Ud f,Ud t],Uo #[Ud r',Ud f',Ud t']] w (Rt w (Un (fT r t r' f'))):=by
 exact wZ
theorem nH{Q:Prop}(h:Q:=by
 go_roundw;case rel=>exact⟨k+1,J,oN,by rw[L.out,W.out,Hd.out];exact T⟩
 case measure=>exact oE):Q:=h
theorem qN{Q:Prop}(h:Q:=by first|exact⟨rfl,rfl,rfl⟩|(intro u P;simp at P;rcases P with rfl|rfl|rfl<;>rfl)):Q:=h
theorem pF{Q:Prop}(h:Q:=by
 go_wp2_with fail;go_roundw;case rel=>exact⟨k+1,J,oN,by rw[L.out];exact Z⟩
 case measure=>exact oE):Q:=h
theorem QC(a:Option Us)(c:Nat)(l:List Rn)(rr rf rt:Int)(w:Ur)(hn:l.length<=100000)(h:FS w a l)(hl:∀p∈l,kJ p)(hr:kJ (rr,rf,rt)):
  Cl 122 #[Uf a l.length c,Uo #[Ud rr,Ud rf,Ud rt]] w λe w'=>∃v,e=Ui v/\FR w' w.1.size v (fM l (rr,rf,rt))/\Bl w w':=by
 have⟨i0,hi,Hq,Hr,Hs⟩:=info_parts Tryz.infoRun;generalize Hh:kW l (rr,rf,rt)=s;have⟨n,D⟩:=zE l.length;have HI:aA (∀k,k<=n->kJ (s k).2.1):=by rw[<-Hh,<-D];exact aC<|Tp hl hr
 have HS:aA (∀k,k<n->s (k+1)=iV (s k) (gR l k)):=by rw[<-Hh,<-D];exact aC λk B=>Mr B
 have HZ:aA (s 0=([],(rr,rf,rt),[])):=Hh▸aC rfl;have HE:aA (fM l (rr,rf,rt)=(s n).1++[(s n).2.1]++(s n).2.2):=by rw[<-Hh,<-D,Tq];exact aC rfl
 have Hx:aA (∀k,k<=n->(s k).1.length+(s k).2.2.length<=k):=by rw[<-Hh,<-D];exact aC<|I7 l _
 have Ga:aA (∀k,k<n->kJ (gR l k)):=D▸aC λk B=>hl _ (rQ B);have H9:aA (n=0\/∃g off,a=Uq (Ua g off)/\g<w.1.size/\∀i,i<n->w.cell? (Ua g (off+i*3))=Uq (Ud (gR l i).1)/\w.cell? (Ua g (off+i*3+1))=Uq (Ud (gR l i).2.1)/\w.cell? (Ua g (off+i*3+2))=Uq (Ud (gR l i).2.2)):=D▸aC h;rw[D]at hn⊢;clear Hh D h hl;generalize I:w.alloc (Uj #[Ud rr,Ud rf,Ud rt] 103)=Y;have z0:Y.1.size=w.1.size+1:=I▸oP;have H5:aA (Bl w Y):=I▸aC (zO _ _);have x0:Y.cell? (Ub w.1.size)=Uq (Ud rr):=I▸oP;have x1:Y.cell? (Ua w.1.size 1)=Uq (Ud rf):=I▸oP;have x2:Y.cell? (Ua w.1.size 2)=Uq (Ud rt):=I▸oP;have y1:Y.frozen? (Ua w.1.size 1)=false:=I▸oP;have y2:Y.frozen? (Ua w.1.size 2)=false:=I▸oP;go_enter func122,ntmps122;go_wp2_with fail;try rw[I]
 have Hl:aA (IL w ((Y.alloc (Uj #[] 103)).alloc (Uj #[] 103)) (Uf (Uq (Ua (w.1.size+1) 0)) 0 0) (Uf (Uq (Ua (w.1.size+1+1) 0)) 0 0) [] rr rf rt []):=by
  refine aC ?_;have H:Bl Y ((Y.alloc (Uj #[] 103)).alloc (Uj #[] 103)):=aU _ _ _;have q1:=Vo (base:=w.1.size+1) (e:=103) (size:=3) Y #[] 0 oM oL rfl;have q2:=Vo (base:=w.1.size+1) (e:=103) (size:=3) (Y.alloc (Uj #[] 103)) #[] 0 oS oL rfl;have zz:(Y.alloc (Uj #[] 103)).1.size=w.1.size+1+1:=oS;rw[z0]at q1;rw[zz]at q2;refine⟨World.ownsRow.alloc q1 _,q2,λg e1 e2=>?_,by simp[Value.ownBlock],by simp[Value.ownBlock],H5.trans (H.mono oM),oS,(H.cell (p:=(Ub w.1.size)) (show w.1.size<_ by omega)).trans x0,(H.cell (p:=(Ua w.1.size 1)) (show w.1.size<_ by omega)).trans x1,(H.cell (p:=(Ua w.1.size 2)) (show w.1.size<_ by omega)).trans x2,((jG H).2 w.1.size 1 oM).trans y1,((jG H).2 w.1.size 2 oM).trans y2⟩;simp[Value.ownBlock]at e1 e2;omega
 clear x0 x1 x2 y1 y2 z0 I;go_loopw [5,6,7] (λu5 u6 iv wr=>∃(k:Nat),k<=n/\iv=Ud k/\aA (IL w wr u5 u6 (s k).1 (s k).2.1.1 (s k).2.1.2.1 (s k).2.1.2.2 (s k).2.2)) (λ_ _ iv _=>n-(intOf iv).toNat);case atStart=>exact⟨0,UB _,rfl,by rw[HZ.out];exact Hl⟩
 case round=>
  clear Hl;obtain⟨k,B,rfl,U⟩:=hrel;have He:=HI k B;by_cases J:k<n;have Hc:=HS k J;have Hu:=Hx k B;have H0:=Ga k J;have Hm:∃g off,a=Uq (Ua g off)/\g<w.1.size/\w.cell? (Ua g (off+k*3))=Uq (Ud (gR l k).1)/\w.cell? (Ua g (off+k*3+1))=Uq (Ud (gR l k).2.1)/\w.cell? (Ua g (off+k*3+2))=Uq (Ud (gR l k).2.2):=by
   rcases H9.out with h|⟨g,off,e,hg,hc⟩
   .omega
   .exact⟨g,off,e,hg,hc k J⟩
  obtain⟨g,off,rfl,hg,p0,p1,p2⟩:=Hm;rotate_left;obtain rfl:k=n:=oM;have Hu:=Hx k zL;rotate_left;all_goals generalize Hp:s k=sk at*;have⟨E,⟨t,z,q⟩,A⟩:=sk
  .generalize Hy:gR l k=gk at*;have⟨M,y,m⟩:=gk;simp only at p0 p1 p2 U Hu;unfold kJ at He H0;simp only at He H0;have Ht:=aC Hc;have e0:=(U.bel.cell (p:=(Ua g (off+k*3))) hg).trans p0;have e1:=(U.bel.cell (p:=(Ua g (off+k*3+1))) hg).trans p1;have e2:=(U.bel.cell (p:=(Ua g (off+k*3+2))) hg).trans p2;have⟨c0,c1,N⟩:=U.q3;have zr:=U.sz;clear Hc Hp Hy p0 p1 p2;go_wp2_with fail;refine zR (S:=λw'=>w'.cell? (Ua g (off+k*3))=Uq (Ud M)/\w'.cell? (Ua g (off+k*3+1))=Uq (Ud y)/\w'.cell? (Ua g (off+k*3+2))=Uq (Ud m)/\w'.cell? (Ub w.1.size)=Uq (Ud t)/\w'.cell? (Ua w.1.size 1)=Uq (Ud z)/\w'.cell? (Ua w.1.size 2)=Uq (Ud q)) ⟨e0,e1,e2,c0,c1,N⟩<|λqh=>?_;refine tY 0 16 ?_;refine tY 2 18 ?_;refine tZ 4 20 ?_;refine cZ 5 ?_;intro K hK;go_simp;refine(AF M y m t z q _ oM oM).mono ?_;rintro e w1⟨rfl,b1⟩;have Hf:Bl wr w1:=(Below.refl _ wr).drew.trans b1;have Ha:=aC<|U.bw Hf;have z1:=Hf.size;have s0:=(Hf.cell (p:=(Ua g (off+k*3))) (show g<wr.1.size by omega)).trans e0;have s1:=(Hf.cell (p:=(Ua g (off+k*3+1))) (show g<wr.1.size by omega)).trans e1;have s2:=(Hf.cell (p:=(Ua g (off+k*3+2))) (show g<wr.1.size by omega)).trans e2;have⟨t0,t1,t2⟩:=Ha.q3;refine hK.out _ _ ⟨s0,s1,s2,t0,t1,t2⟩<|λqh=>?_;clear hK K;try simp only[zP]
   refine zD ?_;clear qh e0 e1 e2 c0 c1 N b1 Hf U;by_cases hA:fB (M,y,m) (t,z,q)
   .rw[show fT M m t z=true from D4.2 hA];have L:aA (s (k+1)=(E++[(M,y,m)],(t,z,q),A)):=by
     refine aC ?_;rw[Ht.out];unfold iV;simp only;rw[if_pos hA]
    clear t0 t1 t2;go_wp2_with (at_builtin;refine kU rfl _ _ 24 rfl (w.1.size+1) 103 i0 _ 3 24 underlying24 hi Hq Hr Hs rfl oD _ _ _ rfl (World.ownsRow.alloc Ha.b _) (Ub w1.1.size) 1 1 [Ud M,Ud y,Ud m] rfl rfl ?n1 ?n2 ?n3 ?n4 ?n5 ?_);try (case n1=>exact vA _ _ _ _ _)
    case n2=>exact qN
    case n3=>unfold maxLen;omega
    case n4=>omega
    case n5=>first|omega|(simp;omega)
    intro v7 w7 F X C;have Z:=aC<|(Ha.bw (zO _ _)).app5 (M,y,m) F X (oU C);clear F X C s0 s1 s2;exact pF
   .rw[show fT M m t z=false from by rw[<-Bool.not_eq_true];exact λh=>hA (D4.1 h)];have HA:=aC hA;have v0:=t0;have v1:=t1;have v2:=t2;go_wp2_with fail;refine zR (S:=λw'=>w'.cell? (Ua g (off+k*3))=Uq (Ud M)/\w'.cell? (Ua g (off+k*3+1))=Uq (Ud y)/\w'.cell? (Ua g (off+k*3+2))=Uq (Ud m)/\w'.cell? (Ub w.1.size)=Uq (Ud t)/\w'.cell? (Ua w.1.size 1)=Uq (Ud z)/\w'.cell? (Ua w.1.size 2)=Uq (Ud q)) ⟨s0,s1,s2,v0,v1,v2⟩<|λqh=>?_;refine tY 0 29 ?_;refine tY 2 31 ?_;refine tZ 4 33 ?_;refine cZ 5 ?_;intro K hK;go_simp;refine(AF t z q M y m _ oM oM).mono ?_;rintro e R⟨rfl,H⟩;have Hg:Bl w1 R:=(Below.refl _ w1).drew.trans H;have G:=aC<|Ha.bw Hg;have z2:=Hg.size;have H1:=(Hg.cell (p:=(Ua g (off+k*3))) (show g<w1.1.size by omega)).trans s0;have Hi:=(Hg.cell (p:=(Ua g (off+k*3+1))) (show g<w1.1.size by omega)).trans s1;have Hj:=(Hg.cell (p:=(Ua g (off+k*3+2))) (show g<w1.1.size by omega)).trans s2;have⟨H2,Hk,H3⟩:=G.q3;refine hK.out _ _ ⟨H1,Hi,Hj,H2,Hk,H3⟩<|λqh=>?_;clear hK K;try simp only[zP]
    refine zD ?_;clear qh H Hg s0 s1 s2 t0 t1 t2 v0 v1 v2 Ha;by_cases hB:fB (t,z,q) (M,y,m)
    .rw[show fT t q M y=true from D4.2 hB];have L:aA (s (k+1)=(E,(t,z,q),A++[(M,y,m)])):=by
      refine aC ?_;rw[Ht.out];unfold iV;simp only;rw[if_neg HA.out,if_pos hB]
     clear H2 Hk H3;go_wp2_with (at_builtin;refine kU rfl _ _ 24 rfl (w.1.size+1) 103 i0 _ 3 24 underlying24 hi Hq Hr Hs rfl oD _ _ _ rfl (World.ownsRow.alloc G.a _) (Ub R.1.size) 1 1 [Ud M,Ud y,Ud m] rfl rfl ?m1 ?m2 ?m3 ?m4 ?m5 ?_);try (case m1=>exact vA _ _ _ _ _)
     case m2=>exact qN
     case m3=>unfold maxLen;omega
     case m4=>omega
     case m5=>first|omega|(simp;omega)
     intro v7 w7 F X C;have Z:=aC<|(G.bw (zO _ _)).app6 (M,y,m) F X (oU C);clear F X C H1 Hi Hj;exact pF
    .rw[show fT t q M y=false from by rw[<-Bool.not_eq_true];exact λh=>hB (D4.1 h)];have L:aA (s (k+1)=(E,(t,min y z,max m q),A)):=by
      refine aC ?_;rw[Ht.out];unfold iV;simp only;rw[if_neg HA.out,if_neg hB]
     have Hw:=aC G.f1;clear hB;have Hz:g≠w.1.size:=oM;by_cases h1:y<z
     .by_cases h2:q<m;all_goals have d1:decide (y<z)=true:=(by simp;exact h1);have W:aA (min y z=y):=aC oM
      have d2:decide (q<m)=true:=(by simp;exact h2);have Hd:aA (max m q=m):=aC oM;rotate_left;have d2:decide (q<m)=false:=oS;have Hd:aA (max m q=q):=aC oM;rotate_left;all_goals
       clear h1 h2;go_wp2_with fail;refine zR (S:=λw'=>w'.cell? (Ua g (off+k*3+1))=Uq (Ud y)/\w'.cell? (Ua w.1.size 1)=Uq (Ud z)) ⟨Hi,Hk⟩<|λqh=>?_;refine tY 0 42 ?_;refine tY 2 44 ?_;refine tY 4 46 ?_;refine tY 6 48 ?_;refine zD ?_;clear qh;have f1:=Hw.out;generalize o:(R.setCell (Ua w.1.size 1) (Ud y)).drew=O;have V:aA (IL w O u5 u6 E t y q A):=o▸aC (G.set1 y).drew;have r2:O.cell? (Ua g (off+k*3+2))=Uq (Ud m):=o▸(Vp R (Ua w.1.size 1) _ _ (λe=>Hz e.symm)).trans Hj;go_wp2_with fail;try rw[o]
       try clear f1 o
       have t3:=V.c2;refine zR (S:=λw'=>w'.cell? (Ua g (off+k*3+2))=Uq (Ud m)/\w'.cell? (Ua w.1.size 2)=Uq (Ud q)) ⟨r2,t3⟩<|λqh=>?_;refine tY 0 56 ?_;refine tY 2 58 ?_;refine tY 4 60 ?_;refine tY 6 62 ?_;refine zD ?_;clear qh
      .have f2:=V.f2;generalize Q:(O.setCell (Ua w.1.size 2) (Ud m)).drew=W4;have T:aA (IL w W4 u5 u6 E t y m A):=Q▸aC (V.set2 m).drew;go_wp2_with fail;try rw[Q]
       try clear f2 Q
       exact nH
      .have⟨W4,Q⟩:=zE O.drew;have T:aA (IL w W4 u5 u6 E t y q A):=Q▸aC V.drew;go_wp2_with fail;try rw[Q]
       try clear Q
       exact nH
     .by_cases h2:q<m;all_goals have d1:decide (y<z)=false:=oS;have W:aA (min y z=z):=aC oM
      have d2:decide (q<m)=true:=(by simp;exact h2);have Hd:aA (max m q=m):=aC oM;rotate_left;have d2:decide (q<m)=false:=oS;have Hd:aA (max m q=q):=aC oM;rotate_left;all_goals
       clear h1 h2;go_wp2_with fail;refine zR (S:=λw'=>w'.cell? (Ua g (off+k*3+1))=Uq (Ud y)/\w'.cell? (Ua w.1.size 1)=Uq (Ud z)) ⟨Hi,Hk⟩<|λqh=>?_;refine tY 0 42 ?_;refine tY 2 44 ?_;refine tY 4 46 ?_;refine tY 6 48 ?_;refine zD ?_;clear qh;have⟨O,o⟩:=zE R.drew;have V:aA (IL w O u5 u6 E t z q A):=o▸aC G.drew;have r2:O.cell? (Ua g (off+k*3+2))=Uq (Ud m):=o▸Hj;go_wp2_with fail;try rw[o]
       try clear o
       have t3:=V.c2;refine zR (S:=λw'=>w'.cell? (Ua g (off+k*3+2))=Uq (Ud m)/\w'.cell? (Ua w.1.size 2)=Uq (Ud q)) ⟨r2,t3⟩<|λqh=>?_;refine tY 0 56 ?_;refine tY 2 58 ?_;refine tY 4 60 ?_;refine tY 6 62 ?_;refine zD ?_;clear qh
      .have f2:=V.f2;generalize Q:(O.setCell (Ua w.1.size 2) (Ud m)).drew=W4;have T:aA (IL w W4 u5 u6 E t z m A):=Q▸aC (V.set2 m).drew;go_wp2_with fail;try rw[Q]
       try clear f2 Q
       exact nH
      .have⟨W4,Q⟩:=zE O.drew;have T:aA (IL w W4 u5 u6 E t z q A):=Q▸aC V.drew;go_wp2_with fail;try rw[Q]
       try clear Q
       exact nH
  .simp only at U Hu;have⟨c0,c1,N⟩:=U.q3;have zr:=U.sz;clear Hp He;go_wp2_with (at_builtin;refine kU rfl _ _ 24 rfl (w.1.size+1) 103 i0 _ 3 24 underlying24 hi Hq Hr Hs rfl oD _ _ _ rfl (World.ownsRow.alloc U.b _) (Ub wr.1.size) 1 1 [Ud t,Ud z,Ud q] rfl rfl ?o1 ?o2 ?o3 ?o4 ?o5 ?_);try (case o1=>exact vA _ _ _ _ _)
   case o2=>exact qN
   case o3=>unfold maxLen;omega
   case o4=>omega
   case o5=>first|omega|(simp;omega)
   intro v7 w7 F X C;have Z:=aC<|(U.bw (zO _ _)).app5 (t,z,q) F X (oU C);clear F X C c0 c1 N U;have Hv:=Z.na;have H4:=aC Z.a;have Gh:=Z.sz;rcases Z.a.2 with⟨e,_⟩|⟨g6,c6,Gc,e,_,_,Gg,Gd,_,_⟩
   .rw[e]at Hv;exact absurd rfl Hv
   subst e;unfold maxLen at Gd;have H7:aA (∀j u,(bC A)[j]? =Uq u->w7.cell? (((Ub g6):Us).add j)=Uq u):=aC<|World.ownsRow.cells H4 rfl;clear Hv;go_wp2_with (at_builtin;refine kU rfl _ _ 24 rfl (w.1.size+1) 103 i0 _ 3 24 underlying24 hi Hq Hr Hs rfl oD v7 (E++[(t,z,q)]).length (bC (E++[(t,z,q)])) rfl Z.b (Ub g6) A.length c6 (bC A) rfl (Og A) H7 (Z0 A) ?r3 ?r4 ?r5 ?_);case r3=>unfold maxLen;simp;omega
   case r4=>simp;omega
   case r5=>omega
   intro v8 w8 Hb Hn Ho;have H6:aA (Bl w w8):=aC<|Z.bel.grown Hn oM (λk B=>oH ((World.ownsRow.lt Z.b k B).1));have H8:aA (FR w8 w.1.size v8 (E++[(t,z,q)]++A)):=by
    refine aC ?_;unfold FR;rw[Ef,UM,show(E++[(t,z,q)]).length=E.length+1 from by simp];have⟨q1,q2⟩:=Hb;refine⟨q1,q2.imp id ?_⟩;rintro⟨g,cap,Gb,e,hg,r⟩;exact⟨g,cap,Gb,e,oM,r⟩
   clear Hb Hn Ho;go_wp2_with fail;go_ret;exact⟨v8,rfl,by rw[HE.out];exact H8,H6⟩
theorem Cp(a:Option Us)(c:Nat)(l:List Rn)(rr rf rt:Int)(w:Ur)(hn:l.length<=100000)(h:FS w a l)(hl:dI l)(hr:dG (rr,rf,rt)):
  Cl 122 #[Uf a l.length c,Uo #[Ud rr,Ud rf,Ud rt]] w λe w'=>∃v,e=Ui v/\FR w' w.1.size v (fM l (rr,rf,rt))/\Bl w w':=QC a c l rr rf rt w hn h (λp hp=>(hl.2 p hp).bnd) hr.bnd
end Go.Proofs.YtnabjmnfhkcnjaaGreatDoor
