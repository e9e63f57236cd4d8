import Derived.Test.YtnabjmnfhkcnjaaGreatDoorRzg04
import Derived.Test.YtnabjmnfhkcnjaaGreatDoorRzhShel2
import Derived.Sort.MapsRangeIn
import Derived.Shelf.SlSortCmp.NoneTotal
import Derived.RangeFuncBound
set_option linter.unusedVariables false
set_option linter.unusedSimpArgs false
set_option maxRecDepth 100000
set_option maxHeartbeats 40000000
namespace Go.Proofs.YtnabjmnfhkcnjaaGreatDoor
open Go.ChangeShapes Go.WideShapes Go.ChangeAt Go.RowKit Go.Maps Go.Sort Go.Proofs.Tryz
open Go.Value renaming slice->Uf,int->Ug,pointer->Uk,tuple->Ul,string->Um,bool->Un,agg->Uo
open Go.IntKind renaming i64->Uh
open Go.Ending renaming returned->Ui
open Go.Obj renaming cells->Uj
open Option renaming none->Up,some->Uq
open Go.RowKit renaming Hid->aA
open Go renaming World->Ur,Addr->Us,Value->aB
open List renaming length_append->UM,length_singleton->Yc,length_cons->UP,getD->UL,map_cons->UQ,append_nil->VO,getElem?_eq_none->UT,flatMap_cons->VP,append_assoc->Ve,take_length->Vj,drop_length->Yw,take_append_drop->Yx,flatMap_append->Yh,prefix_refl->Ya,range->Vb,flatMap_map->Yy,range_succ->Yd,sum_cons->Yg,length_range->Yz,flatMap_nil->Yi,take_add_one->Vc,size_toArray->YA,length_nil->YB,push_toArray->YC,append_toArray->YD,nil_append->Yj,cons_append->VX,ext_getElem?->YE,getElem?_take_of_lt->VV,getElem?_take_eq_none->YF,eq_nil_of_length_eq_zero->UO,nodup_nil->VU,getElem?_map->Yq,mem_of_getElem?->YG,length_take->Vk,length_filter_le->YH,dropLast_concat_getLast->YI
open Nat renaming le_refl->Ux,eq_zero_or_pos->Uy,zero_le->UB,lt_of_lt_of_le->Ut,zero_add->UA,le_trans->Uz,le_succ->UD,add_zero->YJ,mul_le_mul->YK,reduceAdd->YL,reduceSub->YM,le_of_lt->YN,add_assoc->UF,mul_le_mul_right->UH
open Go.World renaming ownsRow_lit->Vo,frozen?_of_block->Vz,setCell->Vr,cell?_of_block->Vy,grownBy_alloc->VA,putObj_heap_other->YO,putObj_heap_same->YP,alloc_heap_new->YQ,size_alloc->YR,frozen?->Yt,cell?->Vx,ownsRow_nil->Vw
open Int renaming natCast_nonneg->VH
open _root_.Array renaming replicate_succ->YS,replicate_zero->YT,getElem?_toList->YU,getElem?_eq_getElem->YV,getElem?_modify->YW,toArray_toList->YX
open Option renaming map_eq_some_iff->Yv,isSome->YY
variable {B b bd bm bm' c cap d g hi i k lo lo' m n off:Nat}{F R T:Nat->Int}{J l:List Lf}{L:Int->List (Int×Int)}{P:Program}{a x:Option Us}{body v v0 v1 v2:aB}{cur:Array aB}{e t:TypeId}{fr x0 y0 z0:Nat×Nat}{mo:Option Nat}{ns zs:List Int}{p:List ByteArray}{ts:List Ky}{ul:List Rn}{w w' w1 wr:Ur}{y:Ky}
theorem bP.size_le{D:DataW aB}{G:Int->aB}(h:bP w bm n D G L):Maps.size D<=n:=h.own.size_le
def kM(R F T:Nat->Int)(n:Nat)(R' F' T':Nat->Int)(n':Nat):List Rn:=fC (flat R F T n) (flat R' F' T' n')
theorem LP(l:List Rn)(r:Rn):(fM l r).length<=l.length+1:=by
 have:=I7 l r l.length zL;rw[Tq]at this;unfold fM;simp only[UM,Yc];omega
theorem tV:∀(b l:List Rn),(fC l b).length<=l.length+b.length
 |[],l=>by simp[fC]
 |q::b,l=>by
  have j:=tV b<|fM l q;have k:=LP l q;show(fC (fM l q) b).length<=_;simp only[UP];omega
theorem C3(l b:List Rn)(q:Rn):fC l (b++[q])=fM (fC l b) q:=by simp[fC]
theorem oO(R F T:Nat->Int)(n:Nat):(flat R F T n).length=n:=by simp[flat]
theorem Mm(R F T:Nat->Int)(n i:Nat)(h:i<n):gR (flat R F T n) i=(R i,F i,T i):=by simp[gR,flat,UL,h]
theorem Zk(l:List Rn)(j:Nat)(u:aB)(h:(bC l)[j]? =Uq u):j/3<l.length/\((j%3=0/\u=Ud (gR l (j/3)).1)\/(j%3=1/\u=Ud (gR l (j/3)).2.1)\/(j%3=2/\u=Ud (gR l (j/3)).2.2)):=by
 induction l generalizing j with
 |nil=>simp[bC]at h
 |cons a l ih=>
  have e:bC (a::l)=Ud a.1::Ud a.2.1::Ud a.2.2::bC l:=by simp[bC]
  rw[e]at h;match j,h with
  |0,h=>simp at h;simp[gR,h]
  |1,h=>simp at h;simp[gR,h]
  |2,h=>simp at h;simp[gR,h]
  |j+3,h=>have h:(bC l)[j]? =Uq u:=oU h;have⟨r,q⟩:=ih j h;have k:(j+3)/3=j/3+1:=oM;have m:(j+3)%3=j%3:=oM;rw[k,m];refine⟨oS,?_⟩;simpa[gR]using q
theorem AH(h:bI w (Uq (Ua g off)) n R F T):∀j u,(bC (flat R F T n))[j]? =Uq u->w.cell? (((Ua g off):Us).add j)=Uq u:=by
 intro j u z;have⟨k,m⟩:=Zk _ j u z;rw[oO]at k;have⟨b,o,e,i,r,v,y⟩:=h.at k;injection e with e;cases e;rw[Mm _ _ _ _ _ k]at m;rcases m with⟨q,rfl⟩|⟨q,rfl⟩|⟨q,rfl⟩
 .rw[Addr.add_lit,show off+j=off+j/3*3 from by omega];exact r
 .rw[Addr.add_lit,show off+j=off+j/3*3+1 from by omega];exact v
 .rw[Addr.add_lit,show off+j=off+j/3*3+2 from by omega];exact y
theorem FR.weak{C:Nat}{l:List Rn}(h:FR w B v l)(hc:C<=B):FR w C v l:=by
 have⟨k,m⟩:=h;refine⟨k,m.imp id ?_⟩;rintro⟨g,cap,j,e,q,r⟩;exact⟨g,cap,j,e,oM,r⟩
theorem On(w:Ur)(t ty e:TypeId)(i:TypeInfo)(ht:P.underlying t=Uq (.slice e))(hi:P.info? e=Uq i)(base:Option Us)(n cap c':Nat)(h:n<=cap):
  (Builtin.append_ #[t,t] ty #[Uf base n cap,Uf Up 0 c']).run P w=.ok (Uf base n cap) w:=by
 cases base<;>simp[Builtin.append_,run_underlying ht,sizeOf,typeInfo,hi,Builtin.lenOf,Builtin.firstCells,storeCells,loadCells,loadCellsFrom,h,Result.andThen]
theorem WX{ops:Array Oper}{rest:List Oper}{o:Oper}{a:Act}{Q:Exit->Act->Ur->Prop}(hgd:o.guard=Up)(s x:Operand)(t:TypeId)
  (ho:o.op=.call {callee:=.builtin .append,args:=#[s,x],argTypes:=#[t,t]})
  (base:Nat) (e:TypeId) (i:TypeInfo) (z:aB) (size bytes:Nat) (ht:P.underlying t=Uq (.slice e)) (hi:P.info? e=Uq i) (hz:i.zero=Uq z)
  (hsize:i.size=size) (hby:i.bytes=bytes) (hzs:z.cells.size=size) (hsz:0<size)
  (v:aB) (n:Nat) (xs:List aB) (hs:a.eval s=v) (hown:w.ownsRow base e size v n xs)
  (ad:Option Us) (m c:Nat) (news:List aB) (hx:a.eval x=Uf ad m c) (hl:news.length=m*size) (hnews:m=0\/∃b,ad=Uq b/\∀j u,news[j]? =Uq u->w.cell? (b.add j)=Uq u) (h1:∀u∈news,u.oneCell'=true)
  (h63:n+m<=maxLen) (hbytes:(n+m)*bytes<=140737488355328) (hbase:base<=w.1.size)
  (h:∀v' w',w'.ownsRow base e size v' (n+m) (xs++news)->w.grownBy w' v.ownBlock->(v'.ownBlock=v.ownBlock\/v'.ownBlock=Uq w.1.size)->wpList P ops Q rest (a.put o.dst v') w'):wpList P ops Q (o::rest) a w:=by
 rcases ad with _|b
 .obtain rfl:m=0:=by
   rcases hnews with q|⟨_,e,_⟩
   .exact q
   .cases e
  obtain rfl:news=[]:=List.length_eq_zero_iff.1 oM;obtain⟨b,cap,k,A⟩:∃b cap,v=Uf b n cap/\n<=cap:=by
   rcases hown.2 with⟨e,r⟩|⟨g,cap,M,e,_,_,E,_⟩
   .exact⟨Up,0,by rw[e,r],oM⟩
   .exact⟨_,cap,e,E⟩
  refine wpList_plain hgd λ_ hK=>?_;unfold Oper.wp execOp;rw[k]at hs;simp only[ho,resolve,invoke,builtin,Sem.run_bind,Sem.run_pure,Result.andThen_ok,List.map_toArray,UQ,List.map_nil,hs,hx,On w _ _ _ i ht hi b n cap c A];refine hK _ _ (h _ _ ?_ ⟨rfl,rfl,rfl,Ux _,λ_ _ _=>rfl⟩ (.inl (by rw[k])));rw[VO,<-k];exact hown
 .refine kU hgd s x t ho base e i z size bytes ht hi hz hsize hby hzs hsz v n xs hs hown b m c news hx hl ?_ h1 h63 hbytes hbase h;rcases hnews with q|⟨b',e,y⟩
  .subst q;obtain rfl:news=[]:=List.length_eq_zero_iff.1 oM;intro j u p;simp at p
  .cases e;exact y
theorem AC(a:Option Us)(n c:Nat)(R F T:Nat->Int)(a':Option Us)(n' c':Nat)(R' F' T':Nat->Int)(w:Ur)(hn:n<=1000)(hn':n'<=1000)(h:bI w a n R F T)(h':bI w a' n' R' F' T')(ho:fQ R F T n)(ho':fQ R' F' T' n'):
  Cl 80 #[Uo #[Uf a n c],Uo #[Uf a' n' c']] w λe w'=>∃v,e=Ui (Uo #[v])/\FR w' w.1.size v (kM R F T n R' F' T' n')/\Bl w w':=by
 have⟨i0,hi,H4,H5,H6⟩:=info_parts Tryz.infoRun;obtain⟨z,V⟩:∃z:Nat->List Rn,(λk=>fC (flat R F T n) (flat R' F' T' k))=z:=⟨_,rfl⟩;have Hf:aA (z 0=flat R F T n):=V▸aC rfl;have H1:aA (∀k,z (k+1)=fM (z k) (R' k,F' k,T' k)):=by rw[<-V];exact aC λk=>by show fC _ (flat R' F' T' (k+1))=_;rw[Dg,C3]
 have Hy:aA (z n'=kM R F T n R' F' T' n'):=V▸aC rfl;have H0:aA (∀k,(z k).length<=n+k):=by rw[<-V];exact aC λk=>by have:=tV (flat R' F' T' k) (flat R F T n);rw[oO,oO]at this;exact this
 have Hz:aA (∀k,k<=n'->dI (z k)):=by rw[<-V];exact aC λk U=>(nX _ _ (mU n ho) (mU k (λi hi=>ho' i oM)).2).1
 have Hx:aA (∀k,k<n'->dG (R' k,F' k,T' k)):=aC λk U=>qH.1 (ho' k U).1;have B:=aC<|oO R F T n;have N:aA (n=0\/∃g off,a=Uq (Ua g off)/\g<w.1.size/\∀j u,(bC (flat R F T n))[j]? =Uq u->w.cell? (((Ua g off):Us).add j)=Uq u):=by
  rcases Uy n with Y|Y
  .exact aC<|.inl Y
  .have⟨b,o,e,P,_⟩:=h.at Y;rw[e]at h;exact aC<|.inr ⟨b,o,e,P,AH h⟩
 generalize Hj:flat R F T n=C;rw[Hj]at Hf B N;generalize Hh:((w.alloc (Uj #[Uf a n c] 26)).alloc (Uj #[Uf a' n' c'] 26)).alloc (Uj #[Ue] 26)=r;generalize O:(w.alloc (Uj #[Uf a n c] 26)).alloc (Uj #[Uf a' n' c'] 26)=t;have za:t.1.size=w.1.size+2:=O▸oP;have Hg:Bl w t:=O▸aU _ _ _;have Hl:t.cell? (Ub w.1.size)=Uq (Uf a n c):=O▸oP;have Hm:t.cell? (Ua (w.1.size+1) 0)=Uq (Uf a' n' c'):=O▸oP;have Z:t.alloc (Uj #[Ue] 26)=r:=O▸Hh;have I:Bl t r:=Z▸zO _ _;have Hn:aA (Bl w r):=aC<|aE Hg I;have s:aA (r.1.size=w.1.size+3):=aC (by rw[<-Z];simp;omega);have x0:r.cell? (Ub w.1.size)=Uq (Uf a n c):=(I.cell (p:=(Ub w.1.size)) (show w.1.size<t.1.size by omega)).trans Hl;have x1:r.cell? (Ua (w.1.size+1) 0)=Uq (Uf a' n' c'):=(I.cell (p:=(Ua (w.1.size+1) 0)) (show w.1.size+1<t.1.size by omega)).trans Hm;have x2:r.cell? (Ua (w.1.size+1+1) 0)=Uq Ue:=by rw[<-Z,show w.1.size+1+1=t.1.size from by omega];simp
 have y2:r.frozen? (Ua (w.1.size+1+1) 0)=false:=by rw[<-Z,show w.1.size+1+1=t.1.size from by omega];simp
 have Hv:=aC h';have Hr:aA (∀w1,Bl w w1->n=0\/∃ad,a=Uq ad/\∀j u,(bC C)[j]? =Uq u->w1.cell? (ad.add j)=Uq u):=by
  refine aC λw1 P=>?_;rcases N.out with Y|⟨g,off,e,hg,hc⟩
  .exact .inl Y
  .refine .inr ⟨_,e,λj u hj=>?_⟩;have J:=hc j u hj;rw[Addr.add_lit]at J⊢;exact(P.cell (p:=(Ua g (off+j))) hg).trans J
 generalize D:r.alloc (Uj #[] 103)=H;have E:Bl r H:=D▸zO _ _;have u0:=(E.cell (p:=(Ub w.1.size)) (show w.1.size<r.1.size by have:=s.out;omega)).trans x0;have u1:=(E.cell (p:=(Ua (w.1.size+1) 0)) (show w.1.size+1<r.1.size by have:=s.out;omega)).trans x1;have u2:=(E.cell (p:=(Ua (w.1.size+1+1) 0)) (show w.1.size+1+1<r.1.size by have:=s.out;omega)).trans x2;have v2:=((jG E).2 (w.1.size+1+1) 0 (oH s)).trans y2;have Hw:aA (H.ownsRow (w.1.size+3) 103 3 (Uf (Uc r.1.size) 0 0) 0 []):=by
  rw[<-D];exact aC<|Vo (base:=w.1.size+3) (e:=103) (size:=3) r #[] 0 (oH s) oL rfl
 have He:=aC<|aE Hn E;have G:aA (w.1.size+3<=H.1.size):=aC<|oJ E.size s;go_enter func80,ntmps80;go_wp2_with (at_builtin;refine WX rfl _ _ 24 rfl (w.1.size+3) 103 i0 _ 3 24 underlying24 hi H4 H5 H6 rfl oD (Uf (Uc r.1.size) 0 0) 0 [] rfl Hw a n c (bC C) rfl ?c1 (Hr H He) (Z0 C) ?c4 ?c5 G ?_);case c1=>rw[Og,B.out]
 case c4=>unfold maxLen;omega
 case c5=>omega
 intro v3 L Ha Q Hb;have K:∀q,q<w.1.size+3->Uq q≠(Value.slice (Uc r.1.size) 0 0).ownBlock:=λq hq e=>by
  have:=s.out;simp[Value.ownBlock]at e;omega
 have z3:w.1.size+3<=L.1.size:=oJ Q.size G;have d1:=Q.cell u1<|K (w.1.size+1) oM;have d2:=Q.cell u2<|K (w.1.size+1+1) oM;have k2:L.frozen? (Ua (w.1.size+1+1) 0)=false:=(Vz (Q.block (w.1.size+1+1) (oH G) (K _ oM))).trans v2;have Hs:aA (FR L (w.1.size+3) v3 (z 0)):=by
  rw[Hf.out];unfold FR;rw[B.out];have J:=Ha;exact aC J
 have Ho:aA (Bl w L):=aC (He.grown Q (oH G) (λk U=>by have:=s.out;simp[Value.ownBlock]at U;omega));go_wp2_with fail;go_loopw [5,6] (λu5 iv wr=>∃(k:Nat),k<=n'/\iv=Ud k/\aA (FR wr (w.1.size+3) u5 (z k))/\wr.cell? (Ua (w.1.size+1) 0)=Uq (Uf a' n' c')/\wr.cell? (Ua (w.1.size+1+1) 0)=Uq Ue/\wr.frozen? (Ua (w.1.size+1+1) 0)=false/\aA (Bl w wr)/\w.1.size+3<=wr.1.size) (λ_ iv _=>n'-(intOf iv).toNat);case atStart=>exact⟨0,UB _,rfl,Hs,d1,d2,k2,Ho,z3⟩
 case round=>
  obtain⟨k,U,rfl,W,e1,A,j2,S,zr⟩:=hrel;by_cases Hd:k<n'
  .obtain⟨gb,ob,rfl,H7,q0,q1,q2⟩:=(Hv.bw S).at Hd;obtain⟨x,cc,rfl,Hk,H2,H3⟩:=W.fs;have H8:=H0 k;have HC:=aC<|Cp x cc (z k) (R' k) (F' k) (T' k) wr oM Hk (Hz k U) (Hx k Hd);have HN:=aC<|H1 k;generalize Hc:(z k).length=ln;rw[Hc]at HC;go_wp2_with fail;try rw[Hc]
   refine HC.mono ?_;rintro e w4⟨v4,rfl,Hi,b4⟩;have Ht:aA (FR w4 (w.1.size+3) v4 (z (k+1))):=(by rw[HN.out];exact aC (Hi.weak zr));have r1:=(b4.cell (p:=(Ua (w.1.size+1) 0)) (show w.1.size+1<wr.1.size by omega)).trans e1;have r2:=(b4.cell (p:=(Ua (w.1.size+1+1) 0)) (show w.1.size+1+1<wr.1.size by omega)).trans A;have s2:=((jG b4).2 (w.1.size+1+1) 0 oM).trans j2;have Hp:=aC<|aE S b4;have z4:=b4.size;go_wp2_with fail;go_roundw;case rel=>exact⟨k+1,Hd,oN,Ht,r1,r2,s2,Hp,oM⟩
   case measure=>exact oE
  .obtain rfl:k=n':=oM;have X:aA (FR wr (w.1.size+3) u5 (kM R F T n R' F' T' k)):=(by rw[<-Hy.out];exact W);obtain⟨y,m,M,rfl⟩:=jY X;have Hu:aA (FR (wr.setCell (Ua (w.1.size+1+1) 0) (Uf y m M)) w.1.size (Uf y m M) (kM R F T n R' F' T' k)):=by
    refine aC ?_;refine World.ownsRow.kept (X.weak oM) (eZ wr (Ua (w.1.size+1+1) 0) _) ?_;cases e:(Value.slice y m M).ownBlock with
    |none=>exact .inl rfl
    |some g=>exact .inr (λA=>by have:=(World.ownsRow.lt X g e).1;injection A with A;have A:g=w.1.size+1+1:=A;omega)
   have Hq:aA (Bl w (wr.setCell (Ua (w.1.size+1+1) 0) (Uf y m M))):=aC<|S.setCell (p:=(Ua (w.1.size+1+1) 0)) oQ _;have k6:=World.cell?_setCell_same wr (Ua (w.1.size+1+1) 0) (Uf y m M) A;go_wp2_with fail;refine zF (v:=Uo #[Uf y m M]) (by simp[results,results80,go_sem,k6]) ⟨_,rfl,Hu,Hq⟩
open Go.Deep
theorem NK(g off m c:Nat)(p:List ByteArray)(w:Ur)(hp:p.length=m)(hm:m<=1048576)(hg:g<w.1.size)(h:∀t,t<m->w.cell? (Ua g (off+t))=Uq (Um (gS p t))):
  Cl 120 #[Uf (Uq (Ua g off)) m c] w λe w'=>∃q cap,e=Ui (Uf (Uc q) m cap)/\Bl w w'/\w.1.size<=q/\q<w'.1.size/\Wr w' q 9 m (λt=>Um (gS p t))/\m<=cap/\cap<=9223372036854775807/\w'.ownsRow w.1.size 9 1 (Uf (Uc q) m cap) m (dJ p):=by
 have⟨G,hi,V,Y,Z⟩:=info_parts uE;have r:Bl w (w.alloc (Uj #[] 9)):=zO _ _;have b:(w.alloc (Uj #[] 9)).ownsRow w.1.size 9 1 (Uf (Uc w.1.size) 0 0) 0 []:=by
  have:=Vo (base:=w.1.size) (e:=9) (size:=1) w #[] 0 zL oL rfl;simpa using this
 have⟨q,cap,w',o,u,i,s⟩:=Nh 31 9 G _ 1 16 underlying31 hi V Y Z rfl oD oM w.1.size g off m c (λt=>Um (gS p t)) (w.alloc (Uj #[] 9)) w.1.size hm b oP (λj hj=>(r.cell (p:=(Ua g (off+j))) hg).trans (h j oM)) (λ_ _=>rfl);have v:=tW u;rw[Nat.mul_one]at v;have y:aA (m<=cap/\cap<=9223372036854775807):=aC (by
  rcases u.2 with⟨O,_⟩|⟨J,H,I,U,B,X,K,Q,L,N⟩
  .cases O
  .injection U with e1 e2 e3;unfold maxLen at Q;omega)
 have A:aA (Bl w w'):=aC<|r.grown i r.size (λk e=>oI e);have z:=aC v;have E:aA (w'.ownsRow w.1.size 9 1 (Uf (Uc q) m cap) m (dJ p)):=aC (by unfold dJ;rw[hp];exact u);have M:aA (w.1.size<=q):=aC (by rcases s with e|e<;>rw[e];exact Ux _;simp);go_enter func120,ntmps120;go_wp2_with (at_builtin;refine cL rfl _ _ _ _ rfl o (by rfl) (by rfl) rfl ?_;clear o);go_ret;exact⟨q,cap,rfl,A,M,z.lt,z,y.1,y.2,E⟩
theorem Mf(g off m c:Nat)(y:Lf)(w:Ur)(hp:y.p.length=m)(hm:m<=1048576)(hg:g<w.1.size)(h:∀t,t<m->w.cell? (Ua g (off+t))=Uq (Um (gS y.p t))):
  Cl 72 #[Uo #[Uf (Uq (Ua g off)) m c,Un y.fl,Ud y.r,Ud y.q,Um y.v]] w λe w'=>∃q cap,e=Ui (Uo #[Uf (Uc q) m cap,Un y.fl,Ud y.r,Ud y.q,Um y.v])/\Bl w w'/\w.1.size<=q/\q<w'.1.size/\Wr w' q 9 m (λt=>Um (gS y.p t))/\m<=cap/\cap<=9223372036854775807/\w'.ownsRow w.1.size 9 1 (Uf (Uc q) m cap) m (dJ y.p):=by
 generalize j:(w.alloc (Uj #[Uf (Uq (Ua g off)) m c,Un y.fl,Ud y.r,Ud y.q,Um y.v] 101)).alloc (Uj #[Ue,Un false,Ud 0,Ud 0,Um ⟨#[]⟩] 101)=W;have k:Bl w W:=j▸aU _ _ _;have z:aF W w.1.size (Uf (Uq (Ua g off)) m c) (Un y.fl) (Ud y.r) (Ud y.q) (Um y.v):=j▸(aF.new _ _ _ _ _ _ _).up _;have o:aF W (w.1.size+1) Ue (Un false) (Ud 0) (Ud 0) (Um ⟨#[]⟩):=by
  rw[<-j];have:=aF.new (w.alloc (Uj #[Uf (Uq (Ua g off)) m c,Un y.fl,Ud y.r,Ud y.q,Um y.v] 101)) Ue (Un false) (Ud 0) (Ud 0) (Um ⟨#[]⟩) 101;simpa using this
 have s:=aC<|NK g off m c y.p W hp hm (Ut hg k.size) (λt ht=>(k.cell (p:=(Ua g (off+t))) hg).trans (h t ht));have L:=z.c0;have b:=aC z;have A:=aC o;have V:=aC k;have Ha:w.1.size+1<W.1.size:=o.lt;go_enter func72,ntmps72;go_wp2_with fail;refine s.mono ?_;rintro e w1⟨q,cap,rfl,u,O,Q,U,I,J,M⟩;have i:=b.bw u b.lt;have E:=A.bw u A.lt;have⟨C,D,F,P,R,S⟩:=i.p5;have⟨N,r1,r2,X,B,T⟩:=E.p5;have H:=aC U;have Z:aA (w1.ownsRow w.1.size 9 1 (Uf (Uc q) m cap) m (dJ y.p)):=aC<|oF M oM;have Y:=aC<|aE V u;have G:aA (W.1.size<=q/\q<w1.1.size):=aC ⟨O,Q⟩;go_wp2_with fail;have K:=G.out;refine zF (v:=Uo #[Uf (Uc q) m cap,Un y.fl,Ud y.r,Ud y.q,Um y.v]) (by simp[results,results72,go_sem,N,r1,r2,X,B]) ⟨q,cap,rfl,?_,oM,?_,?_,I,J,?_⟩
 .repeat (refine Below.setCell ?_ oP _)
  exact Y
 .simp[Vr];exact K.2
 .repeat (refine Wr.same (w:=_) ?_ (zH _ _ _ _ oS))
  exact H
 .refine dK Z<|λg hg=>?_;have e:q=g:=by simpa[Value.ownBlock]using hg
  repeat (rw[zH _ _ _ _ oS])
theorem yV(g off m c:Nat)(y:Lf)(w:Ur)(hp:y.p.length=m)(hm:m<=1048576)(hg:g<w.1.size)(h:∀t,t<m->w.cell? (Ua g (off+t))=Uq (Um (gS y.p t))):
  Cl 72 #[Uo #[Uf (Uq (Ua g off)) m c,Un y.fl,Ud y.r,Ud y.q,Um y.v]] w λe w'=>∃q cap,e=Ui (Uo #[Uf (Uc q) m cap,Un y.fl,Ud y.r,Ud y.q,Um y.v])/\Bl w w'/\w.1.size<=q/\q<w'.1.size/\Wr w' q 9 m (λt=>Um (gS y.p t))/\m<=cap/\cap<=9223372036854775807:=
 (Mf g off m c y w hp hm hg h).mono λe w' ⟨q,cap,a1,a2,a3,a4,a5,a6,a7,_⟩=>⟨q,cap,a1,a2,a3,a4,a5,a6,a7⟩
theorem aF.setFar{v3 v4:aB}(h:aF w b v0 v1 v2 v3 v4)(t:Nat)(u:aB)(hne:b≠t):aF (w.setCell (Ub t) u) b v0 v1 v2 v3 v4:=by
 have e:(w.setCell (Ub t) u).1[b]? =w.1[b]? :=zH _ _ _ _ hne;have q:=λo=>Vy (w:=w) (w':=w.setCell (Ub t) u) (a:=(Ua b o)) e;exact⟨(q 0).trans h.c0,(q 1).trans h.c1,(q 2).trans h.c2,(q 3).trans h.c3,(q 4).trans h.c4,λi=>(Vz (a:=(Ua b i)) e).trans (h.f i),by simp[Vr];exact h.lt⟩
theorem FR.setFar{l:List Rn}(h:FR w B v l)(q:Us)(u:aB)(hv:v.ownBlock≠Uq q.block):FR (w.setCell q u) B v l:=by
 refine World.ownsRow.kept h (w':=w.setCell q u) (row:=Uq q.block) ⟨rfl,rfl,rfl,by simp[Vr],λk hk hne=>zH _ _ _ _ (λe=>hne (by rw[e]))⟩ ?_;cases e:v.ownBlock with
 |none=>exact .inl rfl
 |some b=>exact .inr (λe2=>hv (by rw[e];exact e2))
theorem LC.set{P Q:Nat->Nat}(h:LC w lo v l P Q)(q:Us)(u:aB)(hg:v.ownBlock≠Uq q.block)(hP:∀i,i<l.length->P i≠q.block):LC (w.setCell q u) lo v l P Q:=
 ⟨dK h.row (λg hg'=>zH _ _ _ _ (λe=>hg (by rw[hg',e]))),λi hi=>by
  have⟨k,m,r,j⟩:=h.pt i hi;exact⟨k,by simp[Vr];exact m,r,j.1.same (zH _ _ _ _ (hP i hi)),j.2⟩⟩
structure JS(w wr:Ur)(t:Nat)(va0 va1 vb0 vb1:aB)(g c:Nat)(vr:aB)(l:List Lf)(lr:List Rn)(P Q:Nat->Nat):Prop where
 low:Bl w wr
 a:aD wr w.1.size va0 va1
 b:aD wr (w.1.size+1) vb0 vb1
 r:aD wr (w.1.size+1+1) Ue Ue
 o:aD wr t (Uf (Uc g) l.length c) vr
 lc:LC wr w.1.size (Uf (Uc g) l.length c) l P Q
 fr:FR wr w.1.size vr lr
 ht:w.1.size+3<=t
 hv:vr.ownBlock≠Uq t
 hg:w.1.size+3<=g
 hv2:∀b,vr.ownBlock=Uq b->w.1.size+3<=b
section
variable {w wr w1 : Ur}{t : Nat}{va0 va1 vb0 vb1 : aB}{g c : Nat}{vr : aB}{l : List Lf}{lr : List Rn}{P Q : Nat-> Nat}
theorem JS.bw(h:JS w wr t va0 va1 vb0 vb1 g c vr l lr P Q)(hb:Bl wr w1):JS w w1 t va0 va1 vb0 vb1 g c vr l lr P Q:=
 ⟨h.low.trans (hb.mono h.low.size),h.a.bw hb h.a.lt,h.b.bw hb h.b.lt,h.r.bw hb h.r.lt,h.o.bw hb h.o.lt,h.lc.bw hb,h.fr.bw hb,h.ht,h.hv,h.hg,h.hv2⟩
theorem JS.set{g2 c2 n2:Nat}{l2:List Lf}{P2 Q2:Nat->Nat}(h:JS w wr t va0 va1 vb0 vb1 g c vr l lr P Q)(hb:Bl wr w1)(h2:LC w1 w.1.size (Uf (Uc g2) n2 c2) l2 P2 Q2)(hn:n2=l2.length)(hg:wr.1.size<=g2)(hp:∀i,i<l2.length->1<=(gL l2 i).p.length):JS w (w1.setCell (Ub t) (Uf (Uc g2) n2 c2)) t va0 va1 vb0 vb1 g2 c2 vr l2 lr P2 Q2:=by
 subst hn;have j:=h.bw hb;have u:=h.o.lt;have m:=h.ht;refine⟨j.low.setCell oQ _,j.a.setAt _ _ oQ,j.b.setAt _ _ oQ,j.r.setAt _ _ oQ,j.o.set0 _,h2.set _ _ (λe=>by have:=jK e;have:g2=t:=this;omega) (λi hi e=>?_),?_,h.ht,h.hv,oM,h.hv2⟩
 .have q:=(h2.pt i hi).2.2.2.1.cell (i:=0)<|oH (hp i hi);have e:P2 i=t:=e;rw[e,j.o.c0]at q;cases q
 .refine World.ownsRow.kept j.fr (w':=w1.setCell (Ub t) _) (row:=Uq t) ⟨rfl,rfl,rfl,by simp[Vr],λk hk hne=>zH _ _ _ _ (λe=>hne (by rw[e]))⟩ ?_;cases e:vr.ownBlock with
  |none=>exact .inl rfl
  |some b=>exact .inr (λe2=>h.hv (by rw[e];exact e2))
end
theorem bY.keptR{f:Nat->Int}{row:Option Nat}(h:bY w a n f)(g:w.grownBy w' row)(hab:∀y,a=Uq y->row≠Uq y.block):bY w' a n f:=by
 refine h.imp id ?_;rintro⟨b,off,rfl,j,k⟩;exact⟨b,off,rfl,Ut j g.size,λi hi=>(Vy (a:=(Ua b _)) (g.block b j (λe=>hab _ rfl e.symm))).trans (k i hi)⟩
theorem Th(g m c:Nat)(p:List ByteArray)(w:Ur)(hp:p.length=m)(hm:m<=1048576)(hg:g<w.1.size)(h:∀t,t<m->w.cell? (Ua g t)=Uq (Um (gS p t))):
  Cl 120 #[Uf (Uc g) m c] w λe w'=>∃q cap,e=Ui (Uf (Uc q) m cap)/\Bl w w'/\w.1.size<=q/\w'.ownsRow w.1.size 9 1 (Uf (Uc q) m cap) m (dJ p):=by
 have⟨O,hi,A,E,M⟩:=info_parts uE;have r:Bl w (w.alloc (Uj #[] 9)):=zO _ _;have y:(w.alloc (Uj #[] 9)).ownsRow w.1.size 9 1 (Uf (Uc w.1.size) 0 0) 0 []:=by
  have:=Vo (base:=w.1.size) (e:=9) (size:=1) w #[] 0 zL oL rfl;simpa using this
 have⟨q,cap,w',u,o,v,z⟩:=Nh 31 9 O _ 1 16 underlying31 hi A E M rfl oD oM w.1.size g 0 m c (λt=>Um (gS p t)) (w.alloc (Uj #[] 9)) w.1.size hm y oP (λj hj=>by rw[UA];exact(r.cell (p:=(Ua g j)) hg).trans (h j oM)) (λ_ _=>rfl);have i:aA (Bl w w'):=aC<|r.grown v r.size (λk e=>oI e);have s:aA (w'.ownsRow w.1.size 9 1 (Uf (Uc q) m cap) m (dJ p)):=aC (by unfold dJ;rw[hp];exact o);have b:aA (w.1.size<=q):=aC (by rcases z with e|e<;>rw[e];exact Ux _;simp);go_enter func120,ntmps120;go_wp2_with (at_builtin;refine cL rfl _ _ _ _ rfl u (by rfl) (by rfl) rfl ?_;clear u);go_ret;exact⟨q,cap,rfl,i,b,s⟩
theorem iP.snoc{y:Lf}(h:iP l)(hy:y.p.length<=8):iP (l++[y]):=λi=>by
 rcases Nat.lt_trichotomy i l.length with e|e|e
 .rw[tQ l y e];exact h i
 .subst e;rw[tR];omega
 .have:gL (l++[y]) i=gL [] 0:=by
   have j:¬i<(l++[y]).length:=oS;simp[gL,UL,UT (Nat.le_of_not_lt j)]
  rw[this];show([]:List ByteArray).length<=1048576;simp
theorem NF{W Wz:Ur}{oa:Option Us}{oc q:Nat}(h:LB wr lo (Uf oa l.length oc) l)(hlo:lo<=wr.1.size)(hk:l.length<=1048576)(b1:Bl wr w1)(hq:wr.1.size<=q)(ho:w1.ownsRow wr.1.size 9 1 (Uf (Uc q) m cap) m (dJ p))(hp:p.length=m)(ob:Obj)
  (bW:Below (w1.1.size+1) (w1.alloc ob) W) (gz:W.grownBy Wz (Uq w1.1.size)) (hsz:Wz.1.size=W.1.size) (fl:Bool) (r s:Int) (v:ByteArray):
  ∃z y g,(Builtin.append_ #[23,23] 23 #[Uf oa l.length oc,Uf (Uc W.1.size) 1 1]).run prog (Wz.alloc (Uj #[Uf (Uc q) m cap,Un fl,Ud r,Ud s,Um v] 101))=.ok (Uf (Uc z) (l.length+1) y) g/\
   LB g lo (Uf (Uc z) (l.length+1) y) (l++[⟨p,fl,r,s,v⟩])/\Gr wr g (Uf oa l.length oc) (Uf (Uc z) (l.length+1) y):=by
 subst hp;have Q:=(World.ownsRow.lt ho q rfl).2;have Y:=(tX ho rfl).2;have O:p.length<=cap/\cap<=9223372036854775807:=by
  rcases ho.2 with⟨E,_⟩|⟨G,y,Z,U,L,K,H,M,I,J⟩
  .cases E
  .injection U with j u b;unfold maxLen at M;omega
 have A:=b1.size;have X:=bW.size;have o:Bl w1 (w1.alloc ob):=zO _ _;have i:Bl wr Wz:=by
  have j:=b1.trans<|o.mono A;have u:=j.trans<|bW.mono (Uz A (UD _));exact u.grown gz u.size<|λk e=>oI e
 have N:(w1.alloc ob).1.size=w1.1.size+1:=oP;have V:Wr Wz q 9 p.length (λt=>Um (gS p t)):=by
  have j:=Y.same<|o.block q Q;have u:=j.same<|bW.block q oM;exact u.same<|gz.block q oM (λe=>oI e)
 have⟨z,y,g,j,u,b⟩:=h.app i hlo hk ⟨p,fl,r,s,v⟩ q cap hq oM V O;rw[hsz]at j;exact⟨z,y,g,j,u,(Gr.of_below i).trans b⟩
structure tG(w:Ur)(a:Option Us)(n:Nat)(f:Nat->Int)(g:Nat)(p:List ByteArray)(vo:aB)(acc:List Lf)(lo:Nat):Prop where
 sg:bY w a n f
 gl:g<w.1.size
 gc:∀t,t<p.length->w.cell? (Ua g t)=Uq (Um (gS p t))
 go:vo.ownBlock≠Uq g
 ab:∀y,a=Uq y->vo.ownBlock≠Uq y.block
 lb:LB w lo vo acc
 bd:iP acc
 lo':lo<=w.1.size
def sZ(w:Ur)(lo:Nat)(vo:aB)(x':Nat)(L:List Lf)(e:Ending)(w':Ur):Prop:=∃oa oc,e=Ui (Ul #[Uf oa L.length oc,Ud (x':Int),Un true])/\Gr w w' vo (Uf oa L.length oc)/\LB w' lo (Uf oa L.length oc) L/\iP L
def BO(kind:Int)(p:List ByteArray)(z:Lf):Prop:=z.p=p/\z.fl=decide (kind=2)/\(0<=z.r/\z.r<=7)/\(0<=z.q/\z.q<=1000000000)/\z.v.size<=200/\(kind=2->z.v=⟨#[]⟩)
theorem kE.all{K:Int->Int->Bool}(hK:tA K){kind:Int}{p:List ByteArray}:∀{B:List Lf}{b:Dt}{acc:List Lf},kE K kind p b acc B->∀z∈B,BO kind p z
 |[],_,_,_,z,j=>by simp at j
 |y::B,b,acc,h,z,j=>by
  rcases List.mem_cons.1 j with rfl|j
  .have:=hK _ _ h.1.k;exact⟨h.1.p,h.1.fl,oM,oM,h.1.v,λe=>h.1.e e⟩
  .exact kE.all hK h.2.2.2.2 z j
theorem WR(a:Option Us)(n c x x':Nat)(f:Nat->Int)(g pc:Nat)(p:List ByteArray)(kind:Int)(oa0:Option Us)(oc0:Nat)(acc B:List Lf)(lo:Nat)(w:Ur)(hn:n<=4000)(hnc:n<=c)(hf:dO f)(hk:kind=1\/kind=2)(hp8:p.length<=8)(hA:tG w a n f g p (Uf oa0 acc.length oc0) acc lo)(hl:(acc++B).length<=1000)(hB:∀z∈B,BO kind p z)(hR:Rb f n x (mB B kind) x'):
  Cl 189 #[Uf a n c,Ud (x:Int),Uf (Uc g) p.length pc,Un (decide (kind=2)),Uf oa0 acc.length oc0] w λe w'=>sZ w lo (Uf oa0 acc.length oc0) x' (acc++B) e w':=by
 have⟨P,hP⟩:=zE (sZ w lo (Uf oa0 acc.length oc0) x' (acc++B));rw[hP];have HP:=aC hP;have⟨y0,r1,r2⟩:=Rb.app hR;have⟨V,hV⟩:=zE B.length;rw[hV]at r1;rw[UM,hV]at hl;have HU:=aC<|nY a n c x y0 V 1000 f w oM hf hA.sg oM oM r1;have HV:=aC hV;have HR:=aC r2;have A:=aC hA;have H3:=aC hB;have HF:=aC hf;have⟨m,hm⟩:=zE p.length;have HM:=aC hm;rw[hm]at hp8⊢;have⟨fl,Hq⟩:=zE (decide (kind=2));have Hu:=aC<|And.intro Hq hk;rw[Hq];clear hP hV r1 r2 hA hB hf hR hm Hq hk;go_enter func189,ntmps189;go_wp2_with fail;refine HU.mono ?_;clear HU;rintro e w1⟨rfl,b1⟩;have Ht:=aC b1;have z1:=b1.size;clear b1;go_wp2_with fail;go_loopw [4,14,15,16] (λov av kv iv wr=>∃(k y:Nat) (H:Option Us) (I:Nat) (l:List Lf),k<=V/\iv=Ud (k:Int)/\av=Ud (y:Int)/\kv=Un true/\ov=Uf H l.length I/\l.length<=1000/\aA (l.length=acc.length+k)/\w.1.size<=wr.1.size/\aA (LB wr lo (Uf H l.length I) l)/\aA (Gr w wr (Uf oa0 acc.length oc0) (Uf H l.length I))/\aA (iP l)/\aA (l=acc++B.take k/\Rb f n y ((B.drop k).flatMap (cU kind)) x')) (λ_ _ _ iv _=>V-(intOf iv).toNat);case atStart=>exact⟨0,y0,oa0,oc0,acc,UB _,rfl,rfl,rfl,rfl,oM,aC rfl,z1,aC (A.lb.bw Ht),aC (Gr.of_below Ht),aC A.bd,aC ⟨oP,HR⟩⟩
 case round=>
  obtain⟨k,y2,H,I,l,H7,rfl,rfl,rfl,rfl,H8,H6,H0,Hp,J,Ho,hI⟩:=hrel;by_cases Hr:k<V
  .have⟨z,hp,Hz⟩:=qG (l:=B) (k:=k) (by rw[HV.out];exact Hr);have⟨T,L⟩:=hI.out;rw[hp,VP]at L;have⟨x3,W,q4⟩:=Rb.app L;have⟨x1,W,q2⟩:=Rb.app W;have⟨x2,q2,q3⟩:=Rb.app q2;have⟨o1,o2,o3,o4,o5,o6⟩:=H3 z (by
    have:z∈B.drop k:=(by rw[hp];simp);exact List.mem_of_mem_drop this)
   obtain⟨u,R⟩:∃u:Nat,z.r=(u:Int):=⟨z.r.toNat,oM⟩;obtain⟨h,S⟩:∃h:Nat,z.q=(h:Int):=⟨z.q.toNat,oM⟩;have⟨s,Hh⟩:=zE z.v;rw[R,show((u:Int)).toNat=u from by omega]at W;rw[S,show((h:Int)).toNat=h from by omega]at q2;rw[Hh]at q3 o5 o6;rw[R]at o3;rw[S]at o4;have ez:z=⟨p,fl,(u:Int),(h:Int),s⟩:=by
    have⟨zp,zf,zr,zq,zv⟩:=z;simp only at o1 o2 R S Hh;rw[o1,o2,Hu.1,R,S,Hh]
   have HN:aA (l++[⟨p,fl,(u:Int),(h:Int),s⟩]=acc++B.take (k+1)/\Rb f n x3 ((B.drop (k+1)).flatMap (cU kind)) x'):=aC ⟨by rw[Hz,<-Ve,<-T,ez],q4⟩;have N:aA (∀W',Bl wr W'->bY W' a n f):=aC (λW' b=>bY.bw (bY.keptR A.sg J.1 (λy hy=>A.ab y hy)) b);have Hw:=aC (Th g m pc p wr HM oM (Ut A.gl H0) (λt ht=>(Vy (a:=(Ua g t)) (J.1.block g A.gl (λe=>A.go e.symm))).trans (A.gc t (by rw[HM.out];exact ht))));have H5:=aC q2;have H4:=aC W;have Hl:aA ((fl=true/\s=⟨#[]⟩/\x3=x2)\/(fl=false/\Rb f n x2 (cM s) x3)):=aC (by
    rcases Hu.out with⟨M,U|U⟩
    .subst U;exact .inr ⟨by rw[<-M];rfl,q3⟩
    .subst U;exact .inl ⟨by rw[<-M];rfl,o6 rfl,Rb.nil q3⟩)
   clear hI T L W q2 q3 q4 hp Hz o1 o2 o6 R S Hh ez;go_wp2_with fail;refine Hw.mono ?_;clear Hw;rintro e o⟨q,cap,rfl,b2,hq,ho⟩;have Hv:=aC ho;have Hi:=aC b2;have HQ:=aC hq;clear ho b2 hq;have b3:Bl o (o.alloc (Uj #[Uf (Uc q) m cap,Un fl,Ud 0,Ud 0,Um ⟨#[]⟩] 101)):=zO _ _;have C:aA (aF (o.alloc (Uj #[Uf (Uc q) m cap,Un fl,Ud 0,Ud 0,Um ⟨#[]⟩] 101)) o.1.size (Uf (Uc q) m cap) (Un fl) (Ud 0) (Ud 0) (Um ⟨#[]⟩)):=aC (aF.new _ _ _ _ _ _ _);have Q:=aC (aE Hi b3);have Hm:=aC (nY a n c y2 x1 u 8 f _ oM HF (N _ Q) oM oM H4);clear b3;go_wp2_with fail;have⟨W3,Hg⟩:=zE (o.alloc (Uj #[Uf (Uc q) m cap,Un fl,Ud 0,Ud 0,Um ⟨#[]⟩] 101));have Hn:aA (W3.1.size=o.1.size+1):=aC (Hg▸oP);have H1:=aC Hg;rw[Hg]at C Q Hm⊢;clear Hg;refine Hm.mono ?_;clear Hm;rintro e w4⟨rfl,b4⟩;have Hx:=aC (nY a n c x1 x2 h 1000000000 f w4 oM HF (N w4 (Q.trans (b4.mono Q.size))) oM oM H5);have H2:=aC b4;clear b4;go_wp2_with fail;refine Hx.mono ?_;clear Hx;rintro e w5⟨rfl,b5⟩;have He:=aC (aE H2 b5);clear b5;have Ha:aA (∀(i Wz:Ur),Bl W3 i->i.grownBy Wz (Uq o.1.size)->Wz.1.size=i.1.size->∃O E Y,(Builtin.append_ #[23,23] 23 #[Uf H l.length I,Uf (Uc i.1.size) 1 1]).run prog (Wz.alloc (Uj #[Uf (Uc q) m cap,Un fl,Ud (u:Int),Ud (h:Int),Um s] 101))=.ok (Uf (Uc O) (l.length+1) E) Y/\
     w.1.size<=Y.1.size/\aA (LB Y lo (Uf (Uc O) (l++[(⟨p,fl,(u:Int),(h:Int),s⟩:Lf)]).length E) (l++[⟨p,fl,(u:Int),(h:Int),s⟩]))/\aA (Gr w Y (Uf oa0 acc.length oc0) (Uf (Uc O) (l++[(⟨p,fl,(u:Int),(h:Int),s⟩:Lf)]).length E))):=aC (λi Wz D Z hsz=>by
    have⟨O,E,Y,G,Hd,Hb⟩:=NF Hp (Uz A.lo' H0) oM Hi HQ Hv HM _ (by rw[H1.out];have:=Hn.out;rw[<-this];exact D) Z hsz fl (u:Int) (h:Int) s;rw[show l.length+1=(l++[(⟨p,fl,(u:Int),(h:Int),s⟩:Lf)]).length by simp]at Hd Hb;exact⟨O,E,Y,G,(J.trans Hb).1.size,aC Hd,aC (J.trans Hb)⟩)
   have Hc:=aC (Ho.snoc (y:=⟨p,fl,(u:Int),(h:Int),s⟩) (by show p.length<=8;rw[HM.out];exact hp8));have Hf:aA ((l++[(⟨p,fl,(u:Int),(h:Int),s⟩:Lf)]).length<=1000/\(l++[(⟨p,fl,(u:Int),(h:Int),s⟩:Lf)]).length=acc.length+(k+1)):=aC (by have:=H6.out;simp;omega);clear Hp J Ho Hv Hi;rcases Hl.out with⟨M,U,F⟩|⟨M,F⟩;subst M U;have HX:=aC F;clear Hl F;have X:=C.bw He (oH Hn);have Z:w5.grownBy ((w5.setCell (Ua o.1.size 2) (Ud (u:Int))).setCell (Ua o.1.size 3) (Ud (h:Int))) (Uq o.1.size):=⟨rfl,rfl,rfl,by simp[Vr],λj hj hne=>by
    have K:j≠o.1.size:=λe=>hne (by rw[e]);exact(zH _ _ _ _ K).trans (zH _ _ _ _ K)⟩
   have⟨O,E,Y,G,Hs,Hk,Hj⟩:=Ha w5 _ He Z (by simp[Vr]);have⟨c0,c1,c2,c3,c4,cf⟩:=X.p5;clear X Z N C Q Ha;rotate_left;focus
    subst M;have Hy:=aC (Wq a n c x2 x3 200 s f w5 oM hnc HF (N w5 (Q.trans (He.mono Q.size))) o5 oM F);clear Hl F;go_wp2_with fail;refine Hy.mono ?_;clear Hy;rintro e i⟨rfl,b6⟩;have D:Bl W3 i:=aE He b6;have X:=C.bw D (oH Hn);have Z:i.grownBy (((i.setCell (Ua o.1.size 4) (Um s)).setCell (Ua o.1.size 2) (Ud (u:Int))).setCell (Ua o.1.size 3) (Ud (h:Int))) (Uq o.1.size):=⟨rfl,rfl,rfl,by simp[Vr],λj hj hne=>by
     have K:j≠o.1.size:=λe=>hne (by rw[e]);exact(zH _ _ _ _ K).trans ((zH _ _ _ _ K).trans (zH _ _ _ _ K))⟩
    have⟨O,E,Y,G,Hs,Hk,Hj⟩:=Ha i _ D Z (by simp[Vr]);have⟨c0,c1,c2,c3,c4,cf⟩:=X.p5;clear X Z N C Q Ha D b6
   rotate_left;all_goals go_wp2_with (at_builtin;refine cL rfl _ _ _ _ rfl G (by rfl) (by rfl) rfl ?_;clear G);go_roundw;case measure=>exact oE
   .exact⟨k+1,x2,Uq (Ub O),E,l++[⟨p,true,(u:Int),(h:Int),⟨#[]⟩⟩],Hr,oN,rfl,rfl,oP,Hf.1,aC Hf.2,Hs,Hk,Hj,Hc,aC ⟨HN.1,by rw[<-HX.out];exact HN.2⟩⟩
   .exact⟨k+1,x3,Uq (Ub O),E,l++[⟨p,false,(u:Int),(h:Int),s⟩],Hr,oN,rfl,rfl,oP,Hf.1,aC Hf.2,Hs,Hk,Hj,Hc,HN⟩
  .obtain rfl:k=V:=oM;obtain⟨M,U⟩:l=acc++B/\x'=y2:=by
    have⟨T,L⟩:=hI.out;rw[<-HV.out,Vj]at T;rw[<-HV.out,Yw]at L;exact⟨T,Rb.nil L⟩
   have HE:=aC<|And.intro M U;clear M U hI;go_wp2_with fail;refine zF (v:=Ul #[Uf H l.length I,Ud (y2:Int),Un true]) (by simp[results,results189,go_sem]) ?_;rw[<-HP.out,<-HE.1,HE.2];exact⟨H,I,rfl,J,Hp,Ho⟩
theorem Xx(K:Int->Int->Bool)(hK:tA K)(a:Option Us)(n c:Nat)(f:Nat->Int)(lo d:Nat)(p:List ByteArray)(hpd:p.length+d=8)(hn:n<=4000)(hnc:n<=c)(hf:dO f)
  (hrec:p.length<8->∀(s:ByteArray) (x x' g pc:Nat) (z:Option Us) (o:Nat) (acc B:List Lf) (U:List Int) (W:Ur),tG W a n f g (p++[s]) (Uf z acc.length o) acc lo->(acc++B).length<=1000->RT K d (p++[s]) acc B U->Rb f n x U x'->Cl 163 #[Uf a n c,Ud (x:Int),Uf (Uc g) (p.length+1) pc,Uf z acc.length o] W λe w'=>sZ W lo (Uf z acc.length o) x' (acc++B) e w')
  (x x' g pc:Nat) (oa0:Option Us) (oc0:Nat) (acc B:List Lf) (U:List Int) (w:Ur) (hA:tG w a n f g p (Uf oa0 acc.length oc0) acc lo) (hl:(acc++B).length<=1000) (hT:RT K (d+1) p acc B U) (hR:Rb f n x U x'):
  Cl 163 #[Uf a n c,Ud (x:Int),Uf (Uc g) p.length pc,Uf oa0 acc.length oc0] w λe w'=>sZ w lo (Uf oa0 acc.length oc0) x' (acc++B) e w':=by
 obtain⟨P,hP⟩:=zE (sZ w lo (Uf oa0 acc.length oc0) x' (acc++B));rw[hP];have HP:=aC hP;clear hP;obtain⟨G,H0,rfl,Gc,H1,H2,H3⟩:=hT;have H8:p.length<8:=by
  by_cases h:G=[]
  .have:=H1 h;omega
  .exact H2 h
 obtain⟨y0,r1,r2⟩:=Rb.app hR;obtain⟨V,hV⟩:=zE G.length;rw[hV]at r1 Gc;have HU:=aC<|nY a n c x y0 V 4000 f w oM hf hA.sg oM oM r1;have HV:=aC hV;have HI:=aC<|And.intro H3 r2;have Hk:=aC<|hrec H8;have HF:=aC hf;have i:=aC hA;have Hi:=aC<|And.intro H0 hl;obtain⟨m,hm⟩:=zE p.length;have A:=aC hm;rw[hm]at hpd H8⊢;clear hrec hf hA hm H0 hV r1 r2 hR H3 H1 H2 hl;go_enter func163,ntmps163;go_wp2_with fail;refine HU.mono ?_;clear HU;rintro e w1⟨rfl,b1⟩;have Hu:=aC b1;have z1:=b1.size;clear b1;go_wp2_with fail;go_loopw [3,12,13,14] (λov av kv iv wr=>∃(k y:Nat) (z:Option Us) (o:Nat) (l:List Lf),k<=V/\iv=Ud (k:Int)/\av=Ud (y:Int)/\kv=Un true/\ov=Uf z l.length o/\w.1.size<=wr.1.size/\aA (LB wr lo (Uf z l.length o) l)/\aA (Gr w wr (Uf oa0 acc.length oc0) (Uf z l.length o))/\aA (iP l)/\aA (l=acc++(G.take k).flatMap (λg=>g.2.1)/\Rb f n y ((G.drop k).flatMap gB) x'/\∃bf,RK K (RT K d) p bf l (G.drop k))) (λ_ _ _ iv _=>V-(intOf iv).toNat);case atStart=>exact⟨0,y0,oa0,oc0,acc,UB _,rfl,rfl,rfl,rfl,z1,aC (i.lb.bw Hu),aC (Gr.of_below Hu),aC i.bd,aC ⟨oP,HI.2,_,HI.1⟩⟩
 case round=>
  obtain⟨k,y2,z,o,l,Gl,rfl,rfl,rfl,rfl,Ga,F,O,Hg,hI⟩:=hrel;by_cases Hp:k<V
  .obtain⟨⟨⟨s,kv⟩,J,U⟩,hp,H9⟩:=qG (l:=G) (k:=k) (by rw[HV.out];exact Hp);obtain⟨Z,Q,bf,i3⟩:=hI.out;rw[hp]at Q i3;obtain⟨⟨n0,Gb,Hn⟩,Hl,Hq⟩:=i3;rw[VP]at Q;obtain⟨H,q1,q4⟩:=Rb.app Q;obtain⟨E,q1,Y⟩:=Rb.app (show Rb f n y2 (cM s++([kv]++U)) H from q1);obtain⟨H6,Gh,q3⟩:=Rb.cons (show Rb f n E (kv::U) H from Y);dsimp only at Gb Hl Hq;have H7:(l++J).length<=1000:=by
    have r:(l++J) <+:acc++B:=by
     rw[Hi.1,Z,Ve];refine List.prefix_append_right_inj _|>.2 ?_;have:G=G.take k++(((s,kv),J,U)::G.drop (k+1)):=(by rw[<-hp,Yx]);rw[this,Yh,List.take_append_of_le_length (by simp[HV.out];omega),List.take_take,Nat.min_self,VP];exact⟨_,by rw[Ve]⟩
    exact Uz r.length_le Hi.2
   have HN:aA (l++J=acc++(G.take (k+1)).flatMap (λg=>g.2.1)/\Rb f n H ((G.drop (k+1)).flatMap gB) x'/\∃bf,RK K (RT K d) p bf (l++J) (G.drop (k+1))):=aC ⟨by rw[H9,Yh,Z];simp,q4,_,Hq⟩;have X:aA (∀W',Bl wr W'->bY W' a n f):=aC (λW' b=>bY.bw (bY.keptR i.sg O.1 (λy hy=>i.ab y hy)) b);have Hz:=aC (Wq a n c y2 E 40 s f wr oM hnc HF (X wr zI) Gb oM q1);have Hw:=aC Hl;have Hy:=aC q3;clear hI Z Q q1 Y q3 q4 hp H9 Hn n0 Hq Hl;go_wp2_with fail;refine Hz.mono ?_;clear Hz;rintro e w2⟨rfl,b2⟩;have I:=aC b2;clear b2;have H5:=HF E;rw[H6]at H5;obtain⟨Gi,Gj⟩:=H5;obtain⟨ab,ao,ha,Gd,H4⟩:=(X w2 I).resolve_left oM;subst ha;have cx:=H4 E Gh;rw[H6]at cx;have Z:(0:Int)<=(E:Int):=VH _;have Q:(E:Int)<(n:Int):=oM;have i3:¬(n:Int)<=(E:Int):=oM;have Hx:=aC (Th g m pc p w2 A oM (Ut (Ut i.gl Ga) I.size) (λt ht=>(I.cell (p:=(Ua g t)) (Ut i.gl Ga)).trans ((Vy (a:=(Ua g t)) (O.1.block g i.gl (λe=>i.go e.symm))).trans (i.gc t (oH A)))));clear H4 Gd;go_wp2_with fail;clear cx;refine Hx.mono ?_;clear Hx;rintro e w3⟨q,cap,rfl,b3,hq,ho⟩;have Hv:=aC (aE I b3);have Gm:=I.size;have Gn:=b3.size;have Ha:(w3.alloc (Uj #[Um s] 9)).cell? (Ub w3.1.size)=Uq (Um s):=oP;obtain⟨Y,Hd,T,S,Hh,gq,Ge⟩:=Fy (p:=p) (by rw[A.out];exact World.ownsRow.alloc ho _) oS (oH A) s w3.1.size Ha;rw[A.out]at S Hh;have L:aA (Bl wr T):=aC (by
    have r:=Hv.alloc Hv.size (Uj #[Um s] 9);exact r.grown gq r.size (λj e=>by
     have:q=j:=(by simpa[Value.ownBlock]using e);omega))
   obtain⟨He,_⟩:=tX Hh (by simp;exact A);have Hf:aA (tG T (Uq (Ua ab ao)) n f Y (p++[s]) (Uf z l.length o) l lo):=aC (by
    have Gg:=World.ownsRow.lt Hh Y rfl;refine⟨X T L,Gg.2,λt ht=>?_,λe=>?_,λy hy e=>?_,F.bw L,Hg,?_⟩
    .rcases He with⟨h,_⟩|⟨g',c',h1,h2,h3⟩
     .cases h
     .injection h1 with r e2 e3;injection r with r;cases r;exact h3 t ht
    .have:=(F.lt Y e).2;omega
    .rcases O.2 with h|⟨u,h1,h2⟩
     .exact i.ab y hy<|h.symm.trans e
     .rw[h1]at e;injection e with e;have:=i.sg;rcases this with h0|⟨b',o',e',Gk,_⟩
      .omega
      .rw[hy]at e';cases e';simp at e;omega
    .have:=i.lo';have:=L.size;omega)
   clear ho Hh b3 He gq Ha Ge;by_cases Ho:kv=3
   .subst Ho;have M:=aC (Hk s (E+1) H Y Hd z o l J U T Hf H7 (by have:=Hw.out;unfold RD at this;rw[if_pos rfl]at this;exact this) Hy);rw[A.out]at M;go_wp2_with (at_builtin;refine cL rfl _ _ _ _ rfl S (by rfl) (by rfl) rfl ?_;clear S);refine M.mono ?_;clear M;rintro e w5⟨Hs,Ht,rfl,D,R,C⟩;have N:=aC<|O.trans ((Gr.of_below L).trans D);have Hj:=aC R;have Hb:=aC C;have Hr:w.1.size<=w5.1.size:=N.1.size;clear D R C F O Hg X Hf;go_wp2_with fail;go_roundw;case rel=>exact⟨k+1,H,Hs,Ht,l++J,Hp,oN,rfl,rfl,oP,Hr,Hj,N,Hb,HN⟩
    case measure=>exact oE
   .have hd:=Hw.out;unfold RD at hd;rw[if_neg Ho]at hd;obtain⟨Hc,_,_,Hm,hU⟩:=hd;dsimp only at Hc Hm hU;have M:=aC (WR (Uq (Ua ab ao)) n c (E+1) H f Y Hd (p++[s]) kv z o l J lo T hn hnc HF Hc (by have:=A.out;simp;omega) Hf H7 (kE.all hK Hm) (hU▸Hy.out));rw[show(p++[s]).length=m+1 by rw[UM,A.out];rfl]at M;clear Ho Hm hU;rcases Hc with rfl|rfl;all_goals
     simp only[show decide ((1:Int)=2)=false from rfl,show decide ((2:Int)=2)=true from rfl]at M
     go_wp2_with (at_builtin;refine cL rfl _ _ _ _ rfl S (by rfl) (by rfl) rfl ?_;clear S)
     refine M.mono ?_
     clear M
     rintro e w5⟨Hs,Ht,rfl,D,R,C⟩
     have N:=aC<|O.trans ((Gr.of_below L).trans D)
     have Hj:=aC R
     have Hb:=aC C
     have Hr:w.1.size<=w5.1.size:=N.1.size
     clear D R C F O Hg X Hf
     go_wp2_with fail
     go_roundw
     case rel=>exact⟨k+1,H,Hs,Ht,l++J,Hp,oN,rfl,rfl,oP,Hr,Hj,N,Hb,HN⟩
     case measure=>exact oE
  .obtain rfl:k=V:=oM;obtain⟨r,e2⟩:l=acc++B/\x'=y2:=by
    obtain⟨Z,Q,_⟩:=hI.out;rw[<-HV.out,Vj]at Z;rw[<-HV.out,Yw]at Q;exact⟨by rw[Z,Hi.1],Rb.nil Q⟩
   have HE:=aC<|And.intro r e2;clear r e2 hI;go_wp2_with fail;refine zF (v:=Ul #[Uf z l.length o,Ud (y2:Int),Un true]) (by simp[results,results163,go_sem]) ?_;rw[<-HP.out,<-HE.1,HE.2];exact⟨z,o,rfl,O,F,Hg⟩
theorem Y9(K:Int->Int->Bool)(hK:tA K)(a:Option Us)(n c:Nat)(f:Nat->Int)(lo:Nat)(hn:n<=4000)(hnc:n<=c)(hf:dO f):
  ∀(d:Nat) (p:List ByteArray),p.length+d=8->∀(x x' g pc:Nat) (oa:Option Us) (oc:Nat) (acc B:List Lf) (U:List Int) (w:Ur),tG w a n f g p (Uf oa acc.length oc) acc lo->(acc++B).length<=1000->RT K (d+1) p acc B U->Rb f n x U x'->
  Cl 163 #[Uf a n c,Ud (x:Int),Uf (Uc g) p.length pc,Uf oa acc.length oc] w λe w'=>sZ w lo (Uf oa acc.length oc) x' (acc++B) e w'
 |0,p,hp,x,x',g,pc,oa,oc,acc,B,U,w,hA,hl,hT,hR=>Xx K hK a n c f lo 0 p hp hn hnc hf (λh=>absurd h oM) x x' g pc oa oc acc B U w hA hl hT hR
 |d+1,p,hp,x,x',g,pc,oa,oc,acc,B,U,w,hA,hl,hT,hR=>Xx K hK a n c f lo (d+1) p hp hn hnc hf (λh s x1 x1' g' pc' oa' oc' acc' B' U' W hA' hl' hT' hR'=>by
   have:=Y9 K hK a n c f lo hn hnc hf d (p++[s]) oS x1 x1' g' pc' oa' oc' acc' B' U' W hA' hl' hT' hR';rw[show(p++[s]).length=p.length+1 by simp]at this;exact this) x x' g pc oa oc acc B U w hA hl hT hR
def jO(w:Ur)(b off:Nat)(l:List Lf)(i m:Nat):Prop:=b<w.1.size/\∀t,t<m->∃qa qc,w.cell? (Ua b (off+t*5))=Uq (Uf qa (gL l (i+t)).p.length qc)/\aV w qa (gL l (i+t)).p/\w.cell? (Ua b (off+t*5+1))=Uq (Un (gL l (i+t)).fl)/\w.cell? (Ua b (off+t*5+2))=Uq (Ud (gL l (i+t)).r)/\w.cell? (Ua b (off+t*5+3))=Uq (Ud (gL l (i+t)).q)/\w.cell? (Ua b (off+t*5+4))=Uq (Um (gL l (i+t)).v)
theorem jO.bw(h:jO w b off l i m)(hb:Bl w w'):jO w' b off l i m:=
 ⟨Ut h.1 hb.size,λt ht=>by
  have⟨y,z,j,k,q,r,u,v⟩:=h.2 t ht;exact⟨y,z,(hb.cell (p:=(Ua b _)) h.1).trans j,k.bw hb,(hb.cell (p:=(Ua b _)) h.1).trans q,(hb.cell (p:=(Ua b _)) h.1).trans r,(hb.cell (p:=(Ua b _)) h.1).trans u,(hb.cell (p:=(Ua b _)) h.1).trans v⟩⟩
theorem jO.take(h:jO w b off l i m)(hk:k<=m):jO w b off l i k:=⟨h.1,λt ht=>h.2 t oM⟩
theorem jO.drop(h:jO w b off l i m)(hk:k<=m):jO w b (off+k*5) l (i+k) (m-k):=⟨h.1,λt ht=>by
 have:=h.2 (k+t) oM;rw[show off+(k+t)*5=off+k*5+t*5 by omega,show i+(k+t)=i+k+t by omega]at this;exact this⟩
def jQ(d n:Nat)(fl:Bool):Int:=if d+1<n then 3 else kd fl
theorem qL{Q:Prop}(h:Q:=by go_enter func148,ntmps148;go_wp2_with fail;go_ret;exact⟨by rw[j.out];rfl,k⟩):Q:=h
theorem Me(pa:Option Us)(n pc:Nat)(fl:Bool)(r q:Int)(v:ByteArray)(d:Nat)(w:Ur)(hn:n<=1048576)(hd:d<=1000):
  Cl 148 #[Uo #[Uf pa n pc,Un fl,Ud r,Ud q,Um v],Ud (d:Int)] w (Rt w (Ud (jQ d n fl))):=by
 have k:=aC<|zO w (Uj #[Uf pa n pc,Un fl,Ud r,Ud q,Um v] 101);by_cases h:d+1<n
 .have m:(d:Int)+1<(n:Int):=oM;have j:aA (jQ d n fl=3):=aC<|if_pos h;exact qL
 .have m:¬(d:Int)+1<(n:Int):=oM;cases fl with
  |true=>have j:aA (jQ d n true=2):=aC (if_neg h);exact qL
  |false=>have j:aA (jQ d n false=1):=aC (if_neg h);exact qL
theorem PP(l:List Lf)(b off i m c d:Nat)(w:Ur)(hm:1<=m)(hm2:m<=1048576)(hd:d<=1000)(hp:∀t,t<m->d<(gL l (i+t)).p.length/\(gL l (i+t)).p.length<=1048576)(h:jO w b off l i m):
  Cl 147 #[Uf (Uq (Ua b off)) m c,Ud (d:Int)] w λe w'=>(∃g:Nat,e=Ui (Ud (g:Int))/\1<=g/\g<=m/\(∀t,t<g->bO (gL l (i+t)).p (kd (gL l (i+t)).fl) d=bO (gL l i).p (kd (gL l i).fl) d)/\(g<m->bO (gL l (i+g)).p (kd (gL l (i+g)).fl) d≠bO (gL l i).p (kd (gL l i).fl) d))/\Bl w w':=by
 have HL:=aC h;have HP:=aC hp;go_enter func147,ntmps147;go_wp2_with fail;go_loopw [5] (λi' wr=>∃k:Nat,k<=m/\i'=Ud k/\aA (∀t,t<k->bO (gL l (i+t)).p (kd (gL l (i+t)).fl) d=bO (gL l i).p (kd (gL l i).fl) d)/\aA (Bl w wr)) (λi' _=>m-(intOf i').toNat);case atStart=>exact⟨0,UB _,rfl,aC (λt ht=>oM),aC zI⟩
 case round=>
  obtain⟨k,hk,rfl,T,u⟩:=hrel;by_cases Hd:k<m
  .have Z:=HL.bw u;have⟨qa,kc,Q,hs,G,H,I,J⟩:=Z.2 k Hd;have⟨qz,zc,r,gs,o,A,E,M⟩:=Z.2 0 oM;have B:=HP k Hd;have Y:=HP 0 oM;simp only[YJ,Nat.zero_mul]at r gs o A E M Y;rcases hs with hs|⟨C,ko,rfl,Hs,Hl⟩
   .omega
   rcases gs with gs|⟨F,zo,rfl,Ht,Ho⟩
   .omega
   have U:=Hl d B.1;have O:=Ho d Y.1;have Ha:aA (k=0->gL l (i+k)=gL l i):=aC (λe=>by rw[e,YJ]);have q:aA (bO (gL l (i+k)).p (kd (gL l (i+k)).fl) d=bO (gL l i).p (kd (gL l i).fl) d↔gS (gL l (i+k)).p d=gS (gL l i).p d/\jQ d (gL l (i+k)).p.length (gL l (i+k)).fl=jQ d (gL l i).p.length (gL l i).fl):=aC (by unfold bO jQ;exact Prod.mk.injEq _ _ _ _▸Iff.rfl);have Hb:aA (bO (gL l (i+k)).p (kd (gL l (i+k)).fl) d≠bO (gL l i).p (kd (gL l i).fl) d->1<=k):=aC (λhne=>by
    rcases Uy k with e|e
    .exact absurd (by rw[Ha e]) hne
    .exact e)
   have Hi:aA (∀v,bO (gL l (i+k)).p (kd (gL l (i+k)).fl) d≠bO (gL l i).p (kd (gL l i).fl) d->v=k->(1<=v/\v<=m/\(∀t,t<v->bO (gL l (i+t)).p (kd (gL l (i+t)).fl) d=bO (gL l i).p (kd (gL l i).fl) d)/\(v<m->bO (gL l (i+v)).p (kd (gL l (i+v)).fl) d≠bO (gL l i).p (kd (gL l i).fl) d))):=aC (λv h e=>by subst e;exact⟨Hb h,hk,T,λ_=>h⟩);have Hp:aA (bO (gL l (i+k)).p (kd (gL l (i+k)).fl) d=bO (gL l i).p (kd (gL l i).fl) d->∀t,t<k+1->bO (gL l (i+t)).p (kd (gL l (i+t)).fl) d=bO (gL l i).p (kd (gL l i).fl) d):=aC (λh t ht=>by
    by_cases e:t=k
    .subst e;exact h
    .exact T t oM)
   have⟨X,hX⟩:=zE ((bO (gL l (i+k)).p (kd (gL l (i+k)).fl) d=bO (gL l i).p (kd (gL l i).fl) d));have W:=aC hX;rw[hX]at q;have⟨yk,Hm⟩:=zE (gL l (i+k));have⟨yz,Hn⟩:=zE (gL l i);rw[Hm]at Q G H I J U B q;rw[Hn]at r o A E M O Y q;have⟨kp,kf,kr,kq,kv⟩:=yk;have⟨zp,zf,zr,zq,zv⟩:=yz;dsimp only at Q G H I J U B r o A E M O Y q;have⟨s,He⟩:=zE (gS kp d);have⟨z,Hf⟩:=zE (gS zp d);have⟨D,Hc⟩:=zE kp.length;have⟨P,Hg⟩:=zE zp.length;rw[He,Hf,Hc,Hg]at q;rw[He]at U;rw[Hf]at O;rw[Hc]at Q B;rw[Hg]at r Y;have i1:(0:Int)<=(k:Int):=VH _;have i2:(k:Int)<(m:Int):=oM;have i3:(0:Int)<=(d:Int):=VH _;have i4:(d:Int)<(D:Int):=oM;have i5:(d:Int)<(P:Int):=oM;have i7:0<m:=oM;have j:b<wr.1.size:=Z.1;go_wp2_with fail;cases hsz:(s.toList==z.toList)with
   |false=>have y:aA (¬X):=aC (λh=>by rw[(q.1 h).1]at hsz;simp at hsz);go_quiet (fail);have R:=aC<|oZ u nq;go_wp2_with fail;go_ret;exact⟨⟨k,rfl,Hi k (λh=>y.out (by rw[<-W.out];exact h)) rfl⟩,R⟩
   |true=>
    have Hq:aA (s=z):=aC<|sO (oU hsz);have S:aA (∀w',Bl wr w'->(Bl wr w'/\w'.cell? (Ua b (off+k*5))=Uq (Uf (Uq (Ua C ko)) D kc)/\w'.cell? (Ua b (off+k*5+1))=Uq (Un kf)/\w'.cell? (Ua b (off+k*5+2))=Uq (Ud kr)/\w'.cell? (Ua b (off+k*5+3))=Uq (Ud kq)/\w'.cell? (Ua b (off+k*5+4))=Uq (Um kv)/\w'.cell? (Ua C (ko+d))=Uq (Um s)/\w'.cell? (Ua b off)=Uq (Uf (Uq (Ua F zo)) P zc)/\w'.cell? (Ua b (off+1))=Uq (Un zf)/\w'.cell? (Ua b (off+2))=Uq (Ud zr)/\w'.cell? (Ua b (off+3))=Uq (Ud zq)/\w'.cell? (Ua b (off+4))=Uq (Um zv)/\w'.cell? (Ua F (zo+d))=Uq (Um z))):=aC<|λw' hB=>⟨hB,(hB.cell (p:=(Ua b _)) j).trans Q,(hB.cell (p:=(Ua b _)) j).trans G,(hB.cell (p:=(Ua b _)) j).trans H,(hB.cell (p:=(Ua b _)) j).trans I,(hB.cell (p:=(Ua b _)) j).trans J,(hB.cell (p:=(Ua C _)) Hs).trans U,(hB.cell (p:=(Ua b _)) j).trans r,(hB.cell (p:=(Ua b _)) j).trans o,(hB.cell (p:=(Ua b _)) j).trans A,(hB.cell (p:=(Ua b _)) j).trans E,(hB.cell (p:=(Ua b _)) j).trans M,(hB.cell (p:=(Ua F _)) Ht).trans O⟩;refine zS S<|λqh=>?_;refine tY 0 6 ?_;refine tY 2 8 ?_;refine tY 4 10 ?_;refine tY 6 12 ?_;refine tY 8 14 ?_;refine tY 10 16 ?_;refine tY 12 18 ?_;refine tY 14 20 ?_;refine tY 16 22 ?_;refine tY 18 24 ?_;refine tY 20 26 ?_;refine tY 22 28 ?_;refine tY 24 30 ?_;refine tY 26 32 ?_;refine tY 29 35 ?_;refine tY 31 37 ?_;refine cZ 28 ?_;intro K V;go_simp;refine(Me (Uq (Ua C ko)) D kc kf kr kq kv d _ oM hd).mono ?_;rintro e w1⟨rfl,b1⟩;have L:=aE qh.1 b1;refine bZ V (S _ L)<|λqh=>?_;refine cZ 33 ?_;intro K V;go_simp;refine(Me (Uq (Ua F zo)) P zc zf zr zq zv d _ oM hd).mono ?_;rintro e w2⟨rfl,b2⟩;have N:=aE L b2;refine bZ V (S _ N)<|λqh=>?_;have Hh:=aC<|u.trans (N.mono u.size);have⟨K1,Hj⟩:=zE (jQ d D kf);have⟨K2,Hk⟩:=zE (jQ d P zf);rw[Hj,Hk]at q⊢;cases hkk:(K1==K2);all_goals refine tY 34 40 ?_;refine zD ?_
    .have y:aA (¬X):=aC (λh=>by rw[(q.1 h).2]at hkk;simp at hkk);go_wp2_with fail;go_ret;exact⟨⟨k,rfl,Hi k (λh=>y.out (by rw[<-W.out];exact h)) rfl⟩,Hh⟩
    .have y:aA X:=aC<|q.2 ⟨Hq,oU hkk⟩;go_wp2_with fail;go_roundw;case rel=>exact⟨k+1,Hd,oN,aC (Hp (by rw[W.out];exact y)),Hh⟩
     case measure=>exact oE
  .obtain rfl:k=m:=oM;go_wp2_with fail;go_quiet (fail);have R:=aC<|oZ u nq;go_wp2_with fail;go_ret;exact⟨⟨k,rfl,hm,Ux _,T,λh=>oM⟩,R⟩
theorem Px(B B':Nat)(v x:aB)(zs ns:List Int)(w:Ur)(ho:Own w B v zs)(hx:Own w B' x ns)(hxn:x.ownBlock≠Up)(hB:B<=w.1.size)(hl:zs.length+ns.length<=1000000000):
  ∃v' w',(Builtin.append_ #[22,22] 22 #[v,x]).run prog w=.ok v' w'/\Own w' B v' (zs++ns)/\Gr w w' v v'/\(v.ownBlock≠Up->v'.ownBlock≠Up):=by
 have m:w.ownsRow B' 5 1 x ns.length (ns.map (Value.int .u8)):=hx;rcases m.2 with⟨rfl,_⟩|⟨g,cap,u,rfl,_⟩
 .exact absurd rfl hxn
 have⟨v',w',q,r,j⟩:=zC B v zs ns (Ub g) ns.length cap w ho rfl (World.ownsRow.cells m rfl) hB oM;refine⟨v',w',q,r,j,λhv=>?_⟩;rcases j.l with e|⟨k,e,_⟩
 .rw[e];exact hv
 .rw[e];simp
theorem Rl(h:Own w B v zs)(hz:0<zs.length):v.ownBlock≠Up:=by
 have⟨m,j⟩:=h;rcases j with⟨_,j⟩|⟨g,cap,k,rfl,_⟩
 .omega
 .simp[Value.ownBlock]
theorem Q9(l:List Lf)(f:Nat)(p:List ByteArray):0<(tB l (f+1) p).length:=by
 rw[pZ,UM];have:=(cF 9 (kS l p l.length).length).2;omega
theorem Fq(l:List Lf)(p:List ByteArray)(k:Nat):∀j,k<=j->kS l p k <+:kS l p j
 |0,h=>by rw[show k=0 by omega];exact Ya _
 |j+1,h=>by
  by_cases e:k=j+1
  .rw[e];exact Ya _
  .have m:=Fq l p k j oM;cases h1:nx p (gL l j)with
   |none=>rw[uB h1];exact m
   |some y=>
    rw[uA h1];split
    .exact m
    .exact m.trans<|List.prefix_append _ _
theorem Ws{α:Type}(f:α->List Int){a b:List α}(h:a <+:b):(a.flatMap f).length<=(b.flatMap f).length:=by
 obtain⟨c,rfl⟩:=h;rw[Yh,UM];omega
structure Bd(w wr:Ur)(body:aB)(zs:List Int):Prop where
 b:Bl w wr
 o:Own wr w.1.size body zs
 n:body.ownBlock≠Up
theorem Bd.keep(h:Bd w wr body zs)(hb:Bl wr w1):Bd w w1 body zs:=
 ⟨h.b.trans (hb.mono h.b.size),Own.kept h.o hb (λk hk=>(World.ownsRow.lt h.o k hk).2),h.n⟩
theorem Bd.app(h:Bd w wr body zs)(hb:Bl wr w1)(ho:Own w1 wr.1.size v ns)(hz:0<ns.length)(hl:zs.length+ns.length<=1000000000):
  ∃v' m,(Builtin.append_ #[22,22] 22 #[body,v]).run prog w1=.ok v' m/\Bd w m v' (zs++ns):=by
 have j:=h.keep hb;have⟨v',m,e,u,q,r⟩:=Px w.1.size wr.1.size body v zs ns w1 j.o ho (Rl ho hz) j.b.size hl;exact⟨v',m,e,j.b.trans (q.bw j.b.size (λk hk=>(World.ownsRow.lt j.o k hk).1)),u,r h.n⟩
theorem Bd.byte(h:Bd w wr body zs)(Y:Int)(hl:zs.length<=1000000000):
  ∃v' m,(Builtin.append_ #[22,22] 22 #[body,Uf (Uc wr.1.size) 1 1]).run prog (wr.alloc (Uj #[Ug .u8 Y] 5))=.ok v' m/\Bd w m v' (zs++[Y]):=by
 have v:Bl wr (wr.alloc (Uj #[Ug .u8 Y] 5)):=zO _ _;have j:=h.keep v;have⟨v',m,e,y,r⟩:=zC w.1.size body zs [Y] (Ub wr.1.size) 1 1 (wr.alloc (Uj #[Ug .u8 Y] 5)) j.o rfl (λi u hu=>cell_one_new _ _ _ i u hu) j.b.size oM;refine⟨v',m,e,j.b.trans (r.bw j.b.size (λk hk=>(World.ownsRow.lt j.o k hk).1)),y,?_⟩;rcases r.l with q|⟨k,q,_⟩
 .rw[q];exact h.n
 .rw[q];simp
theorem LW{e J:Nat}(hlv:dB R F T n l l.length)(hI:Iv l p i e)(hij:i<=J)(hfr:y ∉ kS l p J)(h1:1<=g)(hge:J+g<=e)(hy:bO (gL l J).p (kd (gL l J).fl) p.length=y)(hsame:∀t,t<g->bO (gL l (J+t)).p (kd (gL l (J+t)).fl) p.length=y)(hdiff:J+g<e->bO (gL l (J+g)).p (kd (gL l (J+g)).fl) p.length≠y):
  kS l p (J+g)=kS l p J++[y]/\bF l p y l.length=((Vb g).map λt=>gL l (J+t))/\(∀s,y=(s,3)->Iv l (p++[s]) J (J+g))/\∀z,nx p (gL l (J+g))=Uq z->J+g<e->z ∉ kS l p (J+g):=by
 have q:=hI.2.2;have j:∀t,t<g->nx p (gL l (J+t))=Uq y:=λt ht=>by
  rw[mY];exact⟨nU.1 ((hI.1 (J+t) oM).2 oM),hsame t ht⟩
 have m:J+g<e->nx p (gL l (J+g))≠Uq y:=λhlt he=>by
  rw[mY]at he;exact hdiff hlt he.2
 have k:=QS hlv hI hij hfr h1 hge j m;refine⟨?_,QU k oM,λs es=>by subst es;exact LV k oM,λz hz hlt=>QT hlv hI hfr h1 hge j m hlt hz⟩;have:=Nd hfr j (g-1) oM;rwa [show J+(g-1+1)=J+g by omega]at this
theorem Bd.made(w:Ur):Bd w (w.alloc (Uj #[] 5)) (Uf (Uc w.1.size) 0 0) []:=by
 refine⟨zO _ _,?_,by simp[Value.ownBlock]⟩;have:=Vo (base:=w.1.size) (e:=5) (size:=1) w #[] 0 oM oL rfl;simpa[Own]using this
theorem Bd.front{u:aB}(h:Bd w wr body zs)(hb:Bl wr w1)(ho:Own w1 wr.1.size u ns)(hl:ns.length+zs.length<=1000000000):
  ∃v' j,(Builtin.append_ #[22,22] 22 #[u,body]).run prog w1=.ok v' j/\Own j w.1.size v' (ns++zs)/\Bl w j:=by
 have m:=h.keep hb;have q:=Own.weak ho h.b.size;have⟨v',j,e,v,r,y⟩:=Px w.1.size w.1.size u body ns zs w1 q m.o h.n m.b.size hl;exact⟨v',j,e,v,m.b.trans (r.bw m.b.size (λk hk=>(World.ownsRow.lt q k hk).1))⟩
structure Lp(l:List Lf)(p:List ByteArray)(w:Ur)(J M:Nat)(a:Option Us)(c:Nat):Prop where
 c1:M<=c
 c2:c<=9223372036854775807
 a1:0<M->∃b o,a=Uq (Ua b o)/\jO w b o l J M
 fr:0<M->∀y,nx p (gL l J)=Uq y->y ∉ kS l p J
def Bh:aB->Nat
 |Uf _ n _=>n
 |_=>0
theorem xL{Q:Prop}(h:Q:=by
 obtain rfl:g=t:=oM;have D:aA (Bd w wr u6 ((kS l p (J+g)).flatMap (kB l f p))):=aC (by rw[A.1,Yh,Hu.out];simp only[VP,Yi,VO];rw[Hr.out];simpa[<-Gk.out]using E.out);have B:aA ((kS l p (J+g)).length=cn+1):=aC (by rw[A.1,UM,Ho.out];rfl);have C:aA (0<M-g->∀y,nx p (gL l (J+g))=Uq y->y ∉ kS l p (J+g)):=aC<|λh=>A.2.2.2.1 oM;clear E Hu Ho Gb;by_cases G1:g<c'
 .go_wp2_with fail;go_roundw;case rel=>exact⟨J+g,M-g,c'-g,Uq (Ua b (o+g*5)),aC (oH u),by first|rfl|rw[if_neg oM],by rw[B.out];go_num,aC ⟨oM,oM,λh=>⟨b,_,rfl,Hx.drop g2⟩,C⟩,D⟩
  case measure=>simp[Bh];omega
 .go_wp2_with fail;go_roundw;case rel=>exact⟨J+g,M-g,c'-g,Uq (Ua b o),aC (oH u),by first|rfl|rw[if_pos oM],by rw[B.out];go_num,aC ⟨oM,oM,λh=>oM,C⟩,D⟩
  case measure=>simp[Bh];omega):Q:=h
theorem TK(l:List Lf)(hlv:dB R F T n l l.length)(hbd:nC l)(f:Nat)(p:List ByteArray)(hpf:p.length+(f+1)=8)
  (ih:∀(s:ByteArray),1<=f->∀(i m c:Nat) (a:Option Us) (w:Ur),m<=c->c<=9223372036854775807->Iv l (p++[s]) i (i+m)->(0<m->∃b off,a=Uq (Ua b off)/\jO w b off l i m)->(tB l f (p++[s])).length<=90000000->
   Cl 106 #[Uf a m c,Ud ((p++[s]).length:Int)] w λe w'=>∃v,e=Ui v/\Own w' w.1.size v (tB l f (p++[s]))/\Bl w w')
  (i m c:Nat) (a:Option Us) (w:Ur) (hmc:m<=c) (hcm:c<=9223372036854775807) (hI:Iv l p i (i+m)) (hL:0<m->∃b off,a=Uq (Ua b off)/\jO w b off l i m) (hl:(tB l (f+1) p).length<=90000000):
  Cl 106 #[Uf a m c,Ud (p.length:Int)] w λe w'=>∃v,e=Ui v/\Own w' w.1.size v (tB l (f+1) p)/\Bl w w':=by
  have⟨TB,Gl⟩:=zE (tB l (f+1) p);rw[Gl]at hl⊢;have Gi:aA (aI 9 (kS l p l.length).length++(kS l p l.length).flatMap (kB l f p)=TB):=aC (by rw[<-Gl,pZ]);have Hk:=aC hI;have HL:=aC hL;have⟨d,hd⟩:=zE p.length;have HD:=aC hd;have G6:aA (∀(s:ByteArray),1<=f->∀(i m c:Nat) (a:Option Us) (w:Ur),m<=c->c<=9223372036854775807->Iv l (p++[s]) i (i+m)->(0<m->∃b off,a=Uq (Ua b off)/\jO w b off l i m)->(tB l f (p++[s])).length<=90000000->
   Cl 106 #[Uf a m c,Ud ((d:Int)+1)] w λe w'=>∃v,e=Ui v/\Own w' w.1.size v (tB l f (p++[s]))/\Bl w w'):=aC (λs hf i m c a w j k Z h4 h5=>by
    have:=ih s hf i m c a w j k Z h4 h5;rw[show(((p++[s]).length:Nat):Int)=(d:Int)+1 by simp;omega]at this;exact this)
  rw[hd]at hpf⊢;have Kd:m<=1000:=oJ hI.2 hbd.len;go_enter func106,ntmps106;go_wp2_with fail;go_loopw [0,5,6] (λlv cv bd wr=>∃(J M c':Nat) (a':Option Us),aA (i<=J/\J+M=i+m)/\lv=Uf a' M c'/\cv=Ud ((kS l p J).length:Nat)/\aA (Lp l p w J M a' c')/\aA (Bd w wr bd ((kS l p J).flatMap (kB l f p)))) (λlv _ _ _=>Bh lv);case atStart=>have e:=Hk.start i zL;refine⟨i,m,c,a,aC ⟨Ux _,rfl⟩,rfl,by rw[e];rfl,aC ⟨hmc,hcm,HL,λ_ y _=>by rw[e];simp⟩,aC ?_⟩;rw[e];exact Bd.made w
  case round=>
   obtain⟨J,M,c',a',u,rfl,rfl,Ht,Hg⟩:=hrel;by_cases Gf:0<M;obtain⟨b,o,rfl,H4⟩:=Ht.a1 Gf;have Hx:=aC H4;have hM:M<=1000:=oH u;have Hj:aA (i+m<=l.length/\l.length<=1000):=aC ⟨Hk.2.2,hbd.len⟩;have HP:aA (∀t,t<M->d<(gL l (J+t)).p.length/\(gL l (J+t)).p.length<=8):=aC (λt ht=>by
    have hJ:=u.out;have he:=Hj.out;have j:=nU.1 ((Hk.1 (J+t) oM).2 oM);rw[HD.out]at j;exact⟨j.2,(hlv (J+t) oM).1.1.2.1⟩)
   have Hw:=HP 0 Gf;have G7:aA (jH (gL l J)):=aC<|(hlv J (oJ u Hj)).1;have⟨qa,qc,h0,hs,j,k,Z,h4⟩:=H4.2 0 Gf;simp only[YJ,Nat.zero_mul]at h0 hs j k Z h4 Hw;rcases hs with hs|⟨kb,ko,rfl,G2,G3⟩
   .omega
   have h5:=G3 d Hw.1;have Hv:=H4.1;have Gb:=aC (Ht.fr Gf);have Hy:aA (nx p (gL l J)=Uq (bO (gL l J).p (kd (gL l J).fl) d)):=aC (by
    have hJ:=u.out;have he:=Hj.out;have j:=nU.1 ((Hk.1 J oM).2 oM);rw[mY];exact⟨j,by rw[HD.out]⟩)
   have Gp:(gS (gL l J).p d).size<=40:=(G7.1.2.2 d Hw.1).2;have Hp:=aC (PP l b o J M c' d wr oM oM oM (λt ht=>oH (HP t ht)) (H4.bw Hg.b));have Ge:aA (bO (gL l J).p (kd (gL l J).fl) d=(gS (gL l J).p d,jQ d (gL l J).p.length (gL l J).fl)):=aC rfl;have Gd:aA (jQ d (gL l J).p.length (gL l J).fl=1\/jQ d (gL l J).p.length (gL l J).fl=2\/(jQ d (gL l J).p.length (gL l J).fl=3/\1<=f)):=aC (by
    unfold jQ;split
    .exact .inr<|.inr ⟨rfl,oM⟩
    .rcases lV (gL l J).fl with h|h
     .exact .inl h
     .exact .inr (.inl h))
   have K:aA ((kS l p J).length<=1000/\((kS l p J).flatMap (kB l f p)).length<=90000000):=aC ⟨by have:=tP l p J;have hJ:=u.out;have he:=Hj.out;omega,by
    have j:=Ws (kB l f p) (Fq l p J l.length (by have hJ:=u.out;have he:=Hj.out;omega));have k:TB.length<=90000000:=hl;rw[<-Gi.out,UM]at k;omega⟩
   have Hq:aA (∀g,1<=g->g<=M->(∀t,t<g->bO (gL l (J+t)).p (kd (gL l (J+t)).fl) d=bO (gL l J).p (kd (gL l J).fl) d)->(g<M->bO (gL l (J+g)).p (kd (gL l (J+g)).fl) d≠bO (gL l J).p (kd (gL l J).fl) d)->
     kS l p (J+g)=kS l p J++[bO (gL l J).p (kd (gL l J).fl) d]/\bF l p (bO (gL l J).p (kd (gL l J).fl) d) l.length=((Vb g).map λt=>gL l (J+t))/\(∀s,bO (gL l J).p (kd (gL l J).fl) d=(s,3)->Iv l (p++[s]) J (J+g))/\(g<M->∀z,nx p (gL l (J+g))=Uq z->z ∉ kS l p (J+g))/\((kS l p (J+g)).flatMap (kB l f p)).length<=90000000):=aC (λg g1 g2 g3 g4=>by
    have hJ:=u.out;have he:=Hj.out;have Gn:=HD.out;have⟨r1,r2,r3,r4⟩:=LW hlv Hk hJ.1 (Gb _ Hy) g1 oM (by rw[Gn]) (by rw[Gn];exact g3) (by rw[Gn];exact λh=>g4 oM);refine⟨r1,r2,r3,λh z hz=>r4 z hz oM,?_⟩;have j:=Ws (kB l f p) (Fq l p (J+g) l.length oM);have k:TB.length<=90000000:=hl;rw[<-Gi.out,UM]at k;omega)
   have Gc:aA (∀t,t<M->∃r q:Nat,∃v,r<=7/\q<=1000000000/\v.size<=200/\(∀Y:Int,cU Y (gL l (J+t))=aI 9 r++(aI 9 q++if Y=1 then cM v else []))/\∀w',Bl w w'->w'.cell? (Ua b (o+t*5+2))=Uq (Ud (r:Int))/\w'.cell? (Ua b (o+t*5+3))=Uq (Ud (q:Int))/\w'.cell? (Ua b (o+t*5+4))=Uq (Um v)):=aC (λt ht=>by
    have hJ:=u.out;have he:=Hj.out;have hr:=hbd.rep (J+t) oM;have hq:=hbd.seq (J+t) oM;have hv:=hbd.val (J+t) oM;refine⟨(gL l (J+t)).r.toNat,(gL l (J+t)).q.toNat,(gL l (J+t)).v,oM,oM,hv,λY=>rfl,λw' hb'=>?_⟩;have⟨_,_,_,_,_,Q,U,V⟩:=(Hx.bw hb').2 t ht;refine⟨?_,?_,V⟩
    .rw[Q];congr 2;omega
    .rw[U];congr 2;omega)
   have⟨x,hx⟩:=zE (gL l J);rw[hx]at h0 j k Z h4 h5 Hw Gp Ge Gd Hy Hq Hp;have⟨xp,fl,xr,xq,xv⟩:=x;dsimp only at h0 j k Z h4 h5 Hw Gp Ge Gd Hy Hq Hp;rw[Ge.out]at Hy Hq Hp;have⟨s,Go⟩:=zE (gS xp d);have⟨pn,Gg⟩:=zE xp.length;have⟨Y,hY⟩:=zE (jQ d pn fl);rw[Go,Gg,hY]at Hy Hq Hp;rw[Gg,hY]at Gd;rw[Go]at Gp h5;rw[Gg]at h0 Hw;have G8:=aC hY;have HC:aA (∀w',Bl w w'->w'.cell? (Ua b o)=Uq (Uf (Uq (Ua kb ko)) pn qc)/\w'.cell? (Ua b (o+1))=Uq (Un fl)/\w'.cell? (Ua b (o+2))=Uq (Ud xr)/\w'.cell? (Ua b (o+3))=Uq (Ud xq)/\w'.cell? (Ua b (o+4))=Uq (Um xv)/\w'.cell? (Ua kb (ko+d))=Uq (Um s)):=aC<|λw' hB=>⟨(hB.cell (p:=(Ua b _)) Hv).trans h0,(hB.cell (p:=(Ua b _)) Hv).trans j,(hB.cell (p:=(Ua b _)) Hv).trans k,(hB.cell (p:=(Ua b _)) Hv).trans Z,(hB.cell (p:=(Ua b _)) Hv).trans h4,(hB.cell (p:=(Ua kb _)) G2).trans h5⟩;rotate_left;obtain rfl:M=0:=oM;have Gw:aA (kS l p J=kS l p l.length):=aC (by have j:=u.out;have k:=Hk.out;rw[k.stop l.length k.2.2 zL];congr 1;omega);have K:aA ((kS l p J).length<=1000/\aI 9 (kS l p J).length++(kS l p J).flatMap (kB l f p)=TB):=aC ⟨by have:=tP l p J;have j:=u.out;have k:=Hk.2.2;have:=hbd.len;omega,by rw[Gw.out];exact Gi⟩;rotate_left;all_goals have⟨cn,Hd⟩:=zE ((kS l p J).length);have⟨zs,He⟩:=zE ((kS l p J).flatMap (kB l f p));rw[Hd,He]at K;rw[He]at Hg
   .have Ho:=aC Hd;have Hu:=aC He;have Gm:=K.1;simp only[Hd];have Kc:M<=c':=Ht.c1;have G9:c'<=9223372036854775807:=Ht.c2;go_wp2_with fail;refine Hp.mono ?_;rintro e w1⟨⟨g,rfl,g1,g2,g3,g4⟩,b1⟩;have A:=aC<|Hq g g1 g2 g3 g4;have Hh:=aC<|Hg.keep b1;have⟨q0,q1,q2,q3,q4,q5⟩:=HC w1 Hh.b;go_wp2_with fail;refine(Me (Uq (Ua kb ko)) pn qc fl xr xq xv d w1 oM oM).mono ?_;rintro e w2⟨rfl,b2⟩;rw[G8.out];have Hi:=aC<|Hh.keep b2;have⟨q0,q1,q2,q3,q4,q5⟩:=HC w2 Hi.b;go_wp2_with fail;refine(Xe s w2 oM).mono ?_;rintro e w3⟨v3,rfl,o3,b3,z3⟩;have Gr:=sU s;have⟨v4,w4,L,Gy⟩:=Hi.app b3 o3 (by unfold cM;have:=(cF 9 s.size).2;rw[UM];omega) (oH K.2);have Hb:=aC Gy;have Hs:aA ((zs++cM s).length<=90000050):=aC (by have:=K.2;rw[UM];omega);rcases Gd.out with rfl|rfl|⟨rfl,hf⟩
    .have Hr:aA (kB l f p (s,1)=cM s++([1]++(aI 9 g++(Vb g).flatMap λt=>cU 1 (gL l (J+t))))):=aC (by unfold kB;rw[if_neg (show¬(1:Int)=3 by decide),A.2.1];unfold mB;simp[Yy]);have⟨v5,w5,Ha,W⟩:=Hb.byte 1 (oH Hs);have I:=aC W;have Hl:aA ((zs++cM s++[1]).length<=90000051):=aC (by have:=Hs.out;rw[UM];simp;simpa using this);go_wp2_with (at_builtin;first|(refine cL rfl _ _ _ _ rfl L (by rfl) (by rfl) rfl ?_;clear L)|(refine cL rfl _ _ _ _ rfl Ha (by rfl) (by rfl) rfl ?_;clear Ha));refine(lB g w5 oM).mono ?_;rintro e w6⟨v6,rfl,o6,S,z6⟩;have H7:=cF 9 g;have⟨v7,w7,H,Hc⟩:=I.app S o6 H7.2 (oH Hl);have G:=aC Hc;have⟨O,X⟩:=zE (zs++cM s++[1]++aI 9 g);have Gk:=aC X;have Gh:aA (O.length<=90000070):=aC (by rw[<-X,UM];have:=Hl.out;omega);rw[X]at G;go_wp2_with (at_builtin;refine cL rfl _ _ _ _ rfl H (by rfl) (by rfl) rfl ?_;clear H);go_loopw [6,9] (λbd iv wr=>∃t:Nat,t<=g/\iv=Ud t/\aA (Bd w wr bd (O++(Vb t).flatMap λt=>cU 1 (gL l (J+t))))) (λ_ iv _=>g-(intOf iv).toNat);case atStart=>exact⟨0,UB _,rfl,aC (oU G)⟩
     case round=>
      obtain⟨t,ht,rfl,E⟩:=hrel;by_cases Gq:t<g
      .have⟨r,q,v,hr,hq,hv,N,Hm⟩:=Gc t oM;have HK:=aC Hm;have⟨Q,U,V⟩:=Hm _ E.b;have Hz:aA (O++((Vb (t+1)).flatMap λt=>cU 1 (gL l (J+t)))=O++((Vb t).flatMap λt=>cU 1 (gL l (J+t)))++(aI 9 r++(aI 9 q++cM v))):=aC (by rw[Yd,Yh];simp[N]);have P:aA ((O++(Vb t).flatMap λt=>cU 1 (gL l (J+t))).length<=90000070+230*1000):=aC (by
        have k:=uO (λt=>cU 1 (gL l (J+t))) (λ_=>1) 230 (Vb t) (λz hz=>by
         have Ka:=List.mem_range.1 hz;have⟨r,q,v,hr,hq,hv,N,_⟩:=Gc z oM;have a1:=(cF 9 r).1;have a2:=(cF 9 q).1;have a3:=sU v;rw[N];simp only[UM];split
         .omega
         .simp;omega)
        have Z:∀ls:List Nat,(ls.map λ_=>1).sum=ls.length:=λls=>by
         induction ls with
         |nil=>rfl
         |cons a r ih=>simp only[UQ,Yg,ih,UP];omega
        rw[Z,Yz]at k;have:=Gh.out;rw[UM];omega)
       have⟨us,H8⟩:=zE (O++((Vb t).flatMap λt=>cU 1 (gL l (J+t))));rw[H8]at E Hz P;have Gt:=cF 9 r;have Gs:=cF 9 q;go_wp2_with fail;refine(lB r _ oM).mono ?_;rintro e y1⟨u1,rfl,H9,H0,Gu⟩;have⟨u2,y2,H5,H2⟩:=E.app H0 H9 Gt.2 (oH P);have Hf:=aC H2;have⟨Q,U,V⟩:=HK _ Hf.b;go_wp2_with (at_builtin;refine cL rfl _ _ _ _ rfl H5 (by rfl) (by rfl) rfl ?_;clear H5);refine(lB q _ oM).mono ?_;rintro e y3⟨u3,rfl,Ga,H1,Gv⟩;have⟨u4,y4,H6,H3⟩:=Hf.app H1 Ga Gs.2 (by have:=P.out;rw[UM];omega);have Hn:=aC H3;have⟨Q,U,V⟩:=HK _ Hn.b;go_wp2_with (at_builtin;refine cL rfl _ _ _ _ rfl H6 (by rfl) (by rfl) rfl ?_;clear H6);refine(Xe v _ oM).mono ?_;rintro e y5⟨u5,rfl,G4,Gx,Kb⟩;have Ke:=sU v;have⟨u6,y6,G0,Gz⟩:=Hn.app Gx G4 (by unfold cM;have:=(cF 9 v.size).2;rw[UM];omega) (by have:=P.out;rw[UM,UM];omega);have G5:=aC Gz;go_wp2_with (at_builtin;refine cL rfl _ _ _ _ rfl G0 (by rfl) (by rfl) rfl ?_;clear G0);go_roundw;case rel=>exact⟨t+1,Gq,oN,aC (by rw[Hz.out];simpa using G5.out)⟩
       case measure=>exact oE
      .exact xL
    .have Hr:aA (kB l f p (s,2)=cM s++([2]++(aI 9 g++(Vb g).flatMap λt=>cU 2 (gL l (J+t))))):=aC (by unfold kB;rw[if_neg (show¬(2:Int)=3 by decide),A.2.1];unfold mB;simp[Yy]);have⟨v5,w5,Ha,W⟩:=Hb.byte 2 (oH Hs);have I:=aC W;have Hl:aA ((zs++cM s++[2]).length<=90000051):=aC (by have:=Hs.out;rw[UM];simp;simpa using this);go_wp2_with (at_builtin;first|(refine cL rfl _ _ _ _ rfl L (by rfl) (by rfl) rfl ?_;clear L)|(refine cL rfl _ _ _ _ rfl Ha (by rfl) (by rfl) rfl ?_;clear Ha));refine(lB g w5 oM).mono ?_;rintro e w6⟨v6,rfl,o6,S,z6⟩;have H7:=cF 9 g;have⟨v7,w7,H,Hc⟩:=I.app S o6 H7.2 (oH Hl);have G:=aC Hc;have⟨O,X⟩:=zE (zs++cM s++[2]++aI 9 g);have Gk:=aC X;have Gh:aA (O.length<=90000070):=aC (by rw[<-X,UM];have:=Hl.out;omega);rw[X]at G;go_wp2_with (at_builtin;refine cL rfl _ _ _ _ rfl H (by rfl) (by rfl) rfl ?_;clear H);go_loopw [6,9] (λbd iv wr=>∃t:Nat,t<=g/\iv=Ud t/\aA (Bd w wr bd (O++(Vb t).flatMap λt=>cU 2 (gL l (J+t))))) (λ_ iv _=>g-(intOf iv).toNat);case atStart=>exact⟨0,UB _,rfl,aC (oU G)⟩
     case round=>
      obtain⟨t,ht,rfl,E⟩:=hrel;by_cases Gq:t<g
      .have⟨r,q,v,hr,hq,hv,N,Hm⟩:=Gc t oM;have HK:=aC Hm;have⟨Q,U,V⟩:=Hm _ E.b;have Hz:aA (O++((Vb (t+1)).flatMap λt=>cU 2 (gL l (J+t)))=O++((Vb t).flatMap λt=>cU 2 (gL l (J+t)))++(aI 9 r++aI 9 q)):=aC (by rw[Yd,Yh];simp[N]);have P:aA ((O++(Vb t).flatMap λt=>cU 2 (gL l (J+t))).length<=90000070+230*1000):=aC (by
        have k:=uO (λt=>cU 2 (gL l (J+t))) (λ_=>1) 230 (Vb t) (λz hz=>by
         have Ka:=List.mem_range.1 hz;have⟨r,q,v,hr,hq,hv,N,_⟩:=Gc z oM;have a1:=(cF 9 r).1;have a2:=(cF 9 q).1;have a3:=sU v;rw[N];simp only[UM];split
         .omega
         .simp;omega)
        have Z:∀ls:List Nat,(ls.map λ_=>1).sum=ls.length:=λls=>by
         induction ls with
         |nil=>rfl
         |cons a r ih=>simp only[UQ,Yg,ih,UP];omega
        rw[Z,Yz]at k;have:=Gh.out;rw[UM];omega)
       have⟨us,H8⟩:=zE (O++((Vb t).flatMap λt=>cU 2 (gL l (J+t))));rw[H8]at E Hz P;have Gt:=cF 9 r;have Gs:=cF 9 q;go_wp2_with fail;refine(lB r _ oM).mono ?_;rintro e y1⟨u1,rfl,H9,H0,Gu⟩;have⟨u2,y2,H5,H2⟩:=E.app H0 H9 Gt.2 (oH P);have Hf:=aC H2;have⟨Q,U,V⟩:=HK _ Hf.b;go_wp2_with (at_builtin;refine cL rfl _ _ _ _ rfl H5 (by rfl) (by rfl) rfl ?_;clear H5);refine(lB q _ oM).mono ?_;rintro e y3⟨u3,rfl,Ga,H1,Gv⟩;have⟨u4,y4,H6,H3⟩:=Hf.app H1 Ga Gs.2 (by have:=P.out;rw[UM];omega);have Hn:=aC H3;have⟨Q,U,V⟩:=HK _ Hn.b;go_wp2_with (at_builtin;refine cL rfl _ _ _ _ rfl H6 (by rfl) (by rfl) rfl ?_;clear H6);go_roundw;case rel=>exact⟨t+1,Gq,oN,aC (by rw[Hz.out];simpa using Hn.out)⟩
       case measure=>exact oE
      .exact xL
    .have Hr:aA (kB l f p (s,3)=cM s++([3]++tB l f (p++[s]))):=aC (by unfold kB;rw[if_pos rfl]);have Gj:aA ((tB l f (p++[s])).length<=90000000/\0<(tB l f (p++[s])).length):=aC ⟨by
      have j:=A.2.2.2.2;rw[A.1,Yh,UM]at j;simp only[VP,Yi,VO]at j;rw[Hr.out]at j;simp only[UM]at j;omega,by
      obtain⟨f',rfl⟩:∃f',f=f'+1:=⟨f-1,oM⟩;exact Q9 _ _ _⟩
     have⟨v5,w5,Ha,W⟩:=Hb.byte 3 (oH Hs);have I:=aC W;have Hl:aA ((zs++cM s++[3]).length<=90000051):=aC (by have:=Hs.out;rw[UM];simp;simpa using this);go_wp2_with (at_builtin;first|(refine cL rfl _ _ _ _ rfl L (by rfl) (by rfl) rfl ?_;clear L)|(refine cL rfl _ _ _ _ rfl Ha (by rfl) (by rfl) rfl ?_;clear Ha));refine(G6 s hf J g c' (Uq (Ua b o)) w5 oM G9 (A.2.2.1 s rfl) (λ_=>⟨b,o,rfl,(Hx.take g2).bw I.b⟩) Gj.1).mono ?_;rintro e w6⟨v6,rfl,o6,S⟩;have⟨v7,w7,H,Hc⟩:=I.app S o6 Gj.2 (oJ Hl Gj.1);have G:=aC Hc;have D:aA (Bd w w7 v7 ((kS l p (J+g)).flatMap (kB l f p))):=aC (by rw[A.1,Yh,Hu.out];simp only[VP,Yi,VO];rw[Hr.out];simpa[Ve]using G.out);have B:aA ((kS l p (J+g)).length=cn+1):=aC (by rw[A.1,UM,Ho.out];rfl);have C:aA (0<M-g->∀y,nx p (gL l (J+g))=Uq y->y ∉ kS l p (J+g)):=aC<|λh=>A.2.2.2.1 oM;by_cases G1:g<c';all_goals go_wp2_with (at_builtin;refine cL rfl _ _ _ _ rfl H (by rfl) (by rfl) rfl ?_;clear H);go_roundw;case measure=>simp[Bh];omega
     .exact⟨J+g,M-g,c'-g,Uq (Ua b (o+g*5)),aC (oH u),by first|rfl|rw[if_neg oM],by rw[B.out];go_num,aC ⟨oM,oM,λh=>⟨b,_,rfl,Hx.drop g2⟩,C⟩,D⟩
     .exact⟨J+g,M-g,c'-g,Uq (Ua b o),aC (oH u),by first|rfl|rw[if_pos oM],by rw[B.out];go_num,aC ⟨oM,oM,λh=>oM,C⟩,D⟩
   .have Gm:=K.1;simp only[Hd];go_wp2_with fail;refine(lB cn _ oM).mono ?_;rintro e w1⟨v1,rfl,o1,b1,z1⟩;have⟨v2,w2,L,o2,b2⟩:=Hg.front b1 o1 (by have j:=K.2;have k:TB.length<=90000000:=hl;rw[<-j,UM]at k;omega);rw[K.2]at o2;have HO:=aC o2;have HB:=aC b2;go_wp2_with (at_builtin;refine cL rfl _ _ _ _ rfl L (by rfl) (by rfl) rfl ?_;clear L);go_ret;exact⟨v2,rfl,HO,HB⟩
theorem NJ(l:List Lf)(hlv:dB R F T n l l.length)(hbd:nC l):∀(f:Nat) (p:List ByteArray),p.length+f=8->1<=f->∀(i m c:Nat) (a:Option Us) (w:Ur),m<=c->c<=9223372036854775807->Iv l p i (i+m)->(0<m->∃b off,a=Uq (Ua b off)/\jO w b off l i m)->(tB l f p).length<=90000000->
  Cl 106 #[Uf a m c,Ud (p.length:Int)] w λe w'=>∃v,e=Ui v/\Own w' w.1.size v (tB l f p)/\Bl w w':=by
 intro f;induction f with
 |zero=>intro p _ j;omega
 |succ f IH=>exact λp hpf _ i m c a w j h2 h3 h4 h5=>TK l hlv hbd f p hpf (λs hf=>IH (p++[s]) (by rw[UM];simp;omega) hf) i m c a w j h2 h3 h4 h5
theorem S4{o:Oper}{a:Act}{K:Act->Ur->Prop}{Q:Exit->Act->Ur->Prop}(s x:Operand)
  (ho:o.op=.call {callee:=.builtin .append,args:=#[s,x],argTypes:=#[22,22]})
  (B B':Nat) (b v:aB) (zs ys:List Int) (hs:a.eval s=b) (hown:Own w B b zs) (hx:a.eval x=v) (hv:Own w B' v ys) (hvn:v.ownBlock≠Up) (hbn:b.ownBlock≠Up) (hl:zs.length+ys.length<=1000000000) (hB:B<=w.1.size)
  (h:∀v' w',Own w' B v' (zs++ys)->Gr w w' b v'->v'.ownBlock≠Up->K (a.put o.dst v') w'):o.wp prog a w K Q:=by
 have⟨i,hi,y,z,t⟩:=info_parts Tryz.infoByte;have q:=hv;have⟨U,u⟩:=hv;rcases u with⟨rfl,_⟩|⟨g,cap,p,rfl,A,E,O,M,r⟩
 .exact absurd rfl hvn
 refine Oc s x 22 ho B 5 i (Ug .u8 0) 1 1 underlying22 hi y z t rfl oD b zs.length _ hs hown (Ub g) ys.length cap (ys.map (Value.int .u8)) hx oP (World.ownsRow.cells q rfl) (ints_oneCell .u8 _) oL oM hB ?_;intro v' w' k m j;refine h v' w' ?_ (Gr.app m j) ?_
 .unfold Own;rw[UM,List.map_append];exact k
 .rcases j with j|j
  .rw[j];exact hbn
  .rw[j];simp
theorem Dx{ops:Array Oper}{rest:List Oper}{o:Oper}{a:Act}{Q:Exit->Act->Ur->Prop}(hgd:o.guard=Up)(s x:Operand)
  (ho:o.op=.call {callee:=.builtin .append,args:=#[s,x],argTypes:=#[22,22]})
  (B B':Nat) (b v:aB) (zs ys:List Int) (hs:a.eval s=b) (hown:Own w B b zs) (hx:a.eval x=v) (hv:Own w B' v ys) (hvn:v.ownBlock≠Up) (hbn:b.ownBlock≠Up) (hl:zs.length+ys.length<=1000000000) (hB:B<=w.1.size)
  (h:∀v' w',Own w' B v' (zs++ys)->Gr w w' b v'->v'.ownBlock≠Up->wpList prog ops Q rest (a.put o.dst v') w'):wpList prog ops Q (o::rest) a w:=
 wpList_plain hgd λ_ hK=>S4 s x ho B B' b v zs ys hs hown hx hv hvn hbn hl hB λv' w' h2 h3 h4=>hK _ _ (h v' w' h2 h3 h4)
theorem Own.some(h:Own w B v zs)(hz:0<zs.length):v.ownBlock≠Up:=by
 have⟨m,j⟩:=h;rcases j with⟨_,j⟩|⟨g,cap,k,rfl,_⟩
 .omega
 .simp[Value.ownBlock]
def lS(L:Int->List (Int×Int))(k:Nat):List Int:=(KS L k).flatMap (rJ L)
theorem Za(L:Int->List (Int×Int))(ks:List Int):∀k,k<=ks.length->iJ L ks k=(ks.take k).flatMap (rJ L)
 |0,_=>by simp[iJ]
 |k+1,h=>by
  have e:ks.take (k+1)=ks.take k++[ks.getD k 0]:=by
   rw[Vc];simp[UL,show k<ks.length by omega]
  rw[e,Yh,<-Za L ks k oM];simp[iJ]
theorem Cq(L:Int->List (Int×Int)):fF L=aI 9 (KS L 8).length++lS L 8:=by
 unfold fF lS;rw[Za L _ _ zL,Vj]
theorem S3(h:L (k:Int)≠[]):KS L (k+1)=KS L k++[(k:Int)]:=by
 have:(L (k:Int)).isEmpty=false:=by cases e:L (k:Int)with|nil=>exact absurd e h|cons _ _=>rfl
 simp[KS,this]
theorem Qy(h:L (k:Int)=[]):KS L (k+1)=KS L k:=by simp[KS,h]
theorem Zn(h:L (k:Int)≠[]):lS L (k+1)=lS L k++(aI 9 k++(aI 9 (L (k:Int)).length++fW (L (k:Int)) (L (k:Int)).length)):=by
 unfold lS;rw[S3 h,Yh];simp[rJ,mQ]
theorem Wx(h:L (k:Int)=[]):lS L (k+1)=lS L k:=by
 unfold lS;rw[Qy h]
theorem Dh{L:Int->List (Int×Int)}(hL:∀r,(L r).length<=1000):∀k,(lS L k).length<=30000*k
 |0=>by simp[lS,KS]
 |k+1=>by
  have:=Dh hL k;by_cases h:L (k:Int)=[]
  .rw[Wx h];omega
  .have j:=(cF 9 k).1;have m:=(cF 9 (L (k:Int)).length).1;have q:=C9 (L (k:Int)) (L (k:Int)).length;have u:=hL (k:Int);rw[Zn h];simp only[UM];omega
def yC(l:List (Int×Int))(j:Nat):Int:=fI l j-2
theorem GH{r:Int}{l:List (Int×Int)}(h:w.ownsRow B 103 3 (Uf (Uc g) n cap) n (jX r l))(hl:l.length=n):
  ∀i,i<n->w.cell? (Ua g (i*3+1))=Uq (Ud (sF l i))/\w.cell? (Ua g (i*3+2))=Uq (Ud (sT l i)):=by
 intro i hi;have j:∀(l:List (Int×Int)) (i:Nat),i<l.length->(jX r l)[i*3+1]? =Uq (Ud (l.getD i (0,0)).1)/\(jX r l)[i*3+2]? =Uq (Ud (l.getD i (0,0)).2):=by
  intro l;induction l with
  |nil=>intro i hi;simp at hi
  |cons a l ih=>
   intro i hi;cases i with
   |zero=>simp[jX]
   |succ i=>
    have:=ih i (oU hi);have e:jX r (a::l)=Ud r::Ud a.1::Ud a.2::jX r l:=(by simp[jX]);rw[e,show(i+1)*3+1=i*3+1+1+1+1 from by omega,show(i+1)*3+2=i*3+2+1+1+1 from by omega];simpa using this
 rw[h.cellAt _ oM,h.cellAt _ oM];exact j l i oM
theorem vJ{Q:Prop}(h:Q:=by
 clear o;go_wp2_with fail;go_roundw;case rel=>exact⟨k+1,u,Gf,oN,by rw[Hw.out],A,aC (by rw[W.out,Q.out]),H0,Ha,Hh,oM⟩
 case measure=>exact oE):Q:=h
theorem ML(a:Option Us)(n c:Nat)(R F T:Nat->Int)(w:Ur)(hn:n<=1048576)(h:bI w a n R F T)(hok:eQ R F T n=true):
  Cl 105 #[Uo #[Uf a n c]] w λe w'=>∃v,e=Ui (Ul #[v,Un true])/\Own w' w.1.size v (fF (Lk R F T n))/\Bl w w':=by
 have Hn:=dL.1 hok;have Kp:=Hn.2;have B0:Bl w (w.alloc (Uj #[Uf a n c] 26)):=zO _ _;have⟨L,H⟩:=zE (Lk R F T n);have Hg:aA (∀r,(L r).length<=1000):=λr=>H▸Uz (jJ R F T n r) Kp;have H5:aA (∀r,bL (L r)):=λr=>H▸(kZ n Hn.1 r).1;have Kg:aA (∀(rep:Int) (w:Ur),bI w a n R F T->Cl 145 #[Uo #[Uf a n c],Ud rep] w λe w'=>∃v,e=Ui v/\w'.ownsRow w.1.size 103 3 v (L rep).length (jX rep (L rep))/\Bl w w'):=λrep w h=>H▸FY a n c R F T rep w hn h;rw[H];clear Hn H;go_enter func105,ntmps105;go_wp2_with fail;refine(Cn a n c R F T _ hn (h.bw B0)).mono ?_;rintro e w1⟨rfl,b1⟩;rw[hok];have Ga:w1.cell? (Ub w.1.size)=Uq (Uf a n c):=by rw[(jG b1).1 _ _ oP];simp
 have z1:w.1.size+1<=w1.1.size:=by have:=b1.size;simp at this;omega
 have Ka:=aC<|aE B0 b1;have HW:=aC h;clear b1 B0 hok h;go_wp2_with fail;go_loopw [4,5,6] (λcv b' i wr=>∃(k:Nat) (u:List Int),k<=8/\i=Ud k/\cv=Ud ((KS L k).length:Nat)/\aA (Own wr (w.1.size+1) b' u)/\aA (u=lS L k)/\aA (Bl w wr)/\aA (b'.ownBlock≠Up)/\wr.cell? (Ub w.1.size)=Uq (Uf a n c)/\w.1.size+1<=wr.1.size) (λ_ _ i _=>8-(intOf i).toNat);case atStart=>
  refine⟨0,[],oM,rfl,rfl,?_,aC rfl,aC (Ka.alloc oM _),aC (by simp[Value.ownBlock]),?_,oS⟩
  .have:=Vo (base:=w.1.size+1) (e:=5) (size:=1) w1 #[] 0 oM oL rfl;exact aC (by simpa[Own]using this)
  .rw[Below.cell (B:=w1.1.size) (zO _ _) (show w.1.size<w1.1.size by omega)];exact Ga
 case round=>
  obtain⟨k,u,q,rfl,rfl,O,Q,He,Ha,Kl,K1⟩:=hrel;by_cases Gf:k<8
  .have Kn:=yK L k;have Ht:=HW.bw He;have Gw:=aC Ht;clear Ht;go_wp2_with fail;refine(Kg (k:Int) wr Gw).mono ?_;rintro e z⟨v2,rfl,o,I⟩;have⟨l,y⟩:=zE (L (k:Int));have Kz:l.length<=1000:=y▸Hg.out _;have G9:aA (∀j,j<l.length->1<=fI l j/\fI l j<=sF l j/\sF l j<=sT l j/\sT l j<=1000000000):=λj hj=>Rd (y▸H5.out _) hj;have A:aA (Own z (w.1.size+1) u5 u):=O.kept I<|λk q=>(World.ownsRow.lt O k q).2;have H0:aA (Bl w z):=He.trans<|I.mono oM;have Hh:z.cell? (Ub w.1.size)=Uq (Uf a n c):=(by rw[Below.cell I (show w.1.size<wr.1.size by omega)];exact Kl);have z2:=I.size;have Kt:u.length<=30000*k:=(by rw[Q.out];exact Dh Hg k);have Kj:aA (∀g,u5.ownBlock=Uq g->g<wr.1.size):=λg hg=>(World.ownsRow.lt O g hg).2;rw[y]at o;clear I O He Gw;by_cases X:l=[]
   .subst X;have Hw:=aC<|Qy y;have W:=aC<|Wx y;clear y;rcases o.2 with⟨rfl,_⟩|⟨g,cap,Kk,rfl,_⟩
    .exact vJ
    .exact vJ
   .have Ky:0<l.length:=List.length_pos_iff.2 X;have Hw:=aC (S3 (L:=L) (k:=k) (by rw[y];exact X));have H9:=Zn (L:=L) (k:=k) (by rw[y];exact X);rw[y]at H9;have W:=aC H9;rcases o.2 with⟨_,e0⟩|⟨g,cap,Kk,rfl,Kw,_,K0,Km,_,_⟩
    .omega
    have HC:=aC<|GH o rfl;have Kx:g<z.1.size:=(o.lt g rfl).2;unfold maxLen at Km;have Gd:Uq g≠u5.ownBlock:=λe=>oH (Kj g e.symm);have Kr:Uq w.1.size≠u5.ownBlock:=λe=>by have:=(World.ownsRow.lt A _ e.symm).1;omega
    have l3:=cF 9 k;have l4:=cF 9 l.length;have Kv:((l.length:Int)==0)=false:=oS;clear o y H9 X;go_wp2_with fail;refine(lB k z oM).mono ?_;rintro e w3⟨v3,rfl,t,p,Ks⟩;have V:=aC<|A.kept p (λk q=>(World.ownsRow.lt A k q).2);have Z:=aC t;have Hx:=aC<|t.some oM;have Gj:aA (Gr z w3 u5 u5):=Gr.of_below p;clear t p;go_wp2_with (at_builtin;refine Dx rfl _ _ rfl (w.1.size+1) z.1.size u5 v3 u (aI 9 k) rfl V rfl Z Hx Ha ?c1 ?c2 ?_);case c1=>omega
    case c2=>omega
    intro P w4 C E Hz;have Hu:=aC<|Gj.trans E;have Y:=aC C;have Gn:=aC Hz;have z4:=E.g.size;clear C E Hz V Z Hx Gj;go_wp2_with fail;refine(lB l.length w4 oM).mono ?_;rintro e w5⟨v5,rfl,Gg,H7,K2⟩;have Gt:=aC<|Y.kept H7 (λk q=>(World.ownsRow.lt Y k q).2);have Gx:=aC Gg;have Go:=aC<|Gg.some oM;have Gk:aA (Gr w4 w5 P P):=Gr.of_below H7;clear Gg H7;go_wp2_with (at_builtin;refine Dx rfl _ _ rfl (w.1.size+1) w4.1.size P v5 (u++aI 9 k) (aI 9 l.length) rfl Gt rfl Gx Go Gn ?d1 ?d2 ?_);case d1=>simp;omega
    case d2=>omega
    intro v6 w6 G7 Gb G5;have Kc:=aC<|Hu.trans (Gk.trans Gb);have Kf:=aC G7;have Ke:=aC G5;have z6:=Gb.g.size;clear G7 Gb G5 Gt Gx Go Gk Y Hu Gn;go_wp2_with fail;go_loopw [5,8,9] (λb' la i wr'=>∃(j:Nat) (s:List Int),j<=l.length/\i=Ud j/\la=Ud (yC l j)/\aA (Own wr' (w.1.size+1) b' s)/\aA (s=u++aI 9 k++aI 9 l.length++fW l j)/\aA (Gr z wr' u5 b')/\aA (b'.ownBlock≠Up)/\z.1.size<=wr'.1.size) (λ_ _ i _=>l.length-(intOf i).toNat);case atStart=>exact⟨0,_,UB _,rfl,rfl,Kf,aC (by simp[fW]),Kc,Ke,oM⟩
    case round=>
     obtain⟨j,s,hj,rfl,rfl,Hb,Ho,M,Hc,Kq⟩:=hrel;have Ku:s.length<=240000+20+20*j:=by
      rw[Ho.out];have:=C9 l j;simp only[UM];omega
     by_cases Hy:j<l.length
     .have⟨q1,q2,q3,q4⟩:=G9 j Hy;have G3:=M.g.cell (HC j Hy).1 Gd;have G4:=M.g.cell (HC j Hy).2 Gd;have Ko:yC l j=fI l j-2:=rfl;obtain⟨D,G1⟩:∃D:Int,sF l j-yC l j=D:=⟨_,rfl⟩;obtain⟨b,G0⟩:∃m:Nat,sF l j-fI l j=(m:Int):=⟨(sF l j-fI l j).toNat,oM⟩;obtain⟨U,H6⟩:∃m:Nat,sT l j-sF l j=(m:Int):=⟨(sT l j-sF l j).toNat,oM⟩;have x1:IntKind.i64.wrap (sF l j-yC l j)=D:=(by rw[G1];exact cK _ oM oM);have x2:IntKind.i64.wrap (D-2)=(b:Int):=(by rw[show D-2=(b:Int) by omega];exact cK _ oM oM);have x3:IntKind.i64.wrap (sT l j-sF l j)=(U:Int):=(by rw[H6];exact cK _ oM oM);have Ki:aA (fW l (j+1)=fW l j++(aI 9 b++aI 9 U)):=(by show fW l j++_=_;rw[G0,H6];rfl);have Kd:aA (sT l j=yC l (j+1)):=(by show sT l j=fI l (j+1)-2;show sT l j=sT l j+2-2;omega);have y1:b<=1000000000:=oM;have y2:U<=1000000000:=oM;have y3:=cF 9 b;have y4:=cF 9 U;have Hm:Uq g≠u5.ownBlock:=λe=>by
       rcases M.l with h|⟨i,h,hi⟩
       .exact Gd<|e.trans h
       .rw[h]at e;injection e with e;omega
      clear G0 H6 G1 Ko;go_wp2_with fail;refine(lB b wr oM).mono ?_;rintro e w7⟨v7,rfl,Gh,H8,K3⟩;have Gu:=aC<|Hb.kept H8 (λk q=>(World.ownsRow.lt Hb k q).2);have Gy:=aC Gh;have Gp:=aC<|Gh.some oM;have Gl:aA (Gr wr w7 u5 u5):=Gr.of_below H8;clear Gh H8;go_wp2_with (at_builtin;refine Dx rfl _ _ rfl (w.1.size+1) wr.1.size u5 v7 s (aI 9 b) rfl Gu rfl Gy Gp Hc ?f1 ?f2 ?_);case f1=>omega
      case f2=>omega
      intro v8 w8 G8 Gc G6;have N:=Gl.trans Gc;have Hi:=N.g.cell G3 Hm;have Hk:=N.g.cell G4 Hm;have Hf:Uq g≠v8.ownBlock:=λe=>by
       rcases N.l with h|⟨i,h,hi⟩
       .exact Hm<|e.trans h
       .rw[h]at e;injection e with e;omega
      have Gm:=aC<|M.trans N;have H4:=aC G8;have Gq:=aC G6;have z8:=Gc.g.size;clear G8 Gc G6 Gu Gy Gp Gl N G3 G4 x1 x2;go_wp2_with fail;refine zR (S:=λw'=>w'.cell? (Ua g (j*3+1))=Uq (Ud (sF l j))/\w'.cell? (Ua g (j*3+2))=Uq (Ud (sT l j))) ⟨Hi,Hk⟩<|λqh=>?_;refine tY 0 53 ?_;refine tY 2 55 ?_;refine tY 4 57 ?_;refine tY 6 59 ?_;refine tY 8 61 ?_;refine tY 10 63 ?_;refine cZ 12 ?_;intro K G;go_simp;refine(lB U _ oM).mono ?_;rintro e w9⟨v9,rfl,Gi,G2,K4⟩;have Hd:Bl w8 w9:=(Below.refl _ w8).drew.trans G2;have Gv:=aC<|H4.kept Hd (λk q=>(World.ownsRow.lt H4 k q).2);have Gz:=aC Gi;have Gs:=aC<|Gi.some oM;have Hv:aA (Gr w8 w9 v8 v8):=Gr.of_below Hd;have Hj:=Hv.g.cell Hi Hf;have Hl:=Hv.g.cell Hk Hf;have z9:=Hd.size;clear Gi G2 Hd;refine bZ G ⟨Hj,Hl⟩<|λqh=>?_;clear G K;refine cZ 13 ?_;intro K G;rw[if_pos (by rfl)];refine S4 _ _ (by rfl) (w.1.size+1) w8.1.size v8 v9 (s++aI 9 b) (aI 9 U) (by rfl) Gv (by rfl) Gz Gs Gq oS oM ?_;intro K5 K6 Hs J Hr;have Hp:=J.g.cell Hj Hf;have Hq:=J.g.cell Hl Hf;have H1:=aC<|Gm.trans (Hv.trans J);have H3:=aC Hs;have H2:=aC Hr;have K7:=J.g.size;clear Hs J Hr;refine bZ G ⟨Hp,Hq⟩<|λqh=>?_;clear G K;refine tZ 14 5 ?_;refine zD ?_;clear qh Hi Hk Hj Hl Gv Gz Gs Hv H4 Gq Gm;go_wp2_with fail;go_roundw;case rel=>exact⟨j+1,_,Hy,oN,by rw[Kd.out],H3,aC (by rw[Ki.out,Ho.out];simp),H1,H2,oM⟩
      case measure=>exact oE
     .obtain rfl:j=l.length:=oM;go_wp2_with fail;go_roundw;case rel=>
       refine⟨k+1,s,Gf,oN,?_,Hb,aC ?_,aC ?_,Hc,M.g.cell Hh Kr,oM⟩
       .rw[Hw.out];simp
       .rw[W.out,Ho.out,Q.out];simp
       .exact H0.trans<|M.bw oM (λg hg=>oH ((World.ownsRow.lt A g hg).1))
      case measure=>exact oE
  .obtain rfl:k=8:=oM;have Kt:u.length<=30000*8:=(by rw[Q.out];exact Dh Hg 8);have Kn:=yK L 8;have l3:=cF 9 (KS L 8).length;have Kh:=aC<|Cq L;go_wp2_with fail;refine(lB (KS L 8).length wr oM).mono ?_;rintro e w3⟨v3,rfl,t,p,Ks⟩;have V:=aC<|O.kept p (λk q=>(World.ownsRow.lt O k q).2);have Z:=aC t;have Hx:=aC<|t.some oM;have Kb:=aC<|He.trans (p.mono oM);have Ge:aA (∀g,v3.ownBlock=Uq g->wr.1.size<=g):=λg hg=>(World.ownsRow.lt t g hg).1;clear t p;go_wp2_with (at_builtin;refine Dx rfl _ _ rfl wr.1.size (w.1.size+1) v3 u5 (aI 9 (KS L 8).length) u rfl Z rfl V Ha Hx ?g1 ?g2 ?_);case g1=>omega
   case g2=>omega
   intro P w4 C E Hz;have Hu:=aC E;have Y:=aC C;clear C E Hz V Z;go_wp2_with fail;go_ret2;refine⟨P,rfl,?_,Kb.trans (Hu.bw oM (λg hg=>oH (Ge g hg)))⟩;rw[Kh.out,<-Q.out];exact Y.weak oM
def E3(R F T:Nat->Int)(n:Nat):List Int:=if eQ R F T n then fF (Lk R F T n)else []
theorem OZ(R F T:Nat->Int)(n:Nat):(E3 R F T n).length<=1000000:=by
 unfold E3;split
 .rename_i h;have j:=dL.1 h;rw[Cq];have k:=(cF 9 (KS (Lk R F T n) 8).length).1;have m:=Dh (L:=Lk R F T n) (λr=>Uz (jJ R F T n r) j.2) 8;simp only[UM];omega
 .simp
theorem Own.any(h:Own w B v zs):∃a cap,v=Uf a zs.length cap/\bY w a zs.length (λi=>zs.getD i 0):=by
 by_cases j:zs=[]
 .subst j;have⟨_,k⟩:=h;rcases k with⟨rfl,_⟩|⟨g,cap,m,rfl,_⟩
  .exact⟨Up,0,rfl,.inl rfl⟩
  .exact⟨_,cap,rfl,.inl rfl⟩
 .obtain⟨g,cap,rfl,_,_,_,_,_,s⟩:=h.shape j;exact⟨_,cap,rfl,s⟩
theorem Ft(R F T:Nat->Int)(r f t:Int):∀n,cE R F T r f t n=true->∃k,k<n/\R k=r/\F k<=f/\t<=T k
 |0,h=>by simp[cE]at h
 |n+1,h=>by
  simp only[cE,Bool.or_eq_true,decide_eq_true_eq]at h;rcases h with h|h
  .have⟨k,j,r⟩:=Ft R F T r f t n h;exact⟨k,oM,r⟩
  .exact⟨n,oM,h⟩
theorem bG.lvB(h:bG R F T n l):nC l:=by
 have⟨u,v,j,y⟩:=h;have g:=(dL.1 u).1;have m:∀i,i<l.length->(0<=(gL l i).r/\(gL l i).r<8)/\(0<=(gL l i).q/\(gL l i).q<=1000000000):=λi hi=>by
  have⟨k,z,t,o,b⟩:=Ft R F T _ _ _ n (j i hi).2.1;have:=(g k z).1;simp only[fR,Bool.and_eq_true,decide_eq_true_eq]at this;omega
 exact⟨λi hi=>(m i hi).1,λi hi=>(m i hi).2,λi hi=>(j i hi).1.2.1,v,y⟩
noncomputable def dF(R F T:Nat->Int)(n:Nat)(l:List Lf):List Int:=fF (Lk R F T n)++tB l 8 []
noncomputable def kP(R F T:Nat->Int)(n:Nat)(l:List Lf):List Int×Int:=
 if yes (bG R F T n l)=true then(if (dF R F T n l).length<=4000 then(dF R F T n l,0)else([],2))else([],1)
theorem Fz(h:¬bG R F T n l):kP R F T n l=([],1):=by unfold kP;rw[if_neg (by rw[aJ h];simp)]
theorem Mu(h:bG R F T n l)(h2:¬(dF R F T n l).length<=4000):kP R F T n l=([],2):=by unfold kP;rw[if_pos (aN h),if_neg h2]
theorem sI(h:bG R F T n l)(h2:(dF R F T n l).length<=4000):kP R F T n l=(dF R F T n l,0):=by unfold kP;rw[if_pos (aN h),if_pos h2]
theorem bG.put_len(h:bG R F T n l):(fF (Lk R F T n)).length<=1000000/\0<(fF (Lk R F T n)).length:=by
 have:=OZ R F T n;unfold E3 at this;rw[if_pos h.1]at this;refine⟨this,?_⟩;rw[Cq,UM];have:=(cF 9 (KS (Lk R F T n) 8).length).2;omega
theorem bG.tree_len(h:bG R F T n l):(tB l 8 []).length<=2000000:=by
 have j:=Fm h.2.2.1 8 [];have k:=Qj l [] l.length;have m:=h.2.1;omega
theorem bG.iv(h:bG R F T n l):Iv l [] 0 (0+l.length):=by
 refine⟨λj hj=>?_,oM,oM⟩;rw[nU];have:=(h.2.2.1 j hj).1.1.1;exact⟨λ_=>⟨oM,oM⟩,λ_=>⟨List.nil_prefix,Ut Nat.zero_lt_one this⟩⟩
theorem gA.lat(h:gA w a l)(h0:0<l.length):∃b off,a=Uq (Ua b off)/\jO w b off l 0 l.length:=by
 rcases h with h|⟨b,off,e,j,k⟩
 .omega
 .refine⟨b,off,e,j,λt ht=>?_⟩;rw[UA];exact k t ht
theorem Rm(w:Ur)(B:Nat)(hB:B<=w.1.size):Own (w.alloc (Uj #[] 5)) B (Uf (Uc w.1.size) 0 0) []:=by
 have:=Vo (base:=B) (e:=5) (size:=1) w #[] 0 hB oL rfl;simpa[Own]using this
theorem PQ(a:Option Us)(c:Nat)(l:List Lf)(x:Option Us)(n d:Nat)(R F T:Nat->Int)(w:Ur)(hc:l.length<=c)(hcm:c<=9223372036854775807)(hn:n<=1048576)(h:gA w a l)(h':bI w x n R F T)(hok:bG R F T n l):
  Cl 64 #[Uo #[Uf a l.length c,Uf x n d]] w λe w'=>∃v,e=Ui v/\Own w' w.1.size v (dF R F T n l)/\Bl w w':=by
 have⟨W,m⟩:=zE (w.alloc (Uj #[Uf a l.length c,Uf x n d] 28));have j:Bl w W:=m▸zO _ _;have q:aD W w.1.size (Uf a l.length c) (Uf x n d):=m▸aD.made _ _ _ _;have⟨H,I⟩:=q.q2;have r:=aC q;have Y:=aC (h.bw j);have p:=aC (ML x n d R F T W hn (h'.bw j) hok.1);have z:=aC j;have A:aA (∀w1,Bl W w1->Cl 106 #[Uf a l.length c,Ud 0] w1 λe w'=>∃v,e=Ui v/\Own w' w1.1.size v (tB l 8 [])/\Bl w1 w'):=aC (λw1 hb1=>by
  have:=NJ l hok.2.2.1 hok.lvB 8 [] rfl oM 0 l.length c a w1 hc hcm hok.iv (λh0=>(Y.bw hb1).lat h0) (oH hok.tree_len);exact this)
 have i:=aC<|And.intro hok.put_len hok.tree_len;have G:aA (0<(tB l 8 []).length):=aC<|Q9 l 7 [];have s:aA (fF (Lk R F T n)++tB l 8 []=dF R F T n l):=aC rfl;have⟨Z,Q⟩:=zE (dF R F T n l);rw[Q]at s⊢;go_enter func64,ntmps64;go_wp2_with fail;refine p.mono ?_;rintro e w1⟨L,rfl,y,k⟩;have M:=r.bw k r.lt;have⟨J,K⟩:=M.q2;have g:aA (Bd w w1 L (fF (Lk R F T n))):=aC ⟨aE z k,Own.weak y z.size,Rl y i.1.2⟩;have E:=aC<|A w1 k;go_wp2_with fail;refine E.mono ?_;rintro e B⟨X,rfl,V,O⟩;have⟨N,C,U,u⟩:=g.app O V G (oH i);rw[s.out]at u;have t:=aC u;go_wp2_with (at_builtin;refine cL rfl _ _ _ _ rfl U (by rfl) (by rfl) rfl ?_;clear U);go_ret;exact⟨N,rfl,t.o,t.b⟩
theorem BA(a:Option Us)(c:Nat)(l:List Lf)(x:Option Us)(n d:Nat)(R F T:Nat->Int)(w:Ur)(hc:l.length<=c)(hcm:c<=9223372036854775807)(hl:l.length<=1048576)(hp:iP l)(hn:n<=1048576)(h:dH w a l)(p:gA w a l)(h':bI w x n R F T):
  Cl 35 #[Uo #[Uf a l.length c,Uf x n d]] w λe w'=>∃v zs k,e=Ui (Ul #[v,Ud k])/\kP R F T n l=(zs,k)/\Own w' w.1.size v zs/\Bl w w':=by
 have⟨W,z⟩:=zE (w.alloc (Uj #[Uf a l.length c,Uf x n d] 28));have y:Bl w W:=z▸zO _ _;have o:aD W w.1.size (Uf a l.length c) (Uf x n d):=z▸aD.made _ _ _ _;have⟨I,J⟩:=o.q2;have t:=aC o;have K:=aC<|p.bw y;have N:=aC<|h'.bw y;have u:=aC<|Ad a c l x n d R F T W hl hp hn (h.bw y) (h'.bw y);have E:=aC y;by_cases j:bG R F T n l;rw[aN j]at u;have i:=aC<|λw1(hb:Bl W w1)=>PQ a c l x n d R F T w1 hc hcm hn (K.bw hb) (N.bw hb) j;have U:=aC<|λh=>sI j h;have O:=aC<|λh=>Mu j h;have M:aA ((dF R F T n l).length<=1000000000):=aC (by have h1:=j.put_len;have p:=j.tree_len;unfold dF;rw[UM];omega);have⟨Z,s⟩:=zE (dF R F T n l);have⟨P,q⟩:=zE (kP R F T n l);rw[s,q]at U O;rw[s]at i M;rw[q];rotate_left;rw[aJ j]at u;have Q:=aC<|Fz j;have⟨P,q⟩:=zE (kP R F T n l);rw[q]at Q;rw[q];rotate_left;all_goals
  go_enter func35,ntmps35;go_wp2_with fail
  refine u.mono ?_;rintro e w1⟨rfl,m⟩
 .have Y:=t.bw m t.lt;have⟨C,D⟩:=Y.q2;have r:=aC<|aE E m;have V:=aC<|i w1 m;go_wp2_with fail;refine V.mono ?_;rintro e w2⟨v2,rfl,A,G⟩;have L:=aC<|Own.weak A r.size;have g:=aC<|aE r G;obtain⟨S,cv,rfl,_⟩:=A.any;have Ha:=M.out;by_cases H:Z.length<=4000
  .have b:=aC<|U H;have X:decide ((4000:Int)<(Z.length:Int))=false:=oS;go_wp2_with fail;go_ret2;exact⟨_,Z,0,rfl,b,L,g⟩
  .have b:=aC<|O H;have X:decide ((4000:Int)<(Z.length:Int))=true:=oS;go_wp2_with fail;go_ret2;exact⟨_,[],2,rfl,b,Rm _ _ g.size,g.alloc g.size _⟩
 .have r:=aC<|aE E m;go_wp2_with fail;go_ret2;exact⟨_,[],1,rfl,Q,Rm _ _ r.size,r.alloc r.size _⟩
open Go.Lib Go.Shelf
theorem Mi(n l Bm b nn:Nat)(f:Ky->Option (Nat×Nat))(D0:DataW aB)(J:List Ky->Ur->Prop)(hn:1<=n)
  (hY:∀pre x W,J pre W->pre.length<Maps.size D0->YieldAt Fence.wide (n-1) prog l #[aP x] W λe W'=>e=Ui (Un true)/\J (pre++[x]) W'/\KeepsWalks W W')
  (W:Ur) (hJ:AbidesFrom W.1.size J) (hm:W.cell? (Ub Bm)=Uq (.map (Uq b))) (hF:FM W 175 aP bE b nn f D0) (h0:J [] W):
  CallsIn Fence.wide n prog 181 #[.func (.yield l) #[] #[],Uk (Uc Bm)] W λe W'=>(∃v,e=Ui v)/\∃j,iM f j/\J j W':=by
 have P:=hF.own;have y:=aC hF;have z:=aC hJ;have V:=aC hY;clear hF hJ hY;refine callsIn_of_wp func181 rfl trivial ?_ rfl;simp only[ntmps181,YA,UP,YB,YL,YM,YS,YT,YC,YD,Yj,VX];gi_wp2_with (first
  | (gi_at_range;refine wpListIn_range_own _ rfl _ 104 rfl 175 107 gH underlying104 _ b nn _ rfl P ?_;intro w0 R L He)
  |gi_in)
 try go_frame
 gi_loopw [3] (λ_ wr=>∃(t:Lit->Bool) (h:Nat) (j:List Ky),wr.ranges prog 175 jR b W.1.size nn D0 t h/\j.length+h<=Maps.size D0/\kR 175 aP f t j/\J j wr)
  (λ_ wr=>wr.rangeLeft b W.1.size)
 case atStart=>exact⟨_,_,[],R,oP,kR.start y,z [] W w0 Up h0 L (λr e=>by cases e)⟩
 case round=>
  have⟨t,h,j,g,O,A,E⟩:=hrel;have i:=aC A;have p:=aC O;clear A O;gi_wp2_with (first
   | (gi_at_next;refine wpListIn_next_ranges _ rfl _ rfl 175 gH jR aP id (λkey kl hk=>uS hk) (λv _ _=>⟨v,rfl⟩) b W.1.size nn _ _ _ rfl g ?_ ?_)
   |gi_in)
  .intro Hd C;gi_wp2;go_end0;exact⟨⟨_,rfl⟩,j,i.done y C,E⟩
  .intro q m c kl yd yp k Y B D hv I S F N T K;have Z:J j k:=z j wr k (Uq W.1.size) E N (λr e=>by cases e;exact⟨Ux _,g.iter_walk⟩);generalize u:k.alloc (Uj #[Um q,Ud m] 175)=o;have G:J j o:=(by rw[<-u];exact z j k _ Up Z (VA k _ Up) (λr e=>by cases e));have⟨fn,Hc,Ha,Hb,hy,M⟩:=V j (q,m) o G (oH p);have s:aD o k.1.size (Um q) (Ud m):=u▸aD.made _ _ _ _;have Q:=S.alloc<|Uj #[Um q,Ud m] 175;rw[u]at Q;have⟨q0,q1⟩:=s.q2;clear T s;dsimp only[aP]at K hy M⊢;gi_wp2;refine M.mono ?_;rintro e W3⟨rfl,H,X⟩;gi_wp2;have U:=Q.of_walks X;go_roundw;case rel=>exact⟨_,Y,j++[(q,m)],U,by have:=p.out;simp;omega,i.step y gH (λ_ _=>oB) B D I,H⟩
   case measure=>rw[U.left_eq,g.left_eq];exact F
def kCells(x:Ky):List aB:=[Um x.1,Ud x.2]
def kRow(ss:List Ky):List aB:=ss.flatMap kCells
theorem AT(ss:List Ky)(x:Ky):kRow (ss++[x])=kRow ss++kCells x:=by simp[kRow]
theorem LQ:(prog.info? 175).map (λi=>(i.zero,i.size,i.bytes))=Uq (Uq (Uo #[Um ByteArray.empty,Ud 0]),2,24):=oK
def rE:Code:=(Code.region 2 #[{dst:=Uq 5,op:=Op.alloc 175,type:=0,pos:= "iter.go:51",after:=#[],guard:=Up},{dst:=Up,op:=Op.store 175 (Operand.tmp 5) (Operand.tmp 7),type:=0,pos:= "iter.go:51",after:=#[{on:=0,ground:=Ground.data},{on:=0,ground:=Ground.phase}],guard:=Up}] false)
def rD:Code:=(Code.block 1 (Code.region 3 #[{dst:=Uq 8,op:=Op.load 170 (Operand.tmp 2),type:=170,pos:= "iter.go:52",after:=#[],guard:=Up},{dst:=Uq 9,op:=Op.load 175 (Operand.tmp 5),type:=175,pos:= "iter.go:52",after:=#[],guard:=Up},{dst:=Uq 10,op:=Op.buildSlice 170 1 #[(0,Operand.tmp 9)],type:=170,pos:= "iter.go:52",after:=#[{on:=1,ground:=Ground.data}],guard:=Up},{dst:=Uq 11,op:=Op.call {callee:=Callee.builtin Builtin.append,args:=#[Operand.tmp 8,Operand.tmp 10],argTypes:=#[170,170]},type:=170,pos:= "iter.go:52",after:=#[{on:=0,ground:=Ground.data},{on:=2,ground:=Ground.data}],guard:=Up},{dst:=Up,op:=Op.store 170 (Operand.tmp 2) (Operand.tmp 11),type:=0,pos:= "iter.go:52",after:=#[{on:=3,ground:=Ground.data},{on:=3,ground:=Ground.chain},{on:=0,ground:=Ground.phase},{on:=1,ground:=Ground.phase},{on:=2,ground:=Ground.phase},{on:=3,ground:=Ground.phase}],guard:=Up}] false))
def fH(fn:FuncId)(sv:aB)(Bs D:Nat)(st:LoopState):Loop:=
 {state:=st,pending:=Up,fn,tmps:=#[Ue,sv,Uk (Uc Bs),undef,Ue,undef,sv,undef,undef,undef,undef,undef,undef],params:=#[7],assign:=rE,body:=rD,defers:=D}
structure jS(w0:Ur)(fn:FuncId)(sv:aB)(Bs l D:Nat)(ss:List Ky)(W:Ur):Prop where
 box:∃v,W.1[Bs]? =Uq (Uj #[v] 170 (0,0))/\W.ownsRow w0.1.size 175 2 v ss.length (kRow ss)/\(v=Ue↔ss=[])
 L:W.1[l]? =Uq (.loop (fH fn sv Bs D .ready))
 K:W.1[D]? =Uq (.deferred (Uq []))
 bw:Bl w0 W
theorem uT(w0:Ur)(fn:FuncId)(sv:aB)(Bs l D B:Nat)(hB:w0.1.size<=B):AbidesFrom B (jS w0 fn sv Bs l D):=λs W W' row h hg hrow=>by
 have j:∀r,row=Uq r->∃o:Obj,W.1[r]? =Uq o/\o.isWalk=true:=λr e=>(hrow r e).2;have⟨v,m,u,q⟩:=h.box;exact⟨⟨v,(grownBy_keeps hg j m rfl).trans m,ownsRow_abides_a u hg j,q⟩,(grownBy_keeps hg j h.L rfl).trans h.L,(grownBy_keeps hg j h.K rfl).trans h.K,h.bw.grown hg h.bw.size (λk e=>Uz hB (hrow k e).1)⟩
theorem xS{Q:Prop}(h:Q:=by have O:z.1[l]? =Uq (.loop {fH fn sv Bs D .ready with state:=.busy}):=(Y.block l (Array.getElem?_eq_some_iff.1 He).1 (λe=>hBl (by cases e;rfl))).trans He;have Hl:z.1[D]? =Uq (.deferred (Uq [])):=(Y.block D (Array.getElem?_eq_some_iff.1 T).1 (λe=>hDB (by cases e;rfl))).trans T;have Ha:=S.kept Y (ownsRow_ne_a S R (λcur e=>Hj (Obj.cells.inj e).2.1));have Hr:l<z.1.size:=(Array.getElem?_eq_some_iff.1 O).1;have Hf:Bl w0 y:=(Q.alloc Q.size _).grown V (by have:=Q.size;simp;omega) (λk e=>(G.lt k e).1);have Hg:Bl w0 z:=Hf.grown Y Hf.size (λk e=>by cases e;exact h0B);have Hp:KeepsWalks W z:=((Ho.trans (KeepsWalks.alloc _ _)).trans (KeepsWalks.of_grownBy V (ownsRow_not_walk_a (G.alloc _)))).trans (A▸KeepsWalks.setCell _ _ _);clear A;refine⟨_,_,run_endRound Up O,rfl,⟨⟨_,(YO hBl).trans Hs,?_,oP⟩,YP Hr,(YO hDl).trans Hl,Hg.grown (grownBy_putObj_a _ _ _) Hg.size (λk e=>by cases e;exact h0l)⟩,Hp.trans (KeepsWalks.putObj _ O rfl)⟩;have:=Ha.kept (grownBy_putObj_a z l (.loop {{fH fn sv Bs D .ready with state:=.busy} with state:=if (Up:Option Code).isNone then .ready else .done,pending:=Up})) (ownsRow_ne_a Ha O (λcur e=>by cases e));rw[AT];simpa[kCells]using this):Q:=h
theorem Dq(m:Nat)(w0:Ur)(fn:FuncId)(sv:aB)(Bs l D:Nat)(hBl:Bs≠l)(hDl:D≠l)(hDB:D≠Bs)(h0B:w0.1.size<=Bs)(h0l:w0.1.size<=l)
    (N:Nat) (hN:N<=maxLen) (hNb:N*24<=140737488355328) (ss:List Ky) (x:Ky) (W:Ur) (h:jS w0 fn sv Bs l D ss W) (hlen:ss.length<N):
    YieldAt Fence.wide m prog l #[aP x] W λe W'=>e=Ui (Un true)/\jS w0 fn sv Bs l D (ss++[x]) W'/\KeepsWalks W W':=by
  have Hj:170≠175:=oD;have⟨i0,hi,Ht,Hu,Hv⟩:=info_parts LQ;refine⟨fn,#[Ue,sv,Uk (Uc Bs),undef,Ue,undef,sv,aP x,undef,undef,undef,undef,undef],rE,rD,by simpa[fH]using run_yield (P:=prog) (args:=#[aP x]) h.L rfl,roundIn_of_wpIn trivial ?_⟩;have⟨s,p⟩:=x;have⟨g,X⟩:=zE (W.alloc (Uj #[Um s,Ud p] 175));have u:jS w0 fn sv Bs l D ss g:=by rw[<-X];exact uT w0 fn sv Bs l D w0.1.size zL ss W _ Up h (VA W _ Up) (λr e=>by cases e)
  have Hi:KeepsWalks W g:=X▸KeepsWalks.alloc _ _;have E:aD g W.1.size (Um s) (Ud p):=X▸aD.made _ _ _ _;have H0:l<W.1.size:=(Array.getElem?_eq_some_iff.1 h.L).1;have⟨v,hv,C,_⟩:=u.box;have hl:l<g.1.size:=(Array.getElem?_eq_some_iff.1 u.L).1;have Hm:=run_beginRound (P:=prog) u.L rfl;obtain⟨q,i⟩:∃q,g.putObj l (.loop {fH fn sv Bs D .ready with state:=.busy})=q:=⟨_,rfl⟩;rw[i]at Hm;have U:g.grownBy q (Uq l):=i▸grownBy_putObj_a _ _ _;have Ho:KeepsWalks W q:=Hi.trans<|i▸KeepsWalks.putObj _ u.L rfl;have Z:q.1[Bs]? =Uq (Uj #[v] 170 (0,0)):=i▸(YO hBl).trans hv;have I:q.1[D]? =Uq (.deferred (Uq [])):=i▸(YO hDl).trans u.K;have J:q.1[l]? =Uq (.loop {fH fn sv Bs D .ready with state:=.busy}):=i▸YP hl;have F:q.ownsRow w0.1.size 175 2 v ss.length (kRow ss):=C.kept U (ownsRow_ne_a C u.L (λcur e=>by cases e));have Q:Bl w0 q:=u.bw.grown U u.bw.size (λk e=>by cases e;exact h0l);have H:q.1[W.1.size]? =g.1[W.1.size]? :=U.block _ E.lt<|λe=>oI e;have q0:q.cell? (Ub W.1.size)=Uq (Um s):=(Vy (a:=(Ub W.1.size)) H).trans E.c0;have q1:q.cell? (Ua W.1.size 1)=Uq (Ud p):=(Vy (a:=(Ua W.1.size 1)) H).trans E.c1;have⟨Hw,Hy⟩:=cell_of_box_a Z;have Hb:Bs<q.1.size:=(Array.getElem?_eq_some_iff.1 Z).1;have Hq:l<q.1.size:=(Array.getElem?_eq_some_iff.1 J).1;have Hc:D<q.1.size:=(Array.getElem?_eq_some_iff.1 I).1;have ne_of:∀{j:Nat}{o:Obj},q.1[j]? =Uq o->(∀cur,o≠.cells cur 175 (0,0))->Uq j≠v.ownBlock:=λhj hno=>by
    rcases ownsRow_ne_a F hj hno with e|e
    · rw[e];simp
    · exact λe'=>e e'.symm
  have G:=aC F;have HZ:=aC Q.size;unfold rE;dsimp only[aP];gi_wp2_with gi_round_op_a;unfold rD;gi_wp2_with (first
    | (gi_at_builtin;refine wpListIn_append_own _ rfl _ _ 170 rfl w0.1.size 175 i0 (Uo #[Um ByteArray.empty,Ud 0]) 2 24 underlying170 hi Ht Hu Hv rfl oD _ _ _ rfl (G.alloc _) (Ub q.1.size) 1 1 [Um s,Ud p] rfl rfl (cell_two_new _ _ _ _) (by simp[Value.oneCell']) oM oM (by have:=HZ.out;simp;omega) ?_;intro v' y B Hh Hk
       have R:y.1[Bs]? =Uq (Uj #[v] 170 (0,0)):=(Hh.block Bs oS (ne_of Z (λcur e=>Hj (Obj.cells.inj e).2.1))).trans<|(Below.heap_alloc _ _ Bs Hb).trans Z
       have⟨Hx,Hz⟩:=cell_of_box_a R
       obtain⟨b,t,M,rfl,Hd,Hn,H1,H2,H3,H4⟩:∃b t M,v'=Uf (Uc b) (ss.length+1) t/\w0.1.size<=b/\y.1[b]? =Uq (.cells M 175 (0,0))/\ss.length+1<=t/\t<=maxLen/\M.size=t*2/\M.toList.take ((ss.length+1)*2)=kRow ss++[Um s,Ud p]:=by
         rcases B.2 with⟨_,h0⟩|h'
         · exact absurd h0 oM
         · exact h'
       have S:=aC B
       try go_frame)
    |gi_round_op_a)
  have V:(q.alloc (Uj #[Um s,Ud p] 175)).grownBy y v.ownBlock:=Hh;have He:y.1[l]? =Uq (.loop {fH fn sv Bs D .ready with state:=.busy}):=(V.block l oS (ne_of J (λcur e=>by cases e))).trans<|(Below.heap_alloc _ _ l Hq).trans J;have T:y.1[D]? =Uq (.deferred (Uq [])):=(V.block D oS (ne_of I (λcur e=>by cases e))).trans<|(Below.heap_alloc _ _ D Hc).trans I;have⟨z,A⟩:=zE (y.setCell (Ub Bs) (Uf (Uc b) (ss.length+1) t));rw[A];have Y:y.grownBy z (Uq Bs):=A▸grownBy_setCell0_a _ _ _;have Hs:z.1[Bs]? =Uq (Uj #[Uf (Uc b) (ss.length+1) t] 170 (0,0)):=A▸heap_setCell_box_a _ R;exact xS
theorem wV{Q:Prop}(h:Q:=by have A:q.1[j.1.size]? =Uq (.deferred (Uq [])):=h▸(YO oM).trans u.K;have Q:=b.kept O (ownsRow_ne_a b u.L (λcur e=>by cases e));have E:Bl w q:=u.bw.grown O u.bw.size (λk e=>by cases e;omega);obtain⟨X,C⟩:=cell_of_box_a J;have p:=aC Q;clear h b Q;refine⟨Up,q,M,?_⟩;gi_wp2;rw[<-G];refine⟨oP,.inl ⟨_,_,rfl,run_takeDeferred A,?_⟩⟩;exact⟨_,results_tmp rfl _ _ _,v,y,rfl,V,p.kept (grownBy_putObj_a _ _ _) (ownsRow_ne_a p A (λcur e=>by cases e)),Y,E.grown (grownBy_putObj_a _ _ _) E.size (λk e=>by cases e;omega)⟩):Q:=h
theorem Ob(n:Nat)(hn:2<=n)(g:Nat)(lb:Array aB)(eg:∀args w,(callFunc g args).run prog w=.ok (.enter g args) w)
  (S:List Ky->Prop) (N:Nat) (hN:N<=maxLen) (hNb:N*24<=140737488355328) (w:Ur) (hseq:SeqGives Fence.wide (n-1) prog g lb aP S N w):
  CallsIn Fence.wide n prog 201 #[Ue,.func (.func g) #[] lb] w λe w'=>∃(v:aB) (y:List Ky),e=Ui v/\S y/\w'.ownsRow w.1.size 175 2 v y.length (kRow y)/\(v=Ue↔y=[])/\Bl w w':=by
 refine callsIn_of_wp_marks func201 rfl trivial ?_ rfl;simp only[ntmps201,YA,UP,YB,YL,YM,YS,YT,YC,YD,Yj,VX];gi_wp2;refine wpIn_rangeFunc ?_;intro r D;have⟨j,t⟩:=zE (w.alloc (Uj #[Ue] 170));have G:j.1.size=w.1.size+1:=t▸oP;have I:j.1[w.1.size]? =Uq (Uj #[Ue] 170 (0,0)):=t▸YQ w _;have o:Bl w j:=t▸(RowKit.Below.refl _ w).alloc zL _;rw[t];have⟨m,z⟩:=zE ((j.alloc (.deferred (Uq []))).alloc (.loop (fH r (.func (.func g) #[] lb) w.1.size j.1.size .ready)));have Z:∀k,k<j.1.size->m.1[k]? =j.1[k]? :=λk hk=>by
  rw[<-z];exact(Below.heap_alloc _ _ k oS).trans (Below.heap_alloc _ _ k hk)
 have i:Bl w m:=by rw[<-z];exact(o.alloc o.size _).alloc (by have:=o.size;simp;omega) _
 have U:jS w r (.func (.func g) #[] lb) w.1.size (j.1.size+1) j.1.size [] m:=
  ⟨⟨_,(Z w.1.size oM).trans I,⟨rfl,.inl ⟨rfl,rfl⟩⟩,oP⟩,
   by rw[<-z];have:=YQ (j.alloc (.deferred (Uq []))) (.loop (fH r (.func (.func g) #[] lb) w.1.size j.1.size .ready));rwa [YR]at this,
   by rw[<-z];exact(Below.heap_alloc _ _ _ oP).trans (YQ j _),i⟩
 refine⟨j.1.size+1,[{target:=.collected j.1.size,args:=#[]}],m,{target:=.fn (.func g) lb,args:=#[.func (.yield (j.1.size+1)) #[] #[]]},m,g,
  #[.func (.yield (j.1.size+1)) #[] #[]]++lb,m,?_,?_,?_,?_,λ_=>oM,?_⟩
 .rw[<-z];exact run_enterLoop_outer _ _ _ _ _
 .simp[resolve,go_sem]
 .intro f' B;trivial
 .simp[invoke,go_sem,eg]
 .refine(hseq (j.1.size+1) (jS w r (.func (.func g) #[] lb) w.1.size (j.1.size+1) j.1.size) m i (uT _ _ _ _ _ _ _ i.size)
   (λpre x W hJ hl=>Dq (n-1-1) w r _ w.1.size (j.1.size+1) j.1.size oM oM oM zL oM N hN hNb pre x W hJ hl) U).mono ?_
  rintro e s⟨⟨R,rfl⟩,y,V,u⟩;have⟨v,H,b,Y⟩:=u.box;have M:=run_endLoop (P:=prog) u.L (by simp[fH]);obtain⟨q,h⟩:∃q,s.putObj (j.1.size+1) (.loop {fH r (.func (.func g) #[] lb) w.1.size j.1.size .ready with state:=.exhausted})=q:=⟨_,rfl⟩;rw[h]at M;have O:s.grownBy q (Uq (j.1.size+1)):=h▸grownBy_putObj_a _ _ _;have J:q.1[w.1.size]? =Uq (Uj #[v] 170 (0,0)):=h▸(YO oM).trans H;exact wV
theorem qW{Q:Prop}(h:Q:=by go_wp2_with fail;refine m.mono ?_;rintro e w'⟨v,j,rfl,q,y,u,r⟩;have k:=aC (And.intro q (And.intro y (And.intro u r)));clear q y u r m;go_wp2_with fail;go_ret;exact⟨v,j,rfl,k.1,k.2.1,k.2.2.1,k.2.2.2⟩):Q:=h
theorem collectK(g:Nat)(lb:Array aB)(eg:∀args w,(callFunc g args).run prog w=.ok (.enter g args) w)
  (S:List Ky->Prop) (N:Nat) (hN:N<=maxLen) (hNb:N*24<=140737488355328) (w:Ur) (hseq:SeqGives Fence.wide 4 prog g lb aP S N w):
  Cl 179 #[.func (.func g) #[] lb] w λe w'=>∃(v:aB) (j:List Ky),e=Ui v/\S j/\w'.ownsRow w.1.size 175 2 v j.length (kRow j)/\(v=Ue↔j=[])/\Bl w w':=by
 have m:=aC<|(callsIn_wide (n:=5)).1 (Ob 5 oM g lb eg S N hN hNb w hseq);go_enter func179,ntmps179;exact qW
theorem keysGivesK(Bm b nn:Nat)(f:Ky->Option (Nat×Nat))(D0:DataW aB)(w:Ur)(hBm:Bm<w.1.size)(hm:w.cell? (Ub Bm)=Uq (.map (Uq b)))(hF:FM w 175 aP bE b nn f D0):
  SeqGives Fence.wide 4 prog 181 #[Uk (Uc Bm)] aP (iM f) (Maps.size D0) w:=λl J W hW hJ hY h0=>by
 have j:FM W 175 aP bE b nn f D0:=⟨sH hF.own (hW.block b hF.own.lt),hF.at',hF.cov,hF.ok⟩;exact Mi 4 l Bm b nn f D0 J oM hY W hJ ((hW.cell (p:=(Ub Bm)) hBm).trans hm) j h0
theorem Oi(x y:Ky)(w:Ur):Cl 152 #[Uo #[Um x.1,Ud x.2],Uo #[Um y.1,Ud y.2]] w λe w'=>e=Ui (Ud (eR x y))/\Bw w w':=by
 exact vG
instance:Inhabited Ky:=⟨(ByteArray.empty,0)⟩
theorem Ab(x:Ky):(kCells x).length=2:=rfl
theorem kRow_len(ss:List Ky):(kRow ss).length=ss.length*2:=by
 induction ss with
 |nil=>rfl
 |cons x r ih=>simp only[kRow,VP,UM,UP]at*;rw[ih,Ab];omega
theorem kRow_get:∀(ss:List Ky) (t:Nat),t<ss.length*2->(kRow ss)[t]? =Uq ((kCells ss.toArray[t/2]!)[t%2]!)
 |[],t,h=>by simp at h
 |x::r,t,h=>by
  rcases Nat.lt_or_ge t 2 with q|q
  .have:t=0\/t=1:=oM;rcases this with rfl|rfl<;>simp[kRow,kCells]
  .obtain⟨u,rfl⟩:∃u,t=u+2:=⟨t-2,oM⟩;have y:=kRow_get r u (by simp at h;omega);have j:(u+2)/2=u/2+1:=oM;have k:(u+2)%2=u%2:=oM;rw[j,k];have v:u/2<r.length:=(by simp at h;omega);have m:(x::r).toArray[u/2+1]! =r.toArray[u/2]! :=by
    rw[getElem!_pos _ _ oS,getElem!_pos _ _ (oU v)];simp
   rw[m,<-y];simp[kRow,kCells]
theorem wC{Q:Prop}(h:Q:=by
 apply YE;intro t;by_cases h:t<ss.length*2
 .rw[kRow_get ss t h];have j:t<(flatK kCells 2 ss.toArray).size:=oU h;have:=get_flatK kCells 2 ss.toArray t (oU h);rw[getElem!_pos _ t j]at this;rw[YU,YV j,this]
 .rw[UT oS,UT (by rw[kRow_len];omega)]):Q:=h
theorem AL(ss:List Ky):(flatK kCells 2 ss.toArray).toList=kRow ss:=by
 exact wC
theorem vR{Q:Prop}(h:Q:=by have j:g<w.1.size:=(Array.getElem?_eq_some_iff.1 hb).1;rw[heap_grow_old _ _ (by simpa[putRow,mapBlock,Sort.ahead]using j)];simp[putRow,mapBlock,Sort.ahead,YW,hb,onCells]):Q:=h
theorem BL{os:Array Obj}(d:Array aB)(hb:w.1[g]? =Uq (.cells cur e fr)):
  (grow (putRow id (Sort.ahead w n) g 0 d) os).1[g]? =Uq (.cells (putCells id 0 d cur) e fr):=by
 exact vR
theorem vW{Q:Prop}(h:Q:=by refine⟨rfl,rfl,rfl,by simp[grow,putRow,mapBlock,Sort.ahead],λk hk hne=>?_⟩;rw[heap_grow_old _ _ (by simpa[putRow,mapBlock,Sort.ahead]using hk)];have:g≠k:=λe=>hne (by rw[e]);simp[putRow,mapBlock,Sort.ahead,YW,this]):Q:=h
theorem BM{os:Array Obj}(d:Array aB):w.grownBy (grow (putRow id (Sort.ahead w n) g 0 d) os) (Uq g):=by
 exact vW
theorem pJ{Q:Prop}(h:Q:=by
 apply YE;intro j;by_cases k:j<ts.length
 .rw[VV k,YU];simp[putCells,k,show j<cur.size by omega]
 .rw[YF oM,UT oM]):Q:=h
theorem AP(cur:Array aB)(ts:List aB)(h:ts.length<=cur.size):(putCells id 0 ts.toArray cur).toList.take ts.length=ts:=by
 exact pJ
theorem It:∀args w,(callFunc 152 args).run prog w=.ok (.enter 152 args) w:=enters_of func152 oK rfl
theorem Nj(blk off size:Nat)(w:Ur):CmpLays prog 152 #[] kCells 2 eR blk off size w:=λm os dk _ x y=>
 (Oi x y _).mono λe w' ⟨he,hb⟩=>⟨he,hb.grown⟩
theorem xA{Q:Prop}(h:Q:=by
 simp only[YA]at u;refine u.mono ?_;rintro e w'⟨rfl,d',n,Z,h,Q,rfl⟩;have j:d'.size=ss.length:=oU h.1;have O:d'.toList.Perm ss:=by
  have:=h.2.2;have k:d'.extract 0 ss.length=d':=j▸oP;have r:ss.toArray.extract 0 ss.length=ss.toArray:=oP;rw[k,r]at this;simpa using this
 refine⟨rfl,d'.toList,O,by simpa[j]using Q,⟨by rw[kRow_len];simp[j],.inr ⟨blk,cap,_,rfl,E,BL _ m,i,b,by simp[putCells,p],?_⟩⟩,BM _⟩;have g:flatK kCells 2 d'=(kRow d'.toList).toArray:=by
  have:=AL d'.toList;simp only[YX]at this;rw[<-this]
 rw[g];have:=AP z (kRow d'.toList) (by rw[kRow_len];simp[j];omega);rw[kRow_len]at this;simpa[j]using this):Q:=h
theorem sortFuncK(B blk cap:Nat)(ss:List Ky)(w:Ur)(ho:w.ownsRow B 175 2 (Uf (Uc blk) ss.length cap) ss.length (kRow ss))(hsz:ss.length<=1048576):
  Cl 180 #[Uf (Uc blk) ss.length cap,.func (.func 152) #[] #[]] w λe w'=>e=Ui (Ul #[])/\∃ts:List Ky,ts.Perm ss/\SortedIn (ltOf eR) 0 ts.length ts.toArray/\w'.ownsRow B 175 2 (Uf (Uc blk) ss.length cap) ss.length (kRow ts)/\w.grownBy w' (Uq blk):=by
 rcases ho.2 with⟨o,_⟩|⟨Y,V,z,q,E,m,i,b,p,s⟩
 .cases o
 cases q;have M:blk<w.1.size:=(Array.getElem?_eq_some_iff.1 m).1;have A:HoldsK kCells 2 w blk 0 ss.toArray:=by
  intro t U;have y:t<ss.length*2:=oU U;refine⟨?_,by simp[Yt,m]⟩;have k:(z.toList.take (ss.length*2))[t]? =(kRow ss)[t]? :=by rw[s]
  rw[VV y,kRow_get ss t y]at k;have r:=get_flatK kCells 2 ss.toArray t<|oU y;rw[r];simp only[Vx,m,UA,Option.isSome_none,Bool.false_eq_true,if_false];rw[<-YU,k];rfl
 have u:=AnyQ.slices_SortFunc Tryz.sortK 2 Tryz.isAgg175 Tryz.sizeOf175 kCells Ab (λx v q=>by simp[kCells]at q;rcases q with rfl|rfl<;>rfl) eR bH.key.swo 152 #[] blk 0 cap ss.toArray w It (Nj blk 0 _ w) A M oS;change Cl 180 _ _ _ at u;exact xA
theorem BI(h:ts.Nodup)(hs:SortedIn (ltOf eR) 0 ts.length ts.toArray):ts.Pairwise (λx y=>eR x y<0):=by
 have:=bH.key.rises (d:=ts.toArray) (oU hs) (oU h);simpa using this
theorem wS{Q:Prop}(h:Q:=by have m:=aC (sortFuncK w.1.size Z cap b w1 q oM);have r:=aC t;have u:=aC h;have O:aA (b.length<=1048576):=aC oM;have Y:=aC G;clear t h q o H;go_wp2_with fail;refine m.mono ?_;rintro e K⟨rfl,j,A,E,s,p⟩;have Q:=aC s;have M:=aC (r.grown p r.size (λk e=>by injection e with e;have:=Y.out;omega));have z:=aC A;have V:=aC E;clear s p A E m;go_wp2_with fail;go_ret;refine⟨_,j,rfl,BI (z.nodup_iff.2 u.1) V,λx=>by rw[z.mem_iff];exact u.2 x,by rw[z.length_eq];exact O,?_,M⟩;rw[z.length_eq];exact Q):Q:=h
theorem vS{Q:Prop}(h:Q:=by have m:=aC i;clear t h q o i;go_wp2_with fail;refine m.mono ?_;rintro e K⟨rfl,rfl⟩;clear m;go_wp2_with fail;go_ret;exact⟨_,[],rfl,List.Pairwise.nil,λx=>u.2 x,oP,U,r⟩):Q:=h
theorem Om(g:Nat)(lb:Array aB)(eg:∀args w,(callFunc g args).run prog w=.ok (.enter g args) w)(N:Nat)(f:Ky->Option (Nat×Nat))(w:Ur)(hN:N<=1048576)(hseq:SeqGives Fence.wide 4 prog g lb aP (iM f) N w):
  Cl 150 #[.func (.func g) #[] lb,.func (.func 152) #[] #[]] w λe w'=>∃(v:aB) (j:List Ky),e=Ui v/\j.Pairwise (λx y=>eR x y<0)/\(∀x,x∈j↔f x≠Up)/\j.length<=1048576/\w'.ownsRow w.1.size 175 2 v j.length (kRow j)/\Bl w w':=by
 have o:=aC<|collectK g lb eg _ N oL oM w (SeqGives.bounded hseq);go_enter func150,ntmps150;go_wp2_with fail;refine o.mono ?_;rintro e w1⟨v,b,rfl,⟨h,B⟩,q,H,t⟩;rcases q.2 with⟨rfl,J⟩|⟨Z,cap,L,rfl,G,X,r1,r2,C,D⟩
 .have I:b=[]:=UO J;subst I;have r:=aC t;have u:=aC h;have U:=aC q;have i:=AnyF.slices_SortFunc_none Tryz.sortK Up 0 (.func (.func 152) #[] #[]) w1;change Cl 180 _ _ _ at i;exact vS
 .exact wS
theorem vP{Q:Prop}(h:Q:=by gi_wp2;refine wpIn_loop_rounds 1 ?_;rw[roundsIn_succ];gi_wp2;go_end0;exact⟨⟨_,rfl⟩,[],⟨VU,λx=>oP⟩,hJ [] W _ Up h0 (VA W _ Up) (λr e=>by cases e)⟩):Q:=h
theorem keysNilK(n l Bm:Nat)(J:List Ky->Ur->Prop)(W:Ur)(hJ:AbidesFrom W.1.size J)(hm:W.cell? (Ub Bm)=Uq (.map Up))(h0:J [] W):
  CallsIn Fence.wide n prog 181 #[.func (.yield l) #[] #[],Uk (Uc Bm)] W λe W'=>(∃v,e=Ui v)/\∃ss:List Ky,iM (λ_=>(Up:Option (Nat×Nat))) ss/\J ss W':=by
 have k:=run_range_nilMap (P:=prog) W 104 175 107 underlying104;have j:∀ty,(Instr.next (Uk (Uc W.1.size)) false ty).run prog (W.alloc (.mapIter Up 0 #[] 0))=_:=λty=>run_next_nilMap _ ty 0 0 #[];refine callsIn_of_wp func181 rfl trivial ?_ rfl;simp only[ntmps181,YA,UP,YB,YL,YM,YS,YT,YC,YD,Yj,VX];exact vP
theorem keysFnK(mb:Option Nat)(w:Ur):Cl 151 #[.map mb] w λe w'=>e=Ui (.func (.func 181) #[] #[Uk (Uc w.1.size)])/\w'=w.alloc (Uj #[.map mb] 104):=by
 go_enter func151,ntmps151;go_wp2_with fail;go_ret;exact⟨rfl,rfl⟩
def yD(N:List Ky->Option (Nat×Nat))(p:List Ky)(y:Ky):Option (Nat×Nat):=N (p++[y])
theorem Oe(B c:Nat)(N:List Ky->Option (Nat×Nat))(M:List Ky->Dt->Option ByteArray)(p:List Ky)(w:Ur)(hT:bB w B N M c)(hc:c<=1048576):
  Cl 107 #[Uo #[.map (mF (N p)),.map (mS (N p))]] w λe w'=>∃(v:aB) (j:List Ky),e=Ui v/\j.Pairwise (λx y=>eR x y<0)/\(∀x,x∈j↔yD N p x≠Up)/\j.length<=1048576/\w'.ownsRow w.1.size 175 2 v j.length (kRow j)/\Bl w w':=by
 have⟨m,h⟩:=zE (mF (N p));have⟨K,I⟩:=zE (mS (N p));rw[h,I];have s:aA (∀w1,Bl w w1->∀Bm,Bm<w1.1.size->w1.cell? (Ub Bm)=Uq (.map m)->∃n,n<=1048576/\SeqGives Fence.wide 4 prog 181 #[Uk (Uc Bm)] aP (iM (yD N p)) n w1):=aC (λw1 z Bm hBm k=>by
  cases e:N p with
  |some x=>
   have⟨D,U⟩:=(hT.bw z).kids p x e;have:m=Uq x.1:=(by rw[<-h,e];rfl);rw[this]at k;exact⟨Maps.size D,Uz U.own.size_le hc,keysGivesK Bm x.1 c _ D w1 hBm k U⟩
  |none=>
   have:m=Up:=(by rw[<-h,e];rfl);rw[this]at k;refine⟨0,oM,λl J W q hJ hY h0=>?_⟩;have P:yD N p=λ_=>Up:=funext λy=>hT.up p y e;rw[P];exact keysNilK 4 l Bm J W hJ ((q.cell (p:=(Ub Bm)) hBm).trans k) h0)
 have⟨W,q⟩:=zE (w.alloc (Uj #[.map m,.map K] 107));have O:Bl w W:=q▸zO _ _;have E:aD W w.1.size (.map m) (.map K):=q▸aD.made _ _ _ _;have T:=E.c0;have b:=aC O;clear hT O E h I;go_enter func107,ntmps107;go_wp2_with fail;clear q;refine(keysFnK m W).mono ?_;rintro e w1⟨rfl,t⟩;have z:Bl W w1:=by rw[t];exact zO _ _
 have Q:w1.cell? (Ub W.1.size)=Uq (.map m):=by rw[t];simp
 have L:W.1.size<w1.1.size:=by rw[t];simp
 have u:=aC (b.trans (z.mono b.size));have⟨n,S,H⟩:=s w1 u W.1.size L Q;have A:=aC (Om _ _ (enters_of func181 oK rfl) n (yD N p) w1 S H);clear H t z Q L T s;go_wp2_with fail;refine A.mono ?_;rintro e w2⟨v,j,rfl,G,k,Y,Z,V⟩;have o:=aC (And.intro G (And.intro k Y));have X:=aC (u.trans (V.mono u.size));have C:aA (w2.ownsRow w.1.size 175 2 v j.length (kRow j)):=aC (by
  have⟨q1,i⟩:=Z;refine⟨q1,?_⟩;rcases i with i|⟨g,cap,F,e,R,r⟩
  .exact .inl i
  .exact .inr ⟨g,cap,F,e,Uz u.size R,r⟩)
 clear G k Y Z V A;go_wp2_with fail;go_ret;exact⟨v,j,rfl,o.1,o.2.1,o.2.2,C,X⟩
end Go.Proofs.YtnabjmnfhkcnjaaGreatDoor
namespace Go.Proofs.YtnabjmnfhkcnjaaGreatDoor.Ds
open Go.ChangeShapes Go.WideShapes Go.ChangeAt Go.RowKit Go.Maps Go.Sort Go.Lib Go.Shelf Go.Proofs.Tryz
open Go.Value renaming slice->Uf,int->Ug,pointer->Uk,tuple->Ul,string->Um,bool->Un,agg->Uo
open Go.IntKind renaming i64->Uh
open Go.Ending renaming returned->Ui
open Go.Obj renaming cells->Uj
open Option renaming none->Up,some->Uq
open Go.RowKit renaming Hid->aA
open Go renaming World->Ur,Addr->Us,Value->aB
open List renaming length_append->UM,length_singleton->Yc,length_cons->UP,getD->UL,map_cons->UQ,append_nil->VO,getElem?_eq_none->UT,flatMap_cons->VP,append_assoc->Ve,take_length->Vj,drop_length->Yw,take_append_drop->Yx,flatMap_append->Yh,prefix_refl->Ya,range->Vb,flatMap_map->Yy,range_succ->Yd,sum_cons->Yg,length_range->Yz,flatMap_nil->Yi,take_add_one->Vc,size_toArray->YA,length_nil->YB,push_toArray->YC,append_toArray->YD,nil_append->Yj,cons_append->VX,ext_getElem?->YE,getElem?_take_of_lt->VV,getElem?_take_eq_none->YF,eq_nil_of_length_eq_zero->UO,nodup_nil->VU,getElem?_map->Yq,mem_of_getElem?->YG,length_take->Vk,length_filter_le->YH,dropLast_concat_getLast->YI
open Nat renaming le_refl->Ux,eq_zero_or_pos->Uy,zero_le->UB,lt_of_lt_of_le->Ut,zero_add->UA,le_trans->Uz,le_succ->UD,add_zero->YJ,mul_le_mul->YK,reduceAdd->YL,reduceSub->YM,le_of_lt->YN,add_assoc->UF,mul_le_mul_right->UH
open Go.World renaming ownsRow_lit->Vo,frozen?_of_block->Vz,setCell->Vr,cell?_of_block->Vy,grownBy_alloc->VA,putObj_heap_other->YO,putObj_heap_same->YP,alloc_heap_new->YQ,size_alloc->YR,frozen?->Yt,cell?->Vx,ownsRow_nil->Vw
open Int renaming natCast_nonneg->VH
open _root_.Array renaming replicate_succ->YS,replicate_zero->YT,getElem?_toList->YU,getElem?_eq_getElem->YV,getElem?_modify->YW,toArray_toList->YX
open Option renaming map_eq_some_iff->Yv,isSome->YY
variable {B b bd bm bm' c cap d g hi i k lo lo' m n off:Nat}{F R T:Nat->Int}{J l:List Lf}{L:Int->List (Int×Int)}{P:Program}{a x:Option Us}{body v v0 v1 v2:aB}{cur:Array aB}{e t:TypeId}{fr x0 y0 z0:Nat×Nat}{mo:Option Nat}{ns zs:List Int}{p:List ByteArray}{ts:List Ky}{ul:List Rn}{w w' w1 wr:Ur}{y:Ky}
theorem Mi(n l Bm b nn:Nat)(f:Dt->Option ByteArray)(D0:DataW aB)(J:List Dt->Ur->Prop)(hn:1<=n)
  (hY:∀pre x W,J pre W->pre.length<Maps.size D0->YieldAt Fence.wide (n-1) prog l #[aX x] W λe W'=>e=Ui (Un true)/\J (pre++[x]) W'/\KeepsWalks W W')
  (W:Ur) (hJ:AbidesFrom W.1.size J) (hm:W.cell? (Ub Bm)=Uq (.map (Uq b))) (hF:FM W 99 aX cH b nn f D0) (h0:J [] W):
  CallsIn Fence.wide n prog 199 #[.func (.yield l) #[] #[],Uk (Uc Bm)] W λe W'=>(∃v,e=Ui v)/\∃j,iM f j/\J j W':=by
 have P:=hF.own;have y:=aC hF;have z:=aC hJ;have V:=aC hY;clear hF hJ hY;refine callsIn_of_wp func199 rfl trivial ?_ rfl;simp only[ntmps199,YA,UP,YB,YL,YM,YS,YT,YC,YD,Yj,VX];gi_wp2_with (first
  | (gi_at_range;refine wpListIn_range_own _ rfl _ 105 rfl 99 161 gX underlying105 _ b nn _ rfl P ?_;intro w0 R L He)
  |gi_in)
 try go_frame
 gi_loopw [3] (λ_ wr=>∃(t:Lit->Bool) (h:Nat) (j:List Dt),wr.ranges prog 99 jR b W.1.size nn D0 t h/\j.length+h<=Maps.size D0/\kR 99 aX f t j/\J j wr)
  (λ_ wr=>wr.rangeLeft b W.1.size)
 case atStart=>exact⟨_,_,[],R,oP,kR.start y,z [] W w0 Up h0 L (λr e=>by cases e)⟩
 case round=>
  have⟨t,h,j,g,O,A,E⟩:=hrel;have i:=aC A;have p:=aC O;clear A O;gi_wp2_with (first
   | (gi_at_next;refine wpListIn_next_ranges _ rfl _ rfl 99 gX jR aX id (λkey kl hk=>Ze hk) (λv _ _=>⟨v,rfl⟩) b W.1.size nn _ _ _ rfl g ?_ ?_)
   |gi_in)
  .intro Hd C;gi_wp2;go_end0;exact⟨⟨_,rfl⟩,j,i.done y C,E⟩
  .intro q m c kl yd yp k Y B D hv I S F N T K;have Z:J j k:=z j wr k (Uq W.1.size) E N (λr e=>by cases e;exact⟨Ux _,g.iter_walk⟩);generalize u:k.alloc (Uj #[Ud q,Ud m] 99)=o;have G:J j o:=(by rw[<-u];exact z j k _ Up Z (VA k _ Up) (λr e=>by cases e));have⟨fn,Hc,Ha,Hb,hy,M⟩:=V j (q,m) o G (oH p);have s:aD o k.1.size (Ud q) (Ud m):=u▸aD.made _ _ _ _;have Q:=S.alloc<|Uj #[Ud q,Ud m] 99;rw[u]at Q;have⟨q0,q1⟩:=s.q2;clear T s;dsimp only[aX,iE]at K hy M⊢;gi_wp2;refine M.mono ?_;rintro e W3⟨rfl,H,X⟩;gi_wp2;have U:=Q.of_walks X;go_roundw;case rel=>exact⟨_,Y,j++[(q,m)],U,by have:=p.out;simp;omega,i.step y gX (λ_ _=>sL) B D I,H⟩
   case measure=>rw[U.left_eq,g.left_eq];exact F
def kCells(x:Dt):List aB:=[Ud x.1,Ud x.2]
def kRow(ss:List Dt):List aB:=ss.flatMap kCells
theorem AT(ss:List Dt)(x:Dt):kRow (ss++[x])=kRow ss++kCells x:=by simp[kRow]
theorem infoDt:(prog.info? 99).map (λi=>(i.zero,i.size,i.bytes))=Uq (Uq (Uo #[Ud 0,Ud 0]),2,16):=oK
def rE:Code:=(Code.region 2 #[{dst:=Uq 5,op:=Op.alloc 99,type:=0,pos:= "iter.go:51",after:=#[],guard:=Up},{dst:=Up,op:=Op.store 99 (Operand.tmp 5) (Operand.tmp 7),type:=0,pos:= "iter.go:51",after:=#[{on:=0,ground:=Ground.data},{on:=0,ground:=Ground.phase}],guard:=Up}] false)
def rD:Code:=(Code.block 1 (Code.region 3 #[{dst:=Uq 8,op:=Op.load 222 (Operand.tmp 2),type:=222,pos:= "iter.go:52",after:=#[],guard:=Up},{dst:=Uq 9,op:=Op.load 99 (Operand.tmp 5),type:=99,pos:= "iter.go:52",after:=#[],guard:=Up},{dst:=Uq 10,op:=Op.buildSlice 222 1 #[(0,Operand.tmp 9)],type:=222,pos:= "iter.go:52",after:=#[{on:=1,ground:=Ground.data}],guard:=Up},{dst:=Uq 11,op:=Op.call {callee:=Callee.builtin Builtin.append,args:=#[Operand.tmp 8,Operand.tmp 10],argTypes:=#[222,222]},type:=222,pos:= "iter.go:52",after:=#[{on:=0,ground:=Ground.data},{on:=2,ground:=Ground.data}],guard:=Up},{dst:=Up,op:=Op.store 222 (Operand.tmp 2) (Operand.tmp 11),type:=0,pos:= "iter.go:52",after:=#[{on:=3,ground:=Ground.data},{on:=3,ground:=Ground.chain},{on:=0,ground:=Ground.phase},{on:=1,ground:=Ground.phase},{on:=2,ground:=Ground.phase},{on:=3,ground:=Ground.phase}],guard:=Up}] false))
def fH(fn:FuncId)(sv:aB)(Bs D:Nat)(st:LoopState):Loop:=
 {state:=st,pending:=Up,fn,tmps:=#[Ue,sv,Uk (Uc Bs),undef,Ue,undef,sv,undef,undef,undef,undef,undef,undef],params:=#[7],assign:=rE,body:=rD,defers:=D}
structure jS(w0:Ur)(fn:FuncId)(sv:aB)(Bs l D:Nat)(ss:List Dt)(W:Ur):Prop where
 box:∃v,W.1[Bs]? =Uq (Uj #[v] 222 (0,0))/\W.ownsRow w0.1.size 99 2 v ss.length (kRow ss)/\(v=Ue↔ss=[])
 L:W.1[l]? =Uq (.loop (fH fn sv Bs D .ready))
 K:W.1[D]? =Uq (.deferred (Uq []))
 bw:Bl w0 W
theorem uT(w0:Ur)(fn:FuncId)(sv:aB)(Bs l D B:Nat)(hB:w0.1.size<=B):AbidesFrom B (jS w0 fn sv Bs l D):=λs W W' row h hg hrow=>by
 have j:∀r,row=Uq r->∃o:Obj,W.1[r]? =Uq o/\o.isWalk=true:=λr e=>(hrow r e).2;have⟨v,m,u,q⟩:=h.box;exact⟨⟨v,(grownBy_keeps hg j m rfl).trans m,ownsRow_abides_a u hg j,q⟩,(grownBy_keeps hg j h.L rfl).trans h.L,(grownBy_keeps hg j h.K rfl).trans h.K,h.bw.grown hg h.bw.size (λk e=>Uz hB (hrow k e).1)⟩
theorem Dq(m:Nat)(w0:Ur)(fn:FuncId)(sv:aB)(Bs l D:Nat)(hBl:Bs≠l)(hDl:D≠l)(hDB:D≠Bs)(h0B:w0.1.size<=Bs)(h0l:w0.1.size<=l)
    (N:Nat) (hN:N<=maxLen) (hNb:N*16<=140737488355328) (ss:List Dt) (x:Dt) (W:Ur) (h:jS w0 fn sv Bs l D ss W) (hlen:ss.length<N):
    YieldAt Fence.wide m prog l #[aX x] W λe W'=>e=Ui (Un true)/\jS w0 fn sv Bs l D (ss++[x]) W'/\KeepsWalks W W':=by
  have Hj:222≠99:=oD;have⟨i0,hi,Ht,Hu,Hv⟩:=info_parts infoDt;refine⟨fn,#[Ue,sv,Uk (Uc Bs),undef,Ue,undef,sv,aX x,undef,undef,undef,undef,undef],rE,rD,by simpa[fH]using run_yield (P:=prog) (args:=#[aX x]) h.L rfl,roundIn_of_wpIn trivial ?_⟩;have⟨s,p⟩:=x;have⟨g,X⟩:=zE (W.alloc (Uj #[Ud s,Ud p] 99));have u:jS w0 fn sv Bs l D ss g:=by rw[<-X];exact uT w0 fn sv Bs l D w0.1.size zL ss W _ Up h (VA W _ Up) (λr e=>by cases e)
  have Hi:KeepsWalks W g:=X▸KeepsWalks.alloc _ _;have E:aD g W.1.size (Ud s) (Ud p):=X▸aD.made _ _ _ _;have H0:l<W.1.size:=(Array.getElem?_eq_some_iff.1 h.L).1;have⟨v,hv,C,_⟩:=u.box;have hl:l<g.1.size:=(Array.getElem?_eq_some_iff.1 u.L).1;have Hm:=run_beginRound (P:=prog) u.L rfl;obtain⟨q,i⟩:∃q,g.putObj l (.loop {fH fn sv Bs D .ready with state:=.busy})=q:=⟨_,rfl⟩;rw[i]at Hm;have U:g.grownBy q (Uq l):=i▸grownBy_putObj_a _ _ _;have Ho:KeepsWalks W q:=Hi.trans<|i▸KeepsWalks.putObj _ u.L rfl;have Z:q.1[Bs]? =Uq (Uj #[v] 222 (0,0)):=i▸(YO hBl).trans hv;have I:q.1[D]? =Uq (.deferred (Uq [])):=i▸(YO hDl).trans u.K;have J:q.1[l]? =Uq (.loop {fH fn sv Bs D .ready with state:=.busy}):=i▸YP hl;have F:q.ownsRow w0.1.size 99 2 v ss.length (kRow ss):=C.kept U (ownsRow_ne_a C u.L (λcur e=>by cases e));have Q:Bl w0 q:=u.bw.grown U u.bw.size (λk e=>by cases e;exact h0l);have H:q.1[W.1.size]? =g.1[W.1.size]? :=U.block _ E.lt<|λe=>oI e;have q0:q.cell? (Ub W.1.size)=Uq (Ud s):=(Vy (a:=(Ub W.1.size)) H).trans E.c0;have q1:q.cell? (Ua W.1.size 1)=Uq (Ud p):=(Vy (a:=(Ua W.1.size 1)) H).trans E.c1;have⟨Hw,Hy⟩:=cell_of_box_a Z;have Hb:Bs<q.1.size:=(Array.getElem?_eq_some_iff.1 Z).1;have Hq:l<q.1.size:=(Array.getElem?_eq_some_iff.1 J).1;have Hc:D<q.1.size:=(Array.getElem?_eq_some_iff.1 I).1;have ne_of:∀{j:Nat}{o:Obj},q.1[j]? =Uq o->(∀cur,o≠.cells cur 99 (0,0))->Uq j≠v.ownBlock:=λhj hno=>by
    rcases ownsRow_ne_a F hj hno with e|e
    · rw[e];simp
    · exact λe'=>e e'.symm
  have G:=aC F;have HZ:=aC Q.size;unfold rE;dsimp only[aX,iE];gi_wp2_with gi_round_op_a;unfold rD;gi_wp2_with (first
    | (gi_at_builtin;refine wpListIn_append_own _ rfl _ _ 222 rfl w0.1.size 99 i0 (Uo #[Ud 0,Ud 0]) 2 16 underlying222 hi Ht Hu Hv rfl oD _ _ _ rfl (G.alloc _) (Ub q.1.size) 1 1 [Ud s,Ud p] rfl rfl (cell_two_new _ _ _ _) (by simp[Value.oneCell']) oM oM (by have:=HZ.out;simp;omega) ?_;intro v' y B Hh Hk
       have R:y.1[Bs]? =Uq (Uj #[v] 222 (0,0)):=(Hh.block Bs oS (ne_of Z (λcur e=>Hj (Obj.cells.inj e).2.1))).trans<|(Below.heap_alloc _ _ Bs Hb).trans Z
       have⟨Hx,Hz⟩:=cell_of_box_a R
       obtain⟨b,t,M,rfl,Hd,Hn,H1,H2,H3,H4⟩:∃b t M,v'=Uf (Uc b) (ss.length+1) t/\w0.1.size<=b/\y.1[b]? =Uq (.cells M 99 (0,0))/\ss.length+1<=t/\t<=maxLen/\M.size=t*2/\M.toList.take ((ss.length+1)*2)=kRow ss++[Ud s,Ud p]:=by
         rcases B.2 with⟨_,h0⟩|h'
         · exact absurd h0 oM
         · exact h'
       have S:=aC B
       try go_frame)
    |gi_round_op_a)
  have V:(q.alloc (Uj #[Ud s,Ud p] 99)).grownBy y v.ownBlock:=Hh;have He:y.1[l]? =Uq (.loop {fH fn sv Bs D .ready with state:=.busy}):=(V.block l oS (ne_of J (λcur e=>by cases e))).trans<|(Below.heap_alloc _ _ l Hq).trans J;have T:y.1[D]? =Uq (.deferred (Uq [])):=(V.block D oS (ne_of I (λcur e=>by cases e))).trans<|(Below.heap_alloc _ _ D Hc).trans I;have⟨z,A⟩:=zE (y.setCell (Ub Bs) (Uf (Uc b) (ss.length+1) t));rw[A];have Y:y.grownBy z (Uq Bs):=A▸grownBy_setCell0_a _ _ _;have Hs:z.1[Bs]? =Uq (Uj #[Uf (Uc b) (ss.length+1) t] 222 (0,0)):=A▸heap_setCell_box_a _ R;exact xS
theorem Ob(n:Nat)(hn:2<=n)(g:Nat)(lb:Array aB)(eg:∀args w,(callFunc g args).run prog w=.ok (.enter g args) w)
  (S:List Dt->Prop) (N:Nat) (hN:N<=maxLen) (hNb:N*16<=140737488355328) (w:Ur) (hseq:SeqGives Fence.wide (n-1) prog g lb aX S N w):
  CallsIn Fence.wide n prog 222 #[Ue,.func (.func g) #[] lb] w λe w'=>∃(v:aB) (y:List Dt),e=Ui v/\S y/\w'.ownsRow w.1.size 99 2 v y.length (kRow y)/\(v=Ue↔y=[])/\Bl w w':=by
 refine callsIn_of_wp_marks func222 rfl trivial ?_ rfl;simp only[ntmps222,YA,UP,YB,YL,YM,YS,YT,YC,YD,Yj,VX];gi_wp2;refine wpIn_rangeFunc ?_;intro r D;have⟨j,t⟩:=zE (w.alloc (Uj #[Ue] 222));have G:j.1.size=w.1.size+1:=t▸oP;have I:j.1[w.1.size]? =Uq (Uj #[Ue] 222 (0,0)):=t▸YQ w _;have o:Bl w j:=t▸(RowKit.Below.refl _ w).alloc zL _;rw[t];have⟨m,z⟩:=zE ((j.alloc (.deferred (Uq []))).alloc (.loop (fH r (.func (.func g) #[] lb) w.1.size j.1.size .ready)));have Z:∀k,k<j.1.size->m.1[k]? =j.1[k]? :=λk hk=>by
  rw[<-z];exact(Below.heap_alloc _ _ k oS).trans (Below.heap_alloc _ _ k hk)
 have i:Bl w m:=by rw[<-z];exact(o.alloc o.size _).alloc (by have:=o.size;simp;omega) _
 have U:jS w r (.func (.func g) #[] lb) w.1.size (j.1.size+1) j.1.size [] m:=
  ⟨⟨_,(Z w.1.size oM).trans I,⟨rfl,.inl ⟨rfl,rfl⟩⟩,oP⟩,
   by rw[<-z];have:=YQ (j.alloc (.deferred (Uq []))) (.loop (fH r (.func (.func g) #[] lb) w.1.size j.1.size .ready));rwa [YR]at this,
   by rw[<-z];exact(Below.heap_alloc _ _ _ oP).trans (YQ j _),i⟩
 refine⟨j.1.size+1,[{target:=.collected j.1.size,args:=#[]}],m,{target:=.fn (.func g) lb,args:=#[.func (.yield (j.1.size+1)) #[] #[]]},m,g,
  #[.func (.yield (j.1.size+1)) #[] #[]]++lb,m,?_,?_,?_,?_,λ_=>oM,?_⟩
 .rw[<-z];exact run_enterLoop_outer _ _ _ _ _
 .simp[resolve,go_sem]
 .intro f' B;trivial
 .simp[invoke,go_sem,eg]
 .refine(hseq (j.1.size+1) (jS w r (.func (.func g) #[] lb) w.1.size (j.1.size+1) j.1.size) m i (uT _ _ _ _ _ _ _ i.size)
   (λpre x W hJ hl=>Dq (n-1-1) w r _ w.1.size (j.1.size+1) j.1.size oM oM oM zL oM N hN hNb pre x W hJ hl) U).mono ?_
  rintro e s⟨⟨R,rfl⟩,y,V,u⟩;have⟨v,H,b,Y⟩:=u.box;have M:=run_endLoop (P:=prog) u.L (by simp[fH]);obtain⟨q,h⟩:∃q,s.putObj (j.1.size+1) (.loop {fH r (.func (.func g) #[] lb) w.1.size j.1.size .ready with state:=.exhausted})=q:=⟨_,rfl⟩;rw[h]at M;have O:s.grownBy q (Uq (j.1.size+1)):=h▸grownBy_putObj_a _ _ _;have J:q.1[w.1.size]? =Uq (Uj #[v] 222 (0,0)):=h▸(YO oM).trans H;exact wV
theorem collectK(g:Nat)(lb:Array aB)(eg:∀args w,(callFunc g args).run prog w=.ok (.enter g args) w)
  (S:List Dt->Prop) (N:Nat) (hN:N<=maxLen) (hNb:N*16<=140737488355328) (w:Ur) (hseq:SeqGives Fence.wide 4 prog g lb aX S N w):
  Cl 197 #[.func (.func g) #[] lb] w λe w'=>∃(v:aB) (j:List Dt),e=Ui v/\S j/\w'.ownsRow w.1.size 99 2 v j.length (kRow j)/\(v=Ue↔j=[])/\Bl w w':=by
 have m:=aC<|(callsIn_wide (n:=5)).1 (Ob 5 oM g lb eg S N hN hNb w hseq);go_enter func197,ntmps197;exact qW
theorem keysGivesK(Bm b nn:Nat)(f:Dt->Option ByteArray)(D0:DataW aB)(w:Ur)(hBm:Bm<w.1.size)(hm:w.cell? (Ub Bm)=Uq (.map (Uq b)))(hF:FM w 99 aX cH b nn f D0):
  SeqGives Fence.wide 4 prog 199 #[Uk (Uc Bm)] aX (iM f) (Maps.size D0) w:=λl J W hW hJ hY h0=>by
 have j:FM W 99 aX cH b nn f D0:=⟨sH hF.own (hW.block b hF.own.lt),hF.at',hF.cov,hF.ok⟩;exact Mi 4 l Bm b nn f D0 J oM hY W hJ ((hW.cell (p:=(Ub Bm)) hBm).trans hm) j h0
theorem Oi(x y:Dt)(w:Ur):Cl 144 #[Uo #[Ud x.1,Ud x.2],Uo #[Ud y.1,Ud y.2]] w λe w'=>e=Ui (Ud (fG x y))/\Bw w w':=by
 have⟨s,k⟩:=x;have⟨q,m⟩:=y;dsimp only;generalize u:(w.alloc (Uj #[Ud s,Ud k] 99)).alloc (Uj #[Ud q,Ud m] 99)=W;have b:Bw w W:=by rw[<-u];exact⟨aU _ _ _,Ux _⟩
 have t:aD W w.1.size (Ud s) (Ud k):=u▸(aD.made w _ _ _).allocs _;have o:aD W (w.1.size+1) (Ud q) (Ud m):=by rw[<-u];simpa using aD.made (w.alloc (Uj #[Ud s,Ud k] 99)) (Ud q) (Ud m) 99
 have v:=aC b;have h:=aC t;have g:=aC o;go_enter func144,ntmps144;go_wp2_with fail;have z:aA (∀w',Bw W w'->(Bw W w'/\w'.cell? (Ub w.1.size)=Uq (Ud s)/\w'.cell? (Ua w.1.size 1)=Uq (Ud k)/\w'.cell? (Ua (w.1.size+1) 0)=Uq (Ud q)/\w'.cell? (Ua (w.1.size+1) 1)=Uq (Ud m))):=aC (λw' r=>by
  have x0:=h.bw r.1 h.lt;have p:=g.bw r.1 g.lt;exact⟨r,x0.c0,x0.c1,p.c0,p.c1⟩)
 refine zA z ⟨zI.drew,UD _⟩<|λqh=>?_;refine tY 0 5 ?_;refine tY 2 7 ?_;refine tY 5 10 ?_;refine tY 7 12 ?_;refine cZ 4 ?_;intro K j;go_simp;refine(sG s q _).mono ?_;rintro e w1⟨rfl,rfl⟩;refine bZ j qh<|λqh=>?_;refine cZ 9 ?_;intro K j;go_simp;refine(sG k m _).mono ?_;rintro e E⟨rfl,rfl⟩;refine bZ j qh<|λqh=>?_;refine cZ 10 ?_;intro K j;go_simp;have r:Bw W (W.drew.alloc (Uj #[Ud (bN s q),Ud (bN k m)] 3)):=⟨qh.1.1.alloc qh.1.1.size _,qh.1.2⟩;refine bZ j (z _ r)<|λqh=>?_;refine cZ 11 ?_;intro K j;go_simp;refine(Br _ 2 2 (λi=>if i=0 then bN s q else bN k m) _ oM (λi hi=>?_)).mono ?_
 .match i,hi with
  |0,_=>simp
  |1,_=>simp
 rintro e M⟨rfl,rfl⟩;refine bZ j qh<|λqh=>?_;refine tZ 12 4 ?_;refine zD ?_;have A:aA (Bw w (W.drew.alloc (Uj #[Ud (bN s q),Ud (bN k m)] 3))):=aC ⟨v.1.trans (qh.1.1.mono v.1.size),Uz v.2 qh.1.2⟩;go_wp2_with fail;go_ret;exact⟨lA Eu,A⟩
theorem Ab(x:Dt):(kCells x).length=2:=rfl
theorem kRow_len(ss:List Dt):(kRow ss).length=ss.length*2:=by
 induction ss with
 |nil=>rfl
 |cons x r ih=>simp only[kRow,VP,UM,UP]at*;rw[ih,Ab];omega
theorem kRow_get:∀(ss:List Dt) (t:Nat),t<ss.length*2->(kRow ss)[t]? =Uq ((kCells ss.toArray[t/2]!)[t%2]!)
 |[],t,h=>by simp at h
 |x::r,t,h=>by
  rcases Nat.lt_or_ge t 2 with q|q
  .have:t=0\/t=1:=oM;rcases this with rfl|rfl<;>simp[kRow,kCells]
  .obtain⟨u,rfl⟩:∃u,t=u+2:=⟨t-2,oM⟩;have y:=kRow_get r u (by simp at h;omega);have j:(u+2)/2=u/2+1:=oM;have k:(u+2)%2=u%2:=oM;rw[j,k];have v:u/2<r.length:=(by simp at h;omega);have m:(x::r).toArray[u/2+1]! =r.toArray[u/2]! :=by
    rw[getElem!_pos _ _ oS,getElem!_pos _ _ (oU v)];simp
   rw[m,<-y];simp[kRow,kCells]
theorem AL(ss:List Dt):(flatK kCells 2 ss.toArray).toList=kRow ss:=by
 exact wC
theorem BL{os:Array Obj}(d:Array aB)(hb:w.1[g]? =Uq (.cells cur e fr)):
  (grow (putRow id (Sort.ahead w n) g 0 d) os).1[g]? =Uq (.cells (putCells id 0 d cur) e fr):=by
 exact vR
theorem BM{os:Array Obj}(d:Array aB):w.grownBy (grow (putRow id (Sort.ahead w n) g 0 d) os) (Uq g):=by
 exact vW
theorem AP(cur:Array aB)(ts:List aB)(h:ts.length<=cur.size):(putCells id 0 ts.toArray cur).toList.take ts.length=ts:=by
 exact pJ
theorem It:∀args w,(callFunc 144 args).run prog w=.ok (.enter 144 args) w:=enters_of func144 oK rfl
theorem Nj(blk off size:Nat)(w:Ur):CmpLays prog 144 #[] kCells 2 fG blk off size w:=λm os dk _ x y=>
 (Oi x y _).mono λe w' ⟨he,hb⟩=>⟨he,hb.grown⟩
theorem sortFuncK(B blk cap:Nat)(ss:List Dt)(w:Ur)(ho:w.ownsRow B 99 2 (Uf (Uc blk) ss.length cap) ss.length (kRow ss))(hsz:ss.length<=1048576):
  Cl 198 #[Uf (Uc blk) ss.length cap,.func (.func 144) #[] #[]] w λe w'=>e=Ui (Ul #[])/\∃ts:List Dt,ts.Perm ss/\SortedIn (ltOf fG) 0 ts.length ts.toArray/\w'.ownsRow B 99 2 (Uf (Uc blk) ss.length cap) ss.length (kRow ts)/\w.grownBy w' (Uq blk):=by
 rcases ho.2 with⟨o,_⟩|⟨Y,V,z,q,E,m,i,b,p,s⟩
 .cases o
 cases q;have M:blk<w.1.size:=(Array.getElem?_eq_some_iff.1 m).1;have A:HoldsK kCells 2 w blk 0 ss.toArray:=by
  intro t U;have y:t<ss.length*2:=oU U;refine⟨?_,by simp[Yt,m]⟩;have k:(z.toList.take (ss.length*2))[t]? =(kRow ss)[t]? :=by rw[s]
  rw[VV y,kRow_get ss t y]at k;have r:=get_flatK kCells 2 ss.toArray t<|oU y;rw[r];simp only[Vx,m,UA,Option.isSome_none,Bool.false_eq_true,if_false];rw[<-YU,k];rfl
 have u:=AnyQ.slices_SortFunc Tryz.sortD 2 Tryz.isAgg99 Tryz.sizeOf99 kCells Ab (λx v q=>by simp[kCells]at q;rcases q with rfl|rfl<;>rfl) fG bH.dot.swo 144 #[] blk 0 cap ss.toArray w It (Nj blk 0 _ w) A M oS;change Cl 198 _ _ _ at u;exact xA
theorem BI{ts:List Dt}(h:ts.Nodup)(hs:SortedIn (ltOf fG) 0 ts.length ts.toArray):ts.Pairwise (λx y=>fG x y<0):=by
 have:=bH.dot.rises (d:=ts.toArray) (oU hs) (oU h);simpa using this
theorem Om(g:Nat)(lb:Array aB)(eg:∀args w,(callFunc g args).run prog w=.ok (.enter g args) w)(N:Nat)(f:Dt->Option ByteArray)(w:Ur)(hN:N<=1048576)(hseq:SeqGives Fence.wide 4 prog g lb aX (iM f) N w):
  Cl 174 #[.func (.func g) #[] lb,.func (.func 144) #[] #[]] w λe w'=>∃(v:aB) (j:List Dt),e=Ui v/\j.Pairwise (λx y=>fG x y<0)/\(∀x,x∈j↔f x≠Up)/\j.length<=1048576/\w'.ownsRow w.1.size 99 2 v j.length (kRow j)/\Bl w w':=by
 have o:=aC<|collectK g lb eg _ N oL oM w (SeqGives.bounded hseq);go_enter func174,ntmps174;go_wp2_with fail;refine o.mono ?_;rintro e w1⟨v,b,rfl,⟨h,B⟩,q,H,t⟩;rcases q.2 with⟨rfl,J⟩|⟨Z,cap,L,rfl,G,X,r1,r2,C,D⟩
 .have I:b=[]:=UO J;subst I;have r:=aC t;have u:=aC h;have U:=aC q;have i:=AnyF.slices_SortFunc_none Tryz.sortD Up 0 (.func (.func 144) #[] #[]) w1;change Cl 198 _ _ _ at i;exact vS
 .exact wS
theorem keysNilK(n l Bm:Nat)(J:List Dt->Ur->Prop)(W:Ur)(hJ:AbidesFrom W.1.size J)(hm:W.cell? (Ub Bm)=Uq (.map Up))(h0:J [] W):
  CallsIn Fence.wide n prog 199 #[.func (.yield l) #[] #[],Uk (Uc Bm)] W λe W'=>(∃v,e=Ui v)/\∃ss:List Dt,iM (λ_=>(Up:Option ByteArray)) ss/\J ss W':=by
 have k:=run_range_nilMap (P:=prog) W 105 99 161 underlying105;have j:∀ty,(Instr.next (Uk (Uc W.1.size)) false ty).run prog (W.alloc (.mapIter Up 0 #[] 0))=_:=λty=>run_next_nilMap _ ty 0 0 #[];refine callsIn_of_wp func199 rfl trivial ?_ rfl;simp only[ntmps199,YA,UP,YB,YL,YM,YS,YT,YC,YD,Yj,VX];exact vP
theorem keysFnK(mb:Option Nat)(w:Ur):Cl 175 #[.map mb] w λe w'=>e=Ui (.func (.func 199) #[] #[Uk (Uc w.1.size)])/\w'=w.alloc (Uj #[.map mb] 105):=by
 go_enter func175,ntmps175;go_wp2_with fail;go_ret;exact⟨rfl,rfl⟩
theorem sortedDotsC(B c:Nat)(N:List Ky->Option (Nat×Nat))(M:List Ky->Dt->Option ByteArray)(p:List Ky)(w:Ur)(hT:bB w B N M c)(hc:c<=1048576):
  Cl 140 #[Uo #[.map (mF (N p)),.map (mS (N p))]] w λe w'=>∃(v:aB) (j:List Dt),e=Ui v/\j.Pairwise (λx y=>fG x y<0)/\(∀x,x∈j↔M p x≠Up)/\j.length<=1048576/\w'.ownsRow w.1.size 99 2 v j.length (kRow j)/\Bl w w':=by
 have⟨K,I⟩:=zE (mF (N p));have⟨m,h⟩:=zE (mS (N p));rw[I,h];have A:aA (∀w1,Bl w w1->∀Bm,Bm<w1.1.size->w1.cell? (Ub Bm)=Uq (.map m)->∃n,n<=1048576/\SeqGives Fence.wide 4 prog 199 #[Uk (Uc Bm)] aX (iM (M p)) n w1):=aC (λw1 z Bm hBm k=>by
  cases e:N p with
  |some x=>
   have⟨D,U⟩:=(hT.bw z).marks p x e;have:m=Uq x.2:=(by rw[<-h,e];rfl);rw[this]at k;exact⟨Maps.size D,Uz U.own.size_le hc,keysGivesK Bm x.2 c _ D w1 hBm k U⟩
  |none=>
   have:m=Up:=(by rw[<-h,e];rfl);rw[this]at k;refine⟨0,oM,λl J W q hJ hY h0=>?_⟩;have P:M p=λ_=>Up:=funext λy=>by rw[hT.none' _ e]
   rw[P];exact keysNilK 4 l Bm J W hJ ((q.cell (p:=(Ub Bm)) hBm).trans k) h0)
 have⟨W,q⟩:=zE (w.alloc (Uj #[.map K,.map m] 107));have Q:Bl w W:=q▸zO _ _;have O:aD W w.1.size (.map K) (.map m):=q▸aD.made _ _ _ _;have T:=O.c1;have s:=aC Q;clear hT Q O I h;go_enter func140,ntmps140;go_wp2_with fail;clear q;refine(keysFnK m W).mono ?_;rintro e w1⟨rfl,t⟩;have z:Bl W w1:=by rw[t];exact zO _ _
 have i:w1.cell? (Ub W.1.size)=Uq (.map m):=by rw[t];simp
 have L:W.1.size<w1.1.size:=by rw[t];simp
 have u:=aC (s.trans (z.mono s.size));have⟨n,S,H⟩:=A w1 u W.1.size L i;have E:=aC (Om _ _ (enters_of func199 oK rfl) n (M p) w1 S H);clear H t z i L T A;go_wp2_with fail;refine E.mono ?_;rintro e w2⟨v,j,rfl,G,k,Y,Z,V⟩;have o:=aC (And.intro G (And.intro k Y));have X:=aC (u.trans (V.mono u.size));have C:aA (w2.ownsRow w.1.size 99 2 v j.length (kRow j)):=aC (by
  have⟨q1,b⟩:=Z;refine⟨q1,?_⟩;rcases b with b|⟨g,cap,F,e,R,r⟩
  .exact .inl b
  .exact .inr ⟨g,cap,F,e,Uz u.size R,r⟩)
 clear G k Y Z V E;go_wp2_with fail;go_ret;exact⟨v,j,rfl,o.1,o.2.1,o.2.2,C,X⟩
end Go.Proofs.YtnabjmnfhkcnjaaGreatDoor.Ds
namespace Go.Proofs.YtnabjmnfhkcnjaaGreatDoor
open Go.ChangeShapes Go.WideShapes Go.ChangeAt Go.RowKit Go.Proofs.Tryz
open Go.Value renaming slice->Uf,int->Ug,pointer->Uk,tuple->Ul,string->Um,bool->Un,agg->Uo
open Go.IntKind renaming i64->Uh
open Go.Ending renaming returned->Ui
open Go.Obj renaming cells->Uj
open Option renaming none->Up,some->Uq
open Go.RowKit renaming Hid->aA
open Go renaming World->Ur,Addr->Us,Value->aB
open List renaming length_append->UM,length_singleton->Yc,length_cons->UP,getD->UL,map_cons->UQ,append_nil->VO,getElem?_eq_none->UT,flatMap_cons->VP,append_assoc->Ve,take_length->Vj,drop_length->Yw,take_append_drop->Yx,flatMap_append->Yh,prefix_refl->Ya,range->Vb,flatMap_map->Yy,range_succ->Yd,sum_cons->Yg,length_range->Yz,flatMap_nil->Yi,take_add_one->Vc,size_toArray->YA,length_nil->YB,push_toArray->YC,append_toArray->YD,nil_append->Yj,cons_append->VX,ext_getElem?->YE,getElem?_take_of_lt->VV,getElem?_take_eq_none->YF,eq_nil_of_length_eq_zero->UO,nodup_nil->VU,getElem?_map->Yq,mem_of_getElem?->YG,length_take->Vk,length_filter_le->YH,dropLast_concat_getLast->YI
open Nat renaming le_refl->Ux,eq_zero_or_pos->Uy,zero_le->UB,lt_of_lt_of_le->Ut,zero_add->UA,le_trans->Uz,le_succ->UD,add_zero->YJ,mul_le_mul->YK,reduceAdd->YL,reduceSub->YM,le_of_lt->YN,add_assoc->UF,mul_le_mul_right->UH
open Go.World renaming ownsRow_lit->Vo,frozen?_of_block->Vz,setCell->Vr,cell?_of_block->Vy,grownBy_alloc->VA,putObj_heap_other->YO,putObj_heap_same->YP,alloc_heap_new->YQ,size_alloc->YR,frozen?->Yt,cell?->Vx,ownsRow_nil->Vw
open Int renaming natCast_nonneg->VH
open _root_.Array renaming replicate_succ->YS,replicate_zero->YT,getElem?_toList->YU,getElem?_eq_getElem->YV,getElem?_modify->YW,toArray_toList->YX
open Option renaming map_eq_some_iff->Yv,isSome->YY
variable {B b bd bm bm' c cap d g hi i k lo lo' m n off:Nat}{F R T:Nat->Int}{J l:List Lf}{L:Int->List (Int×Int)}{P:Program}{a x:Option Us}{body v v0 v1 v2:aB}{cur:Array aB}{e t:TypeId}{fr x0 y0 z0:Nat×Nat}{mo:Option Nat}{ns zs:List Int}{p:List ByteArray}{ts:List Ky}{ul:List Rn}{w w' w1 wr:Ur}{y:Ky}
theorem AO(B:Nat)(bv:aB)(zs0:List Int)(s:ByteArray)(w:Ur)(hs:s.size<=1048576)(hB:B<=w.1.size)(hl:zs0.length<=1000000000)(ho:Own w B bv zs0):
  Cl 109 #[bv,Um s] w λe w'=>∃v,e=Ui v/\Own w' B v (zs0++cM s)/\Gr w w' bv v/\w.1.size<w'.1.size:=by
 have p:=cF 9 s.size;go_enter func109,ntmps109;go_wp2_with fail;refine(oR B s.size bv zs0 w oM hB oM ho).mono ?_;rintro e w1⟨o,rfl,q,k,i⟩;have⟨u,y,m,r,j⟩:=FW B o _ s w1 q oM (by rw[UM];omega) hs;have R:Own y B u (zs0++cM s):=by unfold cM;rw[<-Ve];exact r
 have h:=aC R;have z:=aC<|k.trans j;have b:=j.g.size;have t:aA (w.1.size<y.1.size):=aC oM;go_wp2_with (at_builtin;refine cL rfl _ _ _ _ rfl m (by rfl) (by rfl) rfl ?_;clear m);go_ret;exact⟨u,rfl,h,z,t⟩
theorem wX{Q:Prop}(h:Q:=by
 rcases h.2 with⟨v,_⟩|⟨t,z,k,y,s,u,o,b,p,r⟩
 .cases v
 .cases y;intro i hi;have hi':i<ts.length:=oM;have q:ts.toArray[i]! =ts[i]:=by rw[getElem!_pos _ _ (oU hi')];simp
  refine⟨ts[i],by simp[hi'],?_,?_⟩
  .have j:(k.toList.take (m*2))[i*2]? =(Ds.kRow ts)[i*2]? :=(by rw[r]);rw[VV oM,Ds.kRow_get ts (i*2) oM]at j;rw[show i*2/2=i by omega,show i*2%2=0 by omega,q]at j;simp[Vx,u,<-YU,j,Ds.kCells]
  .have j:(k.toList.take (m*2))[i*2+1]? =(Ds.kRow ts)[i*2+1]? :=(by rw[r]);rw[VV oM,Ds.kRow_get ts (i*2+1) oM]at j;rw[show(i*2+1)/2=i by omega,show(i*2+1)%2=1 by omega,q]at j;simp[Vx,u,<-YU,j,Ds.kCells]):Q:=h
theorem LD{ts:List Dt}(h:w.ownsRow B 99 2 (Uf (Uc g) m cap) m (Ds.kRow ts))(hl:ts.length=m):∀i,i<m->∃d,ts[i]? =Uq d/\w.cell? (Ua g (i*2))=Uq (Ud d.1)/\w.cell? (Ua g (i*2+1))=Uq (Ud d.2):=by
 exact wX
theorem CG{ts:List Dt}(h:w.ownsRow B 99 2 v ts.length (Ds.kRow ts)):∃a cap,v=Uf a ts.length cap/\ts.length<=cap/\cap<=9223372036854775807/\(0<ts.length->∃g,a=Uq (Ub g)/\B<=g/\g<w.1.size/\∀i,i<ts.length->∃d,ts[i]? =Uq d/\w.cell? (Ua g (i*2))=Uq (Ud d.1)/\w.cell? (Ua g (i*2+1))=Uq (Ud d.2)):=by
 rcases h.2 with⟨rfl,j⟩|⟨g,cap,u,rfl,r,q,k,m,y,z⟩
 .exact⟨Up,0,by rw[j],oM,oM,λhh=>oM⟩
 .exact⟨_,cap,rfl,k,by unfold maxLen at m;omega,λ_=>⟨g,rfl,r,(Array.getElem?_eq_some_iff.1 q).1,LD h rfl⟩⟩
theorem XE(l:List Lf)(p:List ByteArray)(y:Ky)(w0:Ur)(Bt c:Nat)(N:List Ky->Option (Nat×Nat))(hT:bB w0 Bt N (Mk l l.length) c)(hc:c<=1048576)(hlv:dB R F T n l l.length)(hbd:nC l)(hy:y.2=1\/y.2=2)(bv:aB)(zs0:List Int)(w:Ur)(hb:Bl w0 w)(ho:Own w w0.1.size bv zs0)(hl:zs0.length<=100000000):
  Cl 110 #[Uo #[.map (mF (N (aG p 3++[y]))),.map (mS (N (aG p 3++[y])))],bv,Ud y.2] w λe w'=>∃v,e=Ui v/\Own w' w0.1.size v (zs0++mB (bF l p y l.length) y.2)/\Gr w w' bv v:=by
 have Hq:y.2≠3:=oM;have⟨ls,O⟩:=zE (bF l p y l.length);have⟨Y,hY⟩:=zE y.2;rw[O,hY];rw[hY]at hy;have⟨W,A⟩:=zE (w.alloc (Uj #[.map (mF (N (aG p 3++[y]))),.map (mS (N (aG p 3++[y])))] 107));have I:Bl w W:=A▸zO _ _;have H:aD W w.1.size (.map (mF (N (aG p 3++[y])))) (.map (mS (N (aG p 3++[y])))):=A▸aD.made _ _ _ _;have zW:W.1.size=w.1.size+1:=A▸oP;have Hl:Bl w0 W:=hb.trans (I.mono hb.size);have Hg:=aC (Ds.sortedDotsC Bt c N (Mk l l.length) (aG p 3++[y]) W (hT.bw Hl) hc);have⟨m0,Ho⟩:=zE (mF (N (aG p 3++[y])));have⟨m1,X⟩:=zE (mS (N (aG p 3++[y])));rw[Ho,X]at H Hg A;rw[Ho,X];have⟨k0,k1⟩:=H.q2;have HX:=aC H;have Gh:=aC I;have C:=aC Hl;have HO:=aC (Own.kept ho I (λk M=>(World.ownsRow.lt ho k M).2));have HT:=aC hT;have Go:=aC X;have G:aA (∀g,bv.ownBlock=Uq g->w0.1.size<=g/\g<w.1.size):=aC (λg hg=>World.ownsRow.lt ho g hg);go_enter func110,ntmps110;go_wp2_with fail;refine Hg.mono ?_;rintro e w1⟨vd,ts,rfl,Hd,He,Gu,Gb,o⟩;have L:=Zl hlv Hq Hd He;have P:aA (∀x∈ls,(0<=x.r/\x.r<8)/\(0<=x.q/\x.q<=1000000000)/\x.v.size<=200):=aC (λx hx=>by
  rw[<-O]at hx;obtain⟨j,hj,_,rfl⟩:=kT.1 hx;exact⟨hbd.rep j hj,hbd.seq j hj,hbd.val j hj⟩)
 have Gl:aA (∀x∈ls,∀w',Bl w0 w'->(Instr.lookup 105 (.map m1) (Uo #[Ud x.r,Ud x.q]) false).run prog w'=.ok (Uo #[Um x.v]) w'):=aC (λx hx w' hb'=>by
  have hv:=Zd Hq hbd.dis (by rw[O];exact hx);have T':=HT.bw hb';have hl:=P x hx;cases e:N (aG p 3++[y])with
  |none=>rw[T'.none' _ e]at hv;cases hv
  |some x1=>
   have hu:m1=Uq x1.2:=(by rw[<-Go.out,e];rfl);have⟨kl,Gs⟩:=rR (r:=x.r) (q:=x.q) (eX oM oM) (eX oM oM);have:=(T'.marks _ x1 e).look gX underlying105 (Mn w') (x:=(x.r,x.q)) Gs;rw[hv]at this;rw[hu];exact this)
 have Gt:ls.length<=1000:=by rw[<-O];have:=Iu l p y l.length;have:=hbd.len;omega
 rw[O]at L;have Gc:ts.length=ls.length:=by rw[L];simp
 obtain⟨da,dc,rfl,Hm,Gq,H7⟩:=CG Gb;have HD:aA (0<ls.length->∃g,da=Uq (Ub g)/\W.1.size<=g/\g<w1.1.size/\∀i,i<ls.length->∃x∈ls,ls[i]? =Uq x/\w1.cell? (Ua g (i*2))=Uq (Ud x.r)/\w1.cell? (Ua g (i*2+1))=Uq (Ud x.q)):=aC (λh0=>by
  have⟨g,e1,e2,e3,e4⟩:=H7 oM;refine⟨g,e1,e2,e3,λi hi=>?_⟩;have⟨d,f1,f2,f3⟩:=e4 i oM;rw[L]at f1;simp only[Yq,Yv]at f1;have⟨x,f4,f5⟩:=f1;subst f5;exact⟨x,YG f4,f4,f2,f3⟩)
 rw[Gc]at Hm⊢;have X1:=HX.bw o HX.lt;have Hz:=aC X1;have Gm:=aC<|Own.kept HO o (λk M=>oH ((G k M).2));have Hr:=aC<|C.trans (o.mono C.size);have Hf:=aC<|aE Gh o;have x0:IntKind.u64.wrap ((ls.length:Nat):Int)=(ls.length:Int):=nT _ oM oM;have Gx:=o.size;have Q:aA (w0.1.size<=w1.1.size/\w.1.size<w1.1.size/\w0.1.size<=w.1.size):=aC ⟨Hr.size,oM,hb.size⟩;go_wp2_with fail;refine(oR w0.1.size ls.length bv zs0 w1 oM Q.1 oM Gm).mono ?_;rintro e w2⟨v2,rfl,o2,g2,z2⟩;have Hv:=aC o2;have Hs:=aC g2;have H0:=aC z2;go_wp2_with fail;go_loopw [1,19] (λb' i wr=>∃(k:Nat),k<=ls.length/\i=Ud k/\aA (Own wr w0.1.size b' (zs0++(aI 9 ls.length++(ls.take k).flatMap (cU Y))))/\aA (Gr w1 wr bv b')/\aA (w1.1.size<=wr.1.size)) (λ_ i _=>ls.length-(intOf i).toNat);case atStart=>exact⟨0,UB _,rfl,aC (oU Hv),Hs,aC (YN H0)⟩
 case round=>
  obtain⟨k,M,rfl,Z,u,H2⟩:=hrel;by_cases Hn:k<ls.length
  .obtain⟨g,rfl,Gy,Gz,H9⟩:=HD oM;have⟨x,Hp,Gd,H5,H6⟩:=H9 k Hn;have Hc:Uq g≠bv.ownBlock:=λe=>oH ((G g e.symm).2);have Ha:Uq w.1.size≠bv.ownBlock:=λe=>by have:=(G _ e.symm).2;omega
   have s:=u.g.cell H5 Hc;have c2:=u.g.cell H6 Hc;have Gv:=P x Hp;have Hh:aA ((ls.take (k+1)).flatMap (cU Y)=(ls.take k).flatMap (cU Y)++cU Y x):=aC (by rw[Vc,Gd];simp);have Hj:aA ((zs0++(aI 9 ls.length++(ls.take k).flatMap (cU Y))).length<=100000000+10+230000):=aC (by
    have h1:=(cF 9 ls.length).1;have h2:=uO (cU Y) (λ_=>1) 230 (ls.take k) (λz hz=>by
     have a1:=(cF 9 z.r.toNat).1;have a2:=(cF 9 z.q.toNat).1;have a3:=sU z.v;have a4:=(P z (List.mem_of_mem_take hz)).2.2;unfold cU;simp only[UM];split
     .omega
     .simp;omega)
    have h3:∀ls:List Lf,(ls.map λ_=>1).sum=ls.length:=λls=>by
     induction ls with
     |nil=>rfl
     |cons a r ih=>simp only[UQ,Yg,ih,UP];omega
    rw[h3,Vk]at h2;simp only[UM];omega)
   have D:aA (∀w',Bl w0 w'->(Instr.lookup 105 (.map m1) (Uo #[Ud x.r,Ud x.q]) false).run prog w'=.ok (Uo #[Um x.v]) w'):=aC<|λw' h=>Gl.out x Hp w' h;have⟨xp,xf,xr,xq,U⟩:=x;dsimp only at s c2 Gv D Hh;obtain⟨r,rfl⟩:∃r:Nat,xr=(r:Int):=⟨xr.toNat,oM⟩;obtain⟨q,rfl⟩:∃q:Nat,xq=(q:Int):=⟨xq.toNat,oM⟩;have Hy:aA (cU Y ⟨xp,xf,(r:Int),(q:Int),U⟩=aI 9 r++(aI 9 q++if Y=1 then cM U else [])):=aC (by simp[cU]);have x3:IntKind.u64.wrap (r:Int)=(r:Int):=nT _ oM oM;have x4:IntKind.u64.wrap (q:Int)=(q:Int):=nT _ oM oM;have⟨t,E⟩:=zE (wr.alloc (Uj #[Ud (r:Int),Ud (q:Int)] 99));have B:aD t wr.1.size (Ud (r:Int)) (Ud (q:Int)):=E▸aD.made _ _ _ _;have H3:Bl wr t:=E▸zO _ _;have Gk:aA (Gr w1 t bv u1):=E▸aC (u.alloc _);have Gn:aA (Own t w0.1.size u1 (zs0++(aI 9 ls.length++(ls.take k).flatMap (cU Y)))):=E▸aC (World.ownsRow.alloc Z _);have Hb:aA (Uq wr.1.size≠u1.ownBlock):=aC (λe=>by have:=(World.ownsRow.lt Z _ e.symm).2;omega);have⟨q0,q1⟩:=B.q2;have V:=aC B;have Gi:=aC Ha;have Hk:aA (w1.1.size<=t.1.size):=aC<|oJ H3.size H2;go_wp2_with fail;refine(oR w0.1.size r u1 _ t oM (oJ Q.1 Hk) (oH Hj) Gn).mono ?_;rintro e w3⟨v3,rfl,o3,g3,z3⟩;have Gw:=g3.g.cell V.c1 Hb;have Hw:=aC o3;have Ht:=aC g3;have H1:=aC z3;have l3:=(cF 9 r).1;go_wp2_with fail;refine(oR w0.1.size q v3 _ w3 oM (by have:=Q.1;have:=Hk.out;have:=H1.out;omega) (by have:=Hj.out;rw[UM];omega) Hw).mono ?_;rintro e m⟨v5,rfl,o5,g5,z5⟩;have K:=Ht.trans g5;have Gf:=K.g.cell V.c0 Hb;have Gg:=K.g.cell V.c1 Hb;have J:=Gk.trans K;have Ge:=J.g.cell Hz.c1 Gi;have H4:Bl w0 m:=Hr.trans<|J.bw Q.1 (λk M=>(G k M).1);have Ga:=D m H4;have H8:(Instr.field 161 (Uo #[Um U]) 0).run prog m=.ok (Um U) m:=oK;have Hx:=aC o5;have Hu:=aC J;have Hi:aA (w1.1.size<=m.1.size):=aC<|oJ Hk H1;have l5:=(cF 9 q).1;rcases hy with rfl|rfl
   .go_wp2_with fail;refine(AO w0.1.size v5 _ U m oM (oJ Q.1 Hi) (by have:=Hj.out;simp only[UM]at*;omega) Hx).mono ?_;rintro e w6⟨v6,rfl,o6,g6,z6⟩;have S:aA (Own w6 w0.1.size v6 (zs0++(aI 9 ls.length++(ls.take (k+1)).flatMap (cU 1)))):=aC (by rw[Hh.out,Hy.out];simpa using o6);have Gj:=aC<|Hu.trans g6;have Gp:aA (w1.1.size<=w6.1.size):=aC<|oH Hi;go_wp2_with fail;go_roundw;case rel=>exact⟨k+1,Hn,oN,S,Gj,Gp⟩
    case measure=>exact oE
   .have S:aA (Own m w0.1.size v5 (zs0++(aI 9 ls.length++(ls.take (k+1)).flatMap (cU 2)))):=aC (by rw[Hh.out,Hy.out];simpa using Hx.out);go_wp2_with fail;go_roundw;case rel=>exact⟨k+1,Hn,oN,S,Hu,Hi⟩
    case measure=>exact oE
  .obtain rfl:k=ls.length:=oM;have HF:aA (zs0++(aI 9 ls.length++(ls.take ls.length).flatMap (cU Y))=zs0++mB ls Y):=aC (by rw[Vj];rfl);go_wp2_with fail;go_ret;refine⟨_,rfl,by rw[<-HF.out];exact Z,?_⟩;exact(Gr.of_below (b:=bv) Hf).trans u
theorem wW{Q:Prop}(h:Q:=by
 rcases h.2 with⟨v,_⟩|⟨t,z,k,y,s,u,o,b,p,r⟩
 .cases v
 .cases y;intro i hi;have hi':i<ts.length:=oM;have q:ts.toArray[i]! =ts[i]:=by rw[getElem!_pos _ _ (oU hi')];simp
  refine⟨ts[i],by simp[hi'],?_,?_⟩
  .have j:(k.toList.take (m*2))[i*2]? =(kRow ts)[i*2]? :=(by rw[r]);rw[VV oM,kRow_get ts (i*2) oM]at j;rw[show i*2/2=i by omega,show i*2%2=0 by omega,q]at j;simp[Vx,u,<-YU,j,kCells]
  .have j:(k.toList.take (m*2))[i*2+1]? =(kRow ts)[i*2+1]? :=(by rw[r]);rw[VV oM,kRow_get ts (i*2+1) oM]at j;rw[show(i*2+1)/2=i by omega,show(i*2+1)%2=1 by omega,q]at j;simp[Vx,u,<-YU,j,kCells]):Q:=h
theorem FJ(h:w.ownsRow B 175 2 (Uf (Uc g) m cap) m (kRow ts))(hl:ts.length=m):∀i,i<m->∃d,ts[i]? =Uq d/\w.cell? (Ua g (i*2))=Uq (Um d.1)/\w.cell? (Ua g (i*2+1))=Uq (Ud d.2):=by
 exact wW
theorem CV(h:w.ownsRow B 175 2 v ts.length (kRow ts)):∃a cap,v=Uf a ts.length cap/\ts.length<=cap/\cap<=9223372036854775807/\(0<ts.length->∃g,a=Uq (Ub g)/\B<=g/\g<w.1.size/\∀i,i<ts.length->∃d,ts[i]? =Uq d/\w.cell? (Ua g (i*2))=Uq (Um d.1)/\w.cell? (Ua g (i*2+1))=Uq (Ud d.2)):=by
 rcases h.2 with⟨rfl,j⟩|⟨g,cap,u,rfl,r,q,k,m,y,z⟩
 .exact⟨Up,0,by rw[j],oM,oM,λhh=>oM⟩
 .exact⟨_,cap,rfl,k,by unfold maxLen at m;omega,λ_=>⟨g,rfl,r,(Array.getElem?_eq_some_iff.1 q).1,FJ h rfl⟩⟩
theorem wG{Q:Prop}(h:Q:=by
 rw[mY]at h;obtain⟨⟨_,q⟩,e⟩:=h;have j:=congrArg Prod.snd e;unfold bO at j;dsimp only at j;by_cases m:p.length+1<x.p.length
 .rw[if_pos m]at j;have:=hx.1.2.1;exact .inr ⟨j.symm,oM⟩
 .rw[if_neg m]at j;rcases lV x.fl with k|k<;>rw[k]at j
  .exact .inl<|.inl j.symm
  .exact .inl (.inr j.symm)):Q:=h
theorem MX{x:Lf}(hx:jH x)(h:nx p x=Uq y):(y.2=1\/y.2=2)\/(y.2=3/\p.length+2<=8):=by
 exact wG
theorem XH{α:Type}(f:α->List Int)(ts:List α)(k:Nat):((ts.take k).flatMap f).length<=(ts.flatMap f).length:=by
 conv=>rhs;rw[<-Yx k ts,Yh,UM]
 omega
theorem Zo{R F T:Nat->Int}{n:Nat}(l:List Lf)(w0:Ur)(Bt c:Nat)(N:List Ky->Option (Nat×Nat))(hT:bB w0 Bt N (Mk l l.length) c)(hN:iX l l.length N)(hc:c<=1048576)(hlv:dB R F T n l l.length)(hbd:nC l):∀(f:Nat) (p:List ByteArray),p.length+f=8->1<=f->∀(bv:aB) (zs0:List Int) (w:Ur),Bl w0 w->Own w w0.1.size bv zs0->zs0.length+(tB l f p).length<=90000000->
  Cl 65 #[Uo #[.map (mF (N (aG p 3))),.map (mS (N (aG p 3)))],bv] w λe w'=>∃v,e=Ui v/\Own w' w0.1.size v (zs0++tB l f p)/\Gr w w' bv v
 |0,_,_,q,_,_,_,_,_,_=>oM
 |f+1,p,hpf,_,bv,zs0,w,hb,ho,hl=>by
  have⟨k1,k2⟩:=lU p hlv l.length zL;have⟨TB,Gf⟩:=zE (tB l (f+1) p);rw[Gf]at hl⊢;have G7:aA (∀s,p.length+2<=8->∀(bv:aB) (zs0:List Int) (w:Ur),Bl w0 w->Own w w0.1.size bv zs0->zs0.length+(tB l f (p++[s])).length<=90000000->Cl 65 #[Uo #[.map (mF (N (aG p 3++[(s,3)]))),.map (mS (N (aG p 3++[(s,3)])))],bv] w λe w'=>∃v,e=Ui v/\Own w' w0.1.size v (zs0++tB l f (p++[s]))/\Gr w w' bv v):=aC (λs G3 bv zs0 w q A h3=>by
   rw[<-Mo];exact Zo l w0 Bt c N hT hN hc hlv hbd f (p++[s]) oS oM bv zs0 w q A h3)
  have⟨W,hW⟩:=zE (w.alloc (Uj #[.map (mF (N (aG p 3))),.map (mS (N (aG p 3)))] 107));have b0:Bl w W:=hW▸zO _ _;have X0:aD W w.1.size (.map (mF (N (aG p 3)))) (.map (mS (N (aG p 3)))):=hW▸aD.made _ _ _ _;have zW:W.1.size=w.1.size+1:=hW▸oP;have Gg:Bl w0 W:=hb.trans<|b0.mono hb.size;have Ge:=aC<|Oe Bt c N (Mk l l.length) (aG p 3) W (hT.bw Gg) hc;have⟨m0,H9⟩:=zE (mF (N (aG p 3)));have⟨m1,Gh⟩:=zE (mS (N (aG p 3)));rw[H9,Gh]at X0 Ge hW;rw[H9,Gh];have⟨q0,q1⟩:=X0.q2;have HX:=aC X0;have G6:=aC b0;have Gb:=aC Gg;have HO:=aC<|Own.kept ho b0 (λk E=>(World.ownsRow.lt ho k E).2);have HT:=aC hT;have G9:=aC H9;have Hb:aA (∀g,bv.ownBlock=Uq g->w0.1.size<=g/\g<w.1.size):=aC<|λg hg=>World.ownsRow.lt ho g hg;have Gq:=aC Gf;have Gm:=aC k2;clear X0 b0 Gg ho H9 Gh Gf k1 k2;go_enter func65,ntmps65;go_wp2_with fail
  clear hW;refine Ge.mono ?_;rintro e w1⟨vd,m,rfl,Hz,H0,Kf,G2,b1⟩;have H7:=Ti (p:=p) hlv hN Hz H0;obtain⟨da,dc,rfl,Kb,Kc,Gz⟩:=CV G2;have Ke:m.length<=1000:=by rw[H7];have:=tP l p l.length;have:=hbd.len;omega
  have HD:aA (0<m.length->∃g,da=Uq (Ub g)/\W.1.size<=g/\g<w1.1.size/\∀i,i<m.length->∃y∈m,m[i]? =Uq y/\w1.cell? (Ua g (i*2))=Uq (Um y.1)/\w1.cell? (Ua g (i*2+1))=Uq (Ud y.2)):=aC (λh0=>by
   have⟨g,e1,M,e3,e4⟩:=Gz h0;refine⟨g,e1,M,e3,λi hi=>?_⟩;have⟨d,f1,f2,f3⟩:=e4 i hi;exact⟨d,YG f1,f1,f2,f3⟩)
  have Gs:aA (TB=aI 9 m.length++m.flatMap (kB l f p)):=aC (by rw[<-Gq.out,pZ,<-H7]);have Gn:aA (∀y∈m,y.1.size<=40/\((y.2=1\/y.2=2)\/(y.2=3/\p.length+2<=8))):=aC (λy hy=>by
   rw[H7]at hy;have⟨j,hj,e⟩:=(Gm y).1 hy;exact⟨yU (hlv j hj).1 e,MX (hlv j hj).1 e⟩)
  have G8:aA (∀y∈m,∀w',Bl w0 w'->(Instr.lookup 104 (.map m0) (Uo #[Um y.1,Ud y.2]) false).run prog w'=.ok (Uo #[.map (mF (N (aG p 3++[y]))),.map (mS (N (aG p 3++[y])))]) w'):=aC (λy hy w' hb'=>by
   have hl:=Gn y hy;have⟨kl,Kd⟩:=yH (s:=y.1) (k:=y.2) oL (eX oM oM);have:=(HT.bw hb').look (aG p 3) y Kd;rw[G9.out]at this;exact this)
  have X1:=HX.bw b1 HX.lt;have H6:=aC X1;have Ka:=aC<|Own.kept HO b1 (λk E=>oH ((Hb k E).2));have H2:=aC<|Gb.trans (b1.mono Gb.size);have Ga:=aC<|aE G6 b1;have x0:IntKind.u64.wrap ((m.length:Nat):Int)=(m.length:Int):=nT _ oM oM;have Kg:=b1.size;have H:aA (w0.1.size<=w1.1.size/\w.1.size<w1.1.size/\w0.1.size<=w.1.size):=aC ⟨H2.size,oM,hb.size⟩;clear q0 q1 G2 Hz H0 Kf Gz H7 b1 Ge X1 HX HO Gb Kg Gm Gq;go_wp2_with fail;refine(oR w0.1.size m.length bv zs0 w1 oM H.1 oM Ka).mono ?_;rintro e w2⟨v2,rfl,o2,g2,z2⟩;have Go:=aC o2;have Gl:=aC g2;have Gt:=aC z2;clear o2 g2 z2 x0;go_wp2_with fail;go_loopw [1,17] (λb' i wr=>∃(k:Nat),k<=m.length/\i=Ud k/\aA (Own wr w0.1.size b' (zs0++(aI 9 m.length++(m.take k).flatMap (kB l f p))))/\aA (Gr w1 wr bv b')/\aA (w1.1.size<=wr.1.size)) (λ_ i _=>m.length-(intOf i).toNat);case atStart=>exact⟨0,UB _,rfl,aC (oU Go),Gl,aC (YN Gt)⟩
  case round=>
   clear Go Gl Gt;obtain⟨k,E,rfl,H4,Hl,Gu⟩:=hrel;by_cases H8:k<m.length
   .obtain⟨g,rfl,Kh,Ki,G0⟩:=HD oM;have⟨y,Gi,G5,Gx,Gy⟩:=G0 k H8;have Hi:Uq g≠bv.ownBlock:=λe=>oH ((Hb g e.symm).2);have Hh:Uq w.1.size≠bv.ownBlock:=λe=>by have:=(Hb _ e.symm).2;omega
    have c1:=Hl.g.cell Gx Hi;have c2:=Hl.g.cell Gy Hi;have n0:=Hl.g.cell H6.c0 Hh;have G4:=Gn y Gi;have H5:aA ((m.take (k+1)).flatMap (kB l f p)=(m.take k).flatMap (kB l f p)++kB l f p y):=aC (by rw[Vc,G5];simp);have Q:aA ((zs0++(aI 9 m.length++(m.take k).flatMap (kB l f p))).length+(kB l f p y).length<=90000000):=aC (by
     have q:=XH (kB l f p) m (k+1);rw[H5.out,UM]at q;have A:=hl;rw[Gs.out]at A;simp only[UM]at A⊢;omega)
    have X:aA (∀w',Bl w0 w'->(Instr.lookup 104 (.map m0) (Uo #[Um y.1,Ud y.2]) false).run prog w'=.ok (Uo #[.map (mF (N (aG p 3++[y]))),.map (mS (N (aG p 3++[y])))]) w'):=aC<|λw' h=>G8.out y Gi w' h;have Hm:aA ((y.2=1\/y.2=2)->∀(bv:aB) (zs0:List Int) (w:Ur),Bl w0 w->Own w w0.1.size bv zs0->zs0.length<=100000000->Cl 110 #[Uo #[.map (mF (N (aG p 3++[y]))),.map (mS (N (aG p 3++[y])))],bv,Ud y.2] w λe w'=>∃v,e=Ui v/\Own w' w0.1.size v (zs0++mB (bF l p y l.length) y.2)/\Gr w w' bv v):=aC<|λhy bv zs0 w q A h3=>XE l p y w0 Bt c N HT hc hlv hbd hy bv zs0 w q A h3;have⟨s,Y⟩:=y;dsimp only at c1 c2 G4 X H5 Hm Q;have⟨B,Hq⟩:=zE (wr.alloc (Uj #[Um s,Ud Y] 175));have D1:aD B wr.1.size (Um s) (Ud Y):=Hq▸aD.made _ _ _ _;have Gw:Bl wr B:=Hq▸zO _ _;have Gd:aA (Gr w1 B bv u1):=Hq▸aC (Hl.alloc _);have Gp:aA (Own B w0.1.size u1 (zs0++(aI 9 m.length++(m.take k).flatMap (kB l f p)))):=Hq▸aC (World.ownsRow.alloc H4 _);have C:aA (Uq wr.1.size≠u1.ownBlock):=aC (λe=>by have:=(World.ownsRow.lt H4 _ e.symm).2;omega);have⟨q0,q1⟩:=D1.q2;have L:=aC D1;have Hr:=aC Hh;have Gv:aA (w1.1.size<=B.1.size):=aC<|oJ Gw.size Gu;have⟨zs,Gj⟩:=zE (zs0++(aI 9 m.length++(m.take k).flatMap (kB l f p)));have Hf:aA (zs0++(aI 9 m.length++(m.take (k+1)).flatMap (kB l f p))=zs++kB l f p (s,Y)):=aC (by rw[H5.out,<-Gj];simp);rw[Gj]at Gp Q;clear D1 Gw Gx Gy G0 Gi G5 Hh Hi H4 Hl Gu Gj H5;go_wp2_with fail
    clear Hq;refine(AO w0.1.size u1 _ s B oM (oJ H.1 Gv) (oH Q) Gp).mono ?_;rintro e J⟨v3,rfl,o3,g3,z3⟩;have Hn:=aC o3;have Hk:=aC g3;have Hp:aA (w1.1.size<=J.1.size):=aC<|oH Gv;have Gk:=g3.g.cell L.c1 C;clear o3 g3 z3 q0 q1 c1 c2 n0;rcases G4.2 with (rfl|rfl)|⟨rfl,G3⟩
    .have V:aA (kB l f p (s,1)=cM s++([1]++mB (bF l p (s,1) l.length) 1)):=aC (by unfold kB;rw[if_neg (show¬(1:Int)=3 by decide)]);have⟨z,r,Ha,P,Z⟩:=zC w0.1.size v3 _ [1] (Ub J.1.size) 1 1 (J.alloc (Uj #[Ug .u8 1] 5)) (World.ownsRow.alloc Hn _) rfl (λi u hu=>cell_one_new _ _ _ i u hu) (by have:=H.1;have:=Hp.out;simp;omega) (by have q:=Q.out;rw[V.out]at q;simp only[UM]at q⊢;simp at q⊢;omega);have o:Gr B r u1 z:=Hk.trans ((Gr.alloc (Gr.refl J v3) _).trans Z);have S:=o.g.cell L.c0 C;have Hc:=o.g.cell L.c1 C;have t:=Gd.trans o;have D:=t.g.cell H6.c0 Hr;have I:Bl w0 r:=H2.trans (t.bw H.1 (λk E=>(Hb k E).1));have H1:w1.1.size<=r.1.size:=(by have q:=Hp.out;have A:=Z.g.size;simp at A;omega);have Ho:=aC P;have Hs:=aC t;have H3:=aC I;have Hu:aA ((zs++cM s++[1]).length+(mB (bF l p (s,1) l.length) 1).length<=90000000):=aC (by have q:=Q.out;rw[V.out]at q;simp only[UM]at q⊢;omega);have⟨a1,Hd⟩:=zE (mF (N (aG p 3++[(s,1)])));have⟨a2,He⟩:=zE (mS (N (aG p 3++[(s,1)])));have Hg:=aC (Hm (.inl rfl));rw[Hd,He]at X Hg;have Hj:aA (Uq w.1.size≠z.ownBlock/\Uq wr.1.size≠z.ownBlock):=aC ⟨by
      rcases t.l with e|⟨j,e,hj⟩
      .rw[e];exact Hr
      .rw[e];intro M;injection M with M;have:=H.2.1;omega,by
      rcases o.l with e|⟨j,e,hj⟩
      .rw[e];exact C
      .rw[e];intro M;injection M with M;have:=L.lt;omega⟩
     have Hw:aA (∀w',Bl w0 w'->w'.cell? (Ub w.1.size)=Uq (.map m0)->w'.cell? (Ub wr.1.size)=Uq (Um s)->w'.cell? (Ua wr.1.size 1)=Uq (Ud 1)->(Bl w0 w'/\w'.cell? (Ub w.1.size)=Uq (.map m0)/\w'.cell? (Ub wr.1.size)=Uq (Um s)/\w'.cell? (Ua wr.1.size 1)=Uq (Ud 1)/\(Instr.lookup 104 (.map m0) (Uo #[Um s,Ud 1]) false).run prog w'=.ok (Uo #[.map a1,.map a2]) w')):=aC<|λw' q A h3 h4=>⟨q,A,h3,h4,X w' q⟩;clear P Z o t I Hm X Hd He Q Hn Hk;go_wp2_with (at_builtin;refine cL rfl _ _ _ _ rfl Ha (by rfl) (by rfl) rfl ?_;clear Ha);refine zG Hw H3.drew D S Hc<|λqh=>?_;refine tY 0 40 ?_;refine tY 2 42 ?_;refine tY 4 44 ?_;refine tZ 6 46 ?_;refine cZ 7 ?_;intro K hK;go_simp;refine(Hg z _ _ qh.1 (World.ownsRow.drew Ho) (oH Hu)).mono ?_;rintro e U⟨v6,rfl,o6,G⟩;have O:Gr r U z v6:=(show Gr r r.drew z z from⟨⟨rfl,rfl,rfl,Ux _,λ_ _ _=>rfl⟩,.inl rfl⟩).trans G;have Hy:Bl w0 U:=qh.1.trans<|G.bw qh.1.size (λk E=>(World.ownsRow.lt Ho k E).1);refine bZ hK (Hw _ Hy (O.g.cell D Hj.1) (O.g.cell S Hj.2) (O.g.cell Hc Hj.2))<|λqh=>?_;clear hK K;refine tZ 8 1 ?_;refine zD ?_;have Hv:aA (Own U w0.1.size v6 (zs0++(aI 9 m.length++(m.take (k+1)).flatMap (kB l f p)))):=aC (by rw[Hf.out,V.out];simpa using o6);have Ht:=aC<|Hs.trans O;have Hx:aA (w1.1.size<=U.1.size):=aC<|oH O.g.size;clear o6 G O Hy qh S Hc D H1 Gk Hg;go_wp2_with fail;go_roundw;case rel=>exact⟨k+1,H8,oN,Hv,Ht,Hx⟩
     case measure=>exact oE
    .have V:aA (kB l f p (s,2)=cM s++([2]++mB (bF l p (s,2) l.length) 2)):=aC (by unfold kB;rw[if_neg (show¬(2:Int)=3 by decide)]);have⟨z,r,Ha,P,Z⟩:=zC w0.1.size v3 _ [2] (Ub J.1.size) 1 1 (J.alloc (Uj #[Ug .u8 2] 5)) (World.ownsRow.alloc Hn _) rfl (λi u hu=>cell_one_new _ _ _ i u hu) (by have:=H.1;have:=Hp.out;simp;omega) (by have q:=Q.out;rw[V.out]at q;simp only[UM]at q⊢;simp at q⊢;omega);have o:Gr B r u1 z:=Hk.trans ((Gr.alloc (Gr.refl J v3) _).trans Z);have S:=o.g.cell L.c0 C;have Hc:=o.g.cell L.c1 C;have t:=Gd.trans o;have D:=t.g.cell H6.c0 Hr;have I:Bl w0 r:=H2.trans (t.bw H.1 (λk E=>(Hb k E).1));have H1:w1.1.size<=r.1.size:=(by have q:=Hp.out;have A:=Z.g.size;simp at A;omega);have Ho:=aC P;have Hs:=aC t;have H3:=aC I;have Hu:aA ((zs++cM s++[2]).length+(mB (bF l p (s,2) l.length) 2).length<=90000000):=aC (by have q:=Q.out;rw[V.out]at q;simp only[UM]at q⊢;omega);have⟨a1,Hd⟩:=zE (mF (N (aG p 3++[(s,2)])));have⟨a2,He⟩:=zE (mS (N (aG p 3++[(s,2)])));have Hg:=aC (Hm (.inr rfl));rw[Hd,He]at X Hg;have Hj:aA (Uq w.1.size≠z.ownBlock/\Uq wr.1.size≠z.ownBlock):=aC ⟨by
      rcases t.l with e|⟨j,e,hj⟩
      .rw[e];exact Hr
      .rw[e];intro M;injection M with M;have:=H.2.1;omega,by
      rcases o.l with e|⟨j,e,hj⟩
      .rw[e];exact C
      .rw[e];intro M;injection M with M;have:=L.lt;omega⟩
     have Hw:aA (∀w',Bl w0 w'->w'.cell? (Ub w.1.size)=Uq (.map m0)->w'.cell? (Ub wr.1.size)=Uq (Um s)->w'.cell? (Ua wr.1.size 1)=Uq (Ud 2)->(Bl w0 w'/\w'.cell? (Ub w.1.size)=Uq (.map m0)/\w'.cell? (Ub wr.1.size)=Uq (Um s)/\w'.cell? (Ua wr.1.size 1)=Uq (Ud 2)/\(Instr.lookup 104 (.map m0) (Uo #[Um s,Ud 2]) false).run prog w'=.ok (Uo #[.map a1,.map a2]) w')):=aC<|λw' q A h3 h4=>⟨q,A,h3,h4,X w' q⟩;clear P Z o t I Hm X Hd He Q Hn Hk;go_wp2_with (at_builtin;refine cL rfl _ _ _ _ rfl Ha (by rfl) (by rfl) rfl ?_;clear Ha);refine zG Hw H3.drew D S Hc<|λqh=>?_;refine tY 0 40 ?_;refine tY 2 42 ?_;refine tY 4 44 ?_;refine tZ 6 46 ?_;refine cZ 7 ?_;intro K hK;go_simp;refine(Hg z _ _ qh.1 (World.ownsRow.drew Ho) (oH Hu)).mono ?_;rintro e U⟨v6,rfl,o6,G⟩;have O:Gr r U z v6:=(show Gr r r.drew z z from⟨⟨rfl,rfl,rfl,Ux _,λ_ _ _=>rfl⟩,.inl rfl⟩).trans G;have Hy:Bl w0 U:=qh.1.trans<|G.bw qh.1.size (λk E=>(World.ownsRow.lt Ho k E).1);refine bZ hK (Hw _ Hy (O.g.cell D Hj.1) (O.g.cell S Hj.2) (O.g.cell Hc Hj.2))<|λqh=>?_;clear hK K;refine tZ 8 1 ?_;refine zD ?_;have Hv:aA (Own U w0.1.size v6 (zs0++(aI 9 m.length++(m.take (k+1)).flatMap (kB l f p)))):=aC (by rw[Hf.out,V.out];simpa using o6);have Ht:=aC<|Hs.trans O;have Hx:aA (w1.1.size<=U.1.size):=aC<|oH O.g.size;clear o6 G O Hy qh S Hc D H1 Gk Hg;go_wp2_with fail;go_roundw;case rel=>exact⟨k+1,H8,oN,Hv,Ht,Hx⟩
     case measure=>exact oE
    .have V:aA (kB l f p (s,3)=cM s++([3]++tB l f (p++[s]))):=aC (by unfold kB;rw[if_pos rfl]);have⟨z,r,Ha,P,Z⟩:=zC w0.1.size v3 _ [3] (Ub J.1.size) 1 1 (J.alloc (Uj #[Ug .u8 3] 5)) (World.ownsRow.alloc Hn _) rfl (λi u hu=>cell_one_new _ _ _ i u hu) (by have:=H.1;have:=Hp.out;simp;omega) (by have q:=Q.out;rw[V.out]at q;simp only[UM]at q⊢;simp at q⊢;omega);have o:Gr B r u1 z:=Hk.trans<|(Gr.alloc (Gr.refl J v3) _).trans Z;have S:=o.g.cell L.c0 C;have Hc:=o.g.cell L.c1 C;have t:=Gd.trans o;have D:=t.g.cell H6.c0 Hr;have I:Bl w0 r:=H2.trans<|t.bw H.1 (λk E=>(Hb k E).1);have H1:w1.1.size<=r.1.size:=(by have q:=Hp.out;have A:=Z.g.size;simp at A;omega);have Ho:=aC P;have Hs:=aC t;have H3:=aC I;have Hu:aA ((zs++cM s++[3]).length+(tB l f (p++[s])).length<=90000000):=aC (by have q:=Q.out;rw[V.out]at q;simp only[UM]at q⊢;omega);have G1:=X r I;have⟨a1,Hd⟩:=zE (mF (N (aG p 3++[(s,3)])));have⟨a2,He⟩:=zE (mS (N (aG p 3++[(s,3)])));have Gc:=aC<|G7 s G3 z _ r I P Hu;rw[Hd,He]at G1 Gc;clear P Z o t I Hm X Hd He Q Hn Hk;go_wp2_with (at_builtin;refine cL rfl _ _ _ _ rfl Ha (by rfl) (by rfl) rfl ?_;clear Ha);refine Gc.mono ?_;rintro e U⟨v6,rfl,o6,G⟩;have Hv:aA (Own U w0.1.size v6 (zs0++(aI 9 m.length++(m.take (k+1)).flatMap (kB l f p)))):=aC (by rw[Hf.out,V.out];simpa using o6);have Ht:=aC<|Hs.trans G;have Hx:aA (w1.1.size<=U.1.size):=aC<|oH G.g.size;clear o6 G G1 S Hc D Gc H1 Gk;go_wp2_with fail;go_roundw;case rel=>exact⟨k+1,H8,oN,Hv,Ht,Hx⟩
     case measure=>exact oE
   .obtain rfl:k=m.length:=oM;have HF:aA (zs0++(aI 9 m.length++(m.take m.length).flatMap (kB l f p))=zs0++TB):=aC (by rw[Vj,Gs.out]);go_wp2_with fail;go_ret;refine⟨_,rfl,by rw[<-HF.out];exact H4,?_⟩;exact(Gr.of_below (b:=bv) Ga).trans Hl
theorem XC(a:Option Us)(c:Nat)(l:List Lf)(x:Option Us)(n d:Nat)(R F T:Nat->Int)(w:Ur)(hn:l.length<=1048576)(hp:iP l)(hi:∀i,eK (gL l i))(hm:n<=1048576)(h:gA w a l)(h':bI w x n R F T):
  Cl 36 #[Uo #[Uf a l.length c,Uf x n d]] w λe w'=>∃v zs k,e=Ui (Ul #[v,Ud k])/\kP R F T n l=(zs,k)/\Own w' w.1.size v zs/\Bl w w':=by
 have⟨W,y⟩:=zE (w.alloc (Uj #[Uf a l.length c,Uf x n d] 28));have s:Bl w W:=y▸zO _ _;have S:aD W w.1.size (Uf a l.length c) (Uf x n d):=y▸aD.made _ _ _ _;have⟨k0,k1⟩:=S.q2;have HL:=aC<|h.bw s;have HR:=aC<|h'.bw s;have Hb:=aC s;by_cases j:bG R F T n l;have z:=aC<|Zr a c l x n d R F T W hn hp hi hm HL HR j;have Hg:=aC<|λh=>sI j h;have Hf:=aC<|λh=>Mu j h;have Hi:=aC<|And.intro j.put_len j.tree_len;have Hd:aA ((dF R F T n l).length<=1000000000):=aC (by have h1:=j.put_len;have h2:=j.tree_len;unfold dF;rw[UM];omega);have He:aA (fF (Lk R F T n)++tB l 8 []=dF R F T n l):=aC rfl;have⟨Z,L⟩:=zE (dF R F T n l);have⟨P,u⟩:=zE (kP R F T n l);rw[L,u]at Hg Hf;rw[L]at Hd He;rw[u];have p:=aC j;rotate_left;have z:=aC<|AS a c l x n d R F T W hn hp hi hm HL HR j;have Y:=aC<|Fz j;have⟨P,u⟩:=zE (kP R F T n l);rw[u]at Y;rw[u];rotate_left;all_goals
  go_enter func36,ntmps36;go_wp2_with fail
  refine z.mono ?_
 .rintro e w1⟨⟨x0,I,D,G,N,B,rfl,Ha,_,_,_,hT,hN,hI⟩,g⟩;have⟨m,M⟩:=zE (w1.alloc (Uj #[.map (Uq x0.1),.map (Uq x0.2),.map (Uq I)] 111));have A:Bl w1 m:=M▸zO _ _;have H:aH m w1.1.size (.map (Uq x0.1)) (.map (Uq x0.2)) (.map (Uq I)):=M▸aH.made _ _ _ _ _;have⟨c0,c1,c2⟩:=H.q3;have Q:=aC H;have HZ:=aC (aE Hb (aE g A));have E:=dL.1 p.1;have HA:=aC (λq(hb3:Bl m q)=>WC ((Ha.bw A).bw hb3) (aC (λr=>Uz (jJ R F T n r) E.2)) (aC (λr=>(kZ n E.1 r).1)) (aC (nZ n E.1)));have Hh:aA (∀(bv:aB) (q:Ur),Bl m q->Own q m.1.size bv (fF (Lk R F T n))->Cl 65 #[Uo #[.map (Uq x0.1),.map (Uq x0.2)],bv] q λe w'=>∃v,e=Ui v/\Own w' m.1.size v Z/\Gr q w' bv v):=aC (λbv q hb3 ho3=>by
   have:=Zo l m B (9*l.length) N (hT.bw A) hI (oH p.2.1) p.2.2.1 p.lvB 8 [] rfl oM bv _ q hb3 ho3 (oH Hi);rw[show N (aG [] 3)=Uq x0 from hN,He.out]at this;exact this)
  go_wp2_with fail;have b:aA (∀w',Bl m w'->(Bl m w'/\w'.cell? (Ub w1.1.size)=Uq (.map (Uq x0.1))/\w'.cell? (Ua w1.1.size 1)=Uq (.map (Uq x0.2))/\w'.cell? (Ua w1.1.size 2)=Uq (.map (Uq I)))):=aC (λw' hB=>by
   have X:=Q.bw hB Q.lt;exact⟨hB,X.c0,X.c1,X.c2⟩)
  refine zS b<|λqh=>?_;refine tY 0 14 ?_;refine tY 2 16 ?_;refine cZ 4 ?_;intro K o;go_simp;refine(HA _ qh.1).mono ?_;rintro e q⟨v3,rfl,o3,b3⟩;have t:=aE qh.1 b3;have U:=aC<|Own.weak o3 qh.1.size;refine bZ o (b _ t)<|λqh=>?_;refine cZ 5 ?_;intro K o;go_simp;refine(Hh v3 q t U).mono ?_;rintro e w4⟨v4,rfl,C,g4⟩;have J:Bl m w4:=t.trans<|g4.bw t.size (λk hk=>(World.ownsRow.lt U k hk).1);refine bZ o (b _ J)<|λqh=>?_;refine tZ 6 6 ?_;refine zD ?_;have Hc:=aC<|aE HZ J;have Hj:=aC<|Own.weak C HZ.size;obtain⟨av,cv,rfl,_⟩:=C.any;have Hk:=Hd.out;by_cases hz:Z.length<=4000
  .have V:=aC<|Hg hz;have d1:decide ((4000:Int)<(Z.length:Int))=false:=oS;go_wp2_with fail;go_ret2;exact⟨_,Z,0,rfl,V,Hj,Hc⟩
  .have V:=aC<|Hf hz;have d1:decide ((4000:Int)<(Z.length:Int))=true:=oS;go_wp2_with fail;go_ret2;exact⟨_,[],2,rfl,V,Vw _ _ _ _,Hc⟩
 .rintro e w1⟨rfl,g⟩;have O:=aC<|aE Hb g;go_wp2_with fail;go_ret2;first|exact⟨_,[],1,rfl,Y,Vw _ _ _ _,O⟩|exact⟨_,[],1,rfl,Y,Vw _ _ _ _,O.alloc O.size _⟩
noncomputable def kN(S:Sx):List Int×Int:=kP S.R S.F S.T S.n S.l
noncomputable def bM(S:Sx):Bool:=decide ((kN S).2=0)
noncomputable def dP(id:Int)(S S':Sx):Bool:=decide (0<=id)&&(decide (id<8)&&(bM S&&bM S'))
theorem Ny(a x:Option Us)(c d:Nat)(S:Sx)(w:Ur)(hc:S.l.length<=c)(hcm:c<=9223372036854775807)(hm:S.Sm)(h:dH w a S.l)(h':bI w x S.n S.R S.F S.T):
  Cl 35 #[Uo #[Uf a S.l.length c,Uf x S.n d]] w λe w'=>∃v zs k,e=Ui (Ul #[v,Ud k])/\kN S=(zs,k)/\Own w' w.1.size v zs/\Bl w w':=
 BA a c S.l x S.n d S.R S.F S.T w hc hcm hm.l1 hm.p1 hm.n1 h h.seg h'
theorem Zg(a x:Option Us)(c d:Nat)(S:Sx)(w:Ur)(hi:∀i,eK (gL S.l i))(hm:S.Sm)(h:cX w a x S):
  Cl 36 #[Uo #[Uf a S.l.length c,Uf x S.n d]] w λe w'=>∃v zs k,e=Ui (Ul #[v,Ud k])/\kN S=(zs,k)/\Own w' w.1.size v zs/\Bl w w':=
 XC a c S.l x S.n d S.R S.F S.T w hm.l1 hm.p1 hi hm.n1 h.lf h.rn
theorem yG(a x:Option Us)(c d:Nat)(S:Sx)(w:Ur)(hc:S.l.length<=c)(hcm:c<=9223372036854775807)(hm:S.Sm)(h:dH w a S.l)(h':bI w x S.n S.R S.F S.T):
  Cl 25 #[Uo #[Uf a S.l.length c,Uf x S.n d]] w (Rt w (Un (bM S))):=by
 have⟨W,m⟩:=zE (w.alloc (Uj #[Uf a S.l.length c,Uf x S.n d] 28));have j:Bl w W:=m▸zO _ _;have r:aD W w.1.size (Uf a S.l.length c) (Uf x S.n d):=m▸aD.made _ _ _ _;have⟨p,s⟩:=r.q2;have u:=aC<|Ny a x c d S W hc hcm hm (h.bw j) (h'.bw j);have t:=aC j;have q:aA (bM S=decide ((kN S).2=0)):=aC rfl;have⟨B,z⟩:=zE (bM S);rw[z]at q⊢;go_enter func25,ntmps25;go_wp2_with fail;refine u.mono ?_;rintro e w1⟨v,A,k,rfl,g,b,y⟩;have o:=aC<|aE t y;have i:aA (B=(k==0)):=aC (by rw[q.out,g];rfl);go_wp2_with fail;go_ret;exact⟨by rw[i.out];rfl,o⟩
theorem Bb(a x:Option Us)(c d:Nat)(S:Sx)(w:Ur)(hi:∀i,eK (gL S.l i))(hm:S.Sm)(h:cX w a x S):
  Cl 31 #[Uo #[Uf a S.l.length c,Uf x S.n d]] w (Rt w (Un (bM S))):=by
 have⟨W,j⟩:=zE (w.alloc (Uj #[Uf a S.l.length c,Uf x S.n d] 28));have q:Bl w W:=j▸zO _ _;have r:aD W w.1.size (Uf a S.l.length c) (Uf x S.n d):=j▸aD.made _ _ _ _;have⟨s,A⟩:=r.q2;have u:=aC<|Zg a x c d S W hi hm (h.bw q);have t:=aC q;have m:aA (bM S=decide ((kN S).2=0)):=aC rfl;have⟨B,z⟩:=zE (bM S);rw[z]at m⊢;go_enter func31,ntmps31;go_wp2_with fail;refine u.mono ?_;rintro e w1⟨v,E,k,rfl,g,p,y⟩;have o:=aC<|aE t y;have b:aA (B=(k==0)):=aC (by rw[m.out,g];rfl);go_wp2_with fail;go_ret;exact⟨by rw[b.out];rfl,o⟩
theorem Ec(id:Int)(a x a' x':Option Us)(c d c' d':Nat)(S S':Sx)(w:Ur)(hc:S.l.length<=c)(hcm:c<=9223372036854775807)(hc':S'.l.length<=c')(hcm':c'<=9223372036854775807)(hm:S.Sm)(hm':S'.Sm)(h:dH w a S.l)(k:bI w x S.n S.R S.F S.T)(h':dH w a' S'.l)(k':bI w x' S'.n S'.R S'.F S'.T):
  Cl 21 #[Uo #[Ud id,Uf a S.l.length c,Uf x S.n d,Uf a' S'.l.length c',Uf x' S'.n d']] w (Rt w (Un (dP id S S'))):=by
 have⟨W,q⟩:=zE (w.alloc (Uj #[Ud id,Uf a S.l.length c,Uf x S.n d,Uf a' S'.l.length c',Uf x' S'.n d'] 30));have m:Bl w W:=q▸zO _ _;have v:aF W w.1.size (Ud id) (Uf a S.l.length c) (Uf x S.n d) (Uf a' S'.l.length c') (Uf x' S'.n d'):=q▸aF.new _ _ _ _ _ _ _;have z:=aC<|λw1(hb:Bl W w1)=>yG a x c d S w1 hc hcm hm (h.bw (aE m hb)) (k.bw (aE m hb));have g:=aC<|λw1(hb:Bl W w1)=>yG a' x' c' d' S' w1 hc' hcm' hm' (h'.bw (aE m hb)) (k'.bw (aE m hb));have r:aA (dP id S S'=(decide (0<=id)&&(decide (id<8)&&(bM S&&bM S')))):=aC rfl;have⟨B,s⟩:=zE (dP id S S');have⟨M,A⟩:=zE (bM S);have⟨O,E⟩:=zE (bM S');rw[s,A,E]at r;rw[A]at z;rw[E]at g;rw[s];have y:=aC m;have o:=aC v;have⟨L,N,X,C,D⟩:=v.q5;by_cases Y:0<=id
 .have b:decide (0<=id)=true:=oU Y;by_cases Z:id<8;have p:decide (id<8)=true:=oU Z;have j:aA (B=(M&&O)):=aC (by rw[r.out,b,p];simp);rotate_left;have p:decide (id<8)=false:=oU Z;have j:aA (B=false):=aC (by rw[r.out,p];simp);rotate_left;all_goals go_enter func21,ntmps21;go_wp2_with fail
  .refine(z _ zI).mono ?_;rintro e w1⟨rfl,u⟩;have i:=o.bw u o.lt;have J:=i.c3;have K:=i.c4;have Q:=aC<|aE y u;have U:=aC<|g w1 u;cases M with
   |false=>have t:aA (B=false):=aC (by rw[j.out];rfl);go_wp2_with fail;go_ret;exact⟨by rw[t.out];rfl,Q⟩
   |true=>have t:aA (B=O):=aC (by rw[j.out];rfl);go_wp2_with fail;refine U.mono ?_;rintro e P⟨rfl,V⟩;have G:=aC<|aE Q V;go_wp2_with fail;go_ret;exact⟨by rw[t.out];rfl,G⟩
  .go_ret;exact⟨by rw[j.out];rfl,y⟩
 .have b:decide (0<=id)=false:=oU Y;have j:aA (B=false):=aC (by rw[r.out,b];simp);go_enter func21,ntmps21;go_wp2_with fail;try rw[q]
  go_ret;exact⟨by rw[j.out];rfl,y⟩
theorem GK(id:Int)(w:Ur):Cl 30 #[Ud id] w λe w'=>e=Ui (Un (decide (0<=id)&&decide (id<8)))/\w'=w:=by
 by_cases m:0<=id
 .have j:decide (0<=id)=true:=oU m;by_cases q:id<8
  .have k:decide (id<8)=true:=oU q;rw[j,k];exact kL
  .have k:decide (id<8)=false:=oU q;rw[j,k];exact kL
 .have j:decide (0<=id)=false:=oU m;rw[j];exact kL
theorem Ee(id:Int)(a x a' x':Option Us)(c d c' d':Nat)(S S':Sx)(w:Ur)(hi:∀i,eK (gL S.l i))(hi':∀i,eK (gL S'.l i))(hm:S.Sm)(hm':S'.Sm)(h:cX w a x S)(h':cX w a' x' S'):
  Cl 8 #[Uo #[Ud id,Uf a S.l.length c,Uf x S.n d,Uf a' S'.l.length c',Uf x' S'.n d']] w (Rt w (Un (dP id S S'))):=by
 have⟨W,m⟩:=zE (w.alloc (Uj #[Ud id,Uf a S.l.length c,Uf x S.n d,Uf a' S'.l.length c',Uf x' S'.n d'] 30));have u:Bl w W:=m▸zO _ _;have y:aF W w.1.size (Ud id) (Uf a S.l.length c) (Uf x S.n d) (Uf a' S'.l.length c') (Uf x' S'.n d'):=m▸aF.new _ _ _ _ _ _ _;have g:=aC<|λw1(hb:Bl W w1)=>Bb a x c d S w1 hi hm (h.bw (aE u hb));have t:=aC<|λw1(hb:Bl W w1)=>Bb a' x' c' d' S' w1 hi' hm' (h'.bw (aE u hb));have r:aA (dP id S S'=(decide (0<=id)&&(decide (id<8)&&(bM S&&bM S')))):=aC rfl;have⟨B,A⟩:=zE (dP id S S');have⟨O,E⟩:=zE (bM S);have⟨Q,M⟩:=zE (bM S');rw[A,E,M]at r;rw[E]at g;rw[M]at t;rw[A];have b:=aC<|λw=>GK id w;have z:=aC u;have p:=aC y;have⟨X,C,D,F,P⟩:=y.q5;by_cases Z:0<=id
 .have k:decide (0<=id)=true:=oU Z;by_cases G:id<8;have q:decide (id<8)=true:=oU G;have j:aA (B=(O&&Q)):=aC (by rw[r.out,k,q];simp);rotate_left;have q:decide (id<8)=false:=oU G;have j:aA (B=false):=aC (by rw[r.out,q];simp);rotate_left;all_goals go_enter func8,ntmps8;go_wp2_with fail;refine(b _).mono ?_;rintro e H⟨rfl,rfl⟩;rw[k,q];go_wp2_with fail
  .refine(g _ zI).mono ?_;rintro e w1⟨rfl,v⟩;have s:=p.bw v p.lt;have L:=s.c3;have N:=s.c4;have U:=aC<|aE z v;have V:=aC<|t w1 v;cases O with
   |false=>have o:aA (B=false):=aC (by rw[j.out];rfl);go_wp2_with fail;go_ret;exact⟨by rw[o.out];rfl,U⟩
   |true=>have o:aA (B=Q):=aC (by rw[j.out];rfl);go_wp2_with fail;refine V.mono ?_;rintro e R⟨rfl,Y⟩;have I:=aC<|aE U Y;go_wp2_with fail;go_ret;exact⟨by rw[o.out];rfl,I⟩
  .go_ret;exact⟨by rw[j.out];rfl,z⟩
 .have k:decide (0<=id)=false:=oU Z;have j:aA (B=false):=aC (by rw[r.out,k];simp);go_enter func8,ntmps8;go_wp2_with fail;refine(b _).mono ?_;rintro e H⟨rfl,rfl⟩;rw[k];go_wp2_with fail;try rw[m]
  go_ret;exact⟨by rw[j.out];rfl,z⟩
open Go.Deep
structure vC(C:Lf->Prop)(ls:List Lf)(L:Nat->List Lf)(s:Nat):Prop where
 yes:∀k,k<ls.length->C (gL ls k)->L (k+1)=dS (gL ls k) (L k)
 no:∀k,k<ls.length->¬C (gL ls k)->L (k+1)=L k
 len:∀k,k<=ls.length->(L k).length<=s+k
 pth:∀k,k<=ls.length->∀i,i<(L k).length->1<=(gL (L k) i).p.length/\(gL (L k) i).p.length<=8
theorem vC.of(C:Lf->Prop)(ls out:List Lf)(s:Nat)(ho:out.length<=s)(h1:∀i,i<ls.length->1<=(gL ls i).p.length/\(gL ls i).p.length<=8)(h2:∀i,i<out.length->1<=(gL out i).p.length/\(gL out i).p.length<=8):vC C ls (fZ C ls out) s:=
 ⟨λk hk h=>Mt h,λk hk h=>L9 h,λk hk=>by have:=C5 (P:=C) (ls:=ls) (out:=out) k;omega,λk hk i hi=>by
  have m:=bJ.2 ⟨i,hi,rfl⟩;rcases uJ.1 m with h|⟨t,j,_,e⟩
  .have⟨t,j,e⟩:=bJ.1 h;rw[<-e];exact h2 t j
  .rw[<-e];exact h1 t oM⟩
theorem Pf{Q:Prop}(h:Q:=by
 have Hh:=aC<|Hn z q7 Hf G Hb Hc Hk Ha;clear Hk Ha Hb Hc;refine cZ 4 ?_;intro K k;go_simp;refine Hh.mono ?_;rintro e N⟨⟨O,M,P8,Q8,rfl,Hy,l8⟩,b8⟩;have L:=aE G b8;have Hu:=aC<|A.set L l8 H6 (oH G.size) (λi hi=>(Ho.pth (j+1) C i hi).1);have O8:=A.o.bw L A.o.lt;refine k.out _ _ (Hd _ L)<|λqh=>?_;clear k K;try simp only[zP]
 refine tZ 5 47 ?_;have o0:=O8.c0;have of:=O8.f 0;have Z:=((He.bw L He.lt).setFar t (Uf (Uc O) ((u j).length+1) M) H7);have Hi:=aC (⟨Z.c0,Z.c1,Z.c2,Z.c3,Z.c4⟩:(N.setCell (Ub t) (Uf (Uc O) ((u j).length+1) M)).cell? (Ub wr.1.size)=Uq (Uf (Uq (Ua D S)) m.length pc)/\(N.setCell (Ub t) (Uf (Uc O) ((u j).length+1) M)).cell? (Ua wr.1.size 1)=Uq (Un U)/\(N.setCell (Ub t) (Uf (Uc O) ((u j).length+1) M)).cell? (Ua wr.1.size 2)=Uq (Ud E)/\(N.setCell (Ub t) (Uf (Uc O) ((u j).length+1) M)).cell? (Ua wr.1.size 3)=Uq (Ud s)/\(N.setCell (Ub t) (Uf (Uc O) ((u j).length+1) M)).cell? (Ua wr.1.size 4)=Uq (Um V));clear O8 Z;refine cZ 6 ?_;intro K k;go_simp;refine k.out _ _ Hi<|λqh=>?_;clear k K;try simp only[zP]
 refine zD ?_;clear qh b7 G b8 L l8 Hy o0 of Hh Hn Hm Hd Hi;go_wp2_with fail;go_roundw;case rel=>exact⟨j+1,O,M,P8,Q8,C,oN,Hu⟩
 case measure=>exact oE):Q:=h
theorem xT{Q:Prop}(h:Q:=by
 have Hh:=aC<|Hn z q7 Hf G Hb Hc Hk Ha;clear Hk Ha Hb Hc;refine cZ 4 ?_;intro K k;go_simp;refine Hh.mono ?_;rintro e N⟨⟨O,M,P8,Q8,rfl,Hy,l8⟩,b8⟩;have L:=aE G b8;have Hu:=aC<|A.set L l8 H6 (oH G.size) (λi hi=>(Hv.pth (j+1) C i hi).1);have O8:=A.o.bw L A.o.lt;refine k.out _ _ (Hd _ L)<|λqh=>?_;clear k K;try simp only[zP]
 refine tZ 5 71 ?_;have o0:=O8.c0;have of:=O8.f 0;have Z:=((He.bw L He.lt).setFar t (Uf (Uc O) ((Y j).length+1) M) H7);have Hi:=aC (⟨Z.c0,Z.c1,Z.c2,Z.c3,Z.c4⟩:(N.setCell (Ub t) (Uf (Uc O) ((Y j).length+1) M)).cell? (Ub wr.1.size)=Uq (Uf (Uq (Ua D S)) m.length pc)/\(N.setCell (Ub t) (Uf (Uc O) ((Y j).length+1) M)).cell? (Ua wr.1.size 1)=Uq (Un U)/\(N.setCell (Ub t) (Uf (Uc O) ((Y j).length+1) M)).cell? (Ua wr.1.size 2)=Uq (Ud E)/\(N.setCell (Ub t) (Uf (Uc O) ((Y j).length+1) M)).cell? (Ua wr.1.size 3)=Uq (Ud s)/\(N.setCell (Ub t) (Uf (Uc O) ((Y j).length+1) M)).cell? (Ua wr.1.size 4)=Uq (Um V));clear O8 Z;refine cZ 6 ?_;intro K k;go_simp;refine k.out _ _ Hi<|λqh=>?_;clear k K;try simp only[zP]
 refine zD ?_;clear qh b7 G b8 L l8 Hy o0 of Hh Hn Hm Hd Hi;go_wp2_with fail;go_roundw;case rel=>exact⟨j+1,O,M,P8,Q8,C,oN,Hu⟩
 case measure=>exact oE):Q:=h
theorem LH(a b:Option Us)(ca cb:Nat)(la lb:List Lf)(xa:Option Us)(n d:Nat)(R F T:Nat->Int)(x':Option Us)(n' d':Nat)(R' F' T':Nat->Int)(w:Ur)(hn:n<=1000)(hn':n'<=1000)(ho:fQ R F T n)(ho':fQ R' F' T' n')(hla:la.length<=1000)(hlb:lb.length<=1000)(hpa:∀i,i<la.length->1<=(gL la i).p.length/\(gL la i).p.length<=8)(Hj:∀i,i<lb.length->1<=(gL lb i).p.length/\(gL lb i).p.length<=8)
  (h1:dH w a la) (h2:dH w b lb) (h3:bI w xa n R F T) (h4:bI w x' n' R' F' T'):
  Cl 49 #[Uo #[Uf a la.length ca,Uf xa n d],Uo #[Uf b lb.length cb,Uf x' n' d']] w λe w'=>(∃g c ra rc P Q,e=Ui (Uo #[Uf (Uc g) (jn R F T n la R' F' T' n' lb).length c,Uf ra (kM R F T n R' F' T' n').length rc])/\LC w' w.1.size (Uf (Uc g) (jn R F T n la R' F' T' n' lb).length c) (jn R F T n la R' F' T' n' lb) P Q/\FR w' w.1.size (Uf ra (kM R F T n R' F' T' n').length rc) (kM R F T n R' F' T' n'))/\Bl w w':=by
 have⟨W,hW⟩:=zE ((((w.alloc (Uj #[Uf a la.length ca,Uf xa n d] 28)).alloc (Uj #[Uf b lb.length cb,Uf x' n' d'] 28)).alloc (Uj #[Ue,Ue] 28)).alloc (Uj #[] 101));have b0:Bl w W:=hW▸((aU _ _ _).alloc oS _).alloc oS _;have zW:W.1.size=w.1.size+4:=hW▸oP;have A0:aD W w.1.size (Uf a la.length ca) (Uf xa n d):=by rw[<-hW];exact(((aD.made w _ _ _).allocs _).allocs _).allocs _
 have B0:aD W (w.1.size+1) (Uf b lb.length cb) (Uf x' n' d'):=by
  rw[<-hW];have:=aD.made (w.alloc (Uj #[Uf a la.length ca,Uf xa n d] 28)) (Uf b lb.length cb) (Uf x' n' d') 28;exact((by simpa using this:aD _ (w.1.size+1) _ _).allocs _).allocs _
 have R0:aD W (w.1.size+1+1) Ue Ue:=by
  rw[<-hW];have:=aD.made ((w.alloc (Uj #[Uf a la.length ca,Uf xa n d] 28)).alloc (Uj #[Uf b lb.length cb,Uf x' n' d'] 28)) Ue Ue 28;exact(by simpa using this:aD _ (w.1.size+1+1) _ _).allocs _
 have L0:LC W w.1.size (Uf (Uq (Ua (w.1.size+3) 0)) 0 0) [] (λ_=>0) (λ_=>0):=by
  refine⟨?_,λi hi=>by simp at hi⟩;have:=Vo (base:=w.1.size) (e:=101) (size:=5) (((w.alloc (Uj #[Uf a la.length ca,Uf xa n d] 28)).alloc (Uj #[Uf b lb.length cb,Uf x' n' d'] 28)).alloc (Uj #[Ue,Ue] 28)) #[] 0 oS oL rfl;rw[hW]at this;simpa using this
 have Gd:=aC A0;have Gh:=aC B0;have Gm:=aC R0;have Gw:=aC L0;have Gf:=aC b0;have G0:=aC zW;have HU:=aC (AC xa n d R F T x' n' d' R' F' T' W hn hn' (h3.bw b0) (h4.bw b0) ho ho');have H1:=aC h1;have H2:=aC h2;have H3:=aC h3;have H4:=aC h4;have Gx:=aC hpa;have Gy:=aC Hj;have Gk:=aC (And.intro hla hlb);have⟨u,Ga⟩:=zE (fZ (λx=>x∈lb\/¬cY R' F' T' n' x) la []);have⟨Y,Gb⟩:=zE (fZ (λx=>¬cY R F T n x) lb (u la.length));have⟨J,hJ⟩:=zE (jn R F T n la R' F' T' n' lb);have Ho:aA (vC (λx=>x∈lb\/¬cY R' F' T' n' x) la u 0):=aC (by rw[<-Ga];exact vC.of _ la [] 0 zL hpa (λi hi=>by simp at hi));have Hv:aA (vC (λx=>¬cY R F T n x) lb Y la.length):=aC (Gb▸vC.of _ lb _ _ (oH (Ho.len la.length zL)) Hj (Ho.pth la.length zL));have Ge:aA (u 0=[]):=aC (by rw[<-Ga];rfl);have Gg:aA (Y 0=u la.length):=aC (by rw[<-Gb];rfl);have Gv:aA (Y lb.length=J):=aC (by rw[<-Gb,<-Ga,<-hJ];rfl);rw[hJ];have k1:=A0.c1;have k2:=B0.c1;clear A0 B0 R0 L0 b0 zW h1 h2 h3 h4 hpa Hj hJ Ga Gb;go_enter func49,ntmps49;go_wp2_with fail;clear hW;refine HU.mono ?_;rintro e w1⟨vr,rfl,f1,b1⟩;have⟨ul,Gs⟩:=zE (kM R F T n R' F' T' n');rw[Gs]at f1;have⟨ra,rc,G7,_⟩:=f1.fs;subst G7;have⟨w2,Gc⟩:=zE (w1.alloc (Uj #[Uf (Uq (Ua (w.1.size+1+1+1) 0)) 0 0,Uf ra ul.length rc] 28));have b2:Bl w1 w2:=Gc▸zO _ _;have H0:=aE b1 b2;have Gj:aA (JS w w2 w1.1.size (Uf a la.length ca) (Uf xa n d) (Uf b lb.length cb) (Uf x' n' d') (w.1.size+1+1+1) 0 (Uf ra ul.length rc) (u 0) ul (λ_=>0) (λ_=>0)):=aC (by
  have hz:=G0.out;have Ka:=b1.size;rw[Ge.out];refine⟨Gf.trans (H0.mono Gf.size),Gd.bw H0 Gd.lt,Gh.bw H0 Gh.lt,Gm.bw H0 Gm.lt,Gc▸aD.made _ _ _ _,Gw.bw H0,(f1.bw b2).weak oM,oM,λe=>?_,oM,λb e=>?_⟩
  .have:=(World.ownsRow.lt f1 _ e).2;omega
  .have:=(World.ownsRow.lt f1 _ e).1;omega)
 have Gz:=aC Gs;clear f1 b1 b2 H0 k1 k2 HU Gd Gh Gm Gw Gf G0 Gs;go_wp2_with fail;clear Gc;have⟨t,hT⟩:=zE w1.1.size;rw[hT]at Gj⊢;clear hT;go_loopw [6] (λi wr=>∃(j g c:Nat) (P Q:Nat->Nat),j<=la.length/\i=Ud j/\aA (JS w wr t (Uf a la.length ca) (Uf xa n d) (Uf b lb.length cb) (Uf x' n' d') g c (Uf ra ul.length rc) (u j) ul P Q)) (λi _=>la.length-(intOf i).toNat);case atStart=>exact⟨0,_,_,_,_,UB _,rfl,Gj⟩
 case round=>
  clear Gj;obtain⟨j,g,c,P,Q,hj,rfl,I⟩:=hrel;have a0:=I.a.c0;by_cases C:j<la.length
  .have i1:(0:Int)<=(j:Int):=VH _;have i2:(j:Int)<(la.length:Int):=oM;obtain⟨ab,ao,rfl,Gp,H8⟩:=(H1.bw I.low).resolve_left oM;have⟨pa,pc,⟨H,d0⟩,sg,B,c2,c3,c4⟩:=H8 j C;obtain⟨D,S,rfl,Hj,Hq⟩:=sg.resolve_left (oH ((Gx j C).1));have Hr:=Gx j C;have⟨y,hy⟩:=zE (gL la j);rw[hy]at H B c2 c3 c4 d0 Hq Hr;have HY:=aC hy;have⟨m,U,E,s,V⟩:=y;dsimp only at H B c2 c3 c4 d0 Hq Hr;have⟨w5,Ht⟩:=zE (wr.alloc (Uj #[Uf (Uq (Ua D S)) m.length pc,Un U,Ud E,Ud s,Um V] 101));have b5:Bl wr w5:=Ht▸zO _ _;have X5:aF w5 wr.1.size (Uf (Uq (Ua D S)) m.length pc) (Un U) (Ud E) (Ud s) (Um V):=Ht▸aF.new _ _ _ _ _ _ _;have Hs:=aC<|I.bw b5;have Hw:=aC X5;have Gi:=aC d0;have Hx:=aC Hr;have H9:aA (aV w5 (Uq (Ua D S)) m):=aC<|.inr ⟨D,S,rfl,Ut Hj b5.size,λi hi=>(b5.cell (p:=(Ua D (S+i))) Hj).trans (Hq i hi)⟩;have⟨x0,x1,x2,x3,x4⟩:=X5.q5;clear hy H8 sg Hq Hj Gp b5 X5 d0 Hr I;have hf:=aC<|λw6 (b6:Bl w5 w6)=>LI b (Uq (Ua D S)) cb pc lb m U E s V w6 (oH Gk) Gi.1 Gi.2 ((H2.bw Hs.low).bw b6) (H9.bw b6);have⟨e0,e1⟩:=Hs.b.q2;go_upto_region 6 with fail;go_cut [41]from 29 to 41 (λbb wx=>∃q:Bool,bb=Un q/\aA (Bl w5 wx)/\aA (q=true->dS ⟨m,U,E,s,V⟩ (u j)=u (j+1))/\aA (q=false->u (j+1)=u j));case first=>
    go_wp2_with fail;refine(hf w5 zI).mono ?_;rintro e w6⟨⟨fi,rfl,G1⟩,b6⟩;have A:=aC<|Hs.bw b6;have He:=aC<|Hw.bw b6 Hw.lt;have Hl:=aC b6;have Gu:=aC G1;clear e0 e1 hf G1 b6 x0 x1 x2 x3 x4 a0 H B c2 c3 c4 Ht;by_cases Hg:(⟨m,U,E,s,V⟩:Lf)∈lb
    .have e0:(0:Int)<=fi:=Gu.2 Hg;have Hp:aA (dS ⟨m,U,E,s,V⟩ (u j)=u (j+1)):=aC (by rw[Ho.yes j C (by rw[HY.out];exact .inl Hg),HY.out]);clear Hg;go_wp2_with fail;go_meet;exact⟨true,rfl,Hl,aC (λ_=>Hp.out),aC (λh=>by cases h)⟩
    .have e0:¬(0:Int)<=fi:=λh=>Hg (Gu.1 h);have dd:decide ((0:Int)<=fi)=false:=decide_eq_false e0;have hh:=aC<|λz (b7:Bl w6 z)=>E5 x' n' d' R' F' T' E s z oM ((H4.bw A.low).bw b7);have y2:=He.c2;have y3:=He.c3;have z1:=A.b.c1;go_wp2_with fail;refine(hh w6 zI).mono ?_;rintro e z⟨rfl,b7⟩;have Gt:=aC<|aE Hl b7;clear b7 y2 y3 z1 hh;cases hq:cE R' F' T' E s s n' with
     |false=>have Hp:aA (dS ⟨m,U,E,s,V⟩ (u j)=u (j+1)):=aC (by rw[Ho.yes j C (by rw[HY.out];exact .inr (λh=>by unfold cY at h;rw[hq]at h;cases h)),HY.out]);clear hq Hg;go_wp2_with fail;go_meet;exact⟨true,rfl,Gt,aC (λ_=>Hp.out),aC (λh=>by cases h)⟩
     |true=>have G5:aA (u (j+1)=u j):=aC (Ho.no j C (by rw[HY.out];exact λh=>h.elim Hg (λh=>h hq)));clear hq Hg;go_wp2_with fail;go_meet;exact⟨false,rfl,Gt,aC (λh=>by cases h),aC (λ_=>G5.out)⟩
   case rest=>
   obtain⟨q,rfl,Hl,Go,Gl⟩:=hcut;have⟨w6,G4⟩:=zE wc;rw[G4]at Hl⊢;have A:=aC<|Hs.bw Hl;have He:=aC<|Hw.bw Hl Hw.lt;clear G4 e0 e1 hf x0 x1 x2 x3 x4 a0 H B c2 c3 c4 Ht;cases q with
   |true=>
    have Hp:aA (dS ⟨m,U,E,s,V⟩ (u j)=u (j+1)):=aC (Go rfl);clear Go Gl;have Hd:aA (∀w',Bl w6 w'->(w'.cell? (Ub wr.1.size)=Uq (Uf (Uq (Ua D S)) m.length pc)/\w'.cell? (Ua wr.1.size 1)=Uq (Un U)/\w'.cell? (Ua wr.1.size 2)=Uq (Ud E)/\w'.cell? (Ua wr.1.size 3)=Uq (Ud s)/\w'.cell? (Ua wr.1.size 4)=Uq (Um V))):=aC (λw' b=>by
     have X:=He.bw b He.lt;exact⟨X.c0,X.c1,X.c2,X.c3,X.c4⟩)
    have Hm:aA (∀w',Bl w6 w'->Cl 72 #[Uo #[Uf (Uq (Ua D S)) m.length pc,Un U,Ud E,Ud s,Um V]] w' λe w''=>∃q cap,e=Ui (Uo #[Uf (Uc q) m.length cap,Un U,Ud E,Ud s,Um V])/\Bl w' w''/\w'.1.size<=q/\q<w''.1.size/\Wr w'' q 9 m.length (λt=>Um (gS m t))/\m.length<=cap/\cap<=9223372036854775807):=aC (λw' b=>by
     have⟨G8,G9,e,Hz,Gq⟩:=((H9.bw Hl).bw b).resolve_left (oH Hx.1);injection e with e;injection e with e1 e2;subst e1;subst e2;exact yV D S m.length pc ⟨m,U,E,s,V⟩ w' rfl (oH Hx.2) Hz Gq)
    have Hn:aA (∀z q cap,Bl w6 z->w6.1.size<=q->q<z.1.size->Wr z q 9 m.length (λt=>Um (gS m t))->m.length<=cap/\cap<=9223372036854775807->Cl 82 #[Uf (Uc g) (u j).length c,Uo #[Uf (Uc q) m.length cap,Un U,Ud E,Ud s,Um V]] z λe w'=>(∃g' cap' P' Q',e=Ui (Uf (Uc g') ((u j).length+1) cap')/\z.1.size<=g'/\LC w' w.1.size (Uf (Uc g') ((u j).length+1) cap') (u (j+1)) P' Q')/\Bl z w'):=aC (λz q cap b7 hq1 hq2 hw hcap=>by
     have hJ:=A.bw b7;have hs:=hJ.low.size;have G6:=A.low.size;rw[<-Hp.out];exact Cm g c (u j) P Q z w.1.size q cap m U E s V hJ.lc hs (by have h1:=Ho.len j oM;have h2:=Gk.out;omega) (λi hi=>oH ((Ho.pth j oM i hi).2)) (oH Hx.2) ⟨oM,hq2⟩ hw hcap)
    have H6:aA ((u j).length+1=(u (j+1)).length):=aC (by rw[<-Hp.out,sQ]);have H7:aA (wr.1.size≠t):=aC (λe=>by
     have h1:=He.c1;rw[e,A.o.c1]at h1;cases h1)
    have t0:=(A.o.bw zI.drew A.o.lt).c0;go_wp2_with fail;refine zS Hd<|λqh=>?_;refine tZ 0 42 ?_;refine tZ 2 44 ?_;refine fU (i:=1) (j:=3) (d:=Uq 43) (d':=Uq 45) oK oK oK ?_ ?_;rotate_left;clear t0;rotate_left;all_goals intro o ho Gr K k;simp only[eB,dZ,dY,eU]at ho;subst ho
    focus
     go_simp;refine bZ k (Hd _ zI.drew)<|λqh=>?_;clear k K;clear t0;refine cZ 3 ?_;intro K k
    all_goals go_simp;refine(Hm _ zI.drew).mono ?_;rintro e z⟨q7,Hf,rfl,b7,Hb,Hc,Hk,Ha⟩;have G:Bl w6 z:=⟨b7.os,b7.tape,b7.output,b7.size,b7.block⟩;refine bZ k (Hd _ G)<|λqh=>?_;clear k K
    .exact Pf
    .have t0:=(A.o.bw G A.o.lt).c0;refine cZ 1 ?_;intro K k;go_simp;refine bZ k (Hd _ G)<|λqh=>?_;clear k K;clear t0;exact Pf
   |false=>
    have Gn:aA (JS w w6 t (Uf (Uq (Ua ab ao)) la.length ca) (Uf xa n d) (Uf b lb.length cb) (Uf x' n' d') g c (Uf ra ul.length rc) (u (j+1)) ul P Q):=aC (by
     rw[Gl rfl];exact A)
    clear Go Gl;go_wp2_with fail;go_roundw;case rel=>exact⟨j+1,g,c,P,Q,C,oN,Gn⟩
    case measure=>exact oE
  .obtain rfl:j=la.length:=oM;have H5:aA (JS w wr t (Uf a la.length ca) (Uf xa n d) (Uf b lb.length cb) (Uf x' n' d') g c (Uf ra ul.length rc) (Y 0) ul P Q):=aC (by rw[Gg.out];exact I);clear I;go_wp2_with fail;clear a0;try go_frame
   go_loopw [8] (λi wr=>∃(j g c:Nat) (P Q:Nat->Nat),j<=lb.length/\i=Ud j/\aA (JS w wr t (Uf a la.length ca) (Uf xa n d) (Uf b lb.length cb) (Uf x' n' d') g c (Uf ra ul.length rc) (Y j) ul P Q)) (λi _=>lb.length-(intOf i).toNat);case atStart=>exact⟨0,_,_,_,_,UB _,rfl,H5⟩
   case round=>
    clear H5;obtain⟨j,g,c,P,Q,hj,rfl,I⟩:=hrel;have a0:=I.b.c0;by_cases C:j<lb.length
    .have i1:(0:Int)<=(j:Int):=VH _;have i2:(j:Int)<(lb.length:Int):=oM;obtain⟨ab,ao,rfl,Gp,H8⟩:=(H2.bw I.low).resolve_left oM;have⟨pa,pc,⟨H,d0⟩,sg,B,c2,c3,c4⟩:=H8 j C;obtain⟨D,S,rfl,Hj,Hq⟩:=sg.resolve_left (oH ((Gy j C).1));have Hr:=Gy j C;have⟨y,hy⟩:=zE (gL lb j);rw[hy]at H B c2 c3 c4 d0 Hq Hr;have HY:=aC hy;have⟨m,U,E,s,V⟩:=y;dsimp only at H B c2 c3 c4 d0 Hq Hr;have⟨w5,Ht⟩:=zE (wr.alloc (Uj #[Uf (Uq (Ua D S)) m.length pc,Un U,Ud E,Ud s,Um V] 101));have b5:Bl wr w5:=Ht▸zO _ _;have X5:aF w5 wr.1.size (Uf (Uq (Ua D S)) m.length pc) (Un U) (Ud E) (Ud s) (Um V):=Ht▸aF.new _ _ _ _ _ _ _;have Hs:=aC<|I.bw b5;have Hw:=aC X5;have Gi:=aC d0;have Hx:=aC Hr;have H9:aA (aV w5 (Uq (Ua D S)) m):=aC<|.inr ⟨D,S,rfl,Ut Hj b5.size,λi hi=>(b5.cell (p:=(Ua D (S+i))) Hj).trans (Hq i hi)⟩;have⟨x0,x1,x2,x3,x4⟩:=X5.q5;clear hy H8 sg Hq Hj Gp b5 X5 d0 Hr I;have hh:=aC<|λz (b7:Bl w5 z)=>E5 xa n d R F T E s z oM ((H3.bw Hs.low).bw b7);have z1:=Hs.a.c1;go_wp2_with fail;refine(hh w5 zI).mono ?_;rintro e w6⟨rfl,b6⟩;have A:=aC<|Hs.bw b6;have He:=aC<|Hw.bw b6 Hw.lt;have Hl:=aC b6;clear z1 hh b6 x0 x1 x2 x3 x4 a0 H B c2 c3 c4 Ht;cases hh:cE R F T E s s n with
     |false=>
      have Hp:aA (dS ⟨m,U,E,s,V⟩ (Y j)=Y (j+1)):=aC (by rw[Hv.yes j C (by rw[HY.out];exact λh=>by unfold cY at h;rw[hh]at h;cases h),HY.out]);clear hh;have Hd:aA (∀w',Bl w6 w'->(w'.cell? (Ub wr.1.size)=Uq (Uf (Uq (Ua D S)) m.length pc)/\w'.cell? (Ua wr.1.size 1)=Uq (Un U)/\w'.cell? (Ua wr.1.size 2)=Uq (Ud E)/\w'.cell? (Ua wr.1.size 3)=Uq (Ud s)/\w'.cell? (Ua wr.1.size 4)=Uq (Um V))):=aC (λw' b=>by
       have X:=He.bw b He.lt;exact⟨X.c0,X.c1,X.c2,X.c3,X.c4⟩)
      have Hm:aA (∀w',Bl w6 w'->Cl 72 #[Uo #[Uf (Uq (Ua D S)) m.length pc,Un U,Ud E,Ud s,Um V]] w' λe w''=>∃q cap,e=Ui (Uo #[Uf (Uc q) m.length cap,Un U,Ud E,Ud s,Um V])/\Bl w' w''/\w'.1.size<=q/\q<w''.1.size/\Wr w'' q 9 m.length (λt=>Um (gS m t))/\m.length<=cap/\cap<=9223372036854775807):=aC (λw' b=>by
       have⟨G8,G9,e,Hz,Gq⟩:=((H9.bw Hl).bw b).resolve_left (oH Hx.1);injection e with e;injection e with e1 e2;subst e1;subst e2;exact yV D S m.length pc ⟨m,U,E,s,V⟩ w' rfl (oH Hx.2) Hz Gq)
      have Hn:aA (∀z q cap,Bl w6 z->w6.1.size<=q->q<z.1.size->Wr z q 9 m.length (λt=>Um (gS m t))->m.length<=cap/\cap<=9223372036854775807->Cl 82 #[Uf (Uc g) (Y j).length c,Uo #[Uf (Uc q) m.length cap,Un U,Ud E,Ud s,Um V]] z λe w'=>(∃g' cap' P' Q',e=Ui (Uf (Uc g') ((Y j).length+1) cap')/\z.1.size<=g'/\LC w' w.1.size (Uf (Uc g') ((Y j).length+1) cap') (Y (j+1)) P' Q')/\Bl z w'):=aC (λz q cap b7 hq1 hq2 hw hcap=>by
       have hJ:=A.bw b7;have hs:=hJ.low.size;have G6:=A.low.size;rw[<-Hp.out];exact Cm g c (Y j) P Q z w.1.size q cap m U E s V hJ.lc hs (by have h1:=Hv.len j oM;have h2:=Gk.out;omega) (λi hi=>oH ((Hv.pth j oM i hi).2)) (oH Hx.2) ⟨oM,hq2⟩ hw hcap)
      have H6:aA ((Y j).length+1=(Y (j+1)).length):=aC (by rw[<-Hp.out,sQ]);have H7:aA (wr.1.size≠t):=aC (λe=>by
       have h1:=He.c1;rw[e,A.o.c1]at h1;cases h1)
      have t0:=(A.o.bw zI.drew A.o.lt).c0;go_wp2_with fail;refine zS Hd<|λqh=>?_;refine tZ 0 66 ?_;refine tZ 2 68 ?_;refine fU (i:=1) (j:=3) (d:=Uq 67) (d':=Uq 69) oK oK oK ?_ ?_;rotate_left;clear t0;rotate_left;all_goals intro o ho Gr K k;simp only[eB,dZ,dY,eU]at ho;subst ho
      focus
       go_simp;refine bZ k (Hd _ zI.drew)<|λqh=>?_;clear k K;clear t0;refine cZ 3 ?_;intro K k
      all_goals go_simp;refine(Hm _ zI.drew).mono ?_;rintro e z⟨q7,Hf,rfl,b7,Hb,Hc,Hk,Ha⟩;have G:Bl w6 z:=⟨b7.os,b7.tape,b7.output,b7.size,b7.block⟩;refine bZ k (Hd _ G)<|λqh=>?_;clear k K
      .exact xT
      .have t0:=(A.o.bw G A.o.lt).c0;refine cZ 1 ?_;intro K k;go_simp;refine bZ k (Hd _ G)<|λqh=>?_;clear k K;clear t0;exact xT
     |true=>
      have Gn:aA (JS w w6 t (Uf a la.length ca) (Uf xa n d) (Uf (Uq (Ua ab ao)) lb.length cb) (Uf x' n' d') g c (Uf ra ul.length rc) (Y (j+1)) ul P Q):=aC (by
       rw[Hv.no j C (by rw[HY.out];exact λh=>h hh)];exact A)
      clear hh;go_wp2_with fail;go_roundw;case rel=>exact⟨j+1,g,c,P,Q,C,oN,Gn⟩
      case measure=>exact oE
    .obtain rfl:j=lb.length:=oM;rw[Gv.out]at I;have⟨o0,o1⟩:=I.o.q2;have⟨r0,r1⟩:=I.r.q2;have f0:=I.r.f 0;have f1:=I.r.f 1;have HC:=aC<|I.r.set (Uf (Uc g) J.length c) (Uf ra ul.length rc);go_wp2_with fail;have⟨s0,s1⟩:=HC.q2;have hP:∀i,i<J.length->P i≠w.1.size+1+1:=λi hi e=>by
      have hp:=Hv.pth lb.length zL;rw[Gv.out]at hp;have hw:=(I.lc.pt i hi).2.2.2.1.cell (i:=0)<|oH ((hp i hi).1);rw[e,I.r.c0]at hw;cases hw
     have G2:(Value.slice (Uc g) J.length c).ownBlock≠Uq (w.1.size+1+1):=λe=>by have h1:=jK e;have h2:=I.hg;omega
     have G3:(Value.slice ra ul.length rc).ownBlock≠Uq (w.1.size+1+1):=λe=>by have:=I.hv2 _ e;omega
     refine zF (v:=Uo #[Uf (Uc g) J.length c,Uf ra ul.length rc]) (by simp[results,results49,go_sem,s0,s1]) ⟨⟨g,c,ra,rc,P,Q,by rw[Gz.out],?_,?_⟩,?_⟩
     .exact(I.lc.set _ _ G2 hP).set _ _ G2 hP
     .rw[Gz.out];exact(I.fr.setFar _ _ G3).setFar _ _ G3
     .exact(I.low.setCell oS _).setCell oS _
def eY(S S':Sx):List Rn:=kM S.R S.F S.T S.n S'.R S'.F S'.T S'.n
noncomputable def aR(S S':Sx):Sx:=⟨jn S.R S.F S.T S.n S.l S'.R S'.F S'.T S'.n S'.l,(eY S S').length,λi=>(gR (eY S S') i).1,λi=>(gR (eY S S') i).2.1,λi=>(gR (eY S S') i).2.2⟩
noncomputable def fD(S:Sx):Bool:=yes (bG S.R S.F S.T S.n S.l)
noncomputable def fL(S S':Sx):Bool:=decide ((aR S S').l.length<=1000)&&decide ((aR S S').n<=1000)
noncomputable def bK(S S':Sx):Bool:=fD S&&fD S'&&fL S S'
def Sx.mt:Sx:=⟨[],0,λ_=>0,λ_=>0,λ_=>0⟩
noncomputable def aZ(S S':Sx):Sx:=if bK S S' then aR S S' else Sx.mt
theorem gC{S:Sx}(h:fD S=true):bG S.R S.F S.T S.n S.l:=Classical.byContradiction λhn=>by unfold fD at h;rw[aJ hn]at h;cases h
theorem DZ{S:Sx}(h:fD S=false):¬bG S.R S.F S.T S.n S.l:=λhn=>by unfold fD at h;rw[aN hn]at h;cases h
theorem nV{S S':Sx}(h:bK S S'=true):aZ S S'=aR S S':=by unfold aZ;rw[if_pos h]
theorem qE{S S':Sx}(h:bK S S'=false):aZ S S'=Sx.mt:=by unfold aZ;rw[if_neg (by rw[h];simp)]
structure aT(w:Ur)(lo:Nat)(a:Option Us)(c:Nat)(x:Option Us)(S:Sx):Prop where
 nc:∀w':Ur,w.1.size<=w'.1.size->(∀q,lo<=q->q<w.1.size->w'.1[q]? =w.1[q]?)->dH w' a S.l/\bI w' x S.n S.R S.F S.T
 cp:S.l.length<=c/\c<=9223372036854775807
theorem aT.at{S:Sx}(h:aT w lo a c x S):dH w a S.l/\bI w x S.n S.R S.F S.T:=h.nc w zL (λ_ _ _=>rfl)
theorem aT.move{S:Sx}(h:aT w lo a c x S)(hl:lo'<=lo)(hs:w.1.size<=w1.1.size)(hq:∀q,lo<=q->q<w.1.size->w1.1[q]? =w.1[q]?):aT w1 lo' a c x S:=
 ⟨λw' h1 h2=>h.nc w' (Uz hs h1) (λq h3 h4=>(h2 q (Uz hl h3) (Ut h4 hs)).trans (hq q h3 h4)),h.cp⟩
theorem aT.bw{S:Sx}(h:aT w lo a c x S)(hb:Bl w w1):aT w1 lo a c x S:=h.move zL hb.size (λq _ h2=>hb.block q h2)
theorem aT.mt(w:Ur)(lo:Nat)(a x:Option Us):aT w lo a 0 x Sx.mt:=⟨λw' _ _=>⟨.inl rfl,.inl rfl⟩,Ux _,oM⟩
theorem LC.cp{P Q:Nat->Nat}(h:LC w lo (Uf (Uc g) n c) l P Q)(hn:l.length=n):l.length<=c/\c<=9223372036854775807:=by
 rcases h.row.2 with⟨e,r⟩|⟨u,m,q,j,y,v,z,k,t,o⟩
 .injection e with e1 e2 e3;cases e1
 .injection j with e1 e2 e3;subst e3;unfold maxLen at k;omega
theorem LC.lcap{P Q:Nat->Nat}(h:LC w lo (Uf (Uc g) n c) l P Q)(hn:n=l.length):dH w (Uc g) l:=by
 refine .inr ⟨g,0,rfl,(h.lt g rfl).2,λi hi=>?_⟩;have⟨j,k,m,q,r⟩:=h.cell hn hi;refine⟨Uq ⟨P i,0,Up⟩,Q i,⟨?_,(h.pt i hi).2.2.2.2⟩,h.seg hi,?_,?_,?_,?_⟩
 .rw[UA];exact j
 .rw[UA];exact k
 .rw[UA];exact m
 .rw[UA];exact q
 .rw[UA];exact r
theorem EV{ra:Option Us}{rc:Nat}{S S':Sx}{P Q:Nat->Nat}(h:LC w lo (Uf (Uc g) (aR S S').l.length c) (aR S S').l P Q)(hf:FR w lo (Uf ra (eY S S').length rc) (eY S S')):aT w lo (Uc g) c ra (aR S S'):=⟨λw' h1 h2=>by
 have k:=h.move h1 h2;have j:FR w' lo (Uf ra (eY S S').length rc) (eY S S'):=dK hf (λq hq=>h2 q (World.ownsRow.lt hf q hq).1 (World.ownsRow.lt hf q hq).2);have⟨a,c',e,s,_,_⟩:=j.fs;injection e with e1 e2 e3;subst e1;exact⟨k.lcap rfl,s.rseg⟩,h.cp rfl⟩
theorem sA{S:Sx}(h:bG S.R S.F S.T S.n S.l):∀i,i<S.l.length->1<=(gL S.l i).p.length/\(gL S.l i).p.length<=8:=λi hi=>by
 have:=(h.2.2.1 i hi).1;exact⟨this.1.1,this.1.2.1⟩
theorem Fr{S S':Sx}(hs:eE S.R S.F S.T S.n S.l)(hs':eE S'.R S'.F S'.T S'.n S'.l):(aR S S').l.length<=2000/\(eY S S').length<=4000:=by
 have k:=hs.2.1;have m:=hs'.2.1;have q:=hs.1;have r:=hs'.1;constructor
 .have e:(aR S S').l=fZ (λx=>¬cY S.R S.F S.T S.n x) S'.l (fZ (λx=>x∈S'.l\/¬cY S'.R S'.F S'.T S'.n x) S.l [] S.l.length) S'.l.length:=rfl;rw[e];have u:=C5 (P:=λx=>¬cY S.R S.F S.T S.n x) (ls:=S'.l) (out:=fZ (λx=>x∈S'.l\/¬cY S'.R S'.F S'.T S'.n x) S.l [] S.l.length) S'.l.length;have j:=C5 (P:=λx=>x∈S'.l\/¬cY S'.R S'.F S'.T S'.n x) (ls:=S.l) (out:=[]) S.l.length;simp at j;omega
 .have:=tV (flat S'.R S'.F S'.T S'.n) (flat S.R S.F S.T S.n);rw[oO,oO]at this;show(fC (flat S.R S.F S.T S.n) (flat S'.R S'.F S'.T S'.n)).length<=4000;omega
theorem qQ{Q:Prop}(h:Q:=by
 clear j;go_enter func50,ntmps50;go_wp2_with fail;try rw[q]
 go_ret;exact⟨cG k.symm,r⟩):Q:=h
theorem Mg(a x:Option Us)(m n c d:Nat)(w:Ur)(hm:m<=1048576)(hn:n<=1048576):Cl 50 #[Uo #[Uf a m c,Uf x n d]] w (Rt w (Un (decide (m<=1000)&&decide (n<=1000)))):=by
 have⟨W,q⟩:=zE (w.alloc (Uj #[Uf a m c,Uf x n d] 28));have v:Bl w W:=q▸zO _ _;have u:aD W w.1.size (Uf a m c) (Uf x n d):=q▸aD.made _ _ _ _;have r:=aC v;have⟨i,p⟩:=u.q2;have j:aA (∀b:Bool,(b=true↔m<=1000/\n<=1000)->(decide (m<=1000)&&decide (n<=1000))=b):=aC (λb hb=>by
  cases b with
  |true=>have:=hb.1 rfl;simp[this.1,this.2]
  |false=>
   cases h:(decide (m<=1000)&&decide (n<=1000))with
   |false=>rfl
   |true=>exact absurd (hb.2 (oU h)) oP)
 have⟨B,g⟩:=zE ((decide (m<=1000)&&decide (n<=1000)));rw[g]at j⊢;by_cases y:m<=1000
 .have t:(m:Int)<=1000:=oM;by_cases z:n<=1000
  .have o:(n:Int)<=1000:=oM;have k:=aC<|j true ⟨λ_=>⟨y,z⟩,λ_=>rfl⟩;exact qQ
  .have o:¬(n:Int)<=1000:=oM;have k:=aC (j false ⟨λh=>by simp at h,λh=>absurd h.2 z⟩);exact qQ
 .have t:¬(m:Int)<=1000:=oM;have k:=aC (j false ⟨λh=>by simp at h,λh=>absurd h.1 y⟩);exact qQ
theorem Nz(sa sx ta tx:Option Us)(c d c' d':Nat)(S S':Sx)(w:Ur)(hm:S.Sm)(hm':S'.Sm)(h:eP w sa sx S)(h':eP w ta tx S'):
  Cl 24 #[Uo #[Uf sa S.l.length c,Uf sx S.n d],Uo #[Uf ta S'.l.length c',Uf tx S'.n d']] w λe w'=>∃a m x t,e=Ui (Ul #[Uo #[Uf a (aZ S S').l.length m,Uf x (aZ S S').n t],Un (bK S S')])/\aT w' w.1.size a m x (aZ S S')/\Bl w w'/\(aZ S S').l.length<=m/\m<=9223372036854775807:=by
 generalize s:((w.alloc (Uj #[Uf sa S.l.length c,Uf sx S.n d] 28)).alloc (Uj #[Uf ta S'.l.length c',Uf tx S'.n d'] 28)).alloc (Uj #[Ue,Ue] 28)=W;have N:Bl w W:=s▸(aU _ _ _).alloc oS _;have A0:aD W w.1.size (Uf sa S.l.length c) (Uf sx S.n d):=s▸((aD.made w _ _ _).allocs _).allocs _;have B0:aD W (w.1.size+1) (Uf ta S'.l.length c') (Uf tx S'.n d'):=by
  rw[<-s];have:=aD.made (w.alloc (Uj #[Uf sa S.l.length c,Uf sx S.n d] 28)) (Uf ta S'.l.length c') (Uf tx S'.n d') 28;exact(by simpa using this:aD _ (w.1.size+1) _ _).allocs _
 have R0:aD W (w.1.size+1+1) Ue Ue:=by
  rw[<-s];simpa using aD.made ((w.alloc (Uj #[Uf sa S.l.length c,Uf sx S.n d] 28)).alloc (Uj #[Uf ta S'.l.length c',Uf tx S'.n d'] 28)) Ue Ue 28
 have zW:W.1.size=w.1.size+3:=s▸oP;have HS:=aC<|h.bw N;have Hl:=aC<|h'.bw N;have L:=aC<|Ad sa c S.l sx S.n d S.R S.F S.T W hm.l1 hm.p1 hm.n1 HS.lf HS.rn;have Hc:=aC<|λw1 (k:Bl W w1)=>Ad ta c' S'.l tx S'.n d' S'.R S'.F S'.T w1 hm'.l1 hm'.p1 hm'.n1 (Hl.bw k).lf (Hl.bw k).rn;have J:=aC A0;have u:=aC B0;have Hx:=aC R0;have Hs:=aC N;have H6:=aC zW;have⟨k0,k1⟩:=A0.q2;change aA (Calls _ _ _ _ λe w'=>e=Ui (Un (fD S))/\_)at L;generalize p:fD S=B;generalize Ho:fD S'=B';have Hn:=aC p;have Hb:=aC Ho;have Hd:aA (∀w1,Bl W w1->Cl 48 #[Uo #[Uf ta S'.l.length c',Uf tx S'.n d']] w1 (Rt w1 (Un B'))):=aC<|λw1 k=>Ho▸Hc.out w1 k;rw[p]at L;go_enter func24,ntmps24;go_wp2_with fail;refine L.mono ?_;rintro e w1⟨rfl,k⟩;have He:=aC<|Hs.trans (k.mono Hs.size);have Hz:=aC k;have U:=aC<|Hx.bw k Hx.lt;cases B with
 |false=>
  have j:aA (bK S S'=false/\aZ S S'=Sx.mt):=aC (by
   have e:bK S S'=false:=(by unfold bK;rw[Hn.out];rfl);exact⟨e,qE e⟩)
  have⟨r0,r1⟩:=U.q2;have f0:=U.f 0;have f1:=U.f 1;have z:=aC<|U.set Ue Ue;go_wp2_with fail;have⟨M,O⟩:=z.q2;refine zF (v:=Ul #[Uo #[Ue,Ue],Un false]) (by simp[results,results24,go_sem,M,O]) ⟨Up,0,Up,0,by rw[j.1,j.2];rfl,?_,?_⟩
  .rw[j.2];exact aT.mt _ _ _ _
  .exact⟨(He.setCell oS _).setCell oS _,by rw[j.2];exact⟨Ux _,oM⟩⟩
 |true=>
  have l0:=(u.bw k u.lt).c0;have I:=(u.bw k u.lt).c1;go_wp2_with fail;refine(Hd w1 Hz).mono ?_;rintro e w2⟨rfl,X⟩;have Hf:=aC<|He.trans (X.mono He.size);have o:=aC<|aE Hz X;have V:=aC<|U.bw X U.lt;cases B' with
  |false=>
   have j:aA (bK S S'=false/\aZ S S'=Sx.mt):=aC (by
    have e:bK S S'=false:=(by unfold bK;rw[Hb.out];simp);exact⟨e,qE e⟩)
   have⟨r0,r1⟩:=V.q2;have f0:=V.f 0;have f1:=V.f 1;have z:=aC<|V.set Ue Ue;go_wp2_with fail;have⟨M,O⟩:=z.q2;refine zF (v:=Ul #[Uo #[Ue,Ue],Un false]) (by simp[results,results24,go_sem,M,O]) ⟨Up,0,Up,0,by rw[j.1,j.2];rfl,?_,?_⟩
   .rw[j.2];exact aT.mt _ _ _ _
   .exact⟨(Hf.setCell oS _).setCell oS _,by rw[j.2];exact⟨Ux _,oM⟩⟩
  |true=>
   have G:=gC Hn;have H:=gC Hb;have hc:=dL.1 G.1;have Hr:=dL.1 H.1;have Hm:=HS.bw o;have Ha:=Hl.bw o;have Hi:=aC (LH sa ta c c' S.l S'.l sx S.n d S.R S.F S.T tx S'.n d' S'.R S'.F S'.T w2 hc.2 Hr.2 hc.1 Hr.1 G.2.1 H.2.1 (sA G) (sA H) Hm.lf Ha.lf Hm.rn Ha.rn);have Hk:aA ((aR S S').l.length<=2000/\(eY S S').length<=4000):=aC (Fr G.w H.w);have l0:=(J.bw o J.lt).c0;have I:=(J.bw o J.lt).c1;have l2:=(u.bw o u.lt).c0;have l3:=(u.bw o u.lt).c1;have Hh:aA (jn S.R S.F S.T S.n S.l S'.R S'.F S'.T S'.n S'.l=(aR S S').l/\kM S.R S.F S.T S.n S'.R S'.F S'.T S'.n=eY S S'):=aC ⟨rfl,rfl⟩;rw[Hh.1,Hh.2]at Hi;generalize Hp:(aR S S').l.length=i;generalize Hq:(eY S S').length=b;rw[Hp,Hq]at Hi Hk;have K:=aC Hp;have Hj:=aC Hq;go_wp2_with fail;refine Hi.mono ?_;rintro e w3⟨⟨A,r,E,Y,P,Q,rfl,jl,jf⟩,b3⟩;generalize C:w3.alloc (Uj #[Uf (Uc A) i r,Uf E b Y] 28)=D;have b4:Bl w3 D:=C▸zO _ _;have X4:aD D w3.1.size (Uf (Uc A) i r) (Uf E b Y):=C▸aD.made _ _ _ _;have H3:aA (aT D w2.1.size (Uc A) r E (aR S S')):=aC (aT.bw (EV (by rw[K.out];exact jl) (by rw[Hj.out];exact jf)) b4);have Ht:=aC (Hf.trans ((aE b3 b4).mono Hf.size));have Hy:=aC (V.bw (aE b3 b4) V.lt);have Hg:=aC (Mg (Uc A) E i b r Y D (oH Hk) (oH Hk));have H0:=aC X4;have H1:aA (w.1.size+3<=w2.1.size):=aC (by have h1:=H6.out;have h2:=o.size;omega);have⟨x0,x1⟩:=X4.q2;have Hv:aA ((decide (i<=1000)&&decide (b<=1000))=fL S S'):=aC (by rw[<-K.out,<-Hj.out];rfl);rw[Hv.out]at Hg;generalize p:fL S S'=B;have Hw:=aC p;rw[p]at Hg;have H2:aA (i<=r/\r<=9223372036854775807):=aC (by
    rcases jl.row.2 with⟨e,_⟩|⟨g,cap,H9,e,_,_,H8,H7,_⟩
    .cases e
    .injection e with e1 e2 e3;rw[e3,e2];exact⟨H8,by unfold maxLen at H7;omega⟩)
   go_wp2_with fail;refine Hg.mono ?_;rintro e w5⟨rfl,Z⟩;have Hu:=aC (Ht.trans (Z.mono Ht.size));have y:=aC (Hy.bw Z Hy.lt);have H5:=aC (H0.bw Z H0.lt);have H4:=aC (H3.bw Z);cases B;have j:aA (bK S S'=false/\aZ S S'=Sx.mt):=aC (by
    have e:bK S S'=false:=(by unfold bK;rw[Hw.out];simp);exact⟨e,qE e⟩)
   rotate_left;have j:aA (bK S S'=true/\aZ S S'=aR S S'):=aC (by
    have e:bK S S'=true:=(by unfold bK;rw[Hw.out,Hn.out,Hb.out];rfl);exact⟨e,nV e⟩)
   rotate_left;all_goals have⟨r0,r1⟩:=y.q2;have f0:=y.f 0;have f1:=y.f 1
   .have z:=aC<|y.set Ue Ue;go_wp2_with fail;have⟨M,O⟩:=z.q2;refine zF (v:=Ul #[Uo #[Ue,Ue],Un false]) (by simp[results,results24,go_sem,M,O]) ⟨Up,0,Up,0,by rw[j.1,j.2];rfl,?_,?_⟩
    .rw[j.2];exact aT.mt _ _ _ _
    .exact⟨(Hu.setCell oS _).setCell oS _,by rw[j.2];exact⟨Ux _,oM⟩⟩
   .have⟨x0,x1⟩:=H5.q2;have z:=aC<|y.set (Uf (Uc A) i r) (Uf E b Y);go_wp2_with fail;have⟨M,O⟩:=z.q2;refine zF (v:=Ul #[Uo #[Uf (Uc A) i r,Uf E b Y],Un true]) (by simp[results,results24,go_sem,M,O]) ⟨Uq (Ub A),r,E,Y,by rw[j.1,j.2,K.out,show(aR S S').n=b from Hj.out],?_,?_⟩
    .rw[j.2];exact H4.move (oH H1) (by simp[Vr]) (λq h1 h2=>by
      have:=H1.out;rw[zH _ _ _ _ oS,zH _ _ _ _ oS])
    .exact⟨(Hu.setCell oS _).setCell oS _,by rw[j.2,K.out];exact H2⟩
theorem SH(sa sx ta tx:Option Us)(c d c' d':Nat)(S S':Sx)(w:Ur)(hm:S.Sm)(hm':S'.Sm)(h:eP w sa sx S)(h':eP w ta tx S'):
  Cl 24 #[Uo #[Uf sa S.l.length c,Uf sx S.n d],Uo #[Uf ta S'.l.length c',Uf tx S'.n d']] w λe w'=>∃a m x t,e=Ui (Ul #[Uo #[Uf a (aZ S S').l.length m,Uf x (aZ S S').n t],Un (bK S S')])/\aT w' w.1.size a m x (aZ S S')/\Bl w w':=
 (Nz sa sx ta tx c d c' d' S S' w hm hm' h h').mono λe w' ⟨a,m,x,t,h1,h2,h3,_⟩=>⟨a,m,x,t,h1,h2,h3⟩
open Go.Maps
theorem uD(R F T:Nat->Int)(r f t:Int):∀n,cE R F T r f t n=true->∃k,k<n/\R k=r/\F k<=f/\t<=T k
 |0,h=>by simp[cE]at h
 |n+1,h=>by
  simp only[cE,Bool.or_eq_true,decide_eq_true_eq]at h;rcases h with h|h
  .have⟨k,j,r⟩:=uD R F T r f t n h;exact⟨k,oM,r⟩
  .exact⟨n,oM,h⟩
theorem jU(h:eE R F T n l):∀x∈l,(0<=x.r/\x.r<8)/\(0<=x.q/\x.q<=1000000000)/\x.v.size<=200/\x.p.length<=8:=λx hx=>by
 have⟨i,hi,e⟩:=bJ.1 hx;have o:=h.1.1;have⟨k,t,y,z,g⟩:=uD R F T _ _ _ n (h.2.2.1 i hi).2.1;have:=(o k t).1;simp only[fR,Bool.and_eq_true,decide_eq_true_eq]at this;have j:=(h.2.2.1 i hi).1;have m:=j.1.2.1;have u:=j.2.1;rw[e]at y z g m u;exact⟨oM,oM,u,m⟩
theorem qD{S S':Sx}(h:eE S.R S.F S.T S.n S.l)(h':eE S'.R S'.F S'.T S'.n S'.l):∀x∈(aR S S').l,(0<=x.r/\x.r<8)/\(0<=x.q/\x.q<=1000000000)/\x.v.size<=200/\x.p.length<=8:=λx hx=>by
 rcases yW x hx with j|j
 .exact jU h x j
 .exact jU h' x j.1
theorem Bz(h:¬i<l.length):(gL l i).p=[]:=by simp[gL,UL,h]
theorem Sa(S S':Sx):(aZ S S').Sm:=by
 cases hb:bK S S' with
 |false=>rw[qE hb];exact⟨by simp[Sx.mt],λi=>by simp[Sx.mt,gL],by simp[Sx.mt]⟩
 |true=>
  rw[nV hb];have j:=hb;unfold bK at j;simp only[Bool.and_eq_true]at j;have⟨⟨j,m⟩,k⟩:=j;unfold fL at k;simp only[Bool.and_eq_true,decide_eq_true_eq]at k;refine⟨oM,λi=>?_,oM⟩;by_cases hi:i<(aR S S').l.length
  .have:=(qD (gC j).w (gC m).w _ (bJ.2 ⟨i,hi,rfl⟩)).2.2.2;omega
  .rw[Bz hi];simp
def bS(A B:Sx):Prop:=A.l=B.l/\A.n=B.n/\∀i,i<A.n->A.R i=B.R i/\A.F i=B.F i/\A.T i=B.T i
noncomputable def lP(S S':Sx):Bool:=bK S S'&&yes (bS (aZ S S') S')
theorem aH.up(h:aH w b v0 v1 v2)(o:Obj):aH (w.alloc o) b v0 v1 v2:=h.bw (zO w o) h.lt
def dR(S:Sx):Prop:=S.Sm/\∀i,eK (gL S.l i)
theorem mC:dR Sx.mt:=⟨⟨by simp[Sx.mt],λi=>by simp[Sx.mt,gL],by simp[Sx.mt]⟩,λi=>by
 have e:gL Sx.mt.l i=⟨[],false,0,0,ByteArray.empty⟩:=by simp[gL,Sx.mt]
 rw[e];exact⟨oD,oD⟩⟩
theorem rY{S:Sx}(h1:S.l.length<=1000)(h2:S.n<=1000)(h3:∀x∈S.l,(0<=x.r/\x.r<8)/\(0<=x.q/\x.q<=1000000000)/\x.v.size<=200/\x.p.length<=8):dR S:=by
 refine⟨⟨oM,λi=>?_,oM⟩,λi=>?_⟩
 .by_cases hi:i<S.l.length
  .have:=h3 _ (bJ.2 ⟨i,hi,rfl⟩);omega
  .rw[Bz hi];simp
 .by_cases hi:i<S.l.length
  .have⟨j,k,_⟩:=h3 _ (bJ.2 ⟨i,hi,rfl⟩);exact⟨eX oM oM,eX oM oM⟩
  .have e:gL S.l i=⟨[],false,0,0,ByteArray.empty⟩:=(by simp[gL,UL,hi]);rw[e];exact⟨oD,oD⟩
theorem yI(D Y:Sx):dR (aZ D Y):=by
 cases h:bK D Y with
 |false=>rw[qE h];exact mC
 |true=>rw[nV h];unfold bK fL at h;simp only[Bool.and_eq_true,decide_eq_true_eq]at h;exact rY h.2.1 h.2.2<|λx hx=>qD (gC h.1.1).w (gC h.1.2).w x hx
structure aM(w:Ur)(lo hi:Nat)(a x:Option Us)(d:Nat)(S:Sx):Prop where
 nc:∀w':Ur,w.1.size<=w'.1.size->(∀q,lo<=q->q<hi->w'.1[q]? =w.1[q]?)->eP w' a x S
 hl:lo<=hi/\hi<=w.1.size
theorem aM.ct{S:Sx}(h:aM w lo hi a x d S):eP w a x S:=h.nc w zL (λ_ _ _=>rfl)
theorem aM.same{S:Sx}(h:aM w lo hi a x d S)(hs:w.1.size<=w'.1.size)(hq:∀q,lo<=q->q<hi->w'.1[q]? =w.1[q]?):aM w' lo hi a x d S:=
 ⟨λw2 h1 h2=>h.nc w2 (Uz hs h1) (λq q1 q2=>(h2 q q1 q2).trans (hq q q1 q2)),h.hl.1,Uz h.hl.2 hs⟩
theorem aM.bw{S:Sx}(h:aM w lo hi a x d S)(hb:Bl w w'):aM w' lo hi a x d S:=
 h.same hb.size (λq _ h2=>hb.block q (Ut h2 h.hl.2))
theorem aM.set{S:Sx}(h:aM w lo hi a x d S)(q:Us)(u:aB)(hq:q.block<lo\/hi<=q.block):aM (w.setCell q u) lo hi a x d S:=
 h.same (by simp[Vr]) (λp h1 h2=>zH _ _ _ _ oM)
theorem aM.at{S:Sx}(h:aM w lo hi a x d S):cX w a x S:=⟨h.ct.lf.seg,h.ct.rn⟩
theorem aM.mt(w:Ur)(S:Sx)(hl:S.l.length=0)(hn:S.n=0)(lo hi:Nat)(h:lo<=hi/\hi<=w.1.size)(a x:Option Us)(d:Nat):aM w lo hi a x d S:=
 ⟨λ_ _ _=>⟨.inl hl,.inl hn⟩,h⟩
theorem aM.wide{hi':Nat}{S:Sx}(h:aM w lo hi a x d S)(h1:lo'<=lo)(h2:hi<=hi')(h3:hi'<=w.1.size):aM w lo' hi' a x d S:=
 ⟨λw2 k1 k2=>h.nc w2 k1 (λq q1 q2=>k2 q oM oM),oH h.hl,h3⟩
def pV(n:Nat)(o:Option (Nat×Nat)):aB:=Uo #[.map (mF o),.map (mS o),.map (Uq n)]
def JQ(J:List Lf)(z:List Ky)(c:Nat)(w:Ur)(e:Ending)(w':Ur):Prop:=(∃x0 N',e=Ui (Uo #[.map (Uq x0.1),.map (Uq x0.2)])/\JF w' w.1.size J z N' c x0)/\Bl w w'
def Qz(v0:Ur)(n:Nat)(h:Dt->Bool):Prop:=∀w,Bl v0 w->∀r q kl,keyOf prog 99 (aX (r,q))=Uq kl->Cl 172 #[.map (Uq n),Uo #[Ud r,Ud q]] w λe w''=>e=Ui (Un (h (r,q)))/\Bl w w''
structure JH(v0:Ur)(Na Nb:List Ky->Option (Nat×Nat))(MA MB:List Ky->Dt->Option ByteArray)(ca cb na nb:Nat)(hA hB:Dt->Bool)(J:List Lf):Prop where
 ta:bB v0 0 Na MA ca
 tb:bB v0 0 Nb MB cb
 ha:Qz v0 na hA
 hb:Qz v0 nb hB
 hJ:∀z,iH (MB z) (MA z) hA (iH (MA z) (MB z) hB (λ_=>Up))=Mk J J.length z
 hAh:∀z y,Ah J (z++[y])->Na (z++[y])≠Up\/Nb (z++[y])≠Up
theorem MO.ltv{α β:Type}{kv:α->aB}{vo:Option β->aB}{f:α->Option β}(h:MO w t kv vo mo c f)(hk:w.1.size<=k):mo≠Uq k:=λe=>by have:=h.lt k e;omega
theorem dV.nomap{α β:Type}{kv:α->aB}{vo:Option β->aB}{r cnt:Nat}{f:α->Option β}{ds:List α}(h:dV w t kv vo mo r c f ds cnt):∀k j,w.1[r]? ≠Uq (.map k j):=by
 intro k j e;cases mo with
 |none=>rw[h.1]at e;cases e
 |some b=>have⟨D,p,⟨v,u,E,A,q,o,F,i,g,m,s⟩,y,z⟩:=h;rw[m]at e;cases e
theorem Wm{v0:Ur}{Na Nb:List Ky->Option (Nat×Nat)}{MA MB:List Ky->Dt->Option ByteArray}{ca cb na nb:Nat}{hA hB:Dt->Bool}(H:JH v0 Na Nb MA MB ca cb na nb hA hB J)(z:List Ky)(c':Nat)(hc:ca+cb<=c')(hc2:c'+(ca+cb)<=1048576)
  (hIH:∀y,(Na (z++[y])≠Up\/Nb (z++[y])≠Up)->∀w,Bl v0 w->Cl 98 #[pV na (Na (z++[y])),pV nb (Nb (z++[y]))] w (JQ J (z++[y]) c' w))
  (w:Ur) (hw:Bl v0 w):
  Cl 98 #[pV na (Na z),pV nb (Nb z)] w (JQ J z (c'+(ca+cb)) w):=by
 have Gi:=aC<|H.ta.mo_marks z;have Gj:=aC<|H.tb.mo_marks z;have Ga:=aC<|H.ta.mo_kids z;have Gv:=aC<|H.tb.mo_kids z;have Kg:=aC<|fun(s:ByteArray)(k:Int)(I:Lit)(w:Ur)(hw:Bl v0 w)(P:keyOf prog 175 (aP (s,k))=Uq I)=>Sd z s k (Uq na) 0 ca Na MA w I P (H.ta.bw hw);have Kh:=aC<|fun(s:ByteArray)(k:Int)(I:Lit)(w:Ur)(hw:Bl v0 w)(P:keyOf prog 175 (aP (s,k))=Uq I)=>Sd z s k (Uq nb) 0 cb Nb MB w I P (H.tb.bw hw);have Ko:=aC hIH;have HH:=aC H;have HV:=aC hw;have HC:=aC<|And.intro hc hc2;unfold pV at Kg Kh Ko⊢;have⟨E,K7⟩:=zE (mF (Na z));have⟨X,K8⟩:=zE (mS (Na z));have⟨M,K9⟩:=zE (mF (Nb z));have⟨g,Ja⟩:=zE (mS (Nb z));rw[K7,K8]at Kg⊢;rw[K9,Ja]at Kh⊢;rw[K8]at Gi;rw[Ja]at Gj;rw[K7]at Ga;rw[K9]at Gv;clear K7 K8 K9 Ja H hIH hw hc hc2;have⟨W,hW⟩:=zE (((w.alloc (Uj #[.map E,.map X,.map (Uq na)] 111)).alloc (Uj #[.map M,.map g,.map (Uq nb)] 111)).alloc (Uj #[.map Up,.map Up] 107));have B0:Bl w W:=hW▸(aU _ _ _).alloc oS _;have X0:aH W w.1.size (.map E) (.map X) (.map (Uq na)):=by
  rw[<-hW];exact((aH.made w _ _ _ _).bw (zO _ _) (aH.made w _ _ _ _).lt).bw (zO _ _) oS
 have X1:aH W (w.1.size+1) (.map M) (.map g) (.map (Uq nb)):=by
  rw[<-hW];have:=aH.made (w.alloc (Uj #[.map E,.map X,.map (Uq na)] 111)) (.map M) (.map g) (.map (Uq nb)) 111;exact(by simpa using this:aH _ (w.1.size+1) _ _ _).bw (zO _ _) oP
 have X2:aD W (w.1.size+1+1) (.map Up) (.map Up):=by
  rw[<-hW];simpa using aD.made ((w.alloc (Uj #[.map E,.map X,.map (Uq na)] 111)).alloc (Uj #[.map M,.map g,.map (Uq nb)] 111)) (.map Up) (.map Up) 107
 have HX:=aC<|And.intro X0 (And.intro X1 X2);have Kl:=aC B0;have Js:aA (W.1.size=w.1.size+3):=aC<|hW▸oP;clear B0 X0 X1 X2;go_enter func98,ntmps98;go_wp2_with fail
 clear hW;refine(sK W).mono ?_;rintro e w1⟨s,s',rfl,Jl,hs,Ju,m1,m2,Jk⟩;obtain⟨x0,rfl,rfl⟩:∃x0:Nat×Nat,x0.1=s/\x0.2=s':=⟨(s,s'),rfl,rfl⟩;have⟨w2,G5⟩:=zE (w1.alloc (Uj #[.map (Uq x0.1),.map (Uq x0.2)] 107));have b2:Bl w1 w2:=G5▸zO _ _;have Gg:=aE Jk b2;have Gy:JB w2 w.1.size w1.1.size E X (Uq na) M g (Uq nb) x0:=⟨HX.1.bw Gg HX.1.lt,HX.2.1.bw Gg HX.2.1.lt,HX.2.2.bw Gg HX.2.2.lt,G5▸aD.made _ _ _ _⟩;have K4:aA (Bl v0 W):=aC (HV.trans (Kl.mono HV.size));have V2:Bl v0 w2:=K4.trans (Gg.mono K4.size);have Jh:=aC (aO.same m1 (b2.block _ m1.lt));have i:aA (x0.1<w1.1.size/\x0.2<w1.1.size/\x0.1≠x0.2/\w.1.size+3<=x0.1/\w.1.size+3<=x0.2/\v0.1.size<=x0.1/\v0.1.size<=x0.2):=aC (by
  have o:=Js.out;have h2:=K4.size;exact⟨m1.lt,m2.lt,Jl,oM,oM,oM,oM⟩)
 have Gk:aA (X≠Uq x0.2/\g≠Uq x0.2/\E≠Uq x0.1/\M≠Uq x0.1):=aC ⟨Gi.ltv i.2.2.2.2.2.2,Gj.ltv i.2.2.2.2.2.2,Ga.ltv i.2.2.2.2.2.1,Gv.ltv i.2.2.2.2.2.1⟩;have Gw:=aC (Zu E X M g (Uq x0.1) (Uq na) x0.2 nb ca cb 0 (MA z) (MB z) (λ_=>Up) hB w2 (Gi.bw V2 (λb e=>Gi.lt b e)) (Gj.bw V2 (λb e=>Gj.lt b e)) (aO.same m2 (b2.block _ m2.lt)) Gk.1 Gk.2.1 (oH HC)
  (λw' hg=>HH.hb w' (V2.grown hg V2.size (λk e=>by cases e;exact i.2.2.2.2.2.2))))
 have⟨p0,p1,p2⟩:=Gy.a.q3;have⟨p3,p4,p5⟩:=Gy.b.q3;have⟨p6,p7⟩:=Gy.j.q2;have Gt:=aC Gy;have K1:=aC V2;have Km:=aC<|Kl.trans (Gg.mono Kl.size);have Gb:aA (w1.1.size<w2.1.size):=aC<|G5▸oP;clear Gy V2 b2 Gg Jl hs Ju m1 m2 Jk;go_wp2_with fail
 clear G5;refine Gw.mono ?_;rintro e w3⟨rfl,m3,g3⟩;have nr:∀k,Uq x0.2=Uq k->k≠w.1.size/\k≠w.1.size+1/\k≠w.1.size+1+1/\k≠w1.1.size:=λk e=>by
  have o:=i.out;injection e with e;omega
 have Gz:=Gt.gr g3 nr;have V3:Bl v0 w3:=K1.grown g3 K1.size (λk e=>by cases e;exact i.2.2.2.2.2.2);have Gx:=aC (Zu M g E X (Uq x0.1) (Uq nb) x0.2 na cb ca (0+ca) (MB z) (MA z) (iH (MA z) (MB z) hB (λ_=>Up)) hA w3 (Gj.bw V3 (λb e=>Gj.lt b e)) (Gi.bw V3 (λb e=>Gi.lt b e)) m3 Gk.2.1 Gk.1 (oH HC)
  (λw' hg=>HH.ha w' (V3.grown hg V3.size (λk e=>by cases e;exact i.2.2.2.2.2.2))))
 clear p0 p1 p2 p3 p4 p5 p6 p7;have⟨p0,p1,p2⟩:=Gz.a.q3;have⟨p3,p4,p5⟩:=Gz.b.q3;have⟨p6,p7⟩:=Gz.j.q2;have Gu:=aC Gz;have K2:=aC V3;have Jf:=aC g3;have Jp:=aC nr;clear Gz V3 m3 g3 Gw nr;go_wp2_with fail;refine Gx.mono ?_;rintro e Y⟨rfl,m4,g4⟩;have K5:=Gu.gr g4 Jp;have V4:Bl v0 Y:=K2.grown g4 K2.size (λk e=>by cases e;exact i.2.2.2.2.2.2);have Kk:=Jf.trans g4;have K3:aA (Bl w Y):=aC (Km.grown Kk Km.size (λk e=>by have:=i.out;cases e;omega));have Ke:aA (w1.1.size<Y.1.size):=aC (Ut Gb Kk.size);have Jg:aA (JT Y w.1.size J z (λ_=>False) (λr=>if r=[] then Uq x0 else Up) c' x0):=aC ((JT.start (aO.same Jh (Kk.block _ (Nat.lt_trans i.1 Gb) (λe=>i.2.2.1 (by injection e)))) (by rw[<-HH.hJ z];exact m4) i.2.2.1 (oH i)).mono (oH HC));clear p0 p1 p2 p3 p4 p5 p6 p7;have p0:=K5.a.c0;have Kq:=aC K5;have Ki:=aC V4;have Kr:=aC (Ga.bw V4 (λb e=>Ga.lt b e));have Ji:aA (∀k,Uq x0.1=Uq k->k≠w.1.size/\k≠w.1.size+1/\k≠w.1.size+1+1/\k≠w1.1.size):=aC (λk e=>by
  have o:=i.out;injection e with e;omega)
 have Kf:aA (w.1.size<=Y.1.size):=aC K3.size;clear K5 V4 m4 g4 Kk Gx Jf K1 K2 Gt Gu Jh Km Gb;go_wp2_with (at_range;refine uY _ rfl _ 104 rfl 175 107 gH underlying104 aP bE E ca (λy=>Na (z++[y])) rfl Kr ?_;intro w0 K6 Ho Hv Jc);have Gp:aA (Y.grownBy w0 (Uq x0.1)):=aC<|Hv.but _;have Gs:aA (JT w0 w.1.size J z (λu=>u∈([]:List Ky)) (λr=>if r=[] then Uq x0 else Up) (c'+([]:List Ky).length) x0):=aC<|(Jg.kept' (r:=Y.1.size) (Hv.but _) (λes cl e=>oH ((Array.getElem?_eq_some_iff.1 e).1))).congr (λu=>oP);have Hh:=aC (Kq.gr Hv (λk e=>by cases e));clear Hv Jc Jg p0;try go_frame
 go_loopw [] (λwr=>∃(p:List Ky) (Ge:Nat) (N:List Ky->Option (Nat×Nat)),dV wr 175 aP bE E Y.1.size ca (λy=>Na (z++[y])) p Ge/\aA (JT wr w.1.size J z (λu=>u∈p) N (c'+p.length) x0)/\aA (JB wr w.1.size w1.1.size E X (Uq na) M g (Uq nb) x0)/\aA (Y.grownBy wr (Uq x0.1))) (λwr=>wr.rangeLeft (E.getD 0) Y.1.size);case atStart=>exact⟨[],_,_,Ho,Gs,Hh,Gp⟩
 case round=>
  clear Ho Gs Gp Hh;have⟨p,Ge,N,Hx,Gh,R,H1⟩:=hrel;have Ha:=aC Hx;go_wp2_with (at_next;refine uV _ rfl _ rfl 175 gH aP (λ_ _=>oB) (λkey I P=>uS P) bE E Y.1.size ca (λy=>Na (z++[y])) p Ge rfl Hx ?_ ?_)
  .intro P;have Kt:=aC P;have Je:aA (p.length<=ca):=aC<|oH Ha.len;obtain⟨V,hV⟩:∃V,V=wr:=⟨_,rfl⟩;subst hV;have V5:Bl v0 V:=Ki.grown H1 Ki.size (λk e=>by have:=i.out;cases e;omega);have Jj:=aC V5;have Gd:aA (Bl w V):=aC (K3.grown H1 K3.size (λk e=>by have:=i.out;cases e;omega));have Kz:aA (w1.1.size<V.1.size):=aC<|Ut Ke H1.size;have K0:aA (w.1.size<=V.1.size):=aC Gd.size;have Ks:=aC<|Gv.bw V5 (λb e=>Gv.lt b e);have p0:=R.b.c0;clear P Hx V5 Ha Kf;go_wp2_with (at_range;refine uY _ rfl _ 104 rfl 175 107 gH underlying104 aP bE M cb (λy=>Nb (z++[y])) rfl Ks ?_;intro w0 K6 Ho Hv Jc);have Gp:aA (V.grownBy w0 (Uq x0.1)):=aC<|Hv.but _;have Gs:aA (JT w0 w.1.size J z (λu=>u∈p\/u∈([]:List Ky)) N (c'+p.length+([]:List Ky).length) x0):=aC<|(Gh.kept' (r:=V.1.size) (Hv.but _) (λes cl e=>oH ((Array.getElem?_eq_some_iff.1 e).1))).congr (λu=>oP);have Hh:=aC (R.gr Hv (λk e=>by cases e));clear Hv Jc p0;try go_frame
   clear H1 Gh R;go_loopw [] (λwr=>∃(S:List Ky) (Ge:Nat) (N:List Ky->Option (Nat×Nat)),dV wr 175 aP bE M V.1.size cb (λy=>Nb (z++[y])) S Ge/\aA (JT wr w.1.size J z (λu=>u∈p\/u∈S) N (c'+p.length+S.length) x0)/\aA (JB wr w.1.size w1.1.size E X (Uq na) M g (Uq nb) x0)/\aA (V.grownBy wr (Uq x0.1))) (λwr=>wr.rangeLeft (M.getD 0) V.1.size);case atStart=>exact⟨[],_,_,Ho,Gs,Hh,Gp⟩
   case round=>
    clear Ho Gs Gp Hh;have⟨S,Ge,N,Hx,Gh,R,H1⟩:=hrel;have Ha:=aC Hx;go_wp2_with (at_next;refine uV _ rfl _ rfl 175 gH aP (λ_ _=>oB) (λkey I P=>uS P) bE M V.1.size cb (λy=>Nb (z++[y])) S Ge rfl Hx ?_ ?_)
    .intro P;have HE:aA (JF wr w.1.size J z N (c'+(ca+cb)) x0):=aC ((Gh.full (λy hy=>by
      rcases HH.hAh z y hy with h|h
      .exact .inl<|(Kt.2 y).2 h
      .exact .inr ((P.2 y).2 h))).mono (by have o:=Ha.len;have h2:=Je.out;omega))
     have Jn:aA (Bl w wr):=aC (Gd.grown H1 Gd.size (λk e=>by have:=i.out;cases e;omega));have⟨r0,r1⟩:=R.r.q2;have f0:=R.r.f 0;have f1:=R.r.f 1;have⟨j0,j1⟩:=R.j.q2;have Jm:=aC<|R.r.set (.map (Uq x0.1)) (.map (Uq x0.2));clear P Hx;go_wp2_with fail;have⟨s0,s1⟩:=Jm.q2;refine zF (v:=Uo #[.map (Uq x0.1),.map (Uq x0.2)]) (by simp[results,results98,go_sem,s0,s1]) ⟨⟨x0,N,rfl,?_⟩,?_⟩
     .have hb:=R.r;exact⟨(HE.tre.set _ hb.c0).set (v:=.map Up) _ (by simp[World.cell?_setCell_other,hb.c1]),HE.root,HE.there⟩
     .exact(Jn.setCell oS _).setCell oS _
    .intro q m Jv Jw L Gf bm G3 G0 G4 I G1 Hp Hl Hw Jd Jb;have Kx:aA (Na (z++[(q,m)])≠Up\/Nb (z++[(q,m)])≠Up):=aC (Or.inr (by rw[show Nb (z++[(q,m)])=_ from G0];simp));have H2:=aC G1;have Kn:aA (c'+p.length+S.length<1048576):=aC (by have o:=Ha.len;have h2:=HC.out;have h3:=Je.out;omega);have Kd:aA (∀t,dV t 175 aP bE M V.1.size cb (λy=>Nb (z++[y])) (S++[(q,m)]) Gf->t.rangeLeft (M.getD 0) V.1.size<wr.rangeLeft (M.getD 0) V.1.size):=aC (λt h9=>by
      have o:=Ha.out;rw[G3]at h9 o⊢;show t.rangeLeft bm _<wr.rangeLeft bm _;rw[h9.left_eq,o.left_eq];exact Hl)
     have Jq:=aC G4;have Gq:aA (V.grownBy L (Uq x0.1)):=aC (H1.andThen Hw (λj e=>by cases e;exact .inl zL));have Kc:=aC<|Gh.kept' Hw Ha.nomap;have H8:=aC (R.gr Hw (λk e=>by have o:=Kz.out;have h2:=i.out;cases e;omega));have Hq:=aC Hp;have⟨Hz,G6⟩:=zE (L.alloc (Uj #[Um q,Ud m] 175));have Kj:Bl L Hz:=G6▸zO _ _;have H9:aA (aD Hz L.1.size (Um q) (Ud m)):=aC<|G6▸aD.made _ _ _ _;have Hi:=aC<|H8.bw Kj;have H4:aA (V.grownBy Hz (Uq x0.1)):=aC<|Gq.trans (sR Kj _);have Gc:aA (Bl v0 Hz):=aC (Jj.grown H4 Jj.size (λk e=>by have:=i.out;cases e;omega));have G2:=(Ga.bw Gc (λb e=>Ga.lt b e)).look_ok gH underlying104 (Cz Hz) (x:=(q,m)) H2;have q0:=Hi.a.c0;have⟨q1,q2⟩:=H9.q2;have Gl:=aC Kj;clear G0 G4 G1 Hx Hp Hl Hw Jd G3 Kj;dsimp only[aP,bE]at Jb G2⊢;cases hna:Na (z++[(q,m)])with
     |some y9=>
      rw[hna]at G2;have⟨A,Hy⟩:=zE (Hz.alloc (Uj #[.map (Uq y9.1),.map (Uq y9.2)] 107));have U:Bl Hz A:=Hy▸zO _ _;have B6:=aE Gl U;have Hr:=aC<|Hq.same (λb e=>B6.block b (Hq.mlt b e)) (B6.block _ Hq.lt);have H7:=aC<|Kc.bw B6;have Hc:=aC<|Hi.bw U;have H0:aA (V.grownBy A (Uq x0.1)):=aC<|H4.trans (sR U _);have Jo:aA ((q,m)∈p):=aC ((Kt.2 _).2 (by show Na (z++[(q,m)])≠Up;rw[hna];simp));clear hna U B6;dsimp only[YY]at G2;go_wp2_with fail
      go_roundw;case rel=>exact⟨_,_,N,Hr,aC ((H7.congr (λu=>by
       constructor
       .rintro(h|h)
        .exact .inl h
        .exact .inr (by simp[h])
       .rintro(h|h)
        .exact .inl h
        .rcases List.mem_append.1 h with h|h
         .exact .inr h
         .rw[List.mem_singleton.1 h];exact .inl Jo)).mono oP),Hc,H0⟩
      case measure=>exact Kd A Hr
     |none=>
      rw[hna]at G2;have Kw:aA (¬((q,m)∈p\/(q,m)∈S)):=aC (λh=>h.elim (λh=>(Kt.2 _).1 h hna) Jq);have⟨A,Hy⟩:=zE (Hz.alloc (Uj #[.map Up,.map Up] 107));have U:Bl Hz A:=Hy▸zO _ _;have B6:=aE Gl U;have Hr:=aC (Hq.same (λb e=>B6.block b (Hq.mlt b e)) (B6.block _ Hq.lt));have H7:=aC (Kc.bw B6);have Hc:=aC (Hi.bw U);have Hs:=aC (H9.bw U H9.lt);have H0:aA (V.grownBy A (Uq x0.1)):=aC (H4.trans (sR U _));have C:aA (Bl v0 A):=aC (Gc.trans (U.mono Gc.size));have Kv:aA (∀k,Uq x0.1=Uq k->k≠L.1.size):=aC (λk e=>by have o:=i.out;have h2:=Kz.out;have h3:=Gq.size;cases e;omega);have Ku:aA (∀b,M=Uq b->Uq x0.1≠Uq b):=aC (λb e h=>Gk.2.2.2 (by rw[e,h]));have Kp:aA (Uq x0.1≠Uq V.1.size):=aC (λe=>by have o:=i.out;have h2:=Kz.out;injection e with e;omega);have Jr:=aC Hy;clear U B6 hna Hy;dsimp only[YY]at G2;have Kf:=K0;have⟨G8,Hd⟩:=zE (mF (Na (z++[(q,m)])));have⟨G9,He⟩:=zE (mS (Na (z++[(q,m)])));have⟨Ka,Hf⟩:=zE (mF (Nb (z++[(q,m)])));have⟨Kb,Hg⟩:=zE (mS (Nb (z++[(q,m)])));have Gm:aA (∀w1,Bl A w1->Cl 136 #[Uo #[.map E,.map X,.map (Uq na)],Uo #[Um q,Ud m]] w1 (Rt w1 (Uo #[.map G8,.map G9,.map (Uq na)]))):=aC (λw1 g=>by have:=Kg q m I w1 (C.trans (g.mono C.size)) H2;rw[Hd,He]at this;exact this);have Gn:aA (∀w1,Bl A w1->Cl 136 #[Uo #[.map M,.map g,.map (Uq nb)],Uo #[Um q,Ud m]] w1 (Rt w1 (Uo #[.map Ka,.map Kb,.map (Uq nb)]))):=aC (λw1 g=>by have:=Kh q m I w1 (C.trans (g.mono C.size)) H2;rw[Hf,Hg]at this;exact this);have Go:aA (∀w1,Bl A w1->Cl 98 #[Uo #[.map G8,.map G9,.map (Uq na)],Uo #[.map Ka,.map Kb,.map (Uq nb)]] w1 (JQ J (z++[(q,m)]) c' w1)):=aC (λw1 g=>by have:=Ko (q,m) Kx w1 (C.trans (g.mono C.size));rw[Hd,He,Hf,Hg]at this;exact this);have T:aA (∀w',Bl A w'->(w'.cell? (Ub w1.1.size)=Uq (.map (Uq x0.1))/\w'.cell? (Ua w1.1.size 1)=Uq (.map (Uq x0.2))/\w'.cell? (Ub L.1.size)=Uq (Um q)/\w'.cell? (Ua L.1.size 1)=Uq (Ud m)/\w'.cell? (Ub w.1.size)=Uq (.map E)/\w'.cell? (Ua w.1.size 1)=Uq (.map X)/\w'.cell? (Ua w.1.size 2)=Uq (.map (Uq na))/\w'.cell? (Ua (w.1.size+1) 0)=Uq (.map M)/\w'.cell? (Ua (w.1.size+1) 1)=Uq (.map g)/\w'.cell? (Ua (w.1.size+1) 2)=Uq (.map (Uq nb)))):=aC (λw1 g=>(Hc.bw g).sees (Hs.bw g Hs.lt));have Gr:aA (∀t Q G,Bl A t->∀B,JF t B J (z++[(q,m)]) G c' Q->Cl 135 #[Uo #[.map (Uq x0.1),.map (Uq x0.2)],Uo #[Um q,Ud m],Uo #[.map (Uq Q.1),.map (Uq Q.2)]] t λe w'=>e=Ui (Ul #[])/\t.grownBy w' (Uq x0.1)/\
        (jV (λu=>G [u]) (Mk J J.length (z++[(q,m)]))->aO w' 175 aP bE x0.1 (c'+p.length+S.length+1) (dE (λu=>N [u]) (q,m) (Uq Q)))/\(¬jV (λu=>G [u]) (Mk J J.length (z++[(q,m)]))->Bl t w')):=aC (λt Q G b9 B o=>by
       have hj:=H7.bw b9;have Hu:=o.mono (show c'<=c'+p.length+S.length by omega);exact Qg x0 Q q m (c'+p.length+S.length) (λu=>N [u]) (λu=>G [u]) (Mk J J.length (z++[(q,m)])) t I H2 (hj.tre.kids [] x0 hj.root) (Hu.tre.kids [] Q Hu.root) ((Hu.tre.marks [] Q Hu.root).ext λd=>oP) Kn)
      clear Hd He Hf Hg;go_wp2_with fail;rw[Jr.out];refine zS T<|λqh=>?_;refine tY 0 55 ?_;refine tY 2 57 ?_;refine tY 5 60 ?_;refine cZ 4 ?_;intro K O;go_simp;refine(Gm _ zI.drew).mono ?_;rintro e w7⟨rfl,b7⟩;have Ht:Bl A w7:=⟨b7.os,b7.tape,b7.output,b7.size,b7.block⟩;refine bZ O (T _ Ht)<|λqh=>?_;clear O K;refine cZ 7 ?_;intro K O;go_simp;refine(Gn _ Ht).mono ?_;rintro e w8⟨rfl,b8⟩;have D:=aE Ht b8;refine bZ O (T _ D)<|λqh=>?_;clear O K;refine cZ 8 ?_;intro K O;go_simp;refine(Go _ D).mono ?_;rintro e t⟨⟨Q,G,rfl,o⟩,b9⟩;have Z:=aE D b9;refine bZ O (T _ Z)<|λqh=>?_;clear O K;have H5:=aC o;clear o;refine cZ 9 ?_;intro K O;go_simp;refine(Gr t Q G Z _ H5).mono ?_;rintro e G7⟨rfl,F,Hm,Hn⟩;have Hb:=aC<|(Hc.bw Z).gr F Ji;refine bZ O (Hb.sees ((Hs.bw Z Hs.lt).gr F Kv))<|λqh=>?_;clear O K;refine zD ?_;have⟨Jt,Hk⟩:=(H7.bw D).round b9 (H5.mono (show c'<=c'+p.length+S.length by omega)) (Uz (Uz Kf H0.size) D.size) Kw F Hm Hn;have H3:aA (V.grownBy G7 (Uq x0.1)):=aC<|(H0.trans (sR Z _)).trans F;have Hj:=aC<|(Hr.same (λb e=>Z.block b (Hr.mlt b e)) (Z.block _ Hr.lt)).kept F Ku Kp;have H6:=aC Hk;clear qh b7 Ht b8 D b9 Z F Hm Hn Hk T Gm Gn Go Gr H5;go_wp2_with fail;go_roundw;case rel=>exact⟨_,_,_,Hj,aC (by simpa[UF]using H6.congr (λu=>by simp[or_assoc])),Hb,H3⟩
      case measure=>exact Kd G7 Hj
  .intro q m Jv Jw L Gf bm G3 G0 G4 I G1 Hp Hl Hw Jd Jb;have Kx:aA (Na (z++[(q,m)])≠Up\/Nb (z++[(q,m)])≠Up):=aC (Or.inl (by rw[show Na (z++[(q,m)])=_ from G0];simp));have Kw:aA (¬(q,m)∈p):=aC G4;have H2:=aC G1;have Kn:aA (c'+p.length<1048576):=aC (by have o:=Ha.len;have h2:=HC.out;omega);have Kd:aA (∀t,dV t 175 aP bE E Y.1.size ca (λy=>Na (z++[y])) (p++[(q,m)]) Gf->t.rangeLeft (E.getD 0) Y.1.size<wr.rangeLeft (E.getD 0) Y.1.size):=aC (λt h9=>by
    have o:=Ha.out;rw[G3]at h9 o⊢;show t.rangeLeft bm _<wr.rangeLeft bm _;rw[h9.left_eq,o.left_eq];exact Hl)
   have Gq:aA (Y.grownBy L (Uq x0.1)):=aC (H1.andThen Hw (λj e=>by cases e;exact .inl zL));have Kc:=aC (Gh.kept' Hw Ha.nomap);have H8:=aC (R.gr Hw (λk e=>by have o:=Ke.out;have h2:=i.out;cases e;omega));have Hq:=aC Hp;have⟨A,Hy⟩:=zE (L.alloc (Uj #[Um q,Ud m] 175));have U:Bl L A:=Hy▸zO _ _;have Hs:aA (aD A L.1.size (Um q) (Ud m)):=aC (Hy▸aD.made _ _ _ _);have Hr:=aC (Hq.same (λb e=>U.block b (Hq.mlt b e)) (U.block _ Hq.lt));have H7:=aC (Kc.bw U);have Hc:=aC (H8.bw U);have H0:aA (Y.grownBy A (Uq x0.1)):=aC (Gq.trans (sR U _));have C:aA (Bl v0 A):=aC (Ki.grown H0 Ki.size (λk e=>by have:=i.out;cases e;omega));have Kv:aA (∀k,Uq x0.1=Uq k->k≠L.1.size):=aC (λk e=>by have o:=i.out;have h2:=Ke.out;have h3:=Gq.size;cases e;omega);have Ku:aA (∀b,E=Uq b->Uq x0.1≠Uq b):=aC (λb e h=>Gk.2.2.1 (by rw[e,h]));have Kp:aA (Uq x0.1≠Uq Y.1.size):=aC (λe=>by have o:=i.out;have h2:=Ke.out;injection e with e;omega);clear G0 G4 G1 Hx Hp Hl Hw Jd G3 U;dsimp only[aP,bE]at Jb⊢;have⟨G8,Hd⟩:=zE (mF (Na (z++[(q,m)])));have⟨G9,He⟩:=zE (mS (Na (z++[(q,m)])));have⟨Ka,Hf⟩:=zE (mF (Nb (z++[(q,m)])));have⟨Kb,Hg⟩:=zE (mS (Nb (z++[(q,m)])));have Gm:aA (∀w1,Bl A w1->Cl 136 #[Uo #[.map E,.map X,.map (Uq na)],Uo #[Um q,Ud m]] w1 (Rt w1 (Uo #[.map G8,.map G9,.map (Uq na)]))):=aC (λw1 g=>by have:=Kg q m I w1 (C.trans (g.mono C.size)) H2;rw[Hd,He]at this;exact this);have Gn:aA (∀w1,Bl A w1->Cl 136 #[Uo #[.map M,.map g,.map (Uq nb)],Uo #[Um q,Ud m]] w1 (Rt w1 (Uo #[.map Ka,.map Kb,.map (Uq nb)]))):=aC (λw1 g=>by have:=Kh q m I w1 (C.trans (g.mono C.size)) H2;rw[Hf,Hg]at this;exact this);have Go:aA (∀w1,Bl A w1->Cl 98 #[Uo #[.map G8,.map G9,.map (Uq na)],Uo #[.map Ka,.map Kb,.map (Uq nb)]] w1 (JQ J (z++[(q,m)]) c' w1)):=aC (λw1 g=>by have:=Ko (q,m) Kx w1 (C.trans (g.mono C.size));rw[Hd,He,Hf,Hg]at this;exact this);have T:aA (∀w',Bl A w'->(w'.cell? (Ub w1.1.size)=Uq (.map (Uq x0.1))/\w'.cell? (Ua w1.1.size 1)=Uq (.map (Uq x0.2))/\w'.cell? (Ub L.1.size)=Uq (Um q)/\w'.cell? (Ua L.1.size 1)=Uq (Ud m)/\w'.cell? (Ub w.1.size)=Uq (.map E)/\w'.cell? (Ua w.1.size 1)=Uq (.map X)/\w'.cell? (Ua w.1.size 2)=Uq (.map (Uq na))/\w'.cell? (Ua (w.1.size+1) 0)=Uq (.map M)/\w'.cell? (Ua (w.1.size+1) 1)=Uq (.map g)/\w'.cell? (Ua (w.1.size+1) 2)=Uq (.map (Uq nb)))):=aC (λw1 g=>(Hc.bw g).sees (Hs.bw g Hs.lt));have Gr:aA (∀t Q G,Bl A t->∀B,JF t B J (z++[(q,m)]) G c' Q->Cl 135 #[Uo #[.map (Uq x0.1),.map (Uq x0.2)],Uo #[Um q,Ud m],Uo #[.map (Uq Q.1),.map (Uq Q.2)]] t λe w'=>e=Ui (Ul #[])/\t.grownBy w' (Uq x0.1)/\
     (jV (λu=>G [u]) (Mk J J.length (z++[(q,m)]))->aO w' 175 aP bE x0.1 (c'+p.length+1) (dE (λu=>N [u]) (q,m) (Uq Q)))/\(¬jV (λu=>G [u]) (Mk J J.length (z++[(q,m)]))->Bl t w')):=aC (λt Q G b9 B o=>by
    have hj:=H7.bw b9;have Hu:=o.mono (show c'<=c'+p.length by omega);exact Qg x0 Q q m (c'+p.length) (λu=>N [u]) (λu=>G [u]) (Mk J J.length (z++[(q,m)])) t I H2 (hj.tre.kids [] x0 hj.root) (Hu.tre.kids [] Q Hu.root) ((Hu.tre.marks [] Q Hu.root).ext λd=>oP) Kn)
   clear Hd He Hf Hg;go_wp2_with fail;refine zS T<|λqh=>?_;refine tY 0 27 ?_;refine tY 2 29 ?_;refine tY 5 32 ?_;refine cZ 4 ?_;intro K O;go_simp;refine(Gm _ zI.drew).mono ?_;rintro e w7⟨rfl,b7⟩;have Ht:Bl A w7:=⟨b7.os,b7.tape,b7.output,b7.size,b7.block⟩;refine bZ O (T _ Ht)<|λqh=>?_;clear O K;refine cZ 7 ?_;intro K O;go_simp;refine(Gn _ Ht).mono ?_;rintro e w8⟨rfl,b8⟩;have D:=aE Ht b8;refine bZ O (T _ D)<|λqh=>?_;clear O K;refine cZ 8 ?_;intro K O;go_simp;refine(Go _ D).mono ?_;rintro e t⟨⟨Q,G,rfl,o⟩,b9⟩;have Z:=aE D b9;refine bZ O (T _ Z)<|λqh=>?_;clear O K;have H5:=aC o;clear o;refine cZ 9 ?_;intro K O;go_simp;refine(Gr t Q G Z _ H5).mono ?_;rintro e G7⟨rfl,F,Hm,Hn⟩;have Hb:=aC<|(Hc.bw Z).gr F Ji;refine bZ O (Hb.sees ((Hs.bw Z Hs.lt).gr F Kv))<|λqh=>?_;clear O K;refine zD ?_;have⟨Jt,Hk⟩:=(H7.bw D).round b9 (H5.mono (show c'<=c'+p.length by omega)) (Uz (Uz Kf H0.size) D.size) Kw F Hm Hn;have H3:aA (Y.grownBy G7 (Uq x0.1)):=aC<|(H0.trans (sR Z _)).trans F;have Hj:=aC<|(Hr.same (λb e=>Z.block b (Hr.mlt b e)) (Z.block _ Hr.lt)).kept F Ku Kp;have H6:=aC Hk;clear qh b7 Ht b8 D b9 Z F Hm Hn Hk T Gm Gn Go Gr H5;go_wp2_with fail;go_roundw;case rel=>exact⟨_,_,_,Hj,aC (by simpa[UF]using H6.congr (λu=>oP)),Hb,H3⟩
   case measure=>exact Kd G7 Hj
theorem Zv{v0:Ur}{Na Nb:List Ky->Option (Nat×Nat)}{MA MB:List Ky->Dt->Option ByteArray}{ca cb na nb:Nat}{hA hB:Dt->Bool}{J:List Lf}(H:JH v0 Na Nb MA MB ca cb na nb hA hB J)(hd:∀p,(Na p≠Up\/Nb p≠Up)->p.length<=8)(hc:10*(ca+cb)<=1048576):
  ∀d z,z.length+d=8->∀w,Bl v0 w->Cl 98 #[pV na (Na z),pV nb (Nb z)] w (JQ J z ((d+2)*(ca+cb)) w)
 |0,z,hz,w,hw=>by
  have:=Wm H z (ca+cb) zL oM (λy hy=>absurd (hd _ hy) oS) w hw;rw[show(0+2)*(ca+cb)=ca+cb+(ca+cb) by omega];exact this
 |d+1,z,hz,w,hw=>by
  have e:(d+2)*(ca+cb)+(ca+cb)=(d+1+2)*(ca+cb):=by rw[show d+1+2=(d+2)+1 by omega,Nat.add_mul (d+2) 1,Nat.one_mul]
  have j:(d+1+2)*(ca+cb)<=10*(ca+cb):=UH _ oM;have k:1*(ca+cb)<=(d+2)*(ca+cb):=UH _ oM;rw[<-e];exact Wm H z ((d+2)*(ca+cb)) oM oM (λy hy=>Zv H hd hc d (z++[y]) oS) w hw
theorem Bq(J:List Lf)(z:List Ky):cW J z<=J.length:=YH _ _
theorem P5(J:List Lf)(z:List Ky):mW J z<=J.length:=YH _ _
theorem Fo(J:List Lf)(z:List Ky):∀ds:List Ky,(ds.map λy=>cW J (z++[y])).sum<=ds.length*J.length
 |[]=>UB _
 |y::r=>by
  have j:=Fo J z r;have k:=Bq J<|z++[y];simp only[UQ,Yg,UP,Nat.add_mul,Nat.one_mul];omega
structure TJ(w:Ur)(B:Nat)(J:List Lf)(N:List Ky->Option (Nat×Nat))(c:Nat):Prop where
 tre:bB w B N (λr=>Mk J J.length r) c
 there:∀z y,(N (z++[y])).isSome=true↔Ah J (z++[y])
 dis:fK J J.length
theorem JF.tj{N:List Ky->Option (Nat×Nat)}(h:JF w B J [] N c x0)(hd:fK J J.length):TJ w B J N c:=
 ⟨oU h.tre,λz y=>by
  cases z with
  |nil=>simpa using h.there y []
  |cons u r=>simpa using h.there u (r++[y]),hd⟩
theorem TJ.bw{N:List Ky->Option (Nat×Nat)}(h:TJ w B J N c)(hb:Bl w w'):TJ w' B J N c:=⟨h.tre.bw hb,h.there,h.dis⟩
theorem TJ.deep{N:List Ky->Option (Nat×Nat)}(h:TJ w B J N c)(h8:∀x∈J,(aS x).length<=8):∀p,N p≠Up->p.length<=8:=λp hp=>by
 by_cases e:p=[]
 .rw[e];simp
 .obtain⟨z,y,rfl⟩:∃z y,p=z++[y]:=⟨p.dropLast,p.getLast e,(YI e).symm⟩;have j:(N (z++[y])).isSome=true:=by
   cases hv:N (z++[y])with
   |none=>exact absurd hv hp
   |some v=>rfl
  have⟨x,m,k⟩:=(h.there z y).1 j;exact Uz k.length_le<|h8 x m
theorem Zm{v0:Ur}{N:List Ky->Option (Nat×Nat)}(H:TJ v0 B J N c)(hc:c<=1048576)(hJ:J.length<=1048576)(z:List Ky)(x:Nat×Nat)(hx:N z=Uq x)
  (hIH:∀y g,N (z++[y])=Uq g->∀w,Bl v0 w->Cl 100 #[Uo #[.map (Uq g.1),.map (Uq g.2)]] w (Rt w (Ud (cW J (z++[y])))))
  (w:Ur) (hw:Bl v0 w):
  Cl 100 #[Uo #[.map (Uq x.1),.map (Uq x.2)]] w (Rt w (Ud (cW J z))):=by
 have HT:=aC<|H.bw hw;have HV:=aC hw;have HI:=aC hIH;generalize I:w.alloc (Uj #[.map (Uq x.1),.map (Uq x.2)] 107)=W;have o:Bl w W:=I▸zO _ _;have X0:aD W w.1.size (.map (Uq x.1)) (.map (Uq x.2)):=I▸aD.made _ _ _ _;have Ht:=(HT.tre.bw o).marks z x hx;have⟨D,G⟩:=Ht;generalize p:mW J z=m;have Hs:∀ty,(Builtin.len_ #[105] ty #[.map (Uq x.2)]).run prog W=.ok (Ud (m:Nat)) W:=λty=>by rw[<-p,<-SV H.dis G];exact G.own.len underlying105 ty
 have Hx:m<=1048576:=p▸Uz (P5 J z) hJ;have HM:=aC p;have Hl:=aC<|(HT.tre.bw o).kids z x hx;have F:=aC o;have⟨x0,g⟩:=X0.q2;have S:=aC<|And.intro hc hJ;have Ho:=aC H.there;clear H hc hx hIH hw o X0 G p hJ;go_enter func100,ntmps100;go_wp2_with (at_range;refine uY _ rfl _ 104 rfl 175 107 gH underlying104 aP bE (Uq x.1) c (λy=>N (z++[y])) rfl Hl ?_;intro w0 Hq Hc r Hv);have R:aA (Bl W w0):=aC ⟨r.os,r.tape,r.output,r.size,λk q=>r.block k q oP⟩;clear r Hv Hs x0 g I;try go_frame
 go_loopw [3] (λt wr=>∃(j:List Ky) (Z T:Nat),t=Ud T/\dV wr 175 aP bE (Uq x.1) W.1.size c (λy=>N (z++[y])) j Z/\aA (T=m+(j.map λy=>cW J (z++[y])).sum)/\aA (Bl W wr)) (λt wr=>wr.rangeLeft x.1 W.1.size);case atStart=>exact⟨[],_,m,rfl,Hc,aC oP,R⟩
 case round=>
  clear Hc R;obtain⟨j,Z,T,rfl,s,Y,Q⟩:=hrel;have Ha:=aC s;go_wp2_with (at_next;refine uV _ rfl _ rfl 175 gH aP (λ_ _=>oB) (λkey kl q=>uS q) bE (Uq x.1) W.1.size c (λy=>N (z++[y])) j Z rfl s ?_ ?_)
  .intro q;have HE:aA (T=cW J z):=aC (by
    rw[Y.out,Ii z j q.1 J (λu hu y hp=>(q.2 y).2 (λv=>by
     have:=(Ho z y).2 ⟨u,hu,hp⟩;rw[show N (z++[y])=Up from v]at this;cases this)),HM.out])
   clear q s;go_wp2_with fail;go_ret;exact⟨by have h:=HE.out;subst h;rfl,aE F Q⟩
  .intro M E X C A He Hi Hu kl Hr Hd Hb Hj Hw Hh;have Hf:=aC<|λw1 (b1:Bl v0 w1)=>HI.out (M,E) (X,C) Hi w1 b1;generalize v:cW J (z++[(M,E)])=n;rw[v]at Hf;have k1:n<=1048576:=v▸Uz (Bq _ _) S.2;have k2:T<=1099512676352:=by
    have h1:=Fo J z j;have h2:=Ha.len;have h3:=S.out;have h4:j.length*J.length<=1048576*1048576:=YK oM oM;rw[Y.out];omega
   have Hn:aA (T+n=m+((j++[(M,E)]).map λy=>cW J (z++[y])).sum):=aC (by rw[Y.out];simp[v];omega);have Hm:aA (∀w9,dV w9 175 aP bE (Uq x.1) W.1.size c (λy=>N (z++[y])) (j++[(M,E)]) He->w9.rangeLeft x.1 W.1.size<wr.rangeLeft x.1 W.1.size):=aC (λw9 h9=>by
    rw[h9.left_eq,Ha.left_eq];exact Hb)
   have P:aA (Bl W A):=aC (Q.grown Hj Q.size (λk e=>by cases e;exact Ux _));have U:=aC Hd;generalize K:A.alloc (Uj #[.map (Uq X),.map (Uq C)] 107)=L;have i:Bl A L:=K▸zO _ _;have K6:aD L A.1.size (.map (Uq X)) (.map (Uq C)):=K▸aD.made _ _ _ _;have O:=aC<|P.trans (i.mono P.size);have Hp:aA (Bl v0 L):=aC<|HV.trans ((aE F O).mono HV.size);have V:=aC<|U.same (λb e=>i.block b (U.mlt b e)) (i.block _ U.lt);have⟨c0,c1⟩:=K6.q2;clear Hi Hu Hr s Hd Hb Hj Hw i K6 v;dsimp only[aP,bE]at Hh⊢;go_wp2_with fail;refine(Hf _ Hp).mono ?_;rintro e w7⟨rfl,b7⟩;have Hk:=aC<|O.trans (b7.mono O.size);have Hg:=aC<|V.same (λb e=>b7.block b (V.mlt b e)) (b7.block _ V.lt);clear b7 c0 c1 Hh K;go_wp2_with fail;go_roundw;case rel=>exact⟨_,_,T+n,oN,Hg,Hn,Hk⟩
   case measure=>exact Hm w7 Hg
theorem Sv{v0:Ur}{B c:Nat}{J:List Lf}{N:List Ky->Option (Nat×Nat)}(H:TJ v0 B J N c)(hc:c<=1048576)(hJ:J.length<=1048576)(h8:∀x∈J,(aS x).length<=8):
  ∀d z x,z.length+d=8->N z=Uq x->∀w,Bl v0 w->Cl 100 #[Uo #[.map (Uq x.1),.map (Uq x.2)]] w (Rt w (Ud (cW J z)))
 |0,z,x,hz,hx,w,hw=>Zm H hc hJ z x hx (λy x1 h1=>absurd (H.deep h8 (z++[y]) (by rw[h1];simp)) oS) w hw
 |d+1,z,x,hz,hx,w,hw=>Zm H hc hJ z x hx (λy x1 h1=>Sv H hc hJ h8 d (z++[y]) x1 oS h1) w hw
theorem LO{ts:List Dt}(h:w.ownsRow B 99 2 (Uf (Uc g) m cap) m (Ds.kRow ts))(hl:ts.length=m):∀i,i<m->∃d,ts[i]? =Uq d/\w.cell? (Ua g (i*2))=Uq (Ud d.1)/\w.cell? (Ua g (i*2+1))=Uq (Ud d.2):=by
 exact wX
theorem Qe{ts:List Dt}(h:w.ownsRow B 99 2 v ts.length (Ds.kRow ts)):∃a cap,v=Uf a ts.length cap/\ts.length<=cap/\cap<=9223372036854775807/\(0<ts.length->∃g,a=Uq (Ub g)/\B<=g/\g<w.1.size/\∀i,i<ts.length->∃d,ts[i]? =Uq d/\w.cell? (Ua g (i*2))=Uq (Ud d.1)/\w.cell? (Ua g (i*2+1))=Uq (Ud d.2)):=by
 rcases h.2 with⟨rfl,j⟩|⟨g,cap,u,rfl,r,q,k,m,y,z⟩
 .exact⟨Up,0,by rw[j],oM,oM,λhh=>oM⟩
 .exact⟨_,cap,rfl,k,by unfold maxLen at m;omega,λ_=>⟨g,rfl,r,(Array.getElem?_eq_some_iff.1 q).1,LO h rfl⟩⟩
theorem LN(h:w.ownsRow B 175 2 (Uf (Uc g) m cap) m (kRow ts))(hl:ts.length=m):∀i,i<m->∃d,ts[i]? =Uq d/\w.cell? (Ua g (i*2))=Uq (Um d.1)/\w.cell? (Ua g (i*2+1))=Uq (Ud d.2):=by
 exact wW
theorem Qd(h:w.ownsRow B 175 2 v ts.length (kRow ts)):∃a cap,v=Uf a ts.length cap/\ts.length<=cap/\cap<=9223372036854775807/\(0<ts.length->∃g,a=Uq (Ub g)/\B<=g/\g<w.1.size/\∀i,i<ts.length->∃d,ts[i]? =Uq d/\w.cell? (Ua g (i*2))=Uq (Um d.1)/\w.cell? (Ua g (i*2+1))=Uq (Ud d.2)):=by
 rcases h.2 with⟨rfl,j⟩|⟨g,cap,u,rfl,r,q,k,m,y,z⟩
 .exact⟨Up,0,by rw[j],oM,oM,λhh=>oM⟩
 .exact⟨_,cap,rfl,k,by unfold maxLen at m;omega,λ_=>⟨g,rfl,r,(Array.getElem?_eq_some_iff.1 q).1,LN h rfl⟩⟩
theorem QO{x:Lf}(hx:jH x)(h:nx p x=Uq y):(y.2=1\/y.2=2)\/(y.2=3/\p.length+2<=8):=by
 exact wG
theorem TJ.nki{N:List Ky->Option (Nat×Nat)}(h:TJ w B J N c)(h0:N []≠Up):iX J J.length N:=λz=>by
 by_cases e:z=[]
 .rw[e];refine⟨λ_=> .inl rfl,λ_=>?_⟩;cases hv:N []with
  |none=>exact absurd hv h0
  |some v=>rfl
 .obtain⟨u,y,rfl⟩:∃u y,z=u++[y]:=⟨z.dropLast,z.getLast e,(YI e).symm⟩;rw[h.there u y];constructor
  .rintro⟨x,g,m⟩;have⟨j,k,q⟩:=bJ.1 g;exact .inr ⟨j,k,by rw[q];exact m⟩
  .rintro(r|⟨j,k,m⟩)
   .exact absurd r e
   .exact⟨gL J j,bJ.2 ⟨j,k,rfl⟩,m⟩
theorem PJ(l:List Lf)(p:List ByteArray)(s:ByteArray)(d:Dt):Mk l l.length (aG p 3++[(s,3)]) d=Up:=by
 refine Classical.byContradiction λhn=>?_;have⟨j,k,e,_⟩:=lT.1 hn;rw[<-Mo]at e;have:=(Nt e.symm oP).2;rcases lV (gL l j).fl with h|h<;>omega
theorem MZ{N:List Ky->Option (Nat×Nat)}(hN:iX l l.length N)(p:List ByteArray)(y u:Ky)(hy:y.2≠3):N (aG p 3++[y]++[u])=Up:=by
 cases hv:N (aG p 3++[y]++[u])with
 |none=>rfl
 |some v=>
  exfalso;have q:(N (aG p 3++[y]++[u])).isSome=true:=by rw[hv];rfl
  rcases (hN _).1 q with h|⟨j,o,m⟩
  .simp at h
  .have z:=m.length_le;simp only[UM,Yc,jN,aS]at z;have k:(aS (gL l j))[p.length]? =Uq y:=by
    have⟨t,g⟩:=m;rw[<-g];simp[jN]
   unfold aS at k;rw[oC oM,if_pos oM]at k;have r:=congrArg Prod.snd<|Option.some.inj k;exact hy r.symm
noncomputable def gK(l:List Lf)(f:Nat)(p:List ByteArray)(y:Ky):List Lf:=if y.2=3 then wL l f (p++[y.1])else bF l p y l.length
theorem DS(l:List Lf)(f:Nat)(p:List ByteArray):wL l (f+1) p=(kS l p l.length).flatMap (gK l f p):=rfl
theorem TO{α:Type}(g:α->List Lf)(ts:List α)(k:Nat):((ts.take k).flatMap g).length<=(ts.flatMap g).length:=by
 have:ts.flatMap g=(ts.take k).flatMap g++(ts.drop k).flatMap g:=by rw[<-Yh,Yx]
 rw[this,UM];omega
theorem XI(Bt c:Nat)(N:List Ky->Option (Nat×Nat))(M:List Ky->Dt->Option ByteArray)(z:List Ky)(w:Ur)(hT:bB w Bt N M c)(hc:c<=1048576)(hz:∀u,N (z++[u])=Up)(bv vw:aB):
  Cl 102 #[Uo #[.map (mF (N z)),.map (mS (N z))],bv,vw] w (Rt w bv):=by
 have⟨W,j⟩:=zE (w.alloc (Uj #[.map (mF (N z)),.map (mS (N z))] 107));have q:Bl w W:=j▸zO _ _;have m:aD W w.1.size (.map (mF (N z))) (.map (mS (N z))):=j▸aD.made _ _ _ _;have k:=aC<|Oe Bt c N M z W (hT.bw q) hc;have⟨Z,r⟩:=zE (mF (N z));have⟨G,v⟩:=zE (mS (N z));rw[r,v]at m k j;rw[r,v];have⟨E,O⟩:=m.q2;have t:=aC q;have i:=aC hz;go_enter func102,ntmps102;go_wp2_with fail;refine k.mono ?_;rintro e w1⟨H,Q,rfl,A,g,s,h,y⟩;obtain rfl:Q=[]:=List.eq_nil_iff_forall_not_mem.2 λx hx=>(g x).1 hx (by unfold yD;exact i x);obtain⟨U,V,rfl,b,Y,p⟩:=Qd h;have o:=aC<|aE t y;simp only[YB]at b⊢;go_wp2_with fail;refine wp_loop_rounds 1 ?_;rw[rounds_succ];go_wp2_with fail;go_ret;exact⟨rfl,o⟩
theorem AY{R F T:Nat->Int}{n:Nat}(l:List Lf)(w0:Ur)(Bt c:Nat)(N:List Ky->Option (Nat×Nat))(hT:bB w0 Bt N (Mk l l.length) c)(hN:iX l l.length N)(hc:c<=1048576)(hlv:dB R F T n l l.length)(hbd:nC l):∀(f:Nat) (p:List ByteArray),p.length+f=8->1<=f->∀(bv:aB) (l0:List Lf) (vw:aB) (w:Ur),Bl w0 w->LB w w0.1.size bv l0->kC w vw p->(∀g,vw.ownBlock=Uq g->bv.ownBlock≠Uq g)->l0.length+(wL l f p).length<=1000000->
  Cl 102 #[Uo #[.map (mF (N (aG p 3))),.map (mS (N (aG p 3)))],bv,vw] w λe w'=>∃v,e=Ui v/\LB w' w0.1.size v (l0++wL l f p)/\Gr w w' bv v
 |0,_,_,M,_,_,_,_,_,_,_,_,_=>oM
 |f+1,p,hpf,_,bv,l0,vw,w,hb,ho,hvw,hne,hl=>by
  have⟨k1,k2⟩:=lU p hlv l.length zL;rw[DS]at hl⊢;have J6:aA (∀s,p.length+2<=8->∀(bv:aB) (l0:List Lf) (vw:aB) (w:Ur),Bl w0 w->LB w w0.1.size bv l0->kC w vw (p++[s])->(∀g,vw.ownBlock=Uq g->bv.ownBlock≠Uq g)->l0.length+(wL l f (p++[s])).length<=1000000->Cl 102 #[Uo #[.map (mF (N (aG p 3++[(s,3)]))),.map (mS (N (aG p 3++[(s,3)])))],bv,vw] w λe w'=>∃v,e=Ui v/\LB w' w0.1.size v (l0++wL l f (p++[s]))/\Gr w w' bv v):=aC (λs Jr bv l0 vw w M m C h4 h5=>by
   rw[<-Mo];exact AY l w0 Bt c N hT hN hc hlv hbd f (p++[s]) oS oM bv l0 vw w M m C h4 h5)
  have⟨W,hW⟩:=zE (w.alloc (Uj #[.map (mF (N (aG p 3))),.map (mS (N (aG p 3)))] 107));have b0:Bl w W:=hW▸zO _ _;have X0:aD W w.1.size (.map (mF (N (aG p 3)))) (.map (mS (N (aG p 3)))):=hW▸aD.made _ _ _ _;have zW:W.1.size=w.1.size+1:=hW▸oP;have Kn:Bl w0 W:=hb.trans<|b0.mono hb.size;have Kd:=aC<|Oe Bt c N (Mk l l.length) (aG p 3) W (hT.bw Kn) hc;have⟨m0,Gp⟩:=zE (mF (N (aG p 3)));have⟨m1,Hm⟩:=zE (mS (N (aG p 3)));rw[Gp,Hm]at X0 Kd hW;rw[Gp,Hm];have⟨q0,q1⟩:=X0.q2;have HX:=aC X0;have J0:=aC b0;have Gy:=aC Kn;have HO:=aC<|ho.bw b0;have Je:=aC<|hvw.bw b0;have HT:=aC hT;have Ja:=aC hN;have Lb:=aC Gp;have Lc:=aC hne;have Li:aA (∀g,vw.ownBlock=Uq g->g<w.1.size):=aC hvw.lt;have Hp:aA (∀g,bv.ownBlock=Uq g->w0.1.size<=g/\g<w.1.size):=aC ho.lt;have Gj:=aC k2;have K8:=aC hl;have Jg:=aC zW;have Lw:aA (w0.1.size<=w.1.size):=aC hb.size;clear X0 b0 Kn ho Gp Hm k1 k2 hvw hne hl zW hb hN;go_enter func102,ntmps102;go_wp2_with fail
  clear hW;refine Kd.mono ?_;rintro e w1⟨vd,E,rfl,Gf,Hd,Gs,Gq,b1⟩;have Gb:=Ti (p:=p) hlv Ja Gf Hd;obtain⟨da,dc,rfl,Ln,Lo,Jm⟩:=Qd Gq;have Lp:E.length<=1000:=by rw[Gb];have:=tP l p l.length;have:=hbd.len;omega
  have HD:aA (0<E.length->∃g,da=Uq (Ub g)/\W.1.size<=g/\g<w1.1.size/\∀i,i<E.length->∃y∈E,E[i]? =Uq y/\w1.cell? (Ua g (i*2))=Uq (Um y.1)/\w1.cell? (Ua g (i*2+1))=Uq (Ud y.2)):=aC (λh0=>by
   have⟨g,e1,e2,e3,e4⟩:=Jm h0;refine⟨g,e1,e2,e3,λi hi=>?_⟩;have⟨d,f1,f2,f3⟩:=e4 i hi;exact⟨d,YG f1,f1,f2,f3⟩)
  have K7:aA (∀y∈E,y.1.size<=40/\((y.2=1\/y.2=2)\/(y.2=3/\p.length+2<=8))):=aC (λy hy=>by
   rw[Gb]at hy;have⟨j,hj,e⟩:=(Gj y).1 hy;exact⟨yU (hlv j hj).1 e,QO (hlv j hj).1 e⟩)
  have Lh:aA (kS l p l.length=E):=aC Gb.symm;rw[<-Gb]at K8;have La:aA (∀y∈E,∀w',Bl w0 w'->(Instr.lookup 104 (.map m0) (Uo #[Um y.1,Ud y.2]) false).run prog w'=.ok (Uo #[.map (mF (N (aG p 3++[y]))),.map (mS (N (aG p 3++[y])))]) w'):=aC (λy hy w' hb'=>by
   have hl:=K7 y hy;have⟨kl,Kr⟩:=yH (s:=y.1) (k:=y.2) oL (eX oM oM);have:=(HT.bw hb').look (aG p 3) y Kr;rw[Lb.out]at this;exact this)
  have X1:=HX.bw b1 HX.lt;have Lj:=aC X1;have Jb:=aC<|HO.bw b1;have Ka:=aC<|Je.bw b1;have K2:=aC<|Gy.trans (b1.mono Gy.size);have Gv:=aC<|aE J0 b1;have Ke:aA (w0.1.size<=w1.1.size/\w.1.size<w1.1.size):=aC (by have M:=K2.size;have m:=b1.size;have C:=Jg.out;omega);clear q0 q1 Gq Gf Hd Gs Jm Gb b1 Kd X1 HX HO Gy Je;go_wp2_with fail;go_loopw [1,16] (λb' i wr=>∃(k:Nat),k<=E.length/\i=Ud k/\aA (LB wr w0.1.size b' (l0++(E.take k).flatMap (gK l f p)))/\aA (Gr w1 wr bv b')) (λ_ i _=>E.length-(intOf i).toNat);case atStart=>exact⟨0,UB _,rfl,aC (oU Jb),aC (Gr.refl _ _)⟩
  case round=>
   clear Jb;obtain⟨k,hk,rfl,Gk,Hg⟩:=hrel;by_cases Jq:k<E.length
   .obtain⟨g,rfl,L4,L5,Jn⟩:=HD oM;have⟨y,Kv,Jx,H6,H7⟩:=Jn k Jq;have Ht:Uq g≠bv.ownBlock:=λe=>by have M:=(Hp g e.symm).2;have m:=Jg.out;omega
    have H5:Uq w.1.size≠bv.ownBlock:=λe=>by have:=(Hp _ e.symm).2;omega
    have c1:=Hg.g.cell H6 Ht;have c2:=Hg.g.cell H7 Ht;have n0:=Hg.g.cell Lj.c0 H5;have Ku:=K7 y Kv;have Gi:aA (Bl w0 wr):=aC (K2.trans (Hg.bw Ke.1 (λk hk=>(Hp k hk).1)));have Lg:aA (kC wr vw p):=aC (Ka.move Hg.g.size (λg hg=>Hg.g.block g (by have M:=Li g hg;have m:=Ke.2;omega) (λe=>Lc.out g hg e.symm)));have Kg:aA (∀g,u1.ownBlock=Uq g->w0.1.size<=g/\g<wr.1.size):=aC Gk.lt;have Gn:aA ((E.take (k+1)).flatMap (gK l f p)=(E.take k).flatMap (gK l f p)++gK l f p y):=aC (by rw[Vc,Jx];simp);have H3:aA ((l0++(E.take k).flatMap (gK l f p)).length+(gK l f p y).length<=1000000):=aC (by
     have M:=TO (gK l f p) E (k+1);rw[Gn.out,UM]at M;have m:=K8.out;simp only[UM]at m⊢;omega)
    have⟨L0,Ki⟩:=zE (l0++(E.take k).flatMap (gK l f p));have Hi:aA (∀w',Bl w0 w'->(Instr.lookup 104 (.map m0) (Uo #[Um y.1,Ud y.2]) false).run prog w'=.ok (Uo #[.map (mF (N (aG p 3++[y]))),.map (mS (N (aG p 3++[y])))]) w'):=aC<|λw' h=>La.out y Kv w' h;obtain⟨ls,Gh,Jo,Gc,Jp,Ge⟩:∃ls Gh:List Lf,gK l f p y=ls++Gh/\(∀Hf:List Dt,Hf.Pairwise (λx y=>fG x y<0)->(∀d,d∈Hf↔Mk l l.length (aG p 3++[y]) d≠Up)->Hf=ls.map λx=>((x.r,x.q):Dt))/\(∀x∈ls,x=⟨p++[y.1],decide (y.2=2),x.r,x.q,x.v⟩/\Mk l l.length (aG p 3++[y]) (x.r,x.q)=Uq x.v/\(0<=x.r/\x.r<8)/\(0<=x.q/\x.q<=1000000000))/\
      (∀(bv:aB) (l0:List Lf) (vw:aB) (w:Ur),Bl w0 w->LB w w0.1.size bv l0->kC w vw (p++[y.1])->(∀g,vw.ownBlock=Uq g->bv.ownBlock≠Uq g)->l0.length+Gh.length<=1000000->Cl 102 #[Uo #[.map (mF (N (aG p 3++[y]))),.map (mS (N (aG p 3++[y])))],bv,vw] w λe w'=>∃v,e=Ui v/\LB w' w0.1.size v (l0++Gh)/\Gr w w' bv v):=by
     rcases Ku.2 with L1|⟨C,Jr⟩
     .have Gg:y.2≠3:=oM;refine⟨bF l p y l.length,[],by unfold gK;rw[if_neg Gg,VO],λHf M m=>Zl hlv Gg M m,λx hx=>?_,λbv l0 vw w M m C h4 h5=>?_⟩
      .have hv:=Zd Gg hbd.dis hx;obtain⟨j,hj,e,rfl⟩:=kT.1 hx;have hp:=Ea Gg e;refine⟨?_,hv,hbd.rep j hj,hbd.seq j hj⟩;have⟨x,hx⟩:=zE (gL l j);rw[hx]at hp⊢;have⟨xp,xf,P,D,xv⟩:=x;have e1:xp=p++[y.1]:=hp.1;have e2:kd xf=y.2:=hp.2;have e3:xf=decide (y.2=2):=(by rw[<-e2];cases xf<;>simp[kd]);rw[<-e1,<-e3]
      .refine(XI Bt c N (Mk l l.length) (aG p 3++[y]) w (HT.bw M) hc (λu=>MZ Ja p y u Gg) bv vw).mono ?_;rintro e w'⟨rfl,b⟩;exact⟨bv,rfl,by rw[VO];exact m.bw b,Gr.of_below b⟩
     .have⟨s,Y⟩:=y;have C:Y=3:=C;subst C;refine⟨[],wL l f (p++[s]),by unfold gK;rw[if_pos rfl,Yj],λHf M m=>?_,λx hx=>(by cases hx),J6 s Jr⟩;exact List.eq_nil_iff_forall_not_mem.2 λd hd=>(m d).1 hd (PJ l p s d)
    have J7:=aC Gc;have G5:=aC Jp;have Kb:=aC Ge;have G6:aA (∀w',Bl w0 w'->∀x∈ls,(Instr.lookup 105 (.map (mS (N (aG p 3++[y])))) (Uo #[Ud x.r,Ud x.q]) false).run prog w'=.ok (Uo #[Um x.v]) w'):=aC (λw' hb' x hx=>by
     have hv:=G5 x hx;have T':=HT.bw hb';cases e:N (aG p 3++[y])with
     |none=>have h:=hv.2.1;rw[T'.none' _ e]at h;cases h
     |some x1=>
      have⟨kl,Kr⟩:=rR (r:=x.r) (q:=x.q) (eX oM oM) (eX oM oM);have:=(T'.marks _ x1 e).look gX underlying105 (Mn w') (x:=(x.r,x.q)) Kr;rw[hv.2.1]at this;exact this)
    have Hq:aA (∀w',Bl w0 w'->Cl 140 #[Uo #[.map (mF (N (aG p 3++[y]))),.map (mS (N (aG p 3++[y])))]] w' λe Hw=>∃(v:aB) (E:List Dt),e=Ui v/\E=(ls.map λx=>((x.r,x.q):Dt))/\Hw.ownsRow w'.1.size 99 2 v E.length (Ds.kRow E)/\Bl w' Hw):=aC (λw' hb'=>by
     refine(Ds.sortedDotsC Bt c N (Mk l l.length) (aG p 3++[y]) w' (HT.bw hb') hc).mono ?_;rintro e Hw⟨v,Hf,rfl,M,m,_,h4,h5⟩;exact⟨v,Hf,rfl,J7 Hf M m,h4,h5⟩)
    have⟨a1,Ji⟩:=zE (mF (N (aG p 3++[y])));have⟨a2,Km⟩:=zE (mS (N (aG p 3++[y])));rw[Ji,Km]at Hi Kb Hq;rw[Km]at G6;rw[Jo]at Gn H3;rw[Ki]at H3 Gk;have G0:aA (l0++(E.take (k+1)).flatMap (gK l f p)=L0++(ls++Gh)):=aC (by rw[Gn.out,<-Ki];simp);have⟨s,Y⟩:=y;dsimp only at c1 c2 Ku Hi G6 Kb G5;have Lv:aA (s.size<=40):=aC Ku.1;have⟨O,Kk⟩:=zE (wr.alloc (Uj #[Um s,Ud Y] 175));have D1:aD O wr.1.size (Um s) (Ud Y):=Kk▸aD.made _ _ _ _;have Go:Bl wr O:=Kk▸zO _ _;have⟨z,Kl⟩:=zE (O.alloc (Uj #[.map a1,.map a2] 107));have Kh:Bl O z:=Kl▸zO _ _;have Hh:aA (aD z O.1.size (.map a1) (.map a2)):=aC<|Kl▸aD.made _ _ _ _;have H1:=aC<|D1.bw Kh D1.lt;have Gw:=aC<|aE Go Kh;have Hx:aA (Bl w0 z):=aC<|Gi.trans (Gw.mono Gi.size);have G9:=aC<|Lg.bw Gw;have Jf:aA (wr.1.size<O.1.size/\O.1.size<z.1.size):=aC ⟨D1.lt,Hh.lt⟩;have Hz:=aC<|λw'(hb':Bl z w')=>GS vw p w' oM (G9.bw hb');have⟨q0,q1⟩:=D1.q2;have Lu:=(Go.cell (p:=(Ub w.1.size)) (by have M:=Ke.2;have m:=Hg.g.size;show w.1.size<wr.1.size;omega)).trans n0;have Lq:=Hi O<|Gi.trans (Go.mono Gi.size);have S:aA (∀w',Bl z w'->w'.cell? (Ub wr.1.size)=Uq (Um s)):=aC<|λw' b=>(H1.bw b H1.lt).c0;clear D1 Go Kh H6 H7 Jn Kv Jx H5 Ht Jp Gc Ge Jo Ki Ji Km Hi Gn;go_upto_region 5 with fail;clear q0 q1 Lu Lq n0 c1 c2 Kk Kl;go_cut [10]from 24 to 29 (λv10 wx=>∃Q J,v10=Uf (Uc Q) (p.length+1) J/\aA (wx.ownsRow z.1.size 9 1 (Uf (Uc Q) (p.length+1) J) (p.length+1) (dJ (p++[s])))/\aA (Bl z wx));case first=>
     refine zS S<|λqh=>?_;refine tZ 0 24 ?_;refine tY 2 26 ?_;refine rZ 1 4 ?_ ?_
     ·
      intro K A;go_simp;refine(Hz _ zI.drew).mono ?_;rintro e w3⟨v3,rfl,b3,o3⟩;have Hk:Bl z w3:=⟨b3.os,b3.tape,b3.output,b3.size,b3.block⟩;refine bZ A (S _ Hk)<|λqh=>?_;clear A K;refine cZ 4 ?_;intro K A;go_simp;have B:Bl z (w3.alloc (Uj #[Um s] 9)):=Hk.alloc Hk.size _;refine bZ A (S _ B)<|λqh=>?_;clear A K;have o4:(w3.alloc (Uj #[Um s] 9)).ownsRow z.1.size 9 1 v3 p.length (dJ p):=World.ownsRow.alloc o3 _;have⟨Q,J,w5,Hb,o5,g5,Ks⟩:=Fy o4 B.size oM s w3.1.size oP;have Hr:Bl z w5:=B.grown g5 B.size<|λk e=>(World.ownsRow.lt o4 k e).1;refine cZ 5 ?_;intro K A;refine oX _ _ _ _ rfl Hb (by rfl) (by rfl) rfl ?_;refine bZ A (S _ Hr)<|λqh=>?_;clear A K;refine tZ 6 10 ?_;refine zD ?_;have Hj:=aC o5;have L:=aC Hr;clear qh b3 Hk B o3 o4 o5 g5 Hr Hb S Hz Ks;go_wp2_with fail;go_meet;exact⟨Q,J,rfl,Hj,L⟩
     ·
      intro K A;go_simp;have Hk:Bl z (z.drew.alloc (Uj #[Um s] 9)):=(zI.drew).alloc zL _;refine bZ A (S _ Hk)<|λqh=>?_;clear A K;refine cZ 1 ?_;intro K A;go_simp;refine(Hz _ Hk).mono ?_;rintro e w4⟨v3,rfl,b4,o4⟩;have B:Bl z w4:=aE Hk b4;refine bZ A (S _ B)<|λqh=>?_;clear A K;have Hm:=gO.made z.drew (Um s) 9;have Jk:w4.cell? (Ub z.1.size)=Uq (Um s):=(b4.cell (p:=(Ub z.1.size)) Hm.lt).trans Hm.c0;have Kz:w4.ownsRow z.1.size 9 1 v3 p.length (dJ p):=oF o4<|YN Hm.lt;have⟨Q,J,w5,Hb,o5,g5,Ks⟩:=Fy Kz B.size oM s z.1.size Jk;have Hr:Bl z w5:=B.grown g5 B.size<|λk e=>(World.ownsRow.lt Kz k e).1;refine cZ 5 ?_;intro K A;refine oX _ _ _ _ rfl Hb (by rfl) (by rfl) rfl ?_;refine bZ A (S _ Hr)<|λqh=>?_;clear A K;refine tZ 6 10 ?_;refine zD ?_;have Hj:=aC o5;have L:=aC Hr;clear qh Hk B b4 Hm Jk o4 Kz o5 g5 Hr Hb S Hz Ks;go_wp2_with fail;go_meet;exact⟨Q,J,rfl,Hj,L⟩
    case rest=>
    obtain⟨Q,J,rfl,Hj,L⟩:=hcut;have⟨w5,Ju⟩:=zE wc;rw[Ju]at Hj L⊢;clear Ju S Hz;obtain⟨bu,Lm⟩:∃b,b=u1:=⟨_,rfl⟩;subst Lm;obtain⟨U,Ls⟩:∃b,b=wr:=⟨_,rfl⟩;subst Ls;have Hn:aA (Bl w0 w5):=aC (Hx.trans (L.mono Hx.size));have K5:=Hh.bw L Hh.lt;have⟨Kw,Kx⟩:=K5.q2;have G2:=aC K5;have Gz:=aC (H1.bw L H1.lt);have Le:aA (z.1.size<=Q/\Q<w5.1.size):=aC (World.ownsRow.lt Hj Q rfl);clear K5;go_wp2_with fail;refine(Hq w5 Hn).mono ?_;rintro e Z⟨L7,Hf,rfl,Hd,Gd,b6⟩;obtain⟨Ll,Lz,rfl,H8,Jl,H9⟩:=Qe Gd;have Jt:Hf.length=ls.length:=(by rw[Hd];simp);have J2:aA (0<ls.length->∃I,Ll=Uq (Ub I)/\w5.1.size<=I/\I<Z.1.size/\∀i,i<ls.length->∃x∈ls,ls[i]? =Uq x/\Z.cell? (Ua I (i*2))=Uq (Ud x.r)/\Z.cell? (Ua I (i*2+1))=Uq (Ud x.q)):=aC (λh0=>by
     have⟨I,e1,e2,e3,e4⟩:=H9 oM;refine⟨I,e1,e2,e3,λi hi=>?_⟩;have⟨d,f1,f2,f3⟩:=e4 i oM;rw[Hd]at f1;simp only[Yq,Yv]at f1;have⟨x,f4,f5⟩:=f1;subst f5;exact⟨x,YG f4,f4,f2,f3⟩)
    rw[Jt]at H8⊢;have Lr:ls.length<=1000000:=(by have:=H3.out;simp only[UM]at this;omega);have K0:=aE L b6;have Gu:=aE Gw K0;have Gx:=aC Gu;have Jc:aA (LB Z w0.1.size bu L0):=aC<|Gk.bw Gu;have G8:aA (Z.ownsRow z.1.size 9 1 (Uf (Uc Q) (p.length+1) J) (p.length+1) (dJ (p++[s]))):=aC<|dK Hj (λg hg=>b6.block g (World.ownsRow.lt Hj g hg).2);have J1:=aC<|Gz.bw b6 Gz.lt;have K6:=aC<|G2.bw b6 G2.lt;have Hy:aA (Bl w0 Z):=aC<|Hn.trans (b6.mono Hn.size);have V:aA (U.1.size<O.1.size/\O.1.size<z.1.size/\z.1.size<=w5.1.size/\w5.1.size<=Z.1.size/\w0.1.size<=Z.1.size):=aC ⟨Jf.1,Jf.2,L.size,b6.size,Hy.size⟩;clear Gd H9 Hd Jt b6 K0 Gu Kw Kx Gz G2 Hj L Hh H1 Hq;go_wp2_with fail;go_loopw [1,33] (λb' i wr=>∃(t:Nat),t<=ls.length/\i=Ud t/\aA (LB wr w0.1.size b' (L0++ls.take t))/\aA (Gr Z wr bu b')) (λ_ i _=>ls.length-(intOf i).toNat);case atStart=>exact⟨0,UB _,rfl,aC (oU Jc),aC (Gr.refl _ _)⟩
    case round=>
     clear Jc;obtain⟨t,ht,rfl,Gl,G⟩:=hrel;have Hv:aA (∀b,U.1.size<=b->Uq b≠bu.ownBlock):=aC (λb hb e=>oH ((Kg b e.symm).2));have He:aA (∀b,((U.1.size<=b/\b<Z.1.size)\/wr.1.size<=b)->Uq b≠u1.ownBlock):=aC (λb hb e=>by
      have M:=(Gl.lt b e.symm).2;rcases G.l with m|⟨j,m,C⟩
      .rw[m]at e;have:=(Kg b e.symm).2;have:=V.out;omega
      .rw[m]at e;have e:b=j:=by injection e
       omega)
     have L6:=G.g.size;have Gj:=aC (G.g.cell K6.c0 (Hv _ (by have:=V.out;show U.1.size<=O.1.size;omega)));have G1:=aC (G.g.cell K6.c1 (Hv _ (by have:=V.out;show U.1.size<=O.1.size;omega)));have K4:=aC<|G.g.cell J1.c1 (Hv _ zL);have Ho:aA (Bl w0 wr):=aC<|Hy.trans (G.bw V.2.2.2.2 (λk hk=>(Kg k hk).1));have Gm:aA (wr.ownsRow z.1.size 9 1 (Uf (Uc Q) (p.length+1) J) (p.length+1) (dJ (p++[s]))):=aC (dK G8 (λg hg=>G.g.block g (World.ownsRow.lt G8 g hg).2 (Hv g (by have M:=(World.ownsRow.lt G8 g hg).1;have m:=V.out;omega))));by_cases Gs:t<ls.length
     .obtain⟨I,rfl,Kp,Kq,Ga⟩:=J2 oM;have⟨x,Kt,Jw,H6,H7⟩:=Ga t Gs;have c1:=G.g.cell H6 (Hv I (by have m:=V.out;show U.1.size<=I;omega));have c2:=G.g.cell H7 (Hv I (by have m:=V.out;show U.1.size<=I;omega));have Gt:=G5 x Kt;have G7:aA (∀w',Bl w0 w'->(Instr.lookup 105 (.map a2) (Uo #[Ud x.r,Ud x.q]) false).run prog w'=.ok (Uo #[Um x.v]) w'):=aC (λw' h=>G6.out w' h x Kt);have Kf:aA (ls.take (t+1)=ls.take t++[x]):=aC (by rw[Vc,Jw];rfl);have⟨xp,xf,P,D,xv⟩:=x;dsimp only at c1 c2 Gt G7;have Lt:xp=p++[s]:=congrArg Lf.p Gt.1;have Jv:xf=decide (Y=2):=congrArg Lf.fl Gt.1;subst Lt;have L3:(Y==2)=xf:=(by rw[Jv];rfl);have L2:∀w:Ur,(Instr.field 161 (Uo #[Um xv]) 0).run prog w=.ok (Um xv) w:=λw=>oK;have⟨X,Kj⟩:=zE (wr.alloc (Uj #[Ud P,Ud D] 99));have Hs:Bl wr X:=Kj▸zO _ _;have DV:aD X wr.1.size (Ud P) (Ud D):=Kj▸aD.made _ _ _ _;have H2:=aC DV;have Hu:aA (Bl w0 X):=aC (Ho.trans (Hs.mono Ho.size));have K9:=aC (Gl.bw Hs);have Jd:=aC (tX (dK Gm (λg hg=>Hs.block g (World.ownsRow.lt Gm g hg).2)) (show(p++[s]).length=p.length+1 by simp));have H0:aA (∀w',Bl X w'->Cl 139 #[Uf (Uc Q) (p.length+1) J] w' λe Hw=>∃q cap,e=Ui (Uf (Uc q) (p.length+1) cap)/\Bl w' Hw/\Hw.ownsRow w'.1.size 9 1 (Uf (Uc q) (p.length+1) cap) (p.length+1) (dJ (p++[s]))):=aC (λw' hb'=>by
       have hw:=Jd.2.same (hb'.block Q Jd.2.lt);exact Sw Q (p.length+1) J (p++[s]) w' oP oM hw.lt (λt ht=>hw.cell ht))
      have K1:aA (∀w7 q7 Ha,Bl X w7->w7.ownsRow X.1.size 9 1 (Uf (Uc q7) (p.length+1) Ha) (p.length+1) (dJ (p++[s]))->∃q' Hc n' w3,(Builtin.append_ #[23,23] 23 #[u1,Uf (Uc w7.1.size) 1 1]).run prog (w7.alloc (Uj #[Uf (Uc q7) (p.length+1) Ha,Un xf,Ud P,Ud D,Um xv] 101))=.ok (Uf (Uc q') n' Hc) w3/\
        LB w3 w0.1.size (Uf (Uc q') n' Hc) (L0++ls.take (t+1))/\Gr w7 w3 u1 (Uf (Uc q') n' Hc)):=aC (λw7 q7 Ha b7 o7=>by
       have Js:=World.ownsRow.lt o7 q7 rfl;have Ko:p.length+1<=Ha/\Ha<=9223372036854775807:=by
        rcases o7.2 with⟨h0,_⟩|⟨g',Hc,Ly,hv,Jj,hb,M,m,C,h4⟩
        .cases h0
        .injection hv with e1 e2 e3;unfold maxLen at m;omega
       have⟨q',Hc,w3,e1,e2,e3⟩:=K9.app b7 Hu.size (by have M:=H3.out;simp only[UM,Vk]at M⊢;omega) ⟨p++[s],xf,P,D,xv⟩ q7 Ha Js.1 Js.2 (by simpa using (tX o7 (show(p++[s]).length=p.length+1 by simp)).2) (oU Ko);refine⟨q',Hc,_,w3,oU e1,?_,e3⟩;rw[Kf.out,<-Ve];exact e2)
      have Kc:aA (∀w',Bl w0 w'->w'.cell? (Ua U.1.size 1)=Uq (Ud Y)->w'.cell? (Ua O.1.size 1)=Uq (.map a2)->w'.cell? (Ub wr.1.size)=Uq (Ud P)->w'.cell? (Ua wr.1.size 1)=Uq (Ud D)->(w'.cell? (Ua U.1.size 1)=Uq (Ud Y)/\w'.cell? (Ua O.1.size 1)=Uq (.map a2)/\w'.cell? (Ub wr.1.size)=Uq (Ud P)/\w'.cell? (Ua wr.1.size 1)=Uq (Ud D)/\(Instr.lookup 105 (.map a2) (Uo #[Ud P,Ud D]) false).run prog w'=.ok (Uo #[Um xv]) w')):=aC (λw' M m C h4 h5=>⟨m,C,h4,h5,G7 w' M⟩);have G4:=aC ((Hs.cell (p:=(Ua U.1.size 1)) (by have:=V.out;show U.1.size<wr.1.size;omega)).trans K4);have G3:=aC ((Hs.cell (p:=(Ua O.1.size 1)) (by have:=V.out;show O.1.size<wr.1.size;omega)).trans G1);have Hl:aA (∀w',Bl X w'->(w'.cell? (Ua U.1.size 1)=Uq (Ud Y)/\w'.cell? (Ua O.1.size 1)=Uq (.map a2)/\w'.cell? (Ub wr.1.size)=Uq (Ud P)/\w'.cell? (Ua wr.1.size 1)=Uq (Ud D)/\(Instr.lookup 105 (.map a2) (Uo #[Ud P,Ud D]) false).run prog w'=.ok (Uo #[Um xv]) w')):=aC (λw' b=>by
       have hz:=H2.lt;have h6:=V.out;exact Kc w' (Hu.trans (b.mono Hu.size)) ((b.cell (p:=(Ua U.1.size 1)) oQ).trans G4) ((b.cell (p:=(Ua O.1.size 1)) oQ).trans G3) (H2.bw b H2.lt).c0 (H2.bw b H2.lt).c1)
      have J5:aA (Gr Z X bu u1):=aC<|G.trans (Gr.of_below Hs);have Lx:aA (wr.1.size<X.1.size):=aC DV.lt;clear Hs DV H6 H7 Ga Kt Jw Gt Gl G Jv G7 K4 G1 Gj Gm Kp Kq;go_wp2_with fail;refine zS Hl<|λqh=>?_;clear c1 c2 Kj;refine tY 0 37 ?_;refine tY 3 40 ?_;refine tY 5 42 ?_;refine tY 7 44 ?_;refine tY 9 46 ?_;refine tZ 11 48 ?_;refine cZ 2 ?_;intro K A;go_simp;refine(H0 _ zI.drew).mono ?_;rintro e w7⟨q7,Ha,rfl,b7,o7⟩;have H:Bl X w7:=⟨b7.os,b7.tape,b7.output,b7.size,b7.block⟩;refine bZ A (Hl _ H)<|λqh=>?_;clear A K;refine tZ 12 49 ?_;refine cZ 13 ?_;intro K A;go_simp;have⟨q8,Lk,n8,w8,Hb,Jy,g8⟩:=K1 w7 q7 Ha H o7;have Jh:Bl X (w7.alloc (Uj #[Uf (Uc q7) (p.length+1) Ha,Un xf,Ud P,Ud D,Um xv] 101)):=H.alloc H.size _;refine bZ A (Hl _ Jh)<|λqh=>?_;clear A K;refine cZ 14 ?_;intro K A;refine oX _ _ _ _ rfl Hb (by rfl) (by rfl) rfl ?_;have t1:=(Hl _ H).1;have t2:=(Hl _ H).2.1;have t3:=(Hl _ H).2.2.1;have t4:=(Hl _ H).2.2.2.1;have H4:Bl w0 w8:=(Hu.trans (H.mono Hu.size)).trans (g8.bw (by have M:=Hu.size;have m:=H.size;omega) (λk hk=>(K9.lt k hk).1));refine bZ A (Kc _ H4 (g8.g.cell t1 (He _ (.inl ⟨Ux _,by have:=V.out;show U.1.size<Z.1.size;omega⟩))) (g8.g.cell t2 (He _ (.inl ⟨by have:=V.out;show U.1.size<=O.1.size;omega,by have:=V.out;show O.1.size<Z.1.size;omega⟩))) (g8.g.cell t3 (He _ (.inr zL))) (g8.g.cell t4 (He _ (.inr zL))))<|λqh=>?_;clear A K;refine tZ 15 1 ?_;refine zD ?_;have J8:=aC Jy;have J3:=aC<|(J5.trans (Gr.of_below H)).trans g8;clear qh b7 H Jh o7 Hb Jy g8 t1 t2 t3 t4 H4 Hl Kc K1 H0;go_wp2_with fail;go_roundw;case rel=>exact⟨t+1,Gs,oN,J8,J3⟩
      case measure=>exact oE
     .obtain rfl:t=ls.length:=oM;have Ld:aA (LB wr w0.1.size u1 (L0++ls)):=aC (by have:=Gl.out;rw[Vj]at this;exact this);have Kw:=Gj.out;have Kx:=G1.out;have K3:=aC (Kb u1 (L0++ls) (Uf (Uc Q) (p.length+1) J) wr Ho Ld (tX Gm (show(p++[s]).length=p.length+1 by simp)).1 (λg hg e=>by
       have e1:Q=g:=(by simpa[Value.ownBlock]using hg);subst e1;exact He Q (.inl (by have M:=Le.out;have m:=V.out;omega)) e.symm) (by have:=H3.out;simp only[UM]at this⊢;omega))
      go_wp2_with fail;refine K3.mono ?_;rintro e w9⟨v9,rfl,Jz,g9⟩;have J9:aA (LB w9 w0.1.size v9 (l0++(E.take (k+1)).flatMap (gK l f p))):=aC (by rw[G0.out,<-Ve];exact Jz);have J4:aA (Gr w1 w9 bv v9):=aC<|((Hg.trans (Gr.of_below Gx)).trans G).trans g9;clear Jz g9 K3 Kw Kx;go_wp2_with fail;go_roundw;case rel=>exact⟨k+1,Jq,oN,J9,J4⟩
      case measure=>exact oE
   .obtain rfl:k=E.length:=oM;have HF:aA (l0++(E.take E.length).flatMap (gK l f p)=l0++(kS l p l.length).flatMap (gK l f p)):=aC (by rw[Vj,Lh.out]);go_wp2_with fail;go_ret;exact⟨_,rfl,by rw[<-HF.out];exact Gk,(Gr.of_below (b:=bv) Gv).trans Hg⟩
def jZ(w:Ur)(z0:Nat×Nat)(bd:Nat)(J:List Lf)(ul:List Rn):Prop:=∃N B c n D G L,JF w B J [] N c z0/\c<=1048576/\eJ w bd n D G L/\eV L 8=ul/\(∀r,L r≠[]->0<=r/\r<8)/\(∀r,(L r).length<=4000)
theorem jZ.bw(h:jZ w z0 bd J ul)(hb:Bl w w'):jZ w' z0 bd J ul:=by
 have⟨N,B,c,n,D,G,L,j,k,m,q⟩:=h;exact⟨N,B,c,n,D,G,L,⟨j.tre.bw hb,j.root,j.there⟩,k,m.bw hb,q⟩
theorem jZ.far(h:jZ w z0 bd J ul){t:Nat}{ty:TypeId}(m:∃v f,w.1[t]? =Uq (.cells v ty f))(hty:ty≠225)(hg:w.grownBy w' (Uq t)):jZ w' z0 bd J ul:=by
 have⟨N,B,c,n,D,G,L,k,s,u,A⟩:=h;have⟨v,f,m⟩:=m;refine⟨N,B,c,n,D,G,L,⟨k.tre.same λp x hx=>⟨hg.block _ (k.tre.lt hx).1 (λe=>?_),hg.block _ (k.tre.lt hx).2 (λe=>?_)⟩,k.root,k.there⟩,s,u.gr hg (λe=>?_) (λr g hrg e=>?_),A⟩
 .have⟨y,z,q⟩:=(k.tre.kids p x hx).obj;injection e with e;rw[e,m]at q;cases q
 .have⟨y,z,q⟩:=(k.tre.marks p x hx).obj;injection e with e;rw[e,m]at q;cases q
 .have⟨y,M,j,_⟩:=u.own;injection e with e;rw[e,m]at j;cases j
 .rcases (u.rows r).2 with⟨b,_⟩|⟨i,cap,O,E,_,j,_⟩
  .rw[b]at hrg;cases hrg
  .rw[E]at hrg;have o:i=g:=(by simpa[Value.ownBlock]using hrg);injection e with e;rw[o,e,m]at j;injection j with j;injection j with _ j;exact hty j
theorem Bc(w:Ur)(t:Nat)(u0 u1 u2:aB):w.grownBy (((w.setCell (Ub t) u0).setCell (Ua t 1) u1).setCell (Ua t 2) u2) (Uq t):=by
 have j:w.grownBy (w.setCell (Ub t) u0) (Uq t):=eZ w (Ub t) u0;have k:(w.setCell (Ub t) u0).grownBy ((w.setCell (Ub t) u0).setCell (Ua t 1) u1) (Uq t):=eZ _ (Ua t 1) u1;have m:((w.setCell (Ub t) u0).setCell (Ua t 1) u1).grownBy (((w.setCell (Ub t) u0).setCell (Ua t 1) u1).setCell (Ua t 2) u2) (Uq t):=eZ _ (Ua t 2) u2;exact(j.trans k).trans m
theorem R9{S S':Sx}(h:eE S.R S.F S.T S.n S.l)(h':eE S'.R S'.F S'.T S'.n S'.l)(hl:(aR S S').l.length<=1000):nC (aR S S').l:=
 ⟨λi hi=>(qD h h' _ (bJ.2 ⟨i,hi,rfl⟩)).1,λi hi=>(qD h h' _ (bJ.2 ⟨i,hi,rfl⟩)).2.1,λi hi=>(qD h h' _ (bJ.2 ⟨i,hi,rfl⟩)).2.2.1,hl,yJ h h'⟩
def yA(n:Nat)(A B:Nat->Int)(i:Nat):Int:=if i<n then A i else B (i-n)
theorem Qc{S S':Sx}(h:eE S.R S.F S.T S.n S.l)(h':eE S'.R S'.F S'.T S'.n S'.l):dB (yA S.n S.R S'.R) (yA S.n S.F S'.F) (yA S.n S.T S'.T) (S.n+S'.n) (aR S S').l (aR S S').l.length:=
 Qb h h' λz j=>by
  rcases j with j|j
  .have⟨k,m,q,r,u⟩:=uD _ _ _ _ _ _ _ j;refine Nc (k:=k) oM ?_;unfold yA;rw[if_pos m,if_pos m,if_pos m];exact⟨q,r,u⟩
  .have⟨k,m,q,r,u⟩:=uD _ _ _ _ _ _ _ j;refine Nc (k:=S.n+k) oM ?_;unfold yA;rw[if_neg oM,if_neg oM,if_neg oM,show S.n+k-S.n=k by omega];exact⟨q,r,u⟩
theorem Ay{x:Lf}(h:x.p.length<=8):(aS x).length<=8:=by unfold aS;rw[jN];exact h
def iG(w:Ur)(x0:Nat×Nat)(bm:Nat)(S:Sx):Prop:=∃n D G N B,n<=2000/\bP w bm n D G (Lk S.R S.F S.T S.n)/\bB w B N (Mk S.l S.l.length) (9*S.l.length)/\N []=Uq x0/\iX S.l S.l.length N
theorem iG.bw{S:Sx}(h:iG w x0 bm S)(hb:Bl w w'):iG w' x0 bm S:=by
 have⟨n,D,G,N,B,j,k,m,q,r⟩:=h;exact⟨n,D,G,N,B,j,k.bw hb,m.bw hb,q,r⟩
theorem aH.far{t:Nat}(h:aH w b v0 v1 v2)(hg:w.grownBy w' (Uq t))(hne:b≠t):aH w' b v0 v1 v2:=h.gr hg (λk e=>by injection e with e;omega)
theorem T8{N:List Ky->Option (Nat×Nat)}(h:iX l l.length N)(h8:∀x∈l,x.p.length<=8):∀p,N p≠Up->p.length<=8:=λp hp=>by
 have k:(N p).isSome=true:=by
  cases hv:N p with
  |none=>exact absurd hv hp
  |some v=>rfl
 rcases (h p).1 k with e|⟨j,m,q⟩
 .rw[e];simp
 .exact Uz q.length_le<|Ay (h8 _ (bJ.2 ⟨j,m,rfl⟩))
theorem Qt{N:List Ky->Option (Nat×Nat)}(h:iX l l.length N){z:List Ky}{x:Lf}(hx:x∈l)(hp:z <+:aS x):N z≠Up:=λhn=>by
 have⟨j,k,e⟩:=bJ.1 hx;have:=(h z).2 (.inr ⟨j,k,by rw[e];exact hp⟩);rw[hn]at this;cases this
theorem QN{w0:Ur}{S S':Sx}(h:iG w0 x0 bm S)(h':iG w0 y0 bm' S')(hs:eE S.R S.F S.T S.n S.l)(hs':eE S'.R S'.F S'.T S'.n S'.l)(w:Ur)(hb:Bl w0 w):
  Cl 98 #[Uo #[.map (Uq x0.1),.map (Uq x0.2),.map (Uq bm)],Uo #[.map (Uq y0.1),.map (Uq y0.2),.map (Uq bm')]] w λe w'=>(∃z0 N,e=Ui (Uo #[.map (Uq z0.1),.map (Uq z0.2)])/\JF w' w.1.size (aR S S').l [] N (10*(9*S.l.length+9*S'.l.length)) z0)/\Bl w w':=by
 have⟨Z,D,G,N,B,J,t,E,r1,v⟩:=h;have⟨I,Q,U,u,O,K,o,M,r2,g⟩:=h';have s:=hs.1;have A:=hs'.1;have H:JH w0 N u (Mk S.l S.l.length) (Mk S'.l S'.l.length) (9*S.l.length) (9*S'.l.length) bm bm' (λd=>cE S.R S.F S.T d.1 d.2 d.2 S.n) (λd=>cE S'.R S'.F S'.T d.1 d.2 d.2 S'.n) (aR S S').l:=by
  refine⟨E.lower (UB _),M.lower (UB _),λw hw r q kl hk=>?_,λw hw r q kl hk=>?_,λz=>FI hs hs' z,λz y ha=>?_⟩
  .have:=E4 (t.bw hw) r q (BE hk).1 (kZ S.n s.1 r).1 (Uz (jJ S.R S.F S.T S.n r) oM);rw[yX]at this;exact this
  .have:=E4 (o.bw hw) r q (BE hk).1 (kZ S'.n A.1 r).1 (Uz (jJ S'.R S'.F S'.T S'.n r) oM);rw[yX]at this;exact this
  .have⟨x,k,j⟩:=ha;rcases yW x k with m|m
   .exact .inl<|Qt v m j
   .exact .inr<|Qt g m.1 j
 have i:∀p,(N p≠Up\/u p≠Up)->p.length<=8:=λp j=>by
  rcases j with j|j
  .exact T8 v (λx k=>(jU hs x k).2.2.2) p j
  .exact T8 g (λx k=>(jU hs' x k).2.2.2) p j
 have V:=hs.2.1;have Y:=hs'.2.1;have:=Zv H i oM 8 [] rfl w hb;unfold pV at this;rw[r1,r2]at this;exact this.mono λe w' ⟨⟨z0,N1,e1,e2⟩,b⟩=>⟨⟨z0,N1,e1,e2⟩,b⟩
theorem Zf{S S':Sx}(w:Ur)(h:iG w x0 bm S)(h':iG w y0 bm' S')(hs:eE S.R S.F S.T S.n S.l)(hs':eE S'.R S'.F S'.T S'.n S'.l):
  Cl 58 #[Uo #[.map (Uq x0.1),.map (Uq x0.2),.map (Uq bm)],Uo #[.map (Uq y0.1),.map (Uq y0.2),.map (Uq bm')]] w λe w'=>(∃j k,e=Ui (Uo #[.map (Uq j.1),.map (Uq j.2),.map (Uq k)])/\jZ w' j k (aR S S').l (eY S S'))/\Bl w w':=by
 have g:=hs.1;have o:=hs'.1;have hl:=hs.2.1;have He:=hs'.2.1;generalize y:((w.alloc (Uj #[.map (Uq x0.1),.map (Uq x0.2),.map (Uq bm)] 111)).alloc (Uj #[.map (Uq y0.1),.map (Uq y0.2),.map (Uq bm')] 111)).alloc (Uj #[.map Up,.map Up,.map Up] 111)=W;have z:Bl w W:=y▸(aU _ _ _).alloc oS _;have A0:aH W w.1.size (.map (Uq x0.1)) (.map (Uq x0.2)) (.map (Uq bm)):=by
  rw[<-y];exact((aH.made w _ _ _ _).bw (zO _ _) (aH.made w _ _ _ _).lt).bw (zO _ _) oS
 have B0:aH W (w.1.size+1) (.map (Uq y0.1)) (.map (Uq y0.2)) (.map (Uq bm')):=by
  rw[<-y];have:=aH.made (w.alloc (Uj #[.map (Uq x0.1),.map (Uq x0.2),.map (Uq bm)] 111)) (.map (Uq y0.1)) (.map (Uq y0.2)) (.map (Uq bm')) 111;exact(by simpa using this:aH _ (w.1.size+1) _ _ _).bw (zO _ _) oP
 have R0:aH W (w.1.size+1+1) (.map Up) (.map Up) (.map Up):=by
  rw[<-y];simpa using aH.made ((w.alloc (Uj #[.map (Uq x0.1),.map (Uq x0.2),.map (Uq bm)] 111)).alloc (Uj #[.map (Uq y0.1),.map (Uq y0.2),.map (Uq bm')] 111)) (.map Up) (.map Up) (.map Up) 111
 have Hb:=aC (λw1 (m:Bl W w1)=>QN (h.bw z) (h'.bw z) hs hs' w1 m);have Hd:aA (∀w1,Bl W w1->Cl 99 #[.map (Uq bm),.map (Uq bm')] w1 λe w'=>(∃k n D G L,e=Ui (.map (Uq k))/\eJ w' k n D G L/\eV L 8=eY S S'/\(∀r,L r≠[]->0<=r/\r<8)/\(∀r,(L r).length<=4000))/\Bl w1 w'):=aC (λw1 m=>by
  have⟨nA,D,G,N,B,zA,g1,_⟩:=(h.bw z).bw m;have⟨nB,D',G',N',B',zB,g2,_⟩:=(h'.bw z).bw m;refine(MH g1 g2 (λr=>(kZ S.n g.1 r).1) (λr=>(kZ S'.n o.1 r).1) (λr=>Uz (jJ S.R S.F S.T S.n r) g.2) (λr=>Uz (jJ S'.R S'.F S'.T S'.n r) o.2) (Uz g1.size_le zA) (Uz g2.size_le zB)).mono ?_;rintro e w3⟨k,P,D,G,L,rfl,Hn,O,i,b3⟩;refine⟨⟨k,P,D,G,L,rfl,O,(PV g.1 o.1 i.s (λr x=>i.done r rfl x)).symm,λr hr=>?_,λr=>?_⟩,b3⟩
  .have⟨x,hx⟩:=(i.s r).inh hr;rcases (i.done r rfl x).1 hx with h|h
   .exact nZ S.n g.1 r<|Fi h
   .exact nZ S'.n o.1 r<|Fi h
  .have h1:=i.len r;have h2:=jJ S.R S.F S.T S.n r;have h3:=jJ S'.R S'.F S'.T S'.n r;omega)
 have p:=aC A0;have A:=aC B0;have I:=aC R0;have Hh:=aC z;have Hm:aA (∃C f,W.1[w.1.size+1+1]? =Uq (.cells C 111 f)):=aC (by
  rw[<-y];have:=heap_alloc_new ((w.alloc (Uj #[.map (Uq x0.1),.map (Uq x0.2),.map (Uq bm)] 111)).alloc (Uj #[.map (Uq y0.1),.map (Uq y0.2),.map (Uq bm')] 111)) (Uj #[.map Up,.map Up,.map Up] 111);exact⟨_,_,oU this⟩)
 have Hj:=aC (And.intro hl He);have E:aA (∀w',Bl W w'->(w'.cell? (Ub w.1.size)=Uq (.map (Uq x0.1))/\w'.cell? (Ua w.1.size 1)=Uq (.map (Uq x0.2))/\w'.cell? (Ua w.1.size 2)=Uq (.map (Uq bm))/\w'.cell? (Ua (w.1.size+1) 0)=Uq (.map (Uq y0.1))/\w'.cell? (Ua (w.1.size+1) 1)=Uq (.map (Uq y0.2))/\w'.cell? (Ua (w.1.size+1) 2)=Uq (.map (Uq bm')))):=aC (λw' b=>by
  have U:=p.bw b p.lt;have V:=A.bw b A.lt;exact⟨U.c0,U.c1,U.c2,V.c0,V.c1,V.c2⟩)
 go_enter func58,ntmps58;go_wp2_with fail;refine zS E<|λqh=>?_;refine tY 0 5 ?_;refine tY 3 8 ?_;refine tY 5 10 ?_;refine cZ 2 ?_;intro K q;go_simp;refine(Hb _ zI.drew).mono ?_;rintro e w1⟨⟨j,N,rfl,jf⟩,m⟩;have M:Bl W w1:=⟨m.os,m.tape,m.output,m.size,m.block⟩;have H:=aC jf;refine bZ q (E _ M)<|λqh=>?_;refine cZ 7 ?_;intro K q;go_simp;refine(Hd _ M).mono ?_;rintro e Q⟨⟨k,P,D,G,L,rfl,O,Hf,Hg,Ha⟩,X⟩;have u:=aE M X;have J:=I.bw u I.lt;have Hk:aA (jZ Q j k (aR S S').l (eY S S')):=aC ⟨N,_,_,P,D,G,L,⟨H.tre.bw X,H.root,H.there⟩,oH Hj,O,Hf,Hg,Ha⟩;refine bZ q (E _ u)<|λqh=>?_;refine tZ 8 13 ?_;have⟨t0,t1,t2,tf⟩:=J.p3;have Hl:=aC<|J.set (.map (Uq j.1)) (.map (Uq j.2)) (.map (Uq k));have Y:=aC<|(p.bw u p.lt).far (Bc Q (w.1.size+1+1) (.map (Uq j.1)) (.map (Uq j.2)) (.map (Uq k))) oM;have Z:=aC<|(A.bw u A.lt).far (Bc Q (w.1.size+1+1) (.map (Uq j.1)) (.map (Uq j.2)) (.map (Uq k))) oM;have Hc:=aC (Hk.far (t:=w.1.size+1+1) (by have⟨C,f,e⟩:=Hm.out;exact⟨C,f,(u.block _ I.lt).trans e⟩) oD (Bc Q (w.1.size+1+1) (.map (Uq j.1)) (.map (Uq j.2)) (.map (Uq k))));have Hi:=aC<|aE Hh u;refine cZ 9 ?_;intro K q;go_simp;refine bZ q ⟨Y.c0,Y.c1,Y.c2,Z.c0,Z.c1,Z.c2⟩<|λqh=>?_;refine zD ?_;go_wp2_with fail;have⟨s0,s1,s2⟩:=Hl.q3;refine zF (v:=Uo #[.map (Uq j.1),.map (Uq j.2),.map (Uq k)]) (by simp[results,results58,go_sem,s0,s1,s2]) ?_;first|refine⟨⟨j.1,j.2,k,rfl,Hc⟩,?_⟩|refine⟨⟨j,k,rfl,Hc⟩,?_⟩
 exact((Hi.setCell oS _).setCell oS _).setCell oS _
theorem wH{Q:Prop}(h:Q:=by
 go_enter func59,ntmps59;go_wp2_with fail;try rw[k]
 clear k;refine v.mono ?_;rintro e w1⟨rfl,j⟩;have R:=(g.bw j g.lt).c2;have r:=aC (aE t j);have i:=aC (q w1 j);clear j q;go_wp2_with fail;refine i.mono ?_;rintro e S⟨rfl,z⟩;have o:=aC (aE r z);clear z;go_wp2_with fail;go_ret;exact⟨cG y.symm,o⟩):Q:=h
theorem Io(w:Ur)(h:jZ w z0 bd J ul)(hd:fK J J.length)(h8:∀x∈J,x.p.length<=8)(hJ:J.length<=1048576)(hu:ul.length<=1048576):
  Cl 59 #[Uo #[.map (Uq z0.1),.map (Uq z0.2),.map (Uq bd)]] w (Rt w (Un (decide (J.length<=1000)&&decide (ul.length<=1000)))):=by
 have⟨W,k⟩:=zE (w.alloc (Uj #[.map (Uq z0.1),.map (Uq z0.2),.map (Uq bd)] 111));have A:Bl w W:=k▸zO _ _;have s:aH W w.1.size (.map (Uq z0.1)) (.map (Uq z0.2)) (.map (Uq bd)):=k▸aH.made _ _ _ _ _;have⟨N,B,c,n,D,G,L,E,U,Y,Z,H,I⟩:=h.bw A;have v:=aC<|Sv (E.tj hd) U hJ (λx hx=>Ay (h8 x hx)) 8 [] z0 rfl E.root W zI;rw[GU]at v;have q:=aC<|λw1 (j:Bl W w1)=>NS (Y.bw j) H I;rw[Z]at q;have t:=aC A;have g:=aC s;have⟨T,k1⟩:=s.q2;have⟨m,K⟩:=zE J.length;have⟨u,X⟩:=zE ul.length;rw[K]at v hJ⊢;rw[X]at q hu⊢;have⟨V,M⟩:=zE ((decide (m<=1000)&&decide (u<=1000)));rw[M];have b:=aC M;by_cases O:m<=1000
 .have C:(m:Int)<=1000:=oM;by_cases Q:u<=1000
  .have F:(u:Int)<=1000:=oM;have y:aA (V=true):=aC (by rw[<-b.out];simp[O,Q]);exact wH
  .have F:¬(u:Int)<=1000:=oM;have P:decide ((u:Int)<=1000)=false:=oU F;have y:aA (V=false):=aC (by rw[<-b.out];simp[Q]);exact wH
 .have C:¬(m:Int)<=1000:=oM;have P:decide ((m:Int)<=1000)=false:=oU C;have y:aA (V=false):=aC (by rw[<-b.out];simp[O]);go_enter func59,ntmps59;go_wp2_with fail;try rw[k]
  refine v.mono ?_;rintro e w1⟨rfl,j⟩;have r:=aC<|aE t j;go_wp2_with fail;go_ret;exact⟨cG y.symm,r⟩
end Go.Proofs.YtnabjmnfhkcnjaaGreatDoor
