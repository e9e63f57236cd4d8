import Derived.Test.YtmlmkaiibamabaaGreatDoorSyg05
set_option linter.unusedVariables false
set_option linter.unusedSimpArgs false
set_option maxRecDepth 100000
set_option maxHeartbeats 40000000
namespace Go.Proofs.YtmlmkaiibamabaaGreatDoor
open Go.ChangeShapes Go.WideShapes Go.ChangeAt Go.RowKit Go.Maps Go.Sort Go.Proofs.Tryz
open Go.Value renaming slice → Uf, int → Ug, tuple → Ul, string → Um, bool → Un, agg → Uo
open Go.IntKind renaming i64 → Uh
open Go.Ending renaming returned → Ui
open Go.Obj renaming cells → Uj
open Option renaming none → Up, some → Uq
open Go renaming World → Ur, Addr → Us
open List renaming length_append → UB, length_cons → Vq, getD → UA, map_cons → UD, append_nil → VW, flatMap_cons → Vs, append_assoc → Vg, take_length → Vn, drop_length → Yn, flatMap_append → VU, prefix_refl → Yc, range → UW, flatMap_map → Yo, range_succ → Vj, sum_cons → Vz, length_range → Yp, flatMap_nil → VV
open Nat renaming le_refl → Uv, eq_zero_or_pos → VL, zero_le → Ux, lt_of_lt_of_le → Ut, le_trans → Uw, add_zero → VO
open Go.World renaming ownsRow_lit → VF, frozen?_of_block → UT, setCell → UL, cell?_of_block → US
open Int renaming natCast_nonneg → UI
variable {B b cap g i k lo m n off:Nat}{F R T:Nat ->Int}{L:Int ->List (Int×Int)}{P:Program}{a:Act}{body v:Value}{l:List Lf}{ns zs:List Int}{p:List ByteArray}{w w' w1 wr:Ur}
theorem QmS (l:List Rn)(r:Rn):(ins l r).length<=l.length+1:=by
 have:=Qhu l r l.length zL;rw [QjV] at this;unfold ins;simp only [UB,List.length_singleton];omega
theorem Qdx:∀(b l:List Rn),(unF l b).length<=l.length+b.length
 | [],l=>by simp [unF]
 | q::b,l=>by
  have j:=Qdx b (ins l q);have k:=QmS l q;show (unF (ins l q) b).length<=_;simp only [Vq];omega
theorem QdI (l b:List Rn)(q:Rn):unF l (b++[q])=ins (unF l b) q:=by simp [unF]
theorem QaV (R F T:Nat ->Int)(n:Nat):(flat R F T n).length=n:=by simp [flat]
theorem QgQ (R F T:Nat ->Int)(n i:Nat)(h:i<n):gR (flat R F T n) i=(R i,F i,T i):=by simp [gR,flat,UA,h]
theorem Qgk (l:List Rn)(j:Nat)(u:Value)(h:(Qaf l)[j]? =Uq u):j/3<l.length/\ ((j%3=0/\ u=Ud (gR l (j/3)).1) \/(j%3=1/\ u=Ud (gR l (j/3)).2.1) \/(j%3=2/\ u=Ud (gR l (j/3)).2.2)):=by
 induction l generalizing j with
 | nil=>simp [Qaf] at h
 | cons a l ih=>
  have e:Qaf (a::l)=Ud a.1::Ud a.2.1::Ud a.2.2::Qaf l:=by simp [Qaf]
  rw [e] at h;match j,h with
  | 0,h=>simp at h;simp [gR,h]
  | 1,h=>simp at h;simp [gR,h]
  | 2,h=>simp at h;simp [gR,h]
  | j+3,h=>
   have h:(Qaf l)[j]? =Uq u:=oU h;obtain⟨r,q⟩:=ih j h;have k:(j+3)/3=j/3+1:=oM;have m:(j+3)%3=j%3:=oM;rw [k,m];refine⟨oS,?_⟩;simpa [gR] using q
theorem QeW(h:QaT w (Uq (Ua g off)) n R F T):∀j u,(Qaf (flat R F T n))[j]? =Uq u ->w.cell? (((Ua g off):Us).add j)=Uq u:=by
 intro j u z;obtain⟨k,m⟩:=Qgk _ j u z;rw [QaV] at k;obtain⟨b,o,e,i,r,v,y⟩:=h.at k;injection e with e;injection e with e3 e4;subst e3 e4;rw [QgQ _ _ _ _ _ k] at m;have t:j=j/3*3+j%3:=oM;rcases m with ⟨q,rfl⟩|⟨q,rfl⟩|⟨q,rfl⟩
 ·rw [Addr.add_lit,show off+j=off+j/3*3 from by omega];exact r
 ·rw [Addr.add_lit,show off+j=off+j/3*3+1 from by omega];exact v
 ·rw [Addr.add_lit,show off+j=off+j/3*3+2 from by omega];exact y
theorem FR.weak{C:Nat}{l:List Rn}(h:FR w B v l)(hc:C<=B):FR w C v l:=by
 obtain⟨k,m⟩:=h;refine⟨k,m.imp id ?_⟩;rintro⟨g,cap,j,e,q,r⟩;exact⟨g,cap,j,e,oM,r⟩
theorem QcF(w:Ur)(t ty e:TypeId)(i:TypeInfo)(ht:P.underlying t=Uq (.slice e))(hi:P.info? e=Uq i)(base:Option Us)(n cap c':Nat)(h:n<=cap):
  (Builtin.append_ #[t,t] ty #[Uf base n cap,Uf Up 0 c']).run P w=.ok (Uf base n cap) w:=by
 cases base<;>simp [Builtin.append_,run_underlying ht,sizeOf,typeInfo,hi,Builtin.lenOf,Builtin.firstCells,storeCells,loadCells,loadCellsFrom,h,Result.andThen]
theorem QfR{ops:Array Oper}{rest:List Oper}{o:Oper}{Q:Exit ->Act ->Ur ->Prop}(hgd:o.guard=Up)(s x:Operand)(t:TypeId)
  (ho:o.op=.call {callee:=.builtin .append,args:=#[s,x],argTypes:=#[t,t]})
  (base:Nat) (e:TypeId) (i:TypeInfo) (z:Value) (size bytes:Nat) (ht:P.underlying t=Uq (.slice e)) (hi:P.info? e=Uq i) (hz:i.zero=Uq z)
  (hsize:i.size=size) (hby:i.bytes=bytes) (hzs:z.cells.size=size) (hsz:0<size)
  (v:Value) (n:Nat) (xs:List Value) (hs:a.eval s=v) (hown:w.ownsRow base e size v n xs)
  (ad:Option Us) (m c:Nat) (news:List Value) (hx:a.eval x=Uf ad m c) (hl:news.length=m*size) (hnews:m=0 \/∃b,ad=Uq b/\∀j u,news[j]? =Uq u ->w.cell? (b.add j)=Uq u) (h1:∀u∈news,u.oneCell'=true)
  (h63:n+m<=maxLen) (hbytes:(n+m)*bytes<=140737488355328) (hbase:base<=w.heap.size)
  (h:∀v' w',w'.ownsRow base e size v' (n+m) (xs++news) ->w.grownBy w' v.ownBlock ->(v'.ownBlock=v.ownBlock \/v'.ownBlock=Uq w.heap.size) ->wpList P ops Q rest (a.put o.dst v') w'):wpList P ops Q (o::rest) a w:=by
 rcases ad with _|b
 ·obtain rfl:m=0:=by
   rcases hnews with q|⟨_,e,_⟩
   ·exact q
   ·cases e
  obtain rfl:news=[]:=List.length_eq_zero_iff.1 oM;obtain⟨b,cap,k,A⟩:∃b cap,v=Uf b n cap/\ n<=cap:=by
   rcases hown.2 with ⟨e,r⟩|⟨g,cap,M,e,_,_,E,_⟩
   ·exact⟨Up,0,by rw [e,r],oM⟩
   ·exact⟨_,cap,e,E⟩
  refine wpList_plain hgd fun _ hK=> ?_;unfold Oper.wp execOp;rw [k] at hs;simp only [ho,resolve,invoke,builtin,Sem.run_bind,Sem.run_pure,Result.andThen_ok,List.map_toArray,UD,List.map_nil,hs,hx,QcF w _ _ _ i ht hi b n cap c A];refine hK _ _ (h _ _ ?_ ⟨rfl,rfl,rfl,Uv _,fun _ _ _=>rfl⟩ (.inl (by rw [k])));rw [VW,<- k];exact hown
 ·refine Qar hgd s x t ho base e i z size bytes ht hi hz hsize hby hzs hsz v n xs hs hown b m c news hx hl ?_ h1 h63 hbytes hbase h;rcases hnews with q|⟨b',e,y⟩
  ·subst q;obtain rfl:news=[]:=List.length_eq_zero_iff.1 oM;intro j u p;simp at p
  ·injection e with e;subst e;exact y
theorem QeZ (a:Option Us)(n c:Nat)(R F T:Nat ->Int)(a':Option Us)(n' c':Nat)(R' F' T':Nat ->Int)(w:Ur)(hn:n<=1000)(hn':n'<=1000)(h:QaT w a n R F T)(h':QaT w a' n' R' F' T')(ho:Qeo R F T n)(ho':Qeo R' F' T' n'):
  Cl 52 #[Uo #[Uf a n c],Uo #[Uf a' n' c']] w fun e w'=>∃v,e=Ui (Uo #[v])/\ FR w' w.heap.size v (unL R F T n R' F' T' n')/\ Bl w w':=by
 obtain⟨i0,hi,H4,H5,H6⟩:=info_parts Tryz.infoRun;obtain⟨z,V⟩:∃z:Nat ->List Rn,(fun k=>unF (flat R F T n) (flat R' F' T' k))=z:=⟨_,rfl⟩;have Hf:Hid (z 0=flat R F T n):=V▸hid rfl;have H1:Hid (∀k,z (k+1)=ins (z k) (R' k,F' k,T' k)):=by rw [<- V];exact hid fun k=>by show unF _ (flat R' F' T' (k+1))=_;rw [QcU,QdI]
 have Hy:Hid (z n'=unL R F T n R' F' T' n'):=V▸hid rfl;have H0:Hid (∀k,(z k).length<=n+k):=by rw [<- V];exact hid fun k=>by have:=Qdx (flat R' F' T' k) (flat R F T n);rw [QaV,QaV] at this;exact this
 have Hz:Hid (∀k,k<=n' ->Qcy (z k)):=by rw [<- V];exact hid fun k U=>(Qd7 _ _ (Qbh n ho) (Qbh k (fun i hi=>ho' i oM)).2).1
 have Hx:Hid (∀k,k<n' ->Rok (R' k,F' k,T' k)):=hid fun k U=>Qbm.1 (ho' k U).1;have B:=hid (QaV R F T n);have N:Hid (n=0 \/∃g off,a=Uq (Ua g off)/\ g<w.heap.size/\∀j u,(Qaf (flat R F T n))[j]? =Uq u ->w.cell? (((Ua g off):Us).add j)=Uq u):=by
  rcases VL n with Y|Y
  ·exact hid (.inl Y)
  ·obtain⟨b,o,e,P,_⟩:=h.at Y;rw [e] at h;exact hid (.inr ⟨b,o,e,P,QeW h⟩)
 clear V ho ho';obtain⟨C,Hj⟩:=zE (flat R F T n);rw [Hj] at Hf B N;clear Hj;obtain⟨r,Hh⟩:=zE (((w.alloc (Uj #[Uf a n c] 26)).alloc (Uj #[Uf a' n' c'] 26)).alloc (Uj #[Ue] 26));obtain⟨t,O⟩:=zE ((w.alloc (Uj #[Uf a n c] 26)).alloc (Uj #[Uf a' n' c'] 26));have za:t.heap.size=w.heap.size+2:=O▸oP;have Hg:Bl w t:=O▸Qad _ _ _;have Hl:t.cell? (Ub w.heap.size)=Uq (Uf a n c):=O▸oP;have Hm:t.cell? (Ua (w.heap.size+1) 0)=Uq (Uf a' n' c'):=O▸oP;have Z:t.alloc (Uj #[Ue] 26)=r:=O▸Hh;have I:Bl t r:=Z▸zO _ _;have Hn:Hid (Bl w r):=hid (Qaa Hg I);have s:Hid (r.heap.size=w.heap.size+3):=hid (by rw [<- Z];simp;omega);have x0:r.cell? (Ub w.heap.size)=Uq (Uf a n c):=(I.cell (p:=(Ub w.heap.size)) (show w.heap.size<t.heap.size by omega)).trans Hl;have x1:r.cell? (Ua (w.heap.size+1) 0)=Uq (Uf a' n' c'):=(I.cell (p:=(Ua (w.heap.size+1) 0)) (show w.heap.size+1<t.heap.size by omega)).trans Hm;have x2:r.cell? (Ua (w.heap.size+1+1) 0)=Uq Ue:=by rw [<- Z,show w.heap.size+1+1=t.heap.size from by omega];simp
 have y2:r.frozen? (Ua (w.heap.size+1+1) 0)=false:=by rw [<- Z,show w.heap.size+1+1=t.heap.size from by omega];simp
 clear O Hl Hm Z I Hg za;have Hv:=hid h';have Hr:Hid (∀w1,Bl w w1 ->n=0 \/∃ad,a=Uq ad/\∀j u,(Qaf C)[j]? =Uq u ->w1.cell? (ad.add j)=Uq u):=by
  refine hid fun w1 P=> ?_;rcases N.out with Y|⟨g,off,e,hg,hc⟩
  ·exact .inl Y
  ·refine .inr ⟨_,e,fun j u hj=> ?_⟩;have J:=hc j u hj;rw [Addr.add_lit] at J ⊢;exact(P.cell (p:=(Ua g (off+j))) hg).trans J
 clear h h' N;obtain⟨H,D⟩:=zE (r.alloc (Uj #[] 89));have E:Bl r H:=D▸zO _ _;have u0:=(E.cell (p:=(Ub w.heap.size)) (show w.heap.size<r.heap.size by have:=s.out;omega)).trans x0;have u1:=(E.cell (p:=(Ua (w.heap.size+1) 0)) (show w.heap.size+1<r.heap.size by have:=s.out;omega)).trans x1;have u2:=(E.cell (p:=(Ua (w.heap.size+1+1) 0)) (show w.heap.size+1+1<r.heap.size by have:=s.out;omega)).trans x2;have v2:=((Qc0 E).2 (w.heap.size+1+1) 0 (oH s)).trans y2;have Hw:Hid (H.ownsRow (w.heap.size+3) 89 3 (Uf (Uc r.heap.size) 0 0) 0 []):=by
  rw [<- D];exact hid (VF (base:=w.heap.size+3) (e:=89) (size:=3) r #[] 0 (oH s) oL rfl)
 have He:=hid (Qaa Hn E);have G:Hid (w.heap.size+3<=H.heap.size):=hid (oJ E.size s);clear E x0 x1 x2 y2;go_enter func52,ntmps52;go_wp2_with (at_builtin;refine QfR rfl _ _ 24 rfl (w.heap.size+3) 89 i0 _ 3 24 underlying24 hi H4 H5 H6 rfl oD (Uf (Uc r.heap.size) 0 0) 0 [] rfl Hw a n c (Qaf C) rfl ?c1 (Hr H He) (QeH C) ?c4 ?c5 G ?_);case c1=>rw [Qdk,B.out]
 case c4=>unfold maxLen;omega
 case c5=>omega
 intro v3 L Ha Q Hb;have K:∀q,q<w.heap.size+3 ->Uq q≠(Value.slice (Uc r.heap.size) 0 0).ownBlock:=fun q hq e=>by
  have:=s.out;simp [Value.ownBlock] at e;omega
 have z3:w.heap.size+3<=L.heap.size:=oJ Q.size G;have d1:=Q.cell u1 (K (w.heap.size+1) oM);have d2:=Q.cell u2 (K (w.heap.size+1+1) oM);have k2:L.frozen? (Ua (w.heap.size+1+1) 0)=false:=(UT (Q.block (w.heap.size+1+1) (oH G) (K _ oM))).trans v2;have Hs:Hid (FR L (w.heap.size+3) v3 (z 0)):=by
  rw [Hf.out];unfold FR;rw [B.out];have J:=Ha;exact hid J
 have Ho:Hid (Bl w L):=hid (He.grown Q (oH G) (fun k U=>by have:=s.out;simp [Value.ownBlock] at U;omega));clear Ha Q Hb u0 u1 u2 v2 D Hh K;go_wp2_with fail;go_loopw [5,6] (fun u5 iv wr=>∃(k:Nat),k<=n'/\ iv=Ud k/\ Hid (FR wr (w.heap.size+3) u5 (z k))/\ wr.cell? (Ua (w.heap.size+1) 0)=Uq (Uf a' n' c')/\ wr.cell? (Ua (w.heap.size+1+1) 0)=Uq Ue/\ wr.frozen? (Ua (w.heap.size+1+1) 0)=false/\ Hid (Bl w wr)/\ w.heap.size+3<=wr.heap.size) (fun _ iv _=>n' - (intOf iv).toNat);case atStart=>exact⟨0,Ux _,rfl,Hs,d1,d2,k2,Ho,z3⟩
 case round=>
  clear d1 d2 k2 z3;obtain⟨k,U,rfl,W,e1,A,j2,S,zr⟩:=hrel;by_cases Hd:k<n'
  ·obtain⟨gb,ob,rfl,H7,q0,q1,q2⟩:=(Hv.bw S).at Hd;obtain⟨x,cc,rfl,Hk,H2,H3⟩:=W.fs;have H8:=H0 k;have HC:=hid (QfL x cc (z k) (R' k) (F' k) (T' k) wr oM Hk (Hz k U) (Hx k Hd));have HN:=hid (H1 k);obtain⟨ln,Hc⟩:=zE ((z k).length);rw [Hc] at HC;clear Hk;go_wp2_with fail;try rw [Hc]
   refine HC.mono ?_;rintro e w4 ⟨v4,rfl,Hi,b4⟩;have Ht:Hid (FR w4 (w.heap.size+3) v4 (z (k+1))):=(by rw [HN.out];exact hid (Hi.weak zr));have r1:=(b4.cell (p:=(Ua (w.heap.size+1) 0)) (show w.heap.size+1<wr.heap.size by omega)).trans e1;have r2:=(b4.cell (p:=(Ua (w.heap.size+1+1) 0)) (show w.heap.size+1+1<wr.heap.size by omega)).trans A;have s2:=((Qc0 b4).2 (w.heap.size+1+1) 0 oM).trans j2;have Hp:=hid (Qaa S b4);have z4:=b4.size;clear Hi b4 e1 A j2 q0 q1 q2 Hc;go_wp2_with fail;go_roundw;case rel=>exact⟨k+1,Hd,oN,Ht,r1,r2,s2,Hp,oM⟩
   case measure=>exact oE
  ·obtain rfl:k=n':=oM;have X:Hid (FR wr (w.heap.size+3) u5 (unL R F T n R' F' T' k)):=(by rw [<- Hy.out];exact W);obtain⟨y,m,M,rfl⟩:=Qbs X;have Hu:Hid (FR (wr.setCell (Ua (w.heap.size+1+1) 0) (Uf y m M)) w.heap.size (Uf y m M) (unL R F T n R' F' T' k)):=by
    refine hid ?_;refine World.ownsRow.kept (X.weak oM) (Qa6 wr (Ua (w.heap.size+1+1) 0) _) ?_;cases e:(Value.slice y m M).ownBlock with
    | none=>exact .inl rfl
    | some g=>exact .inr (fun A=>by have:=(World.ownsRow.lt X g e).1;injection A with A;have A:g=w.heap.size+1+1:=A;omega)
   have Hq:Hid (Bl w (wr.setCell (Ua (w.heap.size+1+1) 0) (Uf y m M))):=hid (S.setCell (p:=(Ua (w.heap.size+1+1) 0)) oQ _);have k6:=World.cell?_setCell_same wr (Ua (w.heap.size+1+1) 0) (Uf y m M) A;clear W;go_wp2_with fail;refine zF (v:=Uo #[Uf y m M]) (by simp [results,results52,go_sem,k6]) ⟨_,rfl,Hu,Hq⟩
open Go.Deep
theorem Qnd (g off m c:Nat)(p:List ByteArray)(w:Ur)(hp:p.length=m)(hm:m<=1048576)(hg:g<w.heap.size)(h:∀t,t<m ->w.cell? (Ua g (off+t))=Uq (Um (gS p t))):
  Cl 67 #[Uf (Uq (Ua g off)) m c] w fun e w'=>∃q cap,e=Ui (Uf (Uc q) m cap)/\ Bl w w'/\ w.heap.size<=q/\ q<w'.heap.size/\ Wr w' q 9 m (fun t=> Um (gS p t))/\ m<=cap/\ cap<=9223372036854775807/\ w'.ownsRow w.heap.size 9 1 (Uf (Uc q) m cap) m (Qck p):=by
 obtain⟨G,hi,V,Y,Z⟩:=info_parts Qdn;have r:Bl w (w.alloc (Uj #[] 9)):=zO _ _;have b:(w.alloc (Uj #[] 9)).ownsRow w.heap.size 9 1 (Uf (Uc w.heap.size) 0 0) 0 []:=by
  have:=VF (base:=w.heap.size) (e:=9) (size:=1) w #[] 0 zL oL rfl;simpa using this
 obtain⟨q,cap,w',o,u,i,s⟩:=Qfo 74 9 G _ 1 16 underlying74 hi V Y Z rfl oD oM w.heap.size g off m c (fun t=> Um (gS p t)) (w.alloc (Uj #[] 9)) w.heap.size hm b oP (fun j hj=>(r.cell (p:=(Ua g (off+j))) hg).trans (h j oM)) (fun _ _=>rfl);have v:=Qdv u;rw [Nat.mul_one] at v;have y:Hid (m<=cap/\ cap<=9223372036854775807):=hid (by
  rcases u.2 with ⟨O,_⟩|⟨J,H,I,U,B,X,K,Q,L,N⟩
  ·cases O
  ·injection U with e1 e2 e3;unfold maxLen at Q;omega)
 have A:Hid (Bl w w'):=hid (r.grown i r.size (fun k e=>oI e));have z:=hid v;have E:Hid (w'.ownsRow w.heap.size 9 1 (Uf (Uc q) m cap) m (Qck p)):=hid (by unfold Qck;rw [hp];exact u);have M:Hid (w.heap.size<=q):=hid (by rcases s with e|e<;>rw [e];exact Uv _;simp);clear u i s v h b r;go_enter func67,ntmps67;go_wp2_with (at_builtin;refine Qab rfl _ _ _ _ rfl o (by rfl) (by rfl) rfl ?_;clear o);go_ret;exact⟨q,cap,rfl,A,M,z.lt,z,y.1,y.2,E⟩
theorem Qhd (g off m c:Nat)(y:Lf)(w:Ur)(hp:y.p.length=m)(hm:m<=1048576)(hg:g<w.heap.size)(h:∀t,t<m ->w.cell? (Ua g (off+t))=Uq (Um (gS y.p t))):
  Cl 41 #[Uo #[Uf (Uq (Ua g off)) m c,Un y.fl,Ud y.r,Ud y.q,Um y.v]] w fun e w'=>∃q cap,e=Ui (Uo #[Uf (Uc q) m cap,Un y.fl,Ud y.r,Ud y.q,Um y.v])/\ Bl w w'/\ w.heap.size<=q/\ q<w'.heap.size/\ Wr w' q 9 m (fun t=> Um (gS y.p t))/\ m<=cap/\ cap<=9223372036854775807/\ w'.ownsRow w.heap.size 9 1 (Uf (Uc q) m cap) m (Qck y.p):=by
 obtain⟨W,j⟩:=zE ((w.alloc (Uj #[Uf (Uq (Ua g off)) m c,Un y.fl,Ud y.r,Ud y.q,Um y.v] 85)).alloc (Uj #[Ue,Un false,Ud 0,Ud 0,Um ⟨#[]⟩] 85));have k:Bl w W:=j▸Qad _ _ _;have z:Bx5 W w.heap.size (Uf (Uq (Ua g off)) m c) (Un y.fl) (Ud y.r) (Ud y.q) (Um y.v):=j▸(Bx5.new _ _ _ _ _ _ _).up _;have o:Bx5 W (w.heap.size+1) Ue (Un false) (Ud 0) (Ud 0) (Um ⟨#[]⟩):=by
  rw [<- j];have:=Bx5.new (w.alloc (Uj #[Uf (Uq (Ua g off)) m c,Un y.fl,Ud y.r,Ud y.q,Um y.v] 85)) Ue (Un false) (Ud 0) (Ud 0) (Um ⟨#[]⟩) 85;simpa using this
 have s:=hid (Qnd g off m c y.p W hp hm (Ut hg k.size) (fun t ht=>(k.cell (p:=(Ua g (off+t))) hg).trans (h t ht)));have L:=z.c0;have b:=hid z;have A:=hid o;have V:=hid k;have Ha:w.heap.size+1<W.heap.size:=o.lt;clear k z o h;go_enter func41,ntmps41;go_wp2_with fail;try rw [j]
 clear j;refine s.mono ?_;rintro e w1 ⟨q,cap,rfl,u,O,Q,U,I,J,M⟩;have i:=b.bw u b.lt;have E:=A.bw u A.lt;obtain⟨F,P,R,S,T,fa⟩:=i.p5;obtain⟨N,X,B,C,D,fr⟩:=E.p5;have H:=hid U;have Z:Hid (w1.ownsRow w.heap.size 9 1 (Uf (Uc q) m cap) m (Qck y.p)):=hid (QaW M oM);clear M;have Y:=hid (Qaa V u);have G:Hid (W.heap.size<=q/\ q<w1.heap.size):=hid ⟨O,Q⟩;clear L s U O Q u i E;go_wp2_with fail;have K:=G.out;refine zF (v:=Uo #[Uf (Uc q) m cap,Un y.fl,Ud y.r,Ud y.q,Um y.v]) (by simp [results,results41,go_sem,N,X,B,C,D]) ⟨q,cap,rfl,?_,oM,?_,?_,I,J,?_⟩
 ·repeat (refine Below.setCell ?_ oP _)
  exact Y
 ·simp [UL];exact K.2
 ·repeat (refine Wr.same (w:=_) ?_ (zH _ _ _ _ oS))
  exact H
 ·refine Qap Z (fun g hg=> ?_);have e:q=g:=by simpa [Value.ownBlock] using hg
  repeat (rw [zH _ _ _ _ oS])
theorem Qej (g off m c:Nat)(y:Lf)(w:Ur)(hp:y.p.length=m)(hm:m<=1048576)(hg:g<w.heap.size)(h:∀t,t<m ->w.cell? (Ua g (off+t))=Uq (Um (gS y.p t))):
  Cl 41 #[Uo #[Uf (Uq (Ua g off)) m c,Un y.fl,Ud y.r,Ud y.q,Um y.v]] w fun e w'=>∃q cap,e=Ui (Uo #[Uf (Uc q) m cap,Un y.fl,Ud y.r,Ud y.q,Um y.v])/\ Bl w w'/\ w.heap.size<=q/\ q<w'.heap.size/\ Wr w' q 9 m (fun t=> Um (gS y.p t))/\ m<=cap/\ cap<=9223372036854775807:=
 (Qhd g off m c y w hp hm hg h).mono fun e w' ⟨q,cap,a1,a2,a3,a4,a5,a6,a7,_⟩=>⟨q,cap,a1,a2,a3,a4,a5,a6,a7⟩
theorem Bx5.setFar{v0 v1 v2 v3 v4:Value}(h:Bx5 w b v0 v1 v2 v3 v4)(t:Nat)(u:Value)(hne:b≠t):Bx5 (w.setCell (Ub t) u) b v0 v1 v2 v3 v4:=by
 have e:(w.setCell (Ub t) u).heap[b]? =w.heap[b]? :=zH _ _ _ _ hne;have q:=fun o=>US (w:=w) (w':=w.setCell (Ub t) u) (a:=(Ua b o)) e;exact⟨(q 0).trans h.c0,(q 1).trans h.c1,(q 2).trans h.c2,(q 3).trans h.c3,(q 4).trans h.c4,fun i=>(UT (a:=(Ua b i)) e).trans (h.f i),by simp [UL];exact h.lt⟩
theorem FR.setFar{l:List Rn}(h:FR w B v l)(q:Us)(u:Value)(hv:v.ownBlock≠Uq q.block):FR (w.setCell q u) B v l:=by
 refine World.ownsRow.kept h (w':=w.setCell q u) (row:=Uq q.block) ⟨rfl,rfl,rfl,by simp [UL],fun k hk hne=>zH _ _ _ _ (fun e=>hne (by rw [e]))⟩ ?_;cases e:v.ownBlock with
 | none=>exact .inl rfl
 | some b=>exact .inr (fun e2=>hv (by rw [e];exact e2))
theorem LC.set{P Q:Nat ->Nat}(h:LC w lo v l P Q)(q:Us)(u:Value)(hg:v.ownBlock≠Uq q.block)(hP:∀i,i<l.length ->P i≠q.block):LC (w.setCell q u) lo v l P Q:=
 ⟨Qap h.row (fun g hg'=>zH _ _ _ _ (fun e=>hg (by rw [hg',e]))),fun i hi=>by
  obtain⟨k,m,r,j⟩:=h.pt i hi;exact⟨k,by simp [UL];exact m,r,j.1.same (zH _ _ _ _ (hP i hi)),j.2⟩⟩
structure JS (w wr:Ur)(t:Nat)(va0 va1 vb0 vb1:Value)(g c:Nat)(vr:Value)(l:List Lf)(lr:List Rn)(P Q:Nat ->Nat):Prop where
 low:Bl w wr
 a:Bx2 wr w.heap.size va0 va1
 b:Bx2 wr (w.heap.size+1) vb0 vb1
 r:Bx2 wr (w.heap.size+1+1) Ue Ue
 o:Bx2 wr t (Uf (Uc g) l.length c) vr
 lc:LC wr w.heap.size (Uf (Uc g) l.length c) l P Q
 fr:FR wr w.heap.size vr lr
 ht:w.heap.size+3<=t
 hv:vr.ownBlock≠Uq t
 hg:w.heap.size+3<=g
 hv2:∀b,vr.ownBlock=Uq b ->w.heap.size+3<=b
section
variable {w wr w1 : Ur} {t : Nat} {va0 va1 vb0 vb1 : Value} {g c : Nat} {vr : Value} {l : List Lf} {lr : List Rn} {P Q : Nat -> Nat}
theorem JS.bw (h:JS w wr t va0 va1 vb0 vb1 g c vr l lr P Q)(hb:Bl wr w1):JS w w1 t va0 va1 vb0 vb1 g c vr l lr P Q:=
 ⟨h.low.trans (hb.mono h.low.size),h.a.bw hb h.a.lt,h.b.bw hb h.b.lt,h.r.bw hb h.r.lt,h.o.bw hb h.o.lt,h.lc.bw hb,h.fr.bw hb,h.ht,h.hv,h.hg,h.hv2⟩
theorem JS.set {g2 c2 n2:Nat}{l2:List Lf}{P2 Q2:Nat ->Nat}(h:JS w wr t va0 va1 vb0 vb1 g c vr l lr P Q)(hb:Bl wr w1)(h2:LC w1 w.heap.size (Uf (Uc g2) n2 c2) l2 P2 Q2)(hn:n2=l2.length)(hg:wr.heap.size<=g2)(hp:∀i,i<l2.length ->1<=(gL l2 i).p.length):JS w (w1.setCell (Ub t) (Uf (Uc g2) n2 c2)) t va0 va1 vb0 vb1 g2 c2 vr l2 lr P2 Q2:=by
 subst hn;have j:=h.bw hb;have u:=h.o.lt;have m:=h.ht;refine⟨j.low.setCell oQ _,j.a.setAt _ _ oQ,j.b.setAt _ _ oQ,j.r.setAt _ _ oQ,j.o.set0 _,h2.set _ _ (fun e=>by have:=Qbo e;have:g2=t:=this;omega) (fun i hi e=> ?_),?_,h.ht,h.hv,oM,h.hv2⟩
 ·have q:=(h2.pt i hi).2.2.2.1.cell (i:=0) (oH (hp i hi));have e:P2 i=t:=e;rw [e,j.o.c0] at q;cases q
 ·refine World.ownsRow.kept j.fr (w':=w1.setCell (Ub t) _) (row:=Uq t) ⟨rfl,rfl,rfl,by simp [UL],fun k hk hne=>zH _ _ _ _ (fun e=>hne (by rw [e]))⟩ ?_;cases e:vr.ownBlock with
  | none=>exact .inl rfl
  | some b=>exact .inr (fun e2=>h.hv (by rw [e];exact e2))
end
theorem Seg.keptR{a:Option Us}{f:Nat ->Int}{row:Option Nat}(h:Seg w a n f)(g:w.grownBy w' row)(hab:∀y,a=Uq y ->row≠Uq y.block):Seg w' a n f:=by
 refine h.imp id ?_;rintro⟨b,off,rfl,j,k⟩;exact⟨b,off,rfl,Ut j g.size,fun i hi=>(US (a:=(Ua b _)) (g.block b j (fun e=>hab _ rfl e.symm))).trans (k i hi)⟩
theorem Qj1 (g m c:Nat)(p:List ByteArray)(w:Ur)(hp:p.length=m)(hm:m<=1048576)(hg:g<w.heap.size)(h:∀t,t<m ->w.cell? (Ua g t)=Uq (Um (gS p t))):
  Cl 67 #[Uf (Uc g) m c] w fun e w'=>∃q cap,e=Ui (Uf (Uc q) m cap)/\ Bl w w'/\ w.heap.size<=q/\ w'.ownsRow w.heap.size 9 1 (Uf (Uc q) m cap) m (Qck p):=by
 obtain⟨O,hi,A,E,M⟩:=info_parts Qdn;have r:Bl w (w.alloc (Uj #[] 9)):=zO _ _;have y:(w.alloc (Uj #[] 9)).ownsRow w.heap.size 9 1 (Uf (Uc w.heap.size) 0 0) 0 []:=by
  have:=VF (base:=w.heap.size) (e:=9) (size:=1) w #[] 0 zL oL rfl;simpa using this
 obtain⟨q,cap,w',u,o,v,z⟩:=Qfo 74 9 O _ 1 16 underlying74 hi A E M rfl oD oM w.heap.size g 0 m c (fun t=> Um (gS p t)) (w.alloc (Uj #[] 9)) w.heap.size hm y oP (fun j hj=>by rw [Nat.zero_add];exact(r.cell (p:=(Ua g j)) hg).trans (h j oM)) (fun _ _=>rfl);have i:Hid (Bl w w'):=hid (r.grown v r.size (fun k e=>oI e));have s:Hid (w'.ownsRow w.heap.size 9 1 (Uf (Uc q) m cap) m (Qck p)):=hid (by unfold Qck;rw [hp];exact o);have b:Hid (w.heap.size<=q):=hid (by rcases z with e|e<;>rw [e];exact Uv _;simp);clear o v z h y r;go_enter func67,ntmps67;go_wp2_with (at_builtin;refine Qab rfl _ _ _ _ rfl u (by rfl) (by rfl) rfl ?_;clear u);go_ret;exact⟨q,cap,rfl,i,b,s⟩
theorem LBd.snoc{y:Lf}(h:LBd l)(hy:y.p.length<=8):LBd (l++[y]):=fun i=>by
 rcases Nat.lt_trichotomy i l.length with e|e|e
 ·rw [QeK l y e];exact h i
 ·subst e;rw [QeJ];omega
 ·have:gL (l++[y]) i=gL [] 0:=by
   have j:¬i<(l++[y]).length:=oS;simp [gL,UA,List.getElem?_eq_none (Nat.le_of_not_lt j)]
  rw [this];show ([]:List ByteArray).length<=1048576;simp
theorem Qnj {W Wz:Ur}{oa:Option Us}{oc q:Nat}(h:LB wr lo (Uf oa l.length oc) l)(hlo:lo<=wr.heap.size)(hk:l.length<=1048576)(b1:Bl wr w1)(hq:wr.heap.size<=q)(ho:w1.ownsRow wr.heap.size 9 1 (Uf (Uc q) m cap) m (Qck p))(hp:p.length=m)(ob:Obj)
  (bW:Below (w1.heap.size+1) (w1.alloc ob) W) (gz:W.grownBy Wz (Uq w1.heap.size)) (hsz:Wz.heap.size=W.heap.size) (fl:Bool) (r s:Int) (v:ByteArray):
  ∃z y g,(Builtin.append_ #[23,23] 23 #[Uf oa l.length oc,Uf (Uc W.heap.size) 1 1]).run prog (Wz.alloc (Uj #[Uf (Uc q) m cap,Un fl,Ud r,Ud s,Um v] 85))=.ok (Uf (Uc z) (l.length+1) y) g/\
   LB g lo (Uf (Uc z) (l.length+1) y) (l++[⟨p,fl,r,s,v⟩])/\ Gr wr g (Uf oa l.length oc) (Uf (Uc z) (l.length+1) y):=by
 subst hp;have Q:=(World.ownsRow.lt ho q rfl).2;have Y:=(Qdu ho rfl).2;have O:p.length<=cap/\ cap<=9223372036854775807:=by
  rcases ho.2 with ⟨E,_⟩|⟨G,y,Z,U,L,K,H,M,I,J⟩
  ·cases E
  ·injection U with j u b;unfold maxLen at M;omega
 have A:=b1.size;have X:=bW.size;have o:Bl w1 (w1.alloc ob):=zO _ _;have i:Bl wr Wz:=by
  have j:=b1.trans (o.mono A);have u:=j.trans (bW.mono (Uw A (Nat.le_succ _)));exact u.grown gz u.size (fun k e=>oI e)
 have N:(w1.alloc ob).heap.size=w1.heap.size+1:=oP;have V:Wr Wz q 9 p.length (fun t=> Um (gS p t)):=by
  have j:=Y.same (o.block q Q);have u:=j.same (bW.block q oM);exact u.same (gz.block q oM (fun e=>oI e))
 obtain⟨z,y,g,j,u,b⟩:=h.app i hlo hk ⟨p,fl,r,s,v⟩ q cap hq oM V O;rw [hsz] at j;exact⟨z,y,g,j,u,(Gr.of_below i).trans b⟩
structure SpB (w:Ur)(a:Option Us)(n:Nat)(f:Nat ->Int)(g:Nat)(p:List ByteArray)(vo:Value)(acc:List Lf)(lo:Nat):Prop where
 sg:Seg w a n f
 gl:g<w.heap.size
 gc:∀t,t<p.length ->w.cell? (Ua g t)=Uq (Um (gS p t))
 go:vo.ownBlock≠Uq g
 ab:∀y,a=Uq y ->vo.ownBlock≠Uq y.block
 lb:LB w lo vo acc
 bd:LBd acc
 lo':lo<=w.heap.size
def LdV (w:Ur)(lo:Nat)(vo:Value)(x':Nat)(L:List Lf)(e:Ending)(w':Ur):Prop:=∃oa oc,e=Ui (Ul #[Uf oa L.length oc,Ud (x':Int),Un true])/\ Gr w w' vo (Uf oa L.length oc)/\ LB w' lo (Uf oa L.length oc) L/\ LBd L
def LfG (kind:Int)(p:List ByteArray)(z:Lf):Prop:=z.p=p/\ z.fl=decide (kind=2)/\ (0<=z.r/\ z.r<=7)/\ (0<=z.q/\ z.q<=1000000000)/\ z.v.size<=200/\ (kind=2 ->z.v=⟨#[]⟩)
theorem OkB.all {K:Int ->Int ->Bool}(hK:KOk K){kind:Int}{p:List ByteArray}:∀{B:List Lf} {b:Dt} {acc:List Lf},OkB K kind p b acc B ->∀z∈B,LfG kind p z
 | [],_,_,_,z,j=>by simp at j
 | y::B,b,acc,h,z,j=>by
  rcases List.mem_cons.1 j with rfl|j
  ·have:=hK _ _ h.1.k;exact⟨h.1.p,h.1.fl,oM,oM,h.1.v,fun e=>h.1.e e⟩
  ·exact OkB.all hK h.2.2.2.2 z j
theorem Qhk (a:Option Us)(n c x x':Nat)(f:Nat ->Int)(g pc:Nat)(p:List ByteArray)(kind:Int)(oa0:Option Us)(oc0:Nat)(acc B:List Lf)(lo:Nat)(w:Ur)(hn:n<=4000)(hnc:n<=c)(hf:Byt f)(hk:kind=1 \/kind=2)(hp8:p.length<=8)(hA:SpB w a n f g p (Uf oa0 acc.length oc0) acc lo)(hl:(acc++B).length<=1000)(hB:∀z∈B,LfG kind p z)(hR:Rb f n x (mB B kind) x'):
  Cl 120 #[Uf a n c,Ud (x:Int),Uf (Uc g) p.length pc,Un (decide (kind=2)),Uf oa0 acc.length oc0] w fun e w'=>LdV w lo (Uf oa0 acc.length oc0) x' (acc++B) e w':=by
 obtain⟨P,hP⟩:=zE (LdV w lo (Uf oa0 acc.length oc0) x' (acc++B));rw [hP];have HP:=hid hP;obtain⟨y0,r1,r2⟩:=Rb.app hR;obtain⟨V,hV⟩:=zE B.length;rw [hV] at r1;rw [UB,hV] at hl;have HU:=hid (QcZ a n c x y0 V 1000 f w oM hf hA.sg oM oM r1);have HV:=hid hV;have HR:=hid r2;have A:=hid hA;have H3:=hid hB;have HF:=hid hf;obtain⟨m,hm⟩:=zE p.length;have HM:=hid hm;rw [hm] at hp8 ⊢;obtain⟨fl,Hq⟩:=zE (decide (kind=2));have Hu:=hid (And.intro Hq hk);rw [Hq];clear hP hV r1 r2 hA hB hf hR hm Hq hk;go_enter func120,ntmps120;go_wp2_with fail;refine HU.mono ?_;clear HU;rintro e w1 ⟨rfl,b1⟩;have Ht:=hid b1;have z1:=b1.size;clear b1;go_wp2_with fail;go_loopw [4,14,15,16] (fun ov av kv iv wr=>∃(k y:Nat) (H:Option Us) (I:Nat) (l:List Lf),k<=V/\ iv=Ud (k:Int)/\ av=Ud (y:Int)/\ kv=Un true/\ ov=Uf H l.length I/\ l.length<=1000/\ Hid (l.length=acc.length+k)/\ w.heap.size<=wr.heap.size/\ Hid (LB wr lo (Uf H l.length I) l)/\ Hid (Gr w wr (Uf oa0 acc.length oc0) (Uf H l.length I))/\ Hid (LBd l)/\ Hid (l=acc++B.take k/\ Rb f n y ((B.drop k).flatMap (lfB kind)) x')) (fun _ _ _ iv _=>V - (intOf iv).toNat);case atStart=>exact⟨0,y0,oa0,oc0,acc,Ux _,rfl,rfl,rfl,rfl,oM,hid rfl,z1,hid (A.lb.bw Ht),hid (Gr.of_below Ht),hid A.bd,hid ⟨oP,HR⟩⟩
 case round=>
  obtain⟨k,y2,H,I,l,H7,rfl,rfl,rfl,rfl,H8,H6,H0,Hp,J,Ho,hI⟩:=hrel;by_cases Hr:k<V
  ·obtain⟨z,hp,Hz⟩:=Qd0 (l:=B) (k:=k) (by rw [HV.out];exact Hr);obtain⟨T,L⟩:=hI.out;rw [hp,Vs] at L;obtain⟨x3,W,q4⟩:=Rb.app L;obtain⟨x1,W,q2⟩:=Rb.app W;obtain⟨x2,q2,q3⟩:=Rb.app q2;obtain⟨o1,o2,o3,o4,o5,o6⟩:=H3 z (by
    have:z∈B.drop k:=(by rw [hp];simp);exact List.mem_of_mem_drop this)
   obtain⟨u,R⟩:∃u:Nat,z.r=(u:Int):=⟨z.r.toNat,oM⟩;obtain⟨h,S⟩:∃h:Nat,z.q=(h:Int):=⟨z.q.toNat,oM⟩;obtain⟨s,Hh⟩:=zE z.v;rw [R,show ((u:Int)).toNat=u from by omega] at W;rw [S,show ((h:Int)).toNat=h from by omega] at q2;rw [Hh] at q3 o5 o6;rw [R] at o3;rw [S] at o4;have ez:z=⟨p,fl,(u:Int),(h:Int),s⟩:=by
    obtain⟨zp,zf,zr,zq,zv⟩:=z;simp only at o1 o2 R S Hh;rw [o1,o2,Hu.1,R,S,Hh]
   have HN:Hid (l++[⟨p,fl,(u:Int),(h:Int),s⟩]=acc++B.take (k+1)/\ Rb f n x3 ((B.drop (k+1)).flatMap (lfB kind)) x'):=hid ⟨by rw [Hz,<- Vg,<- T,ez],q4⟩;have N:Hid (∀W',Bl wr W' ->Seg W' a n f):=hid (fun W' b=>Seg.bw (Seg.keptR A.sg J.1 (fun y hy=>A.ab y hy)) b);have Hw:=hid (Qj1 g m pc p wr HM oM (Ut A.gl H0) (fun t ht=>(US (a:=(Ua g t)) (J.1.block g A.gl (fun e=>A.go e.symm))).trans (A.gc t (by rw [HM.out];exact ht))));have H5:=hid q2;have H4:=hid W;have Hl:Hid ((fl=true/\ s=⟨#[]⟩/\ x3=x2) \/(fl=false/\ Rb f n x2 (Qae s) x3)):=hid (by
    rcases Hu.out with ⟨M,U|U⟩
    ·subst U;exact .inr ⟨by rw [<- M];rfl,q3⟩
    ·subst U;exact .inl ⟨by rw [<- M];rfl,o6 rfl,Rb.nil q3⟩)
   clear hI T L W q2 q3 q4 hp Hz o1 o2 o6 R S Hh ez;go_wp2_with fail;refine Hw.mono ?_;clear Hw;rintro e o ⟨q,cap,rfl,b2,hq,ho⟩;have Hv:=hid ho;have Hi:=hid b2;have HQ:=hid hq;clear ho b2 hq;have b3:Bl o (o.alloc (Uj #[Uf (Uc q) m cap,Un fl,Ud 0,Ud 0,Um ⟨#[]⟩] 85)):=zO _ _;have C:Hid (Bx5 (o.alloc (Uj #[Uf (Uc q) m cap,Un fl,Ud 0,Ud 0,Um ⟨#[]⟩] 85)) o.heap.size (Uf (Uc q) m cap) (Un fl) (Ud 0) (Ud 0) (Um ⟨#[]⟩)):=hid (Bx5.new _ _ _ _ _ _ _);have Q:=hid (Qaa Hi b3);have Hm:=hid (QcZ a n c y2 x1 u 8 f _ oM HF (N _ Q) oM oM H4);clear b3;go_wp2_with fail;obtain⟨W3,Hg⟩:=zE (o.alloc (Uj #[Uf (Uc q) m cap,Un fl,Ud 0,Ud 0,Um ⟨#[]⟩] 85));have Hn:Hid (W3.heap.size=o.heap.size+1):=hid (Hg▸oP);have H1:=hid Hg;rw [Hg] at C Q Hm ⊢;clear Hg;refine Hm.mono ?_;clear Hm;rintro e w4 ⟨rfl,b4⟩;have Hx:=hid (QcZ a n c x1 x2 h 1000000000 f w4 oM HF (N w4 (Q.trans (b4.mono Q.size))) oM oM H5);have H2:=hid b4;clear b4;go_wp2_with fail;refine Hx.mono ?_;clear Hx;rintro e w5 ⟨rfl,b5⟩;have He:=hid (Qaa H2 b5);clear b5;have Ha:Hid (∀(i Wz:Ur),Bl W3 i ->i.grownBy Wz (Uq o.heap.size) ->Wz.heap.size=i.heap.size ->∃O E Y,(Builtin.append_ #[23,23] 23 #[Uf H l.length I,Uf (Uc i.heap.size) 1 1]).run prog (Wz.alloc (Uj #[Uf (Uc q) m cap,Un fl,Ud (u:Int),Ud (h:Int),Um s] 85))=.ok (Uf (Uc O) (l.length+1) E) Y/\
     w.heap.size<=Y.heap.size/\ Hid (LB Y lo (Uf (Uc O) (l++[(⟨p,fl,(u:Int),(h:Int),s⟩:Lf)]).length E) (l++[⟨p,fl,(u:Int),(h:Int),s⟩]))/\ Hid (Gr w Y (Uf oa0 acc.length oc0) (Uf (Uc O) (l++[(⟨p,fl,(u:Int),(h:Int),s⟩:Lf)]).length E))):=hid (fun i Wz D Z hsz=>by
    obtain⟨O,E,Y,G,Hd,Hb⟩:=Qnj Hp (Uw A.lo' H0) oM Hi HQ Hv HM _ (by rw [H1.out];have:=Hn.out;rw [<- this];exact D) Z hsz fl (u:Int) (h:Int) s;rw [show l.length+1=(l++[(⟨p,fl,(u:Int),(h:Int),s⟩:Lf)]).length by simp] at Hd Hb;exact⟨O,E,Y,G,(J.trans Hb).1.size,hid Hd,hid (J.trans Hb)⟩)
   have Hc:=hid (Ho.snoc (y:=⟨p,fl,(u:Int),(h:Int),s⟩) (by show p.length<=8;rw [HM.out];exact hp8));have Hf:Hid ((l++[(⟨p,fl,(u:Int),(h:Int),s⟩:Lf)]).length<=1000/\ (l++[(⟨p,fl,(u:Int),(h:Int),s⟩:Lf)]).length=acc.length+(k+1)):=hid (by have:=H6.out;simp;omega);clear Hp J Ho Hv Hi;rcases Hl.out with ⟨M,U,F⟩|⟨M,F⟩
   ·subst M U;have HX:=hid F;clear Hl F;have X:=C.bw He (oH Hn);have Z:w5.grownBy ((w5.setCell (Ua o.heap.size 2) (Ud (u:Int))).setCell (Ua o.heap.size 3) (Ud (h:Int))) (Uq o.heap.size):=⟨rfl,rfl,rfl,by simp [UL],fun j hj hne=>by
     have K:j≠o.heap.size:=fun e=>hne (by rw [e]);exact(zH _ _ _ _ K).trans (zH _ _ _ _ K)⟩
    obtain⟨O,E,Y,G,Hs,Hk,Hj⟩:=Ha w5 _ He Z (by simp [UL]);obtain⟨c0,c1,c2,c3,c4,cf⟩:=X.p5;clear X Z N C Q Ha;go_wp2_with (at_builtin;refine Qab rfl _ _ _ _ rfl G (by rfl) (by rfl) rfl ?_;clear G);go_roundw;case rel=>exact⟨k+1,x2,Uq (Ub O),E,l++[⟨p,true,(u:Int),(h:Int),⟨#[]⟩⟩],Hr,oN,rfl,rfl,oP,Hf.1,hid Hf.2,Hs,Hk,Hj,Hc,hid ⟨HN.1,by rw [<- HX.out];exact HN.2⟩⟩
    case measure=>exact oE
   ·subst M;have Hy:=hid (QhI a n c x2 x3 200 s f w5 oM hnc HF (N w5 (Q.trans (He.mono Q.size))) o5 oM F);clear Hl F;go_wp2_with fail;refine Hy.mono ?_;clear Hy;rintro e i ⟨rfl,b6⟩;have D:Bl W3 i:=Qaa He b6;have X:=C.bw D (oH Hn);have Z:i.grownBy (((i.setCell (Ua o.heap.size 4) (Um s)).setCell (Ua o.heap.size 2) (Ud (u:Int))).setCell (Ua o.heap.size 3) (Ud (h:Int))) (Uq o.heap.size):=⟨rfl,rfl,rfl,by simp [UL],fun j hj hne=>by
     have K:j≠o.heap.size:=fun e=>hne (by rw [e]);exact(zH _ _ _ _ K).trans ((zH _ _ _ _ K).trans (zH _ _ _ _ K))⟩
    obtain⟨O,E,Y,G,Hs,Hk,Hj⟩:=Ha i _ D Z (by simp [UL]);obtain⟨c0,c1,c2,c3,c4,cf⟩:=X.p5;clear X Z N C Q Ha D b6;go_wp2_with (at_builtin;refine Qab rfl _ _ _ _ rfl G (by rfl) (by rfl) rfl ?_;clear G);go_roundw;case rel=>exact⟨k+1,x3,Uq (Ub O),E,l++[⟨p,false,(u:Int),(h:Int),s⟩],Hr,oN,rfl,rfl,oP,Hf.1,hid Hf.2,Hs,Hk,Hj,Hc,HN⟩
    case measure=>exact oE
  ·obtain rfl:k=V:=oM;obtain⟨M,U⟩:l=acc++B/\ x'=y2:=by
    obtain⟨T,L⟩:=hI.out;rw [<- HV.out,Vn] at T;rw [<- HV.out,Yn] at L;exact⟨T,Rb.nil L⟩
   have HE:=hid (And.intro M U);clear M U hI;go_wp2_with fail;refine zF (v:=Ul #[Uf H l.length I,Ud (y2:Int),Un true]) (by simp [results,results120,go_sem]) ?_;rw [<- HP.out,<- HE.1,HE.2];exact⟨H,I,rfl,J,Hp,Ho⟩
theorem QgA (K:Int ->Int ->Bool)(hK:KOk K)(a:Option Us)(n c:Nat)(f:Nat ->Int)(lo d:Nat)(p:List ByteArray)(hpd:p.length+d=8)(hn:n<=4000)(hnc:n<=c)(hf:Byt f)
  (hrec:p.length<8 ->∀(s:ByteArray) (x x' g pc:Nat) (z:Option Us) (o:Nat) (acc B:List Lf) (U:List Int) (W:Ur),SpB W a n f g (p++[s]) (Uf z acc.length o) acc lo ->(acc++B).length<=1000 ->RT K d (p++[s]) acc B U ->Rb f n x U x' ->Cl 95 #[Uf a n c,Ud (x:Int),Uf (Uc g) (p.length+1) pc,Uf z acc.length o] W fun e w'=>LdV W lo (Uf z acc.length o) x' (acc++B) e w')
  (x x' g pc:Nat) (oa0:Option Us) (oc0:Nat) (acc B:List Lf) (U:List Int) (w:Ur) (hA:SpB w a n f g p (Uf oa0 acc.length oc0) acc lo) (hl:(acc++B).length<=1000) (hT:RT K (d+1) p acc B U) (hR:Rb f n x U x'):
  Cl 95 #[Uf a n c,Ud (x:Int),Uf (Uc g) p.length pc,Uf oa0 acc.length oc0] w fun e w'=>LdV w lo (Uf oa0 acc.length oc0) x' (acc++B) e w':=by
 obtain⟨P,hP⟩:=zE (LdV w lo (Uf oa0 acc.length oc0) x' (acc++B));rw [hP];have HP:=hid hP;clear hP;obtain⟨G,H0,rfl,Gc,H1,H2,H3⟩:=hT;have H8:p.length<8:=by
  by_cases h:G=[]
  ·have:=H1 h;omega
  ·exact H2 h
 obtain⟨y0,r1,r2⟩:=Rb.app hR;obtain⟨V,hV⟩:=zE G.length;rw [hV] at r1 Gc;have HU:=hid (QcZ a n c x y0 V 4000 f w oM hf hA.sg oM oM r1);have HV:=hid hV;have HI:=hid (And.intro H3 r2);have Hk:=hid (hrec H8);have HF:=hid hf;have i:=hid hA;have Hi:=hid (And.intro H0 hl);obtain⟨m,hm⟩:=zE p.length;have A:=hid hm;rw [hm] at hpd H8 ⊢;clear hrec hf hA hm H0 hV r1 r2 hR H3 H1 H2 hl;have Gf:¬(8:Int)<=(m:Int):=oM;go_enter func95,ntmps95;go_wp2_with fail;refine HU.mono ?_;clear HU;rintro e w1 ⟨rfl,b1⟩;have Hu:=hid b1;have z1:=b1.size;clear b1;go_wp2_with fail;go_loopw [3,12,13,14] (fun ov av kv iv wr=>∃(k y:Nat) (z:Option Us) (o:Nat) (l:List Lf),k<=V/\ iv=Ud (k:Int)/\ av=Ud (y:Int)/\ kv=Un true/\ ov=Uf z l.length o/\ w.heap.size<=wr.heap.size/\ Hid (LB wr lo (Uf z l.length o) l)/\ Hid (Gr w wr (Uf oa0 acc.length oc0) (Uf z l.length o))/\ Hid (LBd l)/\ Hid (l=acc++(G.take k).flatMap (fun g=>g.2.1)/\ Rb f n y ((G.drop k).flatMap gB) x'/\∃bf,RK K (RT K d) p bf l (G.drop k))) (fun _ _ _ iv _=>V - (intOf iv).toNat);case atStart=>exact⟨0,y0,oa0,oc0,acc,Ux _,rfl,rfl,rfl,rfl,z1,hid (i.lb.bw Hu),hid (Gr.of_below Hu),hid i.bd,hid ⟨oP,HI.2,_,HI.1⟩⟩
 case round=>
  obtain⟨k,y2,z,o,l,Gl,rfl,rfl,rfl,rfl,Ga,F,O,Hg,hI⟩:=hrel;by_cases Hp:k<V
  ·obtain⟨⟨⟨s,kv⟩,J,U⟩,hp,H9⟩:=Qd0 (l:=G) (k:=k) (by rw [HV.out];exact Hp);obtain⟨Z,Q,bf,i3⟩:=hI.out;rw [hp] at Q i3;obtain⟨⟨n0,Gb,Hn⟩,Hl,Hq⟩:=i3;rw [Vs] at Q;obtain⟨H,q1,q4⟩:=Rb.app Q;obtain⟨E,q1,Y⟩:=Rb.app (show Rb f n y2 (Qae s++([kv]++U)) H from q1);obtain⟨H6,Gh,q3⟩:=Rb.cons (show Rb f n E (kv::U) H from Y);dsimp only at Gb Hl Hq;have H7:(l++J).length<=1000:=by
    have r:(l++J) <+:acc++B:=by
     rw [Hi.1,Z,Vg];refine List.prefix_append_right_inj _|>.2 ?_;have:G=G.take k++(((s,kv),J,U)::G.drop (k+1)):=(by rw [<- hp,List.take_append_drop]);rw [this,VU,List.take_append_of_le_length (by simp [HV.out];omega),List.take_take,Nat.min_self,Vs];exact⟨_,by rw [Vg]⟩
    exact Uw r.length_le Hi.2
   have HN:Hid (l++J=acc++(G.take (k+1)).flatMap (fun g=>g.2.1)/\ Rb f n H ((G.drop (k+1)).flatMap gB) x'/\∃bf,RK K (RT K d) p bf (l++J) (G.drop (k+1))):=hid ⟨by rw [H9,VU,Z];simp,q4,_,Hq⟩;have X:Hid (∀W',Bl wr W' ->Seg W' a n f):=hid (fun W' b=>Seg.bw (Seg.keptR i.sg O.1 (fun y hy=>i.ab y hy)) b);have Hz:=hid (QhI a n c y2 E 40 s f wr oM hnc HF (X wr zI) Gb oM q1);have Hw:=hid Hl;have Hy:=hid q3;clear hI Z Q q1 Y q3 q4 hp H9 Hn n0 Hq Hl;go_wp2_with fail;refine Hz.mono ?_;clear Hz;rintro e w2 ⟨rfl,b2⟩;have I:=hid b2;clear b2;have H5:=HF E;rw [H6] at H5;obtain⟨Gi,Gj⟩:=H5;obtain⟨ab,ao,ha,Gd,H4⟩:=(X w2 I).resolve_left oM;subst ha;have cx:=H4 E Gh;rw [H6] at cx;have Z:(0:Int)<=(E:Int):=UI _;have Q:(E:Int)<(n:Int):=oM;have i3:¬(n:Int)<=(E:Int):=oM;have Hx:=hid (Qj1 g m pc p w2 A oM (Ut (Ut i.gl Ga) I.size) (fun t ht=>(I.cell (p:=(Ua g t)) (Ut i.gl Ga)).trans ((US (a:=(Ua g t)) (O.1.block g i.gl (fun e=>i.go e.symm))).trans (i.gc t (oH A)))));clear H4 Gd;go_wp2_with fail;clear cx;refine Hx.mono ?_;clear Hx;rintro e w3 ⟨q,cap,rfl,b3,hq,ho⟩;have Hv:=hid (Qaa I b3);have Gm:=I.size;have Gn:=b3.size;have Ha:(w3.alloc (Uj #[Um s] 9)).cell? (Ub w3.heap.size)=Uq (Um s):=oP;obtain⟨Y,Hd,T,S,Hh,gq,Ge⟩:=QjK (p:=p) (by rw [A.out];exact World.ownsRow.alloc ho _) oS (oH A) s w3.heap.size Ha;rw [A.out] at S Hh;have L:Hid (Bl wr T):=hid (by
    have r:=Hv.alloc Hv.size (Uj #[Um s] 9);exact r.grown gq r.size (fun j e=>by
     have:q=j:=(by simpa [Value.ownBlock] using e);omega))
   obtain⟨He,_⟩:=Qdu Hh (by simp;exact A);have Hf:Hid (SpB T (Uq (Ua ab ao)) n f Y (p++[s]) (Uf z l.length o) l lo):=hid (by
    have Gg:=World.ownsRow.lt Hh Y rfl;refine⟨X T L,Gg.2,fun t ht=> ?_,fun e=> ?_,fun y hy e=> ?_,F.bw L,Hg,?_⟩
    ·rcases He with ⟨h,_⟩|⟨g',c',h1,h2,h3⟩
     ·cases h
     ·injection h1 with r e2 e3;injection r with r;injection r with r;subst r;exact h3 t ht
    ·have:=(F.lt Y e).2;omega
    ·rcases O.2 with h|⟨u,h1,h2⟩
     ·exact i.ab y hy (h.symm.trans e)
     ·rw [h1] at e;injection e with e;have:=i.sg;rcases this with h0|⟨b',o',e',Gk,_⟩
      ·omega
      ·rw [hy] at e';injection e' with e';subst e';simp at e;omega
    ·have:=i.lo';have:=L.size;omega)
   clear ho Hh b3 He gq Ha Ge;by_cases Ho:kv=3
   ·subst Ho;have M:=hid (Hk s (E+1) H Y Hd z o l J U T Hf H7 (by have:=Hw.out;unfold RD at this;rw [if_pos rfl] at this;exact this) Hy);rw [A.out] at M;go_wp2_with (at_builtin;refine Qab rfl _ _ _ _ rfl S (by rfl) (by rfl) rfl ?_;clear S);refine M.mono ?_;clear M;rintro e w5 ⟨Hs,Ht,rfl,D,R,C⟩;have N:=hid (O.trans ((Gr.of_below L).trans D));have Hj:=hid R;have Hb:=hid C;have Hr:w.heap.size<=w5.heap.size:=N.1.size;clear D R C F O Hg X Hf;go_wp2_with fail;go_roundw;case rel=>exact⟨k+1,H,Hs,Ht,l++J,Hp,oN,rfl,rfl,oP,Hr,Hj,N,Hb,HN⟩
    case measure=>exact oE
   ·have hd:=Hw.out;unfold RD at hd;rw [if_neg Ho] at hd;obtain⟨Hc,_,_,Hm,hU⟩:=hd;dsimp only at Hc Hm hU;have M:=hid (Qhk (Uq (Ua ab ao)) n c (E+1) H f Y Hd (p++[s]) kv z o l J lo T hn hnc HF Hc (by have:=A.out;simp;omega) Hf H7 (OkB.all hK Hm) (hU▸Hy.out));rw [show (p++[s]).length=m+1 by rw [UB,A.out];rfl] at M;clear Ho Hm hU;rcases Hc with rfl|rfl;all_goals
     simp only [show decide ((1:Int)=2)=false from rfl,show decide ((2:Int)=2)=true from rfl] at M
     go_wp2_with (at_builtin;refine Qab rfl _ _ _ _ rfl S (by rfl) (by rfl) rfl ?_;clear S)
     refine M.mono ?_
     clear M
     rintro e w5 ⟨Hs,Ht,rfl,D,R,C⟩
     have N:=hid (O.trans ((Gr.of_below L).trans D))
     have Hj:=hid R
     have Hb:=hid C
     have Hr:w.heap.size<=w5.heap.size:=N.1.size
     clear D R C F O Hg X Hf
     go_wp2_with fail
     go_roundw
     case rel=>exact⟨k+1,H,Hs,Ht,l++J,Hp,oN,rfl,rfl,oP,Hr,Hj,N,Hb,HN⟩
     case measure=>exact oE
  ·obtain rfl:k=V:=oM;obtain⟨r,e2⟩:l=acc++B/\ x'=y2:=by
    obtain⟨Z,Q,_⟩:=hI.out;rw [<- HV.out,Vn] at Z;rw [<- HV.out,Yn] at Q;exact⟨by rw [Z,Hi.1],Rb.nil Q⟩
   have HE:=hid (And.intro r e2);clear r e2 hI;go_wp2_with fail;refine zF (v:=Ul #[Uf z l.length o,Ud (y2:Int),Un true]) (by simp [results,results95,go_sem]) ?_;rw [<- HP.out,<- HE.1,HE.2];exact⟨z,o,rfl,O,F,Hg⟩
theorem Qg1 (K:Int ->Int ->Bool)(hK:KOk K)(a:Option Us)(n c:Nat)(f:Nat ->Int)(lo:Nat)(hn:n<=4000)(hnc:n<=c)(hf:Byt f):
  ∀(d:Nat) (p:List ByteArray),p.length+d=8 ->∀(x x' g pc:Nat) (oa:Option Us) (oc:Nat) (acc B:List Lf) (U:List Int) (w:Ur),SpB w a n f g p (Uf oa acc.length oc) acc lo ->(acc++B).length<=1000 ->RT K (d+1) p acc B U ->Rb f n x U x' ->
  Cl 95 #[Uf a n c,Ud (x:Int),Uf (Uc g) p.length pc,Uf oa acc.length oc] w fun e w'=>LdV w lo (Uf oa acc.length oc) x' (acc++B) e w'
 | 0,p,hp,x,x',g,pc,oa,oc,acc,B,U,w,hA,hl,hT,hR=>QgA K hK a n c f lo 0 p hp hn hnc hf (fun h=>absurd h oM) x x' g pc oa oc acc B U w hA hl hT hR
 | d+1,p,hp,x,x',g,pc,oa,oc,acc,B,U,w,hA,hl,hT,hR=>QgA K hK a n c f lo (d+1) p hp hn hnc hf (fun h s x1 x1' g' pc' oa' oc' acc' B' U' W hA' hl' hT' hR'=>by
   have:=Qg1 K hK a n c f lo hn hnc hf d (p++[s]) oS x1 x1' g' pc' oa' oc' acc' B' U' W hA' hl' hT' hR';rw [show (p++[s]).length=p.length+1 by simp] at this;exact this) x x' g pc oa oc acc B U w hA hl hT hR
def LAt (w:Ur)(b off:Nat)(l:List Lf)(i m:Nat):Prop:=b<w.heap.size/\∀t,t<m ->∃qa qc,w.cell? (Ua b (off+t*5))=Uq (Uf qa (gL l (i+t)).p.length qc)/\ QaP w qa (gL l (i+t)).p/\ w.cell? (Ua b (off+t*5+1))=Uq (Un (gL l (i+t)).fl)/\ w.cell? (Ua b (off+t*5+2))=Uq (Ud (gL l (i+t)).r)/\ w.cell? (Ua b (off+t*5+3))=Uq (Ud (gL l (i+t)).q)/\ w.cell? (Ua b (off+t*5+4))=Uq (Um (gL l (i+t)).v)
theorem LAt.bw(h:LAt w b off l i m)(hb:Bl w w'):LAt w' b off l i m:=
 ⟨Ut h.1 hb.size,fun t ht=>by
  obtain⟨y,z,j,k,q,r,u,v⟩:=h.2 t ht;exact⟨y,z,(hb.cell (p:=(Ua b _)) h.1).trans j,k.bw hb,(hb.cell (p:=(Ua b _)) h.1).trans q,(hb.cell (p:=(Ua b _)) h.1).trans r,(hb.cell (p:=(Ua b _)) h.1).trans u,(hb.cell (p:=(Ua b _)) h.1).trans v⟩⟩
theorem LAt.take(h:LAt w b off l i m)(hk:k<=m):LAt w b off l i k:=⟨h.1,fun t ht=>h.2 t oM⟩
theorem LAt.drop(h:LAt w b off l i m)(hk:k<=m):LAt w b (off+k*5) l (i+k) (m - k):=⟨h.1,fun t ht=>by
 have:=h.2 (k+t) oM;rw [show off+(k+t)*5=off+k*5+t*5 by omega,show i+(k+t)=i+k+t by omega] at this;exact this⟩
def kAt (d n:Nat)(fl:Bool):Int:=if d+1<n then 3 else kd fl
theorem Qhe (pa:Option Us)(n pc:Nat)(fl:Bool)(r q:Int)(v:ByteArray)(d:Nat)(w:Ur)(hn:n<=1048576)(hd:d<=1000):
  Cl 89 #[Uo #[Uf pa n pc,Un fl,Ud r,Ud q,Um v],Ud (d:Int)] w (Rt w (Ud (kAt d n fl))):=by
 have k:=hid (zO w (Uj #[Uf pa n pc,Un fl,Ud r,Ud q,Um v] 85));by_cases h:d+1<n
 ·have m:(d:Int)+1<(n:Int):=oM;have j:Hid (kAt d n fl=3):=hid (if_pos h);go_enter func89,ntmps89;go_wp2_with fail;go_ret;exact⟨by rw [j.out];rfl,k⟩
 ·have m:¬(d:Int)+1<(n:Int):=oM;cases fl with
  | true=>
   have j:Hid (kAt d n true=2):=hid (if_neg h);go_enter func89,ntmps89;go_wp2_with fail;go_ret;exact⟨by rw [j.out];rfl,k⟩
  | false=>
   have j:Hid (kAt d n false=1):=hid (if_neg h);go_enter func89,ntmps89;go_wp2_with fail;go_ret;exact⟨by rw [j.out];rfl,k⟩
theorem QkN (l:List Lf)(b off i m c d:Nat)(w:Ur)(hm:1<=m)(hm2:m<=1048576)(hd:d<=1000)(hp:∀t,t<m ->d<(gL l (i+t)).p.length/\ (gL l (i+t)).p.length<=1048576)(h:LAt w b off l i m):
  Cl 88 #[Uf (Uq (Ua b off)) m c,Ud (d:Int)] w fun e w'=>(∃g:Nat,e=Ui (Ud (g:Int))/\ 1<=g/\ g<=m/\ (∀t,t<g ->Qav (gL l (i+t)).p (kd (gL l (i+t)).fl) d=Qav (gL l i).p (kd (gL l i).fl) d)/\ (g<m ->Qav (gL l (i+g)).p (kd (gL l (i+g)).fl) d≠Qav (gL l i).p (kd (gL l i).fl) d))/\ Bl w w':=by
 have HL:=hid h;have HP:=hid hp;clear h hp;go_enter func88,ntmps88;go_wp2_with fail;go_loopw [5] (fun i' wr=>∃k:Nat,k<=m/\ i'=Ud k/\ Hid (∀t,t<k ->Qav (gL l (i+t)).p (kd (gL l (i+t)).fl) d=Qav (gL l i).p (kd (gL l i).fl) d)/\ Hid (Bl w wr)) (fun i' _=>m - (intOf i').toNat);case atStart=>exact⟨0,Ux _,rfl,hid (fun t ht=>oM),hid zI⟩
 case round=>
  obtain⟨k,hk,rfl,T,u⟩:=hrel;by_cases Hd:k<m
  ·have Z:=HL.bw u;obtain⟨qa,kc,Q,hs,G,H,I,J⟩:=Z.2 k Hd;obtain⟨qz,zc,r,gs,o,A,E,M⟩:=Z.2 0 oM;have B:=HP k Hd;have Y:=HP 0 oM;simp only [VO,Nat.zero_mul] at r gs o A E M Y;rcases hs with hs|⟨C,ko,rfl,Hs,Hl⟩
   ·omega
   rcases gs with gs|⟨F,zo,rfl,Ht,Ho⟩
   ·omega
   have U:=Hl d B.1;have O:=Ho d Y.1;have Ha:Hid (k=0 ->gL l (i+k)=gL l i):=hid (fun e=>by rw [e,VO]);have q:Hid (Qav (gL l (i+k)).p (kd (gL l (i+k)).fl) d=Qav (gL l i).p (kd (gL l i).fl) d↔gS (gL l (i+k)).p d=gS (gL l i).p d/\ kAt d (gL l (i+k)).p.length (gL l (i+k)).fl=kAt d (gL l i).p.length (gL l i).fl):=hid (by unfold Qav kAt;exact Prod.mk.injEq _ _ _ _▸Iff.rfl);have Hb:Hid (Qav (gL l (i+k)).p (kd (gL l (i+k)).fl) d≠Qav (gL l i).p (kd (gL l i).fl) d ->1<=k):=hid (fun hne=>by
    rcases VL k with e|e
    ·exact absurd (by rw [Ha e]) hne
    ·exact e)
   have Hi:Hid (∀v,Qav (gL l (i+k)).p (kd (gL l (i+k)).fl) d≠Qav (gL l i).p (kd (gL l i).fl) d ->v=k ->(1<=v/\ v<=m/\ (∀t,t<v ->Qav (gL l (i+t)).p (kd (gL l (i+t)).fl) d=Qav (gL l i).p (kd (gL l i).fl) d)/\ (v<m ->Qav (gL l (i+v)).p (kd (gL l (i+v)).fl) d≠Qav (gL l i).p (kd (gL l i).fl) d))):=hid (fun v h e=>by subst e;exact⟨Hb h,hk,T,fun _=>h⟩);have Hp:Hid (Qav (gL l (i+k)).p (kd (gL l (i+k)).fl) d=Qav (gL l i).p (kd (gL l i).fl) d ->∀t,t<k+1 ->Qav (gL l (i+t)).p (kd (gL l (i+t)).fl) d=Qav (gL l i).p (kd (gL l i).fl) d):=hid (fun h t ht=>by
    by_cases e:t=k
    ·subst e;exact h
    ·exact T t oM)
   obtain⟨X,hX⟩:=zE ((Qav (gL l (i+k)).p (kd (gL l (i+k)).fl) d=Qav (gL l i).p (kd (gL l i).fl) d));have W:=hid hX;rw [hX] at q;clear Hl Ho;obtain⟨yk,Hm⟩:=zE (gL l (i+k));obtain⟨yz,Hn⟩:=zE (gL l i);rw [Hm] at Q G H I J U B q;rw [Hn] at r o A E M O Y q;clear Hm Hn;obtain⟨kp,kf,kr,kq,kv⟩:=yk;obtain⟨zp,zf,zr,zq,zv⟩:=yz;dsimp only at Q G H I J U B r o A E M O Y q;clear hX;obtain⟨s,He⟩:=zE (gS kp d);obtain⟨z,Hf⟩:=zE (gS zp d);obtain⟨D,Hc⟩:=zE kp.length;obtain⟨P,Hg⟩:=zE zp.length;rw [He,Hf,Hc,Hg] at q;rw [He] at U;rw [Hf] at O;rw [Hc] at Q B;rw [Hg] at r Y;have i1:(0:Int)<=(k:Int):=UI _;have i2:(k:Int)<(m:Int):=oM;have i3:(0:Int)<=(d:Int):=UI _;have i4:(d:Int)<(D:Int):=oM;have i5:(d:Int)<(P:Int):=oM;have i6:(0:Int)<(m:Int):=oM;have i7:0<m:=oM;have j:b<wr.heap.size:=Z.1;clear He Hf Hc Hg Z;have dk:decide ((k:Int)<(m:Int))=true:=oS;have Hr:decide (k<m)=true:=oS;go_wp2_with fail;cases hsz:(s.toList==z.toList) with
   | false=>
    have y:Hid (¬X):=hid (fun h=>by rw [(q.1 h).1] at hsz;simp at hsz);go_quiet (fail);have R:=hid (Qay u nq);go_wp2_with fail;go_ret;exact⟨⟨k,rfl,Hi k (fun h=>y.out (by rw [<- W.out];exact h)) rfl⟩,R⟩
   | true=>
    have Hq:Hid (s=z):=hid (toList_inj (oU hsz));have S:Hid (∀w',Bl wr w' ->(Bl wr w'/\ w'.cell? (Ua b (off+k*5))=Uq (Uf (Uq (Ua C ko)) D kc)/\ w'.cell? (Ua b (off+k*5+1))=Uq (Un kf)/\ w'.cell? (Ua b (off+k*5+2))=Uq (Ud kr)/\ w'.cell? (Ua b (off+k*5+3))=Uq (Ud kq)/\ w'.cell? (Ua b (off+k*5+4))=Uq (Um kv)/\ w'.cell? (Ua C (ko+d))=Uq (Um s)/\ w'.cell? (Ua b off)=Uq (Uf (Uq (Ua F zo)) P zc)/\ w'.cell? (Ua b (off+1))=Uq (Un zf)/\ w'.cell? (Ua b (off+2))=Uq (Ud zr)/\ w'.cell? (Ua b (off+3))=Uq (Ud zq)/\ w'.cell? (Ua b (off+4))=Uq (Um zv)/\ w'.cell? (Ua F (zo+d))=Uq (Um z))):=hid (fun w' hB=>⟨hB,(hB.cell (p:=(Ua b _)) j).trans Q,(hB.cell (p:=(Ua b _)) j).trans G,(hB.cell (p:=(Ua b _)) j).trans H,(hB.cell (p:=(Ua b _)) j).trans I,(hB.cell (p:=(Ua b _)) j).trans J,(hB.cell (p:=(Ua C _)) Hs).trans U,(hB.cell (p:=(Ua b _)) j).trans r,(hB.cell (p:=(Ua b _)) j).trans o,(hB.cell (p:=(Ua b _)) j).trans A,(hB.cell (p:=(Ua b _)) j).trans E,(hB.cell (p:=(Ua b _)) j).trans M,(hB.cell (p:=(Ua F _)) Ht).trans O⟩);clear Q G H I J U r o A E M O;refine zS S (fun qh=> ?_);refine tZ 0 6 ?_;refine tZ 1 7 ?_;refine tZ 2 8 ?_;refine tZ 3 9 ?_;refine tZ 4 10 ?_;refine tZ 5 11 ?_;refine tZ 6 12 ?_;refine tZ 7 13 ?_;refine tZ 8 14 ?_;refine tZ 9 15 ?_;refine tZ 10 16 ?_;refine tZ 11 17 ?_;refine tZ 12 18 ?_;refine tZ 13 19 ?_;refine tZ 14 20 ?_;refine tZ 15 21 ?_;refine tZ 16 22 ?_;refine tZ 17 23 ?_;refine tZ 18 24 ?_;refine tZ 19 25 ?_;refine tZ 20 26 ?_;refine tZ 21 27 ?_;refine tZ 22 28 ?_;refine tZ 23 29 ?_;refine tZ 24 30 ?_;refine tZ 25 31 ?_;refine tZ 26 32 ?_;refine tZ 27 33 ?_;refine tZ 29 35 ?_;refine tZ 30 36 ?_;refine tZ 31 37 ?_;refine tZ 32 38 ?_;refine cZ 28 ?_;intro K V;go_simp;refine(Qhe (Uq (Ua C ko)) D kc kf kr kq kv d _ oM hd).mono ?_;rintro e w1 ⟨rfl,b1⟩;have L:=Qaa qh.1 b1;refine V.out _ _ (S _ L) (fun qh=> ?_);clear V K;try simp only [zP]
    refine cZ 33 ?_;intro K V;go_simp;refine(Qhe (Uq (Ua F zo)) P zc zf zr zq zv d _ oM hd).mono ?_;rintro e w2 ⟨rfl,b2⟩;have N:=Qaa L b2;refine V.out _ _ (S _ N) (fun qh=> ?_);clear V K;try simp only [zP]
    have Hh:=hid (u.trans (N.mono u.size));obtain⟨K1,Hj⟩:=zE (kAt d D kf);obtain⟨K2,Hk⟩:=zE (kAt d P zf);rw [Hj,Hk] at q ⊢;clear Hj Hk b1 b2;cases hkk:(K1==K2) with
    | false=>
     refine tZ 34 40 ?_;refine tZ 35 41 ?_;refine zD ?_;have y:Hid (¬X):=hid (fun h=>by rw [(q.1 h).2] at hkk;simp at hkk);clear qh L N;go_wp2_with fail;go_ret;exact⟨⟨k,rfl,Hi k (fun h=>y.out (by rw [<- W.out];exact h)) rfl⟩,Hh⟩
    | true=>
     refine tZ 34 40 ?_;refine tZ 35 41 ?_;refine zD ?_;have y:Hid X:=hid (q.2 ⟨Hq,oU hkk⟩);clear qh L N;go_wp2_with fail;go_roundw;case rel=>exact⟨k+1,Hd,oN,hid (Hp (by rw [W.out];exact y)),Hh⟩
     case measure=>exact oE
  ·obtain rfl:k=m:=oM;have dk:decide ((k:Int)<(k:Int))=false:=oP;have Hr:decide (k<k)=false:=oP;go_wp2_with fail;go_quiet (fail);have R:=hid (Qay u nq);go_wp2_with fail;go_ret;exact⟨⟨k,rfl,hm,Uv _,T,fun h=>oM⟩,R⟩
theorem Qqz (B B':Nat)(v x:Value)(zs ns:List Int)(w:Ur)(ho:Own w B v zs)(hx:Own w B' x ns)(hxn:x.ownBlock≠Up)(hB:B<=w.heap.size)(hl:zs.length+ns.length<=1000000000):
  ∃v' w',(Builtin.append_ #[22,22] 22 #[v,x]).run prog w=.ok v' w'/\ Own w' B v' (zs++ns)/\ Gr w w' v v'/\ (v.ownBlock≠Up ->v'.ownBlock≠Up):=by
 have m:w.ownsRow B' 5 1 x ns.length (ns.map (Value.int .u8)):=hx;rcases m.2 with ⟨rfl,_⟩|⟨g,cap,u,rfl,_⟩
 ·exact absurd rfl hxn
 obtain⟨v',w',q,r,j⟩:=QcP B v zs ns (Ub g) ns.length cap w ho rfl (World.ownsRow.cells m rfl) hB oM;refine⟨v',w',q,r,j,fun hv=> ?_⟩;rcases j.l with e|⟨k,e,_⟩
 ·rw [e];exact hv
 ·rw [e];simp
theorem QjG(h:Own w B v zs)(hz:0<zs.length):v.ownBlock≠Up:=by
 obtain⟨m,j⟩:=h;rcases j with ⟨_,j⟩|⟨g,cap,k,rfl,_⟩
 ·omega
 ·simp [Value.ownBlock]
theorem Qmi (l:List Lf)(f:Nat)(p:List ByteArray):0<(tB l (f+1) p).length:=by
 rw [Qg8,UB];have:=(Qah 9 (kS l p l.length).length).2;omega
theorem Qju (l:List Lf)(p:List ByteArray)(k:Nat):∀j,k<=j ->kS l p k <+:kS l p j
 | 0,h=>by rw [show k=0 by omega];exact Yc _
 | j+1,h=>by
  by_cases e:k=j+1
  ·rw [e];exact Yc _
  ·have m:=Qju l p k j oM;cases h1:nx p (gL l j) with
   | none=>rw [Qdp h1];exact m
   | some y=>
    rw [Qdq h1];split
    ·exact m
    ·exact m.trans (List.prefix_append _ _)
theorem QhG {α:Type}(f:α ->List Int){a b:List α}(h:a <+:b):(a.flatMap f).length<=(b.flatMap f).length:=by
 obtain⟨c,rfl⟩:=h;rw [VU,UB];omega
structure Bd (w wr:Ur)(body:Value)(zs:List Int):Prop where
 b:Bl w wr
 o:Own wr w.heap.size body zs
 n:body.ownBlock≠Up
theorem Bd.keep(h:Bd w wr body zs)(hb:Bl wr w1):Bd w w1 body zs:=
 ⟨h.b.trans (hb.mono h.b.size),Own.kept h.o hb (fun k hk=>(World.ownsRow.lt h.o k hk).2),h.n⟩
theorem Bd.app(h:Bd w wr body zs)(hb:Bl wr w1)(ho:Own w1 wr.heap.size v ns)(hz:0<ns.length)(hl:zs.length+ns.length<=1000000000):
  ∃v' m,(Builtin.append_ #[22,22] 22 #[body,v]).run prog w1=.ok v' m/\ Bd w m v' (zs++ns):=by
 have j:=h.keep hb;obtain⟨v',m,e,u,q,r⟩:=Qqz w.heap.size wr.heap.size body v zs ns w1 j.o ho (QjG ho hz) j.b.size hl;exact⟨v',m,e,j.b.trans (q.bw j.b.size (fun k hk=>(World.ownsRow.lt j.o k hk).1)),u,r h.n⟩
theorem Bd.byte(h:Bd w wr body zs)(Y:Int)(hl:zs.length<=1000000000):
  ∃v' m,(Builtin.append_ #[22,22] 22 #[body,Uf (Uc wr.heap.size) 1 1]).run prog (wr.alloc (Uj #[Ug .u8 Y] 5))=.ok v' m/\ Bd w m v' (zs++[Y]):=by
 have v:Bl wr (wr.alloc (Uj #[Ug .u8 Y] 5)):=zO _ _;have j:=h.keep v;obtain⟨v',m,e,y,r⟩:=QcP w.heap.size body zs [Y] (Ub wr.heap.size) 1 1 (wr.alloc (Uj #[Ug .u8 Y] 5)) j.o rfl (fun i u hu=>cell_one_new _ _ _ i u hu) j.b.size oM;refine⟨v',m,e,j.b.trans (r.bw j.b.size (fun k hk=>(World.ownsRow.lt j.o k hk).1)),y,?_⟩;rcases r.l with q|⟨k,q,_⟩
 ·rw [q];exact h.n
 ·rw [q];simp
theorem QmL{e J:Nat}{y:Ky}(hlv:QbT R F T n l l.length)(hI:Iv l p i e)(hij:i<=J)(hfr:y ∉ kS l p J)(h1:1<=g)(hge:J+g<=e)(hy:Qav (gL l J).p (kd (gL l J).fl) p.length=y)(hsame:∀t,t<g ->Qav (gL l (J+t)).p (kd (gL l (J+t)).fl) p.length=y)(hdiff:J+g<e ->Qav (gL l (J+g)).p (kd (gL l (J+g)).fl) p.length≠y):
  kS l p (J+g)=kS l p J++[y]/\ dsK l p y l.length=((UW g).map fun t=>gL l (J+t))/\ (∀s,y=(s,3) ->Iv l (p++[s]) J (J+g))/\∀z,nx p (gL l (J+g))=Uq z ->J+g<e ->z ∉ kS l p (J+g):=by
 have q:=hI.2.2;have j:∀t,t<g ->nx p (gL l (J+t))=Uq y:=fun t ht=>by
  rw [Qb2];exact⟨Qf9.1 ((hI.1 (J+t) oM).2 oM),hsame t ht⟩
 have m:J+g<e ->nx p (gL l (J+g))≠Uq y:=fun hlt he=>by
  rw [Qb2] at he;exact hdiff hlt he.2
 have k:=QkC hlv hI hij hfr h1 hge j m;refine⟨?_,QkA k oM,fun s es=>by subst es;exact QmM k oM,fun z hz hlt=>QkB hlv hI hfr h1 hge j m hlt hz⟩;have:=Qfy hfr j (g - 1) oM;rwa [show J+(g - 1+1)=J+g by omega] at this
theorem Bd.made (w:Ur):Bd w (w.alloc (Uj #[] 5)) (Uf (Uc w.heap.size) 0 0) []:=by
 refine⟨zO _ _,?_,by simp [Value.ownBlock]⟩;have:=VF (base:=w.heap.size) (e:=5) (size:=1) w #[] 0 oM oL rfl;simpa [Own] using this
theorem Bd.front{u:Value}(h:Bd w wr body zs)(hb:Bl wr w1)(ho:Own w1 wr.heap.size u ns)(hl:ns.length+zs.length<=1000000000):
  ∃v' j,(Builtin.append_ #[22,22] 22 #[u,body]).run prog w1=.ok v' j/\ Own j w.heap.size v' (ns++zs)/\ Bl w j:=by
 have m:=h.keep hb;have q:=Own.weak ho h.b.size;obtain⟨v',j,e,v,r,y⟩:=Qqz w.heap.size w.heap.size u body ns zs w1 q m.o h.n m.b.size hl;exact⟨v',j,e,v,m.b.trans (r.bw m.b.size (fun k hk=>(World.ownsRow.lt q k hk).1))⟩
structure Lp (l:List Lf)(p:List ByteArray)(w:Ur)(J M:Nat)(a:Option Us)(c:Nat):Prop where
 c1:M<=c
 c2:c<=9223372036854775807
 a1:0<M ->∃b o,a=Uq (Ua b o)/\ LAt w b o l J M
 fr:0<M ->∀y,nx p (gL l J)=Uq y ->y ∉ kS l p J
def Qnz:Value ->Nat
 | Uf _ n _=>n
 | _=>0
theorem Qiz(l:List Lf)(hlv:QbT R F T n l l.length)(hbd:LvB l)(f:Nat)(p:List ByteArray)(hpf:p.length+(f+1)=8)
  (ih:∀(s:ByteArray),1<=f ->∀(i m c:Nat) (a:Option Us) (w:Ur),m<=c ->c<=9223372036854775807 ->Iv l (p++[s]) i (i+m) ->(0<m ->∃b off,a=Uq (Ua b off)/\ LAt w b off l i m) ->(tB l f (p++[s])).length<=90000000 ->
   Cl 56 #[Uf a m c,Ud ((p++[s]).length:Int)] w fun e w'=>∃v,e=Ui v/\ Own w' w.heap.size v (tB l f (p++[s]))/\ Bl w w')
  (i m c:Nat) (a:Option Us) (w:Ur) (hmc:m<=c) (hcm:c<=9223372036854775807) (hI:Iv l p i (i+m)) (hL:0<m ->∃b off,a=Uq (Ua b off)/\ LAt w b off l i m) (hl:(tB l (f+1) p).length<=90000000):
  Cl 56 #[Uf a m c,Ud (p.length:Int)] w fun e w'=>∃v,e=Ui v/\ Own w' w.heap.size v (tB l (f+1) p)/\ Bl w w':=by
  obtain⟨TB,Gl⟩:=zE (tB l (f+1) p);rw [Gl] at hl ⊢;have Gi:Hid (uvF 9 (kS l p l.length).length++(kS l p l.length).flatMap (kB l f p)=TB):=hid (by rw [<- Gl,Qg8]);have Hk:=hid hI;have HL:=hid hL;obtain⟨d,hd⟩:=zE p.length;have HD:=hid hd;have G6:Hid (∀(s:ByteArray),1<=f ->∀(i m c:Nat) (a:Option Us) (w:Ur),m<=c ->c<=9223372036854775807 ->Iv l (p++[s]) i (i+m) ->(0<m ->∃b off,a=Uq (Ua b off)/\ LAt w b off l i m) ->(tB l f (p++[s])).length<=90000000 ->
   Cl 56 #[Uf a m c,Ud ((d:Int)+1)] w fun e w'=>∃v,e=Ui v/\ Own w' w.heap.size v (tB l f (p++[s]))/\ Bl w w'):=hid (fun s hf i m c a w j k Z h4 h5=>by
    have:=ih s hf i m c a w j k Z h4 h5;rw [show (((p++[s]).length:Nat):Int)=(d:Int)+1 by simp;omega] at this;exact this)
  rw [hd] at hpf ⊢;have Kd:m<=1000:=oJ hI.2 hbd.len;clear Gl hI hL hd ih;go_enter func56,ntmps56;go_wp2_with fail;go_loopw [0,5,6] (fun lv cv bd wr=>∃(J M c':Nat) (a':Option Us),Hid (i<=J/\ J+M=i+m)/\ lv=Uf a' M c'/\ cv=Ud ((kS l p J).length:Nat)/\ Hid (Lp l p w J M a' c')/\ Hid (Bd w wr bd ((kS l p J).flatMap (kB l f p)))) (fun lv _ _ _=>Qnz lv);case atStart=>
   have e:=Hk.start i zL;refine⟨i,m,c,a,hid ⟨Uv _,rfl⟩,rfl,by rw [e];rfl,hid ⟨hmc,hcm,HL,fun _ y _=>by rw [e];simp⟩,hid ?_⟩;rw [e];exact Bd.made w
  case round=>
   obtain⟨J,M,c',a',u,rfl,rfl,Ht,Hg⟩:=hrel;clear HL;by_cases Gf:0<M
   ·obtain⟨b,o,rfl,H4⟩:=Ht.a1 Gf;have Hx:=hid H4;have hM:M<=1000:=oH u;have Hj:Hid (i+m<=l.length/\ l.length<=1000):=hid ⟨Hk.2.2,hbd.len⟩;have HP:Hid (∀t,t<M ->d<(gL l (J+t)).p.length/\ (gL l (J+t)).p.length<=8):=hid (fun t ht=>by
     have hJ:=u.out;have he:=Hj.out;have j:=Qf9.1 ((Hk.1 (J+t) oM).2 oM);rw [HD.out] at j;exact⟨j.2,(hlv (J+t) oM).1.1.2.1⟩)
    have Hw:=HP 0 Gf;have G7:Hid (Qcz (gL l J)):=hid ((hlv J (oJ u Hj)).1);obtain⟨qa,qc,h0,hs,j,k,Z,h4⟩:=H4.2 0 Gf;simp only [VO,Nat.zero_mul] at h0 hs j k Z h4 Hw;rcases hs with hs|⟨kb,ko,rfl,G2,G3⟩
    ·omega
    have h5:=G3 d Hw.1;have Hv:=H4.1;have Gb:=hid (Ht.fr Gf);have Hy:Hid (nx p (gL l J)=Uq (Qav (gL l J).p (kd (gL l J).fl) d)):=hid (by
     have hJ:=u.out;have he:=Hj.out;have j:=Qf9.1 ((Hk.1 J oM).2 oM);rw [Qb2];exact⟨j,by rw [HD.out]⟩)
    have Gp:(gS (gL l J).p d).size<=40:=(G7.1.2.2 d Hw.1).2;have Hp:=hid (QkN l b o J M c' d wr oM oM oM (fun t ht=>oH (HP t ht)) (H4.bw Hg.b));have Ge:Hid (Qav (gL l J).p (kd (gL l J).fl) d=(gS (gL l J).p d,kAt d (gL l J).p.length (gL l J).fl)):=hid rfl;have Gd:Hid (kAt d (gL l J).p.length (gL l J).fl=1 \/kAt d (gL l J).p.length (gL l J).fl=2 \/(kAt d (gL l J).p.length (gL l J).fl=3/\ 1<=f)):=hid (by
     unfold kAt;split
     ·exact .inr (.inr ⟨rfl,oM⟩)
     ·rcases QgZ (gL l J).fl with h|h
      ·exact .inl h
      ·exact .inr (.inl h))
    have K:Hid ((kS l p J).length<=1000/\ ((kS l p J).flatMap (kB l f p)).length<=90000000):=hid ⟨by have:=QeP l p J;have hJ:=u.out;have he:=Hj.out;omega,by
     have j:=QhG (kB l f p) (Qju l p J l.length (by have hJ:=u.out;have he:=Hj.out;omega));have k:TB.length<=90000000:=hl;rw [<- Gi.out,UB] at k;omega⟩
    have Hq:Hid (∀g,1<=g ->g<=M ->(∀t,t<g ->Qav (gL l (J+t)).p (kd (gL l (J+t)).fl) d=Qav (gL l J).p (kd (gL l J).fl) d) ->(g<M ->Qav (gL l (J+g)).p (kd (gL l (J+g)).fl) d≠Qav (gL l J).p (kd (gL l J).fl) d) ->
      kS l p (J+g)=kS l p J++[Qav (gL l J).p (kd (gL l J).fl) d]/\ dsK l p (Qav (gL l J).p (kd (gL l J).fl) d) l.length=((UW g).map fun t=>gL l (J+t))/\ (∀s,Qav (gL l J).p (kd (gL l J).fl) d=(s,3) ->Iv l (p++[s]) J (J+g))/\ (g<M ->∀z,nx p (gL l (J+g))=Uq z ->z ∉ kS l p (J+g))/\ ((kS l p (J+g)).flatMap (kB l f p)).length<=90000000):=hid (fun g g1 g2 g3 g4=>by
     have hJ:=u.out;have he:=Hj.out;have Gn:=HD.out;obtain⟨r1,r2,r3,r4⟩:=QmL hlv Hk hJ.1 (Gb _ Hy) g1 oM (by rw [Gn]) (by rw [Gn];exact g3) (by rw [Gn];exact fun h=>g4 oM);refine⟨r1,r2,r3,fun h z hz=>r4 z hz oM,?_⟩;have j:=QhG (kB l f p) (Qju l p (J+g) l.length oM);have k:TB.length<=90000000:=hl;rw [<- Gi.out,UB] at k;omega)
    have Gc:Hid (∀t,t<M ->∃r q:Nat,∃v,r<=7/\ q<=1000000000/\ v.size<=200/\ (∀Y:Int,lfB Y (gL l (J+t))=uvF 9 r++(uvF 9 q++if Y=1 then Qae v else []))/\∀w',Bl w w' ->w'.cell? (Ua b (o+t*5+2))=Uq (Ud (r:Int))/\ w'.cell? (Ua b (o+t*5+3))=Uq (Ud (q:Int))/\ w'.cell? (Ua b (o+t*5+4))=Uq (Um v)):=hid (fun t ht=>by
     have hJ:=u.out;have he:=Hj.out;have hr:=hbd.rep (J+t) oM;have hq:=hbd.seq (J+t) oM;have hv:=hbd.val (J+t) oM;refine⟨(gL l (J+t)).r.toNat,(gL l (J+t)).q.toNat,(gL l (J+t)).v,oM,oM,hv,fun Y=>rfl,fun w' hb'=> ?_⟩;obtain⟨_,_,_,_,_,Q,U,V⟩:=(Hx.bw hb').2 t ht;refine⟨?_,?_,V⟩
     ·rw [Q];congr 2;omega
     ·rw [U];congr 2;omega)
    obtain⟨x,hx⟩:=zE (gL l J);rw [hx] at h0 j k Z h4 h5 Hw Gp Ge Gd Hy Hq Hp;clear hx;obtain⟨xp,fl,xr,xq,xv⟩:=x;dsimp only at h0 j k Z h4 h5 Hw Gp Ge Gd Hy Hq Hp;rw [Ge.out] at Hy Hq Hp;obtain⟨s,Go⟩:=zE (gS xp d);obtain⟨pn,Gg⟩:=zE xp.length;obtain⟨Y,hY⟩:=zE (kAt d pn fl);rw [Go,Gg,hY] at Hy Hq Hp;rw [Gg,hY] at Gd;rw [Go] at Gp h5;rw [Gg] at h0 Hw;have G8:=hid hY;clear Go Gg hY Ge G3 H4;have HC:Hid (∀w',Bl w w' ->w'.cell? (Ua b o)=Uq (Uf (Uq (Ua kb ko)) pn qc)/\ w'.cell? (Ua b (o+1))=Uq (Un fl)/\ w'.cell? (Ua b (o+2))=Uq (Ud xr)/\ w'.cell? (Ua b (o+3))=Uq (Ud xq)/\ w'.cell? (Ua b (o+4))=Uq (Um xv)/\ w'.cell? (Ua kb (ko+d))=Uq (Um s)):=hid (fun w' hB=>⟨(hB.cell (p:=(Ua b _)) Hv).trans h0,(hB.cell (p:=(Ua b _)) Hv).trans j,(hB.cell (p:=(Ua b _)) Hv).trans k,(hB.cell (p:=(Ua b _)) Hv).trans Z,(hB.cell (p:=(Ua b _)) Hv).trans h4,(hB.cell (p:=(Ua kb _)) G2).trans h5⟩);clear h0 j k Z h4 h5 Hv G2;obtain⟨cn,Hd⟩:=zE ((kS l p J).length);obtain⟨zs,He⟩:=zE ((kS l p J).flatMap (kB l f p));rw [Hd,He] at K;rw [He] at Hg;have Ho:=hid Hd;have Hu:=hid He;have Gm:=K.1;simp only [Hd];have Kc:M<=c':=Ht.c1;have G9:c'<=9223372036854775807:=Ht.c2;clear Hd He Ht;go_wp2_with fail;refine Hp.mono ?_;rintro e w1 ⟨⟨g,rfl,g1,g2,g3,g4⟩,b1⟩;have A:=hid (Hq g g1 g2 g3 g4);have Hh:=hid (Hg.keep b1);obtain⟨q0,q1,q2,q3,q4,q5⟩:=HC w1 Hh.b;clear Hq g3 g4 Hg Hp b1;go_wp2_with fail;refine(Qhe (Uq (Ua kb ko)) pn qc fl xr xq xv d w1 oM oM).mono ?_;rintro e w2 ⟨rfl,b2⟩;rw [G8.out];have Hi:=hid (Hh.keep b2);clear q0 q1 q2 q3 q4 q5 Hh b2;obtain⟨q0,q1,q2,q3,q4,q5⟩:=HC w2 Hi.b;go_wp2_with fail;refine(Qii s w2 oM).mono ?_;rintro e w3 ⟨v3,rfl,o3,b3,z3⟩;have Gr:=QaG s;obtain⟨v4,w4,L,Gy⟩:=Hi.app b3 o3 (by unfold Qae;have:=(Qah 9 s.size).2;rw [UB];omega) (oH K.2);have Hb:=hid Gy;clear q0 q1 q2 q3 q4 q5 Hi b3 o3 z3 Gy;have Hs:Hid ((zs++Qae s).length<=90000050):=hid (by have:=K.2;rw [UB];omega);rcases Gd.out with rfl|rfl|⟨rfl,hf⟩
    ·have Hr:Hid (kB l f p (s,1)=Qae s++([1]++(uvF 9 g++(UW g).flatMap fun t=>lfB 1 (gL l (J+t))))):=hid (by unfold kB;rw [if_neg (show¬(1:Int)=3 by decide),A.2.1];unfold mB;simp [Yo]);obtain⟨v5,w5,Ha,W⟩:=Hb.byte 1 (oH Hs);have I:=hid W;have Hl:Hid ((zs++Qae s++[1]).length<=90000051):=hid (by have:=Hs.out;rw [UB];simp;simpa using this);clear W Hb Gr;go_wp2_with (at_builtin;first|(refine Qab rfl _ _ _ _ rfl L (by rfl) (by rfl) rfl ?_;clear L)|(refine Qab rfl _ _ _ _ rfl Ha (by rfl) (by rfl) rfl ?_;clear Ha));refine(QaO g w5 oM).mono ?_;rintro e w6 ⟨v6,rfl,o6,S,z6⟩;have H7:=Qah 9 g;obtain⟨v7,w7,H,Hc⟩:=I.app S o6 H7.2 (oH Hl);have G:=hid Hc;obtain⟨O,X⟩:=zE (zs++Qae s++[1]++uvF 9 g);have Gk:=hid X;have Gh:Hid (O.length<=90000070):=hid (by rw [<- X,UB];have:=Hl.out;omega);rw [X] at G;clear X Hc o6 S z6 H7 I;go_wp2_with (at_builtin;refine Qab rfl _ _ _ _ rfl H (by rfl) (by rfl) rfl ?_;clear H);go_loopw [6,9] (fun bd iv wr=>∃t:Nat,t<=g/\ iv=Ud t/\ Hid (Bd w wr bd (O++(UW t).flatMap fun t=>lfB 1 (gL l (J+t))))) (fun _ iv _=>g - (intOf iv).toNat);case atStart=>exact⟨0,Ux _,rfl,hid (oU G)⟩
     case round=>
      obtain⟨t,ht,rfl,E⟩:=hrel;clear G;by_cases Gq:t<g
      ·obtain⟨r,q,v,hr,hq,hv,N,Hm⟩:=Gc t oM;have HK:=hid Hm;obtain⟨Q,U,V⟩:=Hm _ E.b;clear Hm;have Hz:Hid (O++((UW (t+1)).flatMap fun t=>lfB 1 (gL l (J+t)))=O++((UW t).flatMap fun t=>lfB 1 (gL l (J+t)))++(uvF 9 r++(uvF 9 q++Qae v))):=hid (by rw [Vj,VU];simp [N]);have P:Hid ((O++(UW t).flatMap fun t=>lfB 1 (gL l (J+t))).length<=90000070+230*1000):=hid (by
        have k:=Qct (fun t=>lfB 1 (gL l (J+t))) (fun _=>1) 230 (UW t) (fun z hz=>by
         have Ka:=List.mem_range.1 hz;obtain⟨r,q,v,hr,hq,hv,N,_⟩:=Gc z oM;have a1:=(Qah 9 r).1;have a2:=(Qah 9 q).1;have a3:=QaG v;rw [N];simp only [UB];split
         ·omega
         ·simp;omega)
        have Z:∀ls:List Nat,(ls.map fun _=>1).sum=ls.length:=fun ls=>by
         induction ls with
         | nil=>rfl
         | cons a r ih=>simp only [UD,Vz,ih,Vq];omega
        rw [Z,Yp] at k;have:=Gh.out;rw [UB];omega)
       obtain⟨us,H8⟩:=zE (O++((UW t).flatMap fun t=>lfB 1 (gL l (J+t))));rw [H8] at E Hz P;clear H8 N;have Gt:=Qah 9 r;have Gs:=Qah 9 q;go_wp2_with fail;refine(QaO r _ oM).mono ?_;rintro e y1 ⟨u1,rfl,H9,H0,Gu⟩;obtain⟨u2,y2,H5,H2⟩:=E.app H0 H9 Gt.2 (oH P);have Hf:=hid H2;clear H2 H0 H9 Gu E Q U V;obtain⟨Q,U,V⟩:=HK _ Hf.b;go_wp2_with (at_builtin;refine Qab rfl _ _ _ _ rfl H5 (by rfl) (by rfl) rfl ?_;clear H5);refine(QaO q _ oM).mono ?_;rintro e y3 ⟨u3,rfl,Ga,H1,Gv⟩;obtain⟨u4,y4,H6,H3⟩:=Hf.app H1 Ga Gs.2 (by have:=P.out;rw [UB];omega);have Hn:=hid H3;clear H3 H1 Ga Gv Hf Q U V;obtain⟨Q,U,V⟩:=HK _ Hn.b;go_wp2_with (at_builtin;refine Qab rfl _ _ _ _ rfl H6 (by rfl) (by rfl) rfl ?_;clear H6);refine(Qii v _ oM).mono ?_;rintro e y5 ⟨u5,rfl,G4,Gx,Kb⟩;have Ke:=QaG v;obtain⟨u6,y6,G0,Gz⟩:=Hn.app Gx G4 (by unfold Qae;have:=(Qah 9 v.size).2;rw [UB];omega) (by have:=P.out;rw [UB,UB];omega);have G5:=hid Gz;clear Gz Gx G4 Kb Hn Q U V;go_wp2_with (at_builtin;refine Qab rfl _ _ _ _ rfl G0 (by rfl) (by rfl) rfl ?_;clear G0);go_roundw;case rel=>exact⟨t+1,Gq,oN,hid (by rw [Hz.out];simpa using G5.out)⟩
       case measure=>exact oE
      ·obtain rfl:g=t:=oM;have D:Hid (Bd w wr u6 ((kS l p (J+g)).flatMap (kB l f p))):=hid (by rw [A.1,VU,Hu.out];simp only [Vs,VV,VW];rw [Hr.out];simpa [<- Gk.out] using E.out);have B:Hid ((kS l p (J+g)).length=cn+1):=hid (by rw [A.1,UB,Ho.out];rfl);have C:Hid (0<M - g ->∀y,nx p (gL l (J+g))=Uq y ->y ∉ kS l p (J+g)):=hid (fun h=>A.2.2.2.1 oM);clear E Hu Ho Gb;by_cases G1:g<c'
       ·go_wp2_with fail;go_roundw;case rel=>exact⟨J+g,M - g,c' - g,Uq (Ua b (o+g*5)),hid (oH u),by first|rfl|rw [if_neg oM],by rw [B.out];go_num,hid ⟨oM,oM,fun h=>⟨b,_,rfl,Hx.drop g2⟩,C⟩,D⟩
        case measure=>simp [Qnz];omega
       ·go_wp2_with fail;go_roundw;case rel=>exact⟨J+g,M - g,c' - g,Uq (Ua b o),hid (oH u),by first|rfl|rw [if_pos oM],by rw [B.out];go_num,hid ⟨oM,oM,fun h=>oM,C⟩,D⟩
        case measure=>simp [Qnz];omega
    ·have Hr:Hid (kB l f p (s,2)=Qae s++([2]++(uvF 9 g++(UW g).flatMap fun t=>lfB 2 (gL l (J+t))))):=hid (by unfold kB;rw [if_neg (show¬(2:Int)=3 by decide),A.2.1];unfold mB;simp [Yo]);obtain⟨v5,w5,Ha,W⟩:=Hb.byte 2 (oH Hs);have I:=hid W;have Hl:Hid ((zs++Qae s++[2]).length<=90000051):=hid (by have:=Hs.out;rw [UB];simp;simpa using this);clear W Hb Gr;go_wp2_with (at_builtin;first|(refine Qab rfl _ _ _ _ rfl L (by rfl) (by rfl) rfl ?_;clear L)|(refine Qab rfl _ _ _ _ rfl Ha (by rfl) (by rfl) rfl ?_;clear Ha));refine(QaO g w5 oM).mono ?_;rintro e w6 ⟨v6,rfl,o6,S,z6⟩;have H7:=Qah 9 g;obtain⟨v7,w7,H,Hc⟩:=I.app S o6 H7.2 (oH Hl);have G:=hid Hc;obtain⟨O,X⟩:=zE (zs++Qae s++[2]++uvF 9 g);have Gk:=hid X;have Gh:Hid (O.length<=90000070):=hid (by rw [<- X,UB];have:=Hl.out;omega);rw [X] at G;clear X Hc o6 S z6 H7 I;go_wp2_with (at_builtin;refine Qab rfl _ _ _ _ rfl H (by rfl) (by rfl) rfl ?_;clear H);go_loopw [6,9] (fun bd iv wr=>∃t:Nat,t<=g/\ iv=Ud t/\ Hid (Bd w wr bd (O++(UW t).flatMap fun t=>lfB 2 (gL l (J+t))))) (fun _ iv _=>g - (intOf iv).toNat);case atStart=>exact⟨0,Ux _,rfl,hid (oU G)⟩
     case round=>
      obtain⟨t,ht,rfl,E⟩:=hrel;clear G;by_cases Gq:t<g
      ·obtain⟨r,q,v,hr,hq,hv,N,Hm⟩:=Gc t oM;have HK:=hid Hm;obtain⟨Q,U,V⟩:=Hm _ E.b;clear Hm;have Hz:Hid (O++((UW (t+1)).flatMap fun t=>lfB 2 (gL l (J+t)))=O++((UW t).flatMap fun t=>lfB 2 (gL l (J+t)))++(uvF 9 r++uvF 9 q)):=hid (by rw [Vj,VU];simp [N]);have P:Hid ((O++(UW t).flatMap fun t=>lfB 2 (gL l (J+t))).length<=90000070+230*1000):=hid (by
        have k:=Qct (fun t=>lfB 2 (gL l (J+t))) (fun _=>1) 230 (UW t) (fun z hz=>by
         have Ka:=List.mem_range.1 hz;obtain⟨r,q,v,hr,hq,hv,N,_⟩:=Gc z oM;have a1:=(Qah 9 r).1;have a2:=(Qah 9 q).1;have a3:=QaG v;rw [N];simp only [UB];split
         ·omega
         ·simp;omega)
        have Z:∀ls:List Nat,(ls.map fun _=>1).sum=ls.length:=fun ls=>by
         induction ls with
         | nil=>rfl
         | cons a r ih=>simp only [UD,Vz,ih,Vq];omega
        rw [Z,Yp] at k;have:=Gh.out;rw [UB];omega)
       obtain⟨us,H8⟩:=zE (O++((UW t).flatMap fun t=>lfB 2 (gL l (J+t))));rw [H8] at E Hz P;clear H8 N;have Gt:=Qah 9 r;have Gs:=Qah 9 q;go_wp2_with fail;refine(QaO r _ oM).mono ?_;rintro e y1 ⟨u1,rfl,H9,H0,Gu⟩;obtain⟨u2,y2,H5,H2⟩:=E.app H0 H9 Gt.2 (oH P);have Hf:=hid H2;clear H2 H0 H9 Gu E Q U V;obtain⟨Q,U,V⟩:=HK _ Hf.b;go_wp2_with (at_builtin;refine Qab rfl _ _ _ _ rfl H5 (by rfl) (by rfl) rfl ?_;clear H5);refine(QaO q _ oM).mono ?_;rintro e y3 ⟨u3,rfl,Ga,H1,Gv⟩;obtain⟨u4,y4,H6,H3⟩:=Hf.app H1 Ga Gs.2 (by have:=P.out;rw [UB];omega);have Hn:=hid H3;clear H3 H1 Ga Gv Hf Q U V;obtain⟨Q,U,V⟩:=HK _ Hn.b;go_wp2_with (at_builtin;refine Qab rfl _ _ _ _ rfl H6 (by rfl) (by rfl) rfl ?_;clear H6);go_roundw;case rel=>exact⟨t+1,Gq,oN,hid (by rw [Hz.out];simpa using Hn.out)⟩
       case measure=>exact oE
      ·obtain rfl:g=t:=oM;have D:Hid (Bd w wr u6 ((kS l p (J+g)).flatMap (kB l f p))):=hid (by rw [A.1,VU,Hu.out];simp only [Vs,VV,VW];rw [Hr.out];simpa [<- Gk.out] using E.out);have B:Hid ((kS l p (J+g)).length=cn+1):=hid (by rw [A.1,UB,Ho.out];rfl);have C:Hid (0<M - g ->∀y,nx p (gL l (J+g))=Uq y ->y ∉ kS l p (J+g)):=hid (fun h=>A.2.2.2.1 oM);clear E Hu Ho Gb;by_cases G1:g<c'
       ·go_wp2_with fail;go_roundw;case rel=>exact⟨J+g,M - g,c' - g,Uq (Ua b (o+g*5)),hid (oH u),by first|rfl|rw [if_neg oM],by rw [B.out];go_num,hid ⟨oM,oM,fun h=>⟨b,_,rfl,Hx.drop g2⟩,C⟩,D⟩
        case measure=>simp [Qnz];omega
       ·go_wp2_with fail;go_roundw;case rel=>exact⟨J+g,M - g,c' - g,Uq (Ua b o),hid (oH u),by first|rfl|rw [if_pos oM],by rw [B.out];go_num,hid ⟨oM,oM,fun h=>oM,C⟩,D⟩
        case measure=>simp [Qnz];omega
    ·have Hr:Hid (kB l f p (s,3)=Qae s++([3]++tB l f (p++[s]))):=hid (by unfold kB;rw [if_pos rfl]);have Gj:Hid ((tB l f (p++[s])).length<=90000000/\ 0<(tB l f (p++[s])).length):=hid ⟨by
      have j:=A.2.2.2.2;rw [A.1,VU,UB] at j;simp only [Vs,VV,VW] at j;rw [Hr.out] at j;simp only [UB] at j;omega,by
      obtain⟨f',rfl⟩:∃f',f=f'+1:=⟨f - 1,oM⟩;exact Qmi _ _ _⟩
     obtain⟨v5,w5,Ha,W⟩:=Hb.byte 3 (oH Hs);have I:=hid W;have Hl:Hid ((zs++Qae s++[3]).length<=90000051):=hid (by have:=Hs.out;rw [UB];simp;simpa using this);clear W Hb Gr;go_wp2_with (at_builtin;first|(refine Qab rfl _ _ _ _ rfl L (by rfl) (by rfl) rfl ?_;clear L)|(refine Qab rfl _ _ _ _ rfl Ha (by rfl) (by rfl) rfl ?_;clear Ha));refine(G6 s hf J g c' (Uq (Ua b o)) w5 oM G9 (A.2.2.1 s rfl) (fun _=>⟨b,o,rfl,(Hx.take g2).bw I.b⟩) Gj.1).mono ?_;rintro e w6 ⟨v6,rfl,o6,S⟩;obtain⟨v7,w7,H,Hc⟩:=I.app S o6 Gj.2 (oJ Hl Gj.1);have G:=hid Hc;clear Hc o6 S I;have D:Hid (Bd w w7 v7 ((kS l p (J+g)).flatMap (kB l f p))):=hid (by rw [A.1,VU,Hu.out];simp only [Vs,VV,VW];rw [Hr.out];simpa [Vg] using G.out);have B:Hid ((kS l p (J+g)).length=cn+1):=hid (by rw [A.1,UB,Ho.out];rfl);have C:Hid (0<M - g ->∀y,nx p (gL l (J+g))=Uq y ->y ∉ kS l p (J+g)):=hid (fun h=>A.2.2.2.1 oM);clear G Hu Ho Gb;by_cases G1:g<c'
     ·go_wp2_with (at_builtin;refine Qab rfl _ _ _ _ rfl H (by rfl) (by rfl) rfl ?_;clear H);go_roundw;case rel=>exact⟨J+g,M - g,c' - g,Uq (Ua b (o+g*5)),hid (oH u),by first|rfl|rw [if_neg oM],by rw [B.out];go_num,hid ⟨oM,oM,fun h=>⟨b,_,rfl,Hx.drop g2⟩,C⟩,D⟩
      case measure=>simp [Qnz];omega
     ·go_wp2_with (at_builtin;refine Qab rfl _ _ _ _ rfl H (by rfl) (by rfl) rfl ?_;clear H);go_roundw;case rel=>exact⟨J+g,M - g,c' - g,Uq (Ua b o),hid (oH u),by first|rfl|rw [if_pos oM],by rw [B.out];go_num,hid ⟨oM,oM,fun h=>oM,C⟩,D⟩
      case measure=>simp [Qnz];omega
   ·obtain rfl:M=0:=oM;have Gw:Hid (kS l p J=kS l p l.length):=hid (by have j:=u.out;have k:=Hk.out;rw [k.stop l.length k.2.2 zL];congr 1;omega);have K:Hid ((kS l p J).length<=1000/\ uvF 9 (kS l p J).length++(kS l p J).flatMap (kB l f p)=TB):=hid ⟨by have:=QeP l p J;have j:=u.out;have k:=Hk.2.2;have:=hbd.len;omega,by rw [Gw.out];exact Gi⟩;obtain⟨cn,Hd⟩:=zE ((kS l p J).length);obtain⟨zs,He⟩:=zE ((kS l p J).flatMap (kB l f p));rw [Hd,He] at K;rw [He] at Hg;have Gm:=K.1;simp only [Hd];clear Hd He Ht Gw u;go_wp2_with fail;refine(QaO cn _ oM).mono ?_;rintro e w1 ⟨v1,rfl,o1,b1,z1⟩;obtain⟨v2,w2,L,o2,b2⟩:=Hg.front b1 o1 (by have j:=K.2;have k:TB.length<=90000000:=hl;rw [<- j,UB] at k;omega);rw [K.2] at o2;have HO:=hid o2;have HB:=hid b2;clear o2 b2 b1 o1 z1 Hg;go_wp2_with (at_builtin;refine Qab rfl _ _ _ _ rfl L (by rfl) (by rfl) rfl ?_;clear L);go_ret;exact⟨v2,rfl,HO,HB⟩
theorem Qne(l:List Lf)(hlv:QbT R F T n l l.length)(hbd:LvB l):∀(f:Nat) (p:List ByteArray),p.length+f=8 ->1<=f ->∀(i m c:Nat) (a:Option Us) (w:Ur),m<=c ->c<=9223372036854775807 ->Iv l p i (i+m) ->(0<m ->∃b off,a=Uq (Ua b off)/\ LAt w b off l i m) ->(tB l f p).length<=90000000 ->
  Cl 56 #[Uf a m c,Ud (p.length:Int)] w fun e w'=>∃v,e=Ui v/\ Own w' w.heap.size v (tB l f p)/\ Bl w w':=by
 intro f;induction f with
 | zero=>intro p _ j;omega
 | succ f IH=>exact fun p hpf _ i m c a w j h2 h3 h4 h5=>Qiz l hlv hbd f p hpf (fun s hf=>IH (p++[s]) (by rw [UB];simp;omega) hf) i m c a w j h2 h3 h4 h5
theorem Qkm{o:Oper}{K:Act ->Ur ->Prop}{Q:Exit ->Act ->Ur ->Prop}(s x:Operand)
  (ho:o.op=.call {callee:=.builtin .append,args:=#[s,x],argTypes:=#[22,22]})
  (B B':Nat) (b v:Value) (zs ys:List Int) (hs:a.eval s=b) (hown:Own w B b zs) (hx:a.eval x=v) (hv:Own w B' v ys) (hvn:v.ownBlock≠Up) (hbn:b.ownBlock≠Up) (hl:zs.length+ys.length<=1000000000) (hB:B<=w.heap.size)
  (h:∀v' w',Own w' B v' (zs++ys) ->Gr w w' b v' ->v'.ownBlock≠Up ->K (a.put o.dst v') w'):o.wp prog a w K Q:=by
 obtain⟨i,hi,y,z,t⟩:=info_parts Tryz.infoByte;have q:=hv;obtain⟨U,u⟩:=hv;rcases u with ⟨rfl,_⟩|⟨g,cap,p,rfl,A,E,O,M,r⟩
 ·exact absurd rfl hvn
 refine Qdf s x 22 ho B 5 i (Ug .u8 0) 1 1 underlying22 hi y z t rfl oD b zs.length _ hs hown (Ub g) ys.length cap (ys.map (Value.int .u8)) hx oP (World.ownsRow.cells q rfl) (ints_oneCell .u8 _) oL oM hB ?_;intro v' w' k m j;refine h v' w' ?_ (Gr.app m j) ?_
 ·unfold Own;rw [UB,List.map_append];exact k
 ·rcases j with j|j
  ·rw [j];exact hbn
  ·rw [j];simp
theorem QbR{ops:Array Oper}{rest:List Oper}{o:Oper}{Q:Exit ->Act ->Ur ->Prop}(hgd:o.guard=Up)(s x:Operand)
  (ho:o.op=.call {callee:=.builtin .append,args:=#[s,x],argTypes:=#[22,22]})
  (B B':Nat) (b v:Value) (zs ys:List Int) (hs:a.eval s=b) (hown:Own w B b zs) (hx:a.eval x=v) (hv:Own w B' v ys) (hvn:v.ownBlock≠Up) (hbn:b.ownBlock≠Up) (hl:zs.length+ys.length<=1000000000) (hB:B<=w.heap.size)
  (h:∀v' w',Own w' B v' (zs++ys) ->Gr w w' b v' ->v'.ownBlock≠Up ->wpList prog ops Q rest (a.put o.dst v') w'):wpList prog ops Q (o::rest) a w:=
 wpList_plain hgd fun _ hK=>Qkm s x ho B B' b v zs ys hs hown hx hv hvn hbn hl hB fun v' w' h2 h3 h4=>hK _ _ (h v' w' h2 h3 h4)
theorem Own.some(h:Own w B v zs)(hz:0<zs.length):v.ownBlock≠Up:=by
 obtain⟨m,j⟩:=h;rcases j with ⟨_,j⟩|⟨g,cap,k,rfl,_⟩
 ·omega
 ·simp [Value.ownBlock]
def QdM (L:Int ->List (Int×Int))(k:Nat):List Int:=(KS L k).flatMap (Qny L)
theorem Qg0 (L:Int ->List (Int×Int))(ks:List Int):∀k,k<=ks.length ->QfV L ks k=(ks.take k).flatMap (Qny L)
 | 0,_=>by simp [QfV]
 | k+1,h=>by
  have e:ks.take (k+1)=ks.take k++[ks.getD k 0]:=by
   rw [List.take_add_one];simp [UA,show k<ks.length by omega]
  rw [e,VU,<- Qg0 L ks k oM];simp [QfV]
theorem QfE (L:Int ->List (Int×Int)):Qet L=uvF 9 (KS L 8).length++QdM L 8:=by
 unfold Qet QdM;rw [Qg0 L _ _ zL,Vn]
theorem Ql0(h:L (k:Int)≠[]):KS L (k+1)=KS L k++[(k:Int)]:=by
 have:(L (k:Int)).isEmpty=false:=by cases e:L (k:Int) with|nil=>exact absurd e h|cons _ _=>rfl
 simp [KS,this]
theorem QnA(h:L (k:Int)=[]):KS L (k+1)=KS L k:=by simp [KS,h]
theorem Qge(h:L (k:Int)≠[]):QdM L (k+1)=QdM L k++(uvF 9 k++(uvF 9 (L (k:Int)).length++spK (L (k:Int)) (L (k:Int)).length)):=by
 unfold QdM;rw [Ql0 h,VU];simp [Qny,Qko]
theorem Qh8(h:L (k:Int)=[]):QdM L (k+1)=QdM L k:=by
 unfold QdM;rw [QnA h]
theorem QcO {L:Int ->List (Int×Int)}(hL:∀r,(L r).length<=1000):∀k,(QdM L k).length<=30000*k
 | 0=>by simp [QdM,KS]
 | k+1=>by
  have:=QcO hL k;by_cases h:L (k:Int)=[]
  ·rw [Qh8 h];omega
  ·have j:=(Qah 9 k).1;have m:=(Qah 9 (L (k:Int)).length).1;have q:=Qex (L (k:Int)) (L (k:Int)).length;have u:=hL (k:Int);rw [Qge h];simp only [UB];omega
def Qj4 (l:List (Int×Int))(j:Nat):Int:=loK l j - 2
theorem Qph{r:Int}{l:List (Int×Int)}(h:w.ownsRow B 89 3 (Uf (Uc g) n cap) n (Qa8 r l))(hl:l.length=n):
  ∀i,i<n ->w.cell? (Ua g (i*3+1))=Uq (Ud (sF l i))/\ w.cell? (Ua g (i*3+2))=Uq (Ud (sT l i)):=by
 intro i hi;have j:∀(l:List (Int×Int)) (i:Nat),i<l.length ->(Qa8 r l)[i*3+1]? =Uq (Ud (l.getD i (0,0)).1)/\ (Qa8 r l)[i*3+2]? =Uq (Ud (l.getD i (0,0)).2):=by
  intro l;induction l with
  | nil=>intro i hi;simp at hi
  | cons a l ih=>
   intro i hi;cases i with
   | zero=>simp [Qa8]
   | succ i=>
    have:=ih i (oU hi);have e:Qa8 r (a::l)=Ud r::Ud a.1::Ud a.2::Qa8 r l:=(by simp [Qa8]);rw [e,show (i+1)*3+1=i*3+1+1+1+1 from by omega,show (i+1)*3+2=i*3+2+1+1+1 from by omega];simpa using this
 rw [h.cellAt _ oM,h.cellAt _ oM];exact j l i oM
theorem Qn2 (a:Option Us)(n c:Nat)(R F T:Nat ->Int)(w:Ur)(hn:n<=1048576)(h:QaT w a n R F T)(hok:QcS R F T n=true):
  Cl 55 #[Uo #[Uf a n c]] w fun e w'=>∃v,e=Ui (Ul #[v,Un true])/\ Own w' w.heap.size v (Qet (Lk R F T n))/\ Bl w w':=by
 have Hn:=Qal.1 hok;have Kp:=Hn.2;have B0:Bl w (w.alloc (Uj #[Uf a n c] 26)):=zO _ _;obtain⟨L,H⟩:=zE (Lk R F T n);have Hg:Hid (∀r,(L r).length<=1000):=fun r=>H▸Uw (Qbx R F T n r) Kp;have H5:Hid (∀r,Srt (L r)):=fun r=>H▸(QbZ n Hn.1 r).1;have Kg:Hid (∀(rep:Int) (w:Ur),QaT w a n R F T ->Cl 86 #[Uo #[Uf a n c],Ud rep] w fun e w'=>∃v,e=Ui v/\ w'.ownsRow w.heap.size 89 3 v (L rep).length (Qa8 rep (L rep))/\ Bl w w'):=fun rep w h=>H▸Qpp a n c R F T rep w hn h;rw [H];clear Hn H;go_enter func55,ntmps55;go_wp2_with fail;refine(Qg4 a n c R F T _ hn (h.bw B0)).mono ?_;rintro e w1 ⟨rfl,b1⟩;rw [hok];have Ga:w1.cell? (Ub w.heap.size)=Uq (Uf a n c):=by rw [(Qc0 b1).1 _ _ oP];simp
 have z1:w.heap.size+1<=w1.heap.size:=by have:=b1.size;simp at this;omega
 have Ka:=hid (Qaa B0 b1);have HW:=hid h;clear b1 B0 hok h;go_wp2_with fail;go_loopw [4,5,6] (fun cv b' i wr=>∃(k:Nat) (u:List Int),k<=8/\ i=Ud k/\ cv=Ud ((KS L k).length:Nat)/\ Hid (Own wr (w.heap.size+1) b' u)/\ Hid (u=QdM L k)/\ Hid (Bl w wr)/\ Hid (b'.ownBlock≠Up)/\ wr.cell? (Ub w.heap.size)=Uq (Uf a n c)/\ w.heap.size+1<=wr.heap.size) (fun _ _ i _=>8 - (intOf i).toNat);case atStart=>
  refine⟨0,[],oM,rfl,rfl,?_,hid rfl,hid (Ka.alloc oM _),hid (by simp [Value.ownBlock]),?_,oS⟩
  ·have:=VF (base:=w.heap.size+1) (e:=5) (size:=1) w1 #[] 0 oM oL rfl;exact hid (by simpa [Own] using this)
  ·rw [Below.cell (B:=w1.heap.size) (zO _ _) (show w.heap.size<w1.heap.size by omega)];exact Ga
 case round=>
  obtain⟨k,u,q,rfl,rfl,O,Q,He,Ha,Kl,K1⟩:=hrel;by_cases Gf:k<8
  ·have Kn:=QfY L k;have Ht:=HW.bw He;have Gw:=hid Ht;clear Ht;go_wp2_with fail;refine(Kg (k:Int) wr Gw).mono ?_;rintro e z ⟨v2,rfl,o,I⟩;obtain⟨l,y⟩:=zE (L (k:Int));have Kz:l.length<=1000:=y▸Hg.out _;have G9:Hid (∀j,j<l.length ->1<=loK l j/\ loK l j<=sF l j/\ sF l j<=sT l j/\ sT l j<=1000000000):=fun j hj=>Qmd (y▸H5.out _) hj;have A:Hid (Own z (w.heap.size+1) u5 u):=O.kept I (fun k q=>(World.ownsRow.lt O k q).2);have H0:Hid (Bl w z):=He.trans (I.mono oM);have Hh:z.cell? (Ub w.heap.size)=Uq (Uf a n c):=(by rw [Below.cell I (show w.heap.size<wr.heap.size by omega)];exact Kl);have z2:=I.size;have Kt:u.length<=30000*k:=(by rw [Q.out];exact QcO Hg k);have Kj:Hid (∀g,u5.ownBlock=Uq g ->g<wr.heap.size):=fun g hg=>(World.ownsRow.lt O g hg).2;rw [y] at o;clear I O He Gw;by_cases X:l=[]
   ·subst X;have Hw:=hid (QnA y);have W:=hid (Qh8 y);clear y;rcases o.2 with ⟨rfl,_⟩|⟨g,cap,Kk,rfl,_⟩
    ·clear o;go_wp2_with fail;go_roundw;case rel=>exact⟨k+1,u,Gf,oN,by rw [Hw.out],A,hid (by rw [W.out,Q.out]),H0,Ha,Hh,oM⟩
     case measure=>exact oE
    ·clear o;go_wp2_with fail;go_roundw;case rel=>exact⟨k+1,u,Gf,oN,by rw [Hw.out],A,hid (by rw [W.out,Q.out]),H0,Ha,Hh,oM⟩
     case measure=>exact oE
   ·have Ky:0<l.length:=List.length_pos_iff.2 X;have Hw:=hid (Ql0 (L:=L) (k:=k) (by rw [y];exact X));have H9:=Qge (L:=L) (k:=k) (by rw [y];exact X);rw [y] at H9;have W:=hid H9;rcases o.2 with ⟨_,e0⟩|⟨g,cap,Kk,rfl,Kw,_,K0,Km,_,_⟩
    ·omega
    have HC:=hid (Qph o rfl);have Kx:g<z.heap.size:=(o.lt g rfl).2;unfold maxLen at Km;have Gd:Uq g≠u5.ownBlock:=fun e=>oH (Kj g e.symm);have Kr:Uq w.heap.size≠u5.ownBlock:=fun e=>by have:=(World.ownsRow.lt A _ e.symm).1;omega
    have l3:=Qah 9 k;have l4:=Qah 9 l.length;have Kv:((l.length:Int)==0)=false:=oS;clear o y H9 X;go_wp2_with fail;refine(QaO k z oM).mono ?_;rintro e w3 ⟨v3,rfl,t,p,Ks⟩;have V:=hid (A.kept p (fun k q=>(World.ownsRow.lt A k q).2));have Z:=hid t;have Hx:=hid (t.some oM);have Gj:Hid (Gr z w3 u5 u5):=Gr.of_below p;clear t p;go_wp2_with (at_builtin;refine QbR rfl _ _ rfl (w.heap.size+1) z.heap.size u5 v3 u (uvF 9 k) rfl V rfl Z Hx Ha ?c1 ?c2 ?_);case c1=>omega
    case c2=>omega
    intro P w4 C E Hz;have Hu:=hid (Gj.trans E);have Y:=hid C;have Gn:=hid Hz;have z4:=E.g.size;clear C E Hz V Z Hx Gj;go_wp2_with fail;refine(QaO l.length w4 oM).mono ?_;rintro e w5 ⟨v5,rfl,Gg,H7,K2⟩;have Gt:=hid (Y.kept H7 (fun k q=>(World.ownsRow.lt Y k q).2));have Gx:=hid Gg;have Go:=hid (Gg.some oM);have Gk:Hid (Gr w4 w5 P P):=Gr.of_below H7;clear Gg H7;go_wp2_with (at_builtin;refine QbR rfl _ _ rfl (w.heap.size+1) w4.heap.size P v5 (u++uvF 9 k) (uvF 9 l.length) rfl Gt rfl Gx Go Gn ?d1 ?d2 ?_);case d1=>simp;omega
    case d2=>omega
    intro v6 w6 G7 Gb G5;have Kc:=hid (Hu.trans (Gk.trans Gb));have Kf:=hid G7;have Ke:=hid G5;have z6:=Gb.g.size;clear G7 Gb G5 Gt Gx Go Gk Y Hu Gn;go_wp2_with fail;go_loopw [5,8,9] (fun b' la i wr'=>∃(j:Nat) (s:List Int),j<=l.length/\ i=Ud j/\ la=Ud (Qj4 l j)/\ Hid (Own wr' (w.heap.size+1) b' s)/\ Hid (s=u++uvF 9 k++uvF 9 l.length++spK l j)/\ Hid (Gr z wr' u5 b')/\ Hid (b'.ownBlock≠Up)/\ z.heap.size<=wr'.heap.size) (fun _ _ i _=>l.length - (intOf i).toNat);case atStart=>exact⟨0,_,Ux _,rfl,rfl,Kf,hid (by simp [spK]),Kc,Ke,oM⟩
    case round=>
     obtain⟨j,s,hj,rfl,rfl,Hb,Ho,M,Hc,Kq⟩:=hrel;have Ku:s.length<=240000+20+20*j:=by
      rw [Ho.out];have:=Qex l j;simp only [UB];omega
     by_cases Hy:j<l.length
     ·obtain⟨q1,q2,q3,q4⟩:=G9 j Hy;have G3:=M.g.cell (HC j Hy).1 Gd;have G4:=M.g.cell (HC j Hy).2 Gd;have Ko:Qj4 l j=loK l j - 2:=rfl;obtain⟨D,G1⟩:∃D:Int,sF l j - Qj4 l j=D:=⟨_,rfl⟩;obtain⟨b,G0⟩:∃m:Nat,sF l j - loK l j=(m:Int):=⟨(sF l j - loK l j).toNat,oM⟩;obtain⟨U,H6⟩:∃m:Nat,sT l j - sF l j=(m:Int):=⟨(sT l j - sF l j).toNat,oM⟩;have x1:IntKind.i64.wrap (sF l j - Qj4 l j)=D:=(by rw [G1];exact Qat _ oM oM);have x2:IntKind.i64.wrap (D - 2)=(b:Int):=(by rw [show D - 2=(b:Int) by omega];exact Qat _ oM oM);have x3:IntKind.i64.wrap (sT l j - sF l j)=(U:Int):=(by rw [H6];exact Qat _ oM oM);have Ki:Hid (spK l (j+1)=spK l j++(uvF 9 b++uvF 9 U)):=(by show spK l j++_=_;rw [G0,H6];rfl);have Kd:Hid (sT l j=Qj4 l (j+1)):=(by show sT l j=loK l (j+1) - 2;show sT l j=sT l j+2 - 2;omega);have y1:b<=1000000000:=oM;have y2:U<=1000000000:=oM;have y3:=Qah 9 b;have y4:=Qah 9 U;have Hm:Uq g≠u5.ownBlock:=fun e=>by
       rcases M.l with h|⟨i,h,hi⟩
       ·exact Gd (e.trans h)
       ·rw [h] at e;injection e with e;omega
      clear G0 H6 G1 Ko;go_wp2_with fail;refine(QaO b wr oM).mono ?_;rintro e w7 ⟨v7,rfl,Gh,H8,K3⟩;have Gu:=hid (Hb.kept H8 (fun k q=>(World.ownsRow.lt Hb k q).2));have Gy:=hid Gh;have Gp:=hid (Gh.some oM);have Gl:Hid (Gr wr w7 u5 u5):=Gr.of_below H8;clear Gh H8;go_wp2_with (at_builtin;refine QbR rfl _ _ rfl (w.heap.size+1) wr.heap.size u5 v7 s (uvF 9 b) rfl Gu rfl Gy Gp Hc ?f1 ?f2 ?_);case f1=>omega
      case f2=>omega
      intro v8 w8 G8 Gc G6;have N:=Gl.trans Gc;have Hi:=N.g.cell G3 Hm;have Hk:=N.g.cell G4 Hm;have Hf:Uq g≠v8.ownBlock:=fun e=>by
       rcases N.l with h|⟨i,h,hi⟩
       ·exact Hm (e.trans h)
       ·rw [h] at e;injection e with e;omega
      have Gm:=hid (M.trans N);have H4:=hid G8;have Gq:=hid G6;have z8:=Gc.g.size;clear G8 Gc G6 Gu Gy Gp Gl N G3 G4 x1 x2;go_wp2_with fail;refine zR (S:=fun w'=>w'.cell? (Ua g (j*3+1))=Uq (Ud (sF l j))/\ w'.cell? (Ua g (j*3+2))=Uq (Ud (sT l j))) ⟨Hi,Hk⟩ (fun qh=> ?_);refine tZ 0 53 ?_;refine tZ 1 54 ?_;refine tZ 2 55 ?_;refine tZ 3 56 ?_;refine tZ 4 57 ?_;refine tZ 5 58 ?_;refine tZ 6 59 ?_;refine tZ 7 60 ?_;refine tZ 8 61 ?_;refine tZ 9 62 ?_;refine tZ 10 63 ?_;refine tZ 11 64 ?_;refine cZ 12 ?_;intro K G;go_simp;refine(QaO U _ oM).mono ?_;rintro e w9 ⟨v9,rfl,Gi,G2,K4⟩;have Hd:Bl w8 w9:=(Below.refl _ w8).drew.trans G2;have Gv:=hid (H4.kept Hd (fun k q=>(World.ownsRow.lt H4 k q).2));have Gz:=hid Gi;have Gs:=hid (Gi.some oM);have Hv:Hid (Gr w8 w9 v8 v8):=Gr.of_below Hd;have Hj:=Hv.g.cell Hi Hf;have Hl:=Hv.g.cell Hk Hf;have z9:=Hd.size;clear Gi G2 Hd;refine G.out _ _ ⟨Hj,Hl⟩ (fun qh=> ?_);clear G K;try simp only [zP]
      refine cZ 13 ?_;intro K G;rw [if_pos (by rfl)];refine Qkm _ _ (by rfl) (w.heap.size+1) w8.heap.size v8 v9 (s++uvF 9 b) (uvF 9 U) (by rfl) Gv (by rfl) Gz Gs Gq oS oM ?_;intro K5 K6 Hs J Hr;have Hp:=J.g.cell Hj Hf;have Hq:=J.g.cell Hl Hf;have H1:=hid (Gm.trans (Hv.trans J));have H3:=hid Hs;have H2:=hid Hr;have K7:=J.g.size;clear Hs J Hr;refine G.out _ _ ⟨Hp,Hq⟩ (fun qh=> ?_);clear G K;try simp only [zP]
      refine tZ 14 5 ?_;refine zD ?_;clear qh Hi Hk Hj Hl Gv Gz Gs Hv H4 Gq Gm;go_wp2_with fail;go_roundw;case rel=>exact⟨j+1,_,Hy,oN,by rw [Kd.out],H3,hid (by rw [Ki.out,Ho.out];simp),H1,H2,oM⟩
      case measure=>exact oE
     ·obtain rfl:j=l.length:=oM;go_wp2_with fail;go_roundw;case rel=>
       refine⟨k+1,s,Gf,oN,?_,Hb,hid ?_,hid ?_,Hc,M.g.cell Hh Kr,oM⟩
       ·rw [Hw.out];simp
       ·rw [W.out,Ho.out,Q.out];simp
       ·exact H0.trans (M.bw oM (fun g hg=>oH ((World.ownsRow.lt A g hg).1)))
      case measure=>exact oE
  ·obtain rfl:k=8:=oM;have Kt:u.length<=30000*8:=(by rw [Q.out];exact QcO Hg 8);have Kn:=QfY L 8;have l3:=Qah 9 (KS L 8).length;have Kh:=hid (QfE L);go_wp2_with fail;refine(QaO (KS L 8).length wr oM).mono ?_;rintro e w3 ⟨v3,rfl,t,p,Ks⟩;have V:=hid (O.kept p (fun k q=>(World.ownsRow.lt O k q).2));have Z:=hid t;have Hx:=hid (t.some oM);have Kb:=hid (He.trans (p.mono oM));have Ge:Hid (∀g,v3.ownBlock=Uq g ->wr.heap.size<=g):=fun g hg=>(World.ownsRow.lt t g hg).1;clear t p;go_wp2_with (at_builtin;refine QbR rfl _ _ rfl wr.heap.size (w.heap.size+1) v3 u5 (uvF 9 (KS L 8).length) u rfl Z rfl V Ha Hx ?g1 ?g2 ?_);case g1=>omega
   case g2=>omega
   intro P w4 C E Hz;have Hu:=hid E;have Y:=hid C;clear C E Hz V Z;go_wp2_with fail;go_ret2;refine⟨P,rfl,?_,Kb.trans (Hu.bw oM (fun g hg=>oH (Ge g hg)))⟩;rw [Kh.out,<- Q.out];exact Y.weak oM
def Qqm (R F T:Nat ->Int)(n:Nat):List Int:=if QcS R F T n then Qet (Lk R F T n) else []
theorem Qld (R F T:Nat ->Int)(n:Nat):(Qqm R F T n).length<=1000000:=by
 unfold Qqm;split
 ·rename_i h;have j:=Qal.1 h;rw [QfE];have k:=(Qah 9 (KS (Lk R F T n) 8).length).1;have m:=QcO (L:=Lk R F T n) (fun r=>Uw (Qbx R F T n r) j.2) 8;simp only [UB];omega
 ·simp
theorem Own.any(h:Own w B v zs):∃a cap,v=Uf a zs.length cap/\ Seg w a zs.length (fun i=>zs.getD i 0):=by
 by_cases j:zs=[]
 ·subst j;obtain⟨_,k⟩:=h;rcases k with ⟨rfl,_⟩|⟨g,cap,m,rfl,_⟩
  ·exact⟨Up,0,rfl,.inl rfl⟩
  ·exact⟨_,cap,rfl,.inl rfl⟩
 ·obtain⟨g,cap,rfl,_,_,_,_,_,s⟩:=h.shape j;exact⟨_,cap,rfl,s⟩
theorem Qjn (R F T:Nat ->Int)(r f t:Int):∀n,Qb6 R F T r f t n=true ->∃k,k<n/\ R k=r/\ F k<=f/\ t<=T k
 | 0,h=>by simp [Qb6] at h
 | n+1,h=>by
  simp only [Qb6,Bool.or_eq_true,decide_eq_true_eq] at h;rcases h with h|h
  ·obtain⟨k,j,r⟩:=Qjn R F T r f t n h;exact⟨k,oM,r⟩
  ·exact⟨n,oM,h⟩
theorem Qba.lvB(h:Qba R F T n l):LvB l:=by
 obtain⟨u,v,j,y⟩:=h;have g:=(Qal.1 u).1;have m:∀i,i<l.length ->(0<=(gL l i).r/\ (gL l i).r<8)/\ (0<=(gL l i).q/\ (gL l i).q<=1000000000):=fun i hi=>by
  obtain⟨k,z,t,o,b⟩:=Qjn R F T _ _ _ n (j i hi).2.1;have:=(g k z).1;simp only [QaF,Bool.and_eq_true,decide_eq_true_eq] at this;omega
 exact⟨fun i hi=>(m i hi).1,fun i hi=>(m i hi).2,fun i hi=>(j i hi).1.2.1,v,y⟩
noncomputable def psB (R F T:Nat ->Int)(n:Nat)(l:List Lf):List Int:=Qet (Lk R F T n)++tB l 8 []
noncomputable def psZ (R F T:Nat ->Int)(n:Nat)(l:List Lf):List Int×Int:=
 if yes (Qba R F T n l)=true then(if (psB R F T n l).length<=4000 then(psB R F T n l,0) else([],2)) else([],1)
theorem QjJ(h:¬Qba R F T n l):psZ R F T n l=([],1):=by unfold psZ;rw [if_neg (by rw [Qag h];simp)]
theorem QfD(h:Qba R F T n l)(h2:¬(psB R F T n l).length<=4000):psZ R F T n l=([],2):=by unfold psZ;rw [if_pos (Qaj h),if_neg h2]
theorem Qes(h:Qba R F T n l)(h2:(psB R F T n l).length<=4000):psZ R F T n l=(psB R F T n l,0):=by unfold psZ;rw [if_pos (Qaj h),if_pos h2]
theorem Qnv (R F T:Nat ->Int)(n:Nat)(l:List Lf):(psZ R F T n l).1.length<=4000:=by
 unfold psZ;split
 ·split
  ·assumption
  ·simp
 ·simp
theorem Qba.put_len(h:Qba R F T n l):(Qet (Lk R F T n)).length<=1000000/\ 0<(Qet (Lk R F T n)).length:=by
 have:=Qld R F T n;unfold Qqm at this;rw [if_pos h.1] at this;refine⟨this,?_⟩;rw [QfE,UB];have:=(Qah 9 (KS (Lk R F T n) 8).length).2;omega
theorem Qba.tree_len(h:Qba R F T n l):(tB l 8 []).length<=2000000:=by
 have j:=Qkg h.2.2.1 8 [];have k:=Qpx l [] l.length;have m:=h.2.1;have q:(400+100*8)*uK l [] l.length<=1200*1000:=Nat.mul_le_mul oM oM;omega
theorem Qba.iv(h:Qba R F T n l):Iv l [] 0 (0+l.length):=by
 refine⟨fun j hj=> ?_,oM,oM⟩;rw [Qf9];have:=(h.2.2.1 j hj).1.1.1;exact⟨fun _=>⟨oM,oM⟩,fun _=>⟨List.nil_prefix,Ut Nat.zero_lt_one this⟩⟩
theorem Qe9.lat{a:Option Us}(h:Qe9 w a l)(h0:0<l.length):∃b off,a=Uq (Ua b off)/\ LAt w b off l 0 l.length:=by
 rcases h with h|⟨b,off,e,j,k⟩
 ·omega
 ·refine⟨b,off,e,j,fun t ht=> ?_⟩;rw [Nat.zero_add];exact k t ht
theorem QlW (w:Ur)(B:Nat)(hB:B<=w.heap.size):Own (w.alloc (Uj #[] 5)) B (Uf (Uc w.heap.size) 0 0) []:=by
 have:=VF (base:=B) (e:=5) (size:=1) w #[] 0 hB oL rfl;simpa [Own] using this
theorem QkM (a:Option Us)(c:Nat)(l:List Lf)(x:Option Us)(n d:Nat)(R F T:Nat ->Int)(w:Ur)(hc:l.length<=c)(hcm:c<=9223372036854775807)(hn:n<=1048576)(h:Qe9 w a l)(h':QaT w x n R F T)(hok:Qba R F T n l):
  Cl 32 #[Uo #[Uf a l.length c,Uf x n d]] w fun e w'=>∃v,e=Ui v/\ Own w' w.heap.size v (psB R F T n l)/\ Bl w w':=by
 obtain⟨W,m⟩:=zE (w.alloc (Uj #[Uf a l.length c,Uf x n d] 28));have j:Bl w W:=m▸zO _ _;have q:Bx2 W w.heap.size (Uf a l.length c) (Uf x n d):=m▸Bx2.made _ _ _ _;obtain⟨H,I⟩:=q.q2;have r:=hid q;have Y:=hid (h.bw j);have p:=hid (Qn2 x n d R F T W hn (h'.bw j) hok.1);have z:=hid j;have A:Hid (∀w1,Bl W w1 ->Cl 56 #[Uf a l.length c,Ud 0] w1 fun e w'=>∃v,e=Ui v/\ Own w' w1.heap.size v (tB l 8 [])/\ Bl w1 w'):=hid (fun w1 hb1=>by
  have:=Qne l hok.2.2.1 hok.lvB 8 [] rfl oM 0 l.length c a w1 hc hcm hok.iv (fun h0=>(Y.bw hb1).lat h0) (oH hok.tree_len);exact this)
 have i:=hid (And.intro hok.put_len hok.tree_len);have G:Hid (0<(tB l 8 []).length):=hid (Qmi l 7 []);have s:Hid (Qet (Lk R F T n)++tB l 8 []=psB R F T n l):=hid rfl;obtain⟨Z,Q⟩:=zE (psB R F T n l);rw [Q] at s ⊢;clear Q h h' j q hok;go_enter func32,ntmps32;go_wp2_with fail;try rw [m]
 clear m;refine p.mono ?_;rintro e w1 ⟨L,rfl,y,k⟩;have M:=r.bw k r.lt;obtain⟨J,K⟩:=M.q2;have g:Hid (Bd w w1 L (Qet (Lk R F T n))):=hid ⟨Qaa z k,Own.weak y z.size,QjG y i.1.2⟩;have E:=hid (A w1 k);clear k y M p A r H I;go_wp2_with fail;refine E.mono ?_;rintro e B ⟨X,rfl,V,O⟩;obtain⟨N,C,U,u⟩:=g.app O V G (oH i);rw [s.out] at u;have t:=hid u;clear u O V g E J K;go_wp2_with (at_builtin;refine Qab rfl _ _ _ _ rfl U (by rfl) (by rfl) rfl ?_;clear U);go_ret;exact⟨N,rfl,t.o,t.b⟩
theorem Qd5 (a:Option Us)(c:Nat)(l:List Lf)(x:Option Us)(n d:Nat)(R F T:Nat ->Int)(w:Ur)(hc:l.length<=c)(hcm:c<=9223372036854775807)(hl:l.length<=1048576)(hp:LBd l)(hn:n<=1048576)(h:QbY w a l)(p:Qe9 w a l)(h':QaT w x n R F T):
  Cl 13 #[Uo #[Uf a l.length c,Uf x n d]] w fun e w'=>∃v zs k,e=Ui (Ul #[v,Ud k])/\ psZ R F T n l=(zs,k)/\ Own w' w.heap.size v zs/\ Bl w w':=by
 obtain⟨W,z⟩:=zE (w.alloc (Uj #[Uf a l.length c,Uf x n d] 28));have y:Bl w W:=z▸zO _ _;have o:Bx2 W w.heap.size (Uf a l.length c) (Uf x n d):=z▸Bx2.made _ _ _ _;obtain⟨I,J⟩:=o.q2;have t:=hid o;have K:=hid (p.bw y);have N:=hid (h'.bw y);have u:=hid (Qb3 a c l x n d R F T W hl hp hn (h.bw y) (h'.bw y));have E:=hid y;clear h p h' y o;by_cases j:Qba R F T n l
 ·rw [Qaj j] at u;have i:=hid (fun w1(hb:Bl W w1)=>QkM a c l x n d R F T w1 hc hcm hn (K.bw hb) (N.bw hb) j);have U:=hid (fun h=>Qes j h);have O:=hid (fun h=>QfD j h);have M:Hid ((psB R F T n l).length<=1000000000):=hid (by have h1:=j.put_len;have p:=j.tree_len;unfold psB;rw [UB];omega);obtain⟨Z,s⟩:=zE (psB R F T n l);obtain⟨P,q⟩:=zE (psZ R F T n l);rw [s,q] at U O;rw [s] at i M;rw [q];clear s q j;go_enter func13,ntmps13;go_wp2_with fail;try rw [z]
  clear z;refine u.mono ?_;rintro e w1 ⟨rfl,m⟩;have Y:=t.bw m t.lt;obtain⟨C,D⟩:=Y.q2;have r:=hid (Qaa E m);have V:=hid (i w1 m);clear m Y u t I J i;go_wp2_with fail;refine V.mono ?_;rintro e w2 ⟨v2,rfl,A,G⟩;have L:=hid (Own.weak A r.size);have g:=hid (Qaa r G);obtain⟨S,cv,rfl,_⟩:=A.any;have Ha:=M.out;clear G A V C D;by_cases H:Z.length<=4000
  ·have b:=hid (U H);have X:decide ((4000:Int)<(Z.length:Int))=false:=oS;have B:decide (4000<Z.length)=false:=oS;go_wp2_with fail;go_ret2;exact⟨_,Z,0,rfl,b,L,g⟩
  ·have b:=hid (O H);have X:decide ((4000:Int)<(Z.length:Int))=true:=oS;have B:decide (4000<Z.length)=true:=oS;go_wp2_with fail;go_ret2;exact⟨_,[],2,rfl,b,QlW _ _ g.size,g.alloc g.size _⟩
 ·rw [Qag j] at u;have Q:=hid (QjJ j);obtain⟨P,q⟩:=zE (psZ R F T n l);rw [q] at Q;rw [q];clear q j;go_enter func13,ntmps13;go_wp2_with fail;try rw [z]
  clear z;refine u.mono ?_;rintro e w1 ⟨rfl,m⟩;have r:=hid (Qaa E m);clear m u t I J;go_wp2_with fail;go_ret2;exact⟨_,[],1,rfl,Q,QlW _ _ r.size,r.alloc r.size _⟩
end Go.Proofs.YtmlmkaiibamabaaGreatDoor
