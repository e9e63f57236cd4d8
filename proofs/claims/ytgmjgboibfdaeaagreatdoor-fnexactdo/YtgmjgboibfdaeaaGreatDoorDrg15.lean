import Derived.Test.YtgmjgboibfdaeaaGreatDoorDrg14
set_option linter.unusedVariables false
set_option linter.unusedSimpArgs false
set_option maxRecDepth 100000
set_option maxHeartbeats 40000000
namespace Go.Proofs.YtgmjgboibfdaeaaGreatDoor
open Go.ChangeShapes Go.WideShapes Go.ChangeAt Go.RowKit Go.Maps
variable {B c k n:Nat}{D S:Sx}{F R T:Nat ->Int}{J P l:List Lf}{L:Int ->List (Int×Int)}{fl:Bool}{p:List ByteArray}{rep:Int}{v:ByteArray}{w:World}{x:Lf}{x0:Nat×Nat}{y:Ky}{z:List Ky}
theorem QcP (R F T:Nat ->Int)(r f t:Int):∀n,QbG R F T r f t n=true ->∃k,k<n/\ R k=r/\ F k<=f/\ t<=T k
 | 0,h=>by simp [QbG] at h
 | n+1,h=>by
  simp only [QbG,Bool.or_eq_true,decide_eq_true_eq] at h;rcases h with h|h
  ·obtain⟨k,j,r⟩:=QcP R F T r f t n h;exact⟨k,by omega,r⟩
  ·exact⟨n,by omega,h⟩
theorem QdJ(h:StW R F T n l):∀x∈l,(0<=x.r/\ x.r<8)/\ (0<=x.q/\ x.q<=1000000000)/\ x.v.size<=200/\ x.p.length<=8:=fun x hx=>by
 obtain⟨i,hi,e⟩:=Qai.1 hx;have o:=h.1.1;obtain⟨k,t,y,z,g⟩:=QcP R F T _ _ _ n (h.2.2.1 i hi).2.1;have:=(o k t).1;simp only [QaJ,Bool.and_eq_true,decide_eq_true_eq] at this;have j:=(h.2.2.1 i hi).1;have m:=j.1.2.1;have u:=j.2.1;rw [e] at y z g m u;exact⟨by omega,by omega,u,m⟩
theorem Qge {S':Sx}(h:StW S.R S.F S.T S.n S.l)(h':StW S'.R S'.F S'.T S'.n S'.l):∀x∈(jnS S S').l,(0<=x.r/\ x.r<8)/\ (0<=x.q/\ x.q<=1000000000)/\ x.v.size<=200/\ x.p.length<=8:=fun x hx=>by
 rcases Qd1 x hx with j|j
 ·exact QdJ h x j
 ·exact QdJ h' x j.1
theorem Qm7{i:Nat}(h:¬i<l.length):(gL l i).p=[]:=by simp [gL,List.getD,h]
theorem QfT (l:List Rn):Qbn (fun i=>(gR l i).1) (fun i=>(gR l i).2.1) (fun i=>(gR l i).2.2) l.length=l:=by
 refine List.ext_getElem (by simp [Qbn]) (fun i h1 h2=> ?_);simp [Qbn,gR,List.getD,h2]
theorem Qlm {l:List Rn}(h:Qcz l):Qd8 (fun i=>(gR l i).1) (fun i=>(gR l i).2.1) (fun i=>(gR l i).2.2) l.length:=by
 intro i hi;have e:∀j,(hj:j<l.length) ->gR l j=l[j]:=fun j hj=>by simp [gR,List.getD,hj]
 refine⟨?_,fun h0=> ?_⟩
 ·have:=h.2 _ (List.getElem_mem hi);rw [<- e i hi] at this;exact Qcc this
 ·have:=List.pairwise_iff_getElem.1 h.1 (i - 1) i (by omega) hi (by omega);rw [<- e i hi,<- e (i - 1) (by omega)] at this;unfold QaC;exact decide_eq_true this
theorem Qlp (R F T:Nat ->Int)(r x:Int)(n:Nat):QbG R F T r x x n=true↔RI (Qbn R F T n) r x:=by
 rw [Qdv,<- Qe7];unfold inB In;simp
theorem Qip:QbH R F T n x↔RI (Qbn R F T n) x.r x.q:=Qlp R F T x.r x.q n
def mkS (l:List Lf)(u:List Rn):Sx:=⟨l,u.length,fun i=>(gR u i).1,fun i=>(gR u i).2.1,fun i=>(gR u i).2.2⟩
theorem QmG (S S':Sx):jnS S S'=mkS (jn S.R S.F S.T S.n S.l S'.R S'.F S'.T S'.n S'.l) (jnU S S'):=rfl
theorem QiA{u:List Rn}:QbH (mkS l u).R (mkS l u).F (mkS l u).T (mkS l u).n x↔RI u x.r x.q:=by
 rw [Qip];unfold mkS;simp only;rw [QfT]
def dtR (x:Lf):Rn:=(x.r,x.q,x.q)
theorem Qie{r x:Int}:RI (l.map dtR) r x↔∃y∈l,y.r=r/\ y.q=x:=by
 unfold RI InR dtR;constructor
 ·rintro⟨p,v,j,m,u⟩;obtain⟨y,k,rfl⟩:=List.mem_map.1 v;exact⟨y,k,j,by simp only at m u;omega⟩
 ·rintro⟨y,k,j,m⟩;exact⟨_,List.mem_map.2 ⟨y,k,rfl⟩,j,by simp only;omega,by simp only;omega⟩
noncomputable def goL (g:Lf ->Prop)(l:List Lf):List Lf:=l.filter fun x=>yes (g x)
noncomputable def stL (g:Lf ->Prop)(l:List Lf):List Lf:=l.filter fun x=> !yes (g x)
noncomputable def dlU (g:Lf ->Prop)(l P:List Lf):List Rn:=unF [] ((goL g l).map dtR++P.map dtR)
noncomputable def dlS (g:Lf ->Prop)(l P:List Lf):Sx:=mkS P (dlU g l P)
def nxU (S:Sx)(P:List Lf):List Rn:=unF (Qbn S.R S.F S.T S.n) (P.map dtR)
noncomputable def nxL (g:Lf ->Prop)(l P:List Lf):List Lf:=P.foldl (fun o y=>Qcq y o) (stL g l)
noncomputable def nxS (g:Lf ->Prop)(S:Sx)(P:List Lf):Sx:=mkS (nxL g S.l P) (nxU S P)
theorem QcN {g:Lf ->Prop}:x∈goL g l↔x∈l/\ g x:=by
 unfold goL;rw [List.mem_filter];exact and_congr_right fun _=>⟨fun h=>Classical.byContradiction fun hn=>(by rw [Qaf hn] at h;cases h),fun h=>Qah h⟩
theorem Qg1 {g:Lf ->Prop}:x∈stL g l↔x∈l/\¬g x:=by
 unfold stL;rw [List.mem_filter];exact and_congr_right fun _=>⟨fun h hn=>(by rw [Qah hn] at h;cases h),fun h=>(by rw [Qaf h];rfl)⟩
structure PtO (S:Sx)(P:List Lf):Prop where
 one:P.length<=1
 ok:∀y∈P,Qc1 y
 dot:∀y∈P,Rok (dtR y)
 new:∀y∈P,¬QbH S.R S.F S.T S.n y
theorem PtO.nil (S:Sx):PtO S []:=⟨by simp,fun y h=>(by cases h),fun y h=>(by cases h),fun y h=>(by cases h)⟩
theorem Qci(h:QaT S.R S.F S.T S.n S.l):∀z∈S.l,QbH S.R S.F S.T S.n z:=fun z hz=>by
 obtain⟨j,k,e⟩:=Qai.1 hz;have:=(h.2.2.1 j k).2.1;rw [e] at this;exact this
theorem Qcp(h:Qd8 R F T n)(hx:QbH R F T n x):Rok (dtR x):=by
 obtain⟨k,j,m,q,r⟩:=QcP R F T _ _ _ n hx;have:=(h k j).1;simp only [QaJ,Bool.and_eq_true,decide_eq_true_eq] at this;unfold Rok dtR;simp only;omega
theorem Qbu(h:QaT S.R S.F S.T S.n S.l):Qd8 S.R S.F S.T S.n:=(Qax.1 h.1).1
section
variable {g : Lf -> Prop} {S : Sx} {P : List Lf}
theorem Qkq (h:QaT S.R S.F S.T S.n S.l)(hp:PtO S P):∀p∈(goL g S.l).map dtR++P.map dtR,Rok p:=fun p j=>by
 rcases List.mem_append.1 j with j|j
 ·obtain⟨x,k,rfl⟩:=List.mem_map.1 j;exact Qcp (Qbu h) (Qci h x (QcN.1 k).1)
 ·obtain⟨x,k,rfl⟩:=List.mem_map.1 j;exact hp.dot x k
theorem Qkt:Qcz []:=⟨List.Pairwise.nil,fun p h=>by cases h⟩
theorem QdX (h:QaT S.R S.F S.T S.n S.l)(hp:PtO S P):Qcz (dlU g S.l P)/\∀r x,RI (dlU g S.l P) r x↔(∃y,(y∈S.l/\ g y)/\ y.r=r/\ y.q=x) \/∃y∈P,y.r=r/\ y.q=x:=by
 obtain⟨k,m⟩:=Qdb ((goL g S.l).map dtR++P.map dtR) [] Qkt (Qkq h hp);refine⟨k,fun r x=>(m r x).trans ?_⟩;rw [Qbe,Qie,Qie];constructor
 ·rintro(e|⟨y,j,e⟩|e)
  ·exact absurd e QhG
  ·exact .inl ⟨y,QcN.1 j,e⟩
  ·exact .inr e
 ·rintro(⟨y,j,e⟩|e)
  ·exact .inr (.inl ⟨y,QcN.2 j,e⟩)
  ·exact .inr (.inr e)
theorem Qle (h:QaT S.R S.F S.T S.n S.l)(hp:PtO S P):(dlU g S.l P).length<=1001:=by
 have j:=QcX ((goL g S.l).map dtR++P.map dtR) [];have k:(goL g S.l).length<=S.l.length:=List.length_filter_le _ _;have m:=h.2.1;have q:=hp.one;simp at j;show (unF [] ((goL g S.l).map dtR++P.map dtR)).length<=1001;omega
theorem QmX (hp:PtO S P){R F T:Nat ->Int}{n:Nat}(hh:∀y∈P,QbH R F T n y):QbT R F T n P P.length/\ Dis P P.length:=by
 have m:=hp.one;refine⟨fun i hi=> ?_,fun i hi j hj=>by omega⟩;have k:gL P i∈P:=Qai.2 ⟨i,hi,rfl⟩;exact⟨hp.ok _ k,hh _ k,fun h0=>by omega⟩
theorem Qma (h:QaT S.R S.F S.T S.n S.l)(hp:PtO S P):StW (dlS g S.l P).R (dlS g S.l P).F (dlS g S.l P).T (dlS g S.l P).n (dlS g S.l P).l:=by
 have k:=(QdX (g:=g) h hp).1;have m:=Qle (g:=g) h hp;have j:=QmX hp (R:=(dlS g S.l P).R) (F:=(dlS g S.l P).F) (T:=(dlS g S.l P).T) (n:=(dlS g S.l P).n) (fun y hy=>QiA.2 (((QdX h hp).2 _ _).2 (.inr ⟨y,hy,rfl,rfl⟩)));exact⟨⟨Qlm k,by show (dlU g S.l P).length<=2000;omega⟩,by show P.length<=1000;have:=hp.one;omega,j.1,j.2⟩
theorem Qen (h:QaT S.R S.F S.T S.n S.l):(stL g S.l).Pairwise (fun a b=>QaM a b<0):=by
 refine List.Pairwise.filter _ (List.pairwise_iff_getElem.2 fun i j hi hj hij=> ?_);have:=h.2.2.1.lt j hij hj;have k:gL S.l i=S.l[i]:=by simp [gL,List.getD,hi]
 have m:gL S.l j=S.l[j]:=by simp [gL,List.getD,hj]
 rw [k,m] at this;exact this
theorem QeD {l:List Lf}{z:Lf}:∀{P:List Lf} {o:List Lf},z∈P.foldl (fun o y=>Qcq y o) o↔z∈o \/z∈P
 | [],o=>by simp
 | y::P,o=>by
  rw [List.foldl_cons,QeD (l:=l) (P:=P),Qdi,List.mem_cons];constructor
  ·rintro((e|e)|e)
   ·exact .inr (.inl e)
   ·exact .inl e
   ·exact .inr (.inr e)
  ·rintro(e|e|e)
   ·exact .inl (.inr e)
   ·exact .inl (.inl e)
   ·exact .inr e
theorem Qh5 (h:QaT S.R S.F S.T S.n S.l)(hp:PtO S P):(nxL g S.l P).Pairwise (fun a b=>QaM a b<0):=by
 unfold nxL;match P,hp with
 | [],_=>exact Qen h
 | [y],hp=>
  refine Qcr (Qen h) (fun z hz e=> ?_);exact hp.new y (List.mem_singleton.2 rfl) ((QgK e).1 (Qci h z (Qg1.1 hz).1))
 | _::_::_,hp=>exact absurd hp.one (by simp)
theorem Qn3 (h:QaT S.R S.F S.T S.n S.l)(hp:PtO S P):(jnS S (dlS g S.l P)).l=nxL g S.l P:=by
 refine QgX (Qd2 h.w (Qma h hp)) (Qh5 h hp) (fun z=> ?_);show z∈jnL S.l P _ _↔_;rw [Qd0];unfold nxL;rw [QeD (l:=S.l),Qg1];have v:QbH (dlS g S.l P).R (dlS g S.l P).F (dlS g S.l P).T (dlS g S.l P).n z↔_:=QiA.trans ((QdX (g:=g) h hp).2 z.r z.q);rw [v];constructor
 ·rintro(⟨j,k⟩|⟨j,_⟩)
  ·rcases k with k|k
   ·exact .inr k
   ·exact .inl ⟨j,fun m=>k (.inl ⟨z,⟨j,m⟩,rfl,rfl⟩)⟩
  ·exact .inr j
 ·rintro(⟨j,k⟩|j)
  ·refine .inl ⟨j,.inr ?_⟩;rintro(⟨y,⟨u,m⟩,e⟩|⟨y,u,e⟩)
   ·exact k ((QfQ h.2.2.2 u j e) ▸ m)
   ·refine hp.new y u ?_;have:=Qci h z j;unfold QbH at this ⊢;rw [e.1,e.2];exact this
  ·exact .inr ⟨j,hp.new z j⟩
theorem QmV (h:QaT S.R S.F S.T S.n S.l)(hp:PtO S P):Qcz (nxU S P)/\∀r x,RI (nxU S P) r x↔RI (Qbn S.R S.F S.T S.n) r x \/∃y∈P,y.r=r/\ y.q=x:=by
 obtain⟨j,k⟩:=Qdb (P.map dtR) (Qbn S.R S.F S.T S.n) (Qbp S.n (Qbu h)) (fun p hq=>by
  obtain⟨x,m,rfl⟩:=List.mem_map.1 hq;exact hp.dot x m)
 refine⟨j,fun r x=>(k r x).trans ?_⟩;rw [Qie]
theorem Qn5 (h:QaT S.R S.F S.T S.n S.l)(hp:PtO S P):jnU S (dlS g S.l P)=nxU S P:=by
 have j:=QdX (g:=g) h hp;have k:jnU S (dlS g S.l P)=unF (Qbn S.R S.F S.T S.n) (dlU g S.l P):=by
  unfold jnU unL dlS mkS;simp only;rw [QfT]
 rw [k];obtain⟨u,v⟩:=Qdb (dlU g S.l P) (Qbn S.R S.F S.T S.n) (Qbp S.n (Qbu h)) j.1.2;obtain⟨z,t⟩:=QmV h hp;refine uniq u z (fun r x=> ?_);rw [v,t,j.2];constructor
 ·rintro(e|⟨y,⟨o,_⟩,m,q⟩|e)
  ·exact .inl e
  ·have:=Qip.1 (Qci h y o);rw [m,q] at this;exact .inl this
  ·exact .inr e
 ·rintro(e|e)
  ·exact .inl e
  ·exact .inr (.inr e)
theorem Qn4 (h:QaT S.R S.F S.T S.n S.l)(hp:PtO S P):jnS S (dlS g S.l P)=nxS g S P:=by
 rw [QmG,Qn5 h hp];have:=Qn3 (g:=g) h hp;unfold nxS;rw [<- this];rfl
end
theorem QdN{k:Int}(h0:0<p.length):Qac p k <+:Way x↔(k=3/\ p <+:x.p/\ p.length<x.p.length) \/(x.p=p/\ k=kd x.fl):=by
 unfold Way;constructor
 ·intro h;have v:=h.length_le;rw [Qav,Qav] at v;by_cases e:p.length=x.p.length
  ·have:=h.eq_of_length (by rw [Qav,Qav];exact e);obtain⟨r,u⟩:=QdM this h0;exact .inr ⟨r.symm,u⟩
  ·have q:∀i,i<p.length ->(gS p i,if i+1<p.length then 3 else k)=(gS x.p i,if i+1<x.p.length then(3:Int) else kd x.fl):=fun i hi=>by
    have m:=QaO (k:=k) hi;have j:=QaO (p:=x.p) (k:=kd x.fl) (i:=i) (by omega);obtain⟨t,y⟩:=h;rw [<- y,List.getElem?_append_left (by rw [Qav];exact hi),m] at j;injection j
   refine .inl ⟨?_,?_,by omega⟩
   ·have:=(Prod.mk.inj (q (p.length - 1) (by omega))).2;rw [if_neg (by omega),if_pos (by omega)] at this;exact this
   ·rw [List.prefix_iff_eq_take];refine Qil (by simp;omega) fun i hi=> ?_;have:=(Prod.mk.inj (q i hi)).1;rw [this];simp [gS,List.getD,List.getElem?_take,hi]
 ·rintro(⟨rfl,m,j⟩|⟨m,j⟩)
  ·rw [<- Qhq (k:=kd x.fl) m j];exact List.take_prefix _ _
  ·rw [m,j];exact List.prefix_refl _
def gnS (p:List ByteArray)(fl:Bool)(x:Lf):Prop:=x.p=p/\ x.fl=fl
def gnR (p:List ByteArray)(x:Lf):Prop:=p <+:x.p
theorem Qg3(h0:0<p.length):Qac p (kd fl) <+:Way x↔gnS p fl x:=by
 rw [QdN h0];unfold gnS;constructor
 ·rintro(⟨h,_⟩|⟨j,k⟩)
  ·rcases QdQ fl with e|e<;>rw [e] at h<;>cases h
  ·exact⟨j,(Qiw k).symm⟩
 ·rintro⟨j,k⟩;exact .inr ⟨j,by rw [k]⟩
theorem QlX(h0:0<p.length):(Qac p 1 <+:Way x \/Qac p 2 <+:Way x \/Qac p 3 <+:Way x)↔gnR p x:=by
 rw [QdN h0,QdN h0,QdN h0];unfold gnR;constructor
 ·rintro((⟨h,_⟩|⟨j,_⟩)|(⟨h,_⟩|⟨j,_⟩)|(⟨_,h,_⟩|⟨j,_⟩))
  ·cases h
  ·rw [j];exact List.prefix_refl _
  ·cases h
  ·rw [j];exact List.prefix_refl _
  ·exact h
  ·rw [j];exact List.prefix_refl _
 ·intro h;by_cases e:p.length<x.p.length
  ·exact .inr (.inr (.inl ⟨rfl,h,e⟩))
  ·have:p=x.p:=h.eq_of_length (by have:=h.length_le;omega);rcases QdQ x.fl with k|k
   ·exact .inl (.inr ⟨this.symm,k.symm⟩)
   ·exact .inr (.inl (.inr ⟨this.symm,k.symm⟩))
theorem Qmw {g:Lf ->Prop}{ds:List Dt}(h:QaT S.R S.F S.T S.n S.l)(hp:PtO S P)(hs:∀r,Srt (L r))(hi:∀r x,In (L r) x↔(r,x)∈ds)(hd:∀d:Dt,d∈ds↔(∃y,(y∈S.l/\ g y)/\ y.r=d.1/\ y.q=d.2) \/∃y∈P,y.r=d.1/\ y.q=d.2):QdA L 8=dlU g S.l P:=by
 obtain⟨u,v,_⟩:=Qgo hs 8 zL;obtain⟨z,t⟩:=QdX (g:=g) h hp;refine uniq u z (fun r x=> ?_);rw [v,t,hi,hd (r,x)];constructor
 ·intro e;exact e.2.2
 ·intro e;refine⟨?_,?_,e⟩
  ·rcases e with ⟨y,⟨k,_⟩,j,m⟩|⟨y,k,j,m⟩
   ·have:=Qcp (Qbu h) (Qci h y k);unfold Rok dtR at this;simp only at this j;omega
   ·have:=hp.dot y k;unfold Rok dtR at this;simp only at this j;omega
  ·rcases e with ⟨y,⟨k,_⟩,j,m⟩|⟨y,k,j,m⟩
   ·have:=Qcp (Qbu h) (Qci h y k);unfold Rok dtR at this;simp only at this j;omega
   ·have:=hp.dot y k;unfold Rok dtR at this;simp only at this j;omega
theorem QlR {l l':List (Int×Int)}(h:Srt l)(h':Srt l')(he:∀x,In l x↔In l' x):l=l':=by
 have:=uniq (Qg2 h (Int.le_refl 0) (by omega)) (Qg2 h' (Int.le_refl 0) (by omega)) (fun r x=>by rw [Qja,Qja,he]);unfold tag at this;have m:∀(a b:List (Int×Int)),a.map (fun p=>((0:Int),p.1,p.2))=b.map (fun p=>((0:Int),p.1,p.2)) ->a=b:=by
  intro a;induction a with
  | nil=>intro b h;cases b with
   | nil=>rfl
   | cons=>cases h
  | cons x a ih=>
   intro b h;cases b with
   | nil=>cases h
   | cons y b=>
    simp only [List.map_cons] at h;injection h with h1 h2;rw [ih b h2];have j:=congrArg (fun z=>z.2.1) h1;have k:=congrArg (fun z=>z.2.2) h1;exact congrArg (· ::b) (Prod.ext j k)
 exact m _ _ this
theorem Qn7 {g:Lf ->Prop}{ds:List Dt}(h:QaT S.R S.F S.T S.n S.l)(hp:PtO S P)(hs:∀r,Srt (L r))(hi:∀r x,In (L r) x↔(r,x)∈ds)(hd:∀d:Dt,d∈ds↔(∃y,(y∈S.l/\ g y)/\ y.r=d.1/\ y.q=d.2) \/∃y∈P,y.r=d.1/\ y.q=d.2):L=Lk (dlS g S.l P).R (dlS g S.l P).F (dlS g S.l P).T (dlS g S.l P).n:=by
 funext r;refine QlR (hs r) (Qcg _ (Qma h hp).1.1 r).1 (fun x=> ?_);rw [hi,hd (r,x),<- Qdv];have:Qbn (dlS g S.l P).R (dlS g S.l P).F (dlS g S.l P).T (dlS g S.l P).n=dlU g S.l P:=QfT _;rw [this,(QdX (g:=g) h hp).2]
theorem Qmz (r q:Int)(w:World):
  Cl 117 #[.agg #[.int .i64 r,.int .i64 q]] w (Rt w (.bool (QaJ r q q))):=by
 have j:Bl w (w.alloc (.cells #[.int .i64 r,.int .i64 q] 104)):=zO _ _;have m:=hid j;clear j;go_enter Tryz.func117,Tryz.ntmps117;go_wp2_with fail;refine(QcB r q q _).mono ?_;rintro e w1 ⟨rfl,k⟩;have u:=hid (Qaa m k);clear k;go_wp2_with fail;go_ret;exact⟨rfl,u⟩
def QbP (R F T:Nat ->Int)(rep:Int)(n:Nat):Bool:=Qdh R F T n && QaJ rep (QaW R T rep n+1) (QaW R T rep n+1)
theorem QeQ(h:Qdh R F T n=true)(rep:Int):0<=QaW R T rep n/\ QaW R T rep n<=1000000000:=by
 have:=Qg7 n (Qax.1 h).1;rw [this.2.2.1 rep];exact this.2.2.2 rep
theorem Qkd(hT:I64 T)(rep:Int)(k:Nat): -9223372036854775808<=QaW R T rep k/\ QaW R T rep k<=9223372036854775807:=by
 induction k with
 | zero=>simp [QaW]
 | succ k ih=>
  simp only [QaW];split
  ·exact hT k
  ·exact ih
theorem QlV(h:R k=rep)(h2:QaW R T rep k<T k):QaW R T rep (k+1)=T k:=by
 show (if R k=rep/\ QaW R T rep k<T k then T k else QaW R T rep k)=_;rw [if_pos ⟨h,h2⟩]
theorem Qhl(h:¬(R k=rep/\ QaW R T rep k<T k)):QaW R T rep (k+1)=QaW R T rep k:=by
 show (if R k=rep/\ QaW R T rep k<T k then T k else QaW R T rep k)=_;rw [if_neg h]
theorem vI {a b:Int}(h:a=b):Value.int .i64 a=.int .i64 b:=by rw [h]
theorem QjX (a:Option Addr)(n c:Nat)(R F T:Nat ->Int)(rep:Int)(w:World)(hn:n<=1048576)(h:Qa7 w a n R F T)(hT:I64 T):
  Cl 93 #[.agg #[.slice a n c],.int .i64 rep] w fun e w'=>
   (QbP R F T rep n=true ->e=.returned (.tuple #[.agg #[.int .i64 rep,.int .i64 (QaW R T rep n+1)],.bool true]))/\ (QbP R F T rep n=false ->e=.returned (.tuple #[.agg #[.int .i64 0,.int .i64 0],.bool false]))/\ Bl w w':=by
 obtain⟨q,g⟩:=zE ((w.alloc (.cells #[.slice a n c] 38)).alloc (.cells #[.int .i64 0,.int .i64 0] 104));have bW:Bl w q:=by rw [<- g];exact Qae _ _ _
 have X:q.heap.size=w.heap.size+2:=by rw [<- g];simp
 have J:q.cell? ⟨w.heap.size,0,none⟩=some (.slice a n c):=by rw [<- g];simp
 have x0:q.cell? ⟨w.heap.size+1,0,none⟩=some (.int .i64 0):=by rw [<- g];simp
 have N:q.cell? ⟨w.heap.size+1,1,none⟩=some (.int .i64 0):=by rw [<- g];simp
 have H:q.frozen? ⟨w.heap.size+1,0,none⟩=false:=by rw [<- g];simp
 have I:q.frozen? ⟨w.heap.size+1,1,none⟩=false:=by rw [<- g];simp
 have Q:=h.bw bW;go_enter Tryz.func93,Tryz.ntmps93;go_wp2_with fail;try rw [g]
 go_loop [6,7] (fun t i=>∃k:Nat,k<=n/\ i=.int .i64 k/\ t=.int .i64 (QaW R T rep k)) (fun _ i=>n - (intOf i).toNat);case atStart=>exact⟨0,Nat.zero_le _,rfl,rfl⟩
 case round=>
  obtain⟨k,hk,rfl,rfl⟩:=hrel;have Hf:=Qkd (R:=R) hT rep k;by_cases Hb:k<n
  ·rcases Q with Q|⟨b,Hl,rfl,hb,hc⟩
   ·omega
   have c0:=(hc k Hb).1;have c2:=(hc k Hb).2.2;clear hc h;by_cases E:R k=rep
   ·have t1:(R k==rep)=true:=by simp;exact E
    by_cases e2:QaW R T rep k<T k
    ·have C:=hid (QlV E e2);have H1:=hid E;clear E;generalize QaW R T rep k=tk at*;go_wp2_with fail;go_round;case rel=>exact⟨k+1,Hb,by go_num,vI C.symm⟩
     case measure=>simp [intOf];omega
    ·have C:=hid (Qhl (R:=R) (T:=T) (rep:=rep) (k:=k) (fun hh=>e2 hh.2));clear E;generalize QaW R T rep k=tk at*;go_wp2_with fail;go_round;case rel=>exact⟨k+1,Hb,by go_num,vI C.symm⟩
     case measure=>simp [intOf];omega
   ·have t1:(R k==rep)=false:=by simp;exact E
    have C:=hid (Qhl (R:=R) (T:=T) (rep:=rep) (k:=k) (fun hh=>E hh.1));clear E;generalize QaW R T rep k=tk at*;go_wp2_with fail;go_round;case rel=>exact⟨k+1,Hb,by go_num,vI C.symm⟩
    case measure=>simp [intOf];omega
  ·obtain rfl:k=n:=by omega
   clear h hk;cases hcx:Qdh R F T k with
   | false=>
    have D:Hid (QbP R F T rep k=false):=by unfold Hid QbP;rw [hcx];rfl
    obtain⟨j,u⟩:=zE (q.alloc (.cells #[.int .i64 rep,.int .i64 (wrap64 (QaW R T rep k+1))] 104));have r:Bl q j:=by rw [<- u];exact zO _ _
    have z3:j.heap.size=w.heap.size+3:=by rw [<- u];simp;omega
    have s:j.cell? ⟨w.heap.size+2,0,none⟩=some (.int .i64 rep):=by rw [<- u,<- X];simp
    have A:j.cell? ⟨w.heap.size+2,1,none⟩=some (.int .i64 (wrap64 (QaW R T rep k+1))):=by rw [<- u,<- X];simp
    have o:=bW.trans (r.mono (by omega));have V:=(r.cell (p:=⟨w.heap.size+1,0,none⟩) (show w.heap.size+1<q.heap.size by omega)).trans x0;have Y:=(r.cell (p:=⟨w.heap.size+1,1,none⟩) (show w.heap.size+1<q.heap.size by omega)).trans N;have M:=(r.frozen (p:=⟨w.heap.size+1,0,none⟩) (show w.heap.size+1<q.heap.size by omega)).trans H;have O:=(r.frozen (p:=⟨w.heap.size+1,1,none⟩) (show w.heap.size+1<q.heap.size by omega)).trans I;have W:=(r.cell (p:=⟨w.heap.size,0,none⟩) (show w.heap.size<q.heap.size by omega)).trans J;have U:=Q.bw r;clear Q r g;go_wp2_with fail;try rw [u]
    clear u J W x0 N H I;refine(Qf6 a k c R F T _ hn U).mono ?_;rintro e z ⟨rfl,m⟩;rw [hcx];have z4:=m.size;have Z:=(m.cell (p:=⟨w.heap.size+1,0,none⟩) (show w.heap.size+1<j.heap.size by omega)).trans V;have G:=(m.cell (p:=⟨w.heap.size+1,1,none⟩) (show w.heap.size+1<j.heap.size by omega)).trans Y;have K:=(m.frozen (p:=⟨w.heap.size+1,0,none⟩) (show w.heap.size+1<j.heap.size by omega)).trans M;have L:=(m.frozen (p:=⟨w.heap.size+1,1,none⟩) (show w.heap.size+1<j.heap.size by omega)).trans O;have P:=(m.cell (p:=⟨w.heap.size+2,0,none⟩) (show w.heap.size+2<j.heap.size by omega)).trans s;have S:=(m.cell (p:=⟨w.heap.size+2,1,none⟩) (show w.heap.size+2<j.heap.size by omega)).trans A;have B:=hid (Qaa o m);clear V Y M O s A U m o hcx;go_wp2_with fail;refine zF (v:=.tuple #[.agg #[.int .i64 0,.int .i64 0],.bool false]) (by simp [results,Tryz.results93,go_sem,Z,G]) ⟨(fun h=>by have:=D.symm.trans h;cases this),(fun _=>rfl),?_⟩;exact(B.setCell (by simp) _).setCell (by simp) _
   | true=>
    have Hk:=QeQ hcx rep;cases hdo:QaJ rep (QaW R T rep k+1) (QaW R T rep k+1) with
    | false=>
     have D:Hid (QbP R F T rep k=false):=by unfold Hid QbP;rw [hcx,hdo];rfl
     clear Hf;generalize Ha:QaW R T rep k=tk at*;have HT:=hid Ha;clear Ha;obtain⟨j,u⟩:=zE (q.alloc (.cells #[.int .i64 rep,.int .i64 (tk+1)] 104));have r:Bl q j:=by rw [<- u];exact zO _ _
     have z3:j.heap.size=w.heap.size+3:=by rw [<- u];simp;omega
     have s:j.cell? ⟨w.heap.size+2,0,none⟩=some (.int .i64 rep):=by rw [<- u,<- X];simp
     have A:j.cell? ⟨w.heap.size+2,1,none⟩=some (.int .i64 (tk+1)):=by rw [<- u,<- X];simp
     have o:=bW.trans (r.mono (by omega));have V:=(r.cell (p:=⟨w.heap.size+1,0,none⟩) (show w.heap.size+1<q.heap.size by omega)).trans x0;have Y:=(r.cell (p:=⟨w.heap.size+1,1,none⟩) (show w.heap.size+1<q.heap.size by omega)).trans N;have M:=(r.frozen (p:=⟨w.heap.size+1,0,none⟩) (show w.heap.size+1<q.heap.size by omega)).trans H;have O:=(r.frozen (p:=⟨w.heap.size+1,1,none⟩) (show w.heap.size+1<q.heap.size by omega)).trans I;have W:=(r.cell (p:=⟨w.heap.size,0,none⟩) (show w.heap.size<q.heap.size by omega)).trans J;have U:=Q.bw r;clear Q r g;go_wp2_with fail;try rw [u]
     clear u J W x0 N H I;refine(Qf6 a k c R F T _ hn U).mono ?_;rintro e z ⟨rfl,m⟩;rw [hcx];have z4:=m.size;have Z:=(m.cell (p:=⟨w.heap.size+1,0,none⟩) (show w.heap.size+1<j.heap.size by omega)).trans V;have G:=(m.cell (p:=⟨w.heap.size+1,1,none⟩) (show w.heap.size+1<j.heap.size by omega)).trans Y;have K:=(m.frozen (p:=⟨w.heap.size+1,0,none⟩) (show w.heap.size+1<j.heap.size by omega)).trans M;have L:=(m.frozen (p:=⟨w.heap.size+1,1,none⟩) (show w.heap.size+1<j.heap.size by omega)).trans O;have P:=(m.cell (p:=⟨w.heap.size+2,0,none⟩) (show w.heap.size+2<j.heap.size by omega)).trans s;have S:=(m.cell (p:=⟨w.heap.size+2,1,none⟩) (show w.heap.size+2<j.heap.size by omega)).trans A;have B:=hid (Qaa o m);clear V Y M O s A U m o hcx;go_wp2_with fail;refine(Qmz rep (tk+1) _).mono ?_;rintro e w5 ⟨rfl,y⟩;rw [hdo];have Hd:=(y.cell (p:=⟨w.heap.size+1,0,none⟩) (show w.heap.size+1<z.heap.size by omega)).trans Z;have He:=(y.cell (p:=⟨w.heap.size+1,1,none⟩) (show w.heap.size+1<z.heap.size by omega)).trans G;have Hi:=(y.frozen (p:=⟨w.heap.size+1,0,none⟩) (show w.heap.size+1<z.heap.size by omega)).trans K;have Hj:=(y.frozen (p:=⟨w.heap.size+1,1,none⟩) (show w.heap.size+1<z.heap.size by omega)).trans L;have Hc:=hid (Qaa B y);clear Z G K L y hdo P S;go_wp2_with fail;refine zF (v:=.tuple #[.agg #[.int .i64 0,.int .i64 0],.bool false]) (by simp [results,Tryz.results93,go_sem,Hd,He]) ⟨(fun h=>by have:=D.symm.trans h;cases this),(fun _=>rfl),?_⟩;exact(Hc.setCell (by simp) _).setCell (by simp) _
    | true=>
     have D:Hid (QbP R F T rep k=true):=by unfold Hid QbP;rw [hcx,hdo];rfl
     clear Hf;generalize Ha:QaW R T rep k=tk at*;have HT:=hid Ha;clear Ha;obtain⟨j,u⟩:=zE (q.alloc (.cells #[.int .i64 rep,.int .i64 (tk+1)] 104));have r:Bl q j:=by rw [<- u];exact zO _ _
     have z3:j.heap.size=w.heap.size+3:=by rw [<- u];simp;omega
     have s:j.cell? ⟨w.heap.size+2,0,none⟩=some (.int .i64 rep):=by rw [<- u,<- X];simp
     have A:j.cell? ⟨w.heap.size+2,1,none⟩=some (.int .i64 (tk+1)):=by rw [<- u,<- X];simp
     have o:=bW.trans (r.mono (by omega));have V:=(r.cell (p:=⟨w.heap.size+1,0,none⟩) (show w.heap.size+1<q.heap.size by omega)).trans x0;have Y:=(r.cell (p:=⟨w.heap.size+1,1,none⟩) (show w.heap.size+1<q.heap.size by omega)).trans N;have M:=(r.frozen (p:=⟨w.heap.size+1,0,none⟩) (show w.heap.size+1<q.heap.size by omega)).trans H;have O:=(r.frozen (p:=⟨w.heap.size+1,1,none⟩) (show w.heap.size+1<q.heap.size by omega)).trans I;have W:=(r.cell (p:=⟨w.heap.size,0,none⟩) (show w.heap.size<q.heap.size by omega)).trans J;have U:=Q.bw r;clear Q r g;go_wp2_with fail;try rw [u]
     clear u J W x0 N H I;refine(Qf6 a k c R F T _ hn U).mono ?_;rintro e z ⟨rfl,m⟩;rw [hcx];have z4:=m.size;have Z:=(m.cell (p:=⟨w.heap.size+1,0,none⟩) (show w.heap.size+1<j.heap.size by omega)).trans V;have G:=(m.cell (p:=⟨w.heap.size+1,1,none⟩) (show w.heap.size+1<j.heap.size by omega)).trans Y;have K:=(m.frozen (p:=⟨w.heap.size+1,0,none⟩) (show w.heap.size+1<j.heap.size by omega)).trans M;have L:=(m.frozen (p:=⟨w.heap.size+1,1,none⟩) (show w.heap.size+1<j.heap.size by omega)).trans O;have P:=(m.cell (p:=⟨w.heap.size+2,0,none⟩) (show w.heap.size+2<j.heap.size by omega)).trans s;have S:=(m.cell (p:=⟨w.heap.size+2,1,none⟩) (show w.heap.size+2<j.heap.size by omega)).trans A;have B:=hid (Qaa o m);clear V Y M O s A U m o hcx;go_wp2_with fail;refine(Qmz rep (tk+1) _).mono ?_;rintro e w5 ⟨rfl,y⟩;rw [hdo];have Hd:=(y.cell (p:=⟨w.heap.size+1,0,none⟩) (show w.heap.size+1<z.heap.size by omega)).trans Z;have He:=(y.cell (p:=⟨w.heap.size+1,1,none⟩) (show w.heap.size+1<z.heap.size by omega)).trans G;have Hi:=(y.frozen (p:=⟨w.heap.size+1,0,none⟩) (show w.heap.size+1<z.heap.size by omega)).trans K;have Hj:=(y.frozen (p:=⟨w.heap.size+1,1,none⟩) (show w.heap.size+1<z.heap.size by omega)).trans L;have Hg:=(y.cell (p:=⟨w.heap.size+2,0,none⟩) (show w.heap.size+2<z.heap.size by omega)).trans P;have Hh:=(y.cell (p:=⟨w.heap.size+2,1,none⟩) (show w.heap.size+2<z.heap.size by omega)).trans S;have Hc:=hid (Qaa B y);clear Z G K L y hdo P S;go_wp2_with fail;refine zF (v:=.tuple #[.agg #[.int .i64 rep,.int .i64 (tk+1)],.bool true]) (by simp [results,Tryz.results93,go_sem,Hd,He]) ⟨(fun _=>by rw [HT.out]),(fun h=>by have:=D.symm.trans h;cases this),?_⟩;exact(Hc.setCell (by simp) _).setCell (by simp) _
noncomputable def chF (S D:Sx):Bool:=jnF S D && (decide (D.l.length<=1000) && decide (D.n<=1000))
noncomputable def chX (S D:Sx):Sx:=if chF S D then jnS S D else Sx.mt
noncomputable def chY (S D:Sx):Sx:=if chF S D then D else Sx.mt
noncomputable def chC (S D:Sx):Int:=if chF S D then 0 else 4
theorem Qn2(h:chF S D=true):chX S D=jnS S D/\ chY S D=D/\ chC S D=0:=by unfold chX chY chC;rw [if_pos h,if_pos h,if_pos h];exact⟨rfl,rfl,rfl⟩
theorem Qmt(h:chF S D=false):chX S D=Sx.mt/\ chY S D=Sx.mt/\ chC S D=4:=by unfold chX chY chC;rw [if_neg (by rw [h];simp),if_neg (by rw [h];simp),if_neg (by rw [h];simp)];exact⟨rfl,rfl,rfl⟩
noncomputable def ocC (S:Sx)(p:List ByteArray)(v:ByteArray):Int:=if stB S=true then(if yes (QaH p/\ v.size<=200)=true then 0 else 2) else 1
theorem QjR(h:stB S=false):ocC S p v=1:=by unfold ocC;rw [if_neg (by rw [h];simp)]
theorem Qh6(h:stB S=true)(hn:¬(QaH p/\ v.size<=200)):ocC S p v=2:=by unfold ocC;rw [if_pos h,if_neg (by rw [Qaf hn];simp)]
theorem QlG(h:stB S=true)(hn:QaH p/\ v.size<=200):ocC S p v=0:=by unfold ocC;rw [if_pos h,if_pos (Qah hn)]
theorem Qf0(h:ocC S p v=0):stB S=true/\ QaH p/\ v.size<=200:=by
 cases hb:stB S with
 | false=>rw [QjR hb] at h;cases h
 | true=>
  by_cases j:QaH p/\ v.size<=200
  ·exact⟨rfl,j⟩
  ·rw [Qh6 hb j] at h;cases h
noncomputable def rmD (S:Sx)(p:List ByteArray):Sx:=dlS (gnR p) S.l []
noncomputable def rmX (S:Sx)(p:List ByteArray):Sx:=if ocC S p ⟨#[]⟩=0 then chX S (rmD S p) else Sx.mt
noncomputable def rmY (S:Sx)(p:List ByteArray):Sx:=if ocC S p ⟨#[]⟩=0 then chY S (rmD S p) else Sx.mt
noncomputable def rmC (S:Sx)(p:List ByteArray):Int:=if ocC S p ⟨#[]⟩=0 then chC S (rmD S p) else ocC S p ⟨#[]⟩
theorem QnO(h:ocC S p ⟨#[]⟩=0):rmX S p=chX S (rmD S p)/\ rmY S p=chY S (rmD S p)/\ rmC S p=chC S (rmD S p):=by unfold rmX rmY rmC;rw [if_pos h,if_pos h,if_pos h];exact⟨rfl,rfl,rfl⟩
theorem Qnz(h:ocC S p ⟨#[]⟩≠0):rmX S p=Sx.mt/\ rmY S p=Sx.mt/\ rmC S p=ocC S p ⟨#[]⟩:=by unfold rmX rmY rmC;rw [if_neg h,if_neg h,if_neg h];exact⟨rfl,rfl,rfl⟩
theorem Qdj(h:QaH p):∀i,(gS p i).size<=1048576:=fun i=>by
 by_cases hi:i<p.length
 ·have:=(h.2.2 i hi).2;omega
 ·rw [Qdx (by omega)];simp
theorem Qjb {R T:Nat ->Int}{rep:Int}:∀{n k:Nat},k<n ->R k=rep ->T k<=QaW R T rep n
 | 0,k,h,_=>by omega
 | n+1,k,h,e=>by
  have mono:QaW R T rep n<=QaW R T rep (n+1):=by
   show _<=(if R n=rep/\ QaW R T rep n<T n then T n else QaW R T rep n);split<;>omega
  by_cases j:k=n
  ·subst j;show _<=(if R k=rep/\ QaW R T rep k<T k then T k else QaW R T rep k);split
   ·omega
   ·next hn=>exact Int.not_lt.1 (fun hlt=>hn ⟨e,hlt⟩)
  ·exact Int.le_trans (Qjb (by omega) e) mono
def Qgk (S:Sx)(rep:Int):Prop:=(0<=rep/\ rep<8)/\ QaW S.R S.T rep S.n+1<=1000000000
def nxY (S:Sx)(rep:Int)(p:List ByteArray)(fl:Bool)(v:ByteArray):Lf:=⟨p,fl,rep,QaW S.R S.T rep S.n+1,v⟩
theorem QiC(hs:QaT S.R S.F S.T S.n S.l)(hp:QaH p)(hv:v.size<=200)(hf:fl=true ->emB v=true)(h:Qgk S rep):PtO S [nxY S rep p fl v]:=by
 have g:=QeQ hs.1 rep;have z:=h.2;have u:=h.1;refine⟨by simp,fun y hy=> ?_,fun y hy=> ?_,fun y hy hx=> ?_⟩
 ·rw [List.mem_singleton.1 hy];exact⟨hp,hv,hf⟩
 ·rw [List.mem_singleton.1 hy];unfold Rok dtR nxY;simp only;omega
 ·rw [List.mem_singleton.1 hy] at hx;obtain⟨k,q,j,r,m⟩:=QcP S.R S.F S.T _ _ _ S.n hx;have:=Qjb (R:=S.R) (T:=S.T) (rep:=rep) q (by first|exact j|exact j.symm);unfold nxY at m;simp only at m;omega
noncomputable def wrD (S:Sx)(rep:Int)(p:List ByteArray)(fl:Bool)(v:ByteArray):Sx:=dlS (gnS p fl) S.l [nxY S rep p fl v]
noncomputable def wrX (S:Sx)(rep:Int)(p:List ByteArray)(fl:Bool)(v:ByteArray):Sx:=if yes (Qgk S rep) then chX S (wrD S rep p fl v) else Sx.mt
noncomputable def wrY (S:Sx)(rep:Int)(p:List ByteArray)(fl:Bool)(v:ByteArray):Sx:=if yes (Qgk S rep) then chY S (wrD S rep p fl v) else Sx.mt
noncomputable def wrC (S:Sx)(rep:Int)(p:List ByteArray)(fl:Bool)(v:ByteArray):Int:=if yes (Qgk S rep) then chC S (wrD S rep p fl v) else 3
section
variable {S : Sx} {rep : Int} {p : List ByteArray} {fl : Bool} {v : ByteArray}
theorem QnY (h:Qgk S rep):wrX S rep p fl v=chX S (wrD S rep p fl v)/\ wrY S rep p fl v=chY S (wrD S rep p fl v)/\ wrC S rep p fl v=chC S (wrD S rep p fl v):=by unfold wrX wrY wrC;rw [Qah h];exact⟨rfl,rfl,rfl⟩
theorem QnX (h:¬Qgk S rep):wrX S rep p fl v=Sx.mt/\ wrY S rep p fl v=Sx.mt/\ wrC S rep p fl v=3:=by unfold wrX wrY wrC;rw [Qaf h];exact⟨rfl,rfl,rfl⟩
end
def hgN (N N1:List Ky ->Option (Nat×Nat))(k:Ky):List Ky ->Option (Nat×Nat)
 | []=>N []
 | y::r=>if y=k then N1 r else N (y::r)
def hgM (M M1:List Ky ->Dt ->Option ByteArray)(k:Ky):List Ky ->Dt ->Option ByteArray
 | []=>M []
 | y::r=>if y=k then M1 r else M (y::r)
def ApN (N N1:List Ky ->Option (Nat×Nat)):Prop:=∀p q x y,N p=some x ->N1 q=some y ->x.1≠y.1/\ x.1≠y.2/\ x.2≠y.1/\ x.2≠y.2
section
variable {w w' : World} {B c : Nat} {N N1 : List Ky -> Option (Nat × Nat)} {M M1 : List Ky -> Dt -> Option ByteArray}
theorem Tre.hang {x0 x1:Nat×Nat}{k:Ky}(h:Tre w B N M c)(h1:Tre w B N1 M1 c)(hN:N []=some x0)(hN1:N1 []=some x1)(hap:ApN N N1)(hg:w.grownBy w' (some x0.1))(hm:Qa3 w' 208 Qa5 QaQ x0.1 (c+1) (fun y=>if y=k then some x1 else N [y])):Tre w' B (hgN N N1 k) (hgM M M1 k) (c+1):=by
 have A:∀p x,N p=some x ->p≠[] ->w'.heap[x.1]? =w.heap[x.1]? :=fun p x hx hp=>hg.block _ (h.lt hx).1 (fun e=>hp ((h.apart p [] x x0 hx hN).2.1 (by injection e)));have b:∀p x,N p=some x ->w'.heap[x.2]? =w.heap[x.2]? :=fun p x hx=>hg.block _ (h.lt hx).2 (fun e=>(h.apart [] p x0 x hN hx).1 (by injection e with e;exact e.symm));have i:∀p x,N1 p=some x ->w'.heap[x.1]? =w.heap[x.1]? /\ w'.heap[x.2]? =w.heap[x.2]? :=fun p x hx=>by
  have a:=hap [] p x0 x hN hx;exact⟨hg.block _ (h1.lt hx).1 (fun e=>a.1 (by injection e with e;exact e.symm)),hg.block _ (h1.lt hx).2 (fun e=>a.2.1 (by injection e with e;exact e.symm))⟩
 have g:∀p x,hgN N N1 k p=some x ->(p=[]/\ x=x0) \/(∃r,p=k::r/\ N1 r=some x) \/(∃y r,p=y::r/\ y≠k/\ N (y::r)=some x):=fun p x hx=>by
  cases p with
  | nil=>exact .inl ⟨rfl,by simp only [hgN] at hx;rw [hN] at hx;exact(Option.some.inj hx).symm⟩
  | cons y r=>
   simp only [hgN] at hx;by_cases e:y=k
   ·rw [if_pos e] at hx;exact .inr (.inl ⟨r,by rw [e],hx⟩)
   ·rw [if_neg e] at hx;exact .inr (.inr ⟨y,r,rfl,e,hx⟩)
 refine⟨fun p x hx=> ?_,fun p x hx=> ?_,fun p q x y hx hy=> ?_,fun p x hx=> ?_,fun p hp=> ?_,fun p y hp=> ?_⟩
 ·rcases g p x hx with ⟨rfl,rfl⟩|⟨r,rfl,j⟩|⟨y,r,rfl,t,j⟩
  ·refine hm.ext fun y=> ?_;show (if y=k then some x1 else N [y])=hgN N N1 k [y];simp only [hgN];by_cases e:y=k
   ·rw [if_pos e,if_pos e,hN1]
   ·rw [if_neg e,if_neg e]
  ·refine(((h1.kids r x j).same (i r x j).1).mono (Nat.le_succ _)).ext fun z=> ?_;show N1 (r++[z])=hgN N N1 k (k::(r++[z]));simp [hgN]
  ·refine(((h.kids _ x j).same (A _ x j (by simp))).mono (Nat.le_succ _)).ext fun z=> ?_;show N (y::r++[z])=hgN N N1 k (y::(r++[z]));simp [hgN,t]
 ·rcases g p x hx with ⟨rfl,rfl⟩|⟨r,rfl,j⟩|⟨y,r,rfl,t,j⟩
  ·exact((h.marks [] x hN).same (b [] x hN)).mono (Nat.le_succ _)
  ·refine(((h1.marks r x j).same (i r x j).2).mono (Nat.le_succ _)).ext fun d=> ?_;simp [hgM]
  ·refine(((h.marks _ x j).same (b _ x j)).mono (Nat.le_succ _)).ext fun d=> ?_;simp [hgM,t]
 ·rcases g p x hx with ⟨rfl,rfl⟩|⟨r,rfl,j⟩|⟨u,r,rfl,t,j⟩
  ·rcases g q y hy with ⟨rfl,rfl⟩|⟨s,rfl,m⟩|⟨v,s,rfl,o,m⟩
   ·exact h.apart [] [] _ _ hN hN
   ·have a:=hap [] s x y hN m;exact⟨a.2.1,fun e=>absurd e a.1,fun e=>absurd e a.2.2.2⟩
   ·exact h.apart [] _ _ _ hN m
  ·rcases g q y hy with ⟨rfl,rfl⟩|⟨s,rfl,m⟩|⟨v,s,rfl,o,m⟩
   ·have a:=hap [] r y x hN j;exact⟨fun e=>a.2.2.1 e.symm,fun e=>absurd e.symm a.1,fun e=>absurd e.symm a.2.2.2⟩
   ·have a:=h1.apart r s x y j m;exact⟨a.1,fun e=>by rw [a.2.1 e],fun e=>by rw [a.2.2 e]⟩
   ·have a:=hap _ r y x m j;exact⟨fun e=>a.2.2.1 e.symm,fun e=>absurd e.symm a.1,fun e=>absurd e.symm a.2.2.2⟩
  ·rcases g q y hy with ⟨rfl,rfl⟩|⟨s,rfl,m⟩|⟨v,s,rfl,o,m⟩
   ·exact h.apart _ [] _ _ j hN
   ·have a:=hap _ s x y j m;exact⟨a.2.1,fun e=>absurd e a.1,fun e=>absurd e a.2.2.2⟩
   ·exact h.apart _ _ _ _ j m
 ·rcases g p x hx with ⟨rfl,rfl⟩|⟨r,rfl,j⟩|⟨y,r,rfl,t,j⟩
  ·exact h.lo [] _ hN
  ·exact h1.lo r x j
  ·exact h.lo _ x j
 ·cases p with
  | nil=>simp only [hgN] at hp;rw [hN] at hp;cases hp
  | cons y r=>
   simp only [hgN] at hp;by_cases e:y=k
   ·rw [if_pos e] at hp;show hgM M M1 k (y::r)=_;simp only [hgM];rw [if_pos e];exact h1.none' r hp
   ·rw [if_neg e] at hp;show hgM M M1 k (y::r)=_;simp only [hgM];rw [if_neg e];exact h.none' _ hp
 ·cases p with
  | nil=>simp only [hgN] at hp;rw [hN] at hp;cases hp
  | cons z r=>
   simp only [hgN,List.cons_append] at hp ⊢;by_cases e:z=k
   ·rw [if_pos e] at hp ⊢;exact h1.up r y hp
   ·rw [if_neg e] at hp ⊢;exact h.up (z::r) y hp
theorem Tre.new {x0:Nat×Nat}(hk:Qa3 w 208 (α:=Ky) Qa5 QaQ x0.1 0 (fun _=>none))(hm:Qa3 w 104 (α:=Dt) dtV Qb1 x0.2 0 (fun _=>none))(hne:x0.1≠x0.2)(hB:B<=x0.1/\ B<=x0.2):Tre w B (fun z=>if z=[] then some x0 else none) (fun _ _=>none) 0:=by
 have nil:∀(p:List Ky) (x:Nat×Nat),(if p=[] then some x0 else none)=some x ->p=[]/\ x=x0:=fun p x hx=>by
  by_cases e:p=[]
  ·rw [if_pos e] at hx;exact⟨e,(Option.some.inj hx).symm⟩
  ·rw [if_neg e] at hx;cases hx
 refine⟨fun p x hx=> ?_,fun p x hx=> ?_,fun p q x y hx hy=> ?_,fun p x hx=> ?_,fun p hp=>rfl,fun p y hp=>by rw [if_neg (by simp)]⟩
 ·obtain⟨rfl,rfl⟩:=nil p x hx;exact hk.ext fun y=>by simp
 ·obtain⟨rfl,rfl⟩:=nil p x hx;exact hm.ext fun d=>rfl
 ·obtain⟨rfl,rfl⟩:=nil p x hx;obtain⟨rfl,rfl⟩:=nil q y hy;exact⟨hne,fun _=>rfl,fun _=>rfl⟩
 ·obtain⟨rfl,rfl⟩:=nil p x hx;exact hB
end
noncomputable def mJ (J:List Lf)(z:List Ky)(K:Ky ->Prop):List Ky ->Dt ->Option ByteArray
 | []=>Mk J J.length z
 | y::r=>if yes (K y)=true then Mk J J.length (z++y::r) else fun _=>none
def Ah (J:List Lf)(z:List Ky):Prop:=∃x∈J,z <+:Way x
structure JT (w:World)(B:Nat)(J:List Lf)(z:List Ky)(K:Ky ->Prop)(N:List Ky ->Option (Nat×Nat))(c:Nat)(x0:Nat×Nat):Prop where
 tre:Tre w B N (mJ J z K) c
 root:N []=some x0
 there:∀y r,(N (y::r)).isSome=true↔K y/\ Ah J (z++y::r)
structure JF (w:World)(B:Nat)(J:List Lf)(z:List Ky)(N:List Ky ->Option (Nat×Nat))(c:Nat)(x0:Nat×Nat):Prop where
 tre:Tre w B N (fun r=>Mk J J.length (z++r)) c
 root:N []=some x0
 there:∀y r,(N (y::r)).isSome=true↔Ah J (z++y::r)
theorem JT.full{K:Ky ->Prop}{N:List Ky ->Option (Nat×Nat)}(h:JT w B J z K N c x0)(hK:∀y,Ah J (z++[y]) ->K y):JF w B J z N c x0:=by
 have k:∀y r,Ah J (z++y::r) ->Ah J (z++[y]):=fun y r ⟨x,hx,hp⟩=>⟨x,hx,List.IsPrefix.trans (by rw [show z++y::r=(z++[y])++r by simp];exact List.prefix_append _ _) hp⟩;have m:mJ J z K=fun r=>Mk J J.length (z++r):=by
  funext r;cases r with
  | nil=>simp [mJ]
  | cons y r=>
   simp only [mJ];by_cases e:K y
   ·rw [if_pos (Qah e)]
   ·rw [if_neg (by rw [Qaf e];simp)];funext d;cases hv:Mk J J.length (z++y::r) d with
    | none=>rfl
    | some v=>
     obtain⟨j,u,q,_⟩:=Qdp.1 (show Mk J J.length (z++y::r) d≠none by rw [hv];simp);exact absurd (hK y (k y r ⟨gL J j,Qai.2 ⟨j,u,rfl⟩,by rw [q];exact List.prefix_refl _⟩)) e
 exact⟨by rw [<- m];exact h.tre,h.root,fun y r=>(h.there y r).trans ⟨fun g=>g.2,fun g=>⟨hK y (k y r g),g⟩⟩⟩
theorem JT.hang {w':World}{K:Ky ->Prop}{N N1:List Ky ->Option (Nat×Nat)}{x1:Nat×Nat}(h:JT w B J z K N c x0)(h1:JF w B J (z++[y]) N1 c x1)(hy:¬K y)(ha:Ah J (z++[y]))(hap:ApN N N1)(hg:w.grownBy w' (some x0.1))(hm:Qa3 w' 208 Qa5 QaQ x0.1 (c+1) (fun u=>if u=y then some x1 else N [u])):
  JT w' B J z (fun u=>K u \/u=y) (hgN N N1 y) (c+1) x0:=by
 have k:=h.tre.hang h1.tre h.root h1.root hap hg hm;have m:hgM (mJ J z K) (fun r=>Mk J J.length ((z++[y])++r)) y=mJ J z (fun u=>K u \/u=y):=by
  funext r;cases r with
  | nil=>rfl
  | cons u r=>
   simp only [hgM,mJ];by_cases e:u=y
   ·rw [if_pos e,if_pos (Qah (.inr e)),e];simp
   ·rw [if_neg e];by_cases j:K u
    ·rw [if_pos (Qah j),if_pos (Qah (.inl j))]
    ·rw [if_neg (by rw [Qaf j];simp),if_neg (by rw [Qaf (fun hh=>hh.elim j e)];simp)]
 rw [m] at k;refine⟨k,h.root,fun u r=> ?_⟩;simp only [hgN];by_cases e:u=y
 ·rw [if_pos e];cases r with
  | nil=>rw [h1.root,e];exact⟨fun _=>⟨.inr rfl,ha⟩,fun _=>rfl⟩
  | cons v r=>
   rw [h1.there v r,e];rw [show z++[y]++v::r=z++y::v::r by simp];exact⟨fun g=>⟨.inr rfl,g⟩,fun g=>g.2⟩
 ·rw [if_neg e,h.there u r];exact⟨fun g=>⟨.inl g.1,g.2⟩,fun g=>⟨g.1.resolve_right e,g.2⟩⟩
theorem JT.skip{K:Ky ->Prop}{N:List Ky ->Option (Nat×Nat)}(h:JT w B J z K N c x0)(hy:¬K y)(ha:¬Ah J (z++[y])):JT w B J z (fun u=>K u \/u=y) N c x0:=by
 have t:∀r,¬Ah J (z++y::r):=fun r ⟨x,hx,hp⟩=>ha ⟨x,hx,List.IsPrefix.trans (by rw [show z++y::r=(z++[y])++r by simp];exact List.prefix_append _ _) hp⟩;have o:mJ J z K=mJ J z (fun u=>K u \/u=y):=by
  funext r;cases r with
  | nil=>rfl
  | cons u r=>
   simp only [mJ];by_cases k:K u
   ·rw [if_pos (Qah k),if_pos (Qah (.inl k))]
   ·rw [if_neg (by rw [Qaf k];simp)];by_cases e:u=y
    ·rw [if_pos (Qah (.inr e))];funext d;cases hv:Mk J J.length (z++u::r) d with
     | none=>rfl
     | some v=>
      obtain⟨j,b,i,_⟩:=Qdp.1 (show Mk J J.length (z++u::r) d≠none by rw [hv];simp);exact absurd ⟨gL J j,Qai.2 ⟨j,b,rfl⟩,by rw [i,e];exact List.prefix_refl _⟩ (t r)
    ·rw [if_neg (by rw [Qaf (fun hh=>hh.elim k e)];simp)]
 refine⟨by rw [<- o];exact h.tre,h.root,fun u r=> ?_⟩;rw [h.there u r];constructor
 ·exact fun g=>⟨.inl g.1,g.2⟩
 ·rintro⟨m|m,q⟩
  ·exact⟨m,q⟩
  ·rw [m] at q;exact absurd q (t r)
theorem JF.bears{N:List Ky ->Option (Nat×Nat)}(h:JF w B J z N c x0):Ah J z↔(∃y,N [y]≠none) \/∃d,Mk J J.length z d≠none:=by
 constructor
 ·rintro⟨x,k,u⟩;obtain⟨s,g⟩:=u;obtain⟨j,m,e⟩:=Qai.1 k;cases s with
  | nil=>exact .inr ⟨(x.r,x.q),Qdp.2 ⟨j,m,by rw [e,<- g];simp,by rw [e]⟩⟩
  | cons y s=>
   refine .inl ⟨y,fun hn=> ?_⟩;have:=(h.there y []).2 ⟨x,k,by rw [<- g,show z++y::s=(z++[y])++s by simp];exact List.prefix_append _ _⟩;rw [hn] at this;cases this
 ·rintro(⟨y,b⟩|⟨d,i⟩)
  ·have t:(N [y]).isSome=true:=by
    cases hv:N [y] with
    | none=>exact absurd hv b
    | some v=>rfl
   obtain⟨x,k,u⟩:=(h.there y []).1 t;exact⟨x,k,List.IsPrefix.trans (List.prefix_append _ _) u⟩
  ·obtain⟨j,m,o,_⟩:=Qdp.1 i;exact⟨gL J j,Qai.2 ⟨j,m,rfl⟩,by rw [o];exact List.prefix_refl _⟩
noncomputable def kmF (fa fb:Dt ->Option ByteArray)(hb:Dt ->Bool)(f:Dt ->Option ByteArray):Dt ->Option ByteArray:=fun d=>
 match fa d with
 | some m=>if yes (hb d=false \/fb d=some m)=true then some m else f d
 | none=>f d
theorem Qe9 {fa fb:Dt ->Option ByteArray}{hb:Dt ->Bool}{f:Dt ->Option ByteArray}{d:Dt}:kmF fa fb hb f d=some v↔(fa d=some v/\ (hb d=false \/fb d=some v)) \/((∀m,fa d=some m ->¬(hb d=false \/fb d=some m))/\ f d=some v):=by
 unfold kmF;cases hf:fa d with
 | none=>
  constructor
  ·intro h;exact .inr ⟨fun m hm=>(by cases hm),h⟩
  ·rintro(⟨h,_⟩|⟨_,h⟩)
   ·cases h
   ·exact h
 | some m=>
  dsimp only;by_cases e:hb d=false \/fb d=some m
  ·rw [if_pos (Qah e)];constructor
   ·intro h;cases h;exact .inl ⟨rfl,e⟩
   ·rintro(⟨h,_⟩|⟨h,_⟩)
    ·exact h
    ·exact absurd e (h m rfl)
  ·rw [if_neg (by rw [Qaf e];simp)];constructor
   ·intro h;exact .inr ⟨fun m' hm=>by cases hm;exact e,h⟩
   ·rintro(⟨h,j⟩|⟨_,h⟩)
    ·cases h;exact absurd j e
    ·exact h
section
variable {R F T : Nat -> Int} {n : Nat} {la : List Lf} {R' F' T' : Nat -> Int} {n' : Nat} {lb : List Lf}
theorem Qh3 (h:StW R F T n la){z:List Ky}{d:Dt}{v:ByteArray}(hv:Mk la la.length z d=some v):QbG R F T d.1 d.2 d.2 n=true:=by
 obtain⟨j,y,_,k⟩:=Qdp.1 (show Mk la la.length z d≠none by rw [hv];simp);have:=(h.2.2.1 j y).2.1;have m:(gL la j).r=d.1:=congrArg Prod.fst k;have u:(gL la j).q=d.2:=congrArg Prod.snd k;rw [m,u] at this;exact this
theorem QmL (h:StW R F T n la)(h':StW R' F' T' n' lb)(z:List Ky):
  kmF (Mk lb lb.length z) (Mk la la.length z) (fun d=>QbG R F T d.1 d.2 d.2 n) (kmF (Mk la la.length z) (Mk lb lb.length z) (fun d=>QbG R' F' T' d.1 d.2 d.2 n') (fun _=>none))=Mk (jn R F T n la R' F' T' n' lb) (jn R F T n la R' F' T' n' lb).length z:=by
 funext d;have q:∀v,kmF (Mk lb lb.length z) (Mk la la.length z) (fun d=>QbG R F T d.1 d.2 d.2 n) (kmF (Mk la la.length z) (Mk lb lb.length z) (fun d=>QbG R' F' T' d.1 d.2 d.2 n') (fun _=>none)) d=some v↔Mk (jn R F T n la R' F' T' n' lb) (jn R F T n la R' F' T' n' lb).length z d=some v:=fun v=>by
  rw [Qe9,Qe9,Qlx h h'];constructor
  ·rintro(⟨k,j|j⟩|⟨_,⟨k,j|j⟩|⟨_,g⟩⟩)
   ·exact .inr ⟨k,j⟩
   ·exact .inl ⟨j,.inl k⟩
   ·exact .inl ⟨k,.inr j⟩
   ·exact .inl ⟨k,.inl j⟩
   ·cases g
  ·rintro(⟨k,j|j⟩|⟨k,j⟩)
   ·exact .inl ⟨j,.inr k⟩
   ·refine .inr ⟨fun m hm=> ?_,.inl ⟨k,.inl j⟩⟩;have:=Qh3 h' hm;rw [this] at j;cases j
   ·exact .inl ⟨k,.inl j⟩
 cases hv:Mk (jn R F T n la R' F' T' n' lb) (jn R F T n la R' F' T' n' lb).length z d with
 | some v=>exact(q v).2 hv
 | none=>
  cases hk:kmF (Mk lb lb.length z) (Mk la la.length z) (fun d=>QbG R F T d.1 d.2 d.2 n) (kmF (Mk la la.length z) (Mk lb lb.length z) (fun d=>QbG R' F' T' d.1 d.2 d.2 n') (fun _=>none)) d with
  | none=>rfl
  | some v=>have:=(q v).1 hk;rw [hv] at this;cases this
end
theorem JT.start(hk:Qa3 w 208 (α:=Ky) Qa5 QaQ x0.1 0 (fun _=>none))(hm:Qa3 w 104 (α:=Dt) dtV Qb1 x0.2 c (Mk J J.length z))(hne:x0.1≠x0.2)(hB:B<=x0.1/\ B<=x0.2):JT w B J z (fun _=>False) (fun r=>if r=[] then some x0 else none) c x0:=by
 have nil:∀(p:List Ky) (x:Nat×Nat),(if p=[] then some x0 else none)=some x ->p=[]/\ x=x0:=fun p x hx=>by
  by_cases e:p=[]
  ·rw [if_pos e] at hx;exact⟨e,(Option.some.inj hx).symm⟩
  ·rw [if_neg e] at hx;cases hx
 refine⟨⟨fun p x hx=> ?_,fun p x hx=> ?_,fun p q x y hx hy=> ?_,fun p x hx=> ?_,fun p hp=> ?_,fun p y hp=>by rw [if_neg (by simp)]⟩,if_pos rfl,fun y r=> ?_⟩
 ·obtain⟨rfl,rfl⟩:=nil p x hx;exact(hk.mono (Nat.zero_le _)).ext fun y=>by simp
 ·obtain⟨rfl,rfl⟩:=nil p x hx;exact hm
 ·obtain⟨rfl,rfl⟩:=nil p x hx;obtain⟨rfl,rfl⟩:=nil q y hy;exact⟨hne,fun _=>rfl,fun _=>rfl⟩
 ·obtain⟨rfl,rfl⟩:=nil p x hx;exact hB
 ·cases p with
  | nil=>simp at hp
  | cons y r=>simp only [mJ];rw [if_neg (by rw [Qaf (fun h=>h)];simp)]
 ·rw [if_neg (by simp)];exact⟨fun h=>(by cases h),fun h=>h.1.elim⟩
noncomputable def kmS (fa fb:Dt ->Option ByteArray)(hb:Dt ->Bool)(f:Dt ->Option ByteArray)(ds:List Dt):Dt ->Option ByteArray:=fun d=>if yes (d∈ds)=true then kmF fa fb hb f d else f d
section
variable {fa fb : Dt -> Option ByteArray} {hb : Dt -> Bool} {f : Dt -> Option ByteArray} {ds : List Dt} {d : Dt} {v : ByteArray}
theorem Qiz:kmS fa fb hb f []=f:=by
 funext x;unfold kmS;rw [if_neg (by rw [Qaf (by simp)];simp)]
theorem QeA (hd:fa d=some v)(hk:hb d=false \/fb d=some v):kmS fa fb hb f (ds++[d])=QcI (kmS fa fb hb f ds) d (some v):=by
 funext x;unfold kmS QcI;by_cases e:x=d
 ·subst e;rw [if_pos (Qah (by simp))];have:kmF fa fb hb f x=some v:=Qe9.2 (.inl ⟨hd,hk⟩);rw [this];simp
 ·rw [if_neg e];dsimp only;by_cases j:x∈ds
  ·rw [if_pos (Qah (by simp [j])),if_pos (Qah j)]
  ·rw [if_neg (by rw [Qaf (by simp [e,j])];simp),if_neg (by rw [Qaf j];simp)]
theorem QgP (hd:fa d=some v)(hn:d ∉ ds)(hk:¬(hb d=false \/fb d=some v)):kmS fa fb hb f (ds++[d])=kmS fa fb hb f ds:=by
 funext x;unfold kmS;by_cases e:x=d
 ·subst e;rw [if_pos (Qah (by simp)),if_neg (by rw [Qaf hn];simp)];unfold kmF;rw [hd];dsimp only;rw [if_neg (by rw [Qaf hk];simp)]
 ·by_cases j:x∈ds
  ·rw [if_pos (Qah (by simp [j])),if_pos (Qah j)]
  ·rw [if_neg (by rw [Qaf (by simp [e,j])];simp),if_neg (by rw [Qaf j];simp)]
theorem QjG (hk:QbF fa ds):kmS fa fb hb f ds=kmF fa fb hb f:=by
 funext x;unfold kmS;by_cases e:x∈ds
 ·rw [if_pos (Qah e)]
 ·rw [if_neg (by rw [Qaf e];simp)];have:fa x=none:=by
   cases hv:fa x with
   | none=>rfl
   | some v=>exact absurd ((hk.2 x).2 (by rw [hv];simp)) e
  unfold kmF;rw [this]
end
end Go.Proofs.YtgmjgboibfdaeaaGreatDoor
