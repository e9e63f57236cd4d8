import Derived.Test.YtdeolligikjieaaGreatDoorFkg18
import Derived.RegionTactic
import Derived.ChangeAlike
import Derived.WalkSmall
set_option linter.unusedVariables false
set_option linter.unusedSimpArgs false
set_option maxRecDepth 100000
set_option maxHeartbeats 40000000
namespace Go.Proofs.YtdeolligikjieaaGreatDoor
structure LGd (K:Int ->Int ->Bool)(kind:Int)(p:List ByteArray)(z:Lf):Prop where
 p:z.p=p
 fl:z.fl=decide (kind=2)
 k:K z.r z.q=true
 v:z.v.size<=200
 e:kind=2 ->z.v=ByteArray.empty
def KOk (K:Int ->Int ->Bool):Prop:=∀r q,K r q=true ->0<=r/\ r<=7/\ 1<=q/\ q<=1000000000
section
variable {f : Nat -> Int} {n : Nat} {K : Int -> Int -> Bool}
theorem Qh2 (hf:Byt f)(hK:KOk K){kind:Int}(hk:kind=1 \/kind=2){p:List ByteArray}{before:Dt}{acc:List Lf}{x:Nat}{z:Lf}{x':Nat}:
  Qej f n K kind p before acc x=some (z,x')↔LGd K kind p z/\ Qbh before (z.r,z.q)<0/\ (∀y∈acc,¬(y.r=z.r/\ y.q=z.q))/\ acc.length≠1000/\ At f x (lfB kind z)/\ x'=x+(lfB kind z).length/\ x'<=n:=by
 unfold Qej lfB;constructor
 ·intro h;obtain⟨⟨r,x1⟩,o,h⟩:=Qad.1 h;obtain⟨⟨q,x2⟩,j,h⟩:=Qad.1 h;simp only at h j;obtain⟨r1,r2,V,s,r5⟩:=(Qa8 hf).1 o;obtain⟨W,q2,U,X,B⟩:=(Qa8 hf).1 j;split at h
  ·rename_i hy;obtain⟨m,Y,u,g⟩:=QbP.1 hy;rcases hk with rfl|rfl
   ·rw [if_neg (by decide)] at h;obtain⟨⟨t,x3⟩,b,h⟩:=Qad.1 h;simp only [Option.some.injEq,Prod.mk.injEq] at h;obtain⟨rfl,rfl⟩:=h;obtain⟨t1,C,t3,D⟩:=(QcF hf (by decide)).1 b;refine⟨⟨rfl,by simp,Y,by simp only;omega,fun h=>by omega⟩,m,u,g,?_,?_,D⟩
    ·simp only [Int.toNat_natCast,if_true];rw [At.app,At.app];exact⟨V,by rw [<- s];exact U,by rw [<- s,<- X];exact C⟩
    ·simp only [Int.toNat_natCast,if_true,List.length_append];omega
   ·rw [if_pos rfl] at h;simp only [Option.some.injEq,Prod.mk.injEq] at h;obtain⟨rfl,rfl⟩:=h;refine⟨⟨rfl,by simp,Y,by simp,fun _=>rfl⟩,m,u,g,?_,?_,B⟩
    ·simp only [Int.toNat_natCast];rw [At.app,At.app];exact⟨V,by rw [<- s];exact U,by rw [if_neg (by decide)];intro i L;simp at L⟩
    ·simp only [Int.toNat_natCast,List.length_append];rw [if_neg (by decide)];simp;omega
  ·cases h
 ·rintro⟨⟨E,M,O,F,J⟩,m,u,g,Q,k,N⟩;obtain⟨P,R,S,T⟩:=hK _ _ O;rw [At.app,At.app] at Q;rw [List.length_append,List.length_append] at k;obtain⟨Z,G,A⟩:=Q;have H:((z.r.toNat:Nat):Int)=z.r:=by omega
  have I:((z.q.toNat:Nat):Int)=z.q:=by omega
  have o:rd f n x 7=some (z.r.toNat,x+(uvF 9 z.r.toNat).length):=(Qa8 hf).2 ⟨by omega,by omega,Z,rfl,by omega⟩;have j:rd f n (x+(uvF 9 z.r.toNat).length) 1000000000=some (z.q.toNat,x+(uvF 9 z.r.toNat).length+(uvF 9 z.q.toNat).length):=(Qa8 hf).2 ⟨by omega,by omega,G,rfl,by omega⟩;rw [o];simp only [Option.bind_some];rw [j];simp only [Option.bind_some,H,I];rw [if_pos (Qal ⟨m,O,u,g⟩)];rcases hk with rfl|rfl
  ·rw [if_neg (by decide)];rw [if_pos rfl] at A k;have b:Qei f n (x+(uvF 9 z.r.toNat).length+(uvF 9 z.q.toNat).length) 200=some (z.v,x'):=(QcF hf (by decide)).2 ⟨by omega,A,by omega,N⟩;rw [b];simp only [Option.bind_some,Option.some.injEq,Prod.mk.injEq,and_true];rw [<- E];have:z.fl=false:=by rw [M];decide
   rw [<- this]
  ·rw [if_pos rfl];rw [if_neg (by decide)] at k;simp only [Option.some.injEq,Prod.mk.injEq];refine⟨?_,by simp at k;omega⟩;rw [<- E,<- J rfl];have:z.fl=true:=by rw [M];decide
   rw [<- this]
def OkB (K:Int ->Int ->Bool)(kind:Int)(p:List ByteArray):Dt ->List Lf ->List Lf ->Prop
 | _,_,[]=>True
 | before,acc,z::B=>LGd K kind p z/\ Qbh before (z.r,z.q)<0/\ (∀y∈acc,¬(y.r=z.r/\ y.q=z.q))/\ acc.length≠1000/\ OkB K kind p (z.r,z.q) (acc++[z]) B
theorem Qdw (hf:Byt f)(hK:KOk K){kind:Int}(hk:kind=1 \/kind=2){p:List ByteArray}:∀(k:Nat) {before:Dt} {acc acc':List Lf} {x x':Nat},
  Qia f n K kind p k before acc x=some (acc',x')/\ x<=n↔∃B,acc'=acc++B/\ B.length=k/\ OkB K kind p before acc B/\ At f x (B.flatMap (lfB kind))/\ x'=x+(B.flatMap (lfB kind)).length/\ x'<=n
 | 0,before,acc,acc',x,x'=>by
  unfold Qia;constructor
  ·rintro⟨h,u⟩;simp only [Option.some.injEq,Prod.mk.injEq] at h;obtain⟨rfl,rfl⟩:=h;exact⟨[],by simp,rfl,trivial,fun i hi=>by simp at hi,by simp,u⟩
  ·rintro⟨B,rfl,j,_,_,rfl,m⟩;obtain rfl:=List.length_eq_zero_iff.1 j;simp at m ⊢;exact m
 | k+1,before,acc,acc',x,x'=>by
  unfold Qia;constructor
  ·rintro⟨h,u⟩;obtain⟨⟨z,Z⟩,y,h⟩:=Qad.1 h;obtain⟨g,t,o,b,s,A,Y⟩:=(Qh2 hf hK hk).1 y;obtain⟨B,E,M,b3,b4,O,Q⟩:=(Qdw hf hK hk k).1 ⟨h,Y⟩;refine⟨z::B,by rw [E];simp,by simp [M],⟨g,t,o,b,b3⟩,?_,?_,Q⟩
   ·rw [List.flatMap_cons,At.app];exact⟨s,by rw [<- A];exact b4⟩
   ·rw [List.flatMap_cons,List.length_append,O,A];omega
  ·rintro⟨B,rfl,j,U,v,u,m⟩;cases B with
   | nil=>simp at j
   | cons z B=>
    obtain⟨g,t,o,b,s⟩:=U;rw [List.flatMap_cons,At.app] at v;rw [List.flatMap_cons,List.length_append] at u;have y:Qej f n K kind p before acc x=some (z,x+(lfB kind z).length):=(Qh2 hf hK hk).2 ⟨g,t,o,b,v.1,rfl,by omega⟩;have V:=(Qdw hf hK hk k (before:=(z.r,z.q)) (acc:=acc++[z]) (acc':=acc++z::B) (x:=x+(lfB kind z).length) (x':=x')).2 ⟨B,by simp,by simpa using j,s,v.2,by omega,m⟩;refine⟨?_,by omega⟩;rw [y];exact V.1
theorem Qh1 (hf:Byt f){before y:Ky}{x x':Nat}:
  QfN f n before x=some (y,x')↔y.1.size≠0/\ y.1.size<=40/\ Qb7 before y<0/\ At f x (Qae y.1++[y.2])/\ x'=x+(Qae y.1++[y.2]).length/\ x'<=n:=by
 unfold QfN;constructor
 ·intro h;obtain⟨⟨t,O⟩,k,h⟩:=Qad.1 h;obtain⟨E,z,g,M⟩:=(QcF hf (by decide)).1 k;split at h
  ·rename_i hy;obtain⟨o,b,p⟩:=QbP.1 hy;simp only [Option.some.injEq,Prod.mk.injEq] at h;obtain⟨rfl,rfl⟩:=h;refine⟨o,by simp only;omega,p,?_,by simp;omega,by simp only at b;omega⟩;rw [At.app];refine⟨z,fun i hi=> ?_⟩;have:i=0:=by simpa using hi
   subst this;simp [g]
  ·cases h
 ·rintro⟨q,s,r,j,m,A⟩;rw [At.app] at j;rw [List.length_append] at m;have u:x'=x+(Qae y.1).length+1:=by simpa [Nat.add_assoc] using m
  have k:Qei f n x 40=some (y.1,x+(Qae y.1).length):=(QcF hf (by decide)).2 ⟨by omega,j.1,rfl,by omega⟩;have v:f (x+(Qae y.1).length)=y.2:=by
   have:=j.2 0 (by simp);simpa using this
  rw [k];simp only [Option.bind_some];rw [v,if_pos (Qal ⟨q,by omega,r⟩),u]
def RD (K:Int ->Int ->Bool)(R:List ByteArray ->List Lf ->List Lf ->List Int ->Prop)(p:List ByteArray)(y:Ky)(acc B:List Lf)(U:List Int):Prop:=
 if y.2=3 then R (p++[y.1]) acc B U else(y.2=1 \/y.2=2)/\ B≠[]/\ B.length<=1000/\ OkB K y.2 (p++[y.1]) (0,0) acc B/\ U=mB B y.2
def RK (K:Int ->Int ->Bool)(R:List ByteArray ->List Lf ->List Lf ->List Int ->Prop)(p:List ByteArray):Ky ->List Lf ->List Gr3 ->Prop
 | _,_,[]=>True
 | before,acc,g::G=>(g.1.1.size≠0/\ g.1.1.size<=40/\ Qb7 before g.1<0)/\ RD K R p g.1 acc g.2.1 g.2.2/\ RK K R p g.1 (acc++g.2.1) G
def gB (g:Gr3):List Int:=Qae g.1.1++([g.1.2]++g.2.2)
def RT (K:Int ->Int ->Bool):Nat ->List ByteArray ->List Lf ->List Lf ->List Int ->Prop
 | 0,_,_,_,_=>False
 | d+1,p,acc,B,U=>∃G:List Gr3,B=G.flatMap (fun g=>g.2.1)/\ U=uvF 9 G.length++G.flatMap gB/\ G.length<=1000/\ (G=[] ->p.length=0)/\ (G≠[] ->p.length<8)/\ RK K (RT K d) p (ByteArray.empty,0) acc G
def Rds (f:Nat ->Int)(n:Nat)(r:List ByteArray ->List Lf ->Nat ->Option (List Lf×Nat))(R:List ByteArray ->List Lf ->List Lf ->List Int ->Prop):Prop:=
 ∀p acc x acc' x',r p acc x=some (acc',x')/\ x<=n↔∃B U,acc'=acc++B/\ R p acc B U/\ At f x U/\ x'=x+U.length/\ x'<=n
theorem Qh0 (hf:Byt f)(hK:KOk K){r:List ByteArray ->List Lf ->Nat ->Option (List Lf×Nat)}{R:List ByteArray ->List Lf ->List Lf ->List Int ->Prop}(hR:Rds f n r R)(p:List ByteArray)(y:Ky)(acc:List Lf)(x:Nat)(acc':List Lf)(x':Nat):
  Qij f n K r p y acc x=some (acc',x')/\ x<=n↔∃B U,acc'=acc++B/\ RD K R p y acc B U/\ At f x U/\ x'=x+U.length/\ x'<=n:=by
 unfold Qij RD;by_cases z:y.2=3
 ·simp only [if_pos z];exact hR (p++[y.1]) acc x acc' x'
 ·simp only [if_neg z];by_cases j:y.2=1 \/y.2=2
  ·rw [if_pos j];constructor
   ·rintro⟨h,u⟩;obtain⟨⟨c,Y⟩,q,h⟩:=Qad.1 h;simp only at h;split at h
    ·cases h
    ·rename_i h0;obtain⟨O,Q,i,v,b⟩:=(Qa8 hf).1 q;obtain⟨B,g,m,b3,b4,t,o⟩:=(Qdw hf hK j c).1 ⟨h,b⟩;refine⟨B,mB B y.2,g,⟨j,fun e=>h0 (by rw [<- m,e];rfl),by omega,b3,rfl⟩,?_,?_,o⟩
     ·unfold mB;rw [At.app,m];exact⟨i,by rw [<- v];exact b4⟩
     ·unfold mB;rw [List.length_append,m,t,v];omega
   ·rintro⟨B,U,rfl,⟨_,s,V,A,rfl⟩,k,u,E⟩;unfold mB at k u;rw [At.app] at k;rw [List.length_append] at u;have q:rd f n x 1000=some (B.length,x+(uvF 9 B.length).length):=(Qa8 hf).2 ⟨by omega,by omega,k.1,rfl,by omega⟩;have M:=(Qdw hf hK j B.length (before:=(0,0)) (acc:=acc) (acc':=acc++B) (x:=x+(uvF 9 B.length).length) (x':=x')).2 ⟨B,rfl,rfl,A,k.2,by omega,E⟩;refine⟨?_,by omega⟩;rw [q];simp only [Option.bind_some];rw [if_neg (fun e=>s (List.length_eq_zero_iff.1 e))];exact M.1
  ·rw [if_neg j];constructor
   ·rintro⟨h,_⟩;cases h
   ·rintro⟨B,U,_,⟨h,_⟩,_⟩;exact absurd h j
theorem Qdv (hf:Byt f)(hK:KOk K){r:List ByteArray ->List Lf ->Nat ->Option (List Lf×Nat)}{R:List ByteArray ->List Lf ->List Lf ->List Int ->Prop}(hR:Rds f n r R)(p:List ByteArray):∀(k:Nat) (before:Ky) (acc:List Lf) (x:Nat) (acc':List Lf) (x':Nat),
  Qk4 f n K r p k before acc x=some (acc',x')/\ x<=n↔∃G:List Gr3,acc'=acc++G.flatMap (fun g=>g.2.1)/\ G.length=k/\ RK K R p before acc G/\ At f x (G.flatMap gB)/\ x'=x+(G.flatMap gB).length/\ x'<=n
 | 0,before,acc,x,acc',x'=>by
  unfold Qk4;constructor
  ·rintro⟨h,u⟩;simp only [Option.some.injEq,Prod.mk.injEq] at h;obtain⟨rfl,rfl⟩:=h;exact⟨[],by simp,rfl,trivial,fun i hi=>by simp at hi,by simp,u⟩
  ·rintro⟨G,rfl,m,_,_,rfl,q⟩;obtain rfl:=List.length_eq_zero_iff.1 m;simp at q ⊢;exact q
 | k+1,before,acc,x,acc',x'=>by
  unfold Qk4;constructor
  ·rintro⟨h,u⟩;obtain⟨⟨y,T⟩,z,h⟩:=Qad.1 h;obtain⟨⟨V,M⟩,v,h⟩:=Qad.1 h;obtain⟨t,o,b,W,s,y6⟩:=(Qh1 hf).1 z;obtain⟨B,U,Y,Z,b3,b4,H⟩:=(Qh0 hf hK hR p y acc T V M).1 ⟨v,y6⟩;subst Y;obtain⟨G,I,J,L,N,X,C⟩:=(Qdv hf hK hR p k y (acc++B) M acc' x').1 ⟨h,H⟩;refine⟨(y,B,U)::G,by rw [I];simp,by simp [J],⟨⟨t,o,b⟩,Z,L⟩,?_,?_,C⟩
   ·rw [List.flatMap_cons,At.app];have j:gB (y,B,U)=(Qae y.1++[y.2])++U:=by simp [gB]
    rw [j,At.app];refine⟨⟨W,by rw [<- s];exact b3⟩,?_⟩;rw [List.length_append,<- Nat.add_assoc,<- s,<- b4];exact N
   ·rw [List.flatMap_cons,List.length_append];have j:gB (y,B,U)=(Qae y.1++[y.2])++U:=by simp [gB]
    rw [j,List.length_append,X,b4,s];omega
  ·rintro⟨G,rfl,m,F,E,u,q⟩;cases G with
   | nil=>simp at m
   | cons g G=>
    obtain⟨y,B,U⟩:=g;obtain⟨⟨t,o,b⟩,D,P⟩:=F;have j:gB (y,B,U)=(Qae y.1++[y.2])++U:=by simp [gB]
    rw [List.flatMap_cons,At.app,j,At.app] at E;rw [List.flatMap_cons,List.length_append,j,List.length_append] at u;obtain⟨⟨O,Q⟩,A⟩:=E;rw [List.length_append,<- Nat.add_assoc] at A;have z:QfN f n before x=some (y,x+(Qae y.1++[y.2]).length):=(Qh1 hf).2 ⟨t,o,b,O,rfl,by omega⟩;have v:=(Qh0 hf hK hR p y acc (x+(Qae y.1++[y.2]).length) (acc++B) (x+(Qae y.1++[y.2]).length+U.length)).2 ⟨B,U,rfl,D,Q,rfl,by omega⟩;have S:=(Qdv hf hK hR p k y (acc++B) (x+(Qae y.1++[y.2]).length+U.length) (acc++((y,B,U)::G).flatMap fun g=>g.2.1) x').2 ⟨G,by simp,by simpa using m,P,A,by omega,q⟩;refine⟨?_,by omega⟩;rw [z];simp only [Option.bind_some];rw [v.1];exact S.1
theorem Qh5 (hf:Byt f)(hK:KOk K):∀d,Rds f n (Qcz f n K d) (RT K d)
 | 0=>fun p acc x acc' x'=>by
  constructor
  ·rintro⟨h,_⟩;cases h
  ·rintro⟨B,U,_,h,_⟩;exact h.elim
 | d+1=>fun p acc x acc' x'=>by
  have t:=Qh5 hf hK d;unfold Qcz;constructor
  ·rintro⟨h,u⟩;obtain⟨⟨c,O⟩,r,h⟩:=Qad.1 h;simp only at h;obtain⟨Q,V,v,k,y⟩:=(Qa8 hf).1 r;split at h
   ·rename_i j;subst j;split at h
    ·rename_i hp;simp only [Option.some.injEq,Prod.mk.injEq] at h;obtain⟨rfl,rfl⟩:=h;exact⟨[],uvF 9 0,by simp,⟨[],rfl,by simp,by simp,fun _=>hp,fun h=>absurd rfl h,trivial⟩,v,k,y⟩
    ·cases h
   ·rename_i j;split at h
    ·cases h
    ·rename_i z;obtain⟨G,o,m,i,b,s,A⟩:=(Qdv hf hK t p c _ acc O acc' x').1 ⟨h,y⟩;refine⟨_,uvF 9 G.length++G.flatMap gB,o,⟨G,rfl,rfl,by omega,fun e=>absurd (by rw [<- m,e];rfl) j,fun _=>by omega,i⟩,?_,?_,A⟩
     ·rw [At.app,m];exact⟨v,by rw [<- k];exact b⟩
     ·rw [List.length_append,m,s,k];omega
  ·rintro⟨B,U,rfl,⟨G,rfl,rfl,Y,j,z,E⟩,q,u,M⟩;rw [At.app] at q;rw [List.length_append] at u;have r:rd f n x 1000=some (G.length,x+(uvF 9 G.length).length):=(Qa8 hf).2 ⟨by omega,by omega,q.1,rfl,by omega⟩;refine⟨?_,by omega⟩;rw [r];simp only [Option.bind_some];by_cases e:G=[]
   ·subst e;rw [if_pos (by rfl),if_pos (j rfl)];simp at u ⊢;omega
   ·rw [if_neg (fun e'=>e (List.length_eq_zero_iff.1 e')),if_neg (by have:=z e;omega)];exact((Qdv hf hK t p G.length _ acc (x+(uvF 9 G.length).length) (acc++G.flatMap fun g=>g.2.1) x').2 ⟨G,rfl,rfl,E,q.2,by omega,M⟩).1
end
def QkV (p:List ByteArray):Prop:=∀s∈p,1<=s.size/\ s.size<=40
theorem QkV.snoc {p:List ByteArray}{s:ByteArray}(h:QkV p)(h0:s.size≠0)(h1:s.size<=40):QkV (p++[s]):=fun t ht=>by
 rcases List.mem_append.1 ht with j|j
 ·exact h t j
 ·simp at j;subst j;omega
theorem QkV.pth {p:List ByteArray}(h:QkV p)(h1:1<=p.length)(h8:p.length<=8):QaQ p:=⟨h1,h8,fun i hi=>h _ (by simp [gS,List.getD,hi])⟩
abbrev lfT (x:Lf):List ByteArray×(Int×Dt):=(x.p,(kd x.fl,(x.r,x.q)))
theorem Qlc:QaF (fun x y:List ByteArray×(Int×Dt)=>orI (QaE x.1 y.1) ((fun x y:Int×Dt=>orI (QaT x.1 y.1) (Qbh x.2 y.2)) x.2 y.2)):=QaF.path.pair (QaF.int.pair QaF.dot)
theorem QhK (a b:Lf):QaG a b<0 \/lfT a=lfT b \/QaG b a<0:=by
 rcases Int.lt_trichotomy (QaG a b) 0 with h|h|h
 ·exact .inl h
 ·exact .inr (.inl ((Qlc.z (lfT a) (lfT b)).1 h))
 ·exact .inr (.inr ((Qlc.neg (lfT b) (lfT a)).2 h))
theorem Qpo {p:List ByteArray}{a b:Lf}(h:lfT a=lfT b):nx p a=nx p b:=by
 have j:a.p=b.p:=congrArg Prod.fst h;have k:kd a.fl=kd b.fl:=congrArg (fun t=>t.2.1) h;unfold nx;rw [j,k]
theorem QoD {p:List ByteArray}{a b:Lf}{y z:Ky}(ha:nx p a=some y)(hb:nx p b=some z)(h:Qb7 y z<0):QaG a b<0:=by
 rcases QhK a b with j|j|j
 ·exact j
 ·rw [Qpo j,hb] at ha;obtain rfl:=Option.some.inj ha;rw [QaF.key.irr] at h;omega
 ·have:=QbH j hb ha;have:=(QaF.key.neg y z).1 h;omega
theorem Qm6 {p:List ByteArray}{s:ByteArray}{z:Lf}(h:z.p=p++[s]):nx p z=some (s,kd z.fl):=by
 rw [Qbi,h];refine⟨⟨List.prefix_append _ _,by simp⟩,?_⟩;unfold Qat;rw [if_neg (by simp)];simp [gS,List.getD]
theorem QfQ {a b:Lf}(h1:a.p=b.p)(h2:a.fl=b.fl):QaG a b=Qbh (a.r,a.q) (b.r,b.q):=by
 unfold QaG;rw [h1,h2];have j:QaE b.p b.p=0:=(QaF.path.z _ _).2 rfl;have k:QaT (kd b.fl) (kd b.fl)=0:=(QaF.int.z _ _).2 rfl;rw [j,k];simp [orI];rfl
theorem Qi6 {a b:Lf}(h:Qbh (a.r,a.q) (b.r,b.q)<0):Dif a b:=fun e=>by
 rw [e.1,e.2,QaF.dot.irr] at h;omega
section
variable {K : Int -> Int -> Bool}
theorem Qf2 {kind:Int}{p:List ByteArray}:∀{B:List Lf} {before:Dt} {acc:List Lf},OkB K kind p before acc B ->acc.length<=1000 ->
  (∀z∈B,LGd K kind p z/\ Qbh before (z.r,z.q)<0)/\ B.Pairwise (fun x y=>Qbh (x.r,x.q) (y.r,y.q)<0)/\ (∀y∈acc,∀z∈B,Dif y z)/\ (acc++B).length<=1000
 | [],_,acc,_,h=>⟨fun z hz=>by simp at hz,List.Pairwise.nil,fun y _ z hz=>by simp at hz,by simpa using h⟩
 | z::B,before,acc,⟨h1,h2,h3,h4,h5⟩,h=>by
  obtain⟨k,m,u,v⟩:=Qf2 h5 (by simp;omega);refine⟨fun x j=> ?_,List.pairwise_cons.2 ⟨fun x j=>(k x j).2,m⟩,fun y hy x j=> ?_,by simpa using v⟩
  ·rcases List.mem_cons.1 j with rfl|j
   ·exact⟨h1,h2⟩
   ·exact⟨(k x j).1,QaF.dot.tr _ _ _ h2 (k x j).2⟩
  ·rcases List.mem_cons.1 j with rfl|j
   ·exact h3 y hy
   ·exact u y (by simp [hy]) x j
theorem QkW {kind:Int}{p:List ByteArray}:∀{B:List Lf} {before:Dt} {acc:List Lf},(∀z∈B,LGd K kind p z/\ Qbh before (z.r,z.q)<0) ->B.Pairwise (fun x y=>Qbh (x.r,x.q) (y.r,y.q)<0) ->(∀y∈acc,∀z∈B,Dif y z) ->(acc++B).length<=1000 ->OkB K kind p before acc B
 | [],_,_,_,_,_,_=>trivial
 | z::B,before,acc,h1,h2,h3,h4=>by
  obtain⟨k,m⟩:=List.pairwise_cons.1 h2;refine⟨(h1 z List.mem_cons_self).1,(h1 z List.mem_cons_self).2,fun y j=>h3 y j z List.mem_cons_self,by simp at h4;omega,?_⟩;refine QkW (fun x hx=>⟨(h1 x (List.mem_cons_of_mem _ hx)).1,k x hx⟩) m (fun y j x hx=> ?_) (by simpa using h4);rcases List.mem_append.1 j with j|j
  ·exact h3 y j x (List.mem_cons_of_mem _ hx)
  ·simp at j;subst j;exact Qi6 (k x hx)
structure VB (K:Int ->Int ->Bool)(B:List Lf):Prop where
 ok:∀z∈B,QbV z/\ K z.r z.q=true
 ord:B.Pairwise (fun x y=>QaG x y<0)
 dif:B.Pairwise Dif
theorem VB.app {A B:List Lf}(h:VB K A)(k:VB K B)(h1:∀a∈A,∀b∈B,QaG a b<0)(h2:∀a∈A,∀b∈B,Dif a b):VB K (A++B):=
 ⟨fun z hz=>(List.mem_append.1 hz).elim (h.ok z) (k.ok z),List.pairwise_append.2 ⟨h.ord,k.ord,h1⟩,List.pairwise_append.2 ⟨h.dif,k.dif,h2⟩⟩
theorem VB.parts {A B:List Lf}(h:VB K (A++B)):VB K A/\ VB K B/\ (∀a∈A,∀b∈B,Dif a b):=by
 obtain⟨q,r,_⟩:=List.pairwise_append.1 h.ord;obtain⟨j,k,m⟩:=List.pairwise_append.1 h.dif;exact⟨⟨fun z hz=>h.ok z (by simp [hz]),q,j⟩,⟨fun z hz=>h.ok z (by simp [hz]),r,k⟩,m⟩
theorem Qd6 {v:ByteArray}:emB v=true↔v=ByteArray.empty:=by
 unfold emB;rw [Lib.toList_data];obtain⟨⟨l⟩⟩:=v;cases l with
 | nil=>simp;rfl
 | cons a l=>simp;intro h;injection h with h;injection h with h;cases h
theorem LGd.ok1 {kind:Int}{p:List ByteArray}{z:Lf}(h:LGd K kind p z)(hp:QaQ p):QbV z:=by
 refine⟨by rw [h.p];exact hp,h.v,fun hf=> ?_⟩;rw [h.fl] at hf;exact Qd6.2 (h.e (of_decide_eq_true hf))
theorem LGd.kd' {kind:Int}(hk:kind=1 \/kind=2){p:List ByteArray}{z:Lf}(h:LGd K kind p z):kd z.fl=kind:=by
 rw [h.fl];rcases hk with rfl|rfl<;>rfl
def GrS (K:Int ->Int ->Bool)(E:List ByteArray ->List Lf ->List Int ->Prop)(p:List ByteArray)(acc:List Lf)(g:Gr3):Prop:=
 (g.2.1≠[]/\∀z∈g.2.1,nx p z=some g.1)/\ (if g.1.2=3 then E (p++[g.1.1]) g.2.1 g.2.2 else g.2.2=mB g.2.1 g.1.2)/\ VB K g.2.1/\ (∀y∈acc,∀z∈g.2.1,Dif y z)/\ (acc++g.2.1).length<=1000
def Qoo (K:Int ->Int ->Bool)(d:Nat):Prop:=∀p acc B U,RT K d p acc B U ->QkV p ->acc.length<=1000 ->EnT d p B U/\ VB K B/\ (∀z∈B,nx p z≠none)/\ (∀y∈acc,∀z∈B,Dif y z)/\ (acc++B).length<=1000/\ (p≠[] ->B≠[])
theorem QjR {d:Nat}(ih:Qoo K d){p:List ByteArray}(hp:QkV p)(h8:p.length<8){acc:List Lf}(ha:acc.length<=1000){g:Gr3}(hn:g.1.1.size≠0/\ g.1.1.size<=40)(h:RD K (RT K d) p g.1 acc g.2.1 g.2.2):GrS K (EnT d) p acc g:=by
 unfold RD at h;unfold GrS;have u:=hp.snoc hn.1 hn.2;by_cases m:g.1.2=3
 ·rw [if_pos m] at h ⊢;obtain⟨y,t,o,i,s,A⟩:=ih _ _ _ _ h u ha;refine⟨⟨A (by simp),fun z hz=> ?_⟩,y,t,i,s⟩;have E:g.1=(g.1.1,3):=by rw [<- m]
  rw [E];exact QcC.2 (o z hz)
 ·rw [if_neg m] at h ⊢;obtain⟨M,O,H,Q,U⟩:=h;obtain⟨j,v,Z,G⟩:=Qf2 Q ha;have Y:QaQ (p++[g.1.1]):=u.pth (by simp) (by simp;omega);refine⟨⟨O,fun z hz=> ?_⟩,U,⟨fun z hz=>⟨(j z hz).1.ok1 Y,(j z hz).1.k⟩,?_,v.imp Qi6⟩,Z,G⟩
  ·rw [Qm6 (j z hz).1.p,(j z hz).1.kd' M]
  ·refine List.Pairwise.imp_of_mem ?_ v;intro a b q r V;rw [QfQ ((j a q).1.p.trans (j b r).1.p.symm) ((j a q).1.fl.trans (j b r).1.fl.symm)];exact V
theorem QgU {d:Nat}(ih:Qoo K d){p:List ByteArray}(hp:QkV p)(h8:p.length<8):∀{G:List Gr3} {before:Ky} {acc:List Lf},acc.length<=1000 ->RK K (RT K d) p before acc G ->
  (∀g∈G,(g.2.1≠[]/\∀z∈g.2.1,nx p z=some g.1)/\ (if g.1.2=3 then EnT d (p++[g.1.1]) g.2.1 g.2.2 else g.2.2=mB g.2.1 g.1.2))/\ (G.map Prod.fst).Pairwise (fun x y=>Qb7 x y<0)/\ (∀g∈G,Qb7 before g.1<0)/\
  VB K (G.flatMap fun g=>g.2.1)/\ (∀y∈acc,∀z∈G.flatMap (fun g=>g.2.1),Dif y z)/\ (acc++G.flatMap fun g=>g.2.1).length<=1000
 | [],before,acc,ha,_=>⟨fun g hg=>by simp at hg,by simp,fun g hg=>by simp at hg,⟨fun z m=>by simp at m,by simp,by simp⟩,fun y _ z m=>by simp at m,by simpa using ha⟩
 | g::G,before,acc,ha,⟨⟨n1,n2,n3⟩,hD,hR⟩=>by
  obtain⟨u,o,i,s,A⟩:=QjR ih hp h8 ha ⟨n1,n2⟩ hD;obtain⟨r1,r2,q,h,r,t⟩:=QgU ih hp h8 A hR;refine⟨fun x j=> ?_,?_,fun x j=> ?_,?_,fun y hy z m=> ?_,?_⟩
  ·rcases List.mem_cons.1 j with rfl|j
   ·exact⟨u,o⟩
   ·exact r1 x j
  ·rw [List.map_cons,List.pairwise_cons];refine⟨fun k hk=> ?_,r2⟩;obtain⟨x,j,rfl⟩:=List.mem_map.1 hk;exact q x j
  ·rcases List.mem_cons.1 j with rfl|j
   ·exact n3
   ·exact QaF.key.tr _ _ _ n3 (q x j)
  ·rw [List.flatMap_cons];refine i.app h (fun a ha' b hb=> ?_) (fun a ha' b hb=>r a (by simp [ha']) b hb);obtain⟨x,j,v⟩:=Qdp hb;exact QoD (u.2 a ha') ((r1 x j).1.2 b v) (q x j)
  ·rw [List.flatMap_cons] at m;rcases List.mem_append.1 m with m|m
   ·exact s y hy z m
   ·exact r y (by simp [hy]) z m
  ·rw [List.flatMap_cons,<- List.append_assoc];exact t
theorem QgV:∀d,Qoo K d
 | 0=>fun p acc B U h _ _=>h.elim
 | d+1=>fun p acc B U ⟨G,hB,hU,hl,h0,h8,hR⟩ hp ha=>by
  by_cases j:G=[]
  ·subst j;obtain rfl:B=[]:=hB;refine⟨⟨[],rfl,hU,by simp,fun g k=>by simp at k⟩,⟨fun z hz=>by simp at hz,by simp,by simp⟩,fun z hz=>by simp at hz,fun y _ z hz=>by simp at hz,by simpa using ha,fun hne=>absurd (List.length_eq_zero_iff.1 (h0 rfl)) hne⟩
  ·obtain⟨r1,r2,v,q,r,u⟩:=QgU (QgV d) hp (h8 j) ha hR;subst hB;refine⟨⟨G,rfl,hU,r2,r1⟩,q,fun z hz=> ?_,r,u,fun _ e=> ?_⟩
   ·obtain⟨g,k,m⟩:=Qdp hz;rw [(r1 g k).1.2 z m];simp
   ·cases G with
    | nil=>exact j rfl
    | cons g G=>
     rw [List.flatMap_cons,List.append_eq_nil_iff] at e;exact(r1 g List.mem_cons_self).1.1 e.1
end
theorem Qd9:∀{G:List Gr3},(∀g∈G,g.2.1≠[]) ->G.length<=(G.flatMap fun g=>g.2.1).length
 | [],_=>by simp
 | g::G,h=>by
  have j:=Qd9 (G:=G) (fun x hx=>h x (List.mem_cons_of_mem _ hx));have:1<=g.2.1.length:=List.length_pos_iff.2 (h g List.mem_cons_self);rw [List.flatMap_cons,List.length_append,List.length_cons];omega
theorem Qfe {p:List ByteArray}{x:Lf}{y:Ky}(hx:QbV x)(h:nx p x=some y):y.1.size≠0/\ p.length<8:=by
 rw [Qbi] at h;obtain⟨⟨_,m⟩,e⟩:=h;have j:gS x.p p.length=y.1:=congrArg Prod.fst e;have k:=(hx.1.2.2 p.length m).1;rw [j] at k;have:=hx.1.2.1;exact⟨by omega,by omega⟩
theorem QiX {s:ByteArray}{k:Int}(h:s.size≠0):Qb7 (ByteArray.empty,0) (s,k)<0:=by
 have e:ltS ByteArray.empty s=true:=by
  unfold ltS;rw [Lib.toList_data,Lib.toList_data];obtain⟨⟨l⟩⟩:=s;cases l with
  | nil=>exact absurd rfl h
  | cons a l=>rfl
 unfold Qb7 QbE;simp [e,orI]
section
variable {K : Int -> Int -> Bool}
def Qom (K:Int ->Int ->Bool)(d:Nat):Prop:=∀p acc B U,EnT d p B U ->VB K B ->(∀y∈acc,∀z∈B,Dif y z) ->(acc++B).length<=1000 ->p.length+d=9 ->(p≠[] ->B≠[]) ->RT K d p acc B U
theorem Qon {d:Nat}(hK:KOk K)(ih:Qom K d){p:List ByteArray}(hd:p.length+(d+1)=9){acc:List Lf}{g:Gr3}(h1:g.2.1≠[]/\∀z∈g.2.1,nx p z=some g.1)(h2:if g.1.2=3 then EnT d (p++[g.1.1]) g.2.1 g.2.2 else g.2.2=mB g.2.1 g.1.2)
  (hv:VB K g.2.1) (hx:∀y∈acc,∀z∈g.2.1,Dif y z) (hl:(acc++g.2.1).length<=1000):RD K (RT K d) p g.1 acc g.2.1 g.2.2:=by
 unfold RD;by_cases m:g.1.2=3
 ·rw [if_pos m] at h2 ⊢;exact ih _ _ _ _ h2 hv hx hl (by simp;omega) (fun _=>h1.1)
 ·rw [if_neg m] at h2 ⊢;have j:∀z∈g.2.1,z.p=p++[g.1.1]/\ kd z.fl=g.1.2:=fun z j=>Qb0 m (h1.2 z j);obtain⟨o,t⟩:=List.exists_mem_of_ne_nil _ h1.1;have v:g.1.2=1 \/g.1.2=2:=by rw [<- (j o t).2];exact Qg0 _
  refine⟨v,h1.1,by simp at hl;omega,QkW (fun z hz'=>⟨⟨(j z hz').1,?_,(hv.ok z hz').2,(hv.ok z hz').1.2.1,fun e=> ?_⟩,?_⟩) ?_ hx hl,h2⟩
  ·have:=(j z hz').2;cases e:z.fl
   ·rw [e] at this;rw [<- this];rfl
   ·rw [e] at this;rw [<- this];rfl
  ·have:=(j z hz').2;rw [e] at this;refine Qd6.1 ((hv.ok z hz').1.2.2 ?_);cases k:z.fl
   ·rw [k] at this;simp [kd] at this
   ·rfl
  ·obtain⟨i,_,s,_⟩:=hK _ _ (hv.ok z hz').2;unfold Qbh orI QaT;simp only;by_cases e:0<z.r
   ·simp [e]
   ·have k:z.r=0:=by omega
    simp [k];omega
  ·refine List.Pairwise.imp_of_mem ?_ hv.ord;intro a b q u h;rwa [QfQ ((j a q).1.trans (j b u).1.symm) (Qlq ((j a q).2.trans (j b u).2.symm))] at h
theorem QmR {d:Nat}(hK:KOk K)(ih:Qom K d){p:List ByteArray}(hd:p.length+(d+1)=9):∀{G:List Gr3} {before:Ky} {acc:List Lf},
  (∀g∈G,(g.2.1≠[]/\∀z∈g.2.1,nx p z=some g.1)/\ (if g.1.2=3 then EnT d (p++[g.1.1]) g.2.1 g.2.2 else g.2.2=mB g.2.1 g.1.2)) ->(G.map Prod.fst).Pairwise (fun x y=>Qb7 x y<0) ->(∀g∈G,Qb7 before g.1<0) ->
  VB K (G.flatMap fun g=>g.2.1) ->(∀y∈acc,∀z∈G.flatMap (fun g=>g.2.1),Dif y z) ->(acc++G.flatMap fun g=>g.2.1).length<=1000 ->RK K (RT K d) p before acc G
 | [],_,_,_,_,_,_,_,_=>trivial
 | g::G,before,acc,h1,h2,h3,h4,h5,h6=>by
  rw [List.flatMap_cons] at h4 h5 h6;obtain⟨r,t,o⟩:=h4.parts;rw [List.map_cons,List.pairwise_cons] at h2;obtain⟨k,u⟩:=h1 g List.mem_cons_self;obtain⟨q,m⟩:=List.exists_mem_of_ne_nil _ k.1;have v:=Qfe (r.ok q m).1 (k.2 q m);have h:=QdO (r.ok q m).1 (k.2 q m);refine⟨⟨v.1,h,h3 g List.mem_cons_self⟩,Qon hK ih hd k u r (fun y j z hz=>h5 y j z (by simp [hz])) (by simp at h6 ⊢;omega),?_⟩;refine QmR hK ih hd (fun x hx=>h1 x (List.mem_cons_of_mem _ hx)) h2.2 (fun x hx=>h2.1 x.1 (List.mem_map.2 ⟨x,hx,rfl⟩)) t (fun y j z hz=> ?_) (by rw [List.append_assoc];exact h6);rcases List.mem_append.1 j with j|j
  ·exact h5 y j z (by simp [hz])
  ·exact o y j z hz
theorem QmS (hK:KOk K):∀d,Qom K d
 | 0=>fun p acc B U h=>h.elim
 | d+1=>fun p acc B U ⟨G,hB,hU,hk,hG⟩ hv hx hl hd hp=>by
  subst hB;have q:=Qd9 (G:=G) (fun g j=>(hG g j).1.1);refine⟨G,rfl,hU,by rw [List.length_append] at hl;omega,fun e=> ?_,fun e=> ?_,QmR hK (QmS hK d) hd hG hk (fun g j=> ?_) hv hx hl⟩
  ·by_cases m:p=[]
   ·rw [m];rfl
   ·exact absurd (by rw [e];rfl) (hp m)
  ·obtain⟨g,j⟩:=List.exists_mem_of_ne_nil _ e;obtain⟨z,k⟩:=List.exists_mem_of_ne_nil _ (hG g j).1.1;have:z∈G.flatMap fun g=>g.2.1:=by simpa using ⟨g.1.1,g.1.2,g.2.1,⟨g.2.2,j⟩,k⟩
   exact(Qfe (hv.ok z this).1 ((hG g j).1.2 z k)).2
  ·obtain⟨z,k⟩:=List.exists_mem_of_ne_nil _ (hG g j).1.1;have:z∈G.flatMap fun g=>g.2.1:=by simpa using ⟨g.1.1,g.1.2,g.2.1,⟨g.2.2,j⟩,k⟩
   exact QiX (Qfe (hv.ok z this).1 ((hG g j).1.2 z k)).1
end
theorem Qfx {R F T:Nat ->Int}{n:Nat}{l:List Lf}(h:QbQ R F T n l l.length):∀(d:Nat) (p:List ByteArray),p.length+d=9 ->0<d ->EnT d p (uL l p l.length) (tB l d p)
 | 0,_,_,h0=>by omega
 | d+1,p,hd,_=>by
  obtain⟨E,M⟩:=QdJ p h l.length zL;have s:∀y∈kS l p l.length,∃j,j<l.length/\ nx p (gL l j)=some y:=fun y m=>(M y).1 m;refine⟨(kS l p l.length).map fun y=>(y,dsK l p y l.length,if y.2=3 then tB l d (p++[y.1]) else mB (dsK l p y l.length) y.2),?_,?_,?_,?_⟩
  ·rw [List.flatMap_map,<- QdC p h l.length zL]
  ·rw [Qfp,List.length_map,List.flatMap_map];rfl
  ·rw [List.map_map];simpa [Function.comp_def] using E
  ·intro g t;obtain⟨y,m,rfl⟩:=List.mem_map.1 t;obtain⟨j,r,u⟩:=s y m;refine⟨⟨?_,fun z hz=> ?_⟩,?_⟩
   ·exact List.ne_nil_of_mem (Qbc.2 ⟨j,r,u,rfl⟩)
   ·obtain⟨i,_,o,rfl⟩:=Qbc.1 hz;exact o
   ·by_cases k:y.2=3
    ·simp only [if_pos k];have q:y=(y.1,3):=by rw [<- k]
     have v:dsK l p y l.length=uL l (p++[y.1]) l.length:=by
      conv=>lhs;rw [q]
      exact Qi8 l p y.1 l.length
     rw [v];have b:nx (p++[y.1]) (gL l j)≠none:=QcC.1 (by rw [<- q];exact u);have A:=(Qff.1 b).2;have O:=(h j r).1.1.2.1;simp at A;exact Qfx h d (p++[y.1]) (by simp;omega) (by omega)
    ·simp only [if_neg k]
theorem QkX {R F T:Nat ->Int}{n:Nat}{l:List Lf}:VB (fun r q=>Qco R F T r q q n) l↔QbQ R F T n l l.length/\ Dis l l.length:=by
 have m:∀{i:Nat} (k:i<l.length),gL l i=l[i]:=fun{i} k=>by simp [gL,List.getD,k]
 constructor
 ·intro h;refine⟨fun i k=> ?_,fun i k j hj=> ?_⟩
  ·rw [m k];refine⟨(h.ok _ (List.getElem_mem k)).1,(h.ok _ (List.getElem_mem k)).2,fun h0=> ?_⟩;rw [m (by omega:i - 1<l.length)];exact List.pairwise_iff_getElem.1 h.ord (i - 1) i (by omega) k (by omega)
  ·rw [m k,m (by omega:j<l.length)];exact List.pairwise_iff_getElem.1 h.dif j i (by omega) k hj
 ·rintro⟨u,v⟩;refine⟨fun z hz=> ?_,List.pairwise_iff_getElem.2 fun i j k hj hij=> ?_,List.pairwise_iff_getElem.2 fun i j k hj hij=> ?_⟩
  ·obtain⟨i,k,rfl⟩:=List.getElem_of_mem hz;have:=u i k;rw [m k] at this;exact⟨this.1,this.2.1⟩
  ·have:=u.lt j hij hj;rwa [m k,m hj] at this
  ·have:=v j hj i hij;rwa [m k,m hj] at this
theorem Qe7 {f:Nat ->Int}(hf:Byt f){n:Nat}{R F T:Nat ->Int}{m:Nat}(hK:KOk (fun r q=>Qco R F T r q q m)){x x':Nat}{l:List Lf}:
  Qcz f n (fun r q=>Qco R F T r q q m) 9 [] [] x=some (l,x')/\ x<=n↔(QbQ R F T m l l.length/\ Dis l l.length/\ l.length<=1000)/\ At f x (tB l 9 [])/\ x'=x+(tB l 9 []).length/\ x'<=n:=by
 rw [Qh5 hf hK 9 [] [] x l x'];constructor
 ·rintro⟨B,U,o,E,k,v,u⟩;rw [List.nil_append] at o;subst o;obtain⟨b,p,O,Q,t,V⟩:=QgV 9 [] [] l U E (fun s hs=>by simp at hs) (by simp);have A:U=tB l 9 []:=by
   have:=QkS 9 [] l U [] [] b (fun z hz=>by simp at hz) (fun z hz=>by simp at hz);simpa using this
  subst A;obtain⟨j,g⟩:=QkX.1 p;simp only [List.nil_append] at t ⊢;exact⟨⟨j,g,t⟩,k,v,u⟩
 ·rintro⟨⟨j,g,M⟩,k,v,u⟩;have i:=Qfx j 9 [] rfl (by decide);rw [QjF j _ zL,List.take_length] at i;exact⟨l,tB l 9 [],rfl,QmS hK 9 [] [] l _ i (QkX.2 ⟨j,g⟩) (fun y hy=>by simp at hy) (by simpa using M) rfl (fun h=>absurd rfl h),k,v,u⟩
open Go.ChangeShapes Go.WideShapes Go.ChangeAt Go.RowKit Go.Maps
variable {EX : Nat -> Option Value}
theorem Qnr {w:World}{bm n:Nat}{D:DataW Value}{G:Int ->Value}{L:Int ->List (Int×Int)}(h:Qdk w bm n D G L)(r f t:Int)(hr:(Lit.int .i64 r).wf=true)(hs:Srt (L r))(hl:(L r).length<=1000000):
  Calls Tryz.prog 114 #[.map (some bm),.int .i64 r,.agg #[.int .i64 f,.int .i64 t]] w fun e w'=>e=.returned (.bool (inB (L r) f t))/\ Below w.heap.size w w':=by
 obtain⟨k,u⟩:∃k,w.alloc (.cells #[.int .i64 f,.int .i64 t] 148)=k:=⟨_,rfl⟩;have z:Below w.heap.size w k:=by rw [<- u];exact zO _ _
 have z0:k.heap.size=w.heap.size+1:=by rw [<- u];simp
 have x0:k.cell? ⟨w.heap.size,0,none⟩=some (.int .i64 f):=by rw [<- u];simp
 have N:k.cell? ⟨w.heap.size,1,none⟩=some (.int .i64 t):=by rw [<- u];simp
 have O:=h.below z;have Y:=O.look r hr;have o:=O.rows r;obtain⟨a,c,e,J,Ha⟩:∃a c,G r=.slice a (L r).length c/\ SS k a (L r).length (fun i=>((L r).getD i (0,0)).1) (fun i=>((L r).getD i (0,0)).2)/\ ((L r).length≠0 ->∃g,a=some ⟨g,0,none⟩):=by
  rcases o.2 with ⟨e,M⟩|⟨g,cap,F,e,_⟩
  ·exact⟨none,0,by rw [e,M],.inl M,fun h=>absurd M h⟩
  ·exact⟨_,cap,e,by rw [e] at o;exact QhC o rfl,fun _=>⟨g,rfl⟩⟩
 rw [e] at Y;have y:=hid J;have A:=hid (Qlm hs f t);have E:Hid (∀i j,i<j ->j<(L r).length ->(fun i=>((L r).getD i (0,0)).2) i<(fun i=>((L r).getD i (0,0)).2) j):=fun i j hij hj=>by
  have:=Qfm hs hij hj;show ((L r).getD i (0,0)).2<((L r).getD j (0,0)).2;omega
 clear e o O h hs J;generalize Hb:(L r).length=m at*;go_enter Tryz.func114,Tryz.ntmps114;go_wp2_with fail;try rw [u]
 refine(Qiw a m c _ _ t _ (by omega) y.out E.out).mono ?_;rintro e K ⟨i,P,rfl,C,Z,U,q⟩;clear u;have s:=hid (A i C Z U);have H:=(q.cell (p:=⟨w.heap.size,0,none⟩) (show w.heap.size<k.heap.size by omega)).trans x0;have b:=hid (Qab z q);by_cases V:i<m
 ·have B:∃g off,a=some ⟨g,off,none⟩/\ g<K.heap.size/\ K.cell? ⟨g,off+i*2,none⟩=some (.int .i64 ((L r).getD i (0,0)).1):=by
   rcases y.out with h|⟨g,off,rfl,Q,X⟩
   ·omega
   ·exact⟨g,off,rfl,Nat.lt_of_lt_of_le Q q.size,(q.cell (p:=⟨g,off+i*2,none⟩) Q).trans (X i V).1⟩
  obtain⟨g,off,rfl,Q,I⟩:=B;have T:(0:Int)<=(i:Int):=Int.natCast_nonneg _;have W:(i:Int)<(m:Int):=by omega
  generalize R:((L r).getD i (0,0)).1=fi at*;clear Z U q x0 N Y y E A z;cases hle:decide (fi<=f) with
  | false=>
   have v:Hid (inB (L r) f t=false):=by unfold Hid;rw [s.out,hle];simp
   go_wp2_with fail;refine zR (S:=fun w'=>w'.cell? ⟨w.heap.size,0,none⟩=some (.int .i64 f)/\ w'.cell? ⟨g,off+i*2,none⟩=some (.int .i64 fi)) ⟨H,I⟩ (fun qh=> ?_);refine tZ 0 20 ?_;refine tZ 1 21 ?_;refine tZ 2 22 ?_;refine tZ 3 23 ?_;refine tZ 4 24 ?_;refine tZ 5 25 ?_;refine tZ 6 26 ?_;refine tZ 7 27 ?_;refine tZ 8 28 ?_;refine tZ 9 29 ?_;refine tZ 10 30 ?_;refine tZ 11 31 ?_;refine tZ 12 32 ?_;refine tZ 13 33 ?_;refine tZ 14 6 ?_;refine zD ?_;go_wp2_with fail;go_ret;exact⟨QbA v.symm,b.drew⟩
  | true=>
   have v:Hid (inB (L r) f t=true):=by unfold Hid;rw [s.out,hle];simp [V]
   go_wp2_with fail;refine zR (S:=fun w'=>w'.cell? ⟨w.heap.size,0,none⟩=some (.int .i64 f)/\ w'.cell? ⟨g,off+i*2,none⟩=some (.int .i64 fi)) ⟨H,I⟩ (fun qh=> ?_);refine tZ 0 20 ?_;refine tZ 1 21 ?_;refine tZ 2 22 ?_;refine tZ 3 23 ?_;refine tZ 4 24 ?_;refine tZ 5 25 ?_;refine tZ 6 26 ?_;refine tZ 7 27 ?_;refine tZ 8 28 ?_;refine tZ 9 29 ?_;refine tZ 10 30 ?_;refine tZ 11 31 ?_;refine tZ 12 32 ?_;refine tZ 13 33 ?_;refine tZ 14 6 ?_;refine zD ?_;go_wp2_with fail;go_ret;exact⟨QbA v.symm,b.drew⟩
 ·have v:Hid (inB (L r) f t=false):=by unfold Hid;rw [s.out];simp [V]
  have Hc:decide ((i:Int)<(m:Int))=false:=by simp;omega
  have Hd:decide (i<m)=false:=by simp;omega
  clear Z U q x0 N Y y E A z;go_wp2_with fail;refine zR (S:=fun w'=>w'.cell? ⟨w.heap.size,0,none⟩=some (.int .i64 f)) H (fun qh=> ?_);refine tZ 0 20 ?_;refine tZ 1 21 ?_;refine tZ 2 22 ?_;refine tZ 3 23 ?_;refine tZ 4 24 ?_;refine uZ 5 25 ?_;refine uZ 6 26 ?_;refine uZ 7 27 ?_;refine uZ 8 28 ?_;refine uZ 9 29 ?_;refine uZ 10 30 ?_;refine uZ 11 31 ?_;refine uZ 12 32 ?_;refine tZ 13 33 ?_;refine tZ 14 6 ?_;refine zD ?_;go_wp2_with fail;go_ret;exact⟨QbA v.symm,b.drew⟩
theorem Qpk {w:World}{bm n:Nat}{D:DataW Value}{G:Int ->Value}{L:Int ->List (Int×Int)}(h:Qdk w bm n D G L)(r q:Int)(hr:(Lit.int .i64 r).wf=true)(hs:Srt (L r))(hl:(L r).length<=1000000):
  Calls Tryz.prog 90 #[.map (some bm),.agg #[.int .i64 r,.int .i64 q]] w fun e w'=>e=.returned (.bool (inB (L r) q q))/\ Below w.heap.size w w':=by
 have j:Below w.heap.size w (w.alloc (.cells #[.int .i64 r,.int .i64 q] 67)):=zO _ _;have k:=hid (Qnr (h.below j) r q q hr hs hl);have u:=hid j;clear j h hs;go_enter Tryz.func90,Tryz.ntmps90;go_wp2_with fail;refine k.mono ?_;rintro e w1 ⟨rfl,m⟩;have v:=hid (Qab u.out m);clear m k;go_wp2_with fail;go_ret;exact⟨rfl,v.out⟩
noncomputable def rdD (f:Nat ->Int)(n x:Nat):Option ((Nat×Nat)×Nat):=(rd f n x 7).bind fun a=>(rd f n a.2 1000000000).bind fun b=>some ((a.1,b.1),b.2)
theorem Qpf (cb B:Nat)(a:Option Addr)(n c x:Nat)(f:Nat ->Int)(aT aS aL aE:Addr)(w:World)(hn:n<=1048576)(hf:Byt f)(hcur:Cur EX w cb a n c (x:Int))(hs:Seg w a n f)(hab:∀y,a=some y ->y.block≠cb)(hE:QcK w B aT aS aL aE)(hBc:B<=cb):
  Calls Tryz.prog 160 #[.pointer (some ⟨cb,0,none⟩)] w fun e w'=>w.grownBy w' (some cb)/\
   ((∃r q x':Nat,rdD f n x=some ((r,q),x')/\ e=.returned (.tuple #[.agg #[.int .i64 (r:Int),.int .i64 (q:Int)],.nilIface])/\ Cur EX w' cb a n c (x':Int)) \/
    (rdD f n x=none/\∃(r q:Int) (t:TypeId) (v:Value) (y:Int),e=.returned (.tuple #[.agg #[.int .i64 r,.int .i64 q],.iface t v])/\ Cur EX w' cb a n c y)):=by
 have b:=hcur.lt;obtain⟨W,j⟩:∃W,w.alloc (.cells #[.int .i64 0,.int .i64 0] 67)=W:=⟨_,rfl⟩;have F:Below w.heap.size w W:=by rw [<- j];exact zO _ _
 have zW:W.heap.size=w.heap.size+1:=by rw [<- j];simp
 have i:w.grownBy W (some cb):=Qag (Qbo w (some cb)) F;have I:Hid (∀w1,W.grownBy w1 (some cb) ->w1.cell? ⟨w.heap.size,0,none⟩=some (.int .i64 0)/\ w1.cell? ⟨w.heap.size,1,none⟩=some (.int .i64 0)/\ w1.frozen? ⟨w.heap.size,0,none⟩=false/\ w1.frozen? ⟨w.heap.size,1,none⟩=false):=by
  intro w1 g;have H:=g.block w.heap.size (by omega) (by simp;omega);refine⟨?_,?_,?_,?_⟩
  ·rw [World.cell?_of_block H,<- j];simp
  ·rw [World.cell?_of_block H,<- j];simp
  ·have e:w1.frozen? ⟨w.heap.size,0,none⟩=W.frozen? ⟨w.heap.size,0,none⟩:=by unfold World.frozen?;rw [H]
   rw [e,<- j];simp
  ·have e:w1.frozen? ⟨w.heap.size,1,none⟩=W.frozen? ⟨w.heap.size,1,none⟩:=by unfold World.frozen?;rw [H]
   rw [e,<- j];simp
 have Ha:cb<W.heap.size:=by omega
 have X:=hid (QbG cb B a n c x 7 f aT aS aL aE W hn hf (hcur.below F b) (hs.grown i hab) hab (hE.grown i hBc b) hBc (by omega) (by omega));have K:=hid (hE.grown i hBc b);have T:=hid (hs.grown i hab);have D:=hid i;clear hE hcur hs i F;go_enter Tryz.func160,Tryz.ntmps160;go_wp2_with fail;try rw [j]
 clear j;refine X.mono ?_;rintro e w1 ⟨m,⟨V,x1,u,hV,rfl,A⟩|⟨u,t,v,y,rfl,A⟩⟩
 ·rw [Qa4] at u;have C:=hid (QbG cb B a n c x1 1000000000 f aT aS aL aE w1 hn hf A (T.grown m hab) hab (K.grown m hBc Ha) hBc (by omega) (by omega));have h:=hid m;have G:=hid u;clear m u A X K;go_wp2_with fail;refine C.mono ?_;rintro e w2 ⟨o,⟨M,x2,z,hM,rfl,E⟩|⟨z,t,v,y,rfl,E⟩⟩
  ·rw [Qa4] at z;obtain⟨O,Q,P,R⟩:=I _ (Qaf h.out o);have L:=hid (Qaf D.out (Qaf h.out o));have N:=hid z;have J:=hid E;clear o z E C;go_wp2_with fail;obtain⟨Z,k,U,Y,s,p⟩:=box2 (.int .i64 ((V:Int))) (.int .i64 ((M:Int))) L.out J.out b O Q;rw [<- k];clear k;refine zF (v:=.tuple #[.agg #[.int .i64 ((V:Int)),.int .i64 ((M:Int))],.nilIface]) (by simp [results,Tryz.results160,go_sem,U,Y]) ⟨s,.inl ⟨V,M,x2,?_,rfl,p⟩⟩;unfold rdD;rw [G.out];simp only [Option.bind_some];rw [N.out];rfl
  ·rw [Qa4] at z;obtain⟨O,Q,P,R⟩:=I _ (Qaf h.out o);have L:=hid (Qaf D.out (Qaf h.out o));have N:=hid z;have J:=hid E;clear o z E C;go_wp2_with fail;obtain⟨Z,k,U,Y,s,p⟩:=box2 (.int .i64 (V:Int)) (.int .i64 0) L.out J.out b O Q;rw [<- k];clear k;refine zF (v:=.tuple #[.agg #[.int .i64 (V:Int),.int .i64 0],.iface t v]) (by simp [results,Tryz.results160,go_sem,U,Y]) ⟨s,.inr ⟨?_,_,_,_,_,_,rfl,p⟩⟩;unfold rdD;rw [G.out];simp only [Option.bind_some];rw [N.out];rfl
 ·rw [Qa4] at u;obtain⟨O,Q,P,R⟩:=I _ m;have h:=hid (Qaf D.out m);have G:=hid u;have S:=hid A;clear m u A X K;go_wp2_with fail;obtain⟨Z,k,U,Y,s,p⟩:=box2 (.int .i64 0) (.int .i64 0) h.out S.out b O Q;rw [<- k];clear k;refine zF (v:=.tuple #[.agg #[.int .i64 0,.int .i64 0],.iface t v]) (by simp [results,Tryz.results160,go_sem,U,Y]) ⟨s,.inr ⟨?_,_,_,_,_,_,rfl,p⟩⟩;unfold rdD;rw [G.out];rfl
structure UsD (w:World)(ub:Nat)(acc:List Lf)(D:DataW Value):Prop where
 own:w.ownsMap Tryz.prog 67 Qit ub acc.length D
 tidy:Tidy D
 has':∀r q kl,keyOf Tryz.prog 67 (Qgc r q)=some kl ->(has D kl=true↔∃y∈acc,y.r=r/\ y.q=q)
 sz:size D=acc.length
 val:∀r q kl,keyOf Tryz.prog 67 (Qgc r q)=some kl ->D.atKey kl (.held (.agg #[]))=.held (.agg #[])
def UsM (w:World)(ub:Nat)(acc:List Lf):Prop:=∃D,UsD w ub acc D
theorem UsM.same {w w':World}{ub:Nat}{acc:List Lf}(h:UsM w ub acc)(e:w'.heap[ub]? =w.heap[ub]?):UsM w' ub acc:=by
 obtain⟨D,h⟩:=h;exact⟨D,QbI h.own e,h.tidy,h.has',h.sz,h.val⟩
theorem UsM.lt {w:World}{ub:Nat}{acc:List Lf}(h:UsM w ub acc):ub<w.heap.size:=by
 obtain⟨D,h⟩:=h;exact h.own.lt
theorem UsM.made (w:World):UsM (w.alloc (.map #[] 0)) w.heap.size []:=
 ⟨.map [],World.ownsMap_made w _ _ _,tidy_empty,fun r q kl hk=>⟨fun h=>by simp [has] at h,fun⟨y,hy,_⟩=>by simp at hy⟩,by simp [size],fun r q kl hk=>rfl⟩
theorem UsD.step {w w':World}{ub:Nat}{acc:List Lf}{D:DataW Value}{z:Lf}{kl:Lit}(h:UsD w ub acc D)(hk:keyOf Tryz.prog 67 (Qgc z.r z.q)=some kl)(hf:∀y∈acc,¬(y.r=z.r/\ y.q=z.q))
  (ho:w'.ownsMap Tryz.prog 67 Qit ub (acc.length+1) (D.put kl (.held (.agg #[])))):UsD w' ub (acc++[z]) (D.put kl (.held (.agg #[]))):=by
 have m:=QaD.key hk;have t:=size_put (k:=kl) h.tidy (.held (.agg #[]));have g:¬has D kl=true:=fun hh=>by
  obtain⟨y,j,e⟩:=(h.has' _ _ _ hk).1 hh;exact hf y j e
 refine⟨by simpa using ho,h.tidy.put m _,fun r q kl' hk'=> ?_,?_,fun r q kl' hk'=> ?_⟩
 ·by_cases e:kl'=kl
  ·subst e;obtain⟨u,v⟩:=Qeo hk hk';rw [has_put_same h.tidy.isMap m];exact⟨fun _=>⟨z,by simp,u,v⟩,fun _=>rfl⟩
  ·rw [has_put_other e,h.has' r q kl' hk'];constructor
   ·rintro⟨y,j,r1⟩;exact⟨y,by simp [j],r1⟩
   ·rintro⟨y,j,r1,r2⟩;rcases List.mem_append.1 j with j|j
    ·exact⟨y,j,r1,r2⟩
    ·simp at j;subst j;rw [r1,r2,hk'] at hk;injection hk with hk;exact absurd hk e
 ·rw [t,if_neg g,h.sz];simp
 ·by_cases e:kl'=kl
  ·subst e;rw [atKey_put_same h.tidy.isMap m]
  ·rw [atKey_put_other e];exact h.val r q kl' hk'
def exT (kb ub:Nat)(i:Nat):Option Value:=if i=2 then some (.map (some kb)) else if i=3 then some (.map (some ub)) else none
def UsP (Kb:Bool)(ub:Nat)(acc:List Lf)(z:Lf)(w:World)(e:Ending)(w':World):Prop:=
 (Kb=true/\ (∀y∈acc,¬(y.r=z.r/\ y.q=z.q))/\ acc.length≠1000/\ e=.returned .nilIface/\ UsM w' ub (acc++[z])/\ w.grownBy w' (some ub)) \/
 (¬(Kb=true/\ (∀y∈acc,¬(y.r=z.r/\ y.q=z.q))/\ acc.length≠1000)/\ (∃t v,e=.returned (.iface t v))/\ Below w.heap.size w w')
theorem QkR (w:World):(zeroValue 255).run Tryz.prog w=.ok (.agg #[]) w:=by kernel_rfl
theorem Qpq (tb B kb ub nn:Nat)(a:Option Addr)(n c:Nat)(x:Int)(aT aS aL aE:Addr)(D:DataW Value)(G:Int ->Value)(L:Int ->List (Int×Int))(acc:List Lf)(z:Lf)(w:World)
  (hcur:Cur (exT kb ub) w tb a n c x) (hE:QcK w B aT aS aL aE) (j:B<=w.heap.size) (hU:UsM w ub acc) (hG:Qdk w kb nn D G L) (hS:∀r,Srt (L r)/\ (L r).length<=1000000) (hr:(Lit.int .i64 z.r).wf=true) (hq:(Lit.int .i64 z.q).wf=true) (hl:acc.length<=1000):
  Calls Tryz.prog 161 #[.pointer (some ⟨tb,0,none⟩),.agg #[.int .i64 z.r,.int .i64 z.q]] w fun e w'=>UsP (inB (L z.r) z.q z.q) ub acc z w e w':=by
 obtain⟨P,hP⟩:∃P,UsP (inB (L z.r) z.q z.q) ub acc z w=P:=⟨_,rfl⟩;rw [hP];have Y:=hid hP;clear hP;obtain⟨W,o⟩:∃W,w.alloc (.cells #[.int .i64 z.r,.int .i64 z.q] 67)=W:=⟨_,rfl⟩;have J:Below w.heap.size w W:=by rw [<- o];exact zO _ _
 have x0:W.cell? ⟨w.heap.size,0,none⟩=some (.int .i64 z.r):=by rw [<- o];simp
 have x1:W.cell? ⟨w.heap.size,1,none⟩=some (.int .i64 z.q):=by rw [<- o];simp
 have zb:w.heap.size<W.heap.size:=by rw [<- o];simp
 have X:=hcur.below J hcur.lt;have zt:=X.lt;have kc:W.cell? ⟨tb,2,none⟩=some (.map (some kb)):=(X.2.2.2 2 (by omega)).1.trans rfl;have uc:W.cell? ⟨tb,3,none⟩=some (.map (some ub)):=(X.2.2.2 3 (by omega)).1.trans rfl;have V:Hid (∀w1,Below W.heap.size W w1 ->Calls Tryz.prog 90 #[.map (some kb),.agg #[.int .i64 z.r,.int .i64 z.q]] w1 fun e w'=>e=.returned (.bool (inB (L z.r) z.q z.q))/\ Below w1.heap.size w1 w'):=hid (fun w1 N=>Qpk (hG.below (Qab J N)) z.r z.q hr (hS z.r).1 (hS z.r).2);obtain⟨Kb,Hk⟩:∃Kb,inB (L z.r) z.q z.q=Kb:=⟨_,rfl⟩;rw [Hk] at V Y;have Ho:=hid J;have HE:=hid hE;have HU:=hid hU;obtain⟨kl,Hl⟩:=Qd5 hr hq;have s:=hid Hl;clear Hk hE hU hG hS hcur X J Hl;obtain⟨b,F⟩:∃b,z.r=b:=⟨_,rfl⟩;obtain⟨i,C⟩:∃i,z.q=i:=⟨_,rfl⟩;rw [F] at x0 V;rw [C] at x1 V;rw [F,C] at o s ⊢;have A:=hid (And.intro F C);clear F C hr hq;go_enter Tryz.func161,Tryz.ntmps161;go_wp2_with fail;try rw [o]
 clear o;have H:Hid (∀w',Below W.heap.size W w' ->(Below W.heap.size W w'/\ w'.cell? ⟨tb,2,none⟩=some (.map (some kb))/\ w'.cell? ⟨w.heap.size,0,none⟩=some (.int .i64 b)/\ w'.cell? ⟨w.heap.size,1,none⟩=some (.int .i64 i))):=hid (fun w' j=>⟨j,(j.cell (p:=⟨tb,_,none⟩) zt).trans kc,(j.cell (p:=⟨w.heap.size,_,none⟩) zb).trans x0,(j.cell (p:=⟨w.heap.size,_,none⟩) zb).trans x1⟩);refine zR (S:=fun w'=>Below W.heap.size W w'/\ w'.cell? ⟨tb,2,none⟩=some (.map (some kb))/\ w'.cell? ⟨w.heap.size,0,none⟩=some (.int .i64 b)/\ w'.cell? ⟨w.heap.size,1,none⟩=some (.int .i64 i)) (H _ zI.drew) (fun qh=> ?_);refine tZ 0 7 ?_;refine tZ 1 8 ?_;refine tZ 2 9 ?_;refine tZ 3 10 ?_;refine tZ 4 11 ?_;refine cZ 5 ?_;intro K hK;go_simp;refine(V _ qh.1).mono ?_;rintro e w1 ⟨rfl,N⟩;have j:=Qab qh.1 N;refine hK.out _ _ (H _ j) (fun qh=> ?_);clear hK K;try simp only [zP]
 refine tZ 6 13 ?_;refine zD ?_;obtain⟨_,_,y0,y1⟩:=H _ j;have Hm:=(j.cell (p:=⟨tb,3,none⟩) zt).trans uc;have m:=hid (Qab Ho.out j);have Hf:=hid (HE.below (m.mono (by omega)));have I:=hid (HU.same (m.block ub HU.lt));have Hj:=hid j.size;clear qh j N H V kc uc x0 x1 HE HU;cases Kb with
 | false=>
  obtain⟨ev,ge⟩:=Hf.x7;clear y0 y1 Hm;go_wp2_with fail;rw [<- Y.out];exact .inr ⟨(fun h=>by cases h.1),⟨_,_,rfl⟩,m.out⟩
 | true=>
  obtain⟨Z,g⟩:=I.out;have Hc:∀v:World,v.heap[ub]? =w1.heap[ub]? ->(Instr.lookup 100 (.map (some ub)) (.agg #[.int .i64 b,.int .i64 i]) true).run Tryz.prog v=.ok (.tuple #[.agg #[],.bool (has Z kl)]) v:=fun v hv=>by
   have ho:v.ownsMap Tryz.prog 67 Qit ub acc.length Z:=QbI g.own hv;obtain⟨u,ps,He,hu⟩:=ho.look_ok QaD Tryz.underlying100 (QkR v) (zd:=.held (.agg #[])) (zp:=[]) rfl s.out;have R:=QeE hu;have Ht:=g.val b i kl s.out;rw [Ht] at R;injection R with R;rw [<- R] at He;exact He
  have Hr:=Hc w1.drew rfl;have M:Below w1.heap.size w1 (w1.alloc (.cells #[] 255)):=zO _ _;have Hn:w.heap.size<w1.heap.size:=Nat.lt_of_lt_of_le zb Hj.out;have Hu:tb<w1.heap.size:=Nat.lt_of_lt_of_le zt Hj.out;have Hv:=(M.cell (p:=⟨w.heap.size,0,none⟩) Hn).trans y0;have Hw:=(M.cell (p:=⟨w.heap.size,1,none⟩) Hn).trans y1;have Hx:=(M.cell (p:=⟨tb,3,none⟩) Hu).trans Hm;have Hh:=Hc (w1.alloc (.cells #[] 255)).drew (M.block ub I.lt);have t:=hid M;clear M;have Ha:∀(v:World) (ty:TypeId),v.heap[ub]? =w1.heap[ub]? ->(Builtin.len_ #[100] ty #[.map (some ub)]).run Tryz.prog v=.ok (.int .i64 (acc.length:Int)) v:=fun v ty hv=>by
   have ho:v.ownsMap Tryz.prog 67 Qit ub acc.length Z:=QbI g.own hv;have:=ho.len Tryz.underlying100 ty;rw [g.sz] at this;exact this
  have Hq:=hid Ha;have Hb:=g.has' b i kl s.out;obtain⟨T,hT⟩:∃T,has Z kl=T:=⟨_,rfl⟩;rw [hT] at Hr Hh Hb;have Hd:=hid Hb;clear Hc Hb hT Ha;cases T with
  | true=>
   have Hg:Hid (¬((∀y∈acc,¬(y.r=z.r/\ y.q=z.q))/\ acc.length≠1000)):=hid (fun h=>by
    obtain⟨y,hy,e1,e2⟩:=Hd.1 rfl;exact h.1 y hy ⟨e1.trans A.1.symm,e2.trans A.2.symm⟩)
   have U:=Hf.below (t.mono (Nat.le_trans j m.size));obtain⟨ev,ge⟩:=U.x8;clear U;go_wp2_with fail;go_region;all_goals go_wp2_with fail
   all_goals (rw [<- Y.out];exact .inr ⟨fun h=>Hg.out h.2,⟨_,_,rfl⟩,(Qab m.out t.out).drew⟩)
  | false=>
   have Hi:Hid (∀y∈acc,¬(y.r=z.r/\ y.q=z.q)):=hid (fun y hy e=>by
    have:=Hd.2 ⟨y,hy,e.1.trans A.1,e.2.trans A.2⟩;cases this)
   have Hs:=Hq (w1.alloc (.cells #[] 255)).drew 3 (t.block ub I.lt);by_cases Q:acc.length=1000
   ·have Hg:Hid (¬((∀y∈acc,¬(y.r=z.r/\ y.q=z.q))/\ acc.length≠1000)):=hid (fun h=>h.2 Q);have U:=Hf.below (t.mono (Nat.le_trans j m.size));obtain⟨ev,ge⟩:=U.gM;have dl:((acc.length:Int)==1000)=true:=by rw [Q];rfl
    rw [Q] at Hs;clear U Q;go_wp2_with fail;go_region;all_goals go_wp2_with fail
    all_goals (rw [<- Y.out];exact .inr ⟨fun h=>Hg.out h.2,⟨_,_,rfl⟩,(Qab m.out t.out).drew⟩)
   ·obtain⟨w9,r9,o9,O⟩:=(QbI (w':=(w1.alloc (.cells #[] 255)).drew.drew) g.own (t.block ub I.lt)).update QaD Tryz.underlying100 (by unfold maxLen;omega) s.out (val:=.agg #[]) (d:=.held (.agg #[])) (ps:=[]) rfl;have H9:Hid (UsM w9 ub (acc++[z])/\ w.grownBy w9 (some ub)):=hid ⟨⟨_,g.step (by have:=s.out;rw [<- A.1,<- A.2] at this;exact this) Hi.out o9⟩,by
     have E:=(Qab m.out t.out);exact⟨O.os.trans E.os,O.tape.trans E.tape,O.output.trans E.output,Nat.le_trans E.size O.size,fun k hk hne=>(O.block k (Nat.lt_of_lt_of_le hk E.size) hne).trans (E.block k hk)⟩⟩
    have dl:((acc.length:Int)==1000)=false:=by simp;omega
    have Hp:=hid Q;unfold Qgc at r9;clear o9 O g Q;go_wp2_with fail;go_region;all_goals go_wp2_with fail
    all_goals go_region
    all_goals go_wp2_with fail
    all_goals (rw [<- Y.out];exact .inl ⟨rfl,Hi.out,Hp.out,rfl,H9.1,H9.2⟩)
structure G2 (tb ub:Nat)(w w':World):Prop where
 os:w'.os=w.os
 tape:w'.tape=w.tape
 output:w'.output=w.output
 size:w.heap.size<=w'.heap.size
 block:∀k,k<w.heap.size ->k≠tb ->k≠ub ->w'.heap[k]? =w.heap[k]?
theorem G2.trans {tb ub:Nat}{a b c:World}(h:G2 tb ub a b)(k:G2 tb ub b c):G2 tb ub a c:=
 ⟨k.os.trans h.os,k.tape.trans h.tape,k.output.trans h.output,Nat.le_trans h.size k.size,fun g hg h1 h2=>(k.block g (Nat.lt_of_lt_of_le hg h.size) h1 h2).trans (h.block g hg h1 h2)⟩
theorem G2.below {tb ub:Nat}{w w':World}(h:Below w.heap.size w w'):G2 tb ub w w':=⟨h.os,h.tape,h.output,h.size,fun k hk _ _=>h.block k hk⟩
theorem G2.t {tb ub:Nat}{w w':World}(h:w.grownBy w' (some tb)):G2 tb ub w w':=⟨h.os,h.tape,h.output,h.size,fun k hk h1 _=>h.block k hk (fun e=>h1 (by injection e))⟩
theorem G2.u {tb ub:Nat}{w w':World}(h:w.grownBy w' (some ub)):G2 tb ub w w':=⟨h.os,h.tape,h.output,h.size,fun k hk _ h2=>h.block k hk (fun e=>h2 (by injection e))⟩
theorem G2.cell {tb ub:Nat}{w w':World}(h:G2 tb ub w w'){k i:Nat}(hk:k<w.heap.size)(h1:k≠tb)(h2:k≠ub):w'.cell? ⟨k,i,none⟩=w.cell? ⟨k,i,none⟩:=World.cell?_of_block (a:=⟨k,i,none⟩) (h.block k hk h1 h2)
theorem G2.frozen {tb ub:Nat}{w w':World}(h:G2 tb ub w w'){k i:Nat}(hk:k<w.heap.size)(h1:k≠tb)(h2:k≠ub):w'.frozen? ⟨k,i,none⟩=w.frozen? ⟨k,i,none⟩:=World.frozen?_of_block (a:=⟨k,i,none⟩) (h.block k hk h1 h2)
theorem G2.set {tb ub:Nat}{w w':World}(h:G2 tb ub w w')(q:Addr)(v:Value)(hq:w.heap.size<=q.block):G2 tb ub w (w'.setCell q v):=
 ⟨h.os,h.tape,h.output,by simpa [World.setCell] using h.size,fun k hk h1 h2=>(zH _ _ _ _ (by omega)).trans (h.block k hk h1 h2)⟩
structure TS (w:World)(tb B kb ub bs hi:Nat)(a:Option Addr)(n c:Nat)(f:Nat ->Int)(aT aS aL aE:Addr)(L:Int ->List (Int×Int))(x:Int)(acc:List Lf):Prop where
 cur:Cur (exT kb ub) w tb a n c x
 seg:Seg w a n f
 err:QcK w B aT aS aL aE
 us:UsM w ub acc
 grp:∃nn D G,Qdk w kb nn D G L/\∀r g,(G r).ownBlock=some g ->bs<=g/\ g<hi
 ab:∀y,a=some y ->y.block≠tb/\ y.block≠ub/\ y.block<hi
 ne:tb≠ub
 bt:B<=tb
 bu:B<=ub
 tl:tb<bs
 ul:ub<bs
 kl:bs<=kb
 kh:kb<hi
section
variable {w w' : World} {tb B kb ub bs hi : Nat} {a : Option Addr} {n c : Nat} {f : Nat -> Int} {aT aS aL aE : Addr} {L : Int -> List (Int × Int)} {x x' : Int} {acc acc' : List Lf}
theorem TS.lt (h:TS w tb B kb ub bs hi a n c f aT aS aL aE L x acc):B<=w.heap.size:=Nat.le_trans h.bt (Nat.le_of_lt h.cur.lt)
theorem TS.t (h:TS w tb B kb ub bs hi a n c f aT aS aL aE L x acc)(g:w.grownBy w' (some tb))(cu:Cur (exT kb ub) w' tb a n c x'):TS w' tb B kb ub bs hi a n c f aT aS aL aE L x' acc:=by
 obtain⟨q,D,G,m,j⟩:=h.grp;refine⟨cu,h.seg.grown g (fun y hy=>(h.ab y hy).1),h.err.grown g h.bt h.cur.lt,h.us.same (g.block ub h.us.lt (fun e=>h.ne (by injection e with e;exact e.symm))),⟨q,D,G,m.gr g (fun e=> ?_) (fun r k hk e=> ?_),j⟩,h.ab,h.ne,h.bt,h.bu,h.tl,h.ul,h.kl,h.kh⟩
 ·injection e with e;have:=h.tl;have:=h.kl;omega
 ·injection e with e;have:=h.tl;have:=(j r k hk).1;omega
theorem TS.u (h:TS w tb B kb ub bs hi a n c f aT aS aL aE L x acc)(g:w.grownBy w' (some ub))(us:UsM w' ub acc'):TS w' tb B kb ub bs hi a n c f aT aS aL aE L x acc':=by
 obtain⟨q,D,G,m,j⟩:=h.grp;refine⟨h.cur.at' (g.block tb h.cur.lt (fun e=>h.ne (by injection e))),h.seg.grown g (fun y hy=>(h.ab y hy).2.1),h.err.grown g h.bu h.us.lt,us,⟨q,D,G,m.gr g (fun e=> ?_) (fun r k hk e=> ?_),j⟩,h.ab,h.ne,h.bt,h.bu,h.tl,h.ul,h.kl,h.kh⟩
 ·injection e with e;have:=h.ul;have:=h.kl;omega
 ·injection e with e;have:=h.ul;have:=(j r k hk).1;omega
theorem TS.below (h:TS w tb B kb ub bs hi a n c f aT aS aL aE L x acc)(hb:Below w.heap.size w w'):TS w' tb B kb ub bs hi a n c f aT aS aL aE L x acc:=by
 obtain⟨m,D,G,j,k⟩:=h.grp;exact⟨h.cur.below hb h.cur.lt,h.seg.below hb,h.err.below (hb.mono h.lt),h.us.same (hb.block ub h.us.lt),⟨m,D,G,j.below hb,k⟩,h.ab,h.ne,h.bt,h.bu,h.tl,h.ul,h.kl,h.kh⟩
theorem TS.setF (h:TS w tb B kb ub bs hi a n c f aT aS aL aE L x acc)(q:Addr)(v:Value)(hq:hi<=q.block):TS (w.setCell q v) tb B kb ub bs hi a n c f aT aS aL aE L x acc:=by
 obtain⟨u,D,G,m,j⟩:=h.grp;have z:=h.tl;have t:=h.ul;have o:=h.kl;have i:=h.kh;have b:=h.bt;have g:w.grownBy (w.setCell q v) (some q.block):=⟨rfl,rfl,rfl,by simp [World.setCell],fun k hk hne=>zH _ _ _ _ (fun e=>hne (by rw [e]))⟩;refine⟨h.cur.at' (zH _ _ _ _ (by omega)),h.seg.grown g (fun y hy=>by have:=(h.ab y hy).2.2;omega),h.err.below ((Below.refl B w).setCell (p:=q) (by omega) v),h.us.same (zH _ _ _ _ (by omega)),⟨u,D,G,m.gr g (fun e=>by injection e with e;omega) (fun r k hk e=>by injection e with e;have:=(j r k hk).2;omega),j⟩,h.ab,h.ne,h.bt,h.bu,h.tl,h.ul,h.kl,h.kh⟩
end
section
variable {w v v' : World} {tb B kb ub bs hi : Nat} {a : Option Addr} {n c : Nat} {f : Nat -> Int} {aT aS aL aE : Addr} {L : Int -> List (Int × Int)} {x x' : Int} {acc acc' : List Lf}
structure RB (v:World)(b:Nat):Prop where
 c0:∃u,v.cell? ⟨b,0,none⟩=some (.int .i64 u)
 c1:∃u,v.cell? ⟨b,1,none⟩=some (.int .i64 u)
 c2:∃u,v.cell? ⟨b+1,0,none⟩=some (.string u)
 f0:∀i,v.frozen? ⟨b,i,none⟩=false
 f1:∀i,v.frozen? ⟨b+1,i,none⟩=false
 lt:b+1<v.heap.size
theorem RB.g2 {b:Nat}(h:RB v b)(g:G2 tb ub v v')(h1:tb<b)(h2:ub<b):RB v' b:=by
 have l:=h.lt;obtain⟨q,j⟩:=h.c0;obtain⟨r,k⟩:=h.c1;obtain⟨u,m⟩:=h.c2;exact⟨⟨q,(g.cell (by omega) (by omega) (by omega)).trans j⟩,⟨r,(g.cell (by omega) (by omega) (by omega)).trans k⟩,⟨u,(g.cell (by omega) (by omega) (by omega)).trans m⟩,fun i=>(g.frozen (by omega) (by omega) (by omega)).trans (h.f0 i),fun i=>(g.frozen (by omega) (by omega) (by omega)).trans (h.f1 i),Nat.lt_of_lt_of_le l g.size⟩
theorem RB.fill {b:Nat}(h:RB v b)(g:G2 tb ub w v)(hb:w.heap.size<=b)(r q:Int)(s:ByteArray):
  ∃Z,Z=((v.setCell ⟨b,0,none⟩ (.int .i64 r)).setCell ⟨b,1,none⟩ (.int .i64 q)).setCell ⟨b+1,0,none⟩ (.string s)/\ Z.cell? ⟨b,0,none⟩=some (.int .i64 r)/\ Z.cell? ⟨b,1,none⟩=some (.int .i64 q)/\ Z.cell? ⟨b+1,0,none⟩=some (.string s)/\ G2 tb ub w Z:=by
 obtain⟨u,j⟩:=h.c0;obtain⟨y,k⟩:=h.c1;obtain⟨z,m⟩:=h.c2;refine⟨_,rfl,?_,?_,?_,((g.set _ _ hb).set _ _ hb).set _ _ (by simp;omega)⟩
 ·rw [World.cell?_setCell_far _ _ _ _ (by simp),World.cell?_setCell_other _ _ _ _ (by simp)];exact World.cell?_setCell_same _ _ _ j
 ·rw [World.cell?_setCell_far _ _ _ _ (by simp)];exact World.cell?_setCell_same _ _ _ (by rw [World.cell?_setCell_other _ _ _ _ (by simp)];exact k)
 ·exact World.cell?_setCell_same _ _ _ (by rw [World.cell?_setCell_far _ _ _ _ (by simp),World.cell?_setCell_far _ _ _ _ (by simp)];exact m)
theorem TS.fill {b:Nat}(t:TS v tb B kb ub bs hi a n c f aT aS aL aE L x acc)(ht:hi<=b)(r q:Int)(s:ByteArray):TS (((v.setCell ⟨b,0,none⟩ (.int .i64 r)).setCell ⟨b,1,none⟩ (.int .i64 q)).setCell ⟨b+1,0,none⟩ (.string s)) tb B kb ub bs hi a n c f aT aS aL aE L x acc:=
 ((t.setF _ _ ht).setF _ _ ht).setF _ _ (by simp;omega)
theorem UsM.swap {z z':Lf}(h:UsM v ub (acc++[z]))(er:z'.r=z.r)(eq:z'.q=z.q):UsM v ub (acc++[z']):=by
 obtain⟨D,h⟩:=h;have u:(acc++[z']).length=(acc++[z]).length:=by simp
 refine⟨D,by rw [u];exact h.own,h.tidy,fun r q kl hk=> ?_,by rw [u];exact h.sz,h.val⟩;rw [h.has' r q kl hk];simp only [List.mem_append,List.mem_singleton];constructor
 ·rintro⟨y,m|rfl,j,k⟩
  ·exact⟨y,.inl m,j,k⟩
  ·exact⟨z',.inr rfl,er.trans j,eq.trans k⟩
 ·rintro⟨y,m|rfl,j,k⟩
  ·exact⟨y,.inl m,j,k⟩
  ·exact⟨z,.inr rfl,er.symm.trans j,eq.symm.trans k⟩
theorem TS.swap {z:Lf}(h:TS v tb B kb ub bs hi a n c f aT aS aL aE L x (acc++[z]))(z':Lf)(er:z'.r=z.r)(eq:z'.q=z.q):TS v tb B kb ub bs hi a n c f aT aS aL aE L x (acc++[z']):=
 ⟨h.cur,h.seg,h.err,h.us.swap er eq,h.grp,h.ab,h.ne,h.bt,h.bu,h.tl,h.ul,h.kl,h.kh⟩
end
theorem Qig (w:World)(c0 c1 c2:Array Value)(t0 t1 t2:TypeId):(∀i,(((w.alloc (.cells c0 t0)).alloc (.cells c1 t1)).alloc (.cells c2 t2)).cell? ⟨w.heap.size,i,none⟩=c0[i]?)/\ (∀i,(((w.alloc (.cells c0 t0)).alloc (.cells c1 t1)).alloc (.cells c2 t2)).cell? ⟨w.heap.size+1,i,none⟩=c1[i]?)/\ (∀i,(((w.alloc (.cells c0 t0)).alloc (.cells c1 t1)).alloc (.cells c2 t2)).cell? ⟨w.heap.size+1+1,i,none⟩=c2[i]?)/\ (∀i,(((w.alloc (.cells c0 t0)).alloc (.cells c1 t1)).alloc (.cells c2 t2)).frozen? ⟨w.heap.size+1,i,none⟩=false)/\ (∀i,(((w.alloc (.cells c0 t0)).alloc (.cells c1 t1)).alloc (.cells c2 t2)).frozen? ⟨w.heap.size+1+1,i,none⟩=false):=by
 refine⟨fun i=> ?_,fun i=> ?_,fun i=> ?_,fun i=> ?_,fun i=> ?_⟩
 ·rw [World.cell?_alloc_past _ _ _ (by simp;omega),World.cell?_alloc_past _ _ _ (by simp),World.cell?_alloc_at _ _ _ _ rfl]
 ·rw [World.cell?_alloc_past _ _ _ (by simp),World.cell?_alloc_at _ _ _ _ (by simp)]
 ·rw [World.cell?_alloc_at _ _ _ _ (by simp)]
 ·rw [World.frozen?_alloc_past _ _ _ (by simp),World.frozen?_alloc_at _ _ _ _ (by simp)]
 ·rw [World.frozen?_alloc_at _ _ _ _ (by simp)]
def LfP (w:World)(tb B kb ub bs hi:Nat)(a:Option Addr)(n c:Nat)(f:Nat ->Int)(aT aS aL aE:Addr)(L:Int ->List (Int×Int))(x:Nat)(acc:List Lf)(kind:Int)(p:List ByteArray)(before:Dt)(e:Ending)(w':World):Prop:=G2 tb ub w w'/\
 ((∃z x',Qej f n (fun r q=>inB (L r) q q) kind p before acc x=some (z,x')/\ e=.returned (.tuple #[.agg #[.int .i64 z.r,.int .i64 z.q],.agg #[.string z.v],.nilIface])/\ TS w' tb B kb ub bs hi a n c f aT aS aL aE L ((x':Nat):Int) (acc++[z])) \/
  (Qej f n (fun r q=>inB (L r) q q) kind p before acc x=none/\∃r q s t v,e=.returned (.tuple #[.agg #[.int .i64 r,.int .i64 q],.agg #[.string s],.iface t v])))
theorem QoA (tb B kb ub bs hi:Nat)(a:Option Addr)(n c:Nat)(f:Nat ->Int)(aT aS aL aE:Addr)(L:Int ->List (Int×Int))(x:Nat)(acc:List Lf)(kind:Int)(p:List ByteArray)(br bq:Int)(w:World)(hn:n<=1048576)(hnc:n<=c)(hcc:c<=9223372036854775807)(hf:Byt f)(hk:kind=1 \/kind=2)
  (hT:TS w tb B kb ub bs hi a n c f aT aS aL aE L (x:Int) acc) (hhi:hi<=w.heap.size) (hS:∀r,Srt (L r)/\ (L r).length<=1000000) (hl:acc.length<=1000):
  Calls Tryz.prog 138 #[.pointer (some ⟨tb,0,none⟩),.int .i64 kind,.agg #[.int .i64 br,.int .i64 bq]] w fun e w'=>LfP w tb B kb ub bs hi a n c f aT aS aL aE L x acc kind p (br,bq) e w':=by
 obtain⟨P,hP⟩:∃P,LfP w tb B kb ub bs hi a n c f aT aS aL aE L x acc kind p (br,bq)=P:=⟨_,rfl⟩;rw [hP];have HP:=hid hP;clear hP;obtain⟨W,hW⟩:∃W,((w.alloc (.cells #[.int .i64 br,.int .i64 bq] 67)).alloc (.cells #[.int .i64 0,.int .i64 0] 67)).alloc (.cells #[.string ⟨#[]⟩] 82)=W:=⟨_,rfl⟩;have b0:Below w.heap.size w W:=by rw [<- hW];exact((zO _ _).alloc (by simp) _).alloc (by simp;omega) _
 have zW:W.heap.size=w.heap.size+1+1+1:=by rw [<- hW];simp
 obtain⟨m0,m1,m2,m3,m4⟩:=Qig w #[.int .i64 br,.int .i64 bq] #[.int .i64 0,.int .i64 0] #[.string ⟨#[]⟩] 67 67 82;rw [hW] at m0 m1 m2 m3 m4;have x0:W.cell? ⟨w.heap.size,0,none⟩=some (.int .i64 br):=m0 0;have x1:W.cell? ⟨w.heap.size,1,none⟩=some (.int .i64 bq):=m0 1;have R0:RB W (w.heap.size+1):=⟨⟨0,m1 0⟩,⟨0,m1 1⟩,⟨⟨#[]⟩,m2 0⟩,m3,m4,by omega⟩;clear m0 m1 m2 m3 m4;have T0:=hT.below b0;have H7:tb<w.heap.size:=hT.cur.lt;have Ga:ub<w.heap.size:=hT.us.lt;have HD:=hid (Qpf tb B a n c x f aT aS aL aE W hn hf T0.cur T0.seg (fun y hy=>(hT.ab y hy).1) T0.err hT.bt);have H2:=hid T0;have Ht:=hid R0;have Hs:=hid (G2.below (tb:=tb) (ub:=ub) b0);have HS:=hid hS;have HF:=hid hf;have HZ:=hid zW;have HX:=hid (And.intro x0 x1);have Hy:=hT.bt;clear hT T0 R0 b0 hS hf zW x0 x1;go_enter Tryz.func138,Tryz.ntmps138;go_wp2_with fail;try rw [hW]
 clear hW;have X:tb<w.heap.size+1:=by omega
 have C:ub<w.heap.size+1:=by omega
 refine HD.mono ?_;rintro e w1 ⟨K,⟨r,q,x',j,rfl,N⟩|⟨j,r,q,t,v,y,rfl,N⟩⟩;rotate_left
 ·have HN:Hid (Qej f n (fun r q=>inB (L r) q q) kind p (br,bq) acc x=none):=hid (by
   unfold rdD at j;unfold Qej;cases h1:rd f n x 7 with
   | none=>rfl
   | some a1=>
    rw [h1] at j;simp only [Option.bind_some] at j ⊢;cases h2:rd f n a1.2 1000000000 with
    | none=>rfl
    | some a2=>rw [h2] at j;cases j)
  have Hh:=hid (Hs.trans (G2.t K));have Hj:=hid (Ht.g2 (G2.t (ub:=ub) K) X C);have A:Below w1.heap.size w1 (w1.alloc (.cells #[.int .i64 r,.int .i64 q] 67)):=zO _ _;obtain⟨o,Hc⟩:∃o,w1.alloc (.cells #[.int .i64 r,.int .i64 q] 67)=o:=⟨_,rfl⟩;rw [Hc] at A;have Hi:=hid (Hh.trans (G2.below A));have S:=Hj.g2 (G2.below (tb:=tb) (ub:=ub) A) X C;obtain⟨u0,k0⟩:=S.c0;obtain⟨u1,k1⟩:=S.c1;obtain⟨u2,k2⟩:=S.c2;have O:=S.f0;have Q:=S.f1;have Hk:=hid S;clear A K j N S HD;go_wp2_with fail;obtain⟨Z,z,Y,H,I,b⟩:=Hk.fill Hi.out (by omega) 0 0 ⟨#[]⟩;rw [<- z];clear z;refine zF (v:=.tuple #[.agg #[.int .i64 0,.int .i64 0],.agg #[.string ⟨#[]⟩],.iface t v]) (by simp [results,Tryz.results138,go_sem,Y,H,I]) ?_;rw [<- HP.out];exact⟨b,.inr ⟨HN.out,_,_,_,_,_,rfl⟩⟩
 ·have Hr:=hid j;have T1:=H2.t K N;have H9:(r:Int)<=7/\ (q:Int)<=1000000000:=by
   unfold rdD at j;obtain⟨a1,h1,j⟩:=Qad.1 j;obtain⟨a2,h2,j⟩:=Qad.1 j;simp only [Option.some.injEq,Prod.mk.injEq] at j;obtain⟨⟨rfl,rfl⟩,_⟩:=j;exact⟨((Qa8 HF.out (V:=a1.1) (x':=a1.2)).1 h1).2.1,((Qa8 HF.out (V:=a2.1) (x':=a2.2)).1 h2).2.1⟩
  have Hh:=hid (Hs.trans (G2.t K));have Hj:=hid (Ht.g2 (G2.t (ub:=ub) K) X C);obtain⟨o,Hc⟩:∃o,w1.alloc (.cells #[.int .i64 (r:Int),.int .i64 (q:Int)] 67)=o:=⟨_,rfl⟩;have A:Below w1.heap.size w1 o:=by rw [<- Hc];exact zO _ _
  have E:o.cell? ⟨w1.heap.size,0,none⟩=some (.int .i64 (r:Int)):=by rw [<- Hc];simp
  have M:o.cell? ⟨w1.heap.size,1,none⟩=some (.int .i64 (q:Int)):=by rw [<- Hc];simp
  have dl:w1.heap.size<o.heap.size:=by rw [<- Hc];simp
  have Gb:w.heap.size+1+1+1<=w1.heap.size:=by have:=K.size;have:=HZ.out;omega
  have Hi:=hid (Hh.trans (G2.below A));have Hk:=hid (Hj.g2 (G2.below (tb:=tb) (ub:=ub) A) X C);have Hu:=hid (T1.below A);have y0:o.cell? ⟨w.heap.size,0,none⟩=some (.int .i64 br):=((G2.t (ub:=ub) K).trans (G2.below A)).cell (by have:=HZ.out;omega) (by omega) (by omega)|>.trans HX.1;have y1:o.cell? ⟨w.heap.size,1,none⟩=some (.int .i64 bq):=((G2.t (ub:=ub) K).trans (G2.below A)).cell (by have:=HZ.out;omega) (by omega) (by omega)|>.trans HX.2;have Hb:=hid (And.intro E M);have Hp:=hid (Qd4 br bq (r:Int) (q:Int) o);clear K j N T1 A HD Hh Hj;go_wp2_with fail;clear Hc E M y0 y1;refine Hp.mono ?_;rintro e w2 ⟨rfl,T⟩;have He:=hid (Hi.trans (G2.below T));have J:=hid (Hk.g2 (G2.below (tb:=tb) (ub:=ub) T) X C);have i:=hid (Hu.below T);have E:=(T.cell (p:=⟨w1.heap.size,0,none⟩) dl).trans Hb.1;have M:=(T.cell (p:=⟨w1.heap.size,1,none⟩) dl).trans Hb.2;have Hw:=Nat.lt_of_lt_of_le dl T.size;obtain⟨cv,Hl⟩:∃cv,Qlb br bq (r:Int) (q:Int)=cv:=⟨_,rfl⟩;have Hq:=hid Hl;rw [Hl];clear Hp T Hi Hk Hu Hb Hl dl;have Ha:Hid (Qej f n (fun r q=>inB (L r) q q) kind p (br,bq) acc x=if yes (cv<0/\ inB (L (r:Int)) (q:Int) (q:Int)=true/\ (∀y∈acc,¬(y.r=(r:Int)/\ y.q=(q:Int)))/\ acc.length≠1000)=true then(if kind=2 then some (⟨p,true,(r:Int),(q:Int),ByteArray.empty⟩,x') else(Qei f n x' 200).bind fun t=>some (⟨p,false,(r:Int),(q:Int),t.1⟩,t.2)) else none):=hid (by
   have j:=Hr.out;unfold rdD at j;obtain⟨a1,h1,j⟩:=Qad.1 j;obtain⟨a2,h2,j⟩:=Qad.1 j;simp only [Option.some.injEq,Prod.mk.injEq] at j;obtain⟨⟨rfl,rfl⟩,rfl⟩:=j;unfold Qej;rw [h1];simp only [Option.bind_some];rw [h2,<- Hq.out];rfl)
  clear Hr Hq;by_cases Hl:0<=cv
  ·have HN:Hid (Qej f n (fun r q=>inB (L r) q q) kind p (br,bq) acc x=none):=hid (by rw [Ha.out,Qaj (fun h=>by omega)];rfl);obtain⟨ev,ge⟩:=i.err.gO;obtain⟨u0,k0⟩:=J.c0;obtain⟨u1,k1⟩:=J.c1;obtain⟨u2,k2⟩:=J.c2;have O:=J.f0;have Q:=J.f1;have lo:5<w.heap.size:=Nat.lt_of_lt_of_le (Nat.lt_of_lt_of_le (by decide) i.err.lG) (Nat.le_trans Hy (Nat.le_of_lt H7));have H4:(w2.setCell ⟨w.heap.size+1,0,none⟩ (.int .i64 0)).cell? ⟨5,0,none⟩=some (.iface 261 ev):=by rw [World.cell?_setCell_far _ _ _ _ (by simp;omega)];exact ge
   have H5:((w2.setCell ⟨w.heap.size+1,0,none⟩ (.int .i64 0)).setCell ⟨w.heap.size+1,1,none⟩ (.int .i64 0)).cell? ⟨5,0,none⟩=some (.iface 261 ev):=by rw [World.cell?_setCell_far _ _ _ _ (by simp;omega)];exact H4
   have H8:(((w2.setCell ⟨w.heap.size+1,0,none⟩ (.int .i64 0)).setCell ⟨w.heap.size+1,1,none⟩ (.int .i64 0)).setCell ⟨w.heap.size+1+1,0,none⟩ (.string ⟨#[]⟩)).cell? ⟨5,0,none⟩=some (.iface 261 ev):=by rw [World.cell?_setCell_far _ _ _ _ (by simp;omega)];exact H5
   have Hd:w.heap.size<=w.heap.size+1:=by omega
   clear Ha i E M lo;go_wp2_with fail;go_region;all_goals go_wp2_with fail
   all_goals (
    obtain⟨Z,z,Y,H,I,b⟩:=J.fill He.out Hd 0 0 ⟨#[]⟩;rw [<- z];clear z;refine zF (v:=.tuple #[.agg #[.int .i64 0,.int .i64 0],.agg #[.string ⟨#[]⟩],.iface 261 ev]) (by simp [results,Tryz.results138,go_sem,Y,H,I]) ?_;rw [<- HP.out];exact⟨b.trans (G2.below zI.drew),.inr ⟨HN.out,_,_,_,_,_,rfl⟩⟩)
  ·have Ho:cv<0:=by omega
   obtain⟨nn,D,G,H0,H6⟩:=i.grp;have zr:(Lit.int .i64 (r:Int)).wf=true:=wfI (by omega) (by omega);have zq:(Lit.int .i64 (q:Int)).wf=true:=wfI (by omega) (by omega);have HU:=hid (Qpq tb B kb ub nn a n c (x':Int) aT aS aL aE D G L acc ⟨p,decide (kind=2),(r:Int),(q:Int),ByteArray.empty⟩ w2 i.cur i.err i.lt i.us H0 HS.out zr zq hl);clear H0 H6 zr zq;have k:=hid (And.intro E (And.intro M Hw));go_wp2_with fail;clear E M Hw;refine HU.mono ?_;clear HU;rintro e w3 (⟨hK,Hz,Hg,rfl,us,g3⟩|⟨hN,⟨t,v,rfl⟩,b3⟩);rotate_left
   ·have HN:Hid (Qej f n (fun r q=>inB (L r) q q) kind p (br,bq) acc x=none):=hid (by rw [Ha.out,Qaj (fun h=>hN h.2)];rfl);have R:=hid (He.trans (G2.below b3));have m:=hid (J.g2 (G2.below (tb:=tb) (ub:=ub) b3) X C);obtain⟨u0,k0⟩:=m.c0;obtain⟨u1,k1⟩:=m.c1;obtain⟨u2,k2⟩:=m.c2;have O:=m.f0;have Q:=m.f1;have Hd:w.heap.size<=w.heap.size+1:=by omega
    clear Ha i He J hN b3 k;go_wp2_with fail;obtain⟨Z,z,Y,H,I,b⟩:=m.fill R.out Hd 0 0 ⟨#[]⟩;rw [<- z];clear z;refine zF (v:=.tuple #[.agg #[.int .i64 0,.int .i64 0],.agg #[.string ⟨#[]⟩],.iface t v]) (by simp [results,Tryz.results138,go_sem,Y,H,I]) ?_;rw [<- HP.out];exact⟨b,.inr ⟨HN.out,_,_,_,_,_,rfl⟩⟩
   ·have HY:Hid (Qej f n (fun r q=>inB (L r) q q) kind p (br,bq) acc x=if kind=2 then some (⟨p,true,(r:Int),(q:Int),ByteArray.empty⟩,x') else(Qei f n x' 200).bind fun t=>some (⟨p,false,(r:Int),(q:Int),t.1⟩,t.2)):=hid (by rw [Ha.out,Qal ⟨Ho,hK,Hz,Hg⟩];rfl);have F:=hid (i.u g3 us);have R:=hid (He.trans (G2.u g3));have m:=hid (J.g2 (G2.u (tb:=tb) g3) X C);have E:w3.cell? ⟨w1.heap.size,0,none⟩=some (.int .i64 (r:Int)):=((G2.u (tb:=tb) g3).cell k.2.2 (by omega) (by omega)).trans k.1;have M:w3.cell? ⟨w1.heap.size,1,none⟩=some (.int .i64 (q:Int)):=((G2.u (tb:=tb) g3).cell k.2.2 (by omega) (by omega)).trans k.2.1;have Hx:w1.heap.size<w3.heap.size:=Nat.lt_of_lt_of_le k.2.2 g3.size;have Hd:w.heap.size<=w.heap.size+1:=by omega
    have H1:hi<=w.heap.size+1:=by omega
    clear Ha i He J hK Hz Hg us g3 k;rcases hk with rfl|rfl
    ·have Hv:=hid (Qoc (EX:=exT kb ub) tb B a n c x' 200 f aT aS aL aE w3 hn hnc hcc HF.out F.seg F.cur F.err Hy (fun y hy=>(F.ab y hy).1) (by omega) (by omega));have k:=hid (And.intro E (And.intro M Hx));go_wp2_with fail;clear E M Hx;refine Hv.mono ?_;clear Hv;rintro e w4 ⟨U,⟨s,x2,hs,rfl,N⟩|⟨hs,t,v,y,rfl,N⟩⟩
     ·have Hn:Hid (Qej f n (fun r q=>inB (L r) q q) 1 p (br,bq) acc x=some (⟨p,false,(r:Int),(q:Int),s⟩,x2)):=hid (by rw [HY.out,if_neg (by decide),hs];rfl);have H3:=hid ((F.t U N).swap ⟨p,false,(r:Int),(q:Int),s⟩ rfl rfl);have Hm:=hid (R.trans (G2.t U));have g:=hid (m.g2 (G2.t (ub:=ub) U) X C);have E:w4.cell? ⟨w1.heap.size,0,none⟩=some (.int .i64 (r:Int)):=((G2.t (ub:=ub) U).cell k.2.2 (by omega) (by omega)).trans k.1;have M:w4.cell? ⟨w1.heap.size,1,none⟩=some (.int .i64 (q:Int)):=((G2.t (ub:=ub) U).cell k.2.2 (by omega) (by omega)).trans k.2.1;obtain⟨u0,k0⟩:=g.c0;obtain⟨u1,k1⟩:=g.c1;obtain⟨u2,k2⟩:=g.c2;have O:=g.f0;have Q:=g.f1;clear HY F R m hs N U k;go_wp2_with fail;obtain⟨Z,z,Y,H,I,b⟩:=g.fill Hm.out Hd (r:Int) (q:Int) s;have Hf:=H3.fill H1 (r:Int) (q:Int) s;rw [<- z] at Hf ⊢;clear z;refine zF (v:=.tuple #[.agg #[.int .i64 (r:Int),.int .i64 (q:Int)],.agg #[.string s],.nilIface]) (by simp [results,Tryz.results138,go_sem,Y,H,I]) ?_;rw [<- HP.out];exact⟨b,.inl ⟨_,_,Hn.out,rfl,Hf⟩⟩
     ·have Hn:Hid (Qej f n (fun r q=>inB (L r) q q) 1 p (br,bq) acc x=none):=hid (by rw [HY.out,if_neg (by decide),hs];rfl);have Hm:=hid (R.trans (G2.t U));have g:=hid (m.g2 (G2.t (ub:=ub) U) X C);have E:w4.cell? ⟨w1.heap.size,0,none⟩=some (.int .i64 (r:Int)):=((G2.t (ub:=ub) U).cell k.2.2 (by omega) (by omega)).trans k.1;have M:w4.cell? ⟨w1.heap.size,1,none⟩=some (.int .i64 (q:Int)):=((G2.t (ub:=ub) U).cell k.2.2 (by omega) (by omega)).trans k.2.1;obtain⟨u0,k0⟩:=g.c0;obtain⟨u1,k1⟩:=g.c1;obtain⟨u2,k2⟩:=g.c2;have O:=g.f0;have Q:=g.f1;clear HY F R m hs N U k;go_wp2_with fail;obtain⟨Z,z,Y,H,I,b⟩:=g.fill Hm.out Hd (r:Int) (q:Int) ⟨#[]⟩;rw [<- z];clear z;refine zF (v:=.tuple #[.agg #[.int .i64 (r:Int),.int .i64 (q:Int)],.agg #[.string ⟨#[]⟩],.iface t v]) (by simp [results,Tryz.results138,go_sem,Y,H,I]) ?_;rw [<- HP.out];exact⟨b,.inr ⟨Hn.out,_,_,_,_,_,rfl⟩⟩
    ·obtain⟨u0,k0⟩:=m.c0;obtain⟨u1,k1⟩:=m.c1;obtain⟨u2,k2⟩:=m.c2;have O:=m.f0;have Q:=m.f1;go_wp2_with fail;obtain⟨Z,z,Y,H,I,b⟩:=m.fill R.out Hd (r:Int) (q:Int) ⟨#[]⟩;have Hf:=F.fill H1 (r:Int) (q:Int) ⟨#[]⟩;rw [<- z] at Hf ⊢;clear z;refine zF (v:=.tuple #[.agg #[.int .i64 (r:Int),.int .i64 (q:Int)],.agg #[.string ⟨#[]⟩],.nilIface]) (by simp [results,Tryz.results138,go_sem,Y,H,I]) ?_;rw [<- HP.out];exact⟨b,.inl ⟨_,_,HY.out,rfl,Hf⟩⟩
def NxP (EX:Nat ->Option Value)(f:Nat ->Int)(n x:Nat)(cb:Nat)(a:Option Addr)(c:Nat)(w:World)(e:Ending)(w':World):Prop:=w.grownBy w' (some cb)/\
 ((x<n/\ e=.returned (.tuple #[.int .u8 (f x),.nilIface])/\ Cur EX w' cb a n c ((x+1:Nat):Int)) \/
  (¬x<n/\∃(t:TypeId) (v:Value),e=.returned (.tuple #[.int .u8 0,.iface t v])/\ Cur EX w' cb a n c (x:Int)))
theorem QoC {EX:Nat ->Option Value}(cb B:Nat)(a:Option Addr)(n c x:Nat)(f:Nat ->Int)(aT aS aL aE:Addr)(w:World)(hn:n<=1048576)(hs:Seg w a n f)(hcur:Cur EX w cb a n c (x:Int))(hE:QcK w B aT aS aL aE):
  Calls Tryz.prog 135 #[.pointer (some ⟨cb,0,none⟩)] w fun e w'=>NxP EX f n x cb a c w e w':=by
 by_cases j:x<n
 ·rcases hs with h|⟨b,off,rfl,q,m⟩
  ·omega
  refine(Qjg cb b off n c x (f x) w hn hcur j (m x j)).mono ?_;rintro e w' ⟨rfl,k,g⟩;exact⟨g,.inl ⟨j,rfl,k⟩⟩
 ·refine(Qfc cb a n c (x:Int) aE w hn hcur (.inr (by omega)) hE.gE).mono ?_;rintro e w' ⟨rfl,b⟩;exact⟨Qag ⟨rfl,rfl,rfl,Nat.le_refl _,fun _ _ _=>rfl⟩ b,.inr ⟨j,_,_,rfl,hcur.below b hcur.lt⟩⟩
noncomputable def Qik (f:Nat ->Int)(n x:Nat):Option (Ky×Nat):=(Qei f n x 40).bind fun a=>if yes (a.1.size≠0/\ a.2<n)=true then some ((a.1,f a.2),a.2+1) else none
theorem Qjq (f:Nat ->Int)(n:Nat)(before:Ky)(x:Nat):QfN f n before x=(Qik f n x).bind fun a=>if yes (Qb7 before a.1<0)=true then some a else none:=by
 unfold QfN Qik;cases h:Qei f n x 40 with
 | none=>rfl
 | some a=>
  simp only [Option.bind_some];by_cases j:a.1.size≠0/\ a.2<n
  ·rw [Qal j];simp only [if_true,Option.bind_some];by_cases k:Qb7 before (a.1,f a.2)<0
   ·rw [Qal k,Qal ⟨j.1,j.2,k⟩]
   ·rw [Qaj k,Qaj (fun h=>k h.2.2)]
  ·rw [Qaj j,Qaj (fun h=>j ⟨h.1,h.2.1⟩)];rfl
structure KB (v:World)(b:Nat):Prop where
 c0:∃u,v.cell? ⟨b,0,none⟩=some (.string u)
 c1:∃u,v.cell? ⟨b,1,none⟩=some (.int .i64 u)
 f0:∀i,v.frozen? ⟨b,i,none⟩=false
 lt:b<v.heap.size
section
variable {w v v' : World} {tb B : Nat}
theorem KB.made (w:World)(u:ByteArray)(i:Int)(t:TypeId):KB (w.alloc (.cells #[.string u,.int .i64 i] t)) w.heap.size:=
 ⟨⟨u,by simp⟩,⟨i,by simp⟩,fun i=>by rw [World.frozen?_alloc_at _ _ _ _ rfl],by simp⟩
theorem KB.gr {b:Nat}(h:KB v b)(g:v.grownBy v' (some tb))(h1:b≠tb):KB v' b:=by
 have l:=h.lt;have e:=g.block b l (fun e=>h1 (by injection e));obtain⟨m,j⟩:=h.c0;obtain⟨q,k⟩:=h.c1;exact⟨⟨m,(World.cell?_of_block (a:=⟨b,0,none⟩) e).trans j⟩,⟨q,(World.cell?_of_block (a:=⟨b,1,none⟩) e).trans k⟩,fun i=>(World.frozen?_of_block (a:=⟨b,i,none⟩) e).trans (h.f0 i),Nat.lt_of_lt_of_le l g.size⟩
theorem KB.fill {b:Nat}(h:KB v b)(g:w.grownBy v (some tb))(hb:w.heap.size<=b)(s:ByteArray)(i:Int):
  ∃Z,Z=(v.setCell ⟨b,0,none⟩ (.string s)).setCell ⟨b,1,none⟩ (.int .i64 i)/\ Z.cell? ⟨b,0,none⟩=some (.string s)/\ Z.cell? ⟨b,1,none⟩=some (.int .i64 i)/\ w.grownBy Z (some tb)/\∀k,k≠b ->Z.heap[k]? =v.heap[k]? :=by
 obtain⟨r,m⟩:=h.c0;obtain⟨u,q⟩:=h.c1;have j:∀k,k≠b ->((v.setCell ⟨b,0,none⟩ (.string s)).setCell ⟨b,1,none⟩ (.int .i64 i)).heap[k]? =v.heap[k]? :=fun k hk=>(zH _ _ _ _ (by simp;omega)).trans (zH _ _ _ _ (by simp;omega));refine⟨_,rfl,?_,?_,⟨g.os,g.tape,g.output,by simpa [World.setCell] using g.size,fun k hk hne=>(j k (by omega)).trans (g.block k hk hne)⟩,j⟩
 ·rw [World.cell?_setCell_other _ _ _ _ (by simp)];exact World.cell?_setCell_same _ _ _ m
 ·exact World.cell?_setCell_same _ _ _ (by rw [World.cell?_setCell_other _ _ _ _ (by simp)];exact q)
end
def NkP (EX:Nat ->Option Value)(f:Nat ->Int)(n x:Nat)(cb:Nat)(a:Option Addr)(c:Nat)(w:World)(e:Ending)(w':World):Prop:=w.grownBy w' (some cb)/\
 ((∃y x',Qik f n x=some (y,x')/\ e=.returned (.tuple #[.agg #[.string y.1,.int .i64 y.2],.nilIface])/\ Cur EX w' cb a n c ((x':Nat):Int)) \/
  (Qik f n x=none/\∃(t:TypeId) (v:Value) (y:Int),e=.returned (.tuple #[.agg #[.string ⟨#[]⟩,.int .i64 0],.iface t v])/\ Cur EX w' cb a n c y))
theorem QfJ {EX:Nat ->Option Value}(tb B:Nat)(a:Option Addr)(n c:Nat)(f:Nat ->Int)(aT aS aL aE:Addr)(x:Nat)(w:World)(hn:n<=1048576)(hnc:n<=c)(hcc:c<=9223372036854775807)(hf:Byt f)
  (i:Seg w a n f) (hcur:Cur EX w tb a n c (x:Int)) (hE:QcK w B aT aS aL aE) (hbt:B<=tb) (hab:∀y,a=some y ->y.block≠tb):
  Calls Tryz.prog 106 #[.pointer (some ⟨tb,0,none⟩)] w fun e w'=>NkP EX f n x tb a c w e w':=by
 obtain⟨P,hP⟩:∃P,NkP EX f n x tb a c w=P:=⟨_,rfl⟩;rw [hP];have J:=hid hP;clear hP;obtain⟨W,X⟩:∃W,w.alloc (.cells #[.string ⟨#[]⟩,.int .i64 0] 88)=W:=⟨_,rfl⟩;have u:Below w.heap.size w W:=by rw [<- X];exact zO _ _
 have K:Hid (KB W w.heap.size):=hid (by rw [<- X];exact KB.made _ _ _ _);have Ha:=hcur.lt;have I:Hid (w.grownBy W (some tb)):=hid ⟨u.os,u.tape,u.output,u.size,fun k hk _=>u.block k hk⟩;have G:=hid (hcur.below u hcur.lt);have L:=hid (i.below u);have H:=hid (hE.below (u.mono (Nat.le_trans hbt (Nat.le_of_lt Ha))));have HT:=hid (Qoc (EX:=EX) tb B a n c x 40 f aT aS aL aE W hn hnc hcc hf L.out G.out H.out hbt hab (by omega) (by omega));have HF:=hid hf;have z:w.heap.size≠tb:=by omega
 have C:w.heap.size<=w.heap.size:=Nat.le_refl _;clear i hcur hE hf u;go_enter Tryz.func106,Tryz.ntmps106;go_wp2_with fail;try rw [X]
 clear X;refine HT.mono ?_;clear HT;rintro e w1 ⟨o,⟨s,U,i,rfl,m⟩|⟨i,t,v,y,rfl,m⟩⟩
 ·have p:=hid (I.trans o);have j:=hid (K.gr o z);have b:=hid m;have V:=hid (H.grown o hbt G.lt);have R:=hid (L.grown o hab);have S:=hid i;clear o i m I K G L H;by_cases N:s=⟨#[]⟩
  ·subst N;have Y:Hid (Qik f n x=none):=hid (by unfold Qik;rw [S.out];simp only [Option.bind_some];rw [Qaj (fun h=>h.1 rfl)];rfl);obtain⟨T,ge⟩:=V.x2;have lo:7<w.heap.size:=Nat.lt_of_lt_of_le (Nat.lt_of_lt_of_le (by decide) V.lG) (Nat.le_trans hbt (Nat.le_of_lt Ha));obtain⟨u0,k0⟩:=j.c0;obtain⟨u1,k1⟩:=j.c1;have A:=j.f0;have Hb:(w1.setCell ⟨w.heap.size,0,none⟩ (.string ⟨#[]⟩)).cell? ⟨7,0,none⟩=some (.iface 261 T):=by rw [World.cell?_setCell_far _ _ _ _ (by simp;omega)];exact ge
   have Hf:((w1.setCell ⟨w.heap.size,0,none⟩ (.string ⟨#[]⟩)).setCell ⟨w.heap.size,1,none⟩ (.int .i64 0)).cell? ⟨7,0,none⟩=some (.iface 261 T):=by rw [World.cell?_setCell_far _ _ _ _ (by simp;omega)];exact Hb
   clear lo;go_wp2_with fail;go_region;all_goals go_wp2_with fail
   all_goals (
    obtain⟨Z,q,M,O,E,g⟩:=j.fill p.out C ⟨#[]⟩ 0;rw [<- q];clear q;refine zF (v:=.tuple #[.agg #[.string ⟨#[]⟩,.int .i64 0],.iface 261 T]) (by simp [results,Tryz.results106,go_sem,M,O]) ?_;rw [<- J.out];exact⟨Qag E zI.drew,.inr ⟨Y.out,_,_,_,rfl,(b.at' (g tb (Ne.symm z))).below zI.drew (b.at' (g tb (Ne.symm z))).lt⟩⟩)
  ·have Hc:s.toList.isEmpty=false:=by
    cases e:s.toList.isEmpty with
    | false=>rfl
    | true=>exact absurd (Qd6.1 e) N
   have HX:=hid (QoC (EX:=EX) tb B a n c U f aT aS aL aE w1 hn R.out b.out V.out);have hz:s.size≠0:=fun e=>N (by
    obtain⟨d⟩:=s;have:d=#[]:=Array.eq_empty_of_size_eq_zero e;rw [this])
   go_wp2_with fail;refine HX.mono ?_;clear HX Hc N;rintro e w2 ⟨Q,⟨hx,rfl,m⟩|⟨hx,t,v,rfl,m⟩⟩
   ·have HY:Hid (Qik f n x=some ((s,f U),U+1)):=hid (by unfold Qik;rw [S.out];simp only [Option.bind_some];rw [Qal ⟨hz,hx⟩];rfl);have F:=hid (p.trans Q);have r:=hid (j.gr Q z);have D:=hid m;obtain⟨u0,k0⟩:=r.c0;obtain⟨u1,k1⟩:=r.c1;have A:=r.f0;obtain⟨Hd,He⟩:=HF U;clear Q m p j b R V;go_wp2_with fail;obtain⟨Z,q,M,O,E,g⟩:=r.fill F.out C s (f U);try rw [<- q]
    clear q;refine zF (v:=.tuple #[.agg #[.string s,.int .i64 (f U)],.nilIface]) (by simp [results,Tryz.results106,go_sem,M,O]) ?_;rw [<- J.out];exact⟨E,.inl ⟨_,_,HY.out,rfl,D.at' (g tb (Ne.symm z))⟩⟩
   ·have Y:Hid (Qik f n x=none):=hid (by unfold Qik;rw [S.out];simp only [Option.bind_some];rw [Qaj (fun h=>hx h.2)];rfl);have F:=hid (p.trans Q);have r:=hid (j.gr Q z);have D:=hid m;obtain⟨u0,k0⟩:=r.c0;obtain⟨u1,k1⟩:=r.c1;have A:=r.f0;clear Q m p j b R V;go_wp2_with fail;obtain⟨Z,q,M,O,E,g⟩:=r.fill F.out C ⟨#[]⟩ 0;rw [<- q];clear q;refine zF (v:=.tuple #[.agg #[.string ⟨#[]⟩,.int .i64 0],.iface t v]) (by simp [results,Tryz.results106,go_sem,M,O]) ?_;rw [<- J.out];exact⟨E,.inr ⟨Y.out,_,_,_,rfl,D.at' (g tb (Ne.symm z))⟩⟩
 ·have Y:Hid (Qik f n x=none):=hid (by unfold Qik;rw [i];rfl);have p:=hid (I.trans o);have j:=hid (K.gr o z);have b:=hid m;obtain⟨u0,k0⟩:=j.c0;obtain⟨u1,k1⟩:=j.c1;have A:=j.f0;clear o i m I K G L H;go_wp2_with fail;obtain⟨Z,q,M,O,E,g⟩:=j.fill p.out C ⟨#[]⟩ 0;rw [<- q];clear q;refine zF (v:=.tuple #[.agg #[.string ⟨#[]⟩,.int .i64 0],.iface t v]) (by simp [results,Tryz.results106,go_sem,M,O]) ?_;rw [<- J.out];exact⟨E,.inr ⟨Y.out,_,_,_,rfl,b.at' (g tb (Ne.symm z))⟩⟩
theorem Qf6 (x y:Ky)(w:World):Calls Tryz.prog 69 #[.agg #[.string x.1,.int .i64 x.2],.agg #[.string y.1,.int .i64 y.2]] w fun e w'=>e=.returned (.int .i64 (Qb7 x y))/\ Bw w w':=by
 obtain⟨s,k⟩:=x;obtain⟨q,m⟩:=y;dsimp only;obtain⟨W,u⟩:∃W,(w.alloc (.cells #[.string s,.int .i64 k] 88)).alloc (.cells #[.string q,.int .i64 m] 88)=W:=⟨_,rfl⟩;have b:Bw w W:=by rw [<- u];exact⟨Qak _ _ _,Nat.le_refl _⟩
 have t:Bx2 W w.heap.size (.string s) (.int .i64 k):=by rw [<- u];exact(Bx2.made w _ _ _).allocs _
 have o:Bx2 W (w.heap.size+1) (.string q) (.int .i64 m):=by rw [<- u];simpa using Bx2.made (w.alloc (.cells #[.string s,.int .i64 k] 88)) (.string q) (.int .i64 m) 88
 have v:=hid b;have h:=hid t;have g:=hid o;clear b t o;go_enter Tryz.func69,Tryz.ntmps69;go_wp2_with fail;try rw [u]
 clear u;have z:Hid (∀w',Bw W w' ->(Bw W w'/\ w'.cell? ⟨w.heap.size,0,none⟩=some (.string s)/\ w'.cell? ⟨w.heap.size,1,none⟩=some (.int .i64 k)/\ w'.cell? ⟨w.heap.size+1,0,none⟩=some (.string q)/\ w'.cell? ⟨w.heap.size+1,1,none⟩=some (.int .i64 m))):=hid (fun w' r=>by
  have x0:=h.below r.1 h.lt;have p:=g.below r.1 g.lt;exact⟨r,x0.c0,x0.c1,p.c0,p.c1⟩)
 refine zR (S:=fun w'=>Bw W w'/\ w'.cell? ⟨w.heap.size,0,none⟩=some (.string s)/\ w'.cell? ⟨w.heap.size,1,none⟩=some (.int .i64 k)/\ w'.cell? ⟨w.heap.size+1,0,none⟩=some (.string q)/\ w'.cell? ⟨w.heap.size+1,1,none⟩=some (.int .i64 m)) (z _ ⟨zI.drew,Nat.le_succ _⟩) (fun qh=> ?_);refine tZ 0 5 ?_;refine tZ 1 6 ?_;refine tZ 2 7 ?_;refine tZ 3 8 ?_;refine tZ 5 10 ?_;refine tZ 6 11 ?_;refine tZ 7 12 ?_;refine tZ 8 13 ?_;refine cZ 4 ?_;intro K j;go_simp;refine(Qi3 s q _).mono ?_;rintro e w1 ⟨rfl,rfl⟩;refine j.out _ _ qh (fun qh=> ?_);clear j K;try simp only [zP]
 refine cZ 9 ?_;intro K j;go_simp;refine(QbY k m _).mono ?_;rintro e E ⟨rfl,rfl⟩;refine j.out _ _ qh (fun qh=> ?_);clear j K;try simp only [zP]
 refine cZ 10 ?_;intro K j;go_simp;have r:Bw W (W.drew.alloc (.cells #[.int .i64 (QbE s q),.int .i64 (QaT k m)] 3)):=⟨qh.1.1.alloc qh.1.1.size _,qh.1.2⟩;refine j.out _ _ (z _ r) (fun qh=> ?_);clear j K;try simp only [zP]
 refine cZ 11 ?_;intro K j;go_simp;refine(Qi1 _ 2 2 (fun i=>if i=0 then QbE s q else QaT k m) _ (by omega) (fun i hi=> ?_)).mono ?_
 ·match i,hi with
  | 0,_=>simp
  | 1,_=>simp
 rintro e M ⟨rfl,rfl⟩;refine j.out _ _ qh (fun qh=> ?_);clear j K;try simp only [zP]
 refine tZ 12 4 ?_;refine zD ?_;have A:Hid (Bw w (W.drew.alloc (.cells #[.int .i64 (QbE s q),.int .i64 (QaT k m)] 3))):=hid ⟨v.1.trans (qh.1.1.mono v.1.size),Nat.le_trans v.2 qh.1.2⟩;clear qh r;go_wp2_with fail;go_ret;exact⟨QbB nz2,A.out⟩
def KyP (EX:Nat ->Option Value)(f:Nat ->Int)(n x:Nat)(before:Ky)(cb:Nat)(a:Option Addr)(c:Nat)(w:World)(e:Ending)(w':World):Prop:=w.grownBy w' (some cb)/\
 ((∃y x',QfN f n before x=some (y,x')/\ e=.returned (.tuple #[.agg #[.string y.1,.int .i64 y.2],.nilIface])/\ Cur EX w' cb a n c ((x':Nat):Int)) \/
  (QfN f n before x=none/\∃(t:TypeId) (v:Value),e=.returned (.tuple #[.agg #[.string ⟨#[]⟩,.int .i64 0],.iface t v])))
theorem Qpl {EX:Nat ->Option Value}(tb B:Nat)(a:Option Addr)(n c:Nat)(f:Nat ->Int)(aT aS aL aE:Addr)(x:Nat)(bs:ByteArray)(bk:Int)(w:World)(hn:n<=1048576)(hnc:n<=c)(hcc:c<=9223372036854775807)(hf:Byt f)
  (g:Seg w a n f) (hcur:Cur EX w tb a n c (x:Int)) (hE:QcK w B aT aS aL aE) (hbt:B<=tb) (hab:∀y,a=some y ->y.block≠tb):
  Calls Tryz.prog 76 #[.pointer (some ⟨tb,0,none⟩),.agg #[.string bs,.int .i64 bk]] w fun e w'=>KyP EX f n x (bs,bk) tb a c w e w':=by
 obtain⟨P,hP⟩:∃P,KyP EX f n x (bs,bk) tb a c w=P:=⟨_,rfl⟩;rw [hP];have S:=hid hP;clear hP;obtain⟨W,E⟩:∃W,(w.alloc (.cells #[.string bs,.int .i64 bk] 88)).alloc (.cells #[.string ⟨#[]⟩,.int .i64 0] 88)=W:=⟨_,rfl⟩;have r:Below w.heap.size w W:=by rw [<- E];exact Qak _ _ _
 have zW:W.heap.size=w.heap.size+1+1:=by rw [<- E];simp
 have X0:Bx2 W w.heap.size (.string bs) (.int .i64 bk):=by rw [<- E];exact(Bx2.made w _ _ _).allocs _
 have N:Hid (KB W (w.heap.size+1)):=hid (by rw [<- E];simpa using KB.made (w.alloc (.cells #[.string bs,.int .i64 bk] 88)) ⟨#[]⟩ 0 88);have Hi:=hcur.lt;have L:Hid (w.grownBy W (some tb)):=hid ⟨r.os,r.tape,r.output,r.size,fun k hk _=>r.block k hk⟩;have M:=hid (hcur.below r hcur.lt);have T:=hid (g.below r);have K:=hid (hE.below (r.mono (Nat.le_trans hbt (Nat.le_of_lt Hi))));have HT:=hid (QfJ (EX:=EX) tb B a n c f aT aS aL aE x W hn hnc hcc hf T.out M.out K.out hbt hab);have Hj:=M.2.1;have b:=hid X0;have HZ:=hid zW;have H:w.heap.size+1≠tb:=by omega
 have Hb:w.heap.size≠tb:=by omega
 have Hc:w.heap.size<=w.heap.size+1:=by omega
 clear g hcur hE hf r X0 zW;go_enter Tryz.func76,Tryz.ntmps76;go_wp2_with fail;try rw [E]
 clear E Hj;refine HT.mono ?_;clear HT;rintro e w1 ⟨A,⟨y,x1,g,rfl,V⟩|⟨g,t,v,y,rfl,V⟩⟩
 ·have U:Hid (QfN f n (bs,bk) x=if yes (Qb7 (bs,bk) y<0)=true then some (y,x1) else none):=hid (by rw [Qjq,g];rfl);obtain⟨s,k⟩:=y;dsimp only;obtain⟨p,Ha⟩:∃p,w1.alloc (.cells #[.string s,.int .i64 k] 88)=p:=⟨_,rfl⟩;have j:Below w1.heap.size w1 p:=by rw [<- Ha];exact zO _ _
  have z:=Qag A j;have o:=hid (L.trans z);have m:=hid (N.gr z H);have C:Bx2 p w1.heap.size (.string s) (.int .i64 k):=by rw [<- Ha];exact Bx2.made _ _ _ _
  have Hg:=HZ.out;have Hh:=A.size;have X1:Bx2 p w.heap.size (.string bs) (.int .i64 bk):=by
   have e:=z.block w.heap.size (by omega) (fun e=>Hb (by injection e));exact⟨(World.cell?_of_block (a:=⟨w.heap.size,0,none⟩) e).trans b.c0,(World.cell?_of_block (a:=⟨w.heap.size,1,none⟩) e).trans b.c1,fun i=>(World.frozen?_of_block (a:=⟨w.heap.size,i,none⟩) e).trans (b.f i),Nat.lt_of_lt_of_le b.lt z.size⟩
  have O:=hid (V.below j V.lt);have Hd:=hid ((K.grown A hbt M.lt).below (j.mono (by omega)));have HK:=hid (Qf6 (bs,bk) (s,k) p);have y0:=C.c0;have y1:=C.c1;have z0:=X1.c0;have z1:=X1.c1;have X:=hid C;clear A z g V L N M T K b j C X1 Hg Hh;go_wp2_with fail;clear Ha y0 y1 z0 z1;refine HK.mono ?_;rintro e D ⟨rfl,u,_⟩;obtain⟨cv,He⟩:∃cv,Qb7 (bs,bk) (s,k)=cv:=⟨_,rfl⟩;rw [He] at U ⊢;have F:=hid (Hd.below (u.mono (Nat.le_trans hbt (Nat.le_of_lt O.lt))));clear HK He Hd;by_cases hc:0<=cv
  ·have Q:Hid (QfN f n (bs,bk) x=none):=hid (by rw [U.out,Qaj (by omega)];rfl);obtain⟨ev,ge⟩:=F.gO;have j:Below D.heap.size D (D.alloc (.cells #[.string ⟨#[107,101,121]⟩,.int .i64 (x:Int),.iface 261 ev] 109)):=zO _ _;have R:=hid (Qag (Qag o.out u) j);have q:=hid (m.gr (Qag (Qag ⟨rfl,rfl,rfl,Nat.le_refl _,fun _ _ _=>rfl⟩ u) j) H);obtain⟨u0,k0⟩:=q.c0;obtain⟨u1,k1⟩:=q.c1;have Y:=q.f0;clear o m O X F U j u;go_wp2_with fail;obtain⟨Z,h,I,J,G,bZ⟩:=q.fill R.out Hc ⟨#[]⟩ 0;rw [<- h];clear h;refine zF (v:=.tuple #[.agg #[.string ⟨#[]⟩,.int .i64 0],.iface 107 (.pointer (some ⟨D.heap.size,0,none⟩))]) (by simp [results,Tryz.results76,go_sem,I,J]) ?_;rw [<- S.out];exact⟨G,.inr ⟨Q.out,_,_,rfl⟩⟩
  ·have Q:Hid (QfN f n (bs,bk) x=some ((s,k),x1)):=hid (by rw [U.out,Qal (by omega)];rfl);have R:=hid (Qag o.out u);have q:=hid (m.gr (tb:=tb) (Qag ⟨rfl,rfl,rfl,Nat.le_refl _,fun _ _ _=>rfl⟩ u) H);have Hf:=hid (O.below u O.lt);have Y3:=X.below u X.lt;have y0:=Y3.c0;have y1:=Y3.c1;obtain⟨u0,k0⟩:=q.c0;obtain⟨u1,k1⟩:=q.c1;have Y:=q.f0;clear o m O X F U u Y3;go_wp2_with fail;obtain⟨Z,h,I,J,G,bZ⟩:=q.fill R.out Hc s k;rw [<- h];clear h;refine zF (v:=.tuple #[.agg #[.string s,.int .i64 k],.nilIface]) (by simp [results,Tryz.results76,go_sem,I,J]) ?_;rw [<- S.out];exact⟨G,.inl ⟨_,_,Q.out,rfl,Hf.at' (bZ tb (Ne.symm H))⟩⟩
 ·have Q:Hid (QfN f n (bs,bk) x=none):=hid (by rw [Qjq,g];rfl);have j:Below w1.heap.size w1 ((w1.alloc (.cells #[.string ⟨#[]⟩,.int .i64 0] 88)).alloc (.cells #[.string ⟨#[107,101,121]⟩,.int .i64 (x:Int),.iface t v] 109)):=Qak _ _ _;have z:=Qag A j;have o:=hid (L.trans z);have m:=hid (N.gr z H);obtain⟨u0,k0⟩:=m.c0;obtain⟨u1,k1⟩:=m.c1;have Y:=m.f0;clear A z g V L N M T K b j;go_wp2_with fail;obtain⟨Z,h,I,J,G,bZ⟩:=m.fill o.out Hc ⟨#[]⟩ 0;rw [<- h];clear h;refine zF (v:=.tuple #[.agg #[.string ⟨#[]⟩,.int .i64 0],.iface 107 (.pointer (some ⟨w1.heap.size+1,0,none⟩))]) (by simp [results,Tryz.results76,go_sem,I,J]) ?_;rw [<- S.out];exact⟨G,.inr ⟨Q.out,_,_,rfl⟩⟩
section
variable {w w' v v' : World} {tb B kb ub bs hi : Nat} {a : Option Addr} {n c : Nat} {f : Nat -> Int} {aT aS aL aE : Addr} {L : Int -> List (Int × Int)} {x x' : Int} {acc acc' : List Lf}
theorem TS.gr (h:TS w tb B kb ub bs hi a n c f aT aS aL aE L x acc){b:Nat}(g:w.grownBy w' (some b))(hb:hi<=b):TS w' tb B kb ub bs hi a n c f aT aS aL aE L x acc:=by
 obtain⟨u,D,G,m,j⟩:=h.grp;have v:=h.tl;have z:=h.ul;have t:=h.kl;have o:=h.kh;have i:=h.bt;have q:Below B w w':=⟨g.os,g.tape,g.output,g.size,fun k hk=>g.block k (by have:=h.lt;omega) (fun e=>by injection e with e;omega)⟩;exact⟨h.cur.at' (g.block tb h.cur.lt (fun e=>by injection e with e;omega)),h.seg.grown g (fun y hy=>by have:=(h.ab y hy).2.2;omega),h.err.below q,h.us.same (g.block ub h.us.lt (fun e=>by injection e with e;omega)),⟨u,D,G,m.gr g (fun e=>by injection e with e;omega) (fun r k hk e=>by injection e with e;have:=(j r k hk).2;omega),j⟩,h.ab,h.ne,h.bt,h.bu,h.tl,h.ul,h.kl,h.kh⟩
theorem G2.gr (h:G2 tb ub w v){b:Nat}(g:v.grownBy v' (some b))(hb:w.heap.size<=b):G2 tb ub w v':=
 ⟨g.os.trans h.os,g.tape.trans h.tape,g.output.trans h.output,Nat.le_trans h.size g.size,fun k hk h1 h2=>(g.block k (Nat.lt_of_lt_of_le hk h.size) (fun e=>by injection e with e;omega)).trans (h.block k hk h1 h2)⟩
structure NB (v:World)(b:Nat):Prop where
 c0:∃u,v.cell? ⟨b,0,none⟩=some (.map u)
 c1:∃u,v.cell? ⟨b,1,none⟩=some (.map u)
 f0:∀i,v.frozen? ⟨b,i,none⟩=false
 lt:b<v.heap.size
theorem NB.made (w:World)(t:TypeId):NB (w.alloc (.cells #[.map none,.map none] t)) w.heap.size:=
 ⟨⟨none,by simp⟩,⟨none,by simp⟩,fun i=>by rw [World.frozen?_alloc_at _ _ _ _ rfl],by simp⟩
theorem NB.same {b:Nat}(h:NB v b)(e:v'.heap[b]? =v.heap[b]?)(hz:v.heap.size<=v'.heap.size):NB v' b:=by
 obtain⟨m,j⟩:=h.c0;obtain⟨q,k⟩:=h.c1;exact⟨⟨m,(World.cell?_of_block (a:=⟨b,0,none⟩) e).trans j⟩,⟨q,(World.cell?_of_block (a:=⟨b,1,none⟩) e).trans k⟩,fun i=>(World.frozen?_of_block (a:=⟨b,i,none⟩) e).trans (h.f0 i),Nat.lt_of_lt_of_le h.lt hz⟩
theorem NB.g2 {b:Nat}(h:NB v b)(g:G2 tb ub v v')(h1:b≠tb)(h2:b≠ub):NB v' b:=h.same (g.block b h.lt h1 h2) g.size
theorem NB.fill {b:Nat}(h:NB v b)(g:G2 tb ub w v)(hb:w.heap.size<=b)(s s':Option Nat):
  ∃Z,Z=(v.setCell ⟨b,0,none⟩ (.map s)).setCell ⟨b,1,none⟩ (.map s')/\ Z.cell? ⟨b,0,none⟩=some (.map s)/\ Z.cell? ⟨b,1,none⟩=some (.map s')/\ G2 tb ub w Z/\ (∀k,k≠b ->Z.heap[k]? =v.heap[k]?)/\ v.grownBy Z (some b):=by
 obtain⟨r,m⟩:=h.c0;obtain⟨u,q⟩:=h.c1;have j:∀k,k≠b ->((v.setCell ⟨b,0,none⟩ (.map s)).setCell ⟨b,1,none⟩ (.map s')).heap[k]? =v.heap[k]? :=fun k hk=>(zH _ _ _ _ (by simp;omega)).trans (zH _ _ _ _ (by simp;omega));refine⟨_,rfl,?_,?_,(g.set _ _ hb).set _ _ hb,j,⟨rfl,rfl,rfl,by simp [World.setCell],fun k hk hne=>j k (fun e=>hne (by rw [e]))⟩⟩
 ·rw [World.cell?_setCell_other _ _ _ _ (by simp)];exact World.cell?_setCell_same _ _ _ m
 ·exact World.cell?_setCell_same _ _ _ (by rw [World.cell?_setCell_other _ _ _ _ (by simp)];exact q)
end
noncomputable def lsM (l:List Lf):Dt ->Option ByteArray:=l.foldl (fun g z=>Qe8 g (z.r,z.q) (some z.v)) (fun _=>none)
theorem Qm2 (l:List Lf)(z:Lf):lsM (l++[z])=Qe8 (lsM l) (z.r,z.q) (some z.v):=by simp [lsM]
noncomputable def QgE (f:Nat ->Int)(n:Nat)(K:Int ->Int ->Bool)(kind:Int)(p:List ByteArray)(acc:List Lf)(x:Nat):Option (List Lf×Nat):=(rd f n x 1000).bind fun a=>if a.1=0 then none else Qia f n K kind p a.1 (0,0) acc a.2
def LvP (w:World)(tb B kb ub bs hi:Nat)(a:Option Addr)(n c:Nat)(f:Nat ->Int)(aT aS aL aE:Addr)(L:Int ->List (Int×Int))(x:Nat)(acc:List Lf)(kind:Int)(p:List ByteArray)(e:Ending)(w':World):Prop:=G2 tb ub w w'/\
 ((∃(l:List Lf) (x' s s':Nat),QgE f n (fun r q=>inB (L r) q q) kind p acc x=some (acc++l,x')/\ e=.returned (.tuple #[.agg #[.map (some s),.map (some s')],.nilIface])/\ TS w' tb B kb ub bs hi a n c f aT aS aL aE L ((x':Nat):Int) (acc++l)/\ (acc++l).length<=1000/\
   s≠s'/\ w.heap.size<=s/\ w.heap.size<=s'/\ QaZ w' 88 (α:=Ky) Qbs Qdg s 0 (fun _=>none)/\ QaZ w' 67 (α:=Dt) dtV Qey s' l.length (lsM l)) \/
  (QgE f n (fun r q=>inB (L r) q q) kind p acc x=none/\∃t v,e=.returned (.tuple #[.agg #[.map none,.map none],.iface t v])))
theorem Qjs {f:Nat ->Int}(hf:Byt f){n:Nat}{K:Int ->Int ->Bool}{kind:Int}{p:List ByteArray}{before:Dt}{acc:List Lf}{x x':Nat}{z:Lf}(h:Qej f n K kind p before acc x=some (z,x')):0<=z.r/\ z.r<=7/\ 0<=z.q/\ z.q<=1000000000/\ acc.length≠1000:=by
 unfold Qej at h;obtain⟨j,y,h⟩:=Qad.1 h;obtain⟨k,g,h⟩:=Qad.1 h;have m:=((Qa8 hf (V:=j.1) (x':=j.2)).1 y).2.1;have u:=((Qa8 hf (V:=k.1) (x':=k.2)).1 g).2.1;split at h
 ·rename_i hy;have v:acc.length≠1000:=by
   intro e;rw [Qaj (fun hh=>hh.2.2.2 e)] at hy;cases hy
  split at h
  ·simp only [Option.some.injEq,Prod.mk.injEq] at h;obtain⟨rfl,_⟩:=h;exact⟨by simp,m,by simp,u,v⟩
  ·obtain⟨t,_,h⟩:=Qad.1 h;simp only [Option.some.injEq,Prod.mk.injEq] at h;obtain⟨rfl,_⟩:=h;exact⟨by simp,m,by simp,u,v⟩
 ·cases h
theorem Qm0 (tb B kb ub bs hi:Nat)(a:Option Addr)(n c:Nat)(f:Nat ->Int)(aT aS aL aE:Addr)(L:Int ->List (Int×Int))(x:Nat)(acc:List Lf)(kind:Int)(p:List ByteArray)(w:World)(hn:n<=1048576)(hnc:n<=c)(hcc:c<=9223372036854775807)(hf:Byt f)(hk:kind=1 \/kind=2)
  (E:TS w tb B kb ub bs hi a n c f aT aS aL aE L (x:Int) acc) (hhi:hi<=w.heap.size) (hS:∀r,Srt (L r)/\ (L r).length<=1000000) (hl:acc.length<=1000):
  Calls Tryz.prog 107 #[.pointer (some ⟨tb,0,none⟩),.int .i64 kind] w fun e w'=>LvP w tb B kb ub bs hi a n c f aT aS aL aE L x acc kind p e w':=by
 obtain⟨P,hP⟩:∃P,LvP w tb B kb ub bs hi a n c f aT aS aL aE L x acc kind p=P:=⟨_,rfl⟩;rw [hP];have HP:=hid hP;clear hP;obtain⟨W,hW⟩:∃W,w.alloc (.cells #[.map none,.map none] 45)=W:=⟨_,rfl⟩;have b0:Below w.heap.size w W:=by rw [<- hW];exact zO _ _
 have zW:W.heap.size=w.heap.size+1:=by rw [<- hW];simp
 have Hl:Hid (NB W w.heap.size):=hid (by rw [<- hW];exact NB.made _ _);have Hb:=hid (E.below b0);have Hj:=hid (G2.below (tb:=tb) (ub:=ub) b0);have Gt:tb<w.heap.size:=E.cur.lt;have G0:ub<w.heap.size:=E.us.lt;have Gp:=E.bt;have HU:=hid (QbG tb B a n c x 1000 f aT aS aL aE W hn hf Hb.cur Hb.seg (fun y hy=>(E.ab y hy).1) Hb.err E.bt (by omega) (by omega));have HZ:=hid zW;have HF:=hid hf;have HS:=hid hS;have Hh:w.heap.size≠tb:=by omega
 have Hi:w.heap.size≠ub:=by omega
 have Hp:w.heap.size<=w.heap.size:=Nat.le_refl _;clear E b0 zW hf hS;go_enter Tryz.func107,Tryz.ntmps107;go_wp2_with fail;try rw [hW]
 clear hW;refine HU.mono ?_;clear HU;rintro e w1 ⟨T,⟨V,x1,hr,hV,rfl,cu⟩|⟨hr,t,v,y,rfl,cu⟩⟩
 ·rw [Qa4] at hr;have Hm:=hid (Hb.t T cu);have Ha:=hid (Hj.trans (G2.t T));have M:=hid (Hl.g2 (G2.t (ub:=ub) T) Hh Hi);have Hu:=hid hr;clear T hr cu Hb Hj Hl;by_cases h0:V=0
  ·subst h0;have HN:Hid (QgE f n (fun r q=>inB (L r) q q) kind p acc x=none):=hid (by unfold QgE;rw [Hu.out];rfl);obtain⟨ev,ge⟩:=Hm.err.x6;have lo:8<w.heap.size:=Nat.lt_of_lt_of_le (Nat.lt_of_lt_of_le (by decide) Hm.err.lG) (Nat.le_trans Gp (Nat.le_of_lt Gt));obtain⟨u0,k0⟩:=M.c0;obtain⟨u1,k1⟩:=M.c1;have S:=M.f0;have Go:(w1.setCell ⟨w.heap.size,0,none⟩ (.map none)).cell? ⟨8,0,none⟩=some (.iface 261 ev):=by rw [World.cell?_setCell_far _ _ _ _ (by simp;omega)];exact ge
   have Gw:((w1.setCell ⟨w.heap.size,0,none⟩ (.map none)).setCell ⟨w.heap.size,1,none⟩ (.map none)).cell? ⟨8,0,none⟩=some (.iface 261 ev):=by rw [World.cell?_setCell_far _ _ _ _ (by simp;omega)];exact Go
   clear lo;go_wp2_with fail;go_region;all_goals go_wp2_with fail
   all_goals (
    obtain⟨Z,U,q0,q1,gZ,bZ,_⟩:=M.fill Ha.out Hp none none;rw [<- U];clear U;refine zF (v:=.tuple #[.agg #[.map none,.map none],.iface 261 ev]) (by simp [results,Tryz.results107,go_sem,q0,q1]) ?_;rw [<- HP.out];exact⟨gZ.trans (G2.below zI.drew),.inr ⟨HN.out,_,_,rfl⟩⟩)
  ·have d0:((V:Int)==0)=false:=by simp;omega
   go_wp2_with fail;refine(QdN w1).mono ?_;rintro e u ⟨s,h,rfl,Gs,Gy,Gz,m1,m2,b2⟩;obtain⟨W3,Hg⟩:∃W3,(u.alloc (.cells #[.map (some s),.map (some h)] 45)).alloc (.cells #[.int .i64 0,.int .i64 0] 67)=W3:=⟨_,rfl⟩;have b3:Below u.heap.size u W3:=by rw [<- Hg];exact Qak _ _ _
   have Gm:Hid (Bx2 W3 u.heap.size (.map (some s)) (.map (some h))):=hid (by rw [<- Hg];exact(Bx2.made u _ _ _).allocs _);have H1:Hid (Bx2 W3 (u.heap.size+1) (.int .i64 0) (.int .i64 0)):=hid (by rw [<- Hg];simpa using Bx2.made (u.alloc (.cells #[.map (some s),.map (some h)] 45)) (.int .i64 0) (.int .i64 0) 67);have Hn:=Qab b2 b3;have Gk:=hid (Hm.below Hn);have Gc:=hid (Ha.trans (G2.below Hn));have Gi:=hid (M.g2 (G2.below (tb:=tb) (ub:=ub) Hn) Hh Hi);have Gf:=hid (m1.same (b3.block s m1.lt));have Gg:=hid (m2.same (b3.block h m2.lt));have G4:=Ha.size;have G3:=M.lt;have G5:=b2.size;have Gr:=m1.lt;have H0:=m2.lt;clear m1 m2 b2 b3 Hn Hm Ha M;go_wp2_with fail;try rw [Hg]
   clear Hg;go_loopw [31] (fun iv wr=>∃(k y:Nat) (l:List Lf) (X N:Int),k<=V/\ iv=.int .i64 (k:Int)/\ l.length=k/\ (acc++l).length<=1000/\ u.heap.size+1<wr.heap.size/\ Hid (TS wr tb B kb ub bs hi a n c f aT aS aL aE L (y:Int) (acc++l))/\ Hid (G2 tb ub w wr)/\ Hid (NB wr w.heap.size)/\
    Hid (Bx2 wr u.heap.size (.map (some s)) (.map (some h)))/\ Hid (Bx2 wr (u.heap.size+1) (.int .i64 X) (.int .i64 N))/\ Hid (QaZ wr 88 (α:=Ky) Qbs Qdg s 0 (fun _=>none))/\ Hid (QaZ wr 67 (α:=Dt) dtV Qey h k (lsM l))/\
    Hid (Qia f n (fun r q=>inB (L r) q q) kind p V (0,0) acc x1=Qia f n (fun r q=>inB (L r) q q) kind p (V - k) (X,N) (acc++l) y)) (fun iv _=>V - (intOf iv).toNat)
   case atStart=>exact⟨0,x1,[],0,0,Nat.zero_le _,rfl,rfl,by simpa using hl,H1.lt,by simpa using Gk,Gc,Gi,Gm,H1,Gf,Gg,hid (by simp)⟩
   case round=>
    obtain⟨k,y,l,X,N,Gx,rfl,Ga,Hy,G6,E,hG,D,F,C,He,Hf,Hc⟩:=hrel;by_cases Gq:k<V
    ·obtain⟨m,hm⟩:∃m,V - k=m+1:=⟨V - k - 1,by omega⟩;have H5:=hid (QoA tb B kb ub bs hi a n c f aT aS aL aE L y (acc++l) kind p X N wr hn hnc hcc HF.out hk E.out (Nat.le_trans hhi hG.size) HS.out Hy);have d0:=C.c0;have d1:=C.c1;obtain⟨g,o,c2,_⟩:=E.cur;go_wp2_with fail;clear g o c2 d0 d1;refine H5.mono ?_;clear H5;rintro e Q ⟨g4,⟨z,x2,hz,rfl,t4⟩|⟨hz,lr,lq,ls,t,v,rfl⟩⟩
     ·obtain⟨G9,Ka,G7,G8,Ho⟩:=Qjs HF.out hz;obtain⟨kl,H9⟩:=Qd5 (wfI (r:=z.r) (by omega) (by omega)) (wfI (r:=z.q) (by omega) (by omega));have H4:=hid H9;have Hv:Hid (Qia f n (fun r q=>inB (L r) q q) kind p V (0,0) acc x1=Qia f n (fun r q=>inB (L r) q q) kind p (V - (k+1)) (z.r,z.q) (acc++(l++[z])) x2):=hid (by
       rw [Hc.out,hm,show V - (k+1)=m by omega];show (Qej f n _ kind p (X,N) (acc++l) y).bind _=_;rw [hz];simp only [Option.bind_some,List.append_assoc])
      obtain⟨O,Hw⟩:∃O,(Q.alloc (.cells #[.int .i64 z.r,.int .i64 z.q] 67)).alloc (.cells #[.string z.v] 82)=O:=⟨_,rfl⟩;have b5:Below Q.heap.size Q O:=by rw [<- Hw];exact Qak _ _ _
      have A:G2 tb ub wr O:=g4.trans (G2.below b5);have Y5:Bx2 O Q.heap.size (.int .i64 z.r) (.int .i64 z.q):=by rw [<- Hw];exact(Bx2.made Q _ _ _).allocs _
      have M5:O.cell? ⟨Q.heap.size+1,0,none⟩=some (.string z.v):=by rw [<- Hw];rw [World.cell?_alloc_at _ _ _ _ (by simp)];rfl
      have G1:=g4.size;have Gu:=hG.size;have X5:Bx2 O u.heap.size (.map (some s)) (.map (some h)):=⟨(A.cell (by omega) (by omega) (by omega)).trans F.c0,(A.cell (by omega) (by omega) (by omega)).trans F.c1,fun i=>(A.frozen (by omega) (by omega) (by omega)).trans (F.f i),Nat.lt_of_lt_of_le F.lt A.size⟩;have D5:Bx2 O (u.heap.size+1) (.int .i64 X) (.int .i64 N):=⟨(A.cell (by omega) (by omega) (by omega)).trans C.c0,(A.cell (by omega) (by omega) (by omega)).trans C.c1,fun i=>(A.frozen (by omega) (by omega) (by omega)).trans (C.f i),Nat.lt_of_lt_of_le C.lt A.size⟩;have H6:=hid (Hf.same (A.block h Hf.lt (by omega) (by omega)));have Hq:=hid (He.same (A.block s He.lt (by omega) (by omega)));have H7:=hid (t4.below b5);have Hk:=hid (hG.trans A);have J:=hid (D.g2 A Hh Hi);have x0:=X5.c0;have Gv:=X5.c1;have y0:=Y5.c0;have y1:=Y5.c1;have K:=hid X5;have I:=hid D5;have Hd:=hid Y5;clear g4 A b5 hz t4 H9 F C He Hf E hG D Hc hm X5 D5 Y5;obtain⟨w9,r9,m9,Y⟩:=H6.store QaD (fun _ _=>Qgm) Tryz.underlying43 (by unfold maxLen;omega) (x:=(z.r,z.q)) (y:=z.v) H4.out;have Gb:h<u.heap.size:=H0;have R:∀b i,b≠h ->b<O.heap.size ->w9.cell? ⟨b,i,none⟩=O.cell? ⟨b,i,none⟩:=fun b i h1 h2=>World.cell?_of_block (a:=⟨b,i,none⟩) (Y.block b h2 (fun e=>h1 (by injection e)));have fg:∀b i,b≠h ->b<O.heap.size ->w9.frozen? ⟨b,i,none⟩=O.frozen? ⟨b,i,none⟩:=fun b i h1 h2=>World.frozen?_of_block (a:=⟨b,i,none⟩) (Y.block b h2 (fun e=>h1 (by injection e)));have v0:=(R Q.heap.size 0 (by omega) Hd.lt).trans Hd.c0;have v1:=(R Q.heap.size 1 (by omega) Hd.lt).trans Hd.c1;have H:Bx2 w9 (u.heap.size+1) (.int .i64 X) (.int .i64 N):=⟨(R _ 0 (by omega) I.lt).trans I.c0,(R _ 1 (by omega) I.lt).trans I.c1,fun i=>(fg _ i (by omega) I.lt).trans (I.f i),Nat.lt_of_lt_of_le I.lt Y.size⟩;have X9:Bx2 w9 u.heap.size (.map (some s)) (.map (some h)):=⟨(R _ 0 (by omega) K.lt).trans K.c0,(R _ 1 (by omega) K.lt).trans K.c1,fun i=>(fg _ i (by omega) K.lt).trans (K.f i),Nat.lt_of_lt_of_le K.lt Y.size⟩;have H8:=hid (H7.gr Y (by omega));have H3:=hid (Hk.gr Y (by omega));have Ht:=hid (J.same (Y.block w.heap.size J.lt (fun e=>by injection e with e;omega)) Y.size);have Hr:=hid (Hq.same (Y.block s Hq.lt (fun e=>by injection e with e;omega)));have Hs:Hid (QaZ w9 67 (α:=Dt) dtV Qey h (k+1) (lsM (l++[z]))):=hid (by rw [Qm2];exact m9);obtain⟨Zw,Hx⟩:∃Zw,(w9.setCell ⟨u.heap.size+1,0,none⟩ (.int .i64 z.r)).setCell ⟨u.heap.size+1,1,none⟩ (.int .i64 z.q)=Zw:=⟨_,rfl⟩;have G:w9.grownBy Zw (some (u.heap.size+1)):=by
       rw [<- Hx];exact⟨rfl,rfl,rfl,by simp [World.setCell],fun j hj Ho=>(zH _ _ _ _ (fun e=>Ho (by rw [e]))).trans (zH _ _ _ _ (fun e=>Ho (by rw [e])))⟩
      have DZ:Bx2 Zw (u.heap.size+1) (.int .i64 z.r) (.int .i64 z.q):=by
       rw [<- Hx];refine⟨?_,?_,fun i=> ?_,by simpa [World.setCell] using H.lt⟩
       ·rw [World.cell?_setCell_other _ _ _ _ (by simp)];exact World.cell?_setCell_same _ _ _ H.c0
       ·exact World.cell?_setCell_same _ _ _ (by rw [World.cell?_setCell_other _ _ _ _ (by simp)];exact H.c1)
       ·simpa using H.f i
      have H2:=hid DZ;have Gn:Hid (Bx2 Zw u.heap.size (.map (some s)) (.map (some h))):=hid (by
       have e:=G.block u.heap.size X9.lt (fun e=>by injection e with e;omega);exact⟨(World.cell?_of_block (a:=⟨u.heap.size,0,none⟩) e).trans X9.c0,(World.cell?_of_block (a:=⟨u.heap.size,1,none⟩) e).trans X9.c1,fun i=>(World.frozen?_of_block (a:=⟨u.heap.size,i,none⟩) e).trans (X9.f i),Nat.lt_of_lt_of_le X9.lt G.size⟩)
      have Gl:=hid (H8.gr G (by omega));have Gd:=hid (H3.gr G (by omega));have Gj:=hid (Ht.same (G.block w.heap.size Ht.lt (fun e=>by injection e with e;omega)) G.size);have Ge:=hid (Hr.same (G.block s Hr.lt (fun e=>by injection e with e;omega)));have Gh:=hid (Hs.same (G.block h Hs.lt (fun e=>by injection e with e;omega)));have e0:=H.c0;have e1:=H.c1;have ef:=H.f;have Hz:(acc++(l++[z])).length<=1000:=by simp at Hy Ho ⊢;omega
      unfold dtV Qgc Qey at r9;dsimp only at r9;clear m9 Y R fg H X9 G DZ H8 H3 Ht Hr Hs K I Hd H7 Hk J Hq H6 H4;go_wp2_with fail;try rw [Hx]
      go_roundw;case rel=>exact⟨k+1,x2,l++[z],z.r,z.q,Gq,by go_num,by simp [Ga],Hz,H2.lt,by rw [<- List.append_assoc];exact Gl,Gd,Gj,Gn,H2,Ge,Gh,Hv⟩
      case measure=>simp [intOf];omega
     ·have HN:Hid (QgE f n (fun r q=>inB (L r) q q) kind p acc x=none):=hid (by
       unfold QgE;rw [Hu.out];simp only [Option.bind_some];rw [if_neg h0,Hc.out,hm];show (Qej f n _ kind p (X,N) (acc++l) y).bind _=_;rw [hz];rfl)
      have bA:Below Q.heap.size Q (((Q.alloc (.cells #[.int .i64 lr,.int .i64 lq] 67)).alloc (.cells #[.string ls] 82)).alloc (.cells #[.string ⟨#[108,101,97,102]⟩,.int .i64 (y:Int),.iface t v] 109)):=((zO _ _).alloc (by simp) _).alloc (by simp;omega) _;have Hk:=hid (hG.trans (g4.trans (G2.below bA)));have J:=hid (D.g2 (g4.trans (G2.below bA)) Hh Hi);obtain⟨u0,k0⟩:=J.c0;obtain⟨u1,k1⟩:=J.c1;have S:=J.f0;clear g4 hz F C He Hf E hG D Hc hm bA;go_wp2_with fail;obtain⟨Z,U,q0,q1,gZ,bZ,_⟩:=J.fill Hk.out Hp none none;rw [<- U];clear U;refine zF (v:=.tuple #[.agg #[.map none,.map none],.iface 107 (.pointer (some ⟨Q.heap.size+1+1,0,none⟩))]) (by simp [results,Tryz.results107,go_sem,q0,q1]) ?_;rw [<- HP.out];exact⟨gZ,.inr ⟨HN.out,_,_,rfl⟩⟩
    ·obtain rfl:k=V:=by omega
     have HY:Hid (QgE f n (fun r q=>inB (L r) q q) kind p acc x=some (acc++l,y)):=hid (by
      unfold QgE;rw [Hu.out];simp only [Option.bind_some];rw [if_neg h0,Hc.out,Nat.sub_self];rfl)
     have x0:=F.c0;have Gv:=F.c1;obtain⟨u0,k0⟩:=D.c0;obtain⟨u1,k1⟩:=D.c1;have S:=D.f0;clear Hc;go_wp2_with fail;obtain⟨Z,U,q0,q1,gZ,bZ,gg⟩:=D.fill hG.out Hp (some s) (some h);rw [<- U];clear U;refine zF (v:=.tuple #[.agg #[.map (some s),.map (some h)],.nilIface]) (by simp [results,Tryz.results107,go_sem,q0,q1]) ?_;rw [<- HP.out];have zz:=HZ.out;refine⟨gZ,.inl ⟨l,y,s,h,HY.out,rfl,E.gr gg hhi,Hy,Gs,by omega,by omega,He.same (bZ s (by omega)),?_⟩⟩;rw [Ga];exact Hf.same (bZ h (by omega))
 ·rw [Qa4] at hr;have HN:Hid (QgE f n (fun r q=>inB (L r) q q) kind p acc x=none):=hid (by unfold QgE;rw [hr];rfl);have Ha:=hid (Hj.trans (G2.t T));have M:=hid (Hl.g2 (G2.t (ub:=ub) T) Hh Hi);obtain⟨u0,k0⟩:=M.c0;obtain⟨u1,k1⟩:=M.c1;have S:=M.f0;clear T hr cu Hj Hl Hb;go_wp2_with fail;obtain⟨Z,U,q0,q1,gZ,bZ,_⟩:=M.fill Ha.out Hp none none;rw [<- U];clear U;refine zF (v:=.tuple #[.agg #[.map none,.map none],.iface t v]) (by simp [results,Tryz.results107,go_sem,q0,q1]) ?_;rw [<- HP.out];exact⟨gZ,.inr ⟨HN.out,_,_,rfl⟩⟩
end Go.Proofs.YtdeolligikjieaaGreatDoor
