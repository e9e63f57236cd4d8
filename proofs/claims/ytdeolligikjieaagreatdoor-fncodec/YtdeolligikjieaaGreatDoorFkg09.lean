import Derived.Test.YtdeolligikjieaaGreatDoorFkg08
import Derived.Test.YtdeolligikjieaaGreatDoorFkg01
import Derived.Test.YtdeolligikjieaaGreatDoorFkg04
import Derived.Test.YtdeolligikjieaaGreatDoorFkg06
import Derived.Test.YtdeolligikjieaaGreatDoorFkg07
set_option linter.unusedVariables false
set_option linter.unusedSimpArgs false
set_option maxRecDepth 100000
set_option maxHeartbeats 40000000
namespace Go.Proofs.YtdeolligikjieaaGreatDoor
open Go.ChangeShapes Go.WideShapes Go.ChangeAt Go.RowKit
noncomputable def dsK (l:List Lf)(p:List ByteArray)(y:Ky):Nat ->List Lf
 | 0=>[]
 | k+1=>if yes (nx p (gL l k)=some y)=true then dsK l p y k++[gL l k] else dsK l p y k
theorem Qb4 {l:List Lf}{p:List ByteArray}{y:Ky}{k:Nat}(h:nx p (gL l k)=some y):dsK l p y (k+1)=dsK l p y k++[gL l k]:=by simp only [dsK];rw [if_pos (Qal h)]
theorem QbR {l:List Lf}{p:List ByteArray}{y:Ky}{k:Nat}(h:nx p (gL l k)≠some y):dsK l p y (k+1)=dsK l p y k:=by simp only [dsK];rw [if_neg (by rw [Qaj h];simp)]
theorem Qbc {l:List Lf}{p:List ByteArray}{y:Ky}{x:Lf}:∀{k:Nat},x∈dsK l p y k↔∃j,j<k/\ nx p (gL l j)=some y/\ gL l j=x
 | 0=>by simp [dsK]
 | k+1=>by
  have v:=Qbc (l:=l) (p:=p) (y:=y) (x:=x) (k:=k);by_cases h:nx p (gL l k)=some y
  ·rw [Qb4 h,List.mem_append,List.mem_singleton,v];constructor
   ·rintro(⟨j,u,e⟩|rfl)
    ·exact⟨j,by omega,e⟩
    ·exact⟨k,by omega,h,rfl⟩
   ·rintro⟨j,u,m,q⟩;by_cases r:j=k
    ·subst r;exact .inr q.symm
    ·exact .inl ⟨j,by omega,m,q⟩
  ·rw [QbR h,v];constructor
   ·rintro⟨j,u,e⟩;exact⟨j,by omega,e⟩
   ·rintro⟨j,u,m,q⟩;by_cases r:j=k
    ·subst r;exact absurd m h
    ·exact⟨j,by omega,m,q⟩
theorem Qgl (l:List Lf)(p:List ByteArray)(y:Ky):∀k,(dsK l p y k).length<=k
 | 0=>by simp [dsK]
 | k+1=>by
  have j:=Qgl l p y k;by_cases h:nx p (gL l k)=some y
  ·rw [Qb4 h];simp;exact j
  ·rw [QbR h];omega
def lfB (k:Int)(x:Lf):List Int:=uvF 9 x.r.toNat++(uvF 9 x.q.toNat++if k=1 then Qae x.v else [])
def mB (ls:List Lf)(k:Int):List Int:=uvF 9 ls.length++ls.flatMap (lfB k)
noncomputable def tB (l:List Lf):Nat ->List ByteArray ->List Int
 | 0,_=>[]
 | f+1,p=>uvF 9 (kS l p l.length).length++(kS l p l.length).flatMap fun y=>Qae y.1++([y.2]++if y.2=3 then tB l f (p++[y.1]) else mB (dsK l p y l.length) y.2)
noncomputable def kB (l:List Lf)(f:Nat)(p:List ByteArray)(y:Ky):List Int:=Qae y.1++([y.2]++if y.2=3 then tB l f (p++[y.1]) else mB (dsK l p y l.length) y.2)
theorem Qfp (l:List Lf)(f:Nat)(p:List ByteArray):tB l (f+1) p=uvF 9 (kS l p l.length).length++(kS l p l.length).flatMap (kB l f p):=rfl
theorem Qbi {p:List ByteArray}{x:Lf}{y:Ky}:nx p x=some y↔(p <+:x.p/\ p.length<x.p.length)/\ Qat x.p (kd x.fl) p.length=y:=by
 unfold nx;by_cases h:p <+:x.p/\ p.length<x.p.length
 ·rw [if_pos (Qal h)];simp [h]
 ·rw [if_neg (by rw [Qaj h];simp)];simp [h]
theorem Qff {p:List ByteArray}{x:Lf}:nx p x≠none↔p <+:x.p/\ p.length<x.p.length:=by
 unfold nx;by_cases h:p <+:x.p/\ p.length<x.p.length
 ·rw [if_pos (Qal h)];simp [h]
 ·rw [if_neg (by rw [Qaj h];simp)];simp [h]
theorem Qg0 (b:Bool):kd b=1 \/kd b=2:=by cases b<;>simp [kd]
theorem Qht {p q:List ByteArray}{s:ByteArray}:p++[s] <+:q↔(p <+:q/\ p.length<q.length)/\ gS q p.length=s:=by
 constructor
 ·rintro⟨r,rfl⟩;refine⟨⟨⟨s::r,by simp⟩,by simp⟩,?_⟩;simp [gS,List.getD]
 ·rintro⟨⟨⟨r,rfl⟩,h⟩,e⟩;cases r with
  | nil=>simp at h
  | cons t r=>
   simp [gS,List.getD] at e;subst e;exact⟨r,by simp⟩
theorem QcC {p:List ByteArray}{x:Lf}{s:ByteArray}:nx p x=some (s,3)↔nx (p++[s]) x≠none:=by
 rw [Qbi,Qff,Qht];unfold Qat;constructor
 ·rintro⟨h,e⟩;have q:=congrArg Prod.fst e;have j:=congrArg Prod.snd e;dsimp only at q j;by_cases m:p.length+1<x.p.length
  ·exact⟨⟨h,q⟩,by simpa using m⟩
  ·rw [if_neg m] at j;rcases Qg0 x.fl with k|k<;>rw [k] at j<;>exact absurd j (by decide)
 ·rintro⟨⟨h,e⟩,m⟩;refine⟨h,?_⟩;rw [if_pos (by simpa using m),e]
theorem Qg7 {p:List ByteArray}{x:Lf}{y:Ky}(hy:y.2≠3):nx p x=some y↔Way x=Qac p 3++[y]:=by
 rw [<- Qhq];constructor
 ·intro h;have k:=Qhq.1 h;rw [Qbi] at k;obtain⟨⟨_,m⟩,e⟩:=k;have j:=congrArg Prod.snd e;unfold Qat at j;dsimp only at j;have q:¬p.length+1<x.p.length:=fun hh=>by rw [if_pos hh] at j;exact hy j.symm
  refine(h.eq_of_length ?_).symm;simp [Way,QaW];omega
 ·intro h;rw [h];exact List.prefix_refl _
theorem Qb0 {p:List ByteArray}{x:Lf}{y:Ky}(hy:y.2≠3)(h:nx p x=some y):x.p=p++[y.1]/\ kd x.fl=y.2:=by
 rw [Qbi] at h;obtain⟨⟨r,m⟩,e⟩:=h;have k:=congrArg Prod.fst e;have j:=congrArg Prod.snd e;unfold Qat at k j;dsimp only at k j;have q:¬p.length+1<x.p.length:=fun hh=>by rw [if_pos hh] at j;exact hy j.symm
 rw [if_neg q] at j;exact⟨((Qht.2 ⟨⟨r,m⟩,k⟩).eq_of_length (by simp;omega)).symm,j⟩
theorem Qlq {a b:Bool}(h:kd a=kd b):a=b:=by cases a<;>cases b<;>simp [kd] at h ⊢
theorem Qeq {R F T:Nat ->Int}{n:Nat}{l:List Lf}{p:List ByteArray}{y:Ky}(h:QbQ R F T n l l.length)(hy:y.2≠3):∀k,k<=l.length ->((dsK l p y k).map fun x=>((x.r,x.q):Dt)).Pairwise (fun x y=>Qbh x y<0)
 | 0,_=>by simp [dsK]
 | k+1,hk=>by
  have u:=Qeq (p:=p) h hy k (by omega);by_cases e:nx p (gL l k)=some y
  ·rw [Qb4 e,List.map_append];refine List.pairwise_append.2 ⟨u,by simp,fun a ha b hb=> ?_⟩;simp only [List.map_cons,List.map_nil,List.mem_singleton] at hb;subst hb;obtain⟨x,g,rfl⟩:=List.mem_map.1 ha;obtain⟨j,z,v,rfl⟩:=Qbc.1 g;have m:=h.lt (i:=j) k z (by omega);obtain⟨s,t⟩:=Qb0 hy v;obtain⟨A,o⟩:=Qb0 hy e;unfold QaG at m;rw [s,A,t,o,Qd3.2 rfl,show QaT y.2 y.2=0 from QaF.int.irr _] at m;simpa [orI,Qlb,Qbh] using m
  ·rw [QbR e];exact u
theorem Qf8 {R F T:Nat ->Int}{n:Nat}{l:List Lf}{p:List ByteArray}{y:Ky}{ts:List Dt}(h:QbQ R F T n l l.length)(hy:y.2≠3)(h1:ts.Pairwise (fun x y=>Qbh x y<0))(h2:∀d,d∈ts↔Mk l l.length (Qac p 3++[y]) d≠none):ts=(dsK l p y l.length).map fun x=>((x.r,x.q):Dt):=by
 refine QaF.dot.uniq h1 (Qeq h hy _ zL) fun d=> ?_;rw [h2,QjQ,List.mem_map];constructor
 ·rintro⟨j,m,k,u⟩;exact⟨gL l j,Qbc.2 ⟨j,m,(Qg7 hy).2 k,rfl⟩,u⟩
 ·rintro⟨x,v,e⟩;obtain⟨j,m,k,rfl⟩:=Qbc.1 v;exact⟨j,m,(Qg7 hy).1 k,e⟩
theorem QfI {l:List Lf}{p:List ByteArray}{y:Ky}{x:Lf}(hy:y.2≠3)(hd:Dis l l.length)(hx:x∈dsK l p y l.length):Mk l l.length (Qac p 3++[y]) (x.r,x.q)=some x.v:=by
 obtain⟨j,m,k,rfl⟩:=Qbc.1 hx;exact(QkU hd).2 ⟨j,m,(Qg7 hy).1 k,rfl,rfl⟩
theorem Qfq (p:List ByteArray)(s:ByteArray):Qac (p++[s]) 3=Qac p 3++[(s,3)]:=by
 rw [QjI,QjI,List.length_append,List.length_singleton,List.range_succ,List.map_append];congr 1
 ·refine List.map_congr_left fun i hi=> ?_;rw [QiI (List.prefix_append p [s]) (by simpa using hi)]
 ·simp [gS,List.getD]
noncomputable def uK (l:List Lf)(p:List ByteArray):Nat ->Nat
 | 0=>0
 | k+1=>uK l p k+(if yes (nx p (gL l k)≠none)=true then 1 else 0)
theorem Qoe (l:List Lf)(p:List ByteArray):∀k,uK l p k<=k
 | 0=>Nat.le_refl _
 | k+1=>by have:=Qoe l p k;simp only [uK];split<;>omega
theorem QjA (f:Ky ->Nat)(z:Ky):∀ys:List Ky,ys.Nodup ->(ys.map fun y=>f y+if y=z then 1 else 0).sum<=(ys.map f).sum+(if yes (z∈ys)=true then 1 else 0)
 | [],_=>by simp
 | a::r,h=>by
  have j:=QjA f z r (List.nodup_cons.1 h).2;have k:=(List.nodup_cons.1 h).1;simp only [List.map_cons,List.sum_cons];by_cases e:a=z
  ·subst e;rw [Qaj k] at j;rw [Qal (List.mem_cons_self),if_pos rfl,if_pos rfl];simp at j;omega
  ·rw [if_neg e];have:(z∈a::r)=(z∈r):=by simp [show z≠a from fun h=>e h.symm]
   rw [this];omega
theorem Ql9 (l:List Lf)(p:List ByteArray)(ys:List Ky)(hn:ys.Nodup):∀k,(ys.map fun y=>(dsK l p y k).length).sum<=uK l p k
 | 0=>by
  have:(ys.map fun y=>(dsK l p y 0).length)=ys.map fun _=>0:=by simp [dsK]
  have u:∀ys:List Ky,(ys.map fun _=>0).sum=0:=fun ys=>by
   induction ys with
   | nil=>rfl
   | cons a r m=>simp only [List.map_cons,List.sum_cons,m]
  rw [this,u];exact Nat.zero_le _
 | k+1=>by
  have m:=Ql9 l p ys hn k;cases h:nx p (gL l k) with
  | none=>
   have e:(ys.map fun y=>(dsK l p y (k+1)).length)=ys.map fun y=>(dsK l p y k).length:=List.map_congr_left fun y _=>by rw [QbR (by rw [h];simp)]
   rw [e];simp only [uK];omega
  | some z=>
   have e:(ys.map fun y=>(dsK l p y (k+1)).length)=ys.map fun y=>(dsK l p y k).length+if y=z then 1 else 0:=List.map_congr_left fun y _=>by
    by_cases j:y=z
    ·subst j;rw [Qb4 h,if_pos rfl];simp
    ·rw [QbR (by rw [h];simpa using fun e=>j e.symm),if_neg j];omega
   have v:=QjA (fun y=>(dsK l p y k).length) z ys hn;have q:uK l p (k+1)=uK l p k+1:=by simp only [uK];rw [if_pos (Qal (by rw [h];simp))]
   rw [e,q];have g:(if yes (z∈ys)=true then 1 else 0)<=1:=by split<;>omega
   omega
theorem QlE (l:List Lf)(p:List ByteArray)(s:ByteArray):∀k,uK l (p++[s]) k=(dsK l p (s,3) k).length
 | 0=>rfl
 | k+1=>by
  have j:=QlE l p s k;by_cases h:nx p (gL l k)=some (s,3)
  ·rw [Qb4 h];simp only [uK];rw [if_pos (Qal (QcC.1 h)),j];simp
  ·rw [QbR h];simp only [uK];rw [if_neg (by rw [Qaj (fun hh=>h (QcC.2 hh))];simp),j];rfl
theorem Qck {α:Type}(f:α ->List Int)(g:α ->Nat)(C:Nat):∀ys:List α,(∀y∈ys,(f y).length<=C*g y) ->(ys.flatMap f).length<=C*(ys.map g).sum
 | [],_=>by simp
 | a::r,h=>by
  have k:=Qck f g C r (fun y hy=>h y (List.mem_cons_of_mem _ hy));have j:=h a (List.mem_cons_self);simp only [List.flatMap_cons,List.length_append,List.map_cons,List.sum_cons,Nat.mul_add];omega
theorem QaI (s:ByteArray):(Qae s).length<=10+s.size:=by
 have:=(Qai 9 s.size).1;simp only [Qae,List.length_append,Qas];omega
theorem Qn7 {ls:List Lf}(k:Int)(h:∀x∈ls,x.v.size<=200):(mB ls k).length<=10+230*ls.length:=by
 have t:=(Qai 9 ls.length).1;have j:=Qck (lfB k) (fun _=>1) 230 ls (fun x hx=>by
  have u:=(Qai 9 x.r.toNat).1;have y:=(Qai 9 x.q.toNat).1;have z:=QaI x.v;have g:=h x hx;unfold lfB;simp only [List.length_append];split
  ·omega
  ·simp;omega)
 have m:∀ls:List Lf,(ls.map fun _=>1).sum=ls.length:=fun ls=>by
  induction ls with
  | nil=>rfl
  | cons a r ih=>simp only [List.map_cons,List.sum_cons,ih,List.length_cons];omega
 rw [m] at j;unfold mB;simp only [List.length_append];omega
theorem QdO {p:List ByteArray}{x:Lf}{y:Ky}(hx:QbV x)(h:nx p x=some y):y.1.size<=40:=by
 rw [Qbi] at h;obtain⟨⟨_,k⟩,e⟩:=h;have j:=congrArg Prod.fst e;unfold Qat at j;dsimp only at j;rw [<- j];exact(hx.1.2.2 _ k).2
theorem QlB {R F T:Nat ->Int}{n:Nat}{l:List Lf}(h:QbQ R F T n l l.length):∀f p,(tB l f p).length<=10+(400+100*f)*uK l p l.length
 | 0,p=>by simp [tB]
 | f+1,p=>by
  have v:=QlB h f;obtain⟨z,g⟩:=QdJ p h l.length zL;have u:(kS l p l.length).Nodup:=z.imp fun{a b} hab e=>by subst e;rw [QaF.key.irr] at hab;omega
  have o:=(Qai 9 (kS l p l.length).length).1;have s:=Qck (kB l f p) (fun y=>(dsK l p y l.length).length) (500+100*f) (kS l p l.length) (fun y hy=>by
   obtain⟨j,m,e⟩:=(g y).1 hy;have O:1<=(dsK l p y l.length).length:=List.length_pos_of_mem (Qbc.2 ⟨j,m,e,rfl⟩);have Q:=QaI y.1;have U:=QdO (h j m).1 e;have t:(if y.2=3 then tB l f (p++[y.1]) else mB (dsK l p y l.length) y.2).length<=10+(400+100*f)*(dsK l p y l.length).length:=by
    by_cases k:y.2=3
    ·rw [if_pos k];have:=v (p++[y.1]);rw [QlE,show (y.1,(3:Int))=y by rw [<- k]] at this;exact this
    ·rw [if_neg k];have:=Qn7 (ls:=dsK l p y l.length) y.2 (fun x hx=>by
      obtain⟨i,r,_,rfl⟩:=Qbc.1 hx;exact(h i r).1.2.1)
     have E:230*(dsK l p y l.length).length<=(400+100*f)*(dsK l p y l.length).length:=Nat.mul_le_mul_right _ (by omega);omega
   unfold kB;simp only [List.length_append,List.length_singleton];have M:(500+100*f)*(dsK l p y l.length).length=(400+100*f)*(dsK l p y l.length).length+100*(dsK l p y l.length).length:=by rw [<- Nat.add_mul];congr 1;omega
   omega)
  have q:=Ql9 l p _ u l.length;have A:(500+100*f)*((kS l p l.length).map fun y=>(dsK l p y l.length).length).sum<=(500+100*f)*uK l p l.length:=Nat.mul_le_mul_left _ q;rw [Qfp,List.length_append,show 400+100*(f+1)=500+100*f by omega];omega
def Iv (l:List Lf)(p:List ByteArray)(i e:Nat):Prop:=(∀j,j<l.length ->(nx p (gL l j)≠none↔i<=j/\ j<e))/\ i<=e/\ e<=l.length
theorem Iv.start {l:List Lf}{p:List ByteArray}{i e:Nat}(h:Iv l p i e):∀k,k<=i ->kS l p k=[]
 | 0,_=>rfl
 | k+1,hk=>by
  rw [Qcu]
  ·exact h.start k (by omega)
  ·have:=h.1 k (by have:=h.2;omega);cases e1:nx p (gL l k) with
   | none=>rfl
   | some y=>rw [e1] at this;have:=this.1 (by simp);omega
theorem Iv.stop {l:List Lf}{p:List ByteArray}{i e:Nat}(h:Iv l p i e):∀k,e<=k ->k<=l.length ->kS l p k=kS l p e:=by
 intro k m q;induction k with
 | zero=>rw [show e=0 by omega]
 | succ k ih=>
  by_cases j:e=k+1
  ·rw [j]
  ·rw [Qcu,ih (by omega) (by omega)];have:=h.1 k (by omega);cases e1:nx p (gL l k) with
   | none=>rfl
   | some y=>rw [e1] at this;have:=this.1 (by simp);omega
section
variable {R F T : Nat -> Int} {n : Nat} {l : List Lf} {p : List ByteArray} {i e j g : Nat} {y : Ky}
theorem QeU (hy:y ∉ kS l p j)(hg:∀t,t<g ->nx p (gL l (j+t))=some y):∀t,t<g ->kS l p (j+(t+1))=kS l p j++[y]
 | 0,h=>by
  show kS l p (j+1)=_;have k:=hg 0 h;rw [Nat.add_zero] at k;rw [Qcv k,if_neg (by rw [Qaj (fun e=>hy (List.mem_of_getLast? e))];simp)]
 | t+1,h=>by
  have m:=QeU hy hg t (by omega);show kS l p (j+(t+1)+1)=_;rw [Qcv (hg (t+1) h),m,if_pos (Qal (by simp))]
theorem Qki (hl:QbQ R F T n l l.length)(hI:Iv l p i e)(hj:i<=j)(hy:y ∉ kS l p j)(h1:1<=g)(hge:j+g<=e)(hg:∀t,t<g ->nx p (gL l (j+t))=some y)(hs:j+g<e ->nx p (gL l (j+g))≠some y):
  ∀t,t<l.length ->(nx p (gL l t)=some y↔j<=t/\ t<j+g):=fun t ht=>by
 have M:=hI.2.2;constructor
 ·intro k;obtain⟨_,u⟩:=QdJ p hl j (by omega);refine⟨Nat.le_of_not_lt fun h=>hy ((u y).2 ⟨t,h,k⟩),Nat.lt_of_not_le fun h=> ?_⟩;have O:=(hI.1 t ht).1 (by rw [k];simp);have m:=hs (by omega);cases ez:nx p (gL l (j+g)) with
  | none=>have:=(hI.1 (j+g) (by omega)).2 (by omega);exact this ez
  | some z=>
   have r:z≠y:=fun e=>m (by rw [ez,e]);have v:=QbH (hl.lt (i:=j+(g - 1)) (j+g) (by omega) (by omega)) (hg (g - 1) (by omega)) ez;have o:Qb7 y z≠0:=fun e=>r ((QaF.key.z y z).1 e).symm;by_cases q:t=j+g
   ·subst q;exact m k
   ·have b:=QbH (hl.lt (i:=j+g) t (by omega) ht) ez k;have s:=(QaF.key.neg y z).1 (by omega);omega
 ·rintro⟨A,E⟩;have:=hg (t - j) (by omega);rwa [show j+(t - j)=t by omega] at this
theorem Qkh (hl:QbQ R F T n l l.length)(hI:Iv l p i e)(hy:y ∉ kS l p j)(h1:1<=g)(hge:j+g<=e)(hg:∀t,t<g ->nx p (gL l (j+t))=some y)(hs:j+g<e ->nx p (gL l (j+g))≠some y){z:Ky}(hlt:j+g<e)(hz:nx p (gL l (j+g))=some z):z ∉ kS l p (j+g):=fun k=>by
 have E:=hI.2.2;have q:=QeU hy hg (g - 1) (by omega);rw [show j+(g - 1+1)=j+g by omega] at q;rw [q,List.mem_append,List.mem_singleton] at k;have r:z≠y:=fun e=>hs hlt (by rw [hz,e]);rcases k with k|k
 ·obtain⟨_,h⟩:=QdJ p hl j (by omega);obtain⟨t,v,u⟩:=(h z).1 k;have m:=hg 0 (by omega);rw [Nat.add_zero] at m;have o:=QbH (hl.lt (i:=t) j v (by omega)) u m;have b:=QbH (hl.lt (i:=j) (j+g) (by omega) (by omega)) m hz;have s:Qb7 z y≠0:=fun e=>r ((QaF.key.z z y).1 e);have A:=(QaF.key.neg z y).1 (by omega);omega
 ·exact r k
theorem Qkg (ho:∀t,t<l.length ->(nx p (gL l t)=some y↔j<=t/\ t<j+g))(hge:j+g<=l.length):dsK l p y l.length=(List.range g).map fun t=>gL l (j+t):=by
 have q:∀k,k<=l.length ->dsK l p y k=(List.range (min (k - j) g)).map fun t=>gL l (j+t):=by
  intro k;induction k with
  | zero=>intro _;simp [dsK]
  | succ k m=>
   intro u;have m:=m (by omega);by_cases h:nx p (gL l k)=some y
   ·have:=(ho k (by omega)).1 h;rw [Qb4 h,m,show min (k+1 - j) g=(k - j)+1 by omega,show min (k - j) g=k - j by omega,List.range_succ,List.map_append];simp [show j+(k - j)=k by omega]
   ·have r:¬(j<=k/\ k<j+g):=fun hh=>h ((ho k (by omega)).2 hh);rw [QbR h,m];congr 2;omega
 rw [q _ zL,show min (l.length - j) g=g by omega]
theorem Qmj {s:ByteArray}(ho:∀t,t<l.length ->(nx p (gL l t)=some (s,3)↔j<=t/\ t<j+g))(hge:j+g<=l.length):Iv l (p++[s]) j (j+g):=
 ⟨fun t ht=>by rw [<- QcC,ho t ht],by omega,hge⟩
end
theorem QaX {P:Program}{o:Oper}{a:Act}{w w':World}{K:Act ->World ->Prop}{Q:Exit ->Act ->World ->Prop}(s x:Operand)(t u:TypeId)(ho:o.op=.call {callee:=.builtin .append,args:=#[s,x],argTypes:=#[t,u]}){v x' v':Value}{t':TypeId}(hr:(Builtin.append_ #[t,u] t' #[v,x']).run P w=.ok v' w')(hs:a.eval s=v)(hx:a.eval x=x')(ht:o.type=t')(h:K (a.put o.dst v') w'):Oper.wp P o a w K Q:=by
 subst ht;unfold Oper.wp execOp;simp only [ho,resolve,invoke,builtin,Sem.run_bind,Sem.run_pure,Result.andThen_ok,List.map_toArray,List.map_cons,List.map_nil,hs,hx,hr];exact h
theorem Qaa {P:Program}{ops:Array Oper}{rest:List Oper}{o:Oper}{a:Act}{w w':World}{Q:Exit ->Act ->World ->Prop}(hgd:o.guard=none)(s x:Operand)(t u:TypeId)(ho:o.op=.call {callee:=.builtin .append,args:=#[s,x],argTypes:=#[t,u]}){v x' v':Value}{t':TypeId}(hr:(Builtin.append_ #[t,u] t' #[v,x']).run P w=.ok v' w')(hs:a.eval s=v)(hx:a.eval x=x')(ht:o.type=t')(h:wpList P ops Q rest (a.put o.dst v') w'):wpList P ops Q (o::rest) a w:=by
 refine wpList_plain hgd fun K hK=> ?_;exact QaX s x t u ho hr hs hx ht (hK _ _ h)
theorem Qoa (B:Nat)(v:Value)(zs:List Int)(s:ByteArray)(w:World)(ho:Own w B v zs)(hB:B<=w.heap.size)(hl:zs.length<=10000000000)(hs:s.size<=1048576):
  ∃v' w',(Builtin.append_ #[22,9] 22 #[v,.string s]).run Tryz.prog w=.ok v' w'/\ Own w' B v' (zs++Qa5 s)/\ Gr w w' v v':=by
 obtain⟨u,k,y,r,z⟩:=info_parts Tryz.infoByte;have m:w.ownsRow B 5 1 v zs.length (zs.map (Value.int .u8)):=ho;obtain⟨v',w',q,i,b,Q⟩:=Lib.run_append_own_string (P:=Tryz.prog) w B 22 9 22 5 u Tryz.underlying22 Tryz.underlying9 k y r z v zs.length _ m s (by unfold maxLen;omega) (by omega) hB;refine⟨v',w',q,?_,b,?_⟩
 ·unfold Own;simp only [List.length_append,List.map_append,Qas,QbK];exact i
 ·rcases m.2 with ⟨rfl,o⟩|⟨g,cap,h,rfl,t,E,V,U,A,Y⟩
  ·have M:w.ownsRow w.heap.size 5 1 (.slice none 0 0) zs.length (zs.map (Value.int .u8)):=⟨m.1,.inl ⟨rfl,o⟩⟩;obtain⟨Z,G,j,p,_,_⟩:=Lib.run_append_own_string (P:=Tryz.prog) w w.heap.size 22 9 22 5 u Tryz.underlying22 Tryz.underlying9 k y r z _ zs.length _ M s (by unfold maxLen;omega) (by omega) zL;rw [q] at j;injection j with e1 e2;subst e1;subst e2;rcases p.2 with ⟨rfl,_⟩|⟨g,cap,h,rfl,t,_⟩
   ·exact .inl rfl
   ·exact .inr ⟨g,rfl,t⟩
  ·by_cases O:zs.length+s.size<=cap
   ·have j:=Lib.run_append_room_string (P:=Tryz.prog) w 22 9 22 5 u Tryz.underlying22 Tryz.underlying9 k r g zs.length cap h E s O (by rw [A];omega);rw [q] at j;injection j with e1 e2;subst e1;exact .inl rfl
   ·have j:=Lib.run_append_grow_string (P:=Tryz.prog) w 22 9 22 5 u (.int .u8 0) Tryz.underlying22 Tryz.underlying9 k y ⟨g,0,none⟩ zs.length cap _ (by rw [r];simp) (m.cells (g:=g) rfl) s (by omega) (by omega) (by rw [z];exact growslice_fits (by omega) (by omega));rw [q] at j;injection j with e1 e2;subst e1;exact .inr ⟨_,rfl,Nat.le_refl _⟩
theorem Qc6 (B:Nat)(v:Value)(zs ns:List Int)(a:Addr)(m c:Nat)(w:World)(ho:Own w B v zs)(hm:ns.length=m)(hn:∀i u,(ns.map (Value.int .u8))[i]? =some u ->w.cell? (a.add i)=some u)(hB:B<=w.heap.size)(hl:zs.length+m<=10000000000):
  ∃v' w',(Builtin.append_ #[22,22] 22 #[v,.slice (some a) m c]).run Tryz.prog w=.ok v' w'/\ Own w' B v' (zs++ns)/\ Gr w w' v v':=by
 obtain⟨b,r,g,t,o⟩:=info_parts Tryz.infoByte;have y:w.ownsRow B 5 1 v zs.length (zs.map (Value.int .u8)):=ho;obtain⟨v',w',h,j,k,p,q⟩:=run_append_own_at (P:=Tryz.prog) w B 22 22 5 b (.int .u8 0) 1 1 Tryz.underlying22 r g t o rfl (by decide) v zs.length _ y a m c (ns.map (Value.int .u8)) (by simp [hm]) hn (fun u hu=>by obtain⟨z,_,rfl⟩:=List.mem_map.1 hu;rfl) (by unfold maxLen;omega) (by omega) hB;refine⟨v',w',h,?_,Gr.app k q⟩;unfold Own;rw [List.length_append,List.map_append,hm];exact j
structure LvB (l:List Lf):Prop where
 rep:∀i,i<l.length ->0<=(gL l i).r/\ (gL l i).r<8
 seq:∀i,i<l.length ->0<=(gL l i).q/\ (gL l i).q<=1000000000
 val:∀i,i<l.length ->(gL l i).v.size<=200
 len:l.length<=1000
 dis:Dis l l.length
open Go.Deep
theorem QcV {w:World}{B g n cap size:Nat}{e:TypeId}{C:Nat ->Value}(h:w.ownsRow B e size (.slice (some ⟨g,0,none⟩) n cap) n ((List.range (n*size)).map C)):Wr w g e (n*size) C:=by
 rcases h.2 with ⟨y,_⟩|⟨v,t,m,z,p,r,o,i,b,q⟩
 ·cases y
 ·have u:g=v:=by injection z with k _ _;exact congrArg Addr.block (Option.some.inj k)
  rw [<- u] at r;refine⟨m,r,?_,fun j hj=> ?_⟩
  ·have:=congrArg List.length q;simp at this;omega
  ·have k:(m.toList.take (n*size))[j]? =((List.range (n*size)).map C)[j]? :=by rw [q]
   rw [List.getElem?_take_of_lt hj] at k;rw [<- Array.getElem?_toList,k];simp [List.getElem?_range hj]
theorem Qha (t e:TypeId)(i:TypeInfo)(z:Value)(size bytes:Nat)(ht:Tryz.prog.underlying t=some (.slice e))(hi:Tryz.prog.info? e=some i)(hz:i.zero=some z)(hsize:i.size=size)(hby:i.bytes=bytes)(hzs:z.cells.size=size)(hsz:0<size)(hb2:bytes<=64)(q g off m c:Nat)(C:Nat ->Value)(w:World)(B:Nat)(hm:m<=1048576)(ho:w.ownsRow B e size (.slice (some ⟨q,0,none⟩) 0 0) 0 [])(hB:B<=w.heap.size)(hC:∀j,j<m*size ->w.cell? ⟨g,off+j,none⟩=some (C j))(h1:∀j,j<m*size ->(C j).oneCell'=true):
  ∃v cap w',(Builtin.append_ #[t,t] t #[.slice (some ⟨q,0,none⟩) 0 0,.slice (some ⟨g,off,none⟩) m c]).run Tryz.prog w=.ok (.slice (some ⟨v,0,none⟩) m cap) w'/\ w'.ownsRow B e size (.slice (some ⟨v,0,none⟩) m cap) m ((List.range (m*size)).map C)/\ w.grownBy w' (some q)/\ (v=q \/v=w.heap.size):=by
 obtain⟨v',w',E,b,s,A,y⟩:=run_append_own_at (P:=Tryz.prog) w B t t e i z size bytes ht hi hz hsize hby hzs hsz (.slice (some ⟨q,0,none⟩) 0 0) 0 [] ho ⟨g,off,none⟩ m c ((List.range (m*size)).map C) (by simp) (fun j u o=>by
  simp only [List.getElem?_map,Option.map_eq_some_iff] at o;obtain⟨q,k,rfl⟩:=o;have p:j<m*size:=by
   rcases Nat.lt_or_ge j (m*size) with h|h
   ·exact h
   ·rw [List.getElem?_eq_none (by simpa using h)] at k;cases k
  rw [List.getElem?_range p] at k;have k:=Option.some.inj k;rw [<- k,Qc2];exact hC j p) (fun u hu=>by
  obtain⟨j,o,rfl⟩:=List.mem_map.1 hu;exact h1 j (by simpa using o)) (by unfold maxLen;omega) (by
   have:m*bytes<=1048576*64:=Nat.mul_le_mul hm hb2;rw [Nat.zero_add];omega) hB
 rw [Nat.zero_add,List.nil_append] at b;rcases b.2 with ⟨M,_⟩|⟨v,cap,O,rfl,r⟩
 ·have:=A.1 M;exact absurd this.1 (by simp)
 ·refine⟨v,cap,w',E,b,s,?_⟩;rcases y with y|y
  ·exact .inl (by simpa [Value.ownBlock] using y)
  ·exact .inr (by simpa [Value.ownBlock] using y)
def lCp (l:List Lf)(P Q:Nat ->Nat)(j:Nat):Value:=
 if j%5=0 then .slice (some ⟨P (j/5),0,none⟩) (gL l (j/5)).p.length (Q (j/5)) else if j%5=1 then .bool (gL l (j/5)).fl else if j%5=2 then .int .i64 (gL l (j/5)).r else if j%5=3 then .int .i64 (gL l (j/5)).q else .string (gL l (j/5)).v
theorem Qok (l:List Lf)(P Q:Nat ->Nat)(i:Nat):lCp l P Q (i*5)=.slice (some ⟨P i,0,none⟩) (gL l i).p.length (Q i)/\ lCp l P Q (i*5+1)=.bool (gL l i).fl/\ lCp l P Q (i*5+2)=.int .i64 (gL l i).r/\ lCp l P Q (i*5+3)=.int .i64 (gL l i).q/\ lCp l P Q (i*5+4)=.string (gL l i).v:=by
 unfold lCp;refine⟨?_,?_,?_,?_,?_⟩
 ·rw [if_pos (by omega),show i*5/5=i by omega]
 ·rw [if_neg (by omega),if_pos (by omega),show (i*5+1)/5=i by omega]
 ·rw [if_neg (by omega),if_neg (by omega),if_pos (by omega),show (i*5+2)/5=i by omega]
 ·rw [if_neg (by omega),if_neg (by omega),if_neg (by omega),if_pos (by omega),show (i*5+3)/5=i by omega]
 ·rw [if_neg (by omega),if_neg (by omega),if_neg (by omega),if_neg (by omega),show (i*5+4)/5=i by omega]
theorem Qku (l:List Lf)(P Q:Nat ->Nat)(k p q:Nat):(List.range ((k+1)*5)).map (lCp l (fun i=>if i=k then p else P i) (fun i=>if i=k then q else Q i))=(List.range (k*5)).map (lCp l P Q)++[.slice (some ⟨p,0,none⟩) (gL l k).p.length q,.bool (gL l k).fl,.int .i64 (gL l k).r,.int .i64 (gL l k).q,.string (gL l k).v]:=by
 rw [show (k+1)*5=k*5+1+1+1+1+1 by omega];simp only [List.range_succ,List.map_append,List.map_cons,List.map_nil,List.append_assoc,List.cons_append,List.nil_append];obtain⟨m,u,y,z,h⟩:=Qok l (fun i=>if i=k then p else P i) (fun i=>if i=k then q else Q i) k;rw [m,u,y,z,h];simp only [if_pos];congr 1;refine List.map_congr_left fun j hj=> ?_;have t:j<k*5:=by simpa using hj
 unfold lCp;have g:j/5≠k:=by omega
 simp only [if_neg g]
theorem Qc7 (w:World)(v0 v1 v2 v3 v4:Value)(t:TypeId):∀j u,[v0,v1,v2,v3,v4][j]? =some u ->(w.alloc (.cells #[v0,v1,v2,v3,v4] t)).cell? ((⟨w.heap.size,0,none⟩:Addr).add j)=some u:=by
 intro j u k;have m:=Bx5.new w v0 v1 v2 v3 v4 t;rw [Qc2,Nat.zero_add];match j,k with
 | 0,k=>rw [m.c0];simpa using k
 | 1,k=>rw [m.c1];simpa using k
 | 2,k=>rw [m.c2];simpa using k
 | 3,k=>rw [m.c3];simpa using k
 | 4,k=>rw [m.c4];simpa using k
 | j+5,k=>simp at k
structure LC (w:World)(lo:Nat)(v:Value)(l:List Lf)(P Q:Nat ->Nat):Prop where
 row:w.ownsRow lo 69 5 v l.length ((List.range (l.length*5)).map (lCp l P Q))
 pt:∀i,i<l.length ->lo<=P i/\ P i<w.heap.size/\ some (P i)≠v.ownBlock/\ Wr w (P i) 9 (gL l i).p.length (fun t=> .string (gS (gL l i).p t))/\ (gL l i).p.length<=Q i/\ Q i<=9223372036854775807
def Sep (P:Nat ->Nat)(n:Nat):Prop:=∀i j,i<n ->j<n ->i≠j ->P i≠P j
def LB (w:World)(lo:Nat)(v:Value)(l:List Lf):Prop:=∃P Q,LC w lo v l P Q/\ Sep P l.length
section
variable {w w' : World} {lo : Nat} {v : Value} {l : List Lf} {P Q : Nat -> Nat}
theorem LC.nil (w:World)(lo:Nat)(P Q:Nat ->Nat):LC w lo (.slice none 0 0) [] P Q:=⟨⟨rfl,.inl ⟨rfl,rfl⟩⟩,fun i hi=>by simp at hi⟩
theorem LC.move (h:LC w lo v l P Q)(hz:w.heap.size<=w'.heap.size)(hs:∀q,lo<=q ->q<w.heap.size ->w'.heap[q]? =w.heap[q]?):LC w' lo v l P Q:=
 ⟨Qaq h.row (fun g hg=>hs g (h.row.lt g hg).1 (h.row.lt g hg).2),fun i hi=>by
  obtain⟨j,k,r,m⟩:=h.pt i hi;exact⟨j,Nat.lt_of_lt_of_le k hz,r,m.1.same (hs _ j k),m.2⟩⟩
theorem LC.below (h:LC w lo v l P Q)(hb:Below w.heap.size w w'):LC w' lo v l P Q:=h.move hb.size (fun q _ h2=>hb.block q h2)
theorem LB.move (h:LB w lo v l)(hz:w.heap.size<=w'.heap.size)(hs:∀q,lo<=q ->q<w.heap.size ->w'.heap[q]? =w.heap[q]?):LB w' lo v l:=by
 obtain⟨P,Q,j,k⟩:=h;exact⟨P,Q,j.move hz hs,k⟩
theorem LB.below (h:LB w lo v l)(hb:Below w.heap.size w w'):LB w' lo v l:=h.move hb.size (fun q _ h2=>hb.block q h2)
theorem LB.lt (h:LB w lo v l):∀g,v.ownBlock=some g ->lo<=g/\ g<w.heap.size:=by
 obtain⟨P,Q,j,k⟩:=h;exact fun g hg=>j.row.lt g hg
theorem LB.nil (w:World)(lo:Nat):LB w lo (.slice none 0 0) []:=⟨fun _=>0,fun _=>0,LC.nil w lo _ _,fun i j hi=>by simp at hi⟩
end
theorem LB.form {w:World}{lo:Nat}{v:Value}{l:List Lf}(h:LB w lo v l):∃a c,v=.slice a l.length c:=by
 obtain⟨P,Q,k,_⟩:=h;rcases k.row.2 with ⟨e,j⟩|⟨g,cap,m,e,_⟩
 ·exact⟨none,0,by rw [e,j]⟩
 ·exact⟨_,cap,e⟩
theorem QfD (l:List Lf)(y:Lf){i:Nat}(hi:i<l.length):gL (l++[y]) i=gL l i:=by simp [gL,List.getD,List.getElem?_append_left hi]
theorem QfC (l:List Lf)(y:Lf):gL (l++[y]) l.length=y:=by simp [gL,List.getD]
theorem Qmy (l:List Lf)(y:Lf)(P Q:Nat ->Nat)(p q:Nat):(List.range ((l.length+1)*5)).map (lCp (l++[y]) (fun i=>if i=l.length then p else P i) (fun i=>if i=l.length then q else Q i))=(List.range (l.length*5)).map (lCp l P Q)++[.slice (some ⟨p,0,none⟩) y.p.length q,.bool y.fl,.int .i64 y.r,.int .i64 y.q,.string y.v]:=by
 rw [Qku,QfC];congr 1;refine List.map_congr_left fun j hj=> ?_;have k:j<l.length*5:=by simpa using hj
 unfold lCp;rw [QfD l y (show j/5<l.length by omega)]
theorem LC.app {w w1:World}{lo:Nat}{v:Value}{l:List Lf}{P Q:Nat ->Nat}(h:LC w lo v l P Q)(hb:Below w.heap.size w w1)(hlo:lo<=w.heap.size)(hk:l.length<=1048576)(y:Lf)(p pc:Nat)(hp1:lo<=p)(hp2:p<w1.heap.size)(hp3:some p≠v.ownBlock)(hw:Wr w1 p 9 y.p.length (fun t=> .string (gS y.p t)))(hpc:y.p.length<=pc/\ pc<=9223372036854775807):
  ∃j k g,(Builtin.append_ #[23,23] 23 #[v,.slice (some ⟨w1.heap.size,0,none⟩) 1 1]).run Tryz.prog (w1.alloc (.cells #[.slice (some ⟨p,0,none⟩) y.p.length pc,.bool y.fl,.int .i64 y.r,.int .i64 y.q,.string y.v] 69))=.ok (.slice (some ⟨j,0,none⟩) (l.length+1) k) g/\
   LC g lo (.slice (some ⟨j,0,none⟩) (l.length+1) k) (l++[y]) (fun i=>if i=l.length then p else P i) (fun i=>if i=l.length then pc else Q i)/\ Gr w1 g v (.slice (some ⟨j,0,none⟩) (l.length+1) k):=by
 obtain⟨R,O,C,D,F⟩:=info_parts Qdq;have B:=h.below hb;have s:Below w1.heap.size w1 (w1.alloc (.cells #[.slice (some ⟨p,0,none⟩) y.p.length pc,.bool y.fl,.int .i64 y.r,.int .i64 y.q,.string y.v] 69)):=zO _ _;have M:=B.below s;have L:=hw.same (s.block p hp2);have G:=Qc7 w1 (.slice (some ⟨p,0,none⟩) y.p.length pc) (.bool y.fl) (.int .i64 y.r) (.int .i64 y.q) (.string y.v) 69;obtain⟨m,Y⟩:∃m,w1.alloc (.cells #[.slice (some ⟨p,0,none⟩) y.p.length pc,.bool y.fl,.int .i64 y.r,.int .i64 y.q,.string y.v] 69)=m:=⟨_,rfl⟩;rw [Y] at M L G s ⊢;have hz:m.heap.size=w1.heap.size+1:=by rw [<- Y];simp
 have Ha:=hb.size;obtain⟨v',g,J,E,A,T,z⟩:=run_append_own_at (P:=Tryz.prog) m lo 23 23 69 R _ 5 64 Tryz.underlying23 O C D F rfl (by decide) v l.length _ M.row ⟨w1.heap.size,0,none⟩ 1 1 [.slice (some ⟨p,0,none⟩) y.p.length pc,.bool y.fl,.int .i64 y.r,.int .i64 y.q,.string y.v] rfl G (fun u hu=>by
  simp only [List.mem_cons,List.not_mem_nil,or_false] at hu;rcases hu with e|e|e|e|e<;>rw [e]<;>rfl) (by unfold maxLen;omega) (by omega) (by omega)
 rcases E.2 with ⟨K,W⟩|⟨j,k,S,K,r⟩
 ·omega
 rw [K] at J E z;have I:some j=v.ownBlock \/j=m.heap.size:=by
  rcases z with z|z
  ·exact .inl (by simpa [Value.ownBlock] using z)
  ·exact .inr (by simpa [Value.ownBlock] using z)
 have Hb:=A.size;have X:Gr w1 g v (.slice (some ⟨j,0,none⟩) (l.length+1) k):=by
  refine(Gr.of_below (b:=v) s).trans ⟨A,?_⟩;rcases I with e|e
  ·exact .inl e
  ·exact .inr ⟨j,rfl,by omega⟩
 refine⟨j,k,g,J,⟨?_,fun i O=> ?_⟩,X⟩
 ·rw [List.length_append,List.length_singleton,Qmy];exact E
 ·have H:∀b,some b≠v.ownBlock ->b<m.heap.size ->some b≠(Value.slice (some ⟨j,0,none⟩) (l.length+1) k).ownBlock:=fun b hb1 hb2 e=>by
   have e:b=j:=by simpa [Value.ownBlock] using e
   rcases I with o|o
   ·exact hb1 (by rw [e];exact o)
   ·omega
  by_cases e:i=l.length
  ·subst e;simp only [if_pos];rw [QfC];exact⟨hp1,by omega,H p hp3 (by omega),L.same (A.block p (by omega) hp3),hpc⟩
  ·have Z:i<l.length:=by simp at O;omega
   simp only [if_neg e];rw [QfD l y Z];obtain⟨N,o,U,V⟩:=M.pt i Z;exact⟨N,by omega,H _ U o,V.1.same (A.block _ o U),V.2⟩
theorem Sep.app {P:Nat ->Nat}{n p:Nat}(h:Sep P n)(hp:∀i,i<n ->P i≠p):Sep (fun i=>if i=n then p else P i) (n+1):=by
 intro i j q r m;dsimp only;by_cases e:i=n
 ·rw [if_pos e,if_neg (by omega)];exact fun k=>hp j (by omega) k.symm
 ·rw [if_neg e];by_cases k:j=n
  ·rw [if_pos k];exact hp i (by omega)
  ·rw [if_neg k];exact h i j (by omega) (by omega) m
theorem LB.app {w w1:World}{lo:Nat}{v:Value}{l:List Lf}(h:LB w lo v l)(hb:Below w.heap.size w w1)(hlo:lo<=w.heap.size)(hk:l.length<=1048576)(y:Lf)(p pc:Nat)(hp1:w.heap.size<=p)(hp2:p<w1.heap.size)(hw:Wr w1 p 9 y.p.length (fun t=> .string (gS y.p t)))(hpc:y.p.length<=pc/\ pc<=9223372036854775807):
  ∃k j m,(Builtin.append_ #[23,23] 23 #[v,.slice (some ⟨w1.heap.size,0,none⟩) 1 1]).run Tryz.prog (w1.alloc (.cells #[.slice (some ⟨p,0,none⟩) y.p.length pc,.bool y.fl,.int .i64 y.r,.int .i64 y.q,.string y.v] 69))=.ok (.slice (some ⟨k,0,none⟩) (l.length+1) j) m/\
   LB m lo (.slice (some ⟨k,0,none⟩) (l.length+1) j) (l++[y])/\ Gr w1 m v (.slice (some ⟨k,0,none⟩) (l.length+1) j):=by
 obtain⟨P,Q,u,b⟩:=h;obtain⟨k,j,m,z,g,o⟩:=u.app hb hlo hk y p pc (by omega) hp2 (fun e=>by have:=(u.row.lt p e.symm).2;omega) hw hpc;exact⟨k,j,m,z,⟨_,_,g,by rw [List.length_append,List.length_singleton];exact b.app (fun i hi=>by have:=(u.pt i hi).2.1;omega)⟩,o⟩
def QgS (w:World)(vw:Value)(p:List ByteArray):Prop:=(vw=.slice none 0 0/\ p=[]) \/∃g c,vw=.slice (some ⟨g,0,none⟩) p.length c/\ g<w.heap.size/\∀t,t<p.length ->w.cell? ⟨g,t,none⟩=some (.string (gS p t))
theorem QgS.move {w w':World}{vw:Value}{p:List ByteArray}(h:QgS w vw p)(hz:w.heap.size<=w'.heap.size)(hs:∀g,vw.ownBlock=some g ->w'.heap[g]? =w.heap[g]?):QgS w' vw p:=by
 rcases h with h|⟨g,c,rfl,k,j⟩
 ·exact .inl h
 ·exact .inr ⟨g,c,rfl,by omega,fun t ht=>(World.cell?_of_block (a:=⟨g,t,none⟩) (hs g rfl)).trans (j t ht)⟩
theorem QgS.lt {w:World}{vw:Value}{p:List ByteArray}(h:QgS w vw p):∀g,vw.ownBlock=some g ->g<w.heap.size:=by
 rcases h with ⟨rfl,_⟩|⟨g,c,rfl,k,m⟩
 ·intro g e;cases e
 ·intro j e;have e:g=j:=by simpa [Value.ownBlock] using e
  omega
theorem QgS.below {w w':World}{vw:Value}{p:List ByteArray}(h:QgS w vw p)(hb:Below w.heap.size w w'):QgS w' vw p:=h.move hb.size (fun g hg=>hb.block g (h.lt g hg))
def Qcf (p:List ByteArray):List Value:=(List.range (p.length*1)).map fun t=> .string (gS p t)
theorem Qnl (p:List ByteArray)(s:ByteArray){i:Nat}(hi:i<p.length):gS (p++[s]) i=gS p i:=by simp [gS,List.getD,List.getElem?_append_left hi]
theorem Qnj (p:List ByteArray)(s:ByteArray):gS (p++[s]) p.length=s:=by simp [gS,List.getD]
theorem Qjz (p:List ByteArray)(s:ByteArray):Qcf (p++[s])=Qcf p++[.string s]:=by
 unfold Qcf;rw [Nat.mul_one,Nat.mul_one,List.length_append,List.length_singleton,List.range_succ,List.map_append,List.map_singleton,Qnj];congr 1;refine List.map_congr_left fun j hj=> ?_;rw [Qnl p s (by simpa using hj)]
theorem Qi0 (g m c:Nat)(p:List ByteArray)(w:World)(hp:p.length=m)(hm:m<=1048576)(hg:g<w.heap.size)(h:∀t,t<m ->w.cell? ⟨g,t,none⟩=some (.string (gS p t))):
  Calls Tryz.prog 78 #[.slice (some ⟨g,0,none⟩) m c] w fun e w'=>∃q cap,e=.returned (.slice (some ⟨q,0,none⟩) m cap)/\ Below w.heap.size w w'/\ w'.ownsRow w.heap.size 9 1 (.slice (some ⟨q,0,none⟩) m cap) m (Qcf p):=by
 obtain⟨O,b,A,E,M⟩:=info_parts QeW;have r:Below w.heap.size w (w.alloc (.cells #[] 9)):=zO _ _;have y:(w.alloc (.cells #[] 9)).ownsRow w.heap.size 9 1 (.slice (some ⟨w.heap.size,0,none⟩) 0 0) 0 []:=by
  have:=World.ownsRow_lit (base:=w.heap.size) (e:=9) (size:=1) w #[] 0 zL (by unfold maxLen;omega) rfl;simpa using this
 obtain⟨q,cap,w',u,z,v,s⟩:=Qha 65 9 O _ 1 16 Tryz.underlying65 b A E M rfl (by decide) (by omega) w.heap.size g 0 m c (fun t=> .string (gS p t)) (w.alloc (.cells #[] 9)) w.heap.size hm y (by simp) (fun j hj=>by rw [Nat.zero_add];exact(r.cell (p:=⟨g,j,none⟩) hg).trans (h j (by omega))) (fun _ _=>rfl);have o:Hid (Below w.heap.size w w'):=hid (r.grown v r.size (fun k e=>by injection e with e;omega));have i:Hid (w'.ownsRow w.heap.size 9 1 (.slice (some ⟨q,0,none⟩) m cap) m (Qcf p)):=hid (by unfold Qcf;rw [hp];exact z);have Q:∀w:World,(binOp .eql 65 (.slice (some ⟨g,0,none⟩) m c) (.slice none 0 0)).run Tryz.prog w=.ok (.bool false) w:=fun _=>rfl;clear z v s h y r;go_enter Tryz.func78,Tryz.ntmps78;go_wp2_with (at_builtin;refine Qaa rfl _ _ _ _ rfl u (by rfl) (by rfl) rfl ?_;clear u);go_ret;exact⟨q,cap,rfl,o.out,i.out⟩
theorem QmZ (w:World):Calls Tryz.prog 78 #[.slice none 0 0] w fun e w'=>e=.returned (.slice none 0 0)/\ w'=w:=by
 have j:∀w:World,(binOp .eql 65 (.slice none 0 0) (.slice none 0 0)).run Tryz.prog w=.ok (.bool true) w:=fun _=>rfl;go_enter Tryz.func78,Tryz.ntmps78;go_wp2_with fail;go_ret;exact⟨rfl,rfl⟩
theorem Qna (vw:Value)(p:List ByteArray)(w:World)(hp:p.length<=1048576)(h:QgS w vw p):
  Calls Tryz.prog 78 #[vw] w fun e w'=>∃v,e=.returned v/\ Below w.heap.size w w'/\ w'.ownsRow w.heap.size 9 1 v p.length (Qcf p):=by
 rcases h with ⟨rfl,rfl⟩|⟨g,c,rfl,j,k⟩
 ·refine(QmZ w).mono ?_;rintro e w' ⟨rfl,rfl⟩;exact⟨_,rfl,zI,⟨rfl,.inl ⟨rfl,rfl⟩⟩⟩
 ·refine(Qi0 g p.length c p w rfl hp j k).mono ?_;rintro e w' ⟨q,cap,rfl,m,r⟩;exact⟨_,rfl,m,r⟩
theorem Qjo {w:World}{lo:Nat}{v:Value}{p:List ByteArray}(h:w.ownsRow lo 9 1 v p.length (Qcf p))(hlo:lo<=w.heap.size)(hp:p.length<=1048576)(s:ByteArray)(b:Nat)(hb:w.cell? ⟨b,0,none⟩=some (.string s)):
  ∃q cap k,(Builtin.append_ #[65,65] 65 #[v,.slice (some ⟨b,0,none⟩) 1 1]).run Tryz.prog w=.ok (.slice (some ⟨q,0,none⟩) (p.length+1) cap) k/\ k.ownsRow lo 9 1 (.slice (some ⟨q,0,none⟩) (p.length+1) cap) (p.length+1) (Qcf (p++[s]))/\ w.grownBy k v.ownBlock/\ lo<=q/\ (v.ownBlock=some q \/q=w.heap.size):=by
 obtain⟨Q,A,E,M,O⟩:=info_parts QeW;obtain⟨v',k,z,m,i,V,y⟩:=run_append_own_at (P:=Tryz.prog) w lo 65 65 9 Q _ 1 16 Tryz.underlying65 A E M O rfl (by decide) v p.length _ h ⟨b,0,none⟩ 1 1 [.string s] rfl (fun j u hj=>by
  match j,hj with
  | 0,hj=>simp at hj;rw [<- hj,Qc2];exact hb
  | j+1,hj=>simp at hj) (fun u hu=>by
  simp only [List.mem_cons,List.not_mem_nil,or_false] at hu;rw [hu];rfl) (by unfold maxLen;omega) (by omega) (by omega)
 rcases m.2 with ⟨g,Y⟩|⟨t,o,U,g,r⟩
 ·omega
 rw [g] at z m y;exact⟨t,o,k,z,by rw [Qjz];exact m,i,(m.lt t rfl).1,y.imp (fun e=>e.symm) (fun e=>by simpa [Value.ownBlock] using e)⟩
theorem Ql1 {w:World}{lo:Nat}{v:Value}{p:List ByteArray}(h:w.ownsRow lo 9 1 v p.length (Qcf p))(hlo:lo<=w.heap.size)(hp:p.length<=1048576)(s:ByteArray)(b:Nat)(hb:w.cell? ⟨b,0,none⟩=some (.string s)):
  ∃q cap j,(Builtin.append_ #[65,65] 65 #[v,.slice (some ⟨b,0,none⟩) 1 1]).run Tryz.prog w=.ok (.slice (some ⟨q,0,none⟩) (p.length+1) cap) j/\ j.ownsRow lo 9 1 (.slice (some ⟨q,0,none⟩) (p.length+1) cap) (p.length+1) (Qcf (p++[s]))/\ w.grownBy j v.ownBlock/\ lo<=q:=by
 obtain⟨q,cap,j,k,m,r,u,_⟩:=Qjo h hlo hp s b hb;exact⟨q,cap,j,k,m,r,u⟩
theorem Qcx {w:World}{lo q m cap:Nat}{p:List ByteArray}(h:w.ownsRow lo 9 1 (.slice (some ⟨q,0,none⟩) m cap) m (Qcf p))(hp:p.length=m):QgS w (.slice (some ⟨q,0,none⟩) m cap) p/\ Wr w q 9 m (fun t=> .string (gS p t)):=by
 unfold Qcf at h;rw [hp] at h;have j:=QcV h;rw [Nat.mul_one] at j;exact⟨.inr ⟨q,cap,by rw [hp],j.lt,fun t ht=>j.cell (by omega)⟩,j⟩
noncomputable def uL (l:List Lf)(p:List ByteArray):Nat ->List Lf
 | 0=>[]
 | k+1=>if yes (nx p (gL l k)≠none)=true then uL l p k++[gL l k] else uL l p k
noncomputable def wL (l:List Lf):Nat ->List ByteArray ->List Lf
 | 0,_=>[]
 | f+1,p=>(kS l p l.length).flatMap fun y=>if y.2=3 then wL l f (p++[y.1]) else dsK l p y l.length
theorem Qi8 (l:List Lf)(p:List ByteArray)(s:ByteArray):∀k,dsK l p (s,3) k=uL l (p++[s]) k
 | 0=>rfl
 | k+1=>by
  have j:=Qi8 l p s k;by_cases h:nx p (gL l k)=some (s,3)
  ·rw [Qb4 h];simp only [uL];rw [if_pos (Qal (QcC.1 h)),j]
  ·rw [QbR h];simp only [uL];rw [if_neg (by rw [Qaj (fun hh=>h (QcC.2 hh))];simp),j]
theorem Qb8 {α β:Type}{f g:α ->List β}:∀{ys:List α},(∀y∈ys,f y=g y) ->ys.flatMap f=ys.flatMap g
 | [],_=>rfl
 | a::r,h=>by
  rw [List.flatMap_cons,List.flatMap_cons,h a (List.mem_cons_self),Qb8 (fun y hy=>h y (List.mem_cons_of_mem _ hy))]
theorem QdC {R F T:Nat ->Int}{n:Nat}{l:List Lf}(p:List ByteArray)(h:QbQ R F T n l l.length):∀k,k<=l.length ->(kS l p k).flatMap (fun y=>dsK l p y k)=uL l p k
 | 0,_=>rfl
 | k+1,hk=>by
  have b:=QdC p h k (by omega);cases e:nx p (gL l k) with
  | none=>
   rw [Qcu e];have:(kS l p k).flatMap (fun y=>dsK l p y (k+1))=(kS l p k).flatMap (fun y=>dsK l p y k):=Qb8 fun y _=>QbR (by rw [e];simp);rw [this,b];simp only [uL];rw [if_neg (by rw [Qaj (fun hh=>hh e)];simp)]
  | some y=>
   have O:uL l p (k+1)=uL l p k++[gL l k]:=by simp only [uL];rw [if_pos (Qal (by rw [e];simp))]
   obtain⟨r,s⟩:=QdJ p h k (by omega);rw [O,<- b,Qcv e];by_cases m:(kS l p k).getLast? =some y
   ·rw [if_pos (Qal m)];obtain⟨v,u⟩:=List.getLast?_eq_some_iff.1 m;have g:y ∉ v:=fun hm=>by
     rw [u] at r;have:=(List.pairwise_append.1 r).2.2 y hm y (List.mem_singleton.2 rfl);rw [QaF.key.irr] at this;omega
    rw [u,List.flatMap_append,List.flatMap_append];simp only [List.flatMap_cons,List.flatMap_nil,List.append_nil];rw [Qb4 e,<- List.append_assoc];congr 2;exact Qb8 fun z q=>QbR (by rw [e];simp;exact fun hh=>g (hh ▸ q))
   ·rw [if_neg (by rw [Qaj m];simp)];have g:y ∉ kS l p k:=fun hm=>by
     obtain⟨v,u⟩:∃v,kS l p k=v:=⟨_,rfl⟩;rw [u] at r m hm;rcases List.eq_nil_or_concat v with A|⟨Y,z,q⟩
     ·rw [A] at hm;cases hm
     ·rw [q] at m hm r;simp only [List.concat_eq_append] at m hm r;have Q:z≠y:=fun hh=>m (by rw [hh];simp);rcases List.mem_append.1 hm with o|o
      ·have E:=(List.pairwise_append.1 r).2.2 y o z (List.mem_singleton.2 rfl);obtain⟨j,i,t⟩:=(s z).1 (by rw [u,q];simp);have U:=QbH (h.lt k i (by omega)) t e;have V:=(QaF.key.neg y z).1 E;omega
      ·exact Q (List.mem_singleton.1 o).symm
    have M:dsK l p y k=[]:=by
     cases hd:dsK l p y k with
     | nil=>rfl
     | cons x xs=>
      obtain⟨j,i,t,_⟩:=Qbc.1 (show x∈dsK l p y k by rw [hd];exact List.mem_cons_self);exact absurd ((s y).2 ⟨j,i,t⟩) g
    rw [List.flatMap_append];simp only [List.flatMap_cons,List.flatMap_nil,List.append_nil];rw [Qb4 e,M,List.nil_append];congr 1;exact Qb8 fun z q=>QbR (by rw [e];simp;exact fun hh=>g (hh ▸ q))
theorem Qoh {R F T:Nat ->Int}{n:Nat}{l:List Lf}(h:QbQ R F T n l l.length):∀f p,p.length+f=8 ->wL l f p=uL l p l.length
 | 0,p,hp=>by
  have:∀k,k<=l.length ->uL l p k=[]:=fun k=>by
   induction k with
   | zero=>intro _;rfl
   | succ k ih=>
    intro m;simp only [uL];rw [if_neg (by
     rw [Qaj (fun hh=> ?_)]
     ·simp
     ·have:=(Qff.1 hh).2;have:=(h k (by omega)).1.1.2.1;omega),ih (by omega)]
  exact(this _ zL).symm
 | f+1,p,hp=>by
  rw [<- QdC p h l.length zL];show (kS l p l.length).flatMap _=_;refine Qb8 fun y _=> ?_;by_cases j:y.2=3
  ·rw [if_pos j,Qoh h f (p++[y.1]) (by rw [List.length_append];simp;omega),<- Qi8];rw [show (y.1,(3:Int))=y by rw [<- j]]
  ·rw [if_neg j]
theorem QjF {R F T:Nat ->Int}{n:Nat}{l:List Lf}(h:QbQ R F T n l l.length):∀k,k<=l.length ->uL l [] k=l.take k
 | 0,_=>by simp [uL]
 | k+1,hk=>by
  simp only [uL];rw [if_pos (Qal (Qff.2 ⟨List.nil_prefix,by have:=(h k (by omega)).1.1.1;simp;omega⟩)),QjF h k (by omega),List.take_add_one];congr 1;simp [gL,List.getD,show k<l.length by omega]
theorem QlH {R F T:Nat ->Int}{n:Nat}{l:List Lf}(h:QbQ R F T n l l.length):wL l 8 []=l:=by
 rw [Qoh h 8 [] rfl,QjF h _ zL,List.take_length]
def lfK (x:Lf):List ByteArray×Int×Dt:=(x.p,kd x.fl,x.r,x.q)
theorem Qjd:QaF (fun x y:List ByteArray×Int×Dt=>orI (QaE x.1 y.1) (orI (QaT x.2.1 y.2.1) (Qbh x.2.2 y.2.2))):=QaF.path.pair (QaF.int.pair QaF.dot)
theorem QeI (x y:Lf):QaG x y<0↔0<QaG y x:=Qjd.neg (lfK x) (lfK y)
theorem Qld (x y:Lf):QaG x y=0↔lfK x=lfK y:=Qjd.z (lfK x) (lfK y)
theorem Qm1 {x y:Lf}(h:lfK x=lfK y):x.p=y.p/\ x.fl=y.fl/\ x.r=y.r/\ x.q=y.q:=by
 unfold lfK at h;have j:=congrArg Prod.fst h;have k:=congrArg (fun z=>z.2.1) h;have m:=congrArg (fun z=>z.2.2.1) h;have u:=congrArg (fun z=>z.2.2.2) h;exact⟨j,Qlq k,m,u⟩
noncomputable def Qcs (x:Lf):List Lf ->List Lf
 | []=>[x]
 | y::r=>if yes (QaG y x<0)=true then y::Qcs x r else x::y::r
theorem Qdr {x z:Lf}:∀{ls:List Lf},z∈Qcs x ls↔z=x \/z∈ls
 | []=>by simp [Qcs]
 | y::r=>by
  have j:=Qdr (x:=x) (z:=z) (ls:=r);simp only [Qcs];split
  ·rw [List.mem_cons,j,List.mem_cons];constructor
   ·rintro(h|h|h)
    ·exact .inr (.inl h)
    ·exact .inl h
    ·exact .inr (.inr h)
   ·rintro(h|h|h)
    ·exact .inr (.inl h)
    ·exact .inl h
    ·exact .inr (.inr h)
  ·rw [List.mem_cons]
theorem Qby (x:Lf):∀ls:List Lf,(Qcs x ls).length=ls.length+1
 | []=>rfl
 | y::r=>by
  simp only [Qcs];split
  ·simp [Qby x r]
  ·simp
theorem Qct {x:Lf}:∀{ls:List Lf},ls.Pairwise (fun a b=>QaG a b<0) ->(∀y∈ls,lfK y≠lfK x) ->(Qcs x ls).Pairwise (fun a b=>QaG a b<0)
 | [],_,_=>by simp [Qcs]
 | y::r,h,hne=>by
  have k:=List.pairwise_cons.1 h;have q:=Qct k.2 (fun z hz=>hne z (List.mem_cons_of_mem _ hz));simp only [Qcs];by_cases j:QaG y x<0
  ·rw [if_pos (Qal j)];refine List.pairwise_cons.2 ⟨fun z hz=> ?_,q⟩;rcases Qdr.1 hz with e|e
   ·rw [e];exact j
   ·exact k.1 z e
  ·rw [if_neg (by rw [Qaj j];simp)];have u:QaG y x≠0:=fun e=>hne y (List.mem_cons_self) ((Qld y x).1 e);have m:QaG x y<0:=(QeI x y).2 (by omega);refine List.pairwise_cons.2 ⟨fun z hz=> ?_,h⟩;rcases List.mem_cons.1 hz with e|e
   ·rw [e];exact m
   ·exact Qgj m (k.1 z e)
noncomputable def Qeh (P:Lf ->Prop)(ls:List Lf)(out:List Lf):Nat ->List Lf
 | 0=>out
 | k+1=>if yes (P (gL ls k))=true then Qcs (gL ls k) (Qeh P ls out k) else Qeh P ls out k
theorem Qfj {P:Lf ->Prop}{ls out:List Lf}{k:Nat}(h:P (gL ls k)):Qeh P ls out (k+1)=Qcs (gL ls k) (Qeh P ls out k):=by simp only [Qeh];rw [if_pos (Qal h)]
theorem QgC {P:Lf ->Prop}{ls out:List Lf}{k:Nat}(h:¬P (gL ls k)):Qeh P ls out (k+1)=Qeh P ls out k:=by simp only [Qeh];rw [if_neg (by rw [Qaj h];simp)]
theorem Qcl {P:Lf ->Prop}{ls out:List Lf}{z:Lf}:∀{k:Nat},z∈Qeh P ls out k↔z∈out \/∃j,j<k/\ P (gL ls j)/\ gL ls j=z
 | 0=>by simp [Qeh]
 | k+1=>by
  have v:=Qcl (P:=P) (ls:=ls) (out:=out) (z:=z) (k:=k);by_cases h:P (gL ls k)
  ·rw [Qfj h,Qdr,v];constructor
   ·rintro(e|e|⟨j,u,m,q⟩)
    ·exact .inr ⟨k,by omega,h,e.symm⟩
    ·exact .inl e
    ·exact .inr ⟨j,by omega,m,q⟩
   ·rintro(e|⟨j,u,m,q⟩)
    ·exact .inr (.inl e)
    ·by_cases r:j=k
     ·subst r;exact .inl q.symm
     ·exact .inr (.inr ⟨j,by omega,m,q⟩)
  ·rw [QgC h,v];constructor
   ·rintro(e|⟨j,u,m,q⟩)
    ·exact .inl e
    ·exact .inr ⟨j,by omega,m,q⟩
   ·rintro(e|⟨j,u,m,q⟩)
    ·exact .inl e
    ·by_cases r:j=k
     ·subst r;exact absurd m h
     ·exact .inr ⟨j,by omega,m,q⟩
theorem Qdu {P:Lf ->Prop}{ls out:List Lf}:∀k,(Qeh P ls out k).length<=out.length+k
 | 0=>by simp [Qeh]
 | k+1=>by
  have j:=Qdu (P:=P) (ls:=ls) (out:=out) k;simp only [Qeh];split
  ·rw [Qby];omega
  ·omega
theorem Qcy {P:Lf ->Prop}{ls out:List Lf}(ho:out.Pairwise (fun a b=>QaG a b<0))(hl:∀i j,i<j ->j<ls.length ->QaG (gL ls i) (gL ls j)<0)(hne:∀j,j<ls.length ->P (gL ls j) ->∀y∈out,lfK y≠lfK (gL ls j)):∀k,k<=ls.length ->(Qeh P ls out k).Pairwise (fun a b=>QaG a b<0)
 | 0,_=>ho
 | k+1,hk=>by
  have m:=Qcy ho hl hne k (by omega);by_cases h:P (gL ls k)
  ·rw [Qfj h];refine Qct m (fun y hy=> ?_);rcases Qcl.1 hy with e|⟨j,q,u,r⟩
   ·exact hne k (by omega) h y e
   ·intro e;rw [<- r] at e;have:=(Qld _ _).2 e;have:=hl j k q (by omega);omega
  ·rw [QgC h];exact m
noncomputable def jnL (la lb:List Lf)(hasA hasB:Lf ->Prop):List Lf:=Qeh (fun x=>¬hasA x) lb (Qeh (fun x=>x∈lb \/¬hasB x) la [] la.length) lb.length
theorem Qa1 {l:List Lf}{x:Lf}:x∈l↔∃j,j<l.length/\ gL l j=x:=by
 constructor
 ·intro h;obtain⟨j,k,e⟩:=List.getElem_of_mem h;exact⟨j,k,by simp [gL,List.getD,k,e]⟩
 ·rintro⟨j,k,e⟩;rw [<- e];have:gL l j=l[j]:=by simp [gL,List.getD,k]
  rw [this];exact List.getElem_mem k
theorem QiQ {la lb:List Lf}{hasA hasB:Lf ->Prop}{z:Lf}:z∈jnL la lb hasA hasB↔(z∈la/\ (z∈lb \/¬hasB z)) \/(z∈lb/\¬hasA z):=by
 unfold jnL;rw [Qcl,Qcl];constructor
 ·rintro((e|⟨j,m,k,q⟩)|⟨j,m,k,q⟩)
  ·cases e
  ·rw [q] at k;exact .inl ⟨Qa1.2 ⟨j,m,q⟩,k⟩
  ·rw [q] at k;exact .inr ⟨Qa1.2 ⟨j,m,q⟩,k⟩
 ·rintro(⟨m,k⟩|⟨m,k⟩)
  ·obtain⟨j,r,e⟩:=Qa1.1 m;exact .inl (.inr ⟨j,r,by rw [e];exact k,e⟩)
  ·obtain⟨j,r,e⟩:=Qa1.1 m;exact .inr ⟨j,r,by rw [e];exact k,e⟩
theorem QhQ {la lb:List Lf}{hasA hasB:Lf ->Prop}(hA:∀i j,i<j ->j<la.length ->QaG (gL la i) (gL la j)<0)(hB:∀i j,i<j ->j<lb.length ->QaG (gL lb i) (gL lb j)<0)(hk:∀x∈la,hasA x)(hd:∀x y,lfK x=lfK y ->(hasA x↔hasA y)):(jnL la lb hasA hasB).Pairwise (fun a b=>QaG a b<0):=by
 unfold jnL;refine Qcy (Qcy List.Pairwise.nil hA (fun j _ _ y hy=>by cases hy) _ zL) hB (fun j hj hP y hy e=> ?_) _ zL;rcases Qcl.1 hy with h|⟨i,k,_,m⟩
 ·cases h
 ·exact hP ((hd _ _ e).1 (hk y (Qa1.2 ⟨i,k,m⟩)))
theorem Qho:∀{a b:List Lf},a.Pairwise (fun x y=>QaG x y<0) ->b.Pairwise (fun x y=>QaG x y<0) ->(∀z,z∈a↔z∈b) ->a=b
 | [],[],_,_,_=>rfl
 | [],y::_,_,_,h=>by have:=(h y).2 (List.mem_cons_self);cases this
 | x::_,[],_,_,h=>by have:=(h x).1 (List.mem_cons_self);cases this
 | x::r,y::s,ha,hb,h=>by
  have m:=List.pairwise_cons.1 ha;have q:=List.pairwise_cons.1 hb;have u:∀z:Lf,¬QaG z z<0:=fun z j=>by have:=(QeI z z).1 j;omega
  have e:x=y:=by
   rcases List.mem_cons.1 ((h x).1 (List.mem_cons_self)) with e|e
   ·exact e
   ·rcases List.mem_cons.1 ((h y).2 (List.mem_cons_self)) with k|k
    ·exact k.symm
    ·exact absurd (Qgj (m.1 y k) (q.1 x e)) (u x)
  subst e;congr 1;refine Qho m.2 q.2 fun z=> ?_;constructor
  ·intro j;rcases List.mem_cons.1 ((h z).1 (List.mem_cons_of_mem _ j)) with e|e
   ·subst e;exact absurd (m.1 z j) (u z)
   ·exact e
  ·intro j;rcases List.mem_cons.1 ((h z).2 (List.mem_cons_of_mem _ j)) with e|e
   ·subst e;exact absurd (q.1 z j) (u z)
   ·exact e
def StW (R F T:Nat ->Int)(n:Nat)(l:List Lf):Prop:=(Qeg R F T n/\ n<=2000)/\ l.length<=1000/\ QbQ R F T n l l.length/\ Dis l l.length
theorem Qbe.w {R F T:Nat ->Int}{n:Nat}{l:List Lf}(h:Qbe R F T n l):StW R F T n l:=⟨by have:=Qam.1 h.1;exact⟨this.1,by omega⟩,h.2⟩
def Qcn (R F T:Nat ->Int)(n:Nat)(x:Lf):Prop:=Qco R F T x.r x.q x.q n=true
theorem Qhh {R F T:Nat ->Int}{n:Nat}{x y:Lf}(h:lfK x=lfK y):Qcn R F T n x↔Qcn R F T n y:=by
 obtain⟨_,_,j,k⟩:=Qm1 h;unfold Qcn;rw [j,k]
theorem Qgk {l:List Lf}(hd:Dis l l.length){x y:Lf}(hx:x∈l)(hy:y∈l)(h:x.r=y.r/\ x.q=y.q):x=y:=by
 obtain⟨i,u,k⟩:=Qa1.1 hx;obtain⟨j,v,m⟩:=Qa1.1 hy;rcases Nat.lt_trichotomy i j with e|e|e
 ·have:=hd j v i e;exact absurd (by rw [k,m];exact h) this
 ·subst e;rw [<- k,<- m]
 ·have:=hd i u j e;exact absurd (by rw [k,m];exact⟨h.1.symm,h.2.symm⟩) this
theorem QfR {l:List Lf}(h:l.Pairwise (fun a b=>QaG a b<0)){i j:Nat}(hij:i<j)(hj:j<l.length):QaG (gL l i) (gL l j)<0:=by
 have:=List.pairwise_iff_getElem.1 h i j (by omega) hj hij;have k:gL l i=l[i]:=by simp [gL,List.getD,show i<l.length by omega]
 have m:gL l j=l[j]:=by simp [gL,List.getD,hj]
 rw [k,m];exact this
section
variable {R F T : Nat -> Int} {n : Nat} {la : List Lf} {R' F' T' : Nat -> Int} {n' : Nat} {lb : List Lf}
noncomputable def jn (R F T:Nat ->Int)(n:Nat)(la:List Lf)(R' F' T':Nat ->Int)(n':Nat)(lb:List Lf):List Lf:=jnL la lb (Qcn R F T n) (Qcn R' F' T' n')
theorem QdH (h:StW R F T n la)(h':StW R' F' T' n' lb):(jn R F T n la R' F' T' n' lb).Pairwise (fun a b=>QaG a b<0):=
 QhQ (fun i j h1 h2=>h.2.2.1.lt j h1 h2) (fun i j h1 h2=>h'.2.2.1.lt j h1 h2) (fun x hx=>by
  obtain⟨j,k,e⟩:=Qa1.1 hx;have:=(h.2.2.1 j k).2.1;rw [e] at this;exact this) (fun x y e=>Qhh e)
theorem QeY (z:Lf)(hz:z∈jn R F T n la R' F' T' n' lb):z∈la \/(z∈lb/\¬Qcn R F T n z):=by
 rcases QiQ.1 hz with h|h
 ·exact .inl h.1
 ·exact .inr h
theorem Qny (h:StW R F T n la)(h':StW R' F' T' n' lb):Dis (jn R F T n la R' F' T' n' lb) (jn R F T n la R' F' T' n' lb).length:=fun i hi j u hh=>by
 have g:=QfR (QdH h h') u hi;have m:=QeY _ (Qa1.2 ⟨j,by omega,rfl⟩:gL (jn R F T n la R' F' T' n' lb) j∈_);have k:=QeY _ (Qa1.2 ⟨i,hi,rfl⟩:gL (jn R F T n la R' F' T' n' lb) i∈_);have v:∀z∈la,Qcn R F T n z:=fun z hz=>by
  obtain⟨j,u,e⟩:=Qa1.1 hz;have:=(h.2.2.1 j u).2.1;rw [e] at this;exact this
 have same:∀{x y:Lf},x.r=y.r/\ x.q=y.q ->(Qcn R F T n x↔Qcn R F T n y):=fun{x y} e=>by unfold Qcn;rw [e.1,e.2]
 have b:∀z:Lf,¬QaG z z<0:=fun z hz=>by have:=(QeI z z).1 hz;omega
 have e:gL (jn R F T n la R' F' T' n' lb) j=gL (jn R F T n la R' F' T' n' lb) i:=by
  rcases m with m|⟨m,o⟩
  ·rcases k with k|⟨k,t⟩
   ·exact Qgk h.2.2.2 m k hh
   ·exact absurd ((same hh).1 (v _ m)) t
  ·rcases k with k|⟨k,t⟩
   ·exact absurd ((same hh).2 (v _ k)) o
   ·exact Qgk h'.2.2.2 m k hh
 rw [e] at g;exact b _ g
theorem Qo7 {U V X:Nat ->Int}{m:Nat}(h:StW R F T n la)(h':StW R' F' T' n' lb)(hu:∀z:Lf,Qcn R F T n z \/Qcn R' F' T' n' z ->Qcn U V X m z):QbQ U V X m (jn R F T n la R' F' T' n' lb) (jn R F T n la R' F' T' n' lb).length:=fun i hi=>by
 have r:=QdH h h';have k:=QeY _ (Qa1.2 ⟨i,hi,rfl⟩:gL (jn R F T n la R' F' T' n' lb) i∈_);refine⟨?_,?_,fun h0=>QfR r (by omega) hi⟩
 ·rcases k with k|⟨k,_⟩
  ·obtain⟨j,q,e⟩:=Qa1.1 k;rw [<- e];exact(h.2.2.1 j q).1
  ·obtain⟨j,q,e⟩:=Qa1.1 k;rw [<- e];exact(h'.2.2.1 j q).1
 ·refine hu _ ?_;rcases k with k|⟨k,_⟩
  ·obtain⟨j,q,e⟩:=Qa1.1 k;refine .inl ?_;have:=(h.2.2.1 j q).2.1;rw [e] at this;exact this
  ·obtain⟨j,q,e⟩:=Qa1.1 k;refine .inr ?_;have:=(h'.2.2.1 j q).2.1;rw [e] at this;exact this
end
theorem Qjb (a a':Option Addr)(c c':Nat)(p p':List ByteArray)(fl fl':Bool)(r q r' q':Int)(v v':ByteArray)(w:World)(hc:p.length<=c)(hc':p'.length<=c')(E:c<=9223372036854775807)(hx':c'<=9223372036854775807)(h:QaR w a p)(h':QaR w a' p'):
  Calls Tryz.prog 45 #[.agg #[.slice a p.length c,.bool fl,.int .i64 r,.int .i64 q,.string v],.agg #[.slice a' p'.length c',.bool fl',.int .i64 r',.int .i64 q',.string v']] w fun e w'=>e=.returned (.bool (yes ((⟨p,fl,r,q,v⟩:Lf)=⟨p',fl',r',q',v'⟩)))/\ Below w.heap.size w w':=by
 obtain⟨W,j⟩:∃W,(w.alloc (.cells #[.slice a p.length c,.bool fl,.int .i64 r,.int .i64 q,.string v] 69)).alloc (.cells #[.slice a' p'.length c',.bool fl',.int .i64 r',.int .i64 q',.string v'] 69)=W:=⟨_,rfl⟩;have M:Below w.heap.size w W:=by rw [<- j];exact Qak _ _ _
 have C:W.cell? ⟨w.heap.size,0,none⟩=some (.slice a p.length c):=by rw [<- j];simp
 have Z:W.cell? ⟨w.heap.size,1,none⟩=some (.bool fl):=by rw [<- j];simp
 have G:W.cell? ⟨w.heap.size,2,none⟩=some (.int .i64 r):=by rw [<- j];simp
 have H:W.cell? ⟨w.heap.size,3,none⟩=some (.int .i64 q):=by rw [<- j];simp
 have I:W.cell? ⟨w.heap.size,4,none⟩=some (.string v):=by rw [<- j];simp
 have D:W.cell? ⟨w.heap.size+1,0,none⟩=some (.slice a' p'.length c'):=by rw [<- j];simp
 have J:W.cell? ⟨w.heap.size+1,1,none⟩=some (.bool fl'):=by rw [<- j];simp
 have K:W.cell? ⟨w.heap.size+1,2,none⟩=some (.int .i64 r'):=by rw [<- j];simp
 have L:W.cell? ⟨w.heap.size+1,3,none⟩=some (.int .i64 q'):=by rw [<- j];simp
 have N:W.cell? ⟨w.heap.size+1,4,none⟩=some (.string v'):=by rw [<- j];simp
 have b:=hid M;have O:=hid (QcN p p' a a' c c' W hc hc' E hx' (h.below M) (h'.below M));have g:Hid (yes ((⟨p,fl,r,q,v⟩:Lf)=⟨p',fl',r',q',v'⟩)=true↔QaE p p'=0/\ fl=fl'/\ r=r'/\ q=q'/\ v=v'):=hid (by
  rw [Qd3];constructor
  ·intro e;have e:(⟨p,fl,r,q,v⟩:Lf)=⟨p',fl',r',q',v'⟩:=Classical.byContradiction fun hn=>by rw [Qaj hn] at e;cases e
   injection e with Q t U e4 e5;exact⟨Q,t,U,e4,e5⟩
  ·rintro⟨rfl,rfl,rfl,rfl,rfl⟩;exact Qal rfl)
 obtain⟨B,V⟩:∃B,yes ((⟨p,fl,r,q,v⟩:Lf)=⟨p',fl',r',q',v'⟩)=B:=⟨_,rfl⟩;obtain⟨x,E⟩:∃x,QaE p p'=x:=⟨_,rfl⟩;rw [V,E] at g;rw [E] at O;rw [V];clear M h h' V E;go_enter Tryz.func45,Tryz.ntmps45;go_wp2_with fail;try rw [j]
 clear j;refine O.mono ?_;rintro e w1 ⟨rfl,k,m⟩;have F:w1.cell? ⟨w.heap.size,1,none⟩=some (.bool fl):=by rw [m];exact Z
 have P:w1.cell? ⟨w.heap.size,2,none⟩=some (.int .i64 r):=by rw [m];exact G
 have R:w1.cell? ⟨w.heap.size,3,none⟩=some (.int .i64 q):=by rw [m];exact H
 have S:w1.cell? ⟨w.heap.size,4,none⟩=some (.string v):=by rw [m];exact I
 have T:w1.cell? ⟨w.heap.size+1,1,none⟩=some (.bool fl'):=by rw [m];exact J
 have Ha:w1.cell? ⟨w.heap.size+1,2,none⟩=some (.int .i64 r'):=by rw [m];exact K
 have Hb:w1.cell? ⟨w.heap.size+1,3,none⟩=some (.int .i64 q'):=by rw [m];exact L
 have Hc:w1.cell? ⟨w.heap.size+1,4,none⟩=some (.string v'):=by rw [m];exact N
 have A:Hid (Below w.heap.size w w1):=hid (by rw [m];exact⟨b.os,b.tape,b.output,b.size,b.block⟩);clear m C Z G H I D J K L N O b;have z:¬(x=0/\ fl=fl'/\ r=r'/\ q=q'/\ v=v') ->Hid (B=false):=fun hn=>hid (by
  cases hb:B with
  | false=>rfl
  | true=>exact absurd (g.1 hb) hn)
 by_cases y:x=0
 ·have X:(x==0)=true:=by simp [y]
  by_cases o:fl=fl'
  ·have Q:(fl==fl')=true:=by simp [o]
   have Y:∀w:World,(binOp .eql 67 (.agg #[.int .i64 r,.int .i64 q]) (.agg #[.int .i64 r',.int .i64 q'])).run Tryz.prog w=.ok (.bool (r==r' && q==q')) w:=fun w=>Qlg r q r' q' w;by_cases i:r=r'/\ q=q'
   ·have t:(r==r' && q==q')=true:=by simp [i]
    rw [t] at Y;by_cases s:v=v'
    ·have U:(v.toList==v'.toList)=true:=by simp [s]
     have u:Hid (B=true):=hid (g.2 ⟨y,o,i.1,i.2,s⟩);clear g z t y o i s;go_wp2_with fail;go_ret;exact⟨Qa3 u.symm,A.out⟩
    ·have U:(v.toList==v'.toList)=false:=by simpa using fun h=>s (toList_inj h)
     have u:=z (fun h=>s h.2.2.2.2);clear g z t y o i s;go_wp2_with fail;go_ret;exact⟨Qa3 u.symm,A.out⟩
   ·have t:(r==r' && q==q')=false:=by
     cases hb:(r==r' && q==q') with
     | false=>rfl
     | true=>exact absurd (by simpa using hb) i
    rw [t] at Y;have u:=z (fun h=>i ⟨h.2.2.1,h.2.2.2.1⟩);clear g z t y o i;go_wp2_with fail;go_ret;exact⟨Qa3 u.symm,A.out⟩
  ·have Q:(fl==fl')=false:=by simpa using o
   have u:=z (fun h=>o h.2.1);clear g z y o;go_wp2_with fail;go_ret;exact⟨Qa3 u.symm,A.out⟩
 ·have X:(x==0)=false:=by simpa using y
  have u:=z (fun h=>y h.1);clear g z y;go_wp2_with fail;go_ret;exact⟨Qa3 u.symm,A.out⟩
theorem Qmu (a a':Option Addr)(c c':Nat)(l:List Lf)(p':List ByteArray)(fl':Bool)(r' q':Int)(v':ByteArray)(w:World)(hl:l.length<=1048576)(Hb:p'.length<=c')(Hd:c'<=9223372036854775807)(h:Qef w a l)(h':QaR w a' p'):
  Calls Tryz.prog 54 #[.slice a l.length c,.agg #[.slice a' p'.length c',.bool fl',.int .i64 r',.int .i64 q',.string v']] w fun e w'=>(∃i:Int,e=.returned (.int .i64 i)/\ (0<=i↔(⟨p',fl',r',q',v'⟩:Lf)∈l))/\ Below w.heap.size w w':=by
 obtain⟨W,Q⟩:∃W,w.alloc (.cells #[.slice a' p'.length c',.bool fl',.int .i64 r',.int .i64 q',.string v'] 69)=W:=⟨_,rfl⟩;have O:Below w.heap.size w W:=by rw [<- Q];exact zO _ _
 have X0:Bx5 W w.heap.size (.slice a' p'.length c') (.bool fl') (.int .i64 r') (.int .i64 q') (.string v'):=by rw [<- Q];exact Bx5.new _ _ _ _ _ _ _
 have HX:=hid X0;have R:=hid O;have HL:=hid (h.below O);have HP:=hid (h'.below O);have HC:=hid (And.intro Hb Hd);clear X0 O h h' Hb Hd;go_enter Tryz.func54,Tryz.ntmps54;go_wp2_with fail;try rw [Q]
 clear Q;go_loopw [5] (fun i wr=>∃j:Nat,j<=l.length/\ i=.int .i64 j/\ Hid (Below W.heap.size W wr)/\ Hid (∀t,t<j ->gL l t≠⟨p',fl',r',q',v'⟩)) (fun i _=>l.length - (intOf i).toNat);case atStart=>exact⟨0,Nat.zero_le _,rfl,hid zI,hid (fun t D=>by omega)⟩
 case round=>
  obtain⟨j,hj,rfl,m,J⟩:=hrel;by_cases C:j<l.length
  ·have i1:(0:Int)<=(j:Int):=Int.natCast_nonneg _;have i2:(j:Int)<(l.length:Int):=by omega
   obtain⟨b,off,rfl,hb,Hc⟩:=(HL.below m.out).resolve_left (by omega);obtain⟨P,pc,⟨g,d0⟩,sg,s,A,E,M⟩:=Hc j C;have u:=hid (fun w1 (k:Below wr.heap.size wr w1)=>Qjb P a' pc c' (gL l j).p p' (gL l j).fl fl' (gL l j).r (gL l j).q r' q' (gL l j).v v' w1 d0.1 HC.1 d0.2 HC.2 (sg.below k) ((HP.below m.out).below k));have Hf:Hid (gL l j=⟨(gL l j).p,(gL l j).fl,(gL l j).r,(gL l j).q,(gL l j).v⟩):=hid rfl;obtain⟨y,F⟩:∃y,gL l j=y:=⟨_,rfl⟩;have HY:=hid F;rw [F] at g s A E M u;obtain⟨V,U,Z,Y,G⟩:=y;dsimp only at g s A E M u;obtain⟨B,X⟩:∃B,yes ((⟨V,U,Z,Y,G⟩:Lf)=⟨p',fl',r',q',v'⟩)=B:=⟨_,rfl⟩;have Ha:=hid X;rw [X] at u;have L:=HX.below m.out HX.lt;have H:Hid (∀w',Below wr.heap.size wr w' ->(w'.cell? ⟨b,off+j*5,none⟩=some (.slice P V.length pc)/\ w'.cell? ⟨b,off+j*5+1,none⟩=some (.bool U)/\ w'.cell? ⟨b,off+j*5+2,none⟩=some (.int .i64 Z)/\ w'.cell? ⟨b,off+j*5+3,none⟩=some (.int .i64 Y)/\ w'.cell? ⟨b,off+j*5+4,none⟩=some (.string G)/\ w'.cell? ⟨w.heap.size,0,none⟩=some (.slice a' p'.length c')/\ w'.cell? ⟨w.heap.size,1,none⟩=some (.bool fl')/\ w'.cell? ⟨w.heap.size,2,none⟩=some (.int .i64 r')/\ w'.cell? ⟨w.heap.size,3,none⟩=some (.int .i64 q')/\ w'.cell? ⟨w.heap.size,4,none⟩=some (.string v'))):=hid (fun w' k=>by
    have q:=fun o=>k.cell (p:=⟨b,o,none⟩) hb;have z:=L.below k L.lt;exact⟨(q _).trans g,(q _).trans s,(q _).trans A,(q _).trans E,(q _).trans M,z.c0,z.c1,z.c2,z.c3,z.c4⟩)
   clear F X Hc sg L;go_wp2_with fail;refine zR (S:=fun w'=>w'.cell? ⟨b,off+j*5,none⟩=some (.slice P V.length pc)/\ w'.cell? ⟨b,off+j*5+1,none⟩=some (.bool U)/\ w'.cell? ⟨b,off+j*5+2,none⟩=some (.int .i64 Z)/\ w'.cell? ⟨b,off+j*5+3,none⟩=some (.int .i64 Y)/\ w'.cell? ⟨b,off+j*5+4,none⟩=some (.string G)/\ w'.cell? ⟨w.heap.size,0,none⟩=some (.slice a' p'.length c')/\ w'.cell? ⟨w.heap.size,1,none⟩=some (.bool fl')/\ w'.cell? ⟨w.heap.size,2,none⟩=some (.int .i64 r')/\ w'.cell? ⟨w.heap.size,3,none⟩=some (.int .i64 q')/\ w'.cell? ⟨w.heap.size,4,none⟩=some (.string v')) (H _ zI.drew) (fun qh=> ?_);clear g s A E M;refine tZ 0 12 ?_;refine tZ 1 13 ?_;refine tZ 2 14 ?_;refine tZ 3 15 ?_;refine tZ 4 16 ?_;refine cZ 5 ?_;intro K hK;go_simp;refine(u _ zI.drew).mono ?_;rintro e w1 ⟨rfl,k⟩;have N:Below wr.heap.size wr w1:=⟨k.os,k.tape,k.output,k.size,k.block⟩;refine hK.out _ _ (H _ N) (fun qh=> ?_);clear hK K;try simp only [zP]
   refine zD ?_;have T:=hid (m.trans (N.mono m.size));clear qh k N H u;cases B with
   | true=>
    have I:Hid ((⟨p',fl',r',q',v'⟩:Lf)∈l):=hid (by
     have e:(⟨V,U,Z,Y,G⟩:Lf)=⟨p',fl',r',q',v'⟩:=Classical.byContradiction fun hn=>by have:=Ha.out;rw [Qaj hn] at this;cases this
     rw [<- e,<- HY.out];exact Qa1.2 ⟨j,C,rfl⟩)
    go_wp2_with fail;go_ret;exact⟨⟨(j:Int),rfl,⟨fun _=>I.out,fun _=>i1⟩⟩,Qab R.out T.out⟩
   | false=>
    have He:Hid (∀t,t<j+1 ->gL l t≠⟨p',fl',r',q',v'⟩):=hid (fun t D=>by
     by_cases e:t=j
     ·rw [e,HY.out];intro e2;have:=Ha.out;rw [Qal e2] at this;cases this
     ·exact J t (by omega))
    clear J m;go_wp2_with fail;go_roundw;case rel=>exact⟨j+1,C,by go_num,T,He⟩
    case measure=>simp [intOf];omega
  ·obtain rfl:j=l.length:=by omega
   have I:Hid (¬(⟨p',fl',r',q',v'⟩:Lf)∈l):=hid (fun hm=>by
    obtain⟨t,D,e⟩:=Qa1.1 hm;exact J t D e)
   go_wp2_with fail;go_ret;exact⟨⟨-1,rfl,⟨fun h=>by omega,fun h=>absurd h I.out⟩⟩,Qab R.out m.out⟩
theorem LC.cast {w:World}{lo:Nat}{v:Value}{l:List Lf}{P Q P' Q':Nat ->Nat}(h:LC w lo v l P Q)(e:∀i,i<l.length ->P' i=P i/\ Q' i=Q i):LC w lo v l P' Q':=by
 refine⟨?_,fun i hi=> ?_⟩
 ·have:(List.range (l.length*5)).map (lCp l P' Q')=(List.range (l.length*5)).map (lCp l P Q):=List.map_congr_left fun j hj=>by
   have q:j<l.length*5:=by simpa using hj
   obtain⟨k,m⟩:=e (j/5) (by omega);unfold lCp;rw [k,m]
  rw [this];exact h.row
 ·obtain⟨k,m⟩:=e i hi;rw [k,m];exact h.pt i hi
theorem Qgv {y:Lf}:∀{ls:List Lf} {k:Nat},k<=ls.length ->(∀i,i<k ->QaG (gL ls i) y<0) ->(k<ls.length ->¬QaG (gL ls k) y<0) ->Qcs y ls=ls.take k++y::ls.drop k
 | [],k,hk,_,_=>by
  obtain rfl:k=0:=by simpa using hk
  simp [Qcs]
 | x::r,0,_,_,j=>by
  have j:=j (by simp);have e:gL (x::r) 0=x:=rfl;rw [e] at j;simp only [Qcs];rw [if_neg (by rw [Qaj j];simp)];simp
 | x::r,k+1,hk,h1,j=>by
  have e:gL (x::r) 0=x:=rfl;have m:=h1 0 (by omega);rw [e] at m;simp only [Qcs];rw [if_pos (Qal m),Qgv (ls:=r) (k:=k) (by simpa using hk) (fun i hi=>h1 (i+1) (by omega)) (fun hh=>j (by simp;omega))];simp
theorem LC.cell {w:World}{lo g n cap:Nat}{l:List Lf}{P Q:Nat ->Nat}(h:LC w lo (.slice (some ⟨g,0,none⟩) n cap) l P Q)(hn:n=l.length){i:Nat}(hi:i<l.length):
  w.cell? ⟨g,i*5,none⟩=some (.slice (some ⟨P i,0,none⟩) (gL l i).p.length (Q i))/\ w.cell? ⟨g,i*5+1,none⟩=some (.bool (gL l i).fl)/\ w.cell? ⟨g,i*5+2,none⟩=some (.int .i64 (gL l i).r)/\ w.cell? ⟨g,i*5+3,none⟩=some (.int .i64 (gL l i).q)/\ w.cell? ⟨g,i*5+4,none⟩=some (.string (gL l i).v):=by
 subst hn;have j:=QcV h.row;obtain⟨k,m,u,y,z⟩:=Qok l P Q i;exact⟨by rw [j.cell (by omega),k],by rw [j.cell (by omega),m],by rw [j.cell (by omega),u],by rw [j.cell (by omega),y],by rw [j.cell (by omega),z]⟩
theorem LC.seg {w:World}{lo:Nat}{v:Value}{l:List Lf}{P Q:Nat ->Nat}(h:LC w lo v l P Q){i:Nat}(hi:i<l.length):QaR w (some ⟨P i,0,none⟩) (gL l i).p:=by
 obtain⟨m,j,q,k,r⟩:=h.pt i hi;exact .inr ⟨P i,0,rfl,j,fun t ht=>by rw [Nat.zero_add];exact k.cell ht⟩
theorem LC.lt {w:World}{lo:Nat}{v:Value}{l:List Lf}{P Q:Nat ->Nat}(h:LC w lo v l P Q):∀g,v.ownBlock=some g ->lo<=g/\ g<w.heap.size:=fun g hg=>h.row.lt g hg
theorem LC.low {w:World}{lo lo':Nat}{v:Value}{l:List Lf}{P Q:Nat ->Nat}(h:LC w lo v l P Q)(hl:lo'<=lo):LC w lo' v l P Q:=⟨QaV h.row hl,fun i hi=>by obtain⟨j,k⟩:=h.pt i hi;exact⟨Nat.le_trans hl j,k⟩⟩
theorem LC.cap {w:World}{lo g n cap:Nat}{l:List Lf}{P Q:Nat ->Nat}(h:LC w lo (.slice (some ⟨g,0,none⟩) n cap) l P Q):l.length<=cap/\ cap<=9223372036854775807:=by
 rcases h.row.2 with ⟨j,_⟩|⟨u,q,r,m,o,t,v,k,y,z⟩
 ·cases j
 ·injection m with e1 e2 e3;unfold maxLen at k;omega
theorem LC.rest {w:World}{lo:Nat}{v:Value}{l:List Lf}{P Q:Nat ->Nat}(h:LC w lo v l P Q)(hlo:lo<=w.heap.size)(l':List Lf)(P' Q':Nat ->Nat)(g k m c off:Nat)(hk:k+m=l'.length)(hl:l.length+m<=1048576)(hoff:0<m ->off=k*5)(hC:∀j,j<l'.length*5 ->w.cell? ⟨g,j,none⟩=some (lCp l' P' Q' j))(hp:∀i,i<l'.length ->lo<=P' i/\ P' i<w.heap.size/\ some (P' i)≠v.ownBlock/\ Wr w (P' i) 9 (gL l' i).p.length (fun t=> .string (gS (gL l' i).p t))/\ (gL l' i).p.length<=Q' i/\ Q' i<=9223372036854775807)(hv:v≠.slice none 0 0):
  ∃y o O,(Builtin.append_ #[23,23] 23 #[v,.slice (some ⟨g,off,none⟩) m c]).run Tryz.prog w=.ok (.slice (some ⟨y,0,none⟩) (l.length+m) o) O/\
   LC O lo (.slice (some ⟨y,0,none⟩) (l.length+m) o) (l++l'.drop k) (fun i=>if i<l.length then P i else P' (k+(i - l.length))) (fun i=>if i<l.length then Q i else Q' (k+(i - l.length)))/\ Gr w O v (.slice (some ⟨y,0,none⟩) (l.length+m) o):=by
 obtain⟨i0,s,T,W,Ha⟩:=info_parts Qdq;have S:∀j,(lCp l' P' Q' j).oneCell'=true:=fun j=>by unfold lCp;split;rfl;split;rfl;split;rfl;split;rfl;rfl
 obtain⟨v',O,X,G,Y,C,E⟩:=run_append_own_at (P:=Tryz.prog) w lo 23 23 69 i0 _ 5 64 Tryz.underlying23 s T W Ha rfl (by decide) v l.length _ h.row ⟨g,off,none⟩ m c ((List.range (m*5)).map fun j=>lCp l' P' Q' (k*5+j)) (by simp) (fun j u A=>by
  simp only [List.getElem?_map,Option.map_eq_some_iff] at A;obtain⟨q,M,rfl⟩:=A;have R:j<m*5:=by
   rcases Nat.lt_or_ge j (m*5) with h|h
   ·exact h
   ·rw [List.getElem?_eq_none (by simpa using h)] at M;cases M
  rw [List.getElem?_range R] at M;have M:=Option.some.inj M;rw [<- M,Qc2,hoff (by omega)];exact hC _ (by omega)) (fun u hu=>by
  obtain⟨j,A,rfl⟩:=List.mem_map.1 hu;exact S _) (by unfold maxLen;omega) (by omega) hlo
 rcases G.2 with ⟨H,h0⟩|⟨y,o,Hb,H,r⟩
 ·exact absurd (C.1 H).1 hv
 rw [H] at X G E;have N:some y=v.ownBlock \/y=w.heap.size:=by
  rcases E with E|E
  ·exact .inl (by simpa [Value.ownBlock] using E)
  ·exact .inr (by simpa [Value.ownBlock] using E)
 have Hc:=Y.size;have D:Gr w O v (.slice (some ⟨y,0,none⟩) (l.length+m) o):=by
  refine⟨Y,?_⟩;rcases N with e|e
  ·exact .inl e
  ·exact .inr ⟨y,rfl,by omega⟩
 have K:(l++l'.drop k).length=l.length+m:=by simp;omega
 have L:∀b,some b≠v.ownBlock ->b<w.heap.size ->some b≠(Value.slice (some ⟨y,0,none⟩) (l.length+m) o).ownBlock:=fun b hb1 hb2 e=>by
  have e:b=y:=by simpa [Value.ownBlock] using e
  rcases N with z|z
  ·exact hb1 (by rw [e];exact z)
  ·omega
 have I:∀i,i<l.length ->gL (l++l'.drop k) i=gL l i:=fun i s=>by simp [gL,List.getD,List.getElem?_append_left s]
 have J:∀i,l.length<=i ->gL (l++l'.drop k) i=gL l' (k+(i - l.length)):=fun i s=>by simp [gL,List.getD,List.getElem?_append_right s]
 refine⟨y,o,O,X,⟨?_,fun i s=> ?_⟩,D⟩
 ·rw [K];have B:(List.range ((l.length+m)*5)).map (lCp (l++l'.drop k) (fun i=>if i<l.length then P i else P' (k+(i - l.length))) (fun i=>if i<l.length then Q i else Q' (k+(i - l.length))))=(List.range (l.length*5)).map (lCp l P Q)++(List.range (m*5)).map fun j=>lCp l' P' Q' (k*5+j):=by
   rw [Nat.add_mul,List.range_add,List.map_append,List.map_map];congr 1
   ·refine List.map_congr_left fun j A=> ?_;have F:j<l.length*5:=by simpa using A
    unfold lCp;rw [I (j/5) (by omega)];dsimp only;rw [if_pos (show j/5<l.length by omega),if_pos (show j/5<l.length by omega)]
   ·refine List.map_congr_left fun j A=> ?_;have F:j<m*5:=by simpa using A
    simp only [Function.comp];unfold lCp;rw [J ((l.length*5+j)/5) (by omega)];dsimp only;rw [if_neg (show¬(l.length*5+j)/5<l.length by omega),if_neg (show¬(l.length*5+j)/5<l.length by omega),show k+((l.length*5+j)/5 - l.length)=(k*5+j)/5 by omega,show (l.length*5+j)%5=(k*5+j)%5 by omega]
  rw [B];exact G
 ·by_cases e:i<l.length
  ·simp only [if_pos e];rw [I i e];obtain⟨Z,z,U,V⟩:=h.pt i e;exact⟨Z,by omega,L _ U z,V.1.same (Y.block _ z U),V.2⟩
  ·simp only [if_neg e];rw [J i (by omega)];obtain⟨Z,z,U,V⟩:=hp (k+(i - l.length)) (by rw [K] at s;omega);exact⟨Z,by omega,L _ U z,V.1.same (Y.block _ z U),V.2⟩
theorem Qbk {q n c k:Nat}(h:(Value.slice (some ⟨q,0,none⟩) n c).ownBlock=some k):q=k:=by simpa [Value.ownBlock] using h
theorem QfH (g cap:Nat)(l:List Lf)(P Q:Nat ->Nat)(w:World)(lo pb pc:Nat)(yp:List ByteArray)(yf:Bool)(yr yq:Int)(yv:ByteArray)(h:LC w lo (.slice (some ⟨g,0,none⟩) l.length cap) l P Q)(hlo:lo<=w.heap.size)(hl:l.length<=100000)(hpl:∀i,i<l.length ->(gL l i).p.length<=1048576)(hyl:yp.length<=1048576)(Hz:lo<=pb/\ pb<w.heap.size)(hyw:Wr w pb 9 yp.length (fun t=> .string (gS yp t)))(Hy:yp.length<=pc/\ pc<=9223372036854775807):
  Calls Tryz.prog 55 #[.slice (some ⟨g,0,none⟩) l.length cap,.agg #[.slice (some ⟨pb,0,none⟩) yp.length pc,.bool yf,.int .i64 yr,.int .i64 yq,.string yv]] w fun e w'=>(∃g' cap' s A,e=.returned (.slice (some ⟨g',0,none⟩) (l.length+1) cap')/\ w.heap.size<=g'/\ LC w' lo (.slice (some ⟨g',0,none⟩) (l.length+1) cap') (Qcs ⟨yp,yf,yr,yq,yv⟩ l) s A)/\ Below w.heap.size w w':=by
 obtain⟨W,hW⟩:∃W,(w.alloc (.cells #[.slice (some ⟨pb,0,none⟩) yp.length pc,.bool yf,.int .i64 yr,.int .i64 yq,.string yv] 69)).alloc (.cells #[] 69)=W:=⟨_,rfl⟩;have b0:Below w.heap.size w W:=by rw [<- hW];exact Qak _ _ _
 have X0:Bx5 W w.heap.size (.slice (some ⟨pb,0,none⟩) yp.length pc) (.bool yf) (.int .i64 yr) (.int .i64 yq) (.string yv):=by rw [<- hW];exact(Bx5.new _ _ _ _ _ _ _).up _
 have zW:W.heap.size=w.heap.size+2:=by rw [<- hW];simp
 have Ht:LC W w.heap.size (.slice (some ⟨w.heap.size+1,0,none⟩) 0 0) [] P Q:=by
  refine⟨?_,fun i hi=>by simp at hi⟩;have:=World.ownsRow_lit (base:=w.heap.size) (e:=69) (size:=5) (w.alloc (.cells #[.slice (some ⟨pb,0,none⟩) yp.length pc,.bool yf,.int .i64 yr,.int .i64 yq,.string yv] 69)) #[] 0 (by simp) (by unfold maxLen;omega) rfl;rw [hW] at this;simpa using this
 have hg:=(h.lt g rfl).2;have HH:=hid h;have HX:=hid X0;have Hs:=hid hyw;have HY:=hid (And.intro Hz Hy);have H6:=hid hpl;have Hj:=hid hlo;have Hn:=hid Ht;have H9:=h.cap;have Hr:Hid (∀i,i<l.length ->lo<=P i/\ P i<w.heap.size):=hid (fun i hi=>⟨(h.pt i hi).1,(h.pt i hi).2.1⟩);have H2:=hid hg;have H7:=hid zW;have H0:=hid b0;clear h b0 X0 zW Ht hg Hz hyw Hy hpl hlo;have H3:Hid (∀wr q k b,Gr W wr (.slice (some ⟨w.heap.size+1,0,none⟩) 0 0) (.slice (some ⟨q,0,none⟩) k b) ->Below w.heap.size w wr/\ Bx5 wr w.heap.size (.slice (some ⟨pb,0,none⟩) yp.length pc) (.bool yf) (.int .i64 yr) (.int .i64 yq) (.string yv)/\ w.heap.size<q):=hid (fun wr q k b hG=>by
  have hz:=H7.out;have hs:=hG.g.size;have e:=hG.g.block w.heap.size (by omega) (fun e=>by have:=Qbk e.symm;omega);refine⟨H0.trans (hG.below (by omega) (fun k N=>by have:=Qbk N;omega)),?_,?_⟩
  ·have q:=fun o=>World.cell?_of_block (w:=W) (w':=wr) (a:=⟨w.heap.size,o,none⟩) e;exact⟨(q 0).trans HX.c0,(q 1).trans HX.c1,(q 2).trans HX.c2,(q 3).trans HX.c3,(q 4).trans HX.c4,fun i=>(World.frozen?_of_block (a:=⟨w.heap.size,i,none⟩) e).trans (HX.f i),by have:=HX.lt;omega⟩
  ·rcases hG.l with E|⟨j,E,h2⟩
   ·have:=Qbk (k:=w.heap.size+1) E;omega
   ·have:=Qbk E;omega)
 have Hp:Hid (∀w1 k q b,k<=l.length ->LC w1 lo (.slice (some ⟨q,0,none⟩) k b) (l.take k) P Q ->Below w.heap.size w w1 ->w.heap.size<q ->∃z y M,(Builtin.append_ #[23,23] 23 #[.slice (some ⟨q,0,none⟩) k b,.slice (some ⟨w1.heap.size,0,none⟩) 1 1]).run Tryz.prog (w1.alloc (.cells #[.slice (some ⟨pb,0,none⟩) yp.length pc,.bool yf,.int .i64 yr,.int .i64 yq,.string yv] 69))=.ok (.slice (some ⟨z,0,none⟩) (k+1) y) M/\ Below w.heap.size w M/\ w.heap.size<=z/\
   ∀off c',(k<l.length ->off=k*5) ->∃u G R s A,(Builtin.append_ #[23,23] 23 #[.slice (some ⟨z,0,none⟩) (k+1) y,.slice (some ⟨g,off,none⟩) (l.length - k) c']).run Tryz.prog M=.ok (.slice (some ⟨u,0,none⟩) (l.length+1) G) R/\ Below w.heap.size w R/\ w.heap.size<=u/\ LC R lo (.slice (some ⟨u,0,none⟩) (l.length+1) G) (l.take k++(⟨yp,yf,yr,yq,yv⟩:Lf)::l.drop k) s A):=hid (fun w1 k q b N hLC O hq=>by
  have He:(l.take k).length=k:=by simp;omega
  have hY:=HY.out;have H8:=O.size;obtain⟨z,y,M,e1,e2,e3⟩:=hLC.app zI (by have:=Hj.out;omega) (by rw [He];omega) ⟨yp,yf,yr,yq,yv⟩ pb pc hY.1.1 (by omega) (fun e=>by have:=Qbk e.symm;omega) (Hs.same (O.block pb hY.1.2)) hY.2;rw [He] at e1 e2 e3;have b3:Below w.heap.size w M:=O.trans (e3.below H8 (fun k N=>by have:=Qbk N;omega));have Hh:w.heap.size<=z:=by
   rcases e3.l with E|⟨j,E,h2⟩
   ·have:=Qbk (k:=q) E;omega
   ·have:=Qbk E;omega
  refine⟨z,y,M,e1,b3,Hh,fun off c' hoff=> ?_⟩;have Hu:=HH.below b3;have Gc:=QcV Hu.row;have Hx:(l.take k++[(⟨yp,yf,yr,yq,yv⟩:Lf)]).length=k+1:=by simp;omega
  obtain⟨u,G,R,f1,f2,f3⟩:=e2.rest (by have:=b3.size;have:=Hj.out;omega) l P Q g k (l.length - k) c' off (by omega) (by rw [Hx];omega) (fun hm=>hoff (by omega)) (fun j hj=>Gc.cell hj) (fun i hi=>by
   obtain⟨x1,x2,x3,x4⟩:=Hu.pt i hi;have:=Hr i hi;exact⟨x1,x2,fun e=>by have:=Qbk e.symm;omega,x4⟩) (by simp)
  rw [Hx,show k+1+(l.length - k)=l.length+1 by omega] at f1 f2 f3;have X:w.heap.size<=u:=by
   rcases f3.l with E|⟨j,E,h2⟩
   ·have:=Qbk (k:=z) E;omega
   ·have:=Qbk E;have:=b3.size;omega
  rw [List.append_assoc,List.singleton_append] at f2;exact⟨u,G,R,_,_,f1,b3.trans (f3.below b3.size (fun k N=>by have:=Qbk N;omega)),X,f2⟩)
 go_enter Tryz.func55,Tryz.ntmps55;go_wp2_with fail;try rw [hW]
 clear hW;go_loopw [5,6] (fun b' i wr=>∃(k q b:Nat),k<=l.length/\ i=.int .i64 k/\ b'=.slice (some ⟨q,0,none⟩) k b/\ Hid (∀j,j<k ->QaG (gL l j) ⟨yp,yf,yr,yq,yv⟩<0)/\ Hid (LC wr lo (.slice (some ⟨q,0,none⟩) k b) (l.take k) P Q)/\ Hid (Gr W wr (.slice (some ⟨w.heap.size+1,0,none⟩) 0 0) (.slice (some ⟨q,0,none⟩) k b))) (fun _ i _=>l.length - (intOf i).toNat);case atStart=>exact⟨0,_,0,Nat.zero_le _,rfl,rfl,hid (fun j hj=>by omega),hid (by simpa using Hn.low Hj.out),hid (Gr.refl _ _)⟩
 case round=>
  obtain⟨k,q,b,N,rfl,rfl,HJ,T,HG⟩:=hrel;have Gb:=T.cap;have He:(l.take k).length=k:=by simp;omega
  rw [He] at Gb;have i1:(0:Int)<=(k:Int):=Int.natCast_nonneg _;obtain⟨bR,xR,hq⟩:=H3 wr q k b HG.out;have C:=hid bR;have Hk:=hid xR;have HQ:=hid hq;have Hq:=hid He;clear bR xR hq He;by_cases Hb:k<l.length
  ·have i2:(k:Int)<(l.length:Int):=by omega
   have Hm:=HH.below C.out;obtain⟨c0,c1,c2,y,G⟩:=Hm.cell rfl Hb;obtain⟨p1,p2,p3,p4,p5⟩:=Hm.pt k Hb;have Hg:=hid (fun w1 (m:Below wr.heap.size wr w1)=>Qhj (some ⟨P k,0,none⟩) (some ⟨pb,0,none⟩) (Q k) pc (gL l k).p yp (gL l k).fl yf (gL l k).r (gL l k).q yr yq (gL l k).v yv w1 (H6 k Hb) hyl p5.1 HY.2.1 p5.2 HY.2.2 ((Hm.seg Hb).below m) (.inr ⟨pb,0,rfl,by have E:=HY.1.2;have h2:=C.size;have h3:=m.size;omega,fun t ht=>by rw [Nat.zero_add];exact((Hs.same (C.block pb HY.1.2)).same (m.block pb (by have E:=HY.1.2;have h2:=C.size;omega))).cell ht⟩));have Hf:Hid (∀w1,Below wr.heap.size wr w1 ->∃z y M,(Builtin.append_ #[23,23] 23 #[.slice (some ⟨q,0,none⟩) k b,.slice (some ⟨w1.heap.size,0,none⟩) 1 1]).run Tryz.prog (w1.alloc (.cells #[.slice (some ⟨P k,0,none⟩) (gL l k).p.length (Q k),.bool (gL l k).fl,.int .i64 (gL l k).r,.int .i64 (gL l k).q,.string (gL l k).v] 69))=.ok (.slice (some ⟨z,0,none⟩) (k+1) y) M/\ LC M lo (.slice (some ⟨z,0,none⟩) (k+1) y) (l.take (k+1)) P Q/\ Gr w1 M (.slice (some ⟨q,0,none⟩) k b) (.slice (some ⟨z,0,none⟩) (k+1) y)):=hid (fun w1 m=>by
    obtain⟨z,y,M,e1,e2,e3⟩:=T.app m (by have:=Hj.out;have:=C.size;omega) (by rw [Hq.out];omega) (gL l k) (P k) (Q k) p1 (by have:=m.size;omega) (fun e=>by have:=Qbk e.symm;have E:=(Hr k Hb).2;have h2:=HQ.out;omega) (p4.same (m.block _ p2)) p5;rw [Hq.out] at e1 e2 e3;refine⟨z,y,M,e1,?_,e3⟩;have et:l.take (k+1)=l.take k++[gL l k]:=by rw [List.take_add_one];simp [gL,List.getD,Hb]
    rw [et];exact e2.cast fun i hi=>by
     by_cases e:i=k
     ·rw [if_pos e,if_pos e,e];exact⟨rfl,rfl⟩
     ·rw [if_neg e,if_neg e];exact⟨rfl,rfl⟩)
   have Hc:Hid (yes (QaG (gL l k) ⟨yp,yf,yr,yq,yv⟩<0)=true ->∀j,j<k+1 ->QaG (gL l j) ⟨yp,yf,yr,yq,yv⟩<0):=hid (fun O j hj=>by
    by_cases e:j=k
    ·rw [e];exact Classical.byContradiction fun hn=>by rw [Qaj hn] at O;cases O
    ·exact HJ j (by omega))
   have Hd:Hid (yes (QaG (gL l k) ⟨yp,yf,yr,yq,yv⟩<0)=false ->Qcs ⟨yp,yf,yr,yq,yv⟩ l=l.take k++(⟨yp,yf,yr,yq,yv⟩:Lf)::l.drop k):=hid (fun O=>Qgv N HJ.out (fun _ hn=>by rw [Qal hn] at O;cases O));have D:Hid (∀w',Below wr.heap.size wr w' ->(w'.cell? ⟨g,k*5,none⟩=some (.slice (some ⟨P k,0,none⟩) (gL l k).p.length (Q k))/\ w'.cell? ⟨g,k*5+1,none⟩=some (.bool (gL l k).fl)/\ w'.cell? ⟨g,k*5+2,none⟩=some (.int .i64 (gL l k).r)/\ w'.cell? ⟨g,k*5+3,none⟩=some (.int .i64 (gL l k).q)/\ w'.cell? ⟨g,k*5+4,none⟩=some (.string (gL l k).v)/\ w'.cell? ⟨w.heap.size,0,none⟩=some (.slice (some ⟨pb,0,none⟩) yp.length pc)/\ w'.cell? ⟨w.heap.size,1,none⟩=some (.bool yf)/\ w'.cell? ⟨w.heap.size,2,none⟩=some (.int .i64 yr)/\ w'.cell? ⟨w.heap.size,3,none⟩=some (.int .i64 yq)/\ w'.cell? ⟨w.heap.size,4,none⟩=some (.string yv))):=hid (fun w' m=>by
    have Ga:g<wr.heap.size:=by have E:=H2.out;have h2:=C.size;omega
    have q:=fun o=>m.cell (p:=⟨g,o,none⟩) Ga;have Z:=Hk.below m Hk.lt;exact⟨(q _).trans c0,(q _).trans c1,(q _).trans c2,(q _).trans y,(q _).trans G,Z.c0,Z.c1,Z.c2,Z.c3,Z.c4⟩)
   obtain⟨x,hx⟩:∃x,gL l k=x:=⟨_,rfl⟩;obtain⟨Pk,Hv⟩:∃x,P k=x:=⟨_,rfl⟩;obtain⟨Qk,Hw⟩:∃x,Q k=x:=⟨_,rfl⟩;rw [hx,Hv,Hw] at Hg Hf D;rw [hx] at Hc Hd;obtain⟨xp,xf,xr,xq,xv⟩:=x;dsimp only at Hg Hf D Hc Hd;obtain⟨B,O⟩:∃B,yes (QaG (⟨xp,xf,xr,xq,xv⟩:Lf) ⟨yp,yf,yr,yq,yv⟩<0)=B:=⟨_,rfl⟩;rw [O] at Hg Hc Hd;clear hx Hv Hw O Hm c0 c1 c2 y G p1 p2 p3 p4 p5;go_wp2_with fail;refine zR (S:=fun w'=>w'.cell? ⟨g,k*5,none⟩=some (.slice (some ⟨Pk,0,none⟩) xp.length Qk)/\ w'.cell? ⟨g,k*5+1,none⟩=some (.bool xf)/\ w'.cell? ⟨g,k*5+2,none⟩=some (.int .i64 xr)/\ w'.cell? ⟨g,k*5+3,none⟩=some (.int .i64 xq)/\ w'.cell? ⟨g,k*5+4,none⟩=some (.string xv)/\ w'.cell? ⟨w.heap.size,0,none⟩=some (.slice (some ⟨pb,0,none⟩) yp.length pc)/\ w'.cell? ⟨w.heap.size,1,none⟩=some (.bool yf)/\ w'.cell? ⟨w.heap.size,2,none⟩=some (.int .i64 yr)/\ w'.cell? ⟨w.heap.size,3,none⟩=some (.int .i64 yq)/\ w'.cell? ⟨w.heap.size,4,none⟩=some (.string yv)) (D _ zI.drew) (fun qh=> ?_);refine tZ 0 9 ?_;refine tZ 1 10 ?_;refine tZ 2 11 ?_;refine tZ 3 12 ?_;refine tZ 4 13 ?_;refine tZ 5 14 ?_;refine tZ 6 15 ?_;refine tZ 7 16 ?_;refine tZ 8 17 ?_;refine tZ 9 18 ?_;refine cZ 10 ?_;intro K hK;go_simp;refine(Hg _ zI.drew).mono ?_;rintro e w1 ⟨rfl,m⟩;have Hl:Below wr.heap.size wr w1:=⟨m.os,m.tape,m.output,m.size,m.block⟩;refine hK.out _ _ (D _ Hl) (fun qh=> ?_);clear hK K;try simp only [zP]
   refine tZ 11 20 ?_;refine zD ?_;have Hi:=hid Hl;obtain⟨c0,c1,c2,y,G,y0,y1,y2,y3,y4⟩:=D _ Hl;clear qh m Hl D Hg;cases B with
   | true=>
    obtain⟨z,Ho,M,J,l3,g3⟩:=Hf w1 Hi.out;have H5:=hid l3;have H1:=hid ((HG.trans (Gr.of_below Hi.out)).trans g3);have H4:=hid (Hc rfl);clear l3 g3 Hf Hc Hd HJ T HG;go_wp2_with (at_builtin;refine Qaa rfl _ _ _ _ rfl J (by rfl) (by rfl) rfl ?_;clear J);go_roundw;case rel=>exact⟨k+1,z,Ho,Hb,by go_num,rfl,H4,H5,H1⟩
    case measure=>simp [intOf];omega
   | false=>
    have I:=hid (Hd rfl);obtain⟨z,Ho,M,J,b3,Hh,Ha⟩:=Hp w1 k q b N (T.below Hi.out) (C.trans (Hi.mono C.size)) HQ.out;obtain⟨u,H,R,s,A,L,b4,X,F⟩:=Ha (k*5) (cap - k) (fun _=>rfl);have U:=hid b4;have V:=hid F;have Y:=hid X;clear b3 Hh Ha b4 F X Hf Hc Hd HJ T HG;have i3:k<=cap:=by omega
    go_wp2_with (first|(at_builtin;refine Qaa rfl _ _ _ _ rfl J (by rfl) (by rfl) rfl ?_;clear J)|(at_builtin;refine Qaa rfl _ _ _ _ rfl L (by rfl) (by rfl) rfl ?_;clear L));go_ret;first|exact⟨⟨u,H,rfl,Y.out,s,A,by rw [I.out];exact V.out⟩,U.out⟩|exact⟨⟨u,H,s,A,rfl,Y.out,by rw [I.out];exact V.out⟩,U.out⟩|exact⟨⟨u,H,rfl,s,A,Y.out,by rw [I.out];exact V.out⟩,U.out⟩
  ·obtain rfl:k=l.length:=by omega
   have I:Hid (Qcs ⟨yp,yf,yr,yq,yv⟩ l=l.take l.length++(⟨yp,yf,yr,yq,yv⟩:Lf)::l.drop l.length):=hid (Qgv zL HJ.out (fun h=>by omega));have D:Hid (∀w',Below wr.heap.size wr w' ->(w'.cell? ⟨w.heap.size,0,none⟩=some (.slice (some ⟨pb,0,none⟩) yp.length pc)/\ w'.cell? ⟨w.heap.size,1,none⟩=some (.bool yf)/\ w'.cell? ⟨w.heap.size,2,none⟩=some (.int .i64 yr)/\ w'.cell? ⟨w.heap.size,3,none⟩=some (.int .i64 yq)/\ w'.cell? ⟨w.heap.size,4,none⟩=some (.string yv))):=hid (fun w' m=>by
    have Z:=Hk.below m Hk.lt;exact⟨Z.c0,Z.c1,Z.c2,Z.c3,Z.c4⟩)
   go_wp2_with fail;refine zR (S:=fun w'=>True) trivial (fun qh=> ?_);refine tZ 0 9 ?_;refine tZ 1 10 ?_;refine tZ 2 11 ?_;refine tZ 3 12 ?_;refine tZ 4 13 ?_;refine uZ 5 14 ?_;refine uZ 6 15 ?_;refine uZ 7 16 ?_;refine uZ 8 17 ?_;refine uZ 9 18 ?_;refine uZ 10 19 ?_;refine tZ 11 20 ?_;refine zD ?_;obtain⟨y0,y1,y2,y3,y4⟩:=D _ zI.drew;obtain⟨z,Ho,M,J,b3,Hh,Ha⟩:=Hp wr.drew l.length q b N (T.below zI.drew) C.drew HQ.out;clear b3 Hh HJ T HG qh D;by_cases Gd:l.length<cap
   ·obtain⟨u,H,R,s,A,L,b4,X,F⟩:=Ha (l.length*5) (cap - l.length) (fun _=>rfl);rw [Nat.sub_self] at L;have U:=hid b4;have V:=hid F;have Y:=hid X;clear Ha b4 F X;go_wp2_with (first|(at_builtin;refine Qaa rfl _ _ _ _ rfl J (by rfl) (by rfl) rfl ?_;clear J)|(at_builtin;refine Qaa rfl _ _ _ _ rfl L (by rfl) (by rfl) rfl ?_;clear L));go_ret;first|exact⟨⟨u,H,rfl,Y.out,s,A,by rw [I.out];exact V.out⟩,U.out⟩|exact⟨⟨u,H,s,A,rfl,Y.out,by rw [I.out];exact V.out⟩,U.out⟩|exact⟨⟨u,H,rfl,s,A,Y.out,by rw [I.out];exact V.out⟩,U.out⟩
   ·obtain⟨u,H,R,s,A,L,b4,X,F⟩:=Ha 0 0 (fun h=>by omega);rw [Nat.sub_self] at L;obtain rfl:cap=l.length:=by omega
    have U:=hid b4;have V:=hid F;have Y:=hid X;clear Ha b4 F X;go_wp2_with (first|(at_builtin;refine Qaa rfl _ _ _ _ rfl J (by rfl) (by rfl) rfl ?_;clear J)|(at_builtin;refine Qaa rfl _ _ _ _ rfl L (by rfl) (by rfl) rfl ?_;clear L));go_ret;first|exact⟨⟨u,H,rfl,Y.out,s,A,by rw [I.out];exact V.out⟩,U.out⟩|exact⟨⟨u,H,s,A,rfl,Y.out,by rw [I.out];exact V.out⟩,U.out⟩|exact⟨⟨u,H,rfl,s,A,Y.out,by rw [I.out];exact V.out⟩,U.out⟩
end Go.Proofs.YtdeolligikjieaaGreatDoor
