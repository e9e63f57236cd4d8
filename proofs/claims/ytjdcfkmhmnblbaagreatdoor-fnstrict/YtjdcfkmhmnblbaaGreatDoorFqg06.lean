import Derived.Test.YtjdcfkmhmnblbaaGreatDoorFqg05
import Derived.Test.YtjdcfkmhmnblbaaGreatDoorFqg03
import Derived.Test.YtjdcfkmhmnblbaaGreatDoorFqg04
set_option linter.unusedVariables false
set_option linter.unusedSimpArgs false
set_option maxRecDepth 100000
set_option maxHeartbeats 40000000
namespace Go.Proofs.YtjdcfkmhmnblbaaGreatDoor
open Go.ChangeShapes Go.WideShapes Go.ChangeAt Go.RowKit
noncomputable def uL (l:List Lf)(p:List ByteArray):Nat ->List Lf
 | 0=>[]
 | k+1=>if yes (nx p (gL l k)≠none)=true then uL l p k++[gL l k] else uL l p k
noncomputable def wL (l:List Lf):Nat ->List ByteArray ->List Lf
 | 0,_=>[]
 | f+1,p=>(kS l p l.length).flatMap fun y=>if y.2=3 then wL l f (p++[y.1]) else dsK l p y l.length
theorem QiF (l:List Lf)(p:List ByteArray)(s:ByteArray):∀k,dsK l p (s,3) k=uL l (p++[s]) k
 | 0=>rfl
 | k+1=>by
  have j:=QiF l p s k;by_cases h:nx p (gL l k)=some (s,3)
  ·rw [Qb6 h];simp only [uL];rw [if_pos (Qal (QcG.1 h)),j]
  ·rw [QbT h];simp only [uL];rw [if_neg (by rw [Qaj (fun hh=>h (QcG.2 hh))];simp),j]
theorem QbB {α β:Type}{f g:α ->List β}:∀{ys:List α},(∀y∈ys,f y=g y) ->ys.flatMap f=ys.flatMap g
 | [],_=>rfl
 | a::r,h=>by
  rw [List.flatMap_cons,List.flatMap_cons,h a (List.mem_cons_self),QbB (fun y hy=>h y (List.mem_cons_of_mem _ hy))]
theorem QdK {R F T:Nat ->Int}{n:Nat}{l:List Lf}(p:List ByteArray)(h:QbS R F T n l l.length):∀k,k<=l.length ->(kS l p k).flatMap (fun y=>dsK l p y k)=uL l p k
 | 0,_=>rfl
 | k+1,hk=>by
  have b:=QdK p h k (by omega);cases e:nx p (gL l k) with
  | none=>
   rw [Qc2 e];have:(kS l p k).flatMap (fun y=>dsK l p y (k+1))=(kS l p k).flatMap (fun y=>dsK l p y k):=QbB fun y _=>QbT (by rw [e];simp);rw [this,b];simp only [uL];rw [if_neg (by rw [Qaj (fun hh=>hh e)];simp)]
  | some y=>
   have O:uL l p (k+1)=uL l p k++[gL l k]:=by simp only [uL];rw [if_pos (Qal (by rw [e];simp))]
   obtain⟨r,s⟩:=QdT p h k (by omega);rw [O,<- b,Qc3 e];by_cases m:(kS l p k).getLast? =some y
   ·rw [if_pos (Qal m)];obtain⟨v,u⟩:=List.getLast?_eq_some_iff.1 m;have g:y ∉ v:=fun hm=>by
     rw [u] at r;have:=(List.pairwise_append.1 r).2.2 y hm y (List.mem_singleton.2 rfl);rw [QaG.key.irr] at this;omega
    rw [u,List.flatMap_append,List.flatMap_append];simp only [List.flatMap_cons,List.flatMap_nil,List.append_nil];rw [Qb6 e,<- List.append_assoc];congr 2;exact QbB fun z q=>QbT (by rw [e];simp;exact fun hh=>g (hh ▸ q))
   ·rw [if_neg (by rw [Qaj m];simp)];have g:y ∉ kS l p k:=fun hm=>by
     obtain⟨v,u⟩:∃v,kS l p k=v:=⟨_,rfl⟩;rw [u] at r m hm;rcases List.eq_nil_or_concat v with A|⟨Y,z,q⟩
     ·rw [A] at hm;cases hm
     ·rw [q] at m hm r;simp only [List.concat_eq_append] at m hm r;have Q:z≠y:=fun hh=>m (by rw [hh];simp);rcases List.mem_append.1 hm with o|o
      ·have E:=(List.pairwise_append.1 r).2.2 y o z (List.mem_singleton.2 rfl);obtain⟨j,i,t⟩:=(s z).1 (by rw [u,q];simp);have U:=QbM (h.lt k i (by omega)) t e;have V:=(QaG.key.neg y z).1 E;omega
      ·exact Q (List.mem_singleton.1 o).symm
    have M:dsK l p y k=[]:=by
     cases hd:dsK l p y k with
     | nil=>rfl
     | cons x xs=>
      obtain⟨j,i,t,_⟩:=Qbc.1 (show x∈dsK l p y k by rw [hd];exact List.mem_cons_self);exact absurd ((s y).2 ⟨j,i,t⟩) g
    rw [List.flatMap_append];simp only [List.flatMap_cons,List.flatMap_nil,List.append_nil];rw [Qb6 e,M,List.nil_append];congr 1;exact QbB fun z q=>QbT (by rw [e];simp;exact fun hh=>g (hh ▸ q))
theorem Qop {R F T:Nat ->Int}{n:Nat}{l:List Lf}(h:QbS R F T n l l.length):∀f p,p.length+f=8 ->wL l f p=uL l p l.length
 | 0,p,hp=>by
  have:∀k,k<=l.length ->uL l p k=[]:=fun k=>by
   induction k with
   | zero=>intro _;rfl
   | succ k ih=>
    intro m;simp only [uL];rw [if_neg (by
     rw [Qaj (fun hh=> ?_)]
     ·simp
     ·have:=(Qfo.1 hh).2;have:=(h k (by omega)).1.1.2.1;omega),ih (by omega)]
  exact(this _ zL).symm
 | f+1,p,hp=>by
  rw [<- QdK p h l.length zL];show (kS l p l.length).flatMap _=_;refine QbB fun y _=> ?_;by_cases j:y.2=3
  ·rw [if_pos j,Qop h f (p++[y.1]) (by rw [List.length_append];simp;omega),<- QiF];rw [show (y.1,(3:Int))=y by rw [<- j]]
  ·rw [if_neg j]
theorem QjK {R F T:Nat ->Int}{n:Nat}{l:List Lf}(h:QbS R F T n l l.length):∀k,k<=l.length ->uL l [] k=l.take k
 | 0,_=>by simp [uL]
 | k+1,hk=>by
  simp only [uL];rw [if_pos (Qal (Qfo.2 ⟨List.nil_prefix,by have:=(h k (by omega)).1.1.1;simp;omega⟩)),QjK h k (by omega),List.take_add_one];congr 1;simp [gL,List.getD,show k<l.length by omega]
theorem QlM {R F T:Nat ->Int}{n:Nat}{l:List Lf}(h:QbS R F T n l l.length):wL l 8 []=l:=by
 rw [Qop h 8 [] rfl,QjK h _ zL,List.take_length]
def lfK (x:Lf):List ByteArray×Int×Dt:=(x.p,kd x.fl,x.r,x.q)
theorem Qji:QaG (fun x y:List ByteArray×Int×Dt=>orI (QaC x.1 y.1) (orI (QaV x.2.1 y.2.1) (Qbh x.2.2 y.2.2))):=QaG.path.pair (QaG.int.pair QaG.dot)
theorem QeR (x y:Lf):QaH x y<0↔0<QaH y x:=Qji.neg (lfK x) (lfK y)
theorem Qll (x y:Lf):QaH x y=0↔lfK x=lfK y:=Qji.z (lfK x) (lfK y)
theorem QmC {x y:Lf}(h:lfK x=lfK y):x.p=y.p/\ x.fl=y.fl/\ x.r=y.r/\ x.q=y.q:=by
 unfold lfK at h;have j:=congrArg Prod.fst h;have k:=congrArg (fun z=>z.2.1) h;have m:=congrArg (fun z=>z.2.2.1) h;have u:=congrArg (fun z=>z.2.2.2) h;exact⟨j,Qly k,m,u⟩
noncomputable def Qc0 (x:Lf):List Lf ->List Lf
 | []=>[x]
 | y::r=>if yes (QaH y x<0)=true then y::Qc0 x r else x::y::r
theorem Qd1 {x z:Lf}:∀{ls:List Lf},z∈Qc0 x ls↔z=x \/z∈ls
 | []=>by simp [Qc0]
 | y::r=>by
  have j:=Qd1 (x:=x) (z:=z) (ls:=r);simp only [Qc0];split
  ·rw [List.mem_cons,j,List.mem_cons];constructor
   ·rintro(h|h|h)
    ·exact .inr (.inl h)
    ·exact .inl h
    ·exact .inr (.inr h)
   ·rintro(h|h|h)
    ·exact .inr (.inl h)
    ·exact .inl h
    ·exact .inr (.inr h)
  ·rw [List.mem_cons]
theorem Qbz (x:Lf):∀ls:List Lf,(Qc0 x ls).length=ls.length+1
 | []=>rfl
 | y::r=>by
  simp only [Qc0];split
  ·simp [Qbz x r]
  ·simp
theorem Qc1 {x:Lf}:∀{ls:List Lf},ls.Pairwise (fun a b=>QaH a b<0) ->(∀y∈ls,lfK y≠lfK x) ->(Qc0 x ls).Pairwise (fun a b=>QaH a b<0)
 | [],_,_=>by simp [Qc0]
 | y::r,h,hne=>by
  have k:=List.pairwise_cons.1 h;have q:=Qc1 k.2 (fun z hz=>hne z (List.mem_cons_of_mem _ hz));simp only [Qc0];by_cases j:QaH y x<0
  ·rw [if_pos (Qal j)];refine List.pairwise_cons.2 ⟨fun z hz=> ?_,q⟩;rcases Qd1.1 hz with e|e
   ·rw [e];exact j
   ·exact k.1 z e
  ·rw [if_neg (by rw [Qaj j];simp)];have u:QaH y x≠0:=fun e=>hne y (List.mem_cons_self) ((Qll y x).1 e);have m:QaH x y<0:=(QeR x y).2 (by omega);refine List.pairwise_cons.2 ⟨fun z hz=> ?_,h⟩;rcases List.mem_cons.1 hz with e|e
   ·rw [e];exact m
   ·exact Qgu m (k.1 z e)
noncomputable def Qev (P:Lf ->Prop)(ls:List Lf)(out:List Lf):Nat ->List Lf
 | 0=>out
 | k+1=>if yes (P (gL ls k))=true then Qc0 (gL ls k) (Qev P ls out k) else Qev P ls out k
theorem Qfr {P:Lf ->Prop}{ls out:List Lf}{k:Nat}(h:P (gL ls k)):Qev P ls out (k+1)=Qc0 (gL ls k) (Qev P ls out k):=by simp only [Qev];rw [if_pos (Qal h)]
theorem QgN {P:Lf ->Prop}{ls out:List Lf}{k:Nat}(h:¬P (gL ls k)):Qev P ls out (k+1)=Qev P ls out k:=by simp only [Qev];rw [if_neg (by rw [Qaj h];simp)]
theorem Qcq {P:Lf ->Prop}{ls out:List Lf}{z:Lf}:∀{k:Nat},z∈Qev P ls out k↔z∈out \/∃j,j<k/\ P (gL ls j)/\ gL ls j=z
 | 0=>by simp [Qev]
 | k+1=>by
  have v:=Qcq (P:=P) (ls:=ls) (out:=out) (z:=z) (k:=k);by_cases h:P (gL ls k)
  ·rw [Qfr h,Qd1,v];constructor
   ·rintro(e|e|⟨j,u,m,q⟩)
    ·exact .inr ⟨k,by omega,h,e.symm⟩
    ·exact .inl e
    ·exact .inr ⟨j,by omega,m,q⟩
   ·rintro(e|⟨j,u,m,q⟩)
    ·exact .inr (.inl e)
    ·by_cases r:j=k
     ·subst r;exact .inl q.symm
     ·exact .inr (.inr ⟨j,by omega,m,q⟩)
  ·rw [QgN h,v];constructor
   ·rintro(e|⟨j,u,m,q⟩)
    ·exact .inl e
    ·exact .inr ⟨j,by omega,m,q⟩
   ·rintro(e|⟨j,u,m,q⟩)
    ·exact .inl e
    ·by_cases r:j=k
     ·subst r;exact absurd m h
     ·exact .inr ⟨j,by omega,m,q⟩
theorem Qd3 {P:Lf ->Prop}{ls out:List Lf}:∀k,(Qev P ls out k).length<=out.length+k
 | 0=>by simp [Qev]
 | k+1=>by
  have j:=Qd3 (P:=P) (ls:=ls) (out:=out) k;simp only [Qev];split
  ·rw [Qbz];omega
  ·omega
theorem Qc4 {P:Lf ->Prop}{ls out:List Lf}(ho:out.Pairwise (fun a b=>QaH a b<0))(hl:∀i j,i<j ->j<ls.length ->QaH (gL ls i) (gL ls j)<0)(hne:∀j,j<ls.length ->P (gL ls j) ->∀y∈out,lfK y≠lfK (gL ls j)):∀k,k<=ls.length ->(Qev P ls out k).Pairwise (fun a b=>QaH a b<0)
 | 0,_=>ho
 | k+1,hk=>by
  have m:=Qc4 ho hl hne k (by omega);by_cases h:P (gL ls k)
  ·rw [Qfr h];refine Qc1 m (fun y hy=> ?_);rcases Qcq.1 hy with e|⟨j,q,u,r⟩
   ·exact hne k (by omega) h y e
   ·intro e;rw [<- r] at e;have:=(Qll _ _).2 e;have:=hl j k q (by omega);omega
  ·rw [QgN h];exact m
noncomputable def jnL (la lb:List Lf)(hasA hasB:Lf ->Prop):List Lf:=Qev (fun x=>¬hasA x) lb (Qev (fun x=>x∈lb \/¬hasB x) la [] la.length) lb.length
theorem Qa2 {l:List Lf}{x:Lf}:x∈l↔∃j,j<l.length/\ gL l j=x:=by
 constructor
 ·intro h;obtain⟨j,k,e⟩:=List.getElem_of_mem h;exact⟨j,k,by simp [gL,List.getD,k,e]⟩
 ·rintro⟨j,k,e⟩;rw [<- e];have:gL l j=l[j]:=by simp [gL,List.getD,k]
  rw [this];exact List.getElem_mem k
theorem QiU {la lb:List Lf}{hasA hasB:Lf ->Prop}{z:Lf}:z∈jnL la lb hasA hasB↔(z∈la/\ (z∈lb \/¬hasB z)) \/(z∈lb/\¬hasA z):=by
 unfold jnL;rw [Qcq,Qcq];constructor
 ·rintro((e|⟨j,m,k,q⟩)|⟨j,m,k,q⟩)
  ·cases e
  ·rw [q] at k;exact .inl ⟨Qa2.2 ⟨j,m,q⟩,k⟩
  ·rw [q] at k;exact .inr ⟨Qa2.2 ⟨j,m,q⟩,k⟩
 ·rintro(⟨m,k⟩|⟨m,k⟩)
  ·obtain⟨j,r,e⟩:=Qa2.1 m;exact .inl (.inr ⟨j,r,by rw [e];exact k,e⟩)
  ·obtain⟨j,r,e⟩:=Qa2.1 m;exact .inr ⟨j,r,by rw [e];exact k,e⟩
theorem Qib {la lb:List Lf}{hasA hasB:Lf ->Prop}(hA:∀i j,i<j ->j<la.length ->QaH (gL la i) (gL la j)<0)(hB:∀i j,i<j ->j<lb.length ->QaH (gL lb i) (gL lb j)<0)(hk:∀x∈la,hasA x)(hd:∀x y,lfK x=lfK y ->(hasA x↔hasA y)):(jnL la lb hasA hasB).Pairwise (fun a b=>QaH a b<0):=by
 unfold jnL;refine Qc4 (Qc4 List.Pairwise.nil hA (fun j _ _ y hy=>by cases hy) _ zL) hB (fun j hj hP y hy e=> ?_) _ zL;rcases Qcq.1 hy with h|⟨i,k,_,m⟩
 ·cases h
 ·exact hP ((hd _ _ e).1 (hk y (Qa2.2 ⟨i,k,m⟩)))
theorem Qh1:∀{a b:List Lf},a.Pairwise (fun x y=>QaH x y<0) ->b.Pairwise (fun x y=>QaH x y<0) ->(∀z,z∈a↔z∈b) ->a=b
 | [],[],_,_,_=>rfl
 | [],y::_,_,_,h=>by have:=(h y).2 (List.mem_cons_self);cases this
 | x::_,[],_,_,h=>by have:=(h x).1 (List.mem_cons_self);cases this
 | x::r,y::s,ha,hb,h=>by
  have m:=List.pairwise_cons.1 ha;have q:=List.pairwise_cons.1 hb;have u:∀z:Lf,¬QaH z z<0:=fun z j=>by have:=(QeR z z).1 j;omega
  have e:x=y:=by
   rcases List.mem_cons.1 ((h x).1 (List.mem_cons_self)) with e|e
   ·exact e
   ·rcases List.mem_cons.1 ((h y).2 (List.mem_cons_self)) with k|k
    ·exact k.symm
    ·exact absurd (Qgu (m.1 y k) (q.1 x e)) (u x)
  subst e;congr 1;refine Qh1 m.2 q.2 fun z=> ?_;constructor
  ·intro j;rcases List.mem_cons.1 ((h z).1 (List.mem_cons_of_mem _ j)) with e|e
   ·subst e;exact absurd (m.1 z j) (u z)
   ·exact e
  ·intro j;rcases List.mem_cons.1 ((h z).2 (List.mem_cons_of_mem _ j)) with e|e
   ·subst e;exact absurd (q.1 z j) (u z)
   ·exact e
def StW (R F T:Nat ->Int)(n:Nat)(l:List Lf):Prop:=(Qeu R F T n/\ n<=2000)/\ l.length<=1000/\ QbS R F T n l l.length/\ Dis l l.length
theorem QaQ.w {R F T:Nat ->Int}{n:Nat}{l:List Lf}(h:QaQ R F T n l):StW R F T n l:=⟨by have:=Qao.1 h.1;exact⟨this.1,by omega⟩,h.2⟩
def Qcu (R F T:Nat ->Int)(n:Nat)(x:Lf):Prop:=Qct R F T x.r x.q x.q n=true
theorem Qht {R F T:Nat ->Int}{n:Nat}{x y:Lf}(h:lfK x=lfK y):Qcu R F T n x↔Qcu R F T n y:=by
 obtain⟨_,_,j,k⟩:=QmC h;unfold Qcu;rw [j,k]
theorem Qgv {l:List Lf}(hd:Dis l l.length){x y:Lf}(hx:x∈l)(hy:y∈l)(h:x.r=y.r/\ x.q=y.q):x=y:=by
 obtain⟨i,u,k⟩:=Qa2.1 hx;obtain⟨j,v,m⟩:=Qa2.1 hy;rcases Nat.lt_trichotomy i j with e|e|e
 ·have:=hd j v i e;exact absurd (by rw [k,m];exact h) this
 ·subst e;rw [<- k,<- m]
 ·have:=hd i u j e;exact absurd (by rw [k,m];exact⟨h.1.symm,h.2.symm⟩) this
theorem Qgd {l:List Lf}(h:l.Pairwise (fun a b=>QaH a b<0)){i j:Nat}(hij:i<j)(hj:j<l.length):QaH (gL l i) (gL l j)<0:=by
 have:=List.pairwise_iff_getElem.1 h i j (by omega) hj hij;have k:gL l i=l[i]:=by simp [gL,List.getD,show i<l.length by omega]
 have m:gL l j=l[j]:=by simp [gL,List.getD,hj]
 rw [k,m];exact this
section
variable {R F T : Nat -> Int} {n : Nat} {la : List Lf} {R' F' T' : Nat -> Int} {n' : Nat} {lb : List Lf}
noncomputable def jn (R F T:Nat ->Int)(n:Nat)(la:List Lf)(R' F' T':Nat ->Int)(n':Nat)(lb:List Lf):List Lf:=jnL la lb (Qcu R F T n) (Qcu R' F' T' n')
theorem QdR (h:StW R F T n la)(h':StW R' F' T' n' lb):(jn R F T n la R' F' T' n' lb).Pairwise (fun a b=>QaH a b<0):=
 Qib (fun i j h1 h2=>h.2.2.1.lt j h1 h2) (fun i j h1 h2=>h'.2.2.1.lt j h1 h2) (fun x hx=>by
  obtain⟨j,k,e⟩:=Qa2.1 hx;have:=(h.2.2.1 j k).2.1;rw [e] at this;exact this) (fun x y e=>Qht e)
theorem Qg9 (z:Lf)(hz:z∈jn R F T n la R' F' T' n' lb):z∈la \/(z∈lb/\¬Qcu R F T n z):=by
 rcases QiU.1 hz with h|h
 ·exact .inl h.1
 ·exact .inr h
theorem QnC (h:StW R F T n la)(h':StW R' F' T' n' lb):Dis (jn R F T n la R' F' T' n' lb) (jn R F T n la R' F' T' n' lb).length:=fun i hi j u hh=>by
 have g:=Qgd (QdR h h') u hi;have m:=Qg9 _ (Qa2.2 ⟨j,by omega,rfl⟩:gL (jn R F T n la R' F' T' n' lb) j∈_);have k:=Qg9 _ (Qa2.2 ⟨i,hi,rfl⟩:gL (jn R F T n la R' F' T' n' lb) i∈_);have v:∀z∈la,Qcu R F T n z:=fun z hz=>by
  obtain⟨j,u,e⟩:=Qa2.1 hz;have:=(h.2.2.1 j u).2.1;rw [e] at this;exact this
 have same:∀{x y:Lf},x.r=y.r/\ x.q=y.q ->(Qcu R F T n x↔Qcu R F T n y):=fun{x y} e=>by unfold Qcu;rw [e.1,e.2]
 have b:∀z:Lf,¬QaH z z<0:=fun z hz=>by have:=(QeR z z).1 hz;omega
 have e:gL (jn R F T n la R' F' T' n' lb) j=gL (jn R F T n la R' F' T' n' lb) i:=by
  rcases m with m|⟨m,o⟩
  ·rcases k with k|⟨k,t⟩
   ·exact Qgv h.2.2.2 m k hh
   ·exact absurd ((same hh).1 (v _ m)) t
  ·rcases k with k|⟨k,t⟩
   ·exact absurd ((same hh).2 (v _ k)) o
   ·exact Qgv h'.2.2.2 m k hh
 rw [e] at g;exact b _ g
theorem QoD {U V X:Nat ->Int}{m:Nat}(h:StW R F T n la)(h':StW R' F' T' n' lb)(hu:∀z:Lf,Qcu R F T n z \/Qcu R' F' T' n' z ->Qcu U V X m z):QbS U V X m (jn R F T n la R' F' T' n' lb) (jn R F T n la R' F' T' n' lb).length:=fun i hi=>by
 have r:=QdR h h';have k:=Qg9 _ (Qa2.2 ⟨i,hi,rfl⟩:gL (jn R F T n la R' F' T' n' lb) i∈_);refine⟨?_,?_,fun h0=>Qgd r (by omega) hi⟩
 ·rcases k with k|⟨k,_⟩
  ·obtain⟨j,q,e⟩:=Qa2.1 k;rw [<- e];exact(h.2.2.1 j q).1
  ·obtain⟨j,q,e⟩:=Qa2.1 k;rw [<- e];exact(h'.2.2.1 j q).1
 ·refine hu _ ?_;rcases k with k|⟨k,_⟩
  ·obtain⟨j,q,e⟩:=Qa2.1 k;refine .inl ?_;have:=(h.2.2.1 j q).2.1;rw [e] at this;exact this
  ·obtain⟨j,q,e⟩:=Qa2.1 k;refine .inr ?_;have:=(h'.2.2.1 j q).2.1;rw [e] at this;exact this
end
open Go.Deep
theorem Qm5 (a a':Option Addr)(c c':Nat)(p p':List ByteArray)(fl fl':Bool)(r q r' q':Int)(v v':ByteArray)(w:World)(hc:p.length<=c)(hc':p'.length<=c')(E:c<=9223372036854775807)(hx':c'<=9223372036854775807)(h:QaT w a p)(h':QaT w a' p'):
  Calls Tryz.prog 119 #[.agg #[.slice a p.length c,.bool fl,.int .i64 r,.int .i64 q,.string v],.agg #[.slice a' p'.length c',.bool fl',.int .i64 r',.int .i64 q',.string v']] w fun e w'=>e=.returned (.bool (yes ((⟨p,fl,r,q,v⟩:Lf)=⟨p',fl',r',q',v'⟩)))/\ Below w.heap.size w w':=by
 obtain⟨W,j⟩:∃W,(w.alloc (.cells #[.slice a p.length c,.bool fl,.int .i64 r,.int .i64 q,.string v] 77)).alloc (.cells #[.slice a' p'.length c',.bool fl',.int .i64 r',.int .i64 q',.string v'] 77)=W:=⟨_,rfl⟩;have M:Below w.heap.size w W:=by rw [<- j];exact Qak _ _ _
 have C:W.cell? ⟨w.heap.size,0,none⟩=some (.slice a p.length c):=by rw [<- j];simp
 have Z:W.cell? ⟨w.heap.size,1,none⟩=some (.bool fl):=by rw [<- j];simp
 have G:W.cell? ⟨w.heap.size,2,none⟩=some (.int .i64 r):=by rw [<- j];simp
 have H:W.cell? ⟨w.heap.size,3,none⟩=some (.int .i64 q):=by rw [<- j];simp
 have I:W.cell? ⟨w.heap.size,4,none⟩=some (.string v):=by rw [<- j];simp
 have D:W.cell? ⟨w.heap.size+1,0,none⟩=some (.slice a' p'.length c'):=by rw [<- j];simp
 have J:W.cell? ⟨w.heap.size+1,1,none⟩=some (.bool fl'):=by rw [<- j];simp
 have K:W.cell? ⟨w.heap.size+1,2,none⟩=some (.int .i64 r'):=by rw [<- j];simp
 have L:W.cell? ⟨w.heap.size+1,3,none⟩=some (.int .i64 q'):=by rw [<- j];simp
 have N:W.cell? ⟨w.heap.size+1,4,none⟩=some (.string v'):=by rw [<- j];simp
 have b:=hid M;have O:=hid (QcV p p' a a' c c' W hc hc' E hx' (h.below M) (h'.below M));have g:Hid (yes ((⟨p,fl,r,q,v⟩:Lf)=⟨p',fl',r',q',v'⟩)=true↔QaC p p'=0/\ fl=fl'/\ r=r'/\ q=q'/\ v=v'):=hid (by
  rw [QdD];constructor
  ·intro e;have e:(⟨p,fl,r,q,v⟩:Lf)=⟨p',fl',r',q',v'⟩:=Classical.byContradiction fun hn=>by rw [Qaj hn] at e;cases e
   injection e with Q t U e4 e5;exact⟨Q,t,U,e4,e5⟩
  ·rintro⟨rfl,rfl,rfl,rfl,rfl⟩;exact Qal rfl)
 obtain⟨B,V⟩:∃B,yes ((⟨p,fl,r,q,v⟩:Lf)=⟨p',fl',r',q',v'⟩)=B:=⟨_,rfl⟩;obtain⟨x,E⟩:∃x,QaC p p'=x:=⟨_,rfl⟩;rw [V,E] at g;rw [E] at O;rw [V];clear M h h' V E;go_enter Tryz.func119,Tryz.ntmps119;go_wp2_with fail;try rw [j]
 clear j;refine O.mono ?_;rintro e w1 ⟨rfl,k,m⟩;have F:w1.cell? ⟨w.heap.size,1,none⟩=some (.bool fl):=by rw [m];exact Z
 have P:w1.cell? ⟨w.heap.size,2,none⟩=some (.int .i64 r):=by rw [m];exact G
 have R:w1.cell? ⟨w.heap.size,3,none⟩=some (.int .i64 q):=by rw [m];exact H
 have S:w1.cell? ⟨w.heap.size,4,none⟩=some (.string v):=by rw [m];exact I
 have T:w1.cell? ⟨w.heap.size+1,1,none⟩=some (.bool fl'):=by rw [m];exact J
 have Ha:w1.cell? ⟨w.heap.size+1,2,none⟩=some (.int .i64 r'):=by rw [m];exact K
 have Hb:w1.cell? ⟨w.heap.size+1,3,none⟩=some (.int .i64 q'):=by rw [m];exact L
 have Hc:w1.cell? ⟨w.heap.size+1,4,none⟩=some (.string v'):=by rw [m];exact N
 have A:Hid (Below w.heap.size w w1):=hid (by rw [m];exact⟨b.os,b.tape,b.output,b.size,b.block⟩);clear m C Z G H I D J K L N O b;have z:¬(x=0/\ fl=fl'/\ r=r'/\ q=q'/\ v=v') ->Hid (B=false):=fun hn=>hid (by
  cases hb:B with
  | false=>rfl
  | true=>exact absurd (g.1 hb) hn)
 by_cases y:x=0
 ·have X:(x==0)=true:=by simp [y]
  by_cases o:fl=fl'
  ·have Q:(fl==fl')=true:=by simp [o]
   have Y:∀w:World,(binOp .eql 75 (.agg #[.int .i64 r,.int .i64 q]) (.agg #[.int .i64 r',.int .i64 q'])).run Tryz.prog w=.ok (.bool (r==r' && q==q')) w:=fun w=>Qlo r q r' q' w;by_cases i:r=r'/\ q=q'
   ·have t:(r==r' && q==q')=true:=by simp [i]
    rw [t] at Y;by_cases s:v=v'
    ·have U:(v.toList==v'.toList)=true:=by simp [s]
     have u:Hid (B=true):=hid (g.2 ⟨y,o,i.1,i.2,s⟩);clear g z t y o i s;go_wp2_with fail;go_ret;exact⟨Qa8 u.symm,A.out⟩
    ·have U:(v.toList==v'.toList)=false:=by simpa using fun h=>s (toList_inj h)
     have u:=z (fun h=>s h.2.2.2.2);clear g z t y o i s;go_wp2_with fail;go_ret;exact⟨Qa8 u.symm,A.out⟩
   ·have t:(r==r' && q==q')=false:=by
     cases hb:(r==r' && q==q') with
     | false=>rfl
     | true=>exact absurd (by simpa using hb) i
    rw [t] at Y;have u:=z (fun h=>i ⟨h.2.2.1,h.2.2.2.1⟩);clear g z t y o i;go_wp2_with fail;go_ret;exact⟨Qa8 u.symm,A.out⟩
  ·have Q:(fl==fl')=false:=by simpa using o
   have u:=z (fun h=>o h.2.1);clear g z y o;go_wp2_with fail;go_ret;exact⟨Qa8 u.symm,A.out⟩
 ·have X:(x==0)=false:=by simpa using y
  have u:=z (fun h=>y h.1);clear g z y;go_wp2_with fail;go_ret;exact⟨Qa8 u.symm,A.out⟩
theorem Qm1 (a a':Option Addr)(c c':Nat)(l:List Lf)(p':List ByteArray)(fl':Bool)(r' q':Int)(v':ByteArray)(w:World)(hl:l.length<=1048576)(Hb:p'.length<=c')(Hd:c'<=9223372036854775807)(h:Qdy w a l)(h':QaT w a' p'):
  Calls Tryz.prog 86 #[.slice a l.length c,.agg #[.slice a' p'.length c',.bool fl',.int .i64 r',.int .i64 q',.string v']] w fun e w'=>(∃i:Int,e=.returned (.int .i64 i)/\ (0<=i↔(⟨p',fl',r',q',v'⟩:Lf)∈l))/\ Below w.heap.size w w':=by
 obtain⟨W,Q⟩:∃W,w.alloc (.cells #[.slice a' p'.length c',.bool fl',.int .i64 r',.int .i64 q',.string v'] 77)=W:=⟨_,rfl⟩;have O:Below w.heap.size w W:=by rw [<- Q];exact zO _ _
 have X0:Bx5 W w.heap.size (.slice a' p'.length c') (.bool fl') (.int .i64 r') (.int .i64 q') (.string v'):=by rw [<- Q];exact Bx5.new _ _ _ _ _ _ _
 have HX:=hid X0;have R:=hid O;have HL:=hid (h.below O);have HP:=hid (h'.below O);have HC:=hid (And.intro Hb Hd);clear X0 O h h' Hb Hd;go_enter Tryz.func86,Tryz.ntmps86;go_wp2_with fail;try rw [Q]
 clear Q;go_loopw [5] (fun i wr=>∃j:Nat,j<=l.length/\ i=.int .i64 j/\ Hid (Below W.heap.size W wr)/\ Hid (∀t,t<j ->gL l t≠⟨p',fl',r',q',v'⟩)) (fun i _=>l.length - (intOf i).toNat);case atStart=>exact⟨0,Nat.zero_le _,rfl,hid zI,hid (fun t D=>by omega)⟩
 case round=>
  obtain⟨j,hj,rfl,m,J⟩:=hrel;by_cases C:j<l.length
  ·have i1:(0:Int)<=(j:Int):=Int.natCast_nonneg _;have i2:(j:Int)<(l.length:Int):=by omega
   obtain⟨b,off,rfl,hb,Hc⟩:=(HL.below m.out).resolve_left (by omega);obtain⟨P,pc,⟨g,d0⟩,sg,s,A,E,M⟩:=Hc j C;have u:=hid (fun w1 (k:Below wr.heap.size wr w1)=>Qm5 P a' pc c' (gL l j).p p' (gL l j).fl fl' (gL l j).r (gL l j).q r' q' (gL l j).v v' w1 d0.1 HC.1 d0.2 HC.2 (sg.below k) ((HP.below m.out).below k));have Hf:Hid (gL l j=⟨(gL l j).p,(gL l j).fl,(gL l j).r,(gL l j).q,(gL l j).v⟩):=hid rfl;obtain⟨y,F⟩:∃y,gL l j=y:=⟨_,rfl⟩;have HY:=hid F;rw [F] at g s A E M u;obtain⟨V,U,Z,Y,G⟩:=y;dsimp only at g s A E M u;obtain⟨B,X⟩:∃B,yes ((⟨V,U,Z,Y,G⟩:Lf)=⟨p',fl',r',q',v'⟩)=B:=⟨_,rfl⟩;have Ha:=hid X;rw [X] at u;have L:=HX.below m.out HX.lt;have H:Hid (∀w',Below wr.heap.size wr w' ->(w'.cell? ⟨b,off+j*5,none⟩=some (.slice P V.length pc)/\ w'.cell? ⟨b,off+j*5+1,none⟩=some (.bool U)/\ w'.cell? ⟨b,off+j*5+2,none⟩=some (.int .i64 Z)/\ w'.cell? ⟨b,off+j*5+3,none⟩=some (.int .i64 Y)/\ w'.cell? ⟨b,off+j*5+4,none⟩=some (.string G)/\ w'.cell? ⟨w.heap.size,0,none⟩=some (.slice a' p'.length c')/\ w'.cell? ⟨w.heap.size,1,none⟩=some (.bool fl')/\ w'.cell? ⟨w.heap.size,2,none⟩=some (.int .i64 r')/\ w'.cell? ⟨w.heap.size,3,none⟩=some (.int .i64 q')/\ w'.cell? ⟨w.heap.size,4,none⟩=some (.string v'))):=hid (fun w' k=>by
    have q:=fun o=>k.cell (p:=⟨b,o,none⟩) hb;have z:=L.below k L.lt;exact⟨(q _).trans g,(q _).trans s,(q _).trans A,(q _).trans E,(q _).trans M,z.c0,z.c1,z.c2,z.c3,z.c4⟩)
   clear F X Hc sg L;go_wp2_with fail;refine zR (S:=fun w'=>w'.cell? ⟨b,off+j*5,none⟩=some (.slice P V.length pc)/\ w'.cell? ⟨b,off+j*5+1,none⟩=some (.bool U)/\ w'.cell? ⟨b,off+j*5+2,none⟩=some (.int .i64 Z)/\ w'.cell? ⟨b,off+j*5+3,none⟩=some (.int .i64 Y)/\ w'.cell? ⟨b,off+j*5+4,none⟩=some (.string G)/\ w'.cell? ⟨w.heap.size,0,none⟩=some (.slice a' p'.length c')/\ w'.cell? ⟨w.heap.size,1,none⟩=some (.bool fl')/\ w'.cell? ⟨w.heap.size,2,none⟩=some (.int .i64 r')/\ w'.cell? ⟨w.heap.size,3,none⟩=some (.int .i64 q')/\ w'.cell? ⟨w.heap.size,4,none⟩=some (.string v')) (H _ zI.drew) (fun qh=> ?_);clear g s A E M;refine tZ 0 12 ?_;refine tZ 1 13 ?_;refine tZ 2 14 ?_;refine tZ 3 15 ?_;refine tZ 4 16 ?_;refine cZ 5 ?_;intro K hK;go_simp;refine(u _ zI.drew).mono ?_;rintro e w1 ⟨rfl,k⟩;have N:Below wr.heap.size wr w1:=⟨k.os,k.tape,k.output,k.size,k.block⟩;refine hK.out _ _ (H _ N) (fun qh=> ?_);clear hK K;try simp only [zP]
   refine zD ?_;have T:=hid (m.trans (N.mono m.size));clear qh k N H u;cases B with
   | true=>
    have I:Hid ((⟨p',fl',r',q',v'⟩:Lf)∈l):=hid (by
     have e:(⟨V,U,Z,Y,G⟩:Lf)=⟨p',fl',r',q',v'⟩:=Classical.byContradiction fun hn=>by have:=Ha.out;rw [Qaj hn] at this;cases this
     rw [<- e,<- HY.out];exact Qa2.2 ⟨j,C,rfl⟩)
    go_wp2_with fail;go_ret;exact⟨⟨(j:Int),rfl,⟨fun _=>I.out,fun _=>i1⟩⟩,Qac R.out T.out⟩
   | false=>
    have He:Hid (∀t,t<j+1 ->gL l t≠⟨p',fl',r',q',v'⟩):=hid (fun t D=>by
     by_cases e:t=j
     ·rw [e,HY.out];intro e2;have:=Ha.out;rw [Qal e2] at this;cases this
     ·exact J t (by omega))
    clear J m;go_wp2_with fail;go_roundw;case rel=>exact⟨j+1,C,by go_num,T,He⟩
    case measure=>simp [intOf];omega
  ·obtain rfl:j=l.length:=by omega
   have I:Hid (¬(⟨p',fl',r',q',v'⟩:Lf)∈l):=hid (fun hm=>by
    obtain⟨t,D,e⟩:=Qa2.1 hm;exact J t D e)
   go_wp2_with fail;go_ret;exact⟨⟨-1,rfl,⟨fun h=>by omega,fun h=>absurd h I.out⟩⟩,Qac R.out m.out⟩
theorem LC.cast {w:World}{lo:Nat}{v:Value}{l:List Lf}{P Q P' Q':Nat ->Nat}(h:LC w lo v l P Q)(e:∀i,i<l.length ->P' i=P i/\ Q' i=Q i):LC w lo v l P' Q':=by
 refine⟨?_,fun i hi=> ?_⟩
 ·have:(List.range (l.length*5)).map (lCp l P' Q')=(List.range (l.length*5)).map (lCp l P Q):=List.map_congr_left fun j hj=>by
   have q:j<l.length*5:=by simpa using hj
   obtain⟨k,m⟩:=e (j/5) (by omega);unfold lCp;rw [k,m]
  rw [this];exact h.row
 ·obtain⟨k,m⟩:=e i hi;rw [k,m];exact h.pt i hi
theorem Qg5 {y:Lf}:∀{ls:List Lf} {k:Nat},k<=ls.length ->(∀i,i<k ->QaH (gL ls i) y<0) ->(k<ls.length ->¬QaH (gL ls k) y<0) ->Qc0 y ls=ls.take k++y::ls.drop k
 | [],k,hk,_,_=>by
  obtain rfl:k=0:=by simpa using hk
  simp [Qc0]
 | x::r,0,_,_,j=>by
  have j:=j (by simp);have e:gL (x::r) 0=x:=rfl;rw [e] at j;simp only [Qc0];rw [if_neg (by rw [Qaj j];simp)];simp
 | x::r,k+1,hk,h1,j=>by
  have e:gL (x::r) 0=x:=rfl;have m:=h1 0 (by omega);rw [e] at m;simp only [Qc0];rw [if_pos (Qal m),Qg5 (ls:=r) (k:=k) (by simpa using hk) (fun i hi=>h1 (i+1) (by omega)) (fun hh=>j (by simp;omega))];simp
theorem LC.cell {w:World}{lo g n cap:Nat}{l:List Lf}{P Q:Nat ->Nat}(h:LC w lo (.slice (some ⟨g,0,none⟩) n cap) l P Q)(hn:n=l.length){i:Nat}(hi:i<l.length):
  w.cell? ⟨g,i*5,none⟩=some (.slice (some ⟨P i,0,none⟩) (gL l i).p.length (Q i))/\ w.cell? ⟨g,i*5+1,none⟩=some (.bool (gL l i).fl)/\ w.cell? ⟨g,i*5+2,none⟩=some (.int .i64 (gL l i).r)/\ w.cell? ⟨g,i*5+3,none⟩=some (.int .i64 (gL l i).q)/\ w.cell? ⟨g,i*5+4,none⟩=some (.string (gL l i).v):=by
 subst hn;have j:=Qed h.row;obtain⟨k,m,u,y,z⟩:=Qpi l P Q i;exact⟨by rw [j.cell (by omega),k],by rw [j.cell (by omega),m],by rw [j.cell (by omega),u],by rw [j.cell (by omega),y],by rw [j.cell (by omega),z]⟩
theorem LC.seg {w:World}{lo:Nat}{v:Value}{l:List Lf}{P Q:Nat ->Nat}(h:LC w lo v l P Q){i:Nat}(hi:i<l.length):QaT w (some ⟨P i,0,none⟩) (gL l i).p:=by
 obtain⟨m,j,q,k,r⟩:=h.pt i hi;exact .inr ⟨P i,0,rfl,j,fun t ht=>by rw [Nat.zero_add];exact k.cell ht⟩
theorem LC.lt {w:World}{lo:Nat}{v:Value}{l:List Lf}{P Q:Nat ->Nat}(h:LC w lo v l P Q):∀g,v.ownBlock=some g ->lo<=g/\ g<w.heap.size:=fun g hg=>h.row.lt g hg
theorem LC.low {w:World}{lo lo':Nat}{v:Value}{l:List Lf}{P Q:Nat ->Nat}(h:LC w lo v l P Q)(hl:lo'<=lo):LC w lo' v l P Q:=⟨QcI h.row hl,fun i hi=>by obtain⟨j,k⟩:=h.pt i hi;exact⟨Nat.le_trans hl j,k⟩⟩
theorem LC.cap {w:World}{lo g n cap:Nat}{l:List Lf}{P Q:Nat ->Nat}(h:LC w lo (.slice (some ⟨g,0,none⟩) n cap) l P Q):l.length<=cap/\ cap<=9223372036854775807:=by
 rcases h.row.2 with ⟨j,_⟩|⟨u,q,r,m,o,t,v,k,y,z⟩
 ·cases j
 ·injection m with e1 e2 e3;unfold maxLen at k;omega
theorem LC.rest {w:World}{lo:Nat}{v:Value}{l:List Lf}{P Q:Nat ->Nat}(h:LC w lo v l P Q)(hlo:lo<=w.heap.size)(l':List Lf)(P' Q':Nat ->Nat)(g k m c off:Nat)(hk:k+m=l'.length)(hl:l.length+m<=1048576)(hoff:0<m ->off=k*5)(hC:∀j,j<l'.length*5 ->w.cell? ⟨g,j,none⟩=some (lCp l' P' Q' j))(hp:∀i,i<l'.length ->lo<=P' i/\ P' i<w.heap.size/\ some (P' i)≠v.ownBlock/\ Wr w (P' i) 9 (gL l' i).p.length (fun t=> .string (gS (gL l' i).p t))/\ (gL l' i).p.length<=Q' i/\ Q' i<=9223372036854775807)(hv:v≠.slice none 0 0):
  ∃y o O,(Builtin.append_ #[24,24] 24 #[v,.slice (some ⟨g,off,none⟩) m c]).run Tryz.prog w=.ok (.slice (some ⟨y,0,none⟩) (l.length+m) o) O/\
   LC O lo (.slice (some ⟨y,0,none⟩) (l.length+m) o) (l++l'.drop k) (fun i=>if i<l.length then P i else P' (k+(i - l.length))) (fun i=>if i<l.length then Q i else Q' (k+(i - l.length)))/\ Gr w O v (.slice (some ⟨y,0,none⟩) (l.length+m) o):=by
 obtain⟨i0,s,T,W,Ha⟩:=info_parts Qd0;have S:∀j,(lCp l' P' Q' j).oneCell'=true:=fun j=>by unfold lCp;split;rfl;split;rfl;split;rfl;split;rfl;rfl
 obtain⟨v',O,X,G,Y,C,E⟩:=run_append_own_at (P:=Tryz.prog) w lo 24 24 77 i0 _ 5 64 Tryz.underlying24 s T W Ha rfl (by decide) v l.length _ h.row ⟨g,off,none⟩ m c ((List.range (m*5)).map fun j=>lCp l' P' Q' (k*5+j)) (by simp) (fun j u A=>by
  simp only [List.getElem?_map,Option.map_eq_some_iff] at A;obtain⟨q,M,rfl⟩:=A;have R:j<m*5:=by
   rcases Nat.lt_or_ge j (m*5) with h|h
   ·exact h
   ·rw [List.getElem?_eq_none (by simpa using h)] at M;cases M
  rw [List.getElem?_range R] at M;have M:=Option.some.inj M;rw [<- M,Qc7,hoff (by omega)];exact hC _ (by omega)) (fun u hu=>by
  obtain⟨j,A,rfl⟩:=List.mem_map.1 hu;exact S _) (by unfold maxLen;omega) (by omega) hlo
 rcases G.2 with ⟨H,h0⟩|⟨y,o,Hb,H,r⟩
 ·exact absurd (C.1 H).1 hv
 rw [H] at X G E;have N:some y=v.ownBlock \/y=w.heap.size:=by
  rcases E with E|E
  ·exact .inl (by simpa [Value.ownBlock] using E)
  ·exact .inr (by simpa [Value.ownBlock] using E)
 have Hc:=Y.size;have D:Gr w O v (.slice (some ⟨y,0,none⟩) (l.length+m) o):=by
  refine⟨Y,?_⟩;rcases N with e|e
  ·exact .inl e
  ·exact .inr ⟨y,rfl,by omega⟩
 have K:(l++l'.drop k).length=l.length+m:=by simp;omega
 have L:∀b,some b≠v.ownBlock ->b<w.heap.size ->some b≠(Value.slice (some ⟨y,0,none⟩) (l.length+m) o).ownBlock:=fun b hb1 hb2 e=>by
  have e:b=y:=by simpa [Value.ownBlock] using e
  rcases N with z|z
  ·exact hb1 (by rw [e];exact z)
  ·omega
 have I:∀i,i<l.length ->gL (l++l'.drop k) i=gL l i:=fun i s=>by simp [gL,List.getD,List.getElem?_append_left s]
 have J:∀i,l.length<=i ->gL (l++l'.drop k) i=gL l' (k+(i - l.length)):=fun i s=>by simp [gL,List.getD,List.getElem?_append_right s]
 refine⟨y,o,O,X,⟨?_,fun i s=> ?_⟩,D⟩
 ·rw [K];have B:(List.range ((l.length+m)*5)).map (lCp (l++l'.drop k) (fun i=>if i<l.length then P i else P' (k+(i - l.length))) (fun i=>if i<l.length then Q i else Q' (k+(i - l.length))))=(List.range (l.length*5)).map (lCp l P Q)++(List.range (m*5)).map fun j=>lCp l' P' Q' (k*5+j):=by
   rw [Nat.add_mul,List.range_add,List.map_append,List.map_map];congr 1
   ·refine List.map_congr_left fun j A=> ?_;have F:j<l.length*5:=by simpa using A
    unfold lCp;rw [I (j/5) (by omega)];dsimp only;rw [if_pos (show j/5<l.length by omega),if_pos (show j/5<l.length by omega)]
   ·refine List.map_congr_left fun j A=> ?_;have F:j<m*5:=by simpa using A
    simp only [Function.comp];unfold lCp;rw [J ((l.length*5+j)/5) (by omega)];dsimp only;rw [if_neg (show¬(l.length*5+j)/5<l.length by omega),if_neg (show¬(l.length*5+j)/5<l.length by omega),show k+((l.length*5+j)/5 - l.length)=(k*5+j)/5 by omega,show (l.length*5+j)%5=(k*5+j)%5 by omega]
  rw [B];exact G
 ·by_cases e:i<l.length
  ·simp only [if_pos e];rw [I i e];obtain⟨Z,z,U,V⟩:=h.pt i e;exact⟨Z,by omega,L _ U z,V.1.same (Y.block _ z U),V.2⟩
  ·simp only [if_neg e];rw [J i (by omega)];obtain⟨Z,z,U,V⟩:=hp (k+(i - l.length)) (by rw [K] at s;omega);exact⟨Z,by omega,L _ U z,V.1.same (Y.block _ z U),V.2⟩
theorem Qbt {q n c k:Nat}(h:(Value.slice (some ⟨q,0,none⟩) n c).ownBlock=some k):q=k:=by simpa [Value.ownBlock] using h
theorem QfR (g cap:Nat)(l:List Lf)(P Q:Nat ->Nat)(w:World)(lo pb pc:Nat)(yp:List ByteArray)(yf:Bool)(yr yq:Int)(yv:ByteArray)(h:LC w lo (.slice (some ⟨g,0,none⟩) l.length cap) l P Q)(hlo:lo<=w.heap.size)(hl:l.length<=100000)(hpl:∀i,i<l.length ->(gL l i).p.length<=1048576)(hyl:yp.length<=1048576)(Hz:lo<=pb/\ pb<w.heap.size)(hyw:Wr w pb 9 yp.length (fun t=> .string (gS yp t)))(Hy:yp.length<=pc/\ pc<=9223372036854775807):
  Calls Tryz.prog 87 #[.slice (some ⟨g,0,none⟩) l.length cap,.agg #[.slice (some ⟨pb,0,none⟩) yp.length pc,.bool yf,.int .i64 yr,.int .i64 yq,.string yv]] w fun e w'=>(∃g' cap' s A,e=.returned (.slice (some ⟨g',0,none⟩) (l.length+1) cap')/\ w.heap.size<=g'/\ LC w' lo (.slice (some ⟨g',0,none⟩) (l.length+1) cap') (Qc0 ⟨yp,yf,yr,yq,yv⟩ l) s A)/\ Below w.heap.size w w':=by
 obtain⟨W,hW⟩:∃W,(w.alloc (.cells #[.slice (some ⟨pb,0,none⟩) yp.length pc,.bool yf,.int .i64 yr,.int .i64 yq,.string yv] 77)).alloc (.cells #[] 77)=W:=⟨_,rfl⟩;have b0:Below w.heap.size w W:=by rw [<- hW];exact Qak _ _ _
 have X0:Bx5 W w.heap.size (.slice (some ⟨pb,0,none⟩) yp.length pc) (.bool yf) (.int .i64 yr) (.int .i64 yq) (.string yv):=by rw [<- hW];exact(Bx5.new _ _ _ _ _ _ _).up _
 have zW:W.heap.size=w.heap.size+2:=by rw [<- hW];simp
 have Ht:LC W w.heap.size (.slice (some ⟨w.heap.size+1,0,none⟩) 0 0) [] P Q:=by
  refine⟨?_,fun i hi=>by simp at hi⟩;have:=World.ownsRow_lit (base:=w.heap.size) (e:=77) (size:=5) (w.alloc (.cells #[.slice (some ⟨pb,0,none⟩) yp.length pc,.bool yf,.int .i64 yr,.int .i64 yq,.string yv] 77)) #[] 0 (by simp) (by unfold maxLen;omega) rfl;rw [hW] at this;simpa using this
 have hg:=(h.lt g rfl).2;have HH:=hid h;have HX:=hid X0;have Hs:=hid hyw;have HY:=hid (And.intro Hz Hy);have H6:=hid hpl;have Hj:=hid hlo;have Hn:=hid Ht;have H9:=h.cap;have Hr:Hid (∀i,i<l.length ->lo<=P i/\ P i<w.heap.size):=hid (fun i hi=>⟨(h.pt i hi).1,(h.pt i hi).2.1⟩);have H2:=hid hg;have H7:=hid zW;have H0:=hid b0;clear h b0 X0 zW Ht hg Hz hyw Hy hpl hlo;have H3:Hid (∀wr q k b,Gr W wr (.slice (some ⟨w.heap.size+1,0,none⟩) 0 0) (.slice (some ⟨q,0,none⟩) k b) ->Below w.heap.size w wr/\ Bx5 wr w.heap.size (.slice (some ⟨pb,0,none⟩) yp.length pc) (.bool yf) (.int .i64 yr) (.int .i64 yq) (.string yv)/\ w.heap.size<q):=hid (fun wr q k b hG=>by
  have hz:=H7.out;have hs:=hG.g.size;have e:=hG.g.block w.heap.size (by omega) (fun e=>by have:=Qbt e.symm;omega);refine⟨H0.trans (hG.below (by omega) (fun k X=>by have:=Qbt X;omega)),?_,?_⟩
  ·have q:=fun o=>World.cell?_of_block (w:=W) (w':=wr) (a:=⟨w.heap.size,o,none⟩) e;exact⟨(q 0).trans HX.c0,(q 1).trans HX.c1,(q 2).trans HX.c2,(q 3).trans HX.c3,(q 4).trans HX.c4,fun i=>(World.frozen?_of_block (a:=⟨w.heap.size,i,none⟩) e).trans (HX.f i),by have:=HX.lt;omega⟩
  ·rcases hG.l with E|⟨j,E,h2⟩
   ·have:=Qbt (k:=w.heap.size+1) E;omega
   ·have:=Qbt E;omega)
 have Hp:Hid (∀w1 k q b,k<=l.length ->LC w1 lo (.slice (some ⟨q,0,none⟩) k b) (l.take k) P Q ->Below w.heap.size w w1 ->w.heap.size<q ->∃z y M,(Builtin.append_ #[24,24] 24 #[.slice (some ⟨q,0,none⟩) k b,.slice (some ⟨w1.heap.size,0,none⟩) 1 1]).run Tryz.prog (w1.alloc (.cells #[.slice (some ⟨pb,0,none⟩) yp.length pc,.bool yf,.int .i64 yr,.int .i64 yq,.string yv] 77))=.ok (.slice (some ⟨z,0,none⟩) (k+1) y) M/\ Below w.heap.size w M/\ w.heap.size<=z/\
   ∀off c',(k<l.length ->off=k*5) ->∃u G w4 s A,(Builtin.append_ #[24,24] 24 #[.slice (some ⟨z,0,none⟩) (k+1) y,.slice (some ⟨g,off,none⟩) (l.length - k) c']).run Tryz.prog M=.ok (.slice (some ⟨u,0,none⟩) (l.length+1) G) w4/\ Below w.heap.size w w4/\ w.heap.size<=u/\ LC w4 lo (.slice (some ⟨u,0,none⟩) (l.length+1) G) (l.take k++(⟨yp,yf,yr,yq,yv⟩:Lf)::l.drop k) s A):=hid (fun w1 k q b X hLC O hq=>by
  have He:(l.take k).length=k:=by simp;omega
  have hY:=HY.out;have H8:=O.size;obtain⟨z,y,M,e1,e2,e3⟩:=hLC.app zI (by have:=Hj.out;omega) (by rw [He];omega) ⟨yp,yf,yr,yq,yv⟩ pb pc hY.1.1 (by omega) (fun e=>by have:=Qbt e.symm;omega) (Hs.same (O.block pb hY.1.2)) hY.2;rw [He] at e1 e2 e3;have J:Below w.heap.size w M:=O.trans (e3.below H8 (fun k X=>by have:=Qbt X;omega));have Hh:w.heap.size<=z:=by
   rcases e3.l with E|⟨j,E,h2⟩
   ·have:=Qbt (k:=q) E;omega
   ·have:=Qbt E;omega
  refine⟨z,y,M,e1,J,Hh,fun off c' hoff=> ?_⟩;have Hu:=HH.below J;have Gc:=Qed Hu.row;have Hx:(l.take k++[(⟨yp,yf,yr,yq,yv⟩:Lf)]).length=k+1:=by simp;omega
  obtain⟨u,G,w4,f1,f2,f3⟩:=e2.rest (by have:=J.size;have:=Hj.out;omega) l P Q g k (l.length - k) c' off (by omega) (by rw [Hx];omega) (fun hm=>hoff (by omega)) (fun j hj=>Gc.cell hj) (fun i hi=>by
   obtain⟨x1,x2,x3,x4⟩:=Hu.pt i hi;have:=Hr i hi;exact⟨x1,x2,fun e=>by have:=Qbt e.symm;omega,x4⟩) (by simp)
  rw [Hx,show k+1+(l.length - k)=l.length+1 by omega] at f1 f2 f3;have C:w.heap.size<=u:=by
   rcases f3.l with E|⟨j,E,h2⟩
   ·have:=Qbt (k:=z) E;omega
   ·have:=Qbt E;have:=J.size;omega
  rw [List.append_assoc,List.singleton_append] at f2;exact⟨u,G,w4,_,_,f1,J.trans (f3.below J.size (fun k X=>by have:=Qbt X;omega)),C,f2⟩)
 go_enter Tryz.func87,Tryz.ntmps87;go_wp2_with fail;try rw [hW]
 clear hW;go_loopw [5,6] (fun b' i wr=>∃(k q b:Nat),k<=l.length/\ i=.int .i64 k/\ b'=.slice (some ⟨q,0,none⟩) k b/\ Hid (∀j,j<k ->QaH (gL l j) ⟨yp,yf,yr,yq,yv⟩<0)/\ Hid (LC wr lo (.slice (some ⟨q,0,none⟩) k b) (l.take k) P Q)/\ Hid (Gr W wr (.slice (some ⟨w.heap.size+1,0,none⟩) 0 0) (.slice (some ⟨q,0,none⟩) k b))) (fun _ i _=>l.length - (intOf i).toNat);case atStart=>exact⟨0,_,0,Nat.zero_le _,rfl,rfl,hid (fun j hj=>by omega),hid (by simpa using Hn.low Hj.out),hid (Gr.refl _ _)⟩
 case round=>
  obtain⟨k,q,b,X,rfl,rfl,HJ,HL,HG⟩:=hrel;have Gb:=HL.cap;have He:(l.take k).length=k:=by simp;omega
  rw [He] at Gb;have i1:(0:Int)<=(k:Int):=Int.natCast_nonneg _;obtain⟨bR,xR,hq⟩:=H3 wr q k b HG.out;have D:=hid bR;have Hk:=hid xR;have HQ:=hid hq;have Hq:=hid He;clear bR xR hq He;by_cases Hb:k<l.length
  ·have i2:(k:Int)<(l.length:Int):=by omega
   have Hm:=HH.below D.out;obtain⟨c0,c1,c2,y,G⟩:=Hm.cell rfl Hb;obtain⟨p1,p2,p3,p4,p5⟩:=Hm.pt k Hb;have Hg:=hid (fun w1 (m:Below wr.heap.size wr w1)=>Qhv (some ⟨P k,0,none⟩) (some ⟨pb,0,none⟩) (Q k) pc (gL l k).p yp (gL l k).fl yf (gL l k).r (gL l k).q yr yq (gL l k).v yv w1 (H6 k Hb) hyl p5.1 HY.2.1 p5.2 HY.2.2 ((Hm.seg Hb).below m) (.inr ⟨pb,0,rfl,by have E:=HY.1.2;have h2:=D.size;have h3:=m.size;omega,fun t ht=>by rw [Nat.zero_add];exact((Hs.same (D.block pb HY.1.2)).same (m.block pb (by have E:=HY.1.2;have h2:=D.size;omega))).cell ht⟩));have Hf:Hid (∀w1,Below wr.heap.size wr w1 ->∃z y M,(Builtin.append_ #[24,24] 24 #[.slice (some ⟨q,0,none⟩) k b,.slice (some ⟨w1.heap.size,0,none⟩) 1 1]).run Tryz.prog (w1.alloc (.cells #[.slice (some ⟨P k,0,none⟩) (gL l k).p.length (Q k),.bool (gL l k).fl,.int .i64 (gL l k).r,.int .i64 (gL l k).q,.string (gL l k).v] 77))=.ok (.slice (some ⟨z,0,none⟩) (k+1) y) M/\ LC M lo (.slice (some ⟨z,0,none⟩) (k+1) y) (l.take (k+1)) P Q/\ Gr w1 M (.slice (some ⟨q,0,none⟩) k b) (.slice (some ⟨z,0,none⟩) (k+1) y)):=hid (fun w1 m=>by
    obtain⟨z,y,M,e1,e2,e3⟩:=HL.app m (by have:=Hj.out;have:=D.size;omega) (by rw [Hq.out];omega) (gL l k) (P k) (Q k) p1 (by have:=m.size;omega) (fun e=>by have:=Qbt e.symm;have E:=(Hr k Hb).2;have h2:=HQ.out;omega) (p4.same (m.block _ p2)) p5;rw [Hq.out] at e1 e2 e3;refine⟨z,y,M,e1,?_,e3⟩;have et:l.take (k+1)=l.take k++[gL l k]:=by rw [List.take_add_one];simp [gL,List.getD,Hb]
    rw [et];exact e2.cast fun i hi=>by
     by_cases e:i=k
     ·rw [if_pos e,if_pos e,e];exact⟨rfl,rfl⟩
     ·rw [if_neg e,if_neg e];exact⟨rfl,rfl⟩)
   have Hc:Hid (yes (QaH (gL l k) ⟨yp,yf,yr,yq,yv⟩<0)=true ->∀j,j<k+1 ->QaH (gL l j) ⟨yp,yf,yr,yq,yv⟩<0):=hid (fun O j hj=>by
    by_cases e:j=k
    ·rw [e];exact Classical.byContradiction fun hn=>by rw [Qaj hn] at O;cases O
    ·exact HJ j (by omega))
   have Hd:Hid (yes (QaH (gL l k) ⟨yp,yf,yr,yq,yv⟩<0)=false ->Qc0 ⟨yp,yf,yr,yq,yv⟩ l=l.take k++(⟨yp,yf,yr,yq,yv⟩:Lf)::l.drop k):=hid (fun O=>Qg5 X HJ.out (fun _ hn=>by rw [Qal hn] at O;cases O));have F:Hid (∀w',Below wr.heap.size wr w' ->(w'.cell? ⟨g,k*5,none⟩=some (.slice (some ⟨P k,0,none⟩) (gL l k).p.length (Q k))/\ w'.cell? ⟨g,k*5+1,none⟩=some (.bool (gL l k).fl)/\ w'.cell? ⟨g,k*5+2,none⟩=some (.int .i64 (gL l k).r)/\ w'.cell? ⟨g,k*5+3,none⟩=some (.int .i64 (gL l k).q)/\ w'.cell? ⟨g,k*5+4,none⟩=some (.string (gL l k).v)/\ w'.cell? ⟨w.heap.size,0,none⟩=some (.slice (some ⟨pb,0,none⟩) yp.length pc)/\ w'.cell? ⟨w.heap.size,1,none⟩=some (.bool yf)/\ w'.cell? ⟨w.heap.size,2,none⟩=some (.int .i64 yr)/\ w'.cell? ⟨w.heap.size,3,none⟩=some (.int .i64 yq)/\ w'.cell? ⟨w.heap.size,4,none⟩=some (.string yv))):=hid (fun w' m=>by
    have Ga:g<wr.heap.size:=by have E:=H2.out;have h2:=D.size;omega
    have q:=fun o=>m.cell (p:=⟨g,o,none⟩) Ga;have Z:=Hk.below m Hk.lt;exact⟨(q _).trans c0,(q _).trans c1,(q _).trans c2,(q _).trans y,(q _).trans G,Z.c0,Z.c1,Z.c2,Z.c3,Z.c4⟩)
   obtain⟨x,hx⟩:∃x,gL l k=x:=⟨_,rfl⟩;obtain⟨Pk,Hv⟩:∃x,P k=x:=⟨_,rfl⟩;obtain⟨Qk,Hw⟩:∃x,Q k=x:=⟨_,rfl⟩;rw [hx,Hv,Hw] at Hg Hf F;rw [hx] at Hc Hd;obtain⟨xp,xf,xr,xq,xv⟩:=x;dsimp only at Hg Hf F Hc Hd;obtain⟨B,O⟩:∃B,yes (QaH (⟨xp,xf,xr,xq,xv⟩:Lf) ⟨yp,yf,yr,yq,yv⟩<0)=B:=⟨_,rfl⟩;rw [O] at Hg Hc Hd;clear hx Hv Hw O Hm c0 c1 c2 y G p1 p2 p3 p4 p5;go_wp2_with fail;refine zR (S:=fun w'=>w'.cell? ⟨g,k*5,none⟩=some (.slice (some ⟨Pk,0,none⟩) xp.length Qk)/\ w'.cell? ⟨g,k*5+1,none⟩=some (.bool xf)/\ w'.cell? ⟨g,k*5+2,none⟩=some (.int .i64 xr)/\ w'.cell? ⟨g,k*5+3,none⟩=some (.int .i64 xq)/\ w'.cell? ⟨g,k*5+4,none⟩=some (.string xv)/\ w'.cell? ⟨w.heap.size,0,none⟩=some (.slice (some ⟨pb,0,none⟩) yp.length pc)/\ w'.cell? ⟨w.heap.size,1,none⟩=some (.bool yf)/\ w'.cell? ⟨w.heap.size,2,none⟩=some (.int .i64 yr)/\ w'.cell? ⟨w.heap.size,3,none⟩=some (.int .i64 yq)/\ w'.cell? ⟨w.heap.size,4,none⟩=some (.string yv)) (F _ zI.drew) (fun qh=> ?_);refine tZ 0 9 ?_;refine tZ 1 10 ?_;refine tZ 2 11 ?_;refine tZ 3 12 ?_;refine tZ 4 13 ?_;refine tZ 5 14 ?_;refine tZ 6 15 ?_;refine tZ 7 16 ?_;refine tZ 8 17 ?_;refine tZ 9 18 ?_;refine cZ 10 ?_;intro K hK;go_simp;refine(Hg _ zI.drew).mono ?_;rintro e w1 ⟨rfl,m⟩;have Hl:Below wr.heap.size wr w1:=⟨m.os,m.tape,m.output,m.size,m.block⟩;refine hK.out _ _ (F _ Hl) (fun qh=> ?_);clear hK K;try simp only [zP]
   refine tZ 11 20 ?_;refine zD ?_;have Hi:=hid Hl;obtain⟨c0,c1,c2,y,G,y0,y1,y2,y3,y4⟩:=F _ Hl;clear qh m Hl F Hg;cases B with
   | true=>
    obtain⟨z,Ho,M,L,l3,g3⟩:=Hf w1 Hi.out;have H5:=hid l3;have H1:=hid ((HG.trans (Gr.of_below Hi.out)).trans g3);have H4:=hid (Hc rfl);clear l3 g3 Hf Hc Hd HJ HL HG;go_wp2_with (at_builtin;refine Qaa rfl _ _ _ _ rfl L (by rfl) (by rfl) rfl ?_;clear L);go_roundw;case rel=>exact⟨k+1,z,Ho,Hb,by go_num,rfl,H4,H5,H1⟩
    case measure=>simp [intOf];omega
   | false=>
    have I:=hid (Hd rfl);obtain⟨z,Ho,M,L,J,Hh,Ha⟩:=Hp w1 k q b X (HL.below Hi.out) (D.trans (Hi.mono D.size)) HQ.out;obtain⟨u,H,w4,s,A,N,R,C,T⟩:=Ha (k*5) (cap - k) (fun _=>rfl);have U:=hid R;have V:=hid T;have Y:=hid C;clear J Hh Ha R T C Hf Hc Hd HJ HL HG;have i3:k<=cap:=by omega
    go_wp2_with (first|(at_builtin;refine Qaa rfl _ _ _ _ rfl L (by rfl) (by rfl) rfl ?_;clear L)|(at_builtin;refine Qaa rfl _ _ _ _ rfl N (by rfl) (by rfl) rfl ?_;clear N));go_ret;first|exact⟨⟨u,H,rfl,Y.out,s,A,by rw [I.out];exact V.out⟩,U.out⟩|exact⟨⟨u,H,s,A,rfl,Y.out,by rw [I.out];exact V.out⟩,U.out⟩|exact⟨⟨u,H,rfl,s,A,Y.out,by rw [I.out];exact V.out⟩,U.out⟩
  ·obtain rfl:k=l.length:=by omega
   have I:Hid (Qc0 ⟨yp,yf,yr,yq,yv⟩ l=l.take l.length++(⟨yp,yf,yr,yq,yv⟩:Lf)::l.drop l.length):=hid (Qg5 zL HJ.out (fun h=>by omega));have F:Hid (∀w',Below wr.heap.size wr w' ->(w'.cell? ⟨w.heap.size,0,none⟩=some (.slice (some ⟨pb,0,none⟩) yp.length pc)/\ w'.cell? ⟨w.heap.size,1,none⟩=some (.bool yf)/\ w'.cell? ⟨w.heap.size,2,none⟩=some (.int .i64 yr)/\ w'.cell? ⟨w.heap.size,3,none⟩=some (.int .i64 yq)/\ w'.cell? ⟨w.heap.size,4,none⟩=some (.string yv))):=hid (fun w' m=>by
    have Z:=Hk.below m Hk.lt;exact⟨Z.c0,Z.c1,Z.c2,Z.c3,Z.c4⟩)
   go_wp2_with fail;refine zR (S:=fun w'=>True) trivial (fun qh=> ?_);refine tZ 0 9 ?_;refine tZ 1 10 ?_;refine tZ 2 11 ?_;refine tZ 3 12 ?_;refine tZ 4 13 ?_;refine uZ 5 14 ?_;refine uZ 6 15 ?_;refine uZ 7 16 ?_;refine uZ 8 17 ?_;refine uZ 9 18 ?_;refine uZ 10 19 ?_;refine tZ 11 20 ?_;refine zD ?_;obtain⟨y0,y1,y2,y3,y4⟩:=F _ zI.drew;obtain⟨z,Ho,M,L,J,Hh,Ha⟩:=Hp wr.drew l.length q b X (HL.below zI.drew) D.drew HQ.out;clear J Hh HJ HL HG qh F;by_cases Gd:l.length<cap
   ·obtain⟨u,H,w4,s,A,N,R,C,T⟩:=Ha (l.length*5) (cap - l.length) (fun _=>rfl);rw [Nat.sub_self] at N;have U:=hid R;have V:=hid T;have Y:=hid C;clear Ha R T C;go_wp2_with (first|(at_builtin;refine Qaa rfl _ _ _ _ rfl L (by rfl) (by rfl) rfl ?_;clear L)|(at_builtin;refine Qaa rfl _ _ _ _ rfl N (by rfl) (by rfl) rfl ?_;clear N));go_ret;first|exact⟨⟨u,H,rfl,Y.out,s,A,by rw [I.out];exact V.out⟩,U.out⟩|exact⟨⟨u,H,s,A,rfl,Y.out,by rw [I.out];exact V.out⟩,U.out⟩|exact⟨⟨u,H,rfl,s,A,Y.out,by rw [I.out];exact V.out⟩,U.out⟩
   ·obtain⟨u,H,w4,s,A,N,R,C,T⟩:=Ha 0 0 (fun h=>by omega);rw [Nat.sub_self] at N;obtain rfl:cap=l.length:=by omega
    have U:=hid R;have V:=hid T;have Y:=hid C;clear Ha R T C;go_wp2_with (first|(at_builtin;refine Qaa rfl _ _ _ _ rfl L (by rfl) (by rfl) rfl ?_;clear L)|(at_builtin;refine Qaa rfl _ _ _ _ rfl N (by rfl) (by rfl) rfl ?_;clear N));go_ret;first|exact⟨⟨u,H,rfl,Y.out,s,A,by rw [I.out];exact V.out⟩,U.out⟩|exact⟨⟨u,H,s,A,rfl,Y.out,by rw [I.out];exact V.out⟩,U.out⟩|exact⟨⟨u,H,rfl,s,A,Y.out,by rw [I.out];exact V.out⟩,U.out⟩
end Go.Proofs.YtjdcfkmhmnblbaaGreatDoor
