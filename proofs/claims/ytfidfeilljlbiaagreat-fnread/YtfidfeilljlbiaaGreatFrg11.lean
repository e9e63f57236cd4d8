import Derived.Test.YtfidfeilljlbiaaGreatFrg10
import Derived.Test.YtfidfeilljlbiaaGreatFrg08
import Derived.Test.YtfidfeilljlbiaaGreatFrg09
import Derived.Test.YtfidfeilljlbiaaGreatFrg07
import Derived.Test.YtfidfeilljlbiaaGreatFrg06
set_option linter.unusedVariables false
set_option linter.unusedSimpArgs false
set_option maxRecDepth 100000
set_option maxHeartbeats 40000000
namespace Go.Proofs.YtfidfeilljlbiaaGreat
open Go.ChangeShapes Go.WideShapes Go.ChangeAt Go.RowKit
def lfK (x:Lf):List ByteArray×Int×Dt:=(x.p,kd x.fl,x.r,x.q)
theorem lfK_cmp:CmpT (fun x y:List ByteArray×Int×Dt=>orI (cmpP x.1 y.1) (orI (cmpI x.2.1 y.2.1) (cmpDt x.2.2 y.2.2))):=CmpT.path.pair (CmpT.int.pair CmpT.dot)
theorem cmpL_neg (x y:Lf):cmpL x y<0↔0<cmpL y x:=lfK_cmp.neg (lfK x) (lfK y)
theorem cmpL_z (x y:Lf):cmpL x y=0↔lfK x=lfK y:=lfK_cmp.z (lfK x) (lfK y)
theorem lfK_way {x y:Lf}(h:lfK x=lfK y):x.p=y.p/\ x.fl=y.fl/\ x.r=y.r/\ x.q=y.q:=by
 unfold lfK at h;have h1:=congrArg Prod.fst h;have h2:=congrArg (fun z=>z.2.1) h;have h3:=congrArg (fun z=>z.2.2.1) h;have h4:=congrArg (fun z=>z.2.2.2) h;exact⟨h1,kd_inj h2,h3,h4⟩
noncomputable def insL (x:Lf):List Lf ->List Lf
 | []=>[x]
 | y::r=>if yes (cmpL y x<0)=true then y::insL x r else x::y::r
theorem insL_mem {x z:Lf}:∀{ls:List Lf},z∈insL x ls↔z=x \/z∈ls
 | []=>by simp [insL]
 | y::r=>by
  have ih:=insL_mem (x:=x) (z:=z) (ls:=r);simp only [insL];split
  ·rw [List.mem_cons,ih,List.mem_cons];constructor
   ·rintro(h|h|h)
    ·exact .inr (.inl h)
    ·exact .inl h
    ·exact .inr (.inr h)
   ·rintro(h|h|h)
    ·exact .inr (.inl h)
    ·exact .inl h
    ·exact .inr (.inr h)
  ·rw [List.mem_cons]
theorem insL_len (x:Lf):∀ls:List Lf,(insL x ls).length=ls.length+1
 | []=>rfl
 | y::r=>by
  simp only [insL];split
  ·simp [insL_len x r]
  ·simp
theorem insL_sorted {x:Lf}:∀{ls:List Lf},ls.Pairwise (fun a b=>cmpL a b<0) ->(∀y∈ls,lfK y≠lfK x) ->(insL x ls).Pairwise (fun a b=>cmpL a b<0)
 | [],_,_=>by simp [insL]
 | y::r,h,hne=>by
  have hr:=List.pairwise_cons.1 h;have ih:=insL_sorted hr.2 (fun z hz=>hne z (List.mem_cons_of_mem _ hz));simp only [insL];by_cases hc:cmpL y x<0
  ·rw [if_pos (yes_t hc)];refine List.pairwise_cons.2 ⟨fun z hz=> ?_,ih⟩;rcases insL_mem.1 hz with e|e
   ·rw [e];exact hc
   ·exact hr.1 z e
  ·rw [if_neg (by rw [yes_f hc];simp)];have h0:cmpL y x≠0:=fun e=>hne y (List.mem_cons_self) ((cmpL_z y x).1 e);have h1:cmpL x y<0:=(cmpL_neg x y).2 (by omega);refine List.pairwise_cons.2 ⟨fun z hz=> ?_,h⟩;rcases List.mem_cons.1 hz with e|e
   ·rw [e];exact h1
   ·exact cmpL_tr h1 (hr.1 z e)
noncomputable def putL (P:Lf ->Prop)(ls:List Lf)(out:List Lf):Nat ->List Lf
 | 0=>out
 | k+1=>if yes (P (gL ls k))=true then insL (gL ls k) (putL P ls out k) else putL P ls out k
theorem putL_yes {P:Lf ->Prop}{ls out:List Lf}{k:Nat}(h:P (gL ls k)):putL P ls out (k+1)=insL (gL ls k) (putL P ls out k):=by simp only [putL];rw [if_pos (yes_t h)]
theorem putL_no {P:Lf ->Prop}{ls out:List Lf}{k:Nat}(h:¬P (gL ls k)):putL P ls out (k+1)=putL P ls out k:=by simp only [putL];rw [if_neg (by rw [yes_f h];simp)]
theorem putL_mem {P:Lf ->Prop}{ls out:List Lf}{z:Lf}:∀{k:Nat},z∈putL P ls out k↔z∈out \/∃j,j<k/\ P (gL ls j)/\ gL ls j=z
 | 0=>by simp [putL]
 | k+1=>by
  have ih:=putL_mem (P:=P) (ls:=ls) (out:=out) (z:=z) (k:=k);by_cases h:P (gL ls k)
  ·rw [putL_yes h,insL_mem,ih];constructor
   ·rintro(e|e|⟨j,h1,h2,h3⟩)
    ·exact .inr ⟨k,by omega,h,e.symm⟩
    ·exact .inl e
    ·exact .inr ⟨j,by omega,h2,h3⟩
   ·rintro(e|⟨j,h1,h2,h3⟩)
    ·exact .inr (.inl e)
    ·by_cases ej:j=k
     ·subst ej;exact .inl h3.symm
     ·exact .inr (.inr ⟨j,by omega,h2,h3⟩)
  ·rw [putL_no h,ih];constructor
   ·rintro(e|⟨j,h1,h2,h3⟩)
    ·exact .inl e
    ·exact .inr ⟨j,by omega,h2,h3⟩
   ·rintro(e|⟨j,h1,h2,h3⟩)
    ·exact .inl e
    ·by_cases ej:j=k
     ·subst ej;exact absurd h2 h
     ·exact .inr ⟨j,by omega,h2,h3⟩
theorem putL_len {P:Lf ->Prop}{ls out:List Lf}:∀k,(putL P ls out k).length<=out.length+k
 | 0=>by simp [putL]
 | k+1=>by
  have ih:=putL_len (P:=P) (ls:=ls) (out:=out) k;simp only [putL];split
  ·rw [insL_len];omega
  ·omega
theorem putL_sorted {P:Lf ->Prop}{ls out:List Lf}(ho:out.Pairwise (fun a b=>cmpL a b<0))(hl:∀i j,i<j ->j<ls.length ->cmpL (gL ls i) (gL ls j)<0)(hne:∀j,j<ls.length ->P (gL ls j) ->∀y∈out,lfK y≠lfK (gL ls j)):∀k,k<=ls.length ->(putL P ls out k).Pairwise (fun a b=>cmpL a b<0)
 | 0,_=>ho
 | k+1,hk=>by
  have ih:=putL_sorted ho hl hne k (by omega);by_cases h:P (gL ls k)
  ·rw [putL_yes h];refine insL_sorted ih (fun y hy=> ?_);rcases putL_mem.1 hy with e|⟨j,h1,h2,h3⟩
   ·exact hne k (by omega) h y e
   ·intro e;rw [<- h3] at e;have:=(cmpL_z _ _).2 e;have:=hl j k h1 (by omega);omega
  ·rw [putL_no h];exact ih
noncomputable def jnL (la lb:List Lf)(hasA hasB:Lf ->Prop):List Lf:=putL (fun x=>¬hasA x) lb (putL (fun x=>x∈lb \/¬hasB x) la [] la.length) lb.length
theorem gL_mem {l:List Lf}{x:Lf}:x∈l↔∃j,j<l.length/\ gL l j=x:=by
 constructor
 ·intro h;obtain⟨j,hj,e⟩:=List.getElem_of_mem h;exact⟨j,hj,by simp [gL,List.getD,hj,e]⟩
 ·rintro⟨j,hj,e⟩;rw [<- e];have:gL l j=l[j]:=by simp [gL,List.getD,hj]
  rw [this];exact List.getElem_mem hj
theorem jnL_mem {la lb:List Lf}{hasA hasB:Lf ->Prop}{z:Lf}:z∈jnL la lb hasA hasB↔(z∈la/\ (z∈lb \/¬hasB z)) \/(z∈lb/\¬hasA z):=by
 unfold jnL;rw [putL_mem,putL_mem];constructor
 ·rintro((e|⟨j,h1,h2,h3⟩)|⟨j,h1,h2,h3⟩)
  ·cases e
  ·rw [h3] at h2;exact .inl ⟨gL_mem.2 ⟨j,h1,h3⟩,h2⟩
  ·rw [h3] at h2;exact .inr ⟨gL_mem.2 ⟨j,h1,h3⟩,h2⟩
 ·rintro(⟨h1,h2⟩|⟨h1,h2⟩)
  ·obtain⟨j,hj,e⟩:=gL_mem.1 h1;exact .inl (.inr ⟨j,hj,by rw [e];exact h2,e⟩)
  ·obtain⟨j,hj,e⟩:=gL_mem.1 h1;exact .inr ⟨j,hj,by rw [e];exact h2,e⟩
theorem jnL_sorted {la lb:List Lf}{hasA hasB:Lf ->Prop}(hA:∀i j,i<j ->j<la.length ->cmpL (gL la i) (gL la j)<0)(hB:∀i j,i<j ->j<lb.length ->cmpL (gL lb i) (gL lb j)<0)(hk:∀x∈la,hasA x)(hd:∀x y,lfK x=lfK y ->(hasA x↔hasA y)):(jnL la lb hasA hasB).Pairwise (fun a b=>cmpL a b<0):=by
 unfold jnL;refine putL_sorted (putL_sorted List.Pairwise.nil hA (fun j _ _ y hy=>by cases hy) _ zL) hB (fun j hj hP y hy e=> ?_) _ zL;rcases putL_mem.1 hy with h|⟨i,h1,_,h3⟩
 ·cases h
 ·exact hP ((hd _ _ e).1 (hk y (gL_mem.2 ⟨i,h1,h3⟩)))
theorem lfs_uniq:∀{a b:List Lf},a.Pairwise (fun x y=>cmpL x y<0) ->b.Pairwise (fun x y=>cmpL x y<0) ->(∀z,z∈a↔z∈b) ->a=b
 | [],[],_,_,_=>rfl
 | [],y::_,_,_,h=>by have:=(h y).2 (List.mem_cons_self);cases this
 | x::_,[],_,_,h=>by have:=(h x).1 (List.mem_cons_self);cases this
 | x::r,y::s,ha,hb,h=>by
  have Ha:=List.pairwise_cons.1 ha;have Hb:=List.pairwise_cons.1 hb;have Hc:∀z:Lf,¬cmpL z z<0:=fun z hz=>by have:=(cmpL_neg z z).1 hz;omega
  have e:x=y:=by
   rcases List.mem_cons.1 ((h x).1 (List.mem_cons_self)) with e|e
   ·exact e
   ·rcases List.mem_cons.1 ((h y).2 (List.mem_cons_self)) with e2|e2
    ·exact e2.symm
    ·exact absurd (cmpL_tr (Ha.1 y e2) (Hb.1 x e)) (Hc x)
  subst e;congr 1;refine lfs_uniq Ha.2 Hb.2 fun z=> ?_;constructor
  ·intro hz;rcases List.mem_cons.1 ((h z).1 (List.mem_cons_of_mem _ hz)) with e|e
   ·subst e;exact absurd (Ha.1 z hz) (Hc z)
   ·exact e
  ·intro hz;rcases List.mem_cons.1 ((h z).2 (List.mem_cons_of_mem _ hz)) with e|e
   ·subst e;exact absurd (Hb.1 z hz) (Hc z)
   ·exact e
def StW (R F T:Nat ->Int)(n:Nat)(l:List Lf):Prop:=(okTo R F T n/\ n<=2000)/\ l.length<=1000/\ LvOk R F T n l l.length/\ Dis l l.length
theorem StOk.w {R F T:Nat ->Int}{n:Nat}{l:List Lf}(h:StOk R F T n l):StW R F T n l:=⟨by have:=ctxB_iff.1 h.1;exact⟨this.1,by omega⟩,h.2⟩
def hasX (R F T:Nat ->Int)(n:Nat)(x:Lf):Prop:=hasK R F T x.r x.q x.q n=true
theorem hasX_key {R F T:Nat ->Int}{n:Nat}{x y:Lf}(h:lfK x=lfK y):hasX R F T n x↔hasX R F T n y:=by
 obtain⟨_,_,h3,h4⟩:=lfK_way h;unfold hasX;rw [h3,h4]
theorem lf_ext {x y:Lf}(h:Way x=Way y)(h0:0<x.p.length)(hd:(x.r,x.q)=(y.r,y.q))(hv:x.v=y.v):x=y:=by
 obtain⟨e1,e2⟩:=wayOf_inj h h0;have e3:=kd_inj e2;have e4:x.r=y.r:=congrArg Prod.fst hd;have e5:x.q=y.q:=congrArg Prod.snd hd;cases x;cases y;simp only at e1 e3 e4 e5 hv;subst e1 e3 e4 e5 hv;rfl
theorem Mk_mem {l:List Lf}(hd:Dis l l.length){z:List Ky}{d:Dt}{v:ByteArray}:Mk l l.length z d=some v↔∃x∈l,Way x=z/\ (x.r,x.q)=d/\ x.v=v:=by
 rw [Mk_val hd];constructor
 ·rintro⟨j,h1,h2,h3,h4⟩;exact⟨gL l j,gL_mem.2 ⟨j,h1,rfl⟩,h2,h3,h4⟩
 ·rintro⟨x,hx,h2,h3,h4⟩;obtain⟨j,hj,e⟩:=gL_mem.1 hx;exact⟨j,hj,by rw [e];exact h2,by rw [e];exact h3,by rw [e];exact h4⟩
theorem dis_mem {l:List Lf}(hd:Dis l l.length){x y:Lf}(hx:x∈l)(hy:y∈l)(h:x.r=y.r/\ x.q=y.q):x=y:=by
 obtain⟨i,hi,ei⟩:=gL_mem.1 hx;obtain⟨j,hj,ej⟩:=gL_mem.1 hy;rcases Nat.lt_trichotomy i j with e|e|e
 ·have:=hd j hj i e;exact absurd (by rw [ei,ej];exact h) this
 ·subst e;rw [<- ei,<- ej]
 ·have:=hd i hi j e;exact absurd (by rw [ei,ej];exact⟨h.1.symm,h.2.symm⟩) this
theorem sorted_lt {l:List Lf}(h:l.Pairwise (fun a b=>cmpL a b<0)){i j:Nat}(hij:i<j)(hj:j<l.length):cmpL (gL l i) (gL l j)<0:=by
 have:=List.pairwise_iff_getElem.1 h i j (by omega) hj hij;have e1:gL l i=l[i]:=by simp [gL,List.getD,show i<l.length by omega]
 have e2:gL l j=l[j]:=by simp [gL,List.getD,hj]
 rw [e1,e2];exact this
section
variable {R F T : Nat -> Int} {n : Nat} {la : List Lf} {R' F' T' : Nat -> Int} {n' : Nat} {lb : List Lf}
noncomputable def jn (R F T:Nat ->Int)(n:Nat)(la:List Lf)(R' F' T':Nat ->Int)(n':Nat)(lb:List Lf):List Lf:=jnL la lb (hasX R F T n) (hasX R' F' T' n')
theorem jn_sorted (h:StW R F T n la)(h':StW R' F' T' n' lb):(jn R F T n la R' F' T' n' lb).Pairwise (fun a b=>cmpL a b<0):=
 jnL_sorted (fun i j h1 h2=>h.2.2.1.lt j h1 h2) (fun i j h1 h2=>h'.2.2.1.lt j h1 h2) (fun x hx=>by
  obtain⟨j,hj,e⟩:=gL_mem.1 hx;have:=(h.2.2.1 j hj).2.1;rw [e] at this;exact this) (fun x y e=>hasX_key e)
theorem jn_from (z:Lf)(hz:z∈jn R F T n la R' F' T' n' lb):z∈la \/(z∈lb/\¬hasX R F T n z):=by
 rcases jnL_mem.1 hz with h|h
 ·exact .inl h.1
 ·exact .inr h
theorem jn_dis (h:StW R F T n la)(h':StW R' F' T' n' lb):Dis (jn R F T n la R' F' T' n' lb) (jn R F T n la R' F' T' n' lb).length:=fun i hi j hj hh=>by
 have hs:=sorted_lt (jn_sorted h h') hj hi;have hx:=jn_from _ (gL_mem.2 ⟨j,by omega,rfl⟩:gL (jn R F T n la R' F' T' n' lb) j∈_);have hy:=jn_from _ (gL_mem.2 ⟨i,hi,rfl⟩:gL (jn R F T n la R' F' T' n' lb) i∈_);have hA:∀z∈la,hasX R F T n z:=fun z hz=>by
  obtain⟨j,hj,e⟩:=gL_mem.1 hz;have:=(h.2.2.1 j hj).2.1;rw [e] at this;exact this
 have same:∀{x y:Lf},x.r=y.r/\ x.q=y.q ->(hasX R F T n x↔hasX R F T n y):=fun{x y} e=>by unfold hasX;rw [e.1,e.2]
 have Hc:∀z:Lf,¬cmpL z z<0:=fun z hz=>by have:=(cmpL_neg z z).1 hz;omega
 have e:gL (jn R F T n la R' F' T' n' lb) j=gL (jn R F T n la R' F' T' n' lb) i:=by
  rcases hx with hx|⟨hx,Hb⟩
  ·rcases hy with hy|⟨hy,Ha⟩
   ·exact dis_mem h.2.2.2 hx hy hh
   ·exact absurd ((same hh).1 (hA _ hx)) Ha
  ·rcases hy with hy|⟨hy,Ha⟩
   ·exact absurd ((same hh).2 (hA _ hy)) Hb
   ·exact dis_mem h'.2.2.2 hx hy hh
 rw [e] at hs;exact Hc _ hs
theorem jn_ok {U V X:Nat ->Int}{m:Nat}(h:StW R F T n la)(h':StW R' F' T' n' lb)(hu:∀z:Lf,hasX R F T n z \/hasX R' F' T' n' z ->hasX U V X m z):LvOk U V X m (jn R F T n la R' F' T' n' lb) (jn R F T n la R' F' T' n' lb).length:=fun i hi=>by
 have hs:=jn_sorted h h';have hx:=jn_from _ (gL_mem.2 ⟨i,hi,rfl⟩:gL (jn R F T n la R' F' T' n' lb) i∈_);refine⟨?_,?_,fun h0=>sorted_lt hs (by omega) hi⟩
 ·rcases hx with hx|⟨hx,_⟩
  ·obtain⟨j,hj,e⟩:=gL_mem.1 hx;rw [<- e];exact(h.2.2.1 j hj).1
  ·obtain⟨j,hj,e⟩:=gL_mem.1 hx;rw [<- e];exact(h'.2.2.1 j hj).1
 ·refine hu _ ?_;rcases hx with hx|⟨hx,_⟩
  ·obtain⟨j,hj,e⟩:=gL_mem.1 hx;refine .inl ?_;have:=(h.2.2.1 j hj).2.1;rw [e] at this;exact this
  ·obtain⟨j,hj,e⟩:=gL_mem.1 hx;refine .inr ?_;have:=(h'.2.2.1 j hj).2.1;rw [e] at this;exact this
theorem jn_mark (h:StW R F T n la)(h':StW R' F' T' n' lb)(z:List Ky)(d:Dt)(v:ByteArray):
  Mk (jn R F T n la R' F' T' n' lb) (jn R F T n la R' F' T' n' lb).length z d=some v↔(Mk la la.length z d=some v/\ (Mk lb lb.length z d=some v \/hasK R' F' T' d.1 d.2 d.2 n'=false)) \/(Mk lb lb.length z d=some v/\ hasK R F T d.1 d.2 d.2 n=false):=by
 have bf:∀b:Bool,¬b=true↔b=false:=fun b=>by cases b<;>simp
 rw [Mk_mem (jn_dis h h'),Mk_mem h.2.2.2,Mk_mem h'.2.2.2];constructor
 ·rintro⟨x,hx,h2,h3,h4⟩;have e1:x.r=d.1:=congrArg Prod.fst h3;have e2:x.q=d.2:=congrArg Prod.snd h3;rcases jnL_mem.1 hx with ⟨g1,g2⟩|⟨g1,g2⟩
  ·refine .inl ⟨⟨x,g1,h2,h3,h4⟩,g2.imp (fun g=>⟨x,g,h2,h3,h4⟩) (fun g=> ?_)⟩;unfold hasX at g;rw [e1,e2] at g;exact(bf _).1 g
  ·refine .inr ⟨⟨x,g1,h2,h3,h4⟩,?_⟩;unfold hasX at g2;rw [e1,e2] at g2;exact(bf _).1 g2
 ·rintro(⟨⟨x,hx,h2,h3,h4⟩,g⟩|⟨⟨x,hx,h2,h3,h4⟩,g⟩)
  ·have e1:x.r=d.1:=congrArg Prod.fst h3;have e2:x.q=d.2:=congrArg Prod.snd h3;have h0:0<x.p.length:=by
    obtain⟨j,hj,e⟩:=gL_mem.1 hx;have:=(h.2.2.1 j hj).1.1.1;rw [e] at this;omega
   refine⟨x,jnL_mem.2 (.inl ⟨hx,?_⟩),h2,h3,h4⟩;rcases g with ⟨y,hy,k2,k3,k4⟩|g
   ·have:x=y:=lf_ext (h2.trans k2.symm) h0 (h3.trans k3.symm) (h4.trans k4.symm);rw [this];exact .inl hy
   ·refine .inr ?_;unfold hasX;rw [e1,e2];exact(bf _).2 g
  ·have e1:x.r=d.1:=congrArg Prod.fst h3;have e2:x.q=d.2:=congrArg Prod.snd h3;refine⟨x,jnL_mem.2 (.inr ⟨hx,?_⟩),h2,h3,h4⟩;unfold hasX;rw [e1,e2];exact(bf _).2 g
end
open Go.Deep
theorem l3SameC (a a':Option Addr)(c c':Nat)(p p':List ByteArray)(fl fl':Bool)(r q r' q':Int)(v v':ByteArray)(w:World)(hc:p.length<=c)(hc':p'.length<=c')(hx:c<=9223372036854775807)(hx':c'<=9223372036854775807)(h:SSeg w a p)(h':SSeg w a' p'):
  Calls Tryz.prog 152 #[.agg #[.slice a p.length c,.bool fl,.int .i64 r,.int .i64 q,.string v],.agg #[.slice a' p'.length c',.bool fl',.int .i64 r',.int .i64 q',.string v']] w fun e w'=>e=.returned (.bool (yes ((⟨p,fl,r,q,v⟩:Lf)=⟨p',fl',r',q',v'⟩)))/\ Below w.heap.size w w':=by
 obtain⟨W,hW⟩:∃W,(w.alloc (.cells #[.slice a p.length c,.bool fl,.int .i64 r,.int .i64 q,.string v] 60)).alloc (.cells #[.slice a' p'.length c',.bool fl',.int .i64 r',.int .i64 q',.string v'] 60)=W:=⟨_,rfl⟩;have b0:Below w.heap.size w W:=by rw [<- hW];exact below2 _ _ _
 have k0:W.cell? ⟨w.heap.size,0,none⟩=some (.slice a p.length c):=by rw [<- hW];simp
 have k1:W.cell? ⟨w.heap.size,1,none⟩=some (.bool fl):=by rw [<- hW];simp
 have k2:W.cell? ⟨w.heap.size,2,none⟩=some (.int .i64 r):=by rw [<- hW];simp
 have k3:W.cell? ⟨w.heap.size,3,none⟩=some (.int .i64 q):=by rw [<- hW];simp
 have k4:W.cell? ⟨w.heap.size,4,none⟩=some (.string v):=by rw [<- hW];simp
 have l0:W.cell? ⟨w.heap.size+1,0,none⟩=some (.slice a' p'.length c'):=by rw [<- hW];simp
 have l1:W.cell? ⟨w.heap.size+1,1,none⟩=some (.bool fl'):=by rw [<- hW];simp
 have l2:W.cell? ⟨w.heap.size+1,2,none⟩=some (.int .i64 r'):=by rw [<- hW];simp
 have l3:W.cell? ⟨w.heap.size+1,3,none⟩=some (.int .i64 q'):=by rw [<- hW];simp
 have l4:W.cell? ⟨w.heap.size+1,4,none⟩=some (.string v'):=by rw [<- hW];simp
 have Hb:=hid b0;have HS:=hid (cmpSpec p p' a a' c c' W hc hc' hx hx' (h.below b0) (h'.below b0));have HE:Hid (yes ((⟨p,fl,r,q,v⟩:Lf)=⟨p',fl',r',q',v'⟩)=true↔cmpP p p'=0/\ fl=fl'/\ r=r'/\ q=q'/\ v=v'):=hid (by
  rw [cmpP_z];constructor
  ·intro e;have e:(⟨p,fl,r,q,v⟩:Lf)=⟨p',fl',r',q',v'⟩:=Classical.byContradiction fun hn=>by rw [yes_f hn] at e;cases e
   injection e with e1 e2 e3 e4 e5;exact⟨e1,e2,e3,e4,e5⟩
  ·rintro⟨rfl,rfl,rfl,rfl,rfl⟩;exact yes_t rfl)
 obtain⟨B,hB⟩:∃B,yes ((⟨p,fl,r,q,v⟩:Lf)=⟨p',fl',r',q',v'⟩)=B:=⟨_,rfl⟩;obtain⟨x,hx⟩:∃x,cmpP p p'=x:=⟨_,rfl⟩;rw [hB,hx] at HE;rw [hx] at HS;rw [hB];clear b0 h h' hB hx;go_enter Tryz.func152,Tryz.ntmps152;go_wp2_with fail;try rw [hW]
 clear hW;refine HS.out.mono ?_;rintro e w1 ⟨rfl,k,hk⟩;have Hd:w1.cell? ⟨w.heap.size,1,none⟩=some (.bool fl):=by rw [hk];exact k1
 have He:w1.cell? ⟨w.heap.size,2,none⟩=some (.int .i64 r):=by rw [hk];exact k2
 have Hf:w1.cell? ⟨w.heap.size,3,none⟩=some (.int .i64 q):=by rw [hk];exact k3
 have Hg:w1.cell? ⟨w.heap.size,4,none⟩=some (.string v):=by rw [hk];exact k4
 have Hh:w1.cell? ⟨w.heap.size+1,1,none⟩=some (.bool fl'):=by rw [hk];exact l1
 have Hi:w1.cell? ⟨w.heap.size+1,2,none⟩=some (.int .i64 r'):=by rw [hk];exact l2
 have Hj:w1.cell? ⟨w.heap.size+1,3,none⟩=some (.int .i64 q'):=by rw [hk];exact l3
 have Hk:w1.cell? ⟨w.heap.size+1,4,none⟩=some (.string v'):=by rw [hk];exact l4
 have Hc:Hid (Below w.heap.size w w1):=hid (by rw [hk];exact⟨Hb.out.os,Hb.out.tape,Hb.out.output,Hb.out.size,Hb.out.block⟩);clear hk k0 k1 k2 k3 k4 l0 l1 l2 l3 l4 HS Hb;have Ha:¬(x=0/\ fl=fl'/\ r=r'/\ q=q'/\ v=v') ->Hid (B=false):=fun hn=>hid (by
  cases hb:B with
  | false=>rfl
  | true=>exact absurd (HE.out.1 hb) hn)
 by_cases h0:x=0
 ·have e0:(x==0)=true:=by simp [h0]
  by_cases h1:fl=fl'
  ·have e1:(fl==fl')=true:=by simp [h1]
   have ED:∀w:World,(binOp .eql 58 (.agg #[.int .i64 r,.int .i64 q]) (.agg #[.int .i64 r',.int .i64 q'])).run Tryz.prog w=.ok (.bool (r==r' && q==q')) w:=fun w=>eqlDot r q r' q' w;by_cases h2:r=r'/\ q=q'
   ·have e2:(r==r' && q==q')=true:=by simp [h2]
    rw [e2] at ED;by_cases h3:v=v'
    ·have e3:(v.toList==v'.toList)=true:=by simp [h3]
     have HG:Hid (B=true):=hid (HE.out.2 ⟨h0,h1,h2.1,h2.2,h3⟩);clear HE Ha e2 h0 h1 h2 h3;go_wp2_with fail;go_ret;exact⟨ret_b HG.out.symm,Hc.out⟩
    ·have e3:(v.toList==v'.toList)=false:=by simpa using fun h=>h3 (toList_inj h)
     have HG:=Ha (fun h=>h3 h.2.2.2.2);clear HE Ha e2 h0 h1 h2 h3;go_wp2_with fail;go_ret;exact⟨ret_b HG.out.symm,Hc.out⟩
   ·have e2:(r==r' && q==q')=false:=by
     cases hb:(r==r' && q==q') with
     | false=>rfl
     | true=>exact absurd (by simpa using hb) h2
    rw [e2] at ED;have HG:=Ha (fun h=>h2 ⟨h.2.2.1,h.2.2.2.1⟩);clear HE Ha e2 h0 h1 h2;go_wp2_with fail;go_ret;exact⟨ret_b HG.out.symm,Hc.out⟩
  ·have e1:(fl==fl')=false:=by simpa using h1
   have HG:=Ha (fun h=>h1 h.2.1);clear HE Ha h0 h1;go_wp2_with fail;go_ret;exact⟨ret_b HG.out.symm,Hc.out⟩
 ·have e0:(x==0)=false:=by simpa using h0
  have HG:=Ha (fun h=>h0 h.1);clear HE Ha h0;go_wp2_with fail;go_ret;exact⟨ret_b HG.out.symm,Hc.out⟩
theorem l3FindC (a a':Option Addr)(c c':Nat)(l:List Lf)(p':List ByteArray)(fl':Bool)(r' q':Int)(v':ByteArray)(w:World)(hl:l.length<=1048576)(Hi:p'.length<=c')(Hk:c'<=9223372036854775807)(h:LCap w a l)(h':SSeg w a' p'):
  Calls Tryz.prog 126 #[.slice a l.length c,.agg #[.slice a' p'.length c',.bool fl',.int .i64 r',.int .i64 q',.string v']] w fun e w'=>(∃i:Int,e=.returned (.int .i64 i)/\ (0<=i↔(⟨p',fl',r',q',v'⟩:Lf)∈l))/\ Below w.heap.size w w':=by
 obtain⟨W,hW⟩:∃W,w.alloc (.cells #[.slice a' p'.length c',.bool fl',.int .i64 r',.int .i64 q',.string v'] 60)=W:=⟨_,rfl⟩;have b0:Below w.heap.size w W:=by rw [<- hW];exact zO _ _
 have X0:Bx5 W w.heap.size (.slice a' p'.length c') (.bool fl') (.int .i64 r') (.int .i64 q') (.string v'):=by rw [<- hW];exact Bx5.new _ _ _ _ _ _ _
 have HX:=hid X0;have Hf:=hid b0;have HL:=hid (h.below b0);have HP:=hid (h'.below b0);have HC:=hid (And.intro Hi Hk);clear X0 b0 h h' Hi Hk;go_enter Tryz.func126,Tryz.ntmps126;go_wp2_with fail;try rw [hW]
 clear hW;go_loopw [5] (fun i wr=>∃j:Nat,j<=l.length/\ i=.int .i64 j/\ Hid (Below W.heap.size W wr)/\ Hid (∀t,t<j ->gL l t≠⟨p',fl',r',q',v'⟩)) (fun i _=>l.length - (intOf i).toNat);case atStart=>exact⟨0,Nat.zero_le _,rfl,hid zI,hid (fun t ht=>by omega)⟩
 case round=>
  obtain⟨j,hj,rfl,HB,HN⟩:=hrel;by_cases He:j<l.length
  ·have i1:(0:Int)<=(j:Int):=Int.natCast_nonneg _;have i2:(j:Int)<(l.length:Int):=by omega
   obtain⟨b,Ha,rfl,hb,Hj⟩:=(HL.out.below HB.out).resolve_left (by omega);obtain⟨pa,pc,⟨c0,d0⟩,sg,c1,c2,c3,c4⟩:=Hj j He;have Hb:=hid (fun w1 (b1:Below wr.heap.size wr w1)=>l3SameC pa a' pc c' (gL l j).p p' (gL l j).fl fl' (gL l j).r (gL l j).q r' q' (gL l j).v v' w1 d0.1 HC.out.1 d0.2 HC.out.2 (sg.below b1) ((HP.out.below HB.out).below b1));have Hm:Hid (gL l j=⟨(gL l j).p,(gL l j).fl,(gL l j).r,(gL l j).q,(gL l j).v⟩):=hid rfl;obtain⟨y,hy⟩:∃y,gL l j=y:=⟨_,rfl⟩;have HY:=hid hy;rw [hy] at c0 c1 c2 c3 c4 Hb;obtain⟨yp,yf,yr,yq,yv⟩:=y;dsimp only at c0 c1 c2 c3 c4 Hb;obtain⟨B,hB⟩:∃B,yes ((⟨yp,yf,yr,yq,yv⟩:Lf)=⟨p',fl',r',q',v'⟩)=B:=⟨_,rfl⟩;have Hh:=hid hB;rw [hB] at Hb;have X1:=HX.out.below HB.out HX.out.lt;have Hc:Hid (∀w',Below wr.heap.size wr w' ->(w'.cell? ⟨b,Ha+j*5,none⟩=some (.slice pa yp.length pc)/\ w'.cell? ⟨b,Ha+j*5+1,none⟩=some (.bool yf)/\ w'.cell? ⟨b,Ha+j*5+2,none⟩=some (.int .i64 yr)/\ w'.cell? ⟨b,Ha+j*5+3,none⟩=some (.int .i64 yq)/\ w'.cell? ⟨b,Ha+j*5+4,none⟩=some (.string yv)/\ w'.cell? ⟨w.heap.size,0,none⟩=some (.slice a' p'.length c')/\ w'.cell? ⟨w.heap.size,1,none⟩=some (.bool fl')/\ w'.cell? ⟨w.heap.size,2,none⟩=some (.int .i64 r')/\ w'.cell? ⟨w.heap.size,3,none⟩=some (.int .i64 q')/\ w'.cell? ⟨w.heap.size,4,none⟩=some (.string v'))):=hid (fun w' b1=>by
    have q:=fun o=>b1.cell (p:=⟨b,o,none⟩) hb;have X2:=X1.below b1 X1.lt;exact⟨(q _).trans c0,(q _).trans c1,(q _).trans c2,(q _).trans c3,(q _).trans c4,X2.c0,X2.c1,X2.c2,X2.c3,X2.c4⟩)
   clear hy hB Hj sg X1;go_wp2_with fail;refine zR (S:=fun w'=>w'.cell? ⟨b,Ha+j*5,none⟩=some (.slice pa yp.length pc)/\ w'.cell? ⟨b,Ha+j*5+1,none⟩=some (.bool yf)/\ w'.cell? ⟨b,Ha+j*5+2,none⟩=some (.int .i64 yr)/\ w'.cell? ⟨b,Ha+j*5+3,none⟩=some (.int .i64 yq)/\ w'.cell? ⟨b,Ha+j*5+4,none⟩=some (.string yv)/\ w'.cell? ⟨w.heap.size,0,none⟩=some (.slice a' p'.length c')/\ w'.cell? ⟨w.heap.size,1,none⟩=some (.bool fl')/\ w'.cell? ⟨w.heap.size,2,none⟩=some (.int .i64 r')/\ w'.cell? ⟨w.heap.size,3,none⟩=some (.int .i64 q')/\ w'.cell? ⟨w.heap.size,4,none⟩=some (.string v')) (Hc.out _ zI.drew) (fun qh=> ?_);clear c0 c1 c2 c3 c4;refine tZ 0 12 ?_;refine tZ 1 13 ?_;refine tZ 2 14 ?_;refine tZ 3 15 ?_;refine tZ 4 16 ?_;refine cZ 5 ?_;intro K hK;go_simp;refine(Hb.out _ zI.drew).mono ?_;rintro e w1 ⟨rfl,b1⟩;have Hd:Below wr.heap.size wr w1:=⟨b1.os,b1.tape,b1.output,b1.size,b1.block⟩;refine hK.out _ _ (Hc.out _ Hd) (fun qh=> ?_);clear hK K;try simp only [zP]
   refine zD ?_;have Hg:=hid (HB.out.trans (Hd.mono HB.out.size));clear qh b1 Hd Hc Hb;cases B with
   | true=>
    have HM:Hid ((⟨p',fl',r',q',v'⟩:Lf)∈l):=hid (by
     have e:(⟨yp,yf,yr,yq,yv⟩:Lf)=⟨p',fl',r',q',v'⟩:=Classical.byContradiction fun hn=>by have:=Hh.out;rw [yes_f hn] at this;cases this
     rw [<- e,<- HY.out];exact gL_mem.2 ⟨j,He,rfl⟩)
    go_wp2_with fail;go_ret;exact⟨⟨(j:Int),rfl,⟨fun _=>HM.out,fun _=>i1⟩⟩,keepS Hf.out Hg.out⟩
   | false=>
    have Hl:Hid (∀t,t<j+1 ->gL l t≠⟨p',fl',r',q',v'⟩):=hid (fun t ht=>by
     by_cases e:t=j
     ·rw [e,HY.out];intro e2;have:=Hh.out;rw [yes_t e2] at this;cases this
     ·exact HN.out t (by omega))
    clear HN HB;go_wp2_with fail;go_roundw;case rel=>exact⟨j+1,He,by go_num,Hg,Hl⟩
    case measure=>simp [intOf];omega
  ·obtain rfl:j=l.length:=by omega
   have HM:Hid (¬(⟨p',fl',r',q',v'⟩:Lf)∈l):=hid (fun hm=>by
    obtain⟨t,ht,e⟩:=gL_mem.1 hm;exact HN.out t ht e)
   go_wp2_with fail;go_ret;exact⟨⟨-1,rfl,⟨fun h=>by omega,fun h=>absurd h HM.out⟩⟩,keepS Hf.out HB.out⟩
theorem LC.cast {w:World}{lo:Nat}{v:Value}{l:List Lf}{P Q P' Q':Nat ->Nat}(h:LC w lo v l P Q)(e:∀i,i<l.length ->P' i=P i/\ Q' i=Q i):LC w lo v l P' Q':=by
 refine⟨?_,fun i hi=> ?_⟩
 ·have:(List.range (l.length*5)).map (lCp l P' Q')=(List.range (l.length*5)).map (lCp l P Q):=List.map_congr_left fun j hj=>by
   have Ha:j<l.length*5:=by simpa using hj
   obtain⟨e1,e2⟩:=e (j/5) (by omega);unfold lCp;rw [e1,e2]
  rw [this];exact h.row
 ·obtain⟨e1,e2⟩:=e i hi;rw [e1,e2];exact h.pt i hi
theorem insL_at {y:Lf}:∀{ls:List Lf} {k:Nat},k<=ls.length ->(∀i,i<k ->cmpL (gL ls i) y<0) ->(k<ls.length ->¬cmpL (gL ls k) y<0) ->insL y ls=ls.take k++y::ls.drop k
 | [],k,hk,_,_=>by
  obtain rfl:k=0:=by simpa using hk
  simp [insL]
 | x::r,0,_,_,h2=>by
  have h2:=h2 (by simp);have e:gL (x::r) 0=x:=rfl;rw [e] at h2;simp only [insL];rw [if_neg (by rw [yes_f h2];simp)];simp
 | x::r,k+1,hk,h1,h2=>by
  have e:gL (x::r) 0=x:=rfl;have h0:=h1 0 (by omega);rw [e] at h0;simp only [insL];rw [if_pos (yes_t h0),insL_at (ls:=r) (k:=k) (by simpa using hk) (fun i hi=>h1 (i+1) (by omega)) (fun hh=>h2 (by simp;omega))];simp
theorem LC.cell {w:World}{lo g n cap:Nat}{l:List Lf}{P Q:Nat ->Nat}(h:LC w lo (.slice (some ⟨g,0,none⟩) n cap) l P Q)(hn:n=l.length){i:Nat}(hi:i<l.length):
  w.cell? ⟨g,i*5,none⟩=some (.slice (some ⟨P i,0,none⟩) (gL l i).p.length (Q i))/\ w.cell? ⟨g,i*5+1,none⟩=some (.bool (gL l i).fl)/\ w.cell? ⟨g,i*5+2,none⟩=some (.int .i64 (gL l i).r)/\ w.cell? ⟨g,i*5+3,none⟩=some (.int .i64 (gL l i).q)/\ w.cell? ⟨g,i*5+4,none⟩=some (.string (gL l i).v):=by
 subst hn;have hw:=own_wrF h.row;obtain⟨e0,e1,e2,e3,e4⟩:=lCp0 l P Q i;exact⟨by rw [hw.cell (by omega),e0],by rw [hw.cell (by omega),e1],by rw [hw.cell (by omega),e2],by rw [hw.cell (by omega),e3],by rw [hw.cell (by omega),e4]⟩
theorem LC.seg {w:World}{lo:Nat}{v:Value}{l:List Lf}{P Q:Nat ->Nat}(h:LC w lo v l P Q){i:Nat}(hi:i<l.length):SSeg w (some ⟨P i,0,none⟩) (gL l i).p:=by
 obtain⟨e1,e2,e3,e4,e5⟩:=h.pt i hi;exact .inr ⟨P i,0,rfl,e2,fun t ht=>by rw [Nat.zero_add];exact e4.cell ht⟩
theorem LC.lt {w:World}{lo:Nat}{v:Value}{l:List Lf}{P Q:Nat ->Nat}(h:LC w lo v l P Q):∀g,v.ownBlock=some g ->lo<=g/\ g<w.heap.size:=fun g hg=>h.row.lt g hg
theorem LC.low {w:World}{lo lo':Nat}{v:Value}{l:List Lf}{P Q:Nat ->Nat}(h:LC w lo v l P Q)(hl:lo'<=lo):LC w lo' v l P Q:=⟨own_weak5 h.row hl,fun i hi=>by obtain⟨e1,e2⟩:=h.pt i hi;exact⟨Nat.le_trans hl e1,e2⟩⟩
theorem LC.cap {w:World}{lo g n cap:Nat}{l:List Lf}{P Q:Nat ->Nat}(h:LC w lo (.slice (some ⟨g,0,none⟩) n cap) l P Q):l.length<=cap/\ cap<=9223372036854775807:=by
 rcases h.row.2 with ⟨h0,_⟩|⟨g',Hb,Hc,hv,Ha,hb,h1,h2,h3,h4⟩
 ·cases h0
 ·injection hv with e1 e2 e3;unfold maxLen at h2;omega
theorem LC.rest {w:World}{lo:Nat}{v:Value}{l:List Lf}{P Q:Nat ->Nat}(h:LC w lo v l P Q)(hlo:lo<=w.heap.size)(l':List Lf)(P' Q':Nat ->Nat)(g k m c off:Nat)(hk:k+m=l'.length)(hl:l.length+m<=1048576)(hoff:0<m ->off=k*5)(hC:∀j,j<l'.length*5 ->w.cell? ⟨g,j,none⟩=some (lCp l' P' Q' j))(hp:∀i,i<l'.length ->lo<=P' i/\ P' i<w.heap.size/\ some (P' i)≠v.ownBlock/\ Wr w (P' i) 9 (gL l' i).p.length (fun t=> .string (gS (gL l' i).p t))/\ (gL l' i).p.length<=Q' i/\ Q' i<=9223372036854775807)(hv:v≠.slice none 0 0):
  ∃q' Ha w3,(Builtin.append_ #[23,23] 23 #[v,.slice (some ⟨g,off,none⟩) m c]).run Tryz.prog w=.ok (.slice (some ⟨q',0,none⟩) (l.length+m) Ha) w3/\
   LC w3 lo (.slice (some ⟨q',0,none⟩) (l.length+m) Ha) (l++l'.drop k) (fun i=>if i<l.length then P i else P' (k+(i - l.length))) (fun i=>if i<l.length then Q i else Q' (k+(i - l.length)))/\ Gr w w3 v (.slice (some ⟨q',0,none⟩) (l.length+m) Ha):=by
 obtain⟨i0,hi,Hk,Hl,Hm⟩:=info_parts infoLeaf;have Hc:∀j,(lCp l' P' Q' j).oneCell'=true:=fun j=>by unfold lCp;split;rfl;split;rfl;split;rfl;split;rfl;rfl
 obtain⟨v',w3,hr,g2,g3,g4,g5⟩:=run_append_own_at (P:=Tryz.prog) w lo 23 23 60 i0 _ 5 64 Tryz.underlying23 hi Hk Hl Hm rfl (by decide) v l.length _ h.row ⟨g,off,none⟩ m c ((List.range (m*5)).map fun j=>lCp l' P' Q' (k*5+j)) (by simp) (fun j u hj=>by
  simp only [List.getElem?_map,Option.map_eq_some_iff] at hj;obtain⟨q,hq,rfl⟩:=hj;have Hj:j<m*5:=by
   rcases Nat.lt_or_ge j (m*5) with h|h
   ·exact h
   ·rw [List.getElem?_eq_none (by simpa using h)] at hq;cases hq
  rw [List.getElem?_range Hj] at hq;have hq:=Option.some.inj hq;rw [<- hq,addr_addP,hoff (by omega)];exact hC _ (by omega)) (fun u hu=>by
  obtain⟨j,hj,rfl⟩:=List.mem_map.1 hu;exact Hc _) (by unfold maxLen;omega) (by omega) hlo
 rcases g2.2 with ⟨Hd,h0⟩|⟨q',Ha,Hn,Hd,r⟩
 ·exact absurd (g4.1 Hd).1 hv
 rw [Hd] at hr g2 g5;have Hh:some q'=v.ownBlock \/q'=w.heap.size:=by
  rcases g5 with g5|g5
  ·exact .inl (by simpa [Value.ownBlock] using g5)
  ·exact .inr (by simpa [Value.ownBlock] using g5)
 have Ho:=g3.size;have gr:Gr w w3 v (.slice (some ⟨q',0,none⟩) (l.length+m) Ha):=by
  refine⟨g3,?_⟩;rcases Hh with e|e
  ·exact .inl e
  ·exact .inr ⟨q',rfl,by omega⟩
 have Hg:(l++l'.drop k).length=l.length+m:=by simp;omega
 have Hb:∀b,some b≠v.ownBlock ->b<w.heap.size ->some b≠(Value.slice (some ⟨q',0,none⟩) (l.length+m) Ha).ownBlock:=fun b hb1 hb2 e=>by
  have e:b=q':=by simpa [Value.ownBlock] using e
  rcases Hh with e2|e2
  ·exact hb1 (by rw [e];exact e2)
  ·omega
 have He:∀i,i<l.length ->gL (l++l'.drop k) i=gL l i:=fun i hi=>by simp [gL,List.getD,List.getElem?_append_left hi]
 have Hf:∀i,l.length<=i ->gL (l++l'.drop k) i=gL l' (k+(i - l.length)):=fun i hi=>by simp [gL,List.getD,List.getElem?_append_right hi]
 refine⟨q',Ha,w3,hr,⟨?_,fun i hi=> ?_⟩,gr⟩
 ·rw [Hg];have ec:(List.range ((l.length+m)*5)).map (lCp (l++l'.drop k) (fun i=>if i<l.length then P i else P' (k+(i - l.length))) (fun i=>if i<l.length then Q i else Q' (k+(i - l.length))))=(List.range (l.length*5)).map (lCp l P Q)++(List.range (m*5)).map fun j=>lCp l' P' Q' (k*5+j):=by
   rw [Nat.add_mul,List.range_add,List.map_append,List.map_map];congr 1
   ·refine List.map_congr_left fun j hj=> ?_;have Hi:j<l.length*5:=by simpa using hj
    unfold lCp;rw [He (j/5) (by omega)];dsimp only;rw [if_pos (show j/5<l.length by omega),if_pos (show j/5<l.length by omega)]
   ·refine List.map_congr_left fun j hj=> ?_;have Hi:j<m*5:=by simpa using hj
    simp only [Function.comp];unfold lCp;rw [Hf ((l.length*5+j)/5) (by omega)];dsimp only;rw [if_neg (show¬(l.length*5+j)/5<l.length by omega),if_neg (show¬(l.length*5+j)/5<l.length by omega),show k+((l.length*5+j)/5 - l.length)=(k*5+j)/5 by omega,show (l.length*5+j)%5=(k*5+j)%5 by omega]
  rw [ec];exact g2
 ·by_cases e:i<l.length
  ·simp only [if_pos e];rw [He i e];obtain⟨e1,e2,e3,e4⟩:=h.pt i e;exact⟨e1,by omega,Hb _ e3 e2,e4.1.same (g3.block _ e2 e3),e4.2⟩
  ·simp only [if_neg e];rw [Hf i (by omega)];obtain⟨e1,e2,e3,e4⟩:=hp (k+(i - l.length)) (by rw [Hg] at hi;omega);exact⟨e1,by omega,Hb _ e3 e2,e4.1.same (g3.block _ e2 e3),e4.2⟩
theorem own_eq {q n c k:Nat}(h:(Value.slice (some ⟨q,0,none⟩) n c).ownBlock=some k):q=k:=by simpa [Value.ownBlock] using h
theorem l3PutC (g cap:Nat)(l:List Lf)(P Q:Nat ->Nat)(w:World)(lo pb pc:Nat)(yp:List ByteArray)(yf:Bool)(yr yq:Int)(yv:ByteArray)(h:LC w lo (.slice (some ⟨g,0,none⟩) l.length cap) l P Q)(hlo:lo<=w.heap.size)(hl:l.length<=100000)(hpl:∀i,i<l.length ->(gL l i).p.length<=1048576)(hyl:yp.length<=1048576)(H9:lo<=pb/\ pb<w.heap.size)(hyw:Wr w pb 9 yp.length (fun t=> .string (gS yp t)))(H8:yp.length<=pc/\ pc<=9223372036854775807):
  Calls Tryz.prog 50 #[.slice (some ⟨g,0,none⟩) l.length cap,.agg #[.slice (some ⟨pb,0,none⟩) yp.length pc,.bool yf,.int .i64 yr,.int .i64 yq,.string yv]] w fun e w'=>(∃g' cap' P' Q',e=.returned (.slice (some ⟨g',0,none⟩) (l.length+1) cap')/\ w.heap.size<=g'/\ LC w' lo (.slice (some ⟨g',0,none⟩) (l.length+1) cap') (insL ⟨yp,yf,yr,yq,yv⟩ l) P' Q')/\ Below w.heap.size w w':=by
 obtain⟨W,hW⟩:∃W,(w.alloc (.cells #[.slice (some ⟨pb,0,none⟩) yp.length pc,.bool yf,.int .i64 yr,.int .i64 yq,.string yv] 60)).alloc (.cells #[] 60)=W:=⟨_,rfl⟩;have b0:Below w.heap.size w W:=by rw [<- hW];exact below2 _ _ _
 have X0:Bx5 W w.heap.size (.slice (some ⟨pb,0,none⟩) yp.length pc) (.bool yf) (.int .i64 yr) (.int .i64 yq) (.string yv):=by rw [<- hW];exact(Bx5.new _ _ _ _ _ _ _).up _
 have zW:W.heap.size=w.heap.size+2:=by rw [<- hW];simp
 have H3:LC W w.heap.size (.slice (some ⟨w.heap.size+1,0,none⟩) 0 0) [] P Q:=by
  refine⟨?_,fun i hi=>by simp at hi⟩;have:=World.ownsRow_lit (base:=w.heap.size) (e:=60) (size:=5) (w.alloc (.cells #[.slice (some ⟨pb,0,none⟩) yp.length pc,.bool yf,.int .i64 yr,.int .i64 yq,.string yv] 60)) #[] 0 (by simp) (by unfold maxLen;omega) rfl;rw [hW] at this;simpa using this
 have hg:=(h.lt g rfl).2;have HH:=hid h;have HX:=hid X0;have H2:=hid hyw;have HY:=hid (And.intro H9 H8);have Gg:=hid hpl;have Ht:=hid hlo;have Hx:=hid H3;have Gj:=h.cap;have H1:Hid (∀i,i<l.length ->lo<=P i/\ P i<w.heap.size):=hid (fun i hi=>⟨(h.pt i hi).1,(h.pt i hi).2.1⟩);have Gc:=hid hg;have Gh:=hid zW;have Ga:=hid b0;clear h b0 X0 zW H3 hg H9 hyw H8 hpl hlo;have Gd:Hid (∀wr q k qc,Gr W wr (.slice (some ⟨w.heap.size+1,0,none⟩) 0 0) (.slice (some ⟨q,0,none⟩) k qc) ->Below w.heap.size w wr/\ Bx5 wr w.heap.size (.slice (some ⟨pb,0,none⟩) yp.length pc) (.bool yf) (.int .i64 yr) (.int .i64 yq) (.string yv)/\ w.heap.size<q):=hid (fun wr q k qc hG=>by
  have hz:=Gh.out;have hs:=hG.g.size;have e:=hG.g.block w.heap.size (by omega) (fun e=>by have:=own_eq e.symm;omega);refine⟨Ga.out.trans (hG.below (by omega) (fun k hk=>by have:=own_eq hk;omega)),?_,?_⟩
  ·have q:=fun o=>World.cell?_of_block (w:=W) (w':=wr) (a:=⟨w.heap.size,o,none⟩) e;exact⟨(q 0).trans HX.out.c0,(q 1).trans HX.out.c1,(q 2).trans HX.out.c2,(q 3).trans HX.out.c3,(q 4).trans HX.out.c4,fun i=>(World.frozen?_of_block (a:=⟨w.heap.size,i,none⟩) e).trans (HX.out.f i),by have:=HX.out.lt;omega⟩
  ·rcases hG.l with h1|⟨j,h1,h2⟩
   ·have:=own_eq (k:=w.heap.size+1) h1;omega
   ·have:=own_eq h1;omega)
 have Hz:Hid (∀w1 k q qc,k<=l.length ->LC w1 lo (.slice (some ⟨q,0,none⟩) k qc) (l.take k) P Q ->Below w.heap.size w w1 ->w.heap.size<q ->∃q3 c3 w3,(Builtin.append_ #[23,23] 23 #[.slice (some ⟨q,0,none⟩) k qc,.slice (some ⟨w1.heap.size,0,none⟩) 1 1]).run Tryz.prog (w1.alloc (.cells #[.slice (some ⟨pb,0,none⟩) yp.length pc,.bool yf,.int .i64 yr,.int .i64 yq,.string yv] 60))=.ok (.slice (some ⟨q3,0,none⟩) (k+1) c3) w3/\ Below w.heap.size w w3/\ w.heap.size<=q3/\
   ∀off c',(k<l.length ->off=k*5) ->∃q4 c4 w4 P' Q',(Builtin.append_ #[23,23] 23 #[.slice (some ⟨q3,0,none⟩) (k+1) c3,.slice (some ⟨g,off,none⟩) (l.length - k) c']).run Tryz.prog w3=.ok (.slice (some ⟨q4,0,none⟩) (l.length+1) c4) w4/\ Below w.heap.size w w4/\ w.heap.size<=q4/\ LC w4 lo (.slice (some ⟨q4,0,none⟩) (l.length+1) c4) (l.take k++(⟨yp,yf,yr,yq,yv⟩:Lf)::l.drop k) P' Q'):=hid (fun w1 k q qc hk hLC hB hq=>by
  have Ho:(l.take k).length=k:=by simp;omega
  have hY:=HY.out;have Gi:=hB.size;obtain⟨q3,c3,w3,e1,e2,e3⟩:=hLC.app zI (by have:=Ht.out;omega) (by rw [Ho];omega) ⟨yp,yf,yr,yq,yv⟩ pb pc hY.1.1 (by omega) (fun e=>by have:=own_eq e.symm;omega) (H2.out.same (hB.block pb hY.1.2)) hY.2;rw [Ho] at e1 e2 e3;have b3:Below w.heap.size w w3:=hB.trans (e3.below Gi (fun k hk=>by have:=own_eq hk;omega));have Hr:w.heap.size<=q3:=by
   rcases e3.l with h1|⟨j,h1,h2⟩
   ·have:=own_eq (k:=q) h1;omega
   ·have:=own_eq h1;omega
  refine⟨q3,c3,w3,e1,b3,Hr,fun off c' hoff=> ?_⟩;have H4:=HH.out.below b3;have Gm:=own_wrF H4.row;have H7:(l.take k++[(⟨yp,yf,yr,yq,yv⟩:Lf)]).length=k+1:=by simp;omega
  obtain⟨q4,c4,w4,f1,f2,f3⟩:=e2.rest (by have:=b3.size;have:=Ht.out;omega) l P Q g k (l.length - k) c' off (by omega) (by rw [H7];omega) (fun hm=>hoff (by omega)) (fun j hj=>Gm.cell hj) (fun i hi=>by
   obtain⟨x1,x2,x3,x4⟩:=H4.pt i hi;have:=H1.out i hi;exact⟨x1,x2,fun e=>by have:=own_eq e.symm;omega,x4⟩) (by simp)
  rw [H7,show k+1+(l.length - k)=l.length+1 by omega] at f1 f2 f3;have Hi:w.heap.size<=q4:=by
   rcases f3.l with h1|⟨j,h1,h2⟩
   ·have:=own_eq (k:=q3) h1;omega
   ·have:=own_eq h1;have:=b3.size;omega
  rw [List.append_assoc,List.singleton_append] at f2;exact⟨q4,c4,w4,_,_,f1,b3.trans (f3.below b3.size (fun k hk=>by have:=own_eq hk;omega)),Hi,f2⟩)
 go_enter Tryz.func50,Tryz.ntmps50;go_wp2_with fail;try rw [hW]
 clear hW;go_loopw [5,6] (fun b' i wr=>∃(k q qc:Nat),k<=l.length/\ i=.int .i64 k/\ b'=.slice (some ⟨q,0,none⟩) k qc/\ Hid (∀j,j<k ->cmpL (gL l j) ⟨yp,yf,yr,yq,yv⟩<0)/\ Hid (LC wr lo (.slice (some ⟨q,0,none⟩) k qc) (l.take k) P Q)/\ Hid (Gr W wr (.slice (some ⟨w.heap.size+1,0,none⟩) 0 0) (.slice (some ⟨q,0,none⟩) k qc))) (fun _ i _=>l.length - (intOf i).toNat);case atStart=>exact⟨0,_,0,Nat.zero_le _,rfl,rfl,hid (fun j hj=>by omega),hid (by simpa using Hx.out.low Ht.out),hid (Gr.refl _ _)⟩
 case round=>
  obtain⟨k,q,qc,hk,rfl,rfl,HJ,HL,HG⟩:=hrel;have Gl:=HL.out.cap;have Ho:(l.take k).length=k:=by simp;omega
  rw [Ho] at Gl;have i1:(0:Int)<=(k:Int):=Int.natCast_nonneg _;obtain⟨bR,xR,hq⟩:=Gd.out wr q k qc HG.out;have Hj:=hid bR;have Hu:=hid xR;have HQ:=hid hq;have H0:=hid Ho;clear bR xR hq Ho;by_cases Hl:k<l.length
  ·have i2:(k:Int)<(l.length:Int):=by omega
   have Hw:=HH.out.below Hj.out;obtain⟨c0,c1,c2,c3,c4⟩:=Hw.cell rfl Hl;obtain⟨p1,p2,p3,p4,p5⟩:=Hw.pt k Hl;have Hq:=hid (fun w1 (b1:Below wr.heap.size wr w1)=>l3Before (some ⟨P k,0,none⟩) (some ⟨pb,0,none⟩) (Q k) pc (gL l k).p yp (gL l k).fl yf (gL l k).r (gL l k).q yr yq (gL l k).v yv w1 (Gg.out k Hl) hyl p5.1 HY.out.2.1 p5.2 HY.out.2.2 ((Hw.seg Hl).below b1) (.inr ⟨pb,0,rfl,by have h1:=HY.out.1.2;have h2:=Hj.out.size;have h3:=b1.size;omega,fun t ht=>by rw [Nat.zero_add];exact((H2.out.same (Hj.out.block pb HY.out.1.2)).same (b1.block pb (by have h1:=HY.out.1.2;have h2:=Hj.out.size;omega))).cell ht⟩));have Hp:Hid (∀w1,Below wr.heap.size wr w1 ->∃q3 c3 w3,(Builtin.append_ #[23,23] 23 #[.slice (some ⟨q,0,none⟩) k qc,.slice (some ⟨w1.heap.size,0,none⟩) 1 1]).run Tryz.prog (w1.alloc (.cells #[.slice (some ⟨P k,0,none⟩) (gL l k).p.length (Q k),.bool (gL l k).fl,.int .i64 (gL l k).r,.int .i64 (gL l k).q,.string (gL l k).v] 60))=.ok (.slice (some ⟨q3,0,none⟩) (k+1) c3) w3/\ LC w3 lo (.slice (some ⟨q3,0,none⟩) (k+1) c3) (l.take (k+1)) P Q/\ Gr w1 w3 (.slice (some ⟨q,0,none⟩) k qc) (.slice (some ⟨q3,0,none⟩) (k+1) c3)):=hid (fun w1 b1=>by
    obtain⟨q3,c3,w3,e1,e2,e3⟩:=HL.out.app b1 (by have:=Ht.out;have:=Hj.out.size;omega) (by rw [H0.out];omega) (gL l k) (P k) (Q k) p1 (by have:=b1.size;omega) (fun e=>by have:=own_eq e.symm;have h1:=(H1.out k Hl).2;have h2:=HQ.out;omega) (p4.same (b1.block _ p2)) p5;rw [H0.out] at e1 e2 e3;refine⟨q3,c3,w3,e1,?_,e3⟩;have et:l.take (k+1)=l.take k++[gL l k]:=by rw [List.take_add_one];simp [gL,List.getD,Hl]
    rw [et];exact e2.cast fun i hi=>by
     by_cases e:i=k
     ·rw [if_pos e,if_pos e,e];exact⟨rfl,rfl⟩
     ·rw [if_neg e,if_neg e];exact⟨rfl,rfl⟩)
   have Hm:Hid (yes (cmpL (gL l k) ⟨yp,yf,yr,yq,yv⟩<0)=true ->∀j,j<k+1 ->cmpL (gL l j) ⟨yp,yf,yr,yq,yv⟩<0):=hid (fun hB j hj=>by
    by_cases e:j=k
    ·rw [e];exact Classical.byContradiction fun hn=>by rw [yes_f hn] at hB;cases hB
    ·exact HJ.out j (by omega))
   have Hn:Hid (yes (cmpL (gL l k) ⟨yp,yf,yr,yq,yv⟩<0)=false ->insL ⟨yp,yf,yr,yq,yv⟩ l=l.take k++(⟨yp,yf,yr,yq,yv⟩:Lf)::l.drop k):=hid (fun hB=>insL_at hk HJ.out (fun _ hn=>by rw [yes_t hn] at hB;cases hB));have Hk:Hid (∀w',Below wr.heap.size wr w' ->(w'.cell? ⟨g,k*5,none⟩=some (.slice (some ⟨P k,0,none⟩) (gL l k).p.length (Q k))/\ w'.cell? ⟨g,k*5+1,none⟩=some (.bool (gL l k).fl)/\ w'.cell? ⟨g,k*5+2,none⟩=some (.int .i64 (gL l k).r)/\ w'.cell? ⟨g,k*5+3,none⟩=some (.int .i64 (gL l k).q)/\ w'.cell? ⟨g,k*5+4,none⟩=some (.string (gL l k).v)/\ w'.cell? ⟨w.heap.size,0,none⟩=some (.slice (some ⟨pb,0,none⟩) yp.length pc)/\ w'.cell? ⟨w.heap.size,1,none⟩=some (.bool yf)/\ w'.cell? ⟨w.heap.size,2,none⟩=some (.int .i64 yr)/\ w'.cell? ⟨w.heap.size,3,none⟩=some (.int .i64 yq)/\ w'.cell? ⟨w.heap.size,4,none⟩=some (.string yv))):=hid (fun w' b1=>by
    have Gk:g<wr.heap.size:=by have h1:=Gc.out;have h2:=Hj.out.size;omega
    have q:=fun o=>b1.cell (p:=⟨g,o,none⟩) Gk;have X2:=Hu.out.below b1 Hu.out.lt;exact⟨(q _).trans c0,(q _).trans c1,(q _).trans c2,(q _).trans c3,(q _).trans c4,X2.c0,X2.c1,X2.c2,X2.c3,X2.c4⟩)
   obtain⟨x,hx⟩:∃x,gL l k=x:=⟨_,rfl⟩;obtain⟨Pk,H5⟩:∃x,P k=x:=⟨_,rfl⟩;obtain⟨Qk,H6⟩:∃x,Q k=x:=⟨_,rfl⟩;rw [hx,H5,H6] at Hq Hp Hk;rw [hx] at Hm Hn;obtain⟨xp,xf,xr,xq,xv⟩:=x;dsimp only at Hq Hp Hk Hm Hn;obtain⟨B,hB⟩:∃B,yes (cmpL (⟨xp,xf,xr,xq,xv⟩:Lf) ⟨yp,yf,yr,yq,yv⟩<0)=B:=⟨_,rfl⟩;rw [hB] at Hq Hm Hn;clear hx H5 H6 hB Hw c0 c1 c2 c3 c4 p1 p2 p3 p4 p5;go_wp2_with fail;refine zR (S:=fun w'=>w'.cell? ⟨g,k*5,none⟩=some (.slice (some ⟨Pk,0,none⟩) xp.length Qk)/\ w'.cell? ⟨g,k*5+1,none⟩=some (.bool xf)/\ w'.cell? ⟨g,k*5+2,none⟩=some (.int .i64 xr)/\ w'.cell? ⟨g,k*5+3,none⟩=some (.int .i64 xq)/\ w'.cell? ⟨g,k*5+4,none⟩=some (.string xv)/\ w'.cell? ⟨w.heap.size,0,none⟩=some (.slice (some ⟨pb,0,none⟩) yp.length pc)/\ w'.cell? ⟨w.heap.size,1,none⟩=some (.bool yf)/\ w'.cell? ⟨w.heap.size,2,none⟩=some (.int .i64 yr)/\ w'.cell? ⟨w.heap.size,3,none⟩=some (.int .i64 yq)/\ w'.cell? ⟨w.heap.size,4,none⟩=some (.string yv)) (Hk.out _ zI.drew) (fun qh=> ?_);refine tZ 0 9 ?_;refine tZ 1 10 ?_;refine tZ 2 11 ?_;refine tZ 3 12 ?_;refine tZ 4 13 ?_;refine tZ 5 14 ?_;refine tZ 6 15 ?_;refine tZ 7 16 ?_;refine tZ 8 17 ?_;refine tZ 9 18 ?_;refine cZ 10 ?_;intro K hK;go_simp;refine(Hq.out _ zI.drew).mono ?_;rintro e w1 ⟨rfl,b1⟩;have Hv:Below wr.heap.size wr w1:=⟨b1.os,b1.tape,b1.output,b1.size,b1.block⟩;refine hK.out _ _ (Hk.out _ Hv) (fun qh=> ?_);clear hK K;try simp only [zP]
   refine tZ 11 20 ?_;refine zD ?_;have Hs:=hid Hv;obtain⟨c0,c1,c2,c3,c4,y0,y1,y2,y3,y4⟩:=Hk.out _ Hv;clear qh b1 Hv Hk Hq;cases B with
   | true=>
    obtain⟨q3,Hy,w3,Hc,l3,g3⟩:=Hp.out w1 Hs.out;have Gf:=hid l3;have Gb:=hid ((HG.out.trans (Gr.of_below Hs.out)).trans g3);have Ge:=hid (Hm.out rfl);clear l3 g3 Hp Hm Hn HJ HL HG;go_wp2_with (at_builtin;refine wpList_app2 rfl _ _ _ _ rfl Hc (by rfl) (by rfl) rfl ?_;clear Hc);go_roundw;case rel=>exact⟨k+1,q3,Hy,Hl,by go_num,rfl,Ge,Gf,Gb⟩
    case measure=>simp [intOf];omega
   | false=>
    have Hh:=hid (Hn.out rfl);obtain⟨q3,Hy,w3,Hc,b3,Hr,Hb⟩:=Hz.out w1 k q qc hk (HL.out.below Hs.out) (Hj.out.trans (Hs.out.mono Hj.out.size)) HQ.out;obtain⟨q4,Hg,w4,P',Q',Ha,b4,Hi,l4⟩:=Hb (k*5) (cap - k) (fun _=>rfl);have Hd:=hid b4;have He:=hid l4;have Hf:=hid Hi;clear b3 Hr Hb b4 l4 Hi Hp Hm Hn HJ HL HG;have i3:k<=cap:=by omega
    go_wp2_with (first|(at_builtin;refine wpList_app2 rfl _ _ _ _ rfl Hc (by rfl) (by rfl) rfl ?_;clear Hc)|(at_builtin;refine wpList_app2 rfl _ _ _ _ rfl Ha (by rfl) (by rfl) rfl ?_;clear Ha));go_ret;first|exact⟨⟨q4,Hg,rfl,Hf.out,P',Q',by rw [Hh.out];exact He.out⟩,Hd.out⟩|exact⟨⟨q4,Hg,P',Q',rfl,Hf.out,by rw [Hh.out];exact He.out⟩,Hd.out⟩|exact⟨⟨q4,Hg,rfl,P',Q',Hf.out,by rw [Hh.out];exact He.out⟩,Hd.out⟩
  ·obtain rfl:k=l.length:=by omega
   have Hh:Hid (insL ⟨yp,yf,yr,yq,yv⟩ l=l.take l.length++(⟨yp,yf,yr,yq,yv⟩:Lf)::l.drop l.length):=hid (insL_at zL HJ.out (fun h=>by omega));have Hk:Hid (∀w',Below wr.heap.size wr w' ->(w'.cell? ⟨w.heap.size,0,none⟩=some (.slice (some ⟨pb,0,none⟩) yp.length pc)/\ w'.cell? ⟨w.heap.size,1,none⟩=some (.bool yf)/\ w'.cell? ⟨w.heap.size,2,none⟩=some (.int .i64 yr)/\ w'.cell? ⟨w.heap.size,3,none⟩=some (.int .i64 yq)/\ w'.cell? ⟨w.heap.size,4,none⟩=some (.string yv))):=hid (fun w' b1=>by
    have X2:=Hu.out.below b1 Hu.out.lt;exact⟨X2.c0,X2.c1,X2.c2,X2.c3,X2.c4⟩)
   go_wp2_with fail;refine zR (S:=fun w'=>True) trivial (fun qh=> ?_);refine tZ 0 9 ?_;refine tZ 1 10 ?_;refine tZ 2 11 ?_;refine tZ 3 12 ?_;refine tZ 4 13 ?_;refine uZ 5 14 ?_;refine uZ 6 15 ?_;refine uZ 7 16 ?_;refine uZ 8 17 ?_;refine uZ 9 18 ?_;refine uZ 10 19 ?_;refine tZ 11 20 ?_;refine zD ?_;obtain⟨y0,y1,y2,y3,y4⟩:=Hk.out _ zI.drew;obtain⟨q3,Hy,w3,Hc,b3,Hr,Hb⟩:=Hz.out wr.drew l.length q qc hk (HL.out.below zI.drew) Hj.out.drew HQ.out;clear b3 Hr HJ HL HG qh Hk;by_cases Gn:l.length<cap
   ·obtain⟨q4,Hg,w4,P',Q',Ha,b4,Hi,l4⟩:=Hb (l.length*5) (cap - l.length) (fun _=>rfl);rw [Nat.sub_self] at Ha;have Hd:=hid b4;have He:=hid l4;have Hf:=hid Hi;clear Hb b4 l4 Hi;go_wp2_with (first|(at_builtin;refine wpList_app2 rfl _ _ _ _ rfl Hc (by rfl) (by rfl) rfl ?_;clear Hc)|(at_builtin;refine wpList_app2 rfl _ _ _ _ rfl Ha (by rfl) (by rfl) rfl ?_;clear Ha));go_ret;first|exact⟨⟨q4,Hg,rfl,Hf.out,P',Q',by rw [Hh.out];exact He.out⟩,Hd.out⟩|exact⟨⟨q4,Hg,P',Q',rfl,Hf.out,by rw [Hh.out];exact He.out⟩,Hd.out⟩|exact⟨⟨q4,Hg,rfl,P',Q',Hf.out,by rw [Hh.out];exact He.out⟩,Hd.out⟩
   ·obtain⟨q4,Hg,w4,P',Q',Ha,b4,Hi,l4⟩:=Hb 0 0 (fun h=>by omega);rw [Nat.sub_self] at Ha;obtain rfl:cap=l.length:=by omega
    have Hd:=hid b4;have He:=hid l4;have Hf:=hid Hi;clear Hb b4 l4 Hi;go_wp2_with (first|(at_builtin;refine wpList_app2 rfl _ _ _ _ rfl Hc (by rfl) (by rfl) rfl ?_;clear Hc)|(at_builtin;refine wpList_app2 rfl _ _ _ _ rfl Ha (by rfl) (by rfl) rfl ?_;clear Ha));go_ret;first|exact⟨⟨q4,Hg,rfl,Hf.out,P',Q',by rw [Hh.out];exact He.out⟩,Hd.out⟩|exact⟨⟨q4,Hg,P',Q',rfl,Hf.out,by rw [Hh.out];exact He.out⟩,Hd.out⟩|exact⟨⟨q4,Hg,rfl,P',Q',Hf.out,by rw [Hh.out];exact He.out⟩,Hd.out⟩
theorem l3PathK (g off m c:Nat)(p:List ByteArray)(w:World)(hp:p.length=m)(hm:m<=1048576)(hg:g<w.heap.size)(h:∀t,t<m ->w.cell? ⟨g,off+t,none⟩=some (.string (gS p t))):
  Calls Tryz.prog 73 #[.slice (some ⟨g,off,none⟩) m c] w fun e w'=>∃q Ha,e=.returned (.slice (some ⟨q,0,none⟩) m Ha)/\ Below w.heap.size w w'/\ w.heap.size<=q/\ q<w'.heap.size/\ Wr w' q 9 m (fun t=> .string (gS p t))/\ m<=Ha/\ Ha<=9223372036854775807/\ w'.ownsRow w.heap.size 9 1 (.slice (some ⟨q,0,none⟩) m Ha) m (sRow p):=by
 obtain⟨i0,hi,Hh,Hi,Hj⟩:=info_parts infoStr;have b0:Below w.heap.size w (w.alloc (.cells #[] 9)):=zO _ _;have ho:(w.alloc (.cells #[] 9)).ownsRow w.heap.size 9 1 (.slice (some ⟨w.heap.size,0,none⟩) 0 0) 0 []:=by
  have:=World.ownsRow_lit (base:=w.heap.size) (e:=9) (size:=1) w #[] 0 zL (by unfold maxLen;omega) rfl;simpa using this
 obtain⟨q,Ha,w',Hb,hw,Hf,hq⟩:=copyRowE 29 9 i0 _ 1 16 Tryz.underlying29 hi Hh Hi Hj rfl (by decide) (by omega) w.heap.size g off m c (fun t=> .string (gS p t)) (w.alloc (.cells #[] 9)) w.heap.size hm ho (by simp) (fun j hj=>(b0.cell (p:=⟨g,off+j,none⟩) hg).trans (h j (by omega))) (fun _ _=>rfl);have Hc:=own_wrF hw;rw [Nat.mul_one] at Hc;have Hd:Hid (m<=Ha/\ Ha<=9223372036854775807):=hid (by
  rcases hw.2 with ⟨h0,_⟩|⟨g',Hg,Hk,hv,He,hb,h1,h2,h3,h4⟩
  ·cases h0
  ·injection hv with e1 e2 e3;unfold maxLen at h2;omega)
 have HB:Hid (Below w.heap.size w w'):=hid (b0.grown Hf b0.size (fun k e=>by injection e with e;omega));have HW:=hid Hc;have HO:Hid (w'.ownsRow w.heap.size 9 1 (.slice (some ⟨q,0,none⟩) m Ha) m (sRow p)):=hid (by unfold sRow;rw [hp];exact hw);have HQ:Hid (w.heap.size<=q):=hid (by rcases hq with e|e<;>rw [e];exact Nat.le_refl _;simp);clear hw Hf hq Hc h ho b0;go_enter Tryz.func73,Tryz.ntmps73;go_wp2_with (at_builtin;refine wpList_app2 rfl _ _ _ _ rfl Hb (by rfl) (by rfl) rfl ?_;clear Hb);go_ret;exact⟨q,Ha,rfl,HB.out,HQ.out,HW.out.lt,HW.out,Hd.out.1,Hd.out.2,HO.out⟩
theorem l3LeafK (g off m c:Nat)(y:Lf)(w:World)(hp:y.p.length=m)(hm:m<=1048576)(hg:g<w.heap.size)(h:∀t,t<m ->w.cell? ⟨g,off+t,none⟩=some (.string (gS y.p t))):
  Calls Tryz.prog 49 #[.agg #[.slice (some ⟨g,off,none⟩) m c,.bool y.fl,.int .i64 y.r,.int .i64 y.q,.string y.v]] w fun e w'=>∃q Ha,e=.returned (.agg #[.slice (some ⟨q,0,none⟩) m Ha,.bool y.fl,.int .i64 y.r,.int .i64 y.q,.string y.v])/\ Below w.heap.size w w'/\ w.heap.size<=q/\ q<w'.heap.size/\ Wr w' q 9 m (fun t=> .string (gS y.p t))/\ m<=Ha/\ Ha<=9223372036854775807/\ w'.ownsRow w.heap.size 9 1 (.slice (some ⟨q,0,none⟩) m Ha) m (sRow y.p):=by
 obtain⟨W,hW⟩:∃W,(w.alloc (.cells #[.slice (some ⟨g,off,none⟩) m c,.bool y.fl,.int .i64 y.r,.int .i64 y.q,.string y.v] 60)).alloc (.cells #[.slice none 0 0,.bool false,.int .i64 0,.int .i64 0,.string ⟨#[]⟩] 60)=W:=⟨_,rfl⟩;have b0:Below w.heap.size w W:=by rw [<- hW];exact below2 _ _ _
 have A0:Bx5 W w.heap.size (.slice (some ⟨g,off,none⟩) m c) (.bool y.fl) (.int .i64 y.r) (.int .i64 y.q) (.string y.v):=by rw [<- hW];exact(Bx5.new _ _ _ _ _ _ _).up _
 have R0:Bx5 W (w.heap.size+1) (.slice none 0 0) (.bool false) (.int .i64 0) (.int .i64 0) (.string ⟨#[]⟩):=by
  rw [<- hW];have:=Bx5.new (w.alloc (.cells #[.slice (some ⟨g,off,none⟩) m c,.bool y.fl,.int .i64 y.r,.int .i64 y.q,.string y.v] 60)) (.slice none 0 0) (.bool false) (.int .i64 0) (.int .i64 0) (.string ⟨#[]⟩) 60;simpa using this
 have HP:=hid (l3PathK g off m c y.p W hp hm (Nat.lt_of_lt_of_le hg b0.size) (fun t ht=>(b0.cell (p:=⟨g,off+t,none⟩) hg).trans (h t ht)));have k0:=A0.c0;have HA:=hid A0;have HR:=hid R0;have Hg:=hid b0;have Hk:w.heap.size+1<W.heap.size:=R0.lt;clear b0 A0 R0 h;go_enter Tryz.func49,Tryz.ntmps49;go_wp2_with fail;try rw [hW]
 clear hW;refine HP.out.mono ?_;rintro e w1 ⟨q,Ha,rfl,b1,Hd,He,Hf,Hl,Hb,Hc⟩;have A1:=HA.out.below b1 HA.out.lt;have R1:=HR.out.below b1 HR.out.lt;have a0:=A1.c0;have a1:=A1.c1;have a2:=A1.c2;have a3:=A1.c3;have a4:=A1.c4;have fa:=A1.f;have r0:=R1.c0;have r1:=R1.c1;have r2:=R1.c2;have r3:=R1.c3;have r4:=R1.c4;have fr:=R1.f;have Hj:=hid Hf;have Hi:Hid (w1.ownsRow w.heap.size 9 1 (.slice (some ⟨q,0,none⟩) m Ha) m (sRow y.p)):=hid (own_weak5 Hc (by omega));clear Hc;have Hh:=hid (keepS Hg.out b1);have HQ:Hid (W.heap.size<=q/\ q<w1.heap.size):=hid ⟨Hd,He⟩;clear k0 HP Hf Hd He b1 A1 R1;go_wp2_with fail;have hq:=HQ.out;refine zF (v:=.agg #[.slice (some ⟨q,0,none⟩) m Ha,.bool y.fl,.int .i64 y.r,.int .i64 y.q,.string y.v]) (by simp [results,Tryz.results49,go_sem,r0,r1,r2,r3,r4]) ⟨q,Ha,rfl,?_,by omega,?_,?_,Hl,Hb,?_⟩
 ·repeat (refine Below.setCell ?_ (by simp) _)
  exact Hh.out
 ·simp [World.setCell];exact hq.2
 ·repeat (refine Wr.same (w:=_) ?_ (zH _ _ _ _ (by simp;omega)))
  exact Hj.out
 ·refine own_at5 Hi.out (fun g hg=> ?_);have e:q=g:=by simpa [Value.ownBlock] using hg
  repeat (rw [zH _ _ _ _ (by simp;omega)])
theorem l3LeafB (g off m c:Nat)(y:Lf)(w:World)(hp:y.p.length=m)(hm:m<=1048576)(hg:g<w.heap.size)(h:∀t,t<m ->w.cell? ⟨g,off+t,none⟩=some (.string (gS y.p t))):
  Calls Tryz.prog 49 #[.agg #[.slice (some ⟨g,off,none⟩) m c,.bool y.fl,.int .i64 y.r,.int .i64 y.q,.string y.v]] w fun e w'=>∃q cap,e=.returned (.agg #[.slice (some ⟨q,0,none⟩) m cap,.bool y.fl,.int .i64 y.r,.int .i64 y.q,.string y.v])/\ Below w.heap.size w w'/\ w.heap.size<=q/\ q<w'.heap.size/\ Wr w' q 9 m (fun t=> .string (gS y.p t))/\ m<=cap/\ cap<=9223372036854775807:=
 (l3LeafK g off m c y w hp hm hg h).mono fun e w' ⟨q,cap,a1,a2,a3,a4,a5,a6,a7,_⟩=>⟨q,cap,a1,a2,a3,a4,a5,a6,a7⟩
theorem Bx5.setFar {w:World}{b:Nat}{v0 v1 v2 v3 v4:Value}(h:Bx5 w b v0 v1 v2 v3 v4)(t:Nat)(u:Value)(hne:b≠t):Bx5 (w.setCell ⟨t,0,none⟩ u) b v0 v1 v2 v3 v4:=by
 have e:(w.setCell ⟨t,0,none⟩ u).heap[b]? =w.heap[b]? :=zH _ _ _ _ hne;have q:=fun o=>World.cell?_of_block (w:=w) (w':=w.setCell ⟨t,0,none⟩ u) (a:=⟨b,o,none⟩) e;exact⟨(q 0).trans h.c0,(q 1).trans h.c1,(q 2).trans h.c2,(q 3).trans h.c3,(q 4).trans h.c4,fun i=>(World.frozen?_of_block (a:=⟨b,i,none⟩) e).trans (h.f i),by simp [World.setCell];exact h.lt⟩
theorem FR.setFar {w:World}{B:Nat}{v:Value}{l:List Rn}(h:FR w B v l)(q:Addr)(u:Value)(hv:v.ownBlock≠some q.block):FR (w.setCell q u) B v l:=by
 refine World.ownsRow.kept h (w':=w.setCell q u) (row:=some q.block) ⟨rfl,rfl,rfl,by simp [World.setCell],fun k hk hne=>zH _ _ _ _ (fun e=>hne (by rw [e]))⟩ ?_;cases e:v.ownBlock with
 | none=>exact .inl rfl
 | some b=>exact .inr (fun e2=>hv (by rw [e];exact e2))
theorem LC.set {w:World}{lo:Nat}{v:Value}{l:List Lf}{P Q:Nat ->Nat}(h:LC w lo v l P Q)(q:Addr)(u:Value)(hg:v.ownBlock≠some q.block)(hP:∀i,i<l.length ->P i≠q.block):LC (w.setCell q u) lo v l P Q:=
 ⟨own_at5 h.row (fun g hg'=>zH _ _ _ _ (fun e=>hg (by rw [hg',e]))),fun i hi=>by
  obtain⟨e1,e2,e3,e4⟩:=h.pt i hi;exact⟨e1,by simp [World.setCell];exact e2,e3,e4.1.same (zH _ _ _ _ (hP i hi)),e4.2⟩⟩
structure JS (w wr:World)(t:Nat)(va0 va1 vb0 vb1:Value)(g c:Nat)(vr:Value)(l:List Lf)(lr:List Rn)(P Q:Nat ->Nat):Prop where
 low:Below w.heap.size w wr
 a:Bx2 wr w.heap.size va0 va1
 b:Bx2 wr (w.heap.size+1) vb0 vb1
 r:Bx2 wr (w.heap.size+1+1) (.slice none 0 0) (.slice none 0 0)
 o:Bx2 wr t (.slice (some ⟨g,0,none⟩) l.length c) vr
 lc:LC wr w.heap.size (.slice (some ⟨g,0,none⟩) l.length c) l P Q
 fr:FR wr w.heap.size vr lr
 ht:w.heap.size+3<=t
 hv:vr.ownBlock≠some t
 hg:w.heap.size+3<=g
 hv2:∀b,vr.ownBlock=some b ->w.heap.size+3<=b
section
variable {w wr w1 : World} {t : Nat} {va0 va1 vb0 vb1 : Value} {g c : Nat} {vr : Value} {l : List Lf} {lr : List Rn} {P Q : Nat -> Nat}
theorem JS.below (h:JS w wr t va0 va1 vb0 vb1 g c vr l lr P Q)(hb:Below wr.heap.size wr w1):JS w w1 t va0 va1 vb0 vb1 g c vr l lr P Q:=
 ⟨h.low.trans (hb.mono h.low.size),h.a.below hb h.a.lt,h.b.below hb h.b.lt,h.r.below hb h.r.lt,h.o.below hb h.o.lt,h.lc.below hb,h.fr.below hb,h.ht,h.hv,h.hg,h.hv2⟩
theorem JS.set {g2 c2 n2:Nat}{l2:List Lf}{P2 Q2:Nat ->Nat}(h:JS w wr t va0 va1 vb0 vb1 g c vr l lr P Q)(hb:Below wr.heap.size wr w1)(h2:LC w1 w.heap.size (.slice (some ⟨g2,0,none⟩) n2 c2) l2 P2 Q2)(hn:n2=l2.length)(hg:wr.heap.size<=g2)(hp:∀i,i<l2.length ->1<=(gL l2 i).p.length):JS w (w1.setCell ⟨t,0,none⟩ (.slice (some ⟨g2,0,none⟩) n2 c2)) t va0 va1 vb0 vb1 g2 c2 vr l2 lr P2 Q2:=by
 subst hn;have h1:=h.below hb;have Ha:=h.o.lt;have ht:=h.ht;refine⟨h1.low.setCell (by show w.heap.size<=t;omega) _,h1.a.setAt _ _ (by show t≠w.heap.size;omega),h1.b.setAt _ _ (by show t≠w.heap.size+1;omega),h1.r.setAt _ _ (by show t≠w.heap.size+1+1;omega),h1.o.set0 _,h2.set _ _ (fun e=>by have:=own_eq e;have:g2=t:=this;omega) (fun i hi e=> ?_),?_,h.ht,h.hv,by omega,h.hv2⟩
 ·have hw:=(h2.pt i hi).2.2.2.1.cell (i:=0) (by have:=hp i hi;omega);have e:P2 i=t:=e;rw [e,h1.o.c0] at hw;cases hw
 ·refine World.ownsRow.kept h1.fr (w':=w1.setCell ⟨t,0,none⟩ _) (row:=some t) ⟨rfl,rfl,rfl,by simp [World.setCell],fun k hk hne=>zH _ _ _ _ (fun e=>hne (by rw [e]))⟩ ?_;cases e:vr.ownBlock with
  | none=>exact .inl rfl
  | some b=>exact .inr (fun e2=>h.hv (by rw [e];exact e2))
end
structure Put (C:Lf ->Prop)(ls:List Lf)(L:Nat ->List Lf)(s:Nat):Prop where
 yes:∀k,k<ls.length ->C (gL ls k) ->L (k+1)=insL (gL ls k) (L k)
 no:∀k,k<ls.length ->¬C (gL ls k) ->L (k+1)=L k
 len:∀k,k<=ls.length ->(L k).length<=s+k
 pth:∀k,k<=ls.length ->∀i,i<(L k).length ->1<=(gL (L k) i).p.length/\ (gL (L k) i).p.length<=8
theorem Put.of (C:Lf ->Prop)(ls out:List Lf)(s:Nat)(ho:out.length<=s)(h1:∀i,i<ls.length ->1<=(gL ls i).p.length/\ (gL ls i).p.length<=8)(h2:∀i,i<out.length ->1<=(gL out i).p.length/\ (gL out i).p.length<=8):Put C ls (putL C ls out) s:=
 ⟨fun k hk h=>putL_yes h,fun k hk h=>putL_no h,fun k hk=>by have:=putL_len (P:=C) (ls:=ls) (out:=out) k;omega,fun k hk i hi=>by
  have hm:=gL_mem.2 ⟨i,hi,rfl⟩;rcases putL_mem.1 hm with h|⟨t,ht,_,e⟩
  ·obtain⟨t,ht,e⟩:=gL_mem.1 h;rw [<- e];exact h2 t ht
  ·rw [<- e];exact h1 t (by omega)⟩
theorem l3JoinC (a b:Option Addr)(ca cb:Nat)(la lb:List Lf)(xa:Option Addr)(n d:Nat)(R F T:Nat ->Int)(x':Option Addr)(n' d':Nat)(R' F' T':Nat ->Int)(w:World)(hn:n<=1000)(hn':n'<=1000)(ho:okTo R F T n)(ho':okTo R' F' T' n')(Kd:la.length<=1000)(Ke:lb.length<=1000)(hpa:∀i,i<la.length ->1<=(gL la i).p.length/\ (gL la i).p.length<=8)(Hu:∀i,i<lb.length ->1<=(gL lb i).p.length/\ (gL lb i).p.length<=8)
  (h1:LCap w a la) (h2:LCap w b lb) (h3:RSeg w xa n R F T) (h4:RSeg w x' n' R' F' T'):
  Calls Tryz.prog 102 #[.agg #[.slice a la.length ca,.slice xa n d],.agg #[.slice b lb.length cb,.slice x' n' d']] w fun e w'=>(∃g c ra rc P Q,e=.returned (.agg #[.slice (some ⟨g,0,none⟩) (jn R F T n la R' F' T' n' lb).length c,.slice ra (unL R F T n R' F' T' n').length rc])/\ LC w' w.heap.size (.slice (some ⟨g,0,none⟩) (jn R F T n la R' F' T' n' lb).length c) (jn R F T n la R' F' T' n' lb) P Q/\ FR w' w.heap.size (.slice ra (unL R F T n R' F' T' n').length rc) (unL R F T n R' F' T' n'))/\ Below w.heap.size w w':=by
 obtain⟨W,hW⟩:∃W,(((w.alloc (.cells #[.slice a la.length ca,.slice xa n d] 28)).alloc (.cells #[.slice b lb.length cb,.slice x' n' d'] 28)).alloc (.cells #[.slice none 0 0,.slice none 0 0] 28)).alloc (.cells #[] 60)=W:=⟨_,rfl⟩;have b0:Below w.heap.size w W:=by rw [<- hW];exact((below2 _ _ _).alloc (by simp;omega) _).alloc (by simp;omega) _
 have zW:W.heap.size=w.heap.size+4:=by rw [<- hW];simp
 have A0:Bx2 W w.heap.size (.slice a la.length ca) (.slice xa n d):=by rw [<- hW];exact(((Bx2.made w _ _ _).allocs _).allocs _).allocs _
 have B0:Bx2 W (w.heap.size+1) (.slice b lb.length cb) (.slice x' n' d'):=by
  rw [<- hW];have:=Bx2.made (w.alloc (.cells #[.slice a la.length ca,.slice xa n d] 28)) (.slice b lb.length cb) (.slice x' n' d') 28;exact((by simpa using this:Bx2 _ (w.heap.size+1) _ _).allocs _).allocs _
 have R0:Bx2 W (w.heap.size+1+1) (.slice none 0 0) (.slice none 0 0):=by
  rw [<- hW];have:=Bx2.made ((w.alloc (.cells #[.slice a la.length ca,.slice xa n d] 28)).alloc (.cells #[.slice b lb.length cb,.slice x' n' d'] 28)) (.slice none 0 0) (.slice none 0 0) 28;exact(by simpa using this:Bx2 _ (w.heap.size+1+1) _ _).allocs _
 have L0:LC W w.heap.size (.slice (some ⟨w.heap.size+3,0,none⟩) 0 0) [] (fun _=>0) (fun _=>0):=by
  refine⟨?_,fun i hi=>by simp at hi⟩;have:=World.ownsRow_lit (base:=w.heap.size) (e:=60) (size:=5) (((w.alloc (.cells #[.slice a la.length ca,.slice xa n d] 28)).alloc (.cells #[.slice b lb.length cb,.slice x' n' d'] 28)).alloc (.cells #[.slice none 0 0,.slice none 0 0] 28)) #[] 0 (by simp;omega) (by unfold maxLen;omega) rfl;rw [hW] at this;simpa using this
 have Gk:=hid A0;have Go:=hid B0;have Gr:=hid R0;have Gz:=hid L0;have Gm:=hid b0;have G5:=hid zW;have HU:=hid (specUnion2 xa n d R F T x' n' d' R' F' T' W hn hn' (h3.below b0) (h4.below b0) ho ho');have H1:=hid h1;have H2:=hid h2;have H3:=hid h3;have H4:=hid h4;have G0:=hid hpa;have G1:=hid Hu;have Gg:=hid (And.intro Kd Ke);obtain⟨LA,Gh⟩:∃LA,putL (fun x=>x∈lb \/¬hasX R' F' T' n' x) la []=LA:=⟨_,rfl⟩;obtain⟨LB,Gi⟩:∃LB,putL (fun x=>¬hasX R F T n x) lb (LA la.length)=LB:=⟨_,rfl⟩;obtain⟨J,hJ⟩:∃J,jn R F T n la R' F' T' n' lb=J:=⟨_,rfl⟩;have Hq:Hid (Put (fun x=>x∈lb \/¬hasX R' F' T' n' x) la LA 0):=hid (by rw [<- Gh];exact Put.of _ la [] 0 zL hpa (fun i hi=>by simp at hi));have H7:Hid (Put (fun x=>¬hasX R F T n x) lb LB la.length):=hid (by rw [<- Gi];exact Put.of _ lb _ _ (by have:=Hq.out.len la.length zL;omega) Hu (Hq.out.pth la.length zL));have Gl:Hid (LA 0=[]):=hid (by rw [<- Gh];rfl);have Gn:Hid (LB 0=LA la.length):=hid (by rw [<- Gi];rfl);have Gy:Hid (LB lb.length=J):=hid (by rw [<- Gi,<- Gh,<- hJ];rfl);rw [hJ];have k1:=A0.c1;have k2:=B0.c1;clear A0 B0 R0 L0 b0 zW h1 h2 h3 h4 hpa Hu hJ Gh Gi;go_enter Tryz.func102,Tryz.ntmps102;go_wp2_with fail;try rw [hW]
 clear hW;refine HU.out.mono ?_;rintro e w1 ⟨vr,rfl,f1,b1⟩;obtain⟨ul,Gu⟩:∃ul,unL R F T n R' F' T' n'=ul:=⟨_,rfl⟩;rw [Gu] at f1;obtain⟨ra,rc,Kf,_⟩:=f1.fs;subst Kf;obtain⟨w2,Gj⟩:∃w2,w1.alloc (.cells #[.slice (some ⟨w.heap.size+1+1+1,0,none⟩) 0 0,.slice ra ul.length rc] 28)=w2:=⟨_,rfl⟩;have b2:Below w1.heap.size w1 w2:=by rw [<- Gj];exact zO _ _
 have H9:=keepS b1 b2;have Gq:Hid (JS w w2 w1.heap.size (.slice a la.length ca) (.slice xa n d) (.slice b lb.length cb) (.slice x' n' d') (w.heap.size+1+1+1) 0 (.slice ra ul.length rc) (LA 0) ul (fun _=>0) (fun _=>0)):=hid (by
  have hz:=G5.out;have Kh:=b1.size;rw [Gl.out];refine⟨Gm.out.trans (H9.mono Gm.out.size),Gk.out.below H9 Gk.out.lt,Go.out.below H9 Go.out.lt,Gr.out.below H9 Gr.out.lt,by rw [<- Gj];exact Bx2.made _ _ _ _,Gz.out.below H9,(f1.below b2).weak (by omega),by omega,fun e=> ?_,by omega,fun b e=> ?_⟩
  ·have:=(World.ownsRow.lt f1 _ e).2;omega
  ·have:=(World.ownsRow.lt f1 _ e).1;omega)
 have G3:=hid Gu;clear f1 b1 b2 H9 k1 k2 HU Gk Go Gr Gz Gm G5 Gu;go_wp2_with fail;try rw [Gj]
 clear Gj;obtain⟨t,hT⟩:∃t,w1.heap.size=t:=⟨_,rfl⟩;rw [hT] at Gq ⊢;clear hT;go_loopw [6] (fun i wr=>∃(j g c:Nat) (P Q:Nat ->Nat),j<=la.length/\ i=.int .i64 j/\ Hid (JS w wr t (.slice a la.length ca) (.slice xa n d) (.slice b lb.length cb) (.slice x' n' d') g c (.slice ra ul.length rc) (LA j) ul P Q)) (fun i _=>la.length - (intOf i).toNat);case atStart=>exact⟨0,_,_,_,_,Nat.zero_le _,rfl,Gq⟩
 case round=>
  clear Gq;obtain⟨j,g,c,P,Q,hj,rfl,HS⟩:=hrel;have a0:=HS.out.a.c0;by_cases Hi:j<la.length
  ·have i1:(0:Int)<=(j:Int):=Int.natCast_nonneg _;have i2:(j:Int)<(la.length:Int):=by omega
   obtain⟨ab,ao,rfl,Gt,Ge⟩:=(H1.out.below HS.out.low).resolve_left (by omega);obtain⟨pa,pc,⟨c0,d0⟩,sg,c1,c2,c3,c4⟩:=Ge j Hi;obtain⟨pb,po,rfl,Hu,Hw⟩:=sg.resolve_left (by have:=(G0.out j Hi).1;omega);have Hx:=G0.out j Hi;obtain⟨y,hy⟩:∃y,gL la j=y:=⟨_,rfl⟩;rw [hy] at c0 c1 c2 c3 c4 d0 Hw Hx;have HY:=hid hy;obtain⟨yp,yf,yr,yq,yv⟩:=y;dsimp only at c0 c1 c2 c3 c4 d0 Hw Hx;obtain⟨w5,H8⟩:∃w5,wr.alloc (.cells #[.slice (some ⟨pb,po,none⟩) yp.length pc,.bool yf,.int .i64 yr,.int .i64 yq,.string yv] 60)=w5:=⟨_,rfl⟩;have b5:Below wr.heap.size wr w5:=by rw [<- H8];exact zO _ _
   have X5:Bx5 w5 wr.heap.size (.slice (some ⟨pb,po,none⟩) yp.length pc) (.bool yf) (.int .i64 yr) (.int .i64 yq) (.string yv):=by rw [<- H8];exact Bx5.new _ _ _ _ _ _ _
   have Hz:=hid (HS.out.below b5);have Gc:=hid X5;have Gp:=hid d0;have Hv:=hid Hx;have Gb:Hid (SSeg w5 (some ⟨pb,po,none⟩) yp):=hid (.inr ⟨pb,po,rfl,Nat.lt_of_lt_of_le Hu b5.size,fun i hi=>(b5.cell (p:=⟨pb,po+i,none⟩) Hu).trans (Hw i hi)⟩);have x0:=X5.c0;have x1:=X5.c1;have x2:=X5.c2;have x3:=X5.c3;have x4:=X5.c4;clear hy Ge sg Hw Hu Gt b5 X5 d0 Hx HS;have hf:=hid (fun w6 (b6:Below w5.heap.size w5 w6)=>l3FindC b (some ⟨pb,po,none⟩) cb pc lb yp yf yr yq yv w6 (by have:=Gg.out;omega) Gp.out.1 Gp.out.2 ((H2.out.below Hz.out.low).below b6) (Gb.out.below b6));have e0:=Hz.out.b.c0;have e1:=Hz.out.b.c1;go_wp2_with fail;refine(hf.out w5 zI).mono ?_;rintro e w6 ⟨⟨fi,rfl,G6⟩,b6⟩;have Hb:=hid (Hz.out.below b6);have Hh:=hid (Gc.out.below b6 Gc.out.lt);have H6:=hid b6;have Gx:=hid G6;clear e0 e1 hf G6 b6 x0 x1 x2 x3 x4 a0 c0 c1 c2 c3 c4 H8;by_cases Hn:(⟨yp,yf,yr,yq,yv⟩:Lf)∈lb
   ·have e0:(0:Int)<=fi:=Gx.out.2 Hn;have H5:Hid (insL ⟨yp,yf,yr,yq,yv⟩ (LA j)=LA (j+1)):=hid (by rw [Hq.out.yes j Hi (by rw [HY.out];exact .inl Hn),HY.out]);clear Hn;have Hg:Hid (∀w',Below w6.heap.size w6 w' ->(w'.cell? ⟨wr.heap.size,0,none⟩=some (.slice (some ⟨pb,po,none⟩) yp.length pc)/\ w'.cell? ⟨wr.heap.size,1,none⟩=some (.bool yf)/\ w'.cell? ⟨wr.heap.size,2,none⟩=some (.int .i64 yr)/\ w'.cell? ⟨wr.heap.size,3,none⟩=some (.int .i64 yq)/\ w'.cell? ⟨wr.heap.size,4,none⟩=some (.string yv))):=hid (fun w' b=>by
     have X:=Hh.out.below b Hh.out.lt;exact⟨X.c0,X.c1,X.c2,X.c3,X.c4⟩)
    have Ho:Hid (∀w',Below w6.heap.size w6 w' ->Calls Tryz.prog 49 #[.agg #[.slice (some ⟨pb,po,none⟩) yp.length pc,.bool yf,.int .i64 yr,.int .i64 yq,.string yv]] w' fun e w''=>∃q cap,e=.returned (.agg #[.slice (some ⟨q,0,none⟩) yp.length cap,.bool yf,.int .i64 yr,.int .i64 yq,.string yv])/\ Below w'.heap.size w' w''/\ w'.heap.size<=q/\ q<w''.heap.size/\ Wr w'' q 9 yp.length (fun t=> .string (gS yp t))/\ yp.length<=cap/\ cap<=9223372036854775807):=hid (fun w' b=>by
     obtain⟨Ka,Kb,e,Ht,Gd⟩:=((Gb.out.below H6.out).below b).resolve_left (by have:=Hv.out.1;omega);injection e with e;injection e with e1 e2;subst e1;subst e2;exact l3LeafB pb po yp.length pc ⟨yp,yf,yr,yq,yv⟩ w' rfl (by have:=Hv.out.2;omega) Ht Gd)
    have Hp:Hid (∀w7 q cap,Below w6.heap.size w6 w7 ->w6.heap.size<=q ->q<w7.heap.size ->Wr w7 q 9 yp.length (fun t=> .string (gS yp t)) ->yp.length<=cap/\ cap<=9223372036854775807 ->Calls Tryz.prog 50 #[.slice (some ⟨g,0,none⟩) (LA j).length c,.agg #[.slice (some ⟨q,0,none⟩) yp.length cap,.bool yf,.int .i64 yr,.int .i64 yq,.string yv]] w7 fun e w'=>(∃g' cap' P' Q',e=.returned (.slice (some ⟨g',0,none⟩) ((LA j).length+1) cap')/\ w7.heap.size<=g'/\ LC w' w.heap.size (.slice (some ⟨g',0,none⟩) ((LA j).length+1) cap') (LA (j+1)) P' Q')/\ Below w7.heap.size w7 w'):=hid (fun w7 q cap b7 hq1 hq2 hw hcap=>by
     have hJ:=Hb.out.below b7;have hs:=hJ.low.size;have G8:=Hb.out.low.size;rw [<- H5.out];exact l3PutC g c (LA j) P Q w7 w.heap.size q cap yp yf yr yq yv hJ.lc hs (by have h1:=Hq.out.len j (by omega);have h2:=Gg.out;omega) (fun i hi=>by have:=(Hq.out.pth j (by omega) i hi).2;omega) (by have:=Hv.out.2;omega) ⟨by omega,hq2⟩ hw hcap)
    have Hy:Hid ((LA j).length+1=(LA (j+1)).length):=hid (by rw [<- H5.out,insL_len]);have H0:Hid (wr.heap.size≠t):=hid (fun e=>by
     have h1:=Hh.out.c1;rw [e,Hb.out.o.c1] at h1;cases h1)
    have t0:=(Hb.out.o.below zI.drew Hb.out.o.lt).c0;go_wp2_with fail;refine zR (S:=fun w'=>w'.cell? ⟨wr.heap.size,0,none⟩=some (.slice (some ⟨pb,po,none⟩) yp.length pc)/\ w'.cell? ⟨wr.heap.size,1,none⟩=some (.bool yf)/\ w'.cell? ⟨wr.heap.size,2,none⟩=some (.int .i64 yr)/\ w'.cell? ⟨wr.heap.size,3,none⟩=some (.int .i64 yq)/\ w'.cell? ⟨wr.heap.size,4,none⟩=some (.string yv)) (Hg.out _ zI.drew) (fun qh=> ?_);refine tZ 0 42 ?_;refine tZ 2 44 ?_;refine ready2t (i:=1) (j:=3) (d:=some 43) (d':=some 45) (by kernel_rfl) (by kernel_rfl) (by kernel_rfl) ?_ ?_
    ·
     intro o ho Gf K hK;simp only [gZa,gZb,gZc,gZd] at ho;subst ho;go_simp;refine hK.out _ _ (Hg.out _ zI.drew) (fun qh=> ?_);clear hK K;try simp only [zP]
     clear t0;refine cZ 3 ?_;intro K hK;go_simp;refine(Ho.out _ zI.drew).mono ?_;rintro e w7 ⟨q7,Hj,rfl,b7,He,Hf,Hm,Ha⟩;have Hc:Below w6.heap.size w6 w7:=⟨b7.os,b7.tape,b7.output,b7.size,b7.block⟩;refine hK.out _ _ (Hg.out _ Hc) (fun qh=> ?_);clear hK K;try simp only [zP]
     have Hk:=hid (Hp.out w7 q7 Hj Hc He Hf Hm Ha);clear Hm Ha He Hf;refine cZ 4 ?_;intro K hK;go_simp;refine Hk.out.mono ?_;rintro e w8 ⟨⟨g8,c8,P8,Q8,rfl,Hs,l8⟩,b8⟩;have Hd:=keepS Hc b8;have Hr:=hid (Hb.out.set Hd l8 Hy.out (by have:=Hc.size;omega) (fun i hi=>(Hq.out.pth (j+1) Hi i hi).1));have O8:=Hb.out.o.below Hd Hb.out.o.lt;refine hK.out _ _ (Hg.out _ Hd) (fun qh=> ?_);clear hK K;try simp only [zP]
     refine tZ 5 47 ?_;have o0:=O8.c0;have of:=O8.f 0;have X9:=((Hh.out.below Hd Hh.out.lt).setFar t (.slice (some ⟨g8,0,none⟩) ((LA j).length+1) c8) H0.out);have Hl:=hid (⟨X9.c0,X9.c1,X9.c2,X9.c3,X9.c4⟩:(w8.setCell ⟨t,0,none⟩ (.slice (some ⟨g8,0,none⟩) ((LA j).length+1) c8)).cell? ⟨wr.heap.size,0,none⟩=some (.slice (some ⟨pb,po,none⟩) yp.length pc)/\ (w8.setCell ⟨t,0,none⟩ (.slice (some ⟨g8,0,none⟩) ((LA j).length+1) c8)).cell? ⟨wr.heap.size,1,none⟩=some (.bool yf)/\ (w8.setCell ⟨t,0,none⟩ (.slice (some ⟨g8,0,none⟩) ((LA j).length+1) c8)).cell? ⟨wr.heap.size,2,none⟩=some (.int .i64 yr)/\ (w8.setCell ⟨t,0,none⟩ (.slice (some ⟨g8,0,none⟩) ((LA j).length+1) c8)).cell? ⟨wr.heap.size,3,none⟩=some (.int .i64 yq)/\ (w8.setCell ⟨t,0,none⟩ (.slice (some ⟨g8,0,none⟩) ((LA j).length+1) c8)).cell? ⟨wr.heap.size,4,none⟩=some (.string yv));clear O8 X9;refine cZ 6 ?_;intro K hK;go_simp;refine hK.out _ _ Hl.out (fun qh=> ?_);clear hK K;try simp only [zP]
     refine zD ?_;clear qh b7 Hc b8 Hd l8 Hs o0 of Hk Hp Ho Hg Hl;go_wp2_with fail;go_roundw;case rel=>exact⟨j+1,g8,c8,P8,Q8,Hi,by go_num,Hr⟩
     case measure=>simp [intOf];omega
    ·
     clear t0;intro o ho Gf K hK;simp only [gZa,gZb,gZc,gZd] at ho;subst ho;go_simp;refine(Ho.out _ zI.drew).mono ?_;rintro e w7 ⟨q7,Hj,rfl,b7,He,Hf,Hm,Ha⟩;have Hc:Below w6.heap.size w6 w7:=⟨b7.os,b7.tape,b7.output,b7.size,b7.block⟩;refine hK.out _ _ (Hg.out _ Hc) (fun qh=> ?_);clear hK K;try simp only [zP]
     have t0:=(Hb.out.o.below Hc Hb.out.o.lt).c0;refine cZ 1 ?_;intro K hK;go_simp;refine hK.out _ _ (Hg.out _ Hc) (fun qh=> ?_);clear hK K;try simp only [zP]
     clear t0;have Hk:=hid (Hp.out w7 q7 Hj Hc He Hf Hm Ha);clear Hm Ha He Hf;refine cZ 4 ?_;intro K hK;go_simp;refine Hk.out.mono ?_;rintro e w8 ⟨⟨g8,c8,P8,Q8,rfl,Hs,l8⟩,b8⟩;have Hd:=keepS Hc b8;have Hr:=hid (Hb.out.set Hd l8 Hy.out (by have:=Hc.size;omega) (fun i hi=>(Hq.out.pth (j+1) Hi i hi).1));have O8:=Hb.out.o.below Hd Hb.out.o.lt;refine hK.out _ _ (Hg.out _ Hd) (fun qh=> ?_);clear hK K;try simp only [zP]
     refine tZ 5 47 ?_;have o0:=O8.c0;have of:=O8.f 0;have X9:=((Hh.out.below Hd Hh.out.lt).setFar t (.slice (some ⟨g8,0,none⟩) ((LA j).length+1) c8) H0.out);have Hl:=hid (⟨X9.c0,X9.c1,X9.c2,X9.c3,X9.c4⟩:(w8.setCell ⟨t,0,none⟩ (.slice (some ⟨g8,0,none⟩) ((LA j).length+1) c8)).cell? ⟨wr.heap.size,0,none⟩=some (.slice (some ⟨pb,po,none⟩) yp.length pc)/\ (w8.setCell ⟨t,0,none⟩ (.slice (some ⟨g8,0,none⟩) ((LA j).length+1) c8)).cell? ⟨wr.heap.size,1,none⟩=some (.bool yf)/\ (w8.setCell ⟨t,0,none⟩ (.slice (some ⟨g8,0,none⟩) ((LA j).length+1) c8)).cell? ⟨wr.heap.size,2,none⟩=some (.int .i64 yr)/\ (w8.setCell ⟨t,0,none⟩ (.slice (some ⟨g8,0,none⟩) ((LA j).length+1) c8)).cell? ⟨wr.heap.size,3,none⟩=some (.int .i64 yq)/\ (w8.setCell ⟨t,0,none⟩ (.slice (some ⟨g8,0,none⟩) ((LA j).length+1) c8)).cell? ⟨wr.heap.size,4,none⟩=some (.string yv));clear O8 X9;refine cZ 6 ?_;intro K hK;go_simp;refine hK.out _ _ Hl.out (fun qh=> ?_);clear hK K;try simp only [zP]
     refine zD ?_;clear qh b7 Hc b8 Hd l8 Hs o0 of Hk Hp Ho Hg Hl;go_wp2_with fail;go_roundw;case rel=>exact⟨j+1,g8,c8,P8,Q8,Hi,by go_num,Hr⟩
     case measure=>simp [intOf];omega
   ·have e0:¬(0:Int)<=fi:=fun h=>Hn (Gx.out.1 h);have hh:=hid (fun w7 (b7:Below w6.heap.size w6 w7)=>l2Has x' n' d' R' F' T' yr yq w7 (by omega) ((H4.out.below Hb.out.low).below b7));have y2:=Hh.out.c2;have y3:=Hh.out.c3;have z1:=Hb.out.b.c1;go_wp2_with fail;refine(hh.out w6 zI).mono ?_;rintro e w7 ⟨rfl,b7⟩;have G2:=hid (Hb.out.below b7);have G4:=hid (Hh.out.below b7 Hh.out.lt);have Gw:=hid (keepS H6.out b7);clear b7 y2 y3 z1 hh Hb Hh H6;have Hb:=G2;have Hh:=G4;have H6:=Gw;clear G2 G4 Gw;obtain⟨Kc,Gv⟩:∃Kc,Kc=w6:=⟨_,rfl⟩;subst Gv;obtain⟨w6,Kg⟩:∃w6,w6=w7:=⟨_,rfl⟩;subst Kg;cases hh:hasK R' F' T' yr yq yq n' with
    | false=>
     have H5:Hid (insL ⟨yp,yf,yr,yq,yv⟩ (LA j)=LA (j+1)):=hid (by rw [Hq.out.yes j Hi (by rw [HY.out];exact .inr (fun h=>by unfold hasX at h;rw [hh] at h;cases h)),HY.out]);clear hh Hn;have Hg:Hid (∀w',Below w6.heap.size w6 w' ->(w'.cell? ⟨wr.heap.size,0,none⟩=some (.slice (some ⟨pb,po,none⟩) yp.length pc)/\ w'.cell? ⟨wr.heap.size,1,none⟩=some (.bool yf)/\ w'.cell? ⟨wr.heap.size,2,none⟩=some (.int .i64 yr)/\ w'.cell? ⟨wr.heap.size,3,none⟩=some (.int .i64 yq)/\ w'.cell? ⟨wr.heap.size,4,none⟩=some (.string yv))):=hid (fun w' b=>by
      have X:=Hh.out.below b Hh.out.lt;exact⟨X.c0,X.c1,X.c2,X.c3,X.c4⟩)
     have Ho:Hid (∀w',Below w6.heap.size w6 w' ->Calls Tryz.prog 49 #[.agg #[.slice (some ⟨pb,po,none⟩) yp.length pc,.bool yf,.int .i64 yr,.int .i64 yq,.string yv]] w' fun e w''=>∃q cap,e=.returned (.agg #[.slice (some ⟨q,0,none⟩) yp.length cap,.bool yf,.int .i64 yr,.int .i64 yq,.string yv])/\ Below w'.heap.size w' w''/\ w'.heap.size<=q/\ q<w''.heap.size/\ Wr w'' q 9 yp.length (fun t=> .string (gS yp t))/\ yp.length<=cap/\ cap<=9223372036854775807):=hid (fun w' b=>by
      obtain⟨Ka,Kb,e,Ht,Gd⟩:=((Gb.out.below H6.out).below b).resolve_left (by have:=Hv.out.1;omega);injection e with e;injection e with e1 e2;subst e1;subst e2;exact l3LeafB pb po yp.length pc ⟨yp,yf,yr,yq,yv⟩ w' rfl (by have:=Hv.out.2;omega) Ht Gd)
     have Hp:Hid (∀w7 q cap,Below w6.heap.size w6 w7 ->w6.heap.size<=q ->q<w7.heap.size ->Wr w7 q 9 yp.length (fun t=> .string (gS yp t)) ->yp.length<=cap/\ cap<=9223372036854775807 ->Calls Tryz.prog 50 #[.slice (some ⟨g,0,none⟩) (LA j).length c,.agg #[.slice (some ⟨q,0,none⟩) yp.length cap,.bool yf,.int .i64 yr,.int .i64 yq,.string yv]] w7 fun e w'=>(∃g' cap' P' Q',e=.returned (.slice (some ⟨g',0,none⟩) ((LA j).length+1) cap')/\ w7.heap.size<=g'/\ LC w' w.heap.size (.slice (some ⟨g',0,none⟩) ((LA j).length+1) cap') (LA (j+1)) P' Q')/\ Below w7.heap.size w7 w'):=hid (fun w7 q cap b7 hq1 hq2 hw hcap=>by
      have hJ:=Hb.out.below b7;have hs:=hJ.low.size;have G8:=Hb.out.low.size;rw [<- H5.out];exact l3PutC g c (LA j) P Q w7 w.heap.size q cap yp yf yr yq yv hJ.lc hs (by have h1:=Hq.out.len j (by omega);have h2:=Gg.out;omega) (fun i hi=>by have:=(Hq.out.pth j (by omega) i hi).2;omega) (by have:=Hv.out.2;omega) ⟨by omega,hq2⟩ hw hcap)
     have Hy:Hid ((LA j).length+1=(LA (j+1)).length):=hid (by rw [<- H5.out,insL_len]);have H0:Hid (wr.heap.size≠t):=hid (fun e=>by
      have h1:=Hh.out.c1;rw [e,Hb.out.o.c1] at h1;cases h1)
     have t0:=(Hb.out.o.below zI.drew Hb.out.o.lt).c0;go_wp2_with fail;refine zR (S:=fun w'=>w'.cell? ⟨wr.heap.size,0,none⟩=some (.slice (some ⟨pb,po,none⟩) yp.length pc)/\ w'.cell? ⟨wr.heap.size,1,none⟩=some (.bool yf)/\ w'.cell? ⟨wr.heap.size,2,none⟩=some (.int .i64 yr)/\ w'.cell? ⟨wr.heap.size,3,none⟩=some (.int .i64 yq)/\ w'.cell? ⟨wr.heap.size,4,none⟩=some (.string yv)) (Hg.out _ zI.drew) (fun qh=> ?_);refine tZ 0 42 ?_;refine tZ 2 44 ?_;refine ready2t (i:=1) (j:=3) (d:=some 43) (d':=some 45) (by kernel_rfl) (by kernel_rfl) (by kernel_rfl) ?_ ?_
     ·
      intro o ho Gf K hK;simp only [gZa,gZb,gZc,gZd] at ho;subst ho;go_simp;refine hK.out _ _ (Hg.out _ zI.drew) (fun qh=> ?_);clear hK K;try simp only [zP]
      clear t0;refine cZ 3 ?_;intro K hK;go_simp;refine(Ho.out _ zI.drew).mono ?_;rintro e w7 ⟨q7,Hj,rfl,b7,He,Hf,Hm,Ha⟩;have Hc:Below w6.heap.size w6 w7:=⟨b7.os,b7.tape,b7.output,b7.size,b7.block⟩;refine hK.out _ _ (Hg.out _ Hc) (fun qh=> ?_);clear hK K;try simp only [zP]
      have Hk:=hid (Hp.out w7 q7 Hj Hc He Hf Hm Ha);clear Hm Ha He Hf;refine cZ 4 ?_;intro K hK;go_simp;refine Hk.out.mono ?_;rintro e w8 ⟨⟨g8,c8,P8,Q8,rfl,Hs,l8⟩,b8⟩;have Hd:=keepS Hc b8;have Hr:=hid (Hb.out.set Hd l8 Hy.out (by have:=Hc.size;omega) (fun i hi=>(Hq.out.pth (j+1) Hi i hi).1));have O8:=Hb.out.o.below Hd Hb.out.o.lt;refine hK.out _ _ (Hg.out _ Hd) (fun qh=> ?_);clear hK K;try simp only [zP]
      refine tZ 5 47 ?_;have o0:=O8.c0;have of:=O8.f 0;have X9:=((Hh.out.below Hd Hh.out.lt).setFar t (.slice (some ⟨g8,0,none⟩) ((LA j).length+1) c8) H0.out);have Hl:=hid (⟨X9.c0,X9.c1,X9.c2,X9.c3,X9.c4⟩:(w8.setCell ⟨t,0,none⟩ (.slice (some ⟨g8,0,none⟩) ((LA j).length+1) c8)).cell? ⟨wr.heap.size,0,none⟩=some (.slice (some ⟨pb,po,none⟩) yp.length pc)/\ (w8.setCell ⟨t,0,none⟩ (.slice (some ⟨g8,0,none⟩) ((LA j).length+1) c8)).cell? ⟨wr.heap.size,1,none⟩=some (.bool yf)/\ (w8.setCell ⟨t,0,none⟩ (.slice (some ⟨g8,0,none⟩) ((LA j).length+1) c8)).cell? ⟨wr.heap.size,2,none⟩=some (.int .i64 yr)/\ (w8.setCell ⟨t,0,none⟩ (.slice (some ⟨g8,0,none⟩) ((LA j).length+1) c8)).cell? ⟨wr.heap.size,3,none⟩=some (.int .i64 yq)/\ (w8.setCell ⟨t,0,none⟩ (.slice (some ⟨g8,0,none⟩) ((LA j).length+1) c8)).cell? ⟨wr.heap.size,4,none⟩=some (.string yv));clear O8 X9;refine cZ 6 ?_;intro K hK;go_simp;refine hK.out _ _ Hl.out (fun qh=> ?_);clear hK K;try simp only [zP]
      refine zD ?_;clear qh b7 Hc b8 Hd l8 Hs o0 of Hk Hp Ho Hg Hl;go_wp2_with fail;go_roundw;case rel=>exact⟨j+1,g8,c8,P8,Q8,Hi,by go_num,Hr⟩
      case measure=>simp [intOf];omega
     ·
      clear t0;intro o ho Gf K hK;simp only [gZa,gZb,gZc,gZd] at ho;subst ho;go_simp;refine(Ho.out _ zI.drew).mono ?_;rintro e w7 ⟨q7,Hj,rfl,b7,He,Hf,Hm,Ha⟩;have Hc:Below w6.heap.size w6 w7:=⟨b7.os,b7.tape,b7.output,b7.size,b7.block⟩;refine hK.out _ _ (Hg.out _ Hc) (fun qh=> ?_);clear hK K;try simp only [zP]
      have t0:=(Hb.out.o.below Hc Hb.out.o.lt).c0;refine cZ 1 ?_;intro K hK;go_simp;refine hK.out _ _ (Hg.out _ Hc) (fun qh=> ?_);clear hK K;try simp only [zP]
      clear t0;have Hk:=hid (Hp.out w7 q7 Hj Hc He Hf Hm Ha);clear Hm Ha He Hf;refine cZ 4 ?_;intro K hK;go_simp;refine Hk.out.mono ?_;rintro e w8 ⟨⟨g8,c8,P8,Q8,rfl,Hs,l8⟩,b8⟩;have Hd:=keepS Hc b8;have Hr:=hid (Hb.out.set Hd l8 Hy.out (by have:=Hc.size;omega) (fun i hi=>(Hq.out.pth (j+1) Hi i hi).1));have O8:=Hb.out.o.below Hd Hb.out.o.lt;refine hK.out _ _ (Hg.out _ Hd) (fun qh=> ?_);clear hK K;try simp only [zP]
      refine tZ 5 47 ?_;have o0:=O8.c0;have of:=O8.f 0;have X9:=((Hh.out.below Hd Hh.out.lt).setFar t (.slice (some ⟨g8,0,none⟩) ((LA j).length+1) c8) H0.out);have Hl:=hid (⟨X9.c0,X9.c1,X9.c2,X9.c3,X9.c4⟩:(w8.setCell ⟨t,0,none⟩ (.slice (some ⟨g8,0,none⟩) ((LA j).length+1) c8)).cell? ⟨wr.heap.size,0,none⟩=some (.slice (some ⟨pb,po,none⟩) yp.length pc)/\ (w8.setCell ⟨t,0,none⟩ (.slice (some ⟨g8,0,none⟩) ((LA j).length+1) c8)).cell? ⟨wr.heap.size,1,none⟩=some (.bool yf)/\ (w8.setCell ⟨t,0,none⟩ (.slice (some ⟨g8,0,none⟩) ((LA j).length+1) c8)).cell? ⟨wr.heap.size,2,none⟩=some (.int .i64 yr)/\ (w8.setCell ⟨t,0,none⟩ (.slice (some ⟨g8,0,none⟩) ((LA j).length+1) c8)).cell? ⟨wr.heap.size,3,none⟩=some (.int .i64 yq)/\ (w8.setCell ⟨t,0,none⟩ (.slice (some ⟨g8,0,none⟩) ((LA j).length+1) c8)).cell? ⟨wr.heap.size,4,none⟩=some (.string yv));clear O8 X9;refine cZ 6 ?_;intro K hK;go_simp;refine hK.out _ _ Hl.out (fun qh=> ?_);clear hK K;try simp only [zP]
      refine zD ?_;clear qh b7 Hc b8 Hd l8 Hs o0 of Hk Hp Ho Hg Hl;go_wp2_with fail;go_roundw;case rel=>exact⟨j+1,g8,c8,P8,Q8,Hi,by go_num,Hr⟩
      case measure=>simp [intOf];omega
    | true=>
     have Gs:Hid (JS w w6 t (.slice (some ⟨ab,ao,none⟩) la.length ca) (.slice xa n d) (.slice b lb.length cb) (.slice x' n' d') g c (.slice ra ul.length rc) (LA (j+1)) ul P Q):=hid (by
      rw [Hq.out.no j Hi (by rw [HY.out];exact fun h=>h.elim Hn (fun h=>h hh))];exact Hb.out)
     clear hh Hn;go_wp2_with fail;go_roundw;case rel=>exact⟨j+1,g,c,P,Q,Hi,by go_num,Gs⟩
     case measure=>simp [intOf];omega
  ·obtain rfl:j=la.length:=by omega
   have Ga:Hid (JS w wr t (.slice a la.length ca) (.slice xa n d) (.slice b lb.length cb) (.slice x' n' d') g c (.slice ra ul.length rc) (LB 0) ul P Q):=hid (by rw [Gn.out];exact HS.out);clear HS;go_wp2_with fail;clear a0;try go_frame
   go_loopw [8] (fun i wr=>∃(j g c:Nat) (P Q:Nat ->Nat),j<=lb.length/\ i=.int .i64 j/\ Hid (JS w wr t (.slice a la.length ca) (.slice xa n d) (.slice b lb.length cb) (.slice x' n' d') g c (.slice ra ul.length rc) (LB j) ul P Q)) (fun i _=>lb.length - (intOf i).toNat);case atStart=>exact⟨0,_,_,_,_,Nat.zero_le _,rfl,Ga⟩
   case round=>
    clear Ga;obtain⟨j,g,c,P,Q,hj,rfl,HS⟩:=hrel;have a0:=HS.out.b.c0;by_cases Hi:j<lb.length
    ·have i1:(0:Int)<=(j:Int):=Int.natCast_nonneg _;have i2:(j:Int)<(lb.length:Int):=by omega
     obtain⟨ab,ao,rfl,Gt,Ge⟩:=(H2.out.below HS.out.low).resolve_left (by omega);obtain⟨pa,pc,⟨c0,d0⟩,sg,c1,c2,c3,c4⟩:=Ge j Hi;obtain⟨pb,po,rfl,Hu,Hw⟩:=sg.resolve_left (by have:=(G1.out j Hi).1;omega);have Hx:=G1.out j Hi;obtain⟨y,hy⟩:∃y,gL lb j=y:=⟨_,rfl⟩;rw [hy] at c0 c1 c2 c3 c4 d0 Hw Hx;have HY:=hid hy;obtain⟨yp,yf,yr,yq,yv⟩:=y;dsimp only at c0 c1 c2 c3 c4 d0 Hw Hx;obtain⟨w5,H8⟩:∃w5,wr.alloc (.cells #[.slice (some ⟨pb,po,none⟩) yp.length pc,.bool yf,.int .i64 yr,.int .i64 yq,.string yv] 60)=w5:=⟨_,rfl⟩;have b5:Below wr.heap.size wr w5:=by rw [<- H8];exact zO _ _
     have X5:Bx5 w5 wr.heap.size (.slice (some ⟨pb,po,none⟩) yp.length pc) (.bool yf) (.int .i64 yr) (.int .i64 yq) (.string yv):=by rw [<- H8];exact Bx5.new _ _ _ _ _ _ _
     have Hz:=hid (HS.out.below b5);have Gc:=hid X5;have Gp:=hid d0;have Hv:=hid Hx;have Gb:Hid (SSeg w5 (some ⟨pb,po,none⟩) yp):=hid (.inr ⟨pb,po,rfl,Nat.lt_of_lt_of_le Hu b5.size,fun i hi=>(b5.cell (p:=⟨pb,po+i,none⟩) Hu).trans (Hw i hi)⟩);have x0:=X5.c0;have x1:=X5.c1;have x2:=X5.c2;have x3:=X5.c3;have x4:=X5.c4;clear hy Ge sg Hw Hu Gt b5 X5 d0 Hx HS;have hh:=hid (fun w7 (b7:Below w5.heap.size w5 w7)=>l2Has xa n d R F T yr yq w7 (by omega) ((H3.out.below Hz.out.low).below b7));have z1:=Hz.out.a.c1;go_wp2_with fail;refine(hh.out w5 zI).mono ?_;rintro e w6 ⟨rfl,b6⟩;have Hb:=hid (Hz.out.below b6);have Hh:=hid (Gc.out.below b6 Gc.out.lt);have H6:=hid b6;clear z1 hh b6 x0 x1 x2 x3 x4 a0 c0 c1 c2 c3 c4 H8;cases hh:hasK R F T yr yq yq n with
     | false=>
      have H5:Hid (insL ⟨yp,yf,yr,yq,yv⟩ (LB j)=LB (j+1)):=hid (by rw [H7.out.yes j Hi (by rw [HY.out];exact fun h=>by unfold hasX at h;rw [hh] at h;cases h),HY.out]);clear hh;have Hg:Hid (∀w',Below w6.heap.size w6 w' ->(w'.cell? ⟨wr.heap.size,0,none⟩=some (.slice (some ⟨pb,po,none⟩) yp.length pc)/\ w'.cell? ⟨wr.heap.size,1,none⟩=some (.bool yf)/\ w'.cell? ⟨wr.heap.size,2,none⟩=some (.int .i64 yr)/\ w'.cell? ⟨wr.heap.size,3,none⟩=some (.int .i64 yq)/\ w'.cell? ⟨wr.heap.size,4,none⟩=some (.string yv))):=hid (fun w' b=>by
       have X:=Hh.out.below b Hh.out.lt;exact⟨X.c0,X.c1,X.c2,X.c3,X.c4⟩)
      have Ho:Hid (∀w',Below w6.heap.size w6 w' ->Calls Tryz.prog 49 #[.agg #[.slice (some ⟨pb,po,none⟩) yp.length pc,.bool yf,.int .i64 yr,.int .i64 yq,.string yv]] w' fun e w''=>∃q cap,e=.returned (.agg #[.slice (some ⟨q,0,none⟩) yp.length cap,.bool yf,.int .i64 yr,.int .i64 yq,.string yv])/\ Below w'.heap.size w' w''/\ w'.heap.size<=q/\ q<w''.heap.size/\ Wr w'' q 9 yp.length (fun t=> .string (gS yp t))/\ yp.length<=cap/\ cap<=9223372036854775807):=hid (fun w' b=>by
       obtain⟨Ka,Kb,e,Ht,Gd⟩:=((Gb.out.below H6.out).below b).resolve_left (by have:=Hv.out.1;omega);injection e with e;injection e with e1 e2;subst e1;subst e2;exact l3LeafB pb po yp.length pc ⟨yp,yf,yr,yq,yv⟩ w' rfl (by have:=Hv.out.2;omega) Ht Gd)
      have Hp:Hid (∀w7 q cap,Below w6.heap.size w6 w7 ->w6.heap.size<=q ->q<w7.heap.size ->Wr w7 q 9 yp.length (fun t=> .string (gS yp t)) ->yp.length<=cap/\ cap<=9223372036854775807 ->Calls Tryz.prog 50 #[.slice (some ⟨g,0,none⟩) (LB j).length c,.agg #[.slice (some ⟨q,0,none⟩) yp.length cap,.bool yf,.int .i64 yr,.int .i64 yq,.string yv]] w7 fun e w'=>(∃g' cap' P' Q',e=.returned (.slice (some ⟨g',0,none⟩) ((LB j).length+1) cap')/\ w7.heap.size<=g'/\ LC w' w.heap.size (.slice (some ⟨g',0,none⟩) ((LB j).length+1) cap') (LB (j+1)) P' Q')/\ Below w7.heap.size w7 w'):=hid (fun w7 q cap b7 hq1 hq2 hw hcap=>by
       have hJ:=Hb.out.below b7;have hs:=hJ.low.size;have G8:=Hb.out.low.size;rw [<- H5.out];exact l3PutC g c (LB j) P Q w7 w.heap.size q cap yp yf yr yq yv hJ.lc hs (by have h1:=H7.out.len j (by omega);have h2:=Gg.out;omega) (fun i hi=>by have:=(H7.out.pth j (by omega) i hi).2;omega) (by have:=Hv.out.2;omega) ⟨by omega,hq2⟩ hw hcap)
      have Hy:Hid ((LB j).length+1=(LB (j+1)).length):=hid (by rw [<- H5.out,insL_len]);have H0:Hid (wr.heap.size≠t):=hid (fun e=>by
       have h1:=Hh.out.c1;rw [e,Hb.out.o.c1] at h1;cases h1)
      have t0:=(Hb.out.o.below zI.drew Hb.out.o.lt).c0;go_wp2_with fail;refine zR (S:=fun w'=>w'.cell? ⟨wr.heap.size,0,none⟩=some (.slice (some ⟨pb,po,none⟩) yp.length pc)/\ w'.cell? ⟨wr.heap.size,1,none⟩=some (.bool yf)/\ w'.cell? ⟨wr.heap.size,2,none⟩=some (.int .i64 yr)/\ w'.cell? ⟨wr.heap.size,3,none⟩=some (.int .i64 yq)/\ w'.cell? ⟨wr.heap.size,4,none⟩=some (.string yv)) (Hg.out _ zI.drew) (fun qh=> ?_);refine tZ 0 66 ?_;refine tZ 2 68 ?_;refine ready2t (i:=1) (j:=3) (d:=some 67) (d':=some 69) (by kernel_rfl) (by kernel_rfl) (by kernel_rfl) ?_ ?_
      ·
       intro o ho Gf K hK;simp only [gZa,gZb,gZc,gZd] at ho;subst ho;go_simp;refine hK.out _ _ (Hg.out _ zI.drew) (fun qh=> ?_);clear hK K;try simp only [zP]
       clear t0;refine cZ 3 ?_;intro K hK;go_simp;refine(Ho.out _ zI.drew).mono ?_;rintro e w7 ⟨q7,Hj,rfl,b7,He,Hf,Hm,Ha⟩;have Hc:Below w6.heap.size w6 w7:=⟨b7.os,b7.tape,b7.output,b7.size,b7.block⟩;refine hK.out _ _ (Hg.out _ Hc) (fun qh=> ?_);clear hK K;try simp only [zP]
       have Hk:=hid (Hp.out w7 q7 Hj Hc He Hf Hm Ha);clear Hm Ha He Hf;refine cZ 4 ?_;intro K hK;go_simp;refine Hk.out.mono ?_;rintro e w8 ⟨⟨g8,c8,P8,Q8,rfl,Hs,l8⟩,b8⟩;have Hd:=keepS Hc b8;have Hr:=hid (Hb.out.set Hd l8 Hy.out (by have:=Hc.size;omega) (fun i hi=>(H7.out.pth (j+1) Hi i hi).1));have O8:=Hb.out.o.below Hd Hb.out.o.lt;refine hK.out _ _ (Hg.out _ Hd) (fun qh=> ?_);clear hK K;try simp only [zP]
       refine tZ 5 71 ?_;have o0:=O8.c0;have of:=O8.f 0;have X9:=((Hh.out.below Hd Hh.out.lt).setFar t (.slice (some ⟨g8,0,none⟩) ((LB j).length+1) c8) H0.out);have Hl:=hid (⟨X9.c0,X9.c1,X9.c2,X9.c3,X9.c4⟩:(w8.setCell ⟨t,0,none⟩ (.slice (some ⟨g8,0,none⟩) ((LB j).length+1) c8)).cell? ⟨wr.heap.size,0,none⟩=some (.slice (some ⟨pb,po,none⟩) yp.length pc)/\ (w8.setCell ⟨t,0,none⟩ (.slice (some ⟨g8,0,none⟩) ((LB j).length+1) c8)).cell? ⟨wr.heap.size,1,none⟩=some (.bool yf)/\ (w8.setCell ⟨t,0,none⟩ (.slice (some ⟨g8,0,none⟩) ((LB j).length+1) c8)).cell? ⟨wr.heap.size,2,none⟩=some (.int .i64 yr)/\ (w8.setCell ⟨t,0,none⟩ (.slice (some ⟨g8,0,none⟩) ((LB j).length+1) c8)).cell? ⟨wr.heap.size,3,none⟩=some (.int .i64 yq)/\ (w8.setCell ⟨t,0,none⟩ (.slice (some ⟨g8,0,none⟩) ((LB j).length+1) c8)).cell? ⟨wr.heap.size,4,none⟩=some (.string yv));clear O8 X9;refine cZ 6 ?_;intro K hK;go_simp;refine hK.out _ _ Hl.out (fun qh=> ?_);clear hK K;try simp only [zP]
       refine zD ?_;clear qh b7 Hc b8 Hd l8 Hs o0 of Hk Hp Ho Hg Hl;go_wp2_with fail;go_roundw;case rel=>exact⟨j+1,g8,c8,P8,Q8,Hi,by go_num,Hr⟩
       case measure=>simp [intOf];omega
      ·
       clear t0;intro o ho Gf K hK;simp only [gZa,gZb,gZc,gZd] at ho;subst ho;go_simp;refine(Ho.out _ zI.drew).mono ?_;rintro e w7 ⟨q7,Hj,rfl,b7,He,Hf,Hm,Ha⟩;have Hc:Below w6.heap.size w6 w7:=⟨b7.os,b7.tape,b7.output,b7.size,b7.block⟩;refine hK.out _ _ (Hg.out _ Hc) (fun qh=> ?_);clear hK K;try simp only [zP]
       have t0:=(Hb.out.o.below Hc Hb.out.o.lt).c0;refine cZ 1 ?_;intro K hK;go_simp;refine hK.out _ _ (Hg.out _ Hc) (fun qh=> ?_);clear hK K;try simp only [zP]
       clear t0;have Hk:=hid (Hp.out w7 q7 Hj Hc He Hf Hm Ha);clear Hm Ha He Hf;refine cZ 4 ?_;intro K hK;go_simp;refine Hk.out.mono ?_;rintro e w8 ⟨⟨g8,c8,P8,Q8,rfl,Hs,l8⟩,b8⟩;have Hd:=keepS Hc b8;have Hr:=hid (Hb.out.set Hd l8 Hy.out (by have:=Hc.size;omega) (fun i hi=>(H7.out.pth (j+1) Hi i hi).1));have O8:=Hb.out.o.below Hd Hb.out.o.lt;refine hK.out _ _ (Hg.out _ Hd) (fun qh=> ?_);clear hK K;try simp only [zP]
       refine tZ 5 71 ?_;have o0:=O8.c0;have of:=O8.f 0;have X9:=((Hh.out.below Hd Hh.out.lt).setFar t (.slice (some ⟨g8,0,none⟩) ((LB j).length+1) c8) H0.out);have Hl:=hid (⟨X9.c0,X9.c1,X9.c2,X9.c3,X9.c4⟩:(w8.setCell ⟨t,0,none⟩ (.slice (some ⟨g8,0,none⟩) ((LB j).length+1) c8)).cell? ⟨wr.heap.size,0,none⟩=some (.slice (some ⟨pb,po,none⟩) yp.length pc)/\ (w8.setCell ⟨t,0,none⟩ (.slice (some ⟨g8,0,none⟩) ((LB j).length+1) c8)).cell? ⟨wr.heap.size,1,none⟩=some (.bool yf)/\ (w8.setCell ⟨t,0,none⟩ (.slice (some ⟨g8,0,none⟩) ((LB j).length+1) c8)).cell? ⟨wr.heap.size,2,none⟩=some (.int .i64 yr)/\ (w8.setCell ⟨t,0,none⟩ (.slice (some ⟨g8,0,none⟩) ((LB j).length+1) c8)).cell? ⟨wr.heap.size,3,none⟩=some (.int .i64 yq)/\ (w8.setCell ⟨t,0,none⟩ (.slice (some ⟨g8,0,none⟩) ((LB j).length+1) c8)).cell? ⟨wr.heap.size,4,none⟩=some (.string yv));clear O8 X9;refine cZ 6 ?_;intro K hK;go_simp;refine hK.out _ _ Hl.out (fun qh=> ?_);clear hK K;try simp only [zP]
       refine zD ?_;clear qh b7 Hc b8 Hd l8 Hs o0 of Hk Hp Ho Hg Hl;go_wp2_with fail;go_roundw;case rel=>exact⟨j+1,g8,c8,P8,Q8,Hi,by go_num,Hr⟩
       case measure=>simp [intOf];omega
     | true=>
      have Gs:Hid (JS w w6 t (.slice a la.length ca) (.slice xa n d) (.slice (some ⟨ab,ao,none⟩) lb.length cb) (.slice x' n' d') g c (.slice ra ul.length rc) (LB (j+1)) ul P Q):=hid (by
       rw [H7.out.no j Hi (by rw [HY.out];exact fun h=>h hh)];exact Hb.out)
      clear hh;go_wp2_with fail;go_roundw;case rel=>exact⟨j+1,g,c,P,Q,Hi,by go_num,Gs⟩
      case measure=>simp [intOf];omega
    ·obtain rfl:j=lb.length:=by omega
     rw [Gy.out] at HS;have o0:=HS.out.o.c0;have o1:=HS.out.o.c1;have r0:=HS.out.r.c0;have r1:=HS.out.r.c1;have f0:=HS.out.r.f 0;have f1:=HS.out.r.f 1;have HC:=hid (HS.out.r.set (.slice (some ⟨g,0,none⟩) J.length c) (.slice ra ul.length rc));go_wp2_with fail;have s0:=HC.out.c0;have s1:=HC.out.c1;have hP:∀i,i<J.length ->P i≠w.heap.size+1+1:=fun i hi e=>by
      have hp:=H7.out.pth lb.length zL;rw [Gy.out] at hp;have hw:=(HS.out.lc.pt i hi).2.2.2.1.cell (i:=0) (by have:=(hp i hi).1;omega);rw [e,HS.out.r.c0] at hw;cases hw
     have G7:(Value.slice (some ⟨g,0,none⟩) J.length c).ownBlock≠some (w.heap.size+1+1):=fun e=>by have h1:=own_eq e;have h2:=HS.out.hg;omega
     have G9:(Value.slice ra ul.length rc).ownBlock≠some (w.heap.size+1+1):=fun e=>by have:=HS.out.hv2 _ e;omega
     refine zF (v:=.agg #[.slice (some ⟨g,0,none⟩) J.length c,.slice ra ul.length rc]) (by simp [results,Tryz.results102,go_sem,s0,s1]) ⟨⟨g,c,ra,rc,P,Q,by rw [G3.out],?_,?_⟩,?_⟩
     ·exact(HS.out.lc.set _ _ G7 hP).set _ _ G7 hP
     ·rw [G3.out];exact(HS.out.fr.setFar _ _ G9).setFar _ _ G9
     ·exact(HS.out.low.setCell (by simp;omega) _).setCell (by simp;omega) _
def jnU (S S':Sx):List Rn:=unL S.R S.F S.T S.n S'.R S'.F S'.T S'.n
noncomputable def jnS (S S':Sx):Sx:=⟨jn S.R S.F S.T S.n S.l S'.R S'.F S'.T S'.n S'.l,(jnU S S').length,fun i=>(gR (jnU S S') i).1,fun i=>(gR (jnU S S') i).2.1,fun i=>(gR (jnU S S') i).2.2⟩
noncomputable def stB (S:Sx):Bool:=yes (StOk S.R S.F S.T S.n S.l)
noncomputable def jnF (S S':Sx):Bool:=decide ((jnS S S').l.length<=1000) && decide ((jnS S S').n<=1000)
noncomputable def jnB (S S':Sx):Bool:=stB S && stB S' && jnF S S'
def Sx.mt:Sx:=⟨[],0,fun _=>0,fun _=>0,fun _=>0⟩
noncomputable def jnZ (S S':Sx):Sx:=if jnB S S' then jnS S S' else Sx.mt
theorem stB_t {S:Sx}(h:stB S=true):StOk S.R S.F S.T S.n S.l:=Classical.byContradiction fun hn=>by unfold stB at h;rw [yes_f hn] at h;cases h
theorem stB_f {S:Sx}(h:stB S=false):¬StOk S.R S.F S.T S.n S.l:=fun hn=>by unfold stB at h;rw [yes_t hn] at h;cases h
theorem jnZ_t {S S':Sx}(h:jnB S S'=true):jnZ S S'=jnS S S':=by unfold jnZ;rw [if_pos h]
theorem jnZ_f {S S':Sx}(h:jnB S S'=false):jnZ S S'=Sx.mt:=by unfold jnZ;rw [if_neg (by rw [h];simp)]
def SNc (w:World)(lo:Nat)(a x:Option Addr)(S:Sx):Prop:=∀w':World,w.heap.size<=w'.heap.size ->(∀q,lo<=q ->q<w.heap.size ->w'.heap[q]? =w.heap[q]?) ->LCap w' a S.l/\ RSeg w' x S.n S.R S.F S.T
theorem SNc.at {w:World}{lo:Nat}{a x:Option Addr}{S:Sx}(h:SNc w lo a x S):LCap w a S.l/\ RSeg w x S.n S.R S.F S.T:=h w zL (fun _ _ _=>rfl)
theorem SNc.move {w w1:World}{lo lo':Nat}{a x:Option Addr}{S:Sx}(h:SNc w lo a x S)(hl:lo'<=lo)(hs:w.heap.size<=w1.heap.size)(hq:∀q,lo<=q ->q<w.heap.size ->w1.heap[q]? =w.heap[q]?):SNc w1 lo' a x S:=
 fun w' h1 h2=>h w' (Nat.le_trans hs h1) (fun q h3 h4=>(h2 q (Nat.le_trans hl h3) (Nat.lt_of_lt_of_le h4 hs)).trans (hq q h3 h4))
theorem SNc.below {w w1:World}{lo:Nat}{a x:Option Addr}{S:Sx}(h:SNc w lo a x S)(hb:Below w.heap.size w w1):SNc w1 lo a x S:=h.move zL hb.size (fun q _ h2=>hb.block q h2)
theorem SNc.mt (w:World)(lo:Nat)(a x:Option Addr):SNc w lo a x Sx.mt:=fun w' _ _=>⟨.inl rfl,.inl rfl⟩
theorem LC.lcap {w:World}{lo g n c:Nat}{l:List Lf}{P Q:Nat ->Nat}(h:LC w lo (.slice (some ⟨g,0,none⟩) n c) l P Q)(hn:n=l.length):LCap w (some ⟨g,0,none⟩) l:=by
 refine .inr ⟨g,0,rfl,(h.lt g rfl).2,fun i hi=> ?_⟩;obtain⟨c0,c1,c2,c3,c4⟩:=h.cell hn hi;refine⟨some ⟨P i,0,none⟩,Q i,⟨?_,(h.pt i hi).2.2.2.2⟩,h.seg hi,?_,?_,?_,?_⟩
 ·rw [Nat.zero_add];exact c0
 ·rw [Nat.zero_add];exact c1
 ·rw [Nat.zero_add];exact c2
 ·rw [Nat.zero_add];exact c3
 ·rw [Nat.zero_add];exact c4
theorem jn_at {w:World}{lo g c:Nat}{ra:Option Addr}{rc:Nat}{S S':Sx}{P Q:Nat ->Nat}(h:LC w lo (.slice (some ⟨g,0,none⟩) (jnS S S').l.length c) (jnS S S').l P Q)(hf:FR w lo (.slice ra (jnU S S').length rc) (jnU S S')):SNc w lo (some ⟨g,0,none⟩) ra (jnS S S'):=fun w' h1 h2=>by
 have hL:=h.move h1 h2;have hF:FR w' lo (.slice ra (jnU S S').length rc) (jnU S S'):=own_at5 hf (fun q hq=>h2 q (World.ownsRow.lt hf q hq).1 (World.ownsRow.lt hf q hq).2);obtain⟨a,c',e,s,_,_⟩:=hF.fs;injection e with e1 e2 e3;subst e1;exact⟨hL.lcap rfl,s.rseg⟩
theorem ok_pth {S:Sx}(h:StOk S.R S.F S.T S.n S.l):∀i,i<S.l.length ->1<=(gL S.l i).p.length/\ (gL S.l i).p.length<=8:=fun i hi=>by
 have:=(h.2.2.1 i hi).1;exact⟨this.1.1,this.1.2.1⟩
theorem jn_len {S S':Sx}(hs:StW S.R S.F S.T S.n S.l)(hs':StW S'.R S'.F S'.T S'.n S'.l):(jnS S S').l.length<=2000/\ (jnU S S').length<=4000:=by
 have h1:=hs.2.1;have h2:=hs'.2.1;have hc:=hs.1;have Ha:=hs'.1;constructor
 ·have e:(jnS S S').l=putL (fun x=>¬hasX S.R S.F S.T S.n x) S'.l (putL (fun x=>x∈S'.l \/¬hasX S'.R S'.F S'.T S'.n x) S.l [] S.l.length) S'.l.length:=rfl;rw [e];have q1:=putL_len (P:=fun x=>¬hasX S.R S.F S.T S.n x) (ls:=S'.l) (out:=putL (fun x=>x∈S'.l \/¬hasX S'.R S'.F S'.T S'.n x) S.l [] S.l.length) S'.l.length;have q2:=putL_len (P:=fun x=>x∈S'.l \/¬hasX S'.R S'.F S'.T S'.n x) (ls:=S.l) (out:=[]) S.l.length;simp at q2;omega
 ·have:=unF_len (flat S'.R S'.F S'.T S'.n) (flat S.R S.F S.T S.n);rw [flatR_len,flatR_len] at this;show (unF (flat S.R S.F S.T S.n) (flat S'.R S'.F S'.T S'.n)).length<=4000;omega
theorem l3FitsC (a x:Option Addr)(m n c d:Nat)(w:World)(hm:m<=1048576)(hn:n<=1048576):Calls Tryz.prog 51 #[.agg #[.slice a m c,.slice x n d]] w fun e w'=>e=.returned (.bool (decide (m<=1000) && decide (n<=1000)))/\ Below w.heap.size w w':=by
 obtain⟨W,hW⟩:∃W,w.alloc (.cells #[.slice a m c,.slice x n d] 28)=W:=⟨_,rfl⟩;have b0:Below w.heap.size w W:=by rw [<- hW];exact zO _ _
 have X0:Bx2 W w.heap.size (.slice a m c) (.slice x n d):=by rw [<- hW];exact Bx2.made _ _ _ _
 have HB:=hid b0;have k0:=X0.c0;have k1:=X0.c1;have HE:Hid (∀b:Bool,(b=true↔m<=1000/\ n<=1000) ->(decide (m<=1000) && decide (n<=1000))=b):=hid (fun b hb=>by
  cases b with
  | true=>have:=hb.1 rfl;simp [this.1,this.2]
  | false=>
   cases h:(decide (m<=1000) && decide (n<=1000)) with
   | false=>rfl
   | true=>exact absurd (hb.2 (by simpa using h)) (by simp))
 obtain⟨B,hB⟩:∃B,(decide (m<=1000) && decide (n<=1000))=B:=⟨_,rfl⟩;rw [hB] at HE ⊢;clear b0 X0 hB;by_cases h1:m<=1000
 ·have i1:(m:Int)<=1000:=by omega
  by_cases h2:n<=1000
  ·have i2:(n:Int)<=1000:=by omega
   have HG:=hid (HE.out true ⟨fun _=>⟨h1,h2⟩,fun _=>rfl⟩);clear HE;go_enter Tryz.func51,Tryz.ntmps51;go_wp2_with fail;try rw [hW]
   go_ret;exact⟨ret_b HG.out.symm,HB.out⟩
  ·have i2:¬(n:Int)<=1000:=by omega
   have HG:=hid (HE.out false ⟨fun h=>by simp at h,fun h=>absurd h.2 h2⟩);clear HE;go_enter Tryz.func51,Tryz.ntmps51;go_wp2_with fail;try rw [hW]
   go_ret;exact⟨ret_b HG.out.symm,HB.out⟩
 ·have i1:¬(m:Int)<=1000:=by omega
  have HG:=hid (HE.out false ⟨fun h=>by simp at h,fun h=>absurd h.1 h1⟩);clear HE;go_enter Tryz.func51,Tryz.ntmps51;go_wp2_with fail;try rw [hW]
  go_ret;exact⟨ret_b HG.out.symm,HB.out⟩
theorem specJoinK (sa sx ta tx:Option Addr)(c d c' d':Nat)(S S':Sx)(w:World)(hm:S.Sm)(hm':S'.Sm)(h:SCt w sa sx S)(h':SCt w ta tx S'):
  Calls Tryz.prog 69 #[.agg #[.slice sa S.l.length c,.slice sx S.n d],.agg #[.slice ta S'.l.length c',.slice tx S'.n d']] w fun e w'=>∃a m x t,e=.returned (.tuple #[.agg #[.slice a (jnZ S S').l.length m,.slice x (jnZ S S').n t],.bool (jnB S S')])/\ SNc w' w.heap.size a x (jnZ S S')/\ Below w.heap.size w w'/\ (jnZ S S').l.length<=m/\ m<=9223372036854775807:=by
 obtain⟨W,hW⟩:∃W,((w.alloc (.cells #[.slice sa S.l.length c,.slice sx S.n d] 28)).alloc (.cells #[.slice ta S'.l.length c',.slice tx S'.n d'] 28)).alloc (.cells #[.slice none 0 0,.slice none 0 0] 28)=W:=⟨_,rfl⟩;have b0:Below w.heap.size w W:=by rw [<- hW];exact(below2 _ _ _).alloc (by simp;omega) _
 have A0:Bx2 W w.heap.size (.slice sa S.l.length c) (.slice sx S.n d):=by rw [<- hW];exact((Bx2.made w _ _ _).allocs _).allocs _
 have B0:Bx2 W (w.heap.size+1) (.slice ta S'.l.length c') (.slice tx S'.n d'):=by
  rw [<- hW];have:=Bx2.made (w.alloc (.cells #[.slice sa S.l.length c,.slice sx S.n d] 28)) (.slice ta S'.l.length c') (.slice tx S'.n d') 28;exact(by simpa using this:Bx2 _ (w.heap.size+1) _ _).allocs _
 have R0:Bx2 W (w.heap.size+1+1) (.slice none 0 0) (.slice none 0 0):=by
  rw [<- hW];simpa using Bx2.made ((w.alloc (.cells #[.slice sa S.l.length c,.slice sx S.n d] 28)).alloc (.cells #[.slice ta S'.l.length c',.slice tx S'.n d'] 28)) (.slice none 0 0) (.slice none 0 0) 28
 have zW:W.heap.size=w.heap.size+3:=by rw [<- hW];simp
 have HS:=hid (h.below b0);have Hv:=hid (h'.below b0);have Hm:=hid (specStateOk sa c S.l sx S.n d S.R S.F S.T W hm.l1 hm.p1 hm.n1 HS.out.lf HS.out.rn);have Hh:=hid (fun w1 (b1:Below W.heap.size W w1)=>specStateOk ta c' S'.l tx S'.n d' S'.R S'.F S'.T w1 hm'.l1 hm'.p1 hm'.n1 (Hv.out.below b1).lf (Hv.out.below b1).rn);have Hk:=hid A0;have Hb:=hid B0;have H7:=hid R0;have H2:=hid b0;have Gg:=hid zW;have k0:=A0.c0;have k1:=A0.c1;change Hid (Calls _ _ _ _ fun e w'=>e=.returned (.bool (stB S))/\ _) at Hm;obtain⟨B,hB⟩:∃B,stB S=B:=⟨_,rfl⟩;obtain⟨B',Hy⟩:∃B,stB S'=B:=⟨_,rfl⟩;have Hx:=hid hB;have Hf:=hid Hy;have Hi:Hid (∀w1,Below W.heap.size W w1 ->Calls Tryz.prog 14 #[.agg #[.slice ta S'.l.length c',.slice tx S'.n d']] w1 fun e w'=>e=.returned (.bool B')/\ Below w1.heap.size w1 w'):=hid (fun w1 b1=>by rw [<- Hy];exact Hh.out w1 b1);rw [hB] at Hm;clear b0 A0 B0 R0 zW h h' hB Hy Hh;go_enter Tryz.func69,Tryz.ntmps69;go_wp2_with fail;try rw [hW]
 clear hW;refine Hm.out.mono ?_;rintro e w1 ⟨rfl,b1⟩;have Ho:=hid (H2.out.trans (b1.mono H2.out.size));have H9:=hid b1;have Hc:=hid (H7.out.below b1 H7.out.lt);clear k0 k1 Hm;cases B with
 | false=>
  have HZ:Hid (jnB S S'=false/\ jnZ S S'=Sx.mt):=hid (by
   have e:jnB S S'=false:=by unfold jnB;rw [Hx.out];rfl
   exact⟨e,jnZ_f e⟩)
  clear b1;have r0:=Hc.out.c0;have r1:=Hc.out.c1;have f0:=Hc.out.f 0;have f1:=Hc.out.f 1;have HC:=hid (Hc.out.set (.slice none 0 0) (.slice none 0 0));go_wp2_with fail;have s0:=HC.out.c0;have s1:=HC.out.c1;refine zF (v:=.tuple #[.agg #[.slice none 0 0,.slice none 0 0],.bool false]) (by simp [results,Tryz.results69,go_sem,s0,s1]) ⟨none,0,none,0,by rw [HZ.out.1,HZ.out.2];rfl,?_,?_⟩
  ·rw [HZ.out.2];exact SNc.mt _ _ _ _
  ·exact⟨(Ho.out.setCell (by simp;omega) _).setCell (by simp;omega) _,by rw [HZ.out.2];exact⟨Nat.le_refl _,by omega⟩⟩
 | true=>
  have l0:=(Hb.out.below b1 Hb.out.lt).c0;have l1:=(Hb.out.below b1 Hb.out.lt).c1;clear b1;go_wp2_with fail;refine(Hi.out w1 H9.out).mono ?_;rintro e w2 ⟨rfl,b2⟩;have Hp:=hid (Ho.out.trans (b2.mono Ho.out.size));have Hg:=hid (keepS H9.out b2);have Hd:=hid (Hc.out.below b2 Hc.out.lt);clear b2 l0 l1 Hi;cases B' with
  | false=>
   have HZ:Hid (jnB S S'=false/\ jnZ S S'=Sx.mt):=hid (by
    have e:jnB S S'=false:=by unfold jnB;rw [Hf.out];simp
    exact⟨e,jnZ_f e⟩)
   have r0:=Hd.out.c0;have r1:=Hd.out.c1;have f0:=Hd.out.f 0;have f1:=Hd.out.f 1;have HC:=hid (Hd.out.set (.slice none 0 0) (.slice none 0 0));go_wp2_with fail;have s0:=HC.out.c0;have s1:=HC.out.c1;refine zF (v:=.tuple #[.agg #[.slice none 0 0,.slice none 0 0],.bool false]) (by simp [results,Tryz.results69,go_sem,s0,s1]) ⟨none,0,none,0,by rw [HZ.out.1,HZ.out.2];rfl,?_,?_⟩
   ·rw [HZ.out.2];exact SNc.mt _ _ _ _
   ·exact⟨(Hp.out.setCell (by simp;omega) _).setCell (by simp;omega) _,by rw [HZ.out.2];exact⟨Nat.le_refl _,by omega⟩⟩
  | true=>
   have hs:=stB_t Hx.out;have Hj:=stB_t Hf.out;have hc:=ctxB_iff.1 hs.1;have H1:=ctxB_iff.1 Hj.1;have Hw:=HS.out.below Hg.out;have He:=Hv.out.below Hg.out;have Hs:=hid (l3JoinC sa ta c c' S.l S'.l sx S.n d S.R S.F S.T tx S'.n d' S'.R S'.F S'.T w2 hc.2 H1.2 hc.1 H1.1 hs.2.1 Hj.2.1 (ok_pth hs) (ok_pth Hj) Hw.lf He.lf Hw.rn He.rn);have Hu:Hid ((jnS S S').l.length<=2000/\ (jnU S S').length<=4000):=hid (jn_len hs.w Hj.w);have l0:=(Hk.out.below Hg.out Hk.out.lt).c0;have l1:=(Hk.out.below Hg.out Hk.out.lt).c1;have l2:=(Hb.out.below Hg.out Hb.out.lt).c0;have l3:=(Hb.out.below Hg.out Hb.out.lt).c1;have Hr:Hid (jn S.R S.F S.T S.n S.l S'.R S'.F S'.T S'.n S'.l=(jnS S S').l/\ unL S.R S.F S.T S.n S'.R S'.F S'.T S'.n=jnU S S'):=hid ⟨rfl,rfl⟩;rw [Hr.out.1,Hr.out.2] at Hs;obtain⟨JL,Hz⟩:∃JL,(jnS S S').l.length=JL:=⟨_,rfl⟩;obtain⟨JU,H0⟩:∃JU,(jnU S S').length=JU:=⟨_,rfl⟩;rw [Hz,H0] at Hs Hu;have Hl:=hid Hz;have Ht:=hid H0;clear hs Hj hc H1 Hw He Hz H0 Hr;go_wp2_with fail;refine Hs.out.mono ?_;rintro e w3 ⟨⟨jg,jc,ra,rc,P,Q,rfl,jl,jf⟩,b3⟩;obtain⟨w4,Hn⟩:∃w4,w3.alloc (.cells #[.slice (some ⟨jg,0,none⟩) JL jc,.slice ra JU rc] 28)=w4:=⟨_,rfl⟩;have b4:Below w3.heap.size w3 w4:=by rw [<- Hn];exact zO _ _
   have X4:Bx2 w4 w3.heap.size (.slice (some ⟨jg,0,none⟩) JL jc) (.slice ra JU rc):=by rw [<- Hn];exact Bx2.made _ _ _ _
   have Ge:Hid (SNc w4 w2.heap.size (some ⟨jg,0,none⟩) ra (jnS S S')):=hid (SNc.below (jn_at (by rw [Hl.out];exact jl) (by rw [Ht.out];exact jf)) b4);have H3:=hid (Hp.out.trans ((keepS b3 b4).mono Hp.out.size));have H8:=hid (Hd.out.below (keepS b3 b4) Hd.out.lt);have Hq:=hid (l3FitsC (some ⟨jg,0,none⟩) ra JL JU jc rc w4 (by have:=Hu.out;omega) (by have:=Hu.out;omega));have Ga:=hid X4;have Gc:Hid (w.heap.size+3<=w2.heap.size):=hid (by have h1:=Gg.out;have h2:=Hg.out.size;omega);have x0:=X4.c0;have x1:=X4.c1;have H5:Hid ((decide (JL<=1000) && decide (JU<=1000))=jnF S S'):=hid (by rw [<- Hl.out,<- Ht.out];rfl);rw [H5.out] at Hq;obtain⟨B,hB⟩:∃B,jnF S S'=B:=⟨_,rfl⟩;have H6:=hid hB;rw [hB] at Hq;have Gd:Hid (JL<=jc/\ jc<=9223372036854775807):=hid (by
    rcases jl.row.2 with ⟨e,_⟩|⟨g,Gj,Gk,e,_,_,Gi,Gh,_⟩
    ·cases e
    ·injection e with e1 e2 e3;rw [e3,e2];exact⟨Gi,by unfold maxLen at Gh;omega⟩)
   clear jl jf b3 b4 X4 l0 l1 l2 l3 hB H5;go_wp2_with fail;try rw [Hn]
   clear Hn;refine Hq.out.mono ?_;rintro e w5 ⟨rfl,b5⟩;have H4:=hid (H3.out.trans (b5.mono H3.out.size));have Ha:=hid (H8.out.below b5 H8.out.lt);have Gb:=hid (Ga.out.below b5 Ga.out.lt);have Gf:=hid (Ge.out.below b5);clear x0 x1 b5;cases B with
   | false=>
    have HZ:Hid (jnB S S'=false/\ jnZ S S'=Sx.mt):=hid (by
     have e:jnB S S'=false:=by unfold jnB;rw [H6.out];simp
     exact⟨e,jnZ_f e⟩)
    have r0:=Ha.out.c0;have r1:=Ha.out.c1;have f0:=Ha.out.f 0;have f1:=Ha.out.f 1;have HC:=hid (Ha.out.set (.slice none 0 0) (.slice none 0 0));go_wp2_with fail;have s0:=HC.out.c0;have s1:=HC.out.c1;refine zF (v:=.tuple #[.agg #[.slice none 0 0,.slice none 0 0],.bool false]) (by simp [results,Tryz.results69,go_sem,s0,s1]) ⟨none,0,none,0,by rw [HZ.out.1,HZ.out.2];rfl,?_,?_⟩
    ·rw [HZ.out.2];exact SNc.mt _ _ _ _
    ·exact⟨(H4.out.setCell (by simp;omega) _).setCell (by simp;omega) _,by rw [HZ.out.2];exact⟨Nat.le_refl _,by omega⟩⟩
   | true=>
    have HZ:Hid (jnB S S'=true/\ jnZ S S'=jnS S S'):=hid (by
     have e:jnB S S'=true:=by unfold jnB;rw [H6.out,Hx.out,Hf.out];rfl
     exact⟨e,jnZ_t e⟩)
    have r0:=Ha.out.c0;have r1:=Ha.out.c1;have f0:=Ha.out.f 0;have f1:=Ha.out.f 1;have x0:=Gb.out.c0;have x1:=Gb.out.c1;have HC:=hid (Ha.out.set (.slice (some ⟨jg,0,none⟩) JL jc) (.slice ra JU rc));go_wp2_with fail;have s0:=HC.out.c0;have s1:=HC.out.c1;refine zF (v:=.tuple #[.agg #[.slice (some ⟨jg,0,none⟩) JL jc,.slice ra JU rc],.bool true]) (by simp [results,Tryz.results69,go_sem,s0,s1]) ⟨some ⟨jg,0,none⟩,jc,ra,rc,by rw [HZ.out.1,HZ.out.2,Hl.out,show (jnS S S').n=JU from Ht.out],?_,?_⟩
    ·rw [HZ.out.2];exact Gf.out.move (by have:=Gc.out;omega) (by simp [World.setCell]) (fun q h1 h2=>by
      have:=Gc.out;rw [zH _ _ _ _ (by simp;omega),zH _ _ _ _ (by simp;omega)])
    ·exact⟨(H4.out.setCell (by simp;omega) _).setCell (by simp;omega) _,by rw [HZ.out.2,Hl.out];exact Gd.out⟩
theorem specJoinC (sa sx ta tx:Option Addr)(c d c' d':Nat)(S S':Sx)(w:World)(hm:S.Sm)(hm':S'.Sm)(h:SCt w sa sx S)(h':SCt w ta tx S'):
  Calls Tryz.prog 69 #[.agg #[.slice sa S.l.length c,.slice sx S.n d],.agg #[.slice ta S'.l.length c',.slice tx S'.n d']] w fun e w'=>∃a m x t,e=.returned (.tuple #[.agg #[.slice a (jnZ S S').l.length m,.slice x (jnZ S S').n t],.bool (jnB S S')])/\ SNc w' w.heap.size a x (jnZ S S')/\ Below w.heap.size w w':=
 (specJoinK sa sx ta tx c d c' d' S S' w hm hm' h h').mono fun e w' ⟨a,m,x,t,h1,h2,h3,_⟩=>⟨a,m,x,t,h1,h2,h3⟩
open Go.Maps
theorem jhas_at (R F T:Nat ->Int)(r f t:Int):∀n,hasK R F T r f t n=true ->∃k,k<n/\ R k=r/\ F k<=f/\ t<=T k
 | 0,h=>by simp [hasK] at h
 | n+1,h=>by
  simp only [hasK,Bool.or_eq_true,decide_eq_true_eq] at h;rcases h with h|h
  ·obtain⟨k,hk,r⟩:=jhas_at R F T r f t n h;exact⟨k,by omega,r⟩
  ·exact⟨n,by omega,h⟩
theorem st_bd {R F T:Nat ->Int}{n:Nat}{l:List Lf}(h:StW R F T n l):∀x∈l,(0<=x.r/\ x.r<8)/\ (0<=x.q/\ x.q<=1000000000)/\ x.v.size<=200/\ x.p.length<=8:=fun x hx=>by
 obtain⟨i,hi,e⟩:=gL_mem.1 hx;have Ha:=h.1.1;obtain⟨k,hk,e1,e2,e3⟩:=jhas_at R F T _ _ _ n (h.2.2.1 i hi).2.1;have:=(Ha k hk).1;simp only [runOkB,Bool.and_eq_true,decide_eq_true_eq] at this;have h4:=(h.2.2.1 i hi).1;have h5:=h4.1.2.1;have h6:=h4.2.1;rw [e] at e1 e2 e3 h5 h6;exact⟨by omega,by omega,h6,h5⟩
theorem jn_bd {S S':Sx}(h:StW S.R S.F S.T S.n S.l)(h':StW S'.R S'.F S'.T S'.n S'.l):∀x∈(jnS S S').l,(0<=x.r/\ x.r<8)/\ (0<=x.q/\ x.q<=1000000000)/\ x.v.size<=200/\ x.p.length<=8:=fun x hx=>by
 rcases jn_from x hx with h1|h1
 ·exact st_bd h x h1
 ·exact st_bd h' x h1.1
theorem gL_far {l:List Lf}{i:Nat}(h:¬i<l.length):(gL l i).p=[]:=by simp [gL,List.getD,h]
theorem jnZ_sm (S S':Sx):(jnZ S S').Sm:=by
 cases hb:jnB S S' with
 | false=>rw [jnZ_f hb];exact⟨by simp [Sx.mt],fun i=>by simp [Sx.mt,gL],by simp [Sx.mt]⟩
 | true=>
  rw [jnZ_t hb];have h1:=hb;unfold jnB at h1;simp only [Bool.and_eq_true] at h1;obtain⟨⟨h1,h2⟩,h3⟩:=h1;unfold jnF at h3;simp only [Bool.and_eq_true,decide_eq_true_eq] at h3;refine⟨by omega,fun i=> ?_,by omega⟩;by_cases hi:i<(jnS S S').l.length
  ·have:=(jn_bd (stB_t h1).w (stB_t h2).w _ (gL_mem.2 ⟨i,hi,rfl⟩)).2.2.2;omega
  ·rw [gL_far hi];simp
end Go.Proofs.YtfidfeilljlbiaaGreat
