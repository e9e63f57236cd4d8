import Derived.Test.YtpfmeafmepgimaaGreatFkg19
import Derived.Lib.SlicesCompact
import Derived.Test.YtpfmeafmepgimaaGreatFkg02
import Derived.Test.YtpfmeafmepgimaaGreatFkg06
set_option linter.unusedVariables false
set_option linter.unusedSimpArgs false
set_option maxRecDepth 100000
set_option maxHeartbeats 40000000
namespace Go.Proofs.YtpfmeafmepgimaaGreat
open Go.ChangeShapes Go.WideShapes Go.ChangeAt Go.RowKit Go.Maps Go.Sort Go.Lib Go.Shelf
noncomputable def rV (l:List Lf)(p:List ByteArray):Nat ->List ByteArray
 | 0=>[]
 | k+1=>if yes ((gL l k).fl=false/\ (gL l k).p=p)=true then rV l p k++[(gL l k).v] else rV l p k
theorem rV_mem {l:List Lf}{p:List ByteArray}{s:ByteArray}:∀{k:Nat},s∈rV l p k↔∃j,j<k/\ (gL l j).fl=false/\ (gL l j).p=p/\ (gL l j).v=s
 | 0=>by simp [rV]
 | k+1=>by
  have ih:=rV_mem (l:=l) (p:=p) (s:=s) (k:=k);simp only [rV];by_cases e:(gL l k).fl=false/\ (gL l k).p=p
  ·rw [if_pos (yes_t e),List.mem_append,ih,List.mem_singleton];constructor
   ·rintro(⟨j,hj,r⟩|r)
    ·exact⟨j,by omega,r⟩
    ·exact⟨k,by omega,e.1,e.2,r.symm⟩
   ·rintro⟨j,hj,r1,r2,r3⟩;by_cases ej:j=k
    ·subst ej;exact .inr r3.symm
    ·exact .inl ⟨j,by omega,r1,r2,r3⟩
  ·rw [if_neg (by rw [yes_f e];simp),ih];constructor
   ·rintro⟨j,hj,r⟩;exact⟨j,by omega,r⟩
   ·rintro⟨j,hj,r1,r2,r3⟩;by_cases ej:j=k
    ·subst ej;exact absurd ⟨r1,r2⟩ e
    ·exact⟨j,by omega,r1,r2,r3⟩
theorem Mk_val {l:List Lf}{p:List Ky}{d:Dt}{s:ByteArray}:∀{k:Nat},Dis l k ->(Mk l k p d=some s↔∃j,j<k/\ Way (gL l j)=p/\ ((gL l j).r,(gL l j).q)=d/\ (gL l j).v=s)
 | 0,_=>⟨fun h=>by simp [Mk] at h,fun⟨j,hj,_⟩=>by omega⟩
 | k+1,hd=>by
  have ih:=Mk_val (l:=l) (p:=p) (d:=d) (s:=s) (k:=k) (fun i hi j hj=>hd i (by omega) j hj);simp only [Mk];by_cases e:p=wayOf (gL l k).p (kd (gL l k).fl)
  ·rw [e,updM_same,<- e];by_cases e2:d=((gL l k).r,(gL l k).q)
   ·rw [e2,updF_same];constructor
    ·intro h;injection h with h;exact⟨k,by omega,e.symm,rfl,h⟩
    ·rintro⟨j,hj,r1,r2,r3⟩;by_cases ej:j=k
     ·subst ej;rw [r3]
     ·have:=hd k (by omega) j (by omega);exact absurd ⟨congrArg Prod.fst r2,congrArg Prod.snd r2⟩ this
   ·rw [updF_other _ _ e2,ih];constructor
    ·rintro⟨j,hj,r⟩;exact⟨j,by omega,r⟩
    ·rintro⟨j,hj,r1,r2,r3⟩;by_cases ej:j=k
     ·subst ej;exact absurd r2.symm e2
     ·exact⟨j,by omega,r1,r2,r3⟩
  ·rw [updM_other _ _ _ e,ih];constructor
   ·rintro⟨j,hj,r⟩;exact⟨j,by omega,r⟩
   ·rintro⟨j,hj,r1,r2,r3⟩;by_cases ej:j=k
    ·subst ej;exact absurd r1.symm e
    ·exact⟨j,by omega,r1,r2,r3⟩
end Go.Proofs.YtpfmeafmepgimaaGreat
namespace Go.Proofs.YtpfmeafmepgimaaGreat
open Go.ChangeShapes Go.WideShapes Go.ChangeAt Go.RowKit
noncomputable def dsK (l:List Lf)(p:List ByteArray)(y:Ky):Nat ->List Lf
 | 0=>[]
 | k+1=>if yes (nx p (gL l k)=some y)=true then dsK l p y k++[gL l k] else dsK l p y k
theorem dsK_yes {l:List Lf}{p:List ByteArray}{y:Ky}{k:Nat}(h:nx p (gL l k)=some y):dsK l p y (k+1)=dsK l p y k++[gL l k]:=by simp only [dsK];rw [if_pos (yes_t h)]
theorem dsK_no {l:List Lf}{p:List ByteArray}{y:Ky}{k:Nat}(h:nx p (gL l k)≠some y):dsK l p y (k+1)=dsK l p y k:=by simp only [dsK];rw [if_neg (by rw [yes_f h];simp)]
theorem dsK_mem {l:List Lf}{p:List ByteArray}{y:Ky}{x:Lf}:∀{k:Nat},x∈dsK l p y k↔∃j,j<k/\ nx p (gL l j)=some y/\ gL l j=x
 | 0=>by simp [dsK]
 | k+1=>by
  have ih:=dsK_mem (l:=l) (p:=p) (y:=y) (x:=x) (k:=k);by_cases h:nx p (gL l k)=some y
  ·rw [dsK_yes h,List.mem_append,List.mem_singleton,ih];constructor
   ·rintro(⟨j,hj,e⟩|rfl)
    ·exact⟨j,by omega,e⟩
    ·exact⟨k,by omega,h,rfl⟩
   ·rintro⟨j,hj,e1,e2⟩;by_cases ej:j=k
    ·subst ej;exact .inr e2.symm
    ·exact .inl ⟨j,by omega,e1,e2⟩
  ·rw [dsK_no h,ih];constructor
   ·rintro⟨j,hj,e⟩;exact⟨j,by omega,e⟩
   ·rintro⟨j,hj,e1,e2⟩;by_cases ej:j=k
    ·subst ej;exact absurd e1 h
    ·exact⟨j,by omega,e1,e2⟩
def lfB (k:Int)(x:Lf):List Int:=uvF 9 x.r.toNat++(uvF 9 x.q.toNat++if k=1 then textInts x.v else [])
def mB (ls:List Lf)(k:Int):List Int:=uvF 9 ls.length++ls.flatMap (lfB k)
noncomputable def tB (l:List Lf):Nat ->List ByteArray ->List Int
 | 0,_=>[]
 | f+1,p=>uvF 9 (kS l p l.length).length++(kS l p l.length).flatMap fun y=>textInts y.1++([y.2]++if y.2=3 then tB l f (p++[y.1]) else mB (dsK l p y l.length) y.2)
noncomputable def kB (l:List Lf)(f:Nat)(p:List ByteArray)(y:Ky):List Int:=textInts y.1++([y.2]++if y.2=3 then tB l f (p++[y.1]) else mB (dsK l p y l.length) y.2)
theorem tB_eq (l:List Lf)(f:Nat)(p:List ByteArray):tB l (f+1) p=uvF 9 (kS l p l.length).length++(kS l p l.length).flatMap (kB l f p):=rfl
theorem nx_some {p:List ByteArray}{x:Lf}{y:Ky}:nx p x=some y↔(p <+:x.p/\ p.length<x.p.length)/\ onWay x.p (kd x.fl) p.length=y:=by
 unfold nx;by_cases h:p <+:x.p/\ p.length<x.p.length
 ·rw [if_pos (yes_t h)];simp [h]
 ·rw [if_neg (by rw [yes_f h];simp)];simp [h]
theorem nx_ne {p:List ByteArray}{x:Lf}:nx p x≠none↔p <+:x.p/\ p.length<x.p.length:=by
 unfold nx;by_cases h:p <+:x.p/\ p.length<x.p.length
 ·rw [if_pos (yes_t h)];simp [h]
 ·rw [if_neg (by rw [yes_f h];simp)];simp [h]
theorem kd_or (b:Bool):kd b=1 \/kd b=2:=by cases b<;>simp [kd]
theorem pre_snoc {p q:List ByteArray}{s:ByteArray}:p++[s] <+:q↔(p <+:q/\ p.length<q.length)/\ gS q p.length=s:=by
 constructor
 ·rintro⟨r,rfl⟩;refine⟨⟨⟨s::r,by simp⟩,by simp⟩,?_⟩;simp [gS,List.getD]
 ·rintro⟨⟨⟨r,rfl⟩,h⟩,e⟩;cases r with
  | nil=>simp at h
  | cons t r=>
   simp [gS,List.getD] at e;subst e;exact⟨r,by simp⟩
theorem nx_map {p:List ByteArray}{x:Lf}{s:ByteArray}:nx p x=some (s,3)↔nx (p++[s]) x≠none:=by
 rw [nx_some,nx_ne,pre_snoc];unfold onWay;constructor
 ·rintro⟨h,e⟩;have e1:=congrArg Prod.fst e;have e2:=congrArg Prod.snd e;dsimp only at e1 e2;by_cases hl:p.length+1<x.p.length
  ·exact⟨⟨h,e1⟩,by simpa using hl⟩
  ·rw [if_neg hl] at e2;rcases kd_or x.fl with k|k<;>rw [k] at e2<;>exact absurd e2 (by decide)
 ·rintro⟨⟨h,e⟩,hl⟩;refine⟨h,?_⟩;rw [if_pos (by simpa using hl),e]
theorem nx_leaf {p:List ByteArray}{x:Lf}{y:Ky}(hy:y.2≠3):nx p x=some y↔Way x=wayOf p 3++[y]:=by
 rw [<- nx_iff];constructor
 ·intro h;have h':=nx_iff.1 h;rw [nx_some] at h';obtain⟨⟨_,hl⟩,e⟩:=h';have e2:=congrArg Prod.snd e;unfold onWay at e2;dsimp only at e2;have hl2:¬p.length+1<x.p.length:=fun hh=>by rw [if_pos hh] at e2;exact hy e2.symm
  refine(h.eq_of_length ?_).symm;simp [Way,wayOf_len];omega
 ·intro h;rw [h];exact List.prefix_refl _
theorem nx_leaf_path {p:List ByteArray}{x:Lf}{y:Ky}(hy:y.2≠3)(h:nx p x=some y):x.p=p++[y.1]/\ kd x.fl=y.2:=by
 rw [nx_some] at h;obtain⟨⟨hp,hl⟩,e⟩:=h;have e1:=congrArg Prod.fst e;have e2:=congrArg Prod.snd e;unfold onWay at e1 e2;dsimp only at e1 e2;have hl2:¬p.length+1<x.p.length:=fun hh=>by rw [if_pos hh] at e2;exact hy e2.symm
 rw [if_neg hl2] at e2;exact⟨((pre_snoc.2 ⟨⟨hp,hl⟩,e1⟩).eq_of_length (by simp;omega)).symm,e2⟩
theorem kd_inj {a b:Bool}(h:kd a=kd b):a=b:=by cases a<;>cases b<;>simp [kd] at h ⊢
theorem dsK_sorted {R F T:Nat ->Int}{n:Nat}{l:List Lf}{p:List ByteArray}{y:Ky}(h:LvOk R F T n l l.length)(hy:y.2≠3):∀k,k<=l.length ->((dsK l p y k).map fun x=>((x.r,x.q):Dt)).Pairwise (fun x y=>cmpDt x y<0)
 | 0,_=>by simp [dsK]
 | k+1,hk=>by
  have ih:=dsK_sorted (p:=p) h hy k (by omega);by_cases e:nx p (gL l k)=some y
  ·rw [dsK_yes e,List.map_append];refine List.pairwise_append.2 ⟨ih,by simp,fun a ha b hb=> ?_⟩;simp only [List.map_cons,List.map_nil,List.mem_singleton] at hb;subst hb;obtain⟨x,hx,rfl⟩:=List.mem_map.1 ha;obtain⟨j,hj,e1,rfl⟩:=dsK_mem.1 hx;have hlt:=h.lt (i:=j) k hj (by omega);obtain⟨p1,k1⟩:=nx_leaf_path hy e1;obtain⟨p2,k2⟩:=nx_leaf_path hy e;unfold cmpL at hlt;rw [p1,p2,k1,k2,cmpP_z.2 rfl,show cmpI y.2 y.2=0 from CmpT.int.irr _] at hlt;simpa [orI,cmpD,cmpDt] using hlt
  ·rw [dsK_no e];exact ih
theorem dots_tree {R F T:Nat ->Int}{n:Nat}{l:List Lf}{p:List ByteArray}{y:Ky}{ts:List Dt}(h:LvOk R F T n l l.length)(hy:y.2≠3)(h1:ts.Pairwise (fun x y=>cmpDt x y<0))(h2:∀d,d∈ts↔Mk l l.length (wayOf p 3++[y]) d≠none):ts=(dsK l p y l.length).map fun x=>((x.r,x.q):Dt):=by
 refine CmpT.dot.uniq h1 (dsK_sorted h hy _ (Nat.le_refl _)) fun d=> ?_;rw [h2,Mk_ne,List.mem_map];constructor
 ·rintro⟨j,hj,e1,e2⟩;exact⟨gL l j,dsK_mem.2 ⟨j,hj,(nx_leaf hy).2 e1,rfl⟩,e2⟩
 ·rintro⟨x,hx,e⟩;obtain⟨j,hj,e1,rfl⟩:=dsK_mem.1 hx;exact⟨j,hj,(nx_leaf hy).1 e1,e⟩
theorem mark_tree {l:List Lf}{p:List ByteArray}{y:Ky}{x:Lf}(hy:y.2≠3)(hd:Dis l l.length)(hx:x∈dsK l p y l.length):Mk l l.length (wayOf p 3++[y]) (x.r,x.q)=some x.v:=by
 obtain⟨j,hj,e1,rfl⟩:=dsK_mem.1 hx;exact(Mk_val hd).2 ⟨j,hj,(nx_leaf hy).1 e1,rfl,rfl⟩
theorem way_snoc (p:List ByteArray)(s:ByteArray):wayOf (p++[s]) 3=wayOf p 3++[(s,3)]:=by
 rw [wayOf3,wayOf3,List.length_append,List.length_singleton,List.range_succ,List.map_append];congr 1
 ·refine List.map_congr_left fun i hi=> ?_;rw [gS_take (List.prefix_append p [s]) (by simpa using hi)]
 ·simp [gS,List.getD]
noncomputable def uK (l:List Lf)(p:List ByteArray):Nat ->Nat
 | 0=>0
 | k+1=>uK l p k+(if yes (nx p (gL l k)≠none)=true then 1 else 0)
theorem uK_le (l:List Lf)(p:List ByteArray):∀k,uK l p k<=k
 | 0=>Nat.le_refl _
 | k+1=>by have:=uK_le l p k;simp only [uK];split<;>omega
theorem sum_one (f:Ky ->Nat)(z:Ky):∀ys:List Ky,ys.Nodup ->(ys.map fun y=>f y+if y=z then 1 else 0).sum<=(ys.map f).sum+(if yes (z∈ys)=true then 1 else 0)
 | [],_=>by simp
 | a::r,h=>by
  have ih:=sum_one f z r (List.nodup_cons.1 h).2;have hn:=(List.nodup_cons.1 h).1;simp only [List.map_cons,List.sum_cons];by_cases e:a=z
  ·subst e;rw [yes_f hn] at ih;rw [yes_t (List.mem_cons_self),if_pos rfl,if_pos rfl];simp at ih;omega
  ·rw [if_neg e];have:(z∈a::r)=(z∈r):=by simp [show z≠a from fun h=>e h.symm]
   rw [this];omega
theorem sum_ds (l:List Lf)(p:List ByteArray)(ys:List Ky)(hn:ys.Nodup):∀k,(ys.map fun y=>(dsK l p y k).length).sum<=uK l p k
 | 0=>by
  have:(ys.map fun y=>(dsK l p y 0).length)=ys.map fun _=>0:=by simp [dsK]
  have z0:∀ys:List Ky,(ys.map fun _=>0).sum=0:=fun ys=>by
   induction ys with
   | nil=>rfl
   | cons a r ih=>simp only [List.map_cons,List.sum_cons,ih]
  rw [this,z0];exact Nat.zero_le _
 | k+1=>by
  have ih:=sum_ds l p ys hn k;cases h:nx p (gL l k) with
  | none=>
   have e:(ys.map fun y=>(dsK l p y (k+1)).length)=ys.map fun y=>(dsK l p y k).length:=List.map_congr_left fun y _=>by rw [dsK_no (by rw [h];simp)]
   rw [e];simp only [uK];omega
  | some z=>
   have e:(ys.map fun y=>(dsK l p y (k+1)).length)=ys.map fun y=>(dsK l p y k).length+if y=z then 1 else 0:=List.map_congr_left fun y _=>by
    by_cases ey:y=z
    ·subst ey;rw [dsK_yes h,if_pos rfl];simp
    ·rw [dsK_no (by rw [h];simpa using fun e=>ey e.symm),if_neg ey];omega
   have h1:=sum_one (fun y=>(dsK l p y k).length) z ys hn;have h2:uK l p (k+1)=uK l p k+1:=by simp only [uK];rw [if_pos (yes_t (by rw [h];simp))]
   rw [e,h2];have h3:(if yes (z∈ys)=true then 1 else 0)<=1:=by split<;>omega
   omega
theorem uK_map (l:List Lf)(p:List ByteArray)(s:ByteArray):∀k,uK l (p++[s]) k=(dsK l p (s,3) k).length
 | 0=>rfl
 | k+1=>by
  have ih:=uK_map l p s k;by_cases h:nx p (gL l k)=some (s,3)
  ·rw [dsK_yes h];simp only [uK];rw [if_pos (yes_t (nx_map.1 h)),ih];simp
  ·rw [dsK_no h];simp only [uK];rw [if_neg (by rw [yes_f (fun hh=>h (nx_map.2 hh))];simp),ih];rfl
theorem flat_len {α:Type}(f:α ->List Int)(g:α ->Nat)(C:Nat):∀ys:List α,(∀y∈ys,(f y).length<=C*g y) ->(ys.flatMap f).length<=C*(ys.map g).sum
 | [],_=>by simp
 | a::r,h=>by
  have ih:=flat_len f g C r (fun y hy=>h y (List.mem_cons_of_mem _ hy));have ha:=h a (List.mem_cons_self);simp only [List.flatMap_cons,List.length_append,List.map_cons,List.sum_cons,Nat.mul_add];omega
theorem textInts_len (s:ByteArray):(textInts s).length<=10+s.size:=by
 have:=(uvF_len 9 s.size).1;simp only [textInts,List.length_append,strInts_length];omega
theorem mB_len {ls:List Lf}(k:Int)(h:∀x∈ls,x.v.size<=200):(mB ls k).length<=10+230*ls.length:=by
 have h1:=(uvF_len 9 ls.length).1;have h2:=flat_len (lfB k) (fun _=>1) 230 ls (fun x hx=>by
  have a1:=(uvF_len 9 x.r.toNat).1;have a2:=(uvF_len 9 x.q.toNat).1;have a3:=textInts_len x.v;have a4:=h x hx;unfold lfB;simp only [List.length_append];split
  ·omega
  ·simp;omega)
 have h3:∀ls:List Lf,(ls.map fun _=>1).sum=ls.length:=fun ls=>by
  induction ls with
  | nil=>rfl
  | cons a r ih=>simp only [List.map_cons,List.sum_cons,ih,List.length_cons];omega
 rw [h3] at h2;unfold mB;simp only [List.length_append];omega
theorem nx_name {p:List ByteArray}{x:Lf}{y:Ky}(hx:LfOk1 x)(h:nx p x=some y):y.1.size<=40:=by
 rw [nx_some] at h;obtain⟨⟨_,hl⟩,e⟩:=h;have e1:=congrArg Prod.fst e;unfold onWay at e1;dsimp only at e1;rw [<- e1];exact(hx.1.2.2 _ hl).2
theorem tB_len {R F T:Nat ->Int}{n:Nat}{l:List Lf}(h:LvOk R F T n l l.length):∀f p,(tB l f p).length<=10+(400+100*f)*uK l p l.length
 | 0,p=>by simp [tB]
 | f+1,p=>by
  have ih:=tB_len h f;obtain⟨k1,k2⟩:=kS_ok p h l.length (Nat.le_refl _);have hnd:(kS l p l.length).Nodup:=k1.imp fun{a b} hab e=>by subst e;rw [CmpT.key.irr] at hab;omega
  have h1:=(uvF_len 9 (kS l p l.length).length).1;have h2:=flat_len (kB l f p) (fun y=>(dsK l p y l.length).length) (500+100*f) (kS l p l.length) (fun y hy=>by
   obtain⟨j,hj,e⟩:=(k2 y).1 hy;have hc:1<=(dsK l p y l.length).length:=List.length_pos_of_mem (dsK_mem.2 ⟨j,hj,e,rfl⟩);have t1:=textInts_len y.1;have t2:=nx_name (h j hj).1 e;have key:(if y.2=3 then tB l f (p++[y.1]) else mB (dsK l p y l.length) y.2).length<=10+(400+100*f)*(dsK l p y l.length).length:=by
    by_cases e3:y.2=3
    ·rw [if_pos e3];have:=ih (p++[y.1]);rw [uK_map,show (y.1,(3:Int))=y by rw [<- e3]] at this;exact this
    ·rw [if_neg e3];have:=mB_len (ls:=dsK l p y l.length) y.2 (fun x hx=>by
      obtain⟨i,hi,_,rfl⟩:=dsK_mem.1 hx;exact(h i hi).1.2.1)
     have h5:230*(dsK l p y l.length).length<=(400+100*f)*(dsK l p y l.length).length:=Nat.mul_le_mul_right _ (by omega);omega
   unfold kB;simp only [List.length_append,List.length_singleton];have h6:(500+100*f)*(dsK l p y l.length).length=(400+100*f)*(dsK l p y l.length).length+100*(dsK l p y l.length).length:=by rw [<- Nat.add_mul];congr 1;omega
   omega)
  have h3:=sum_ds l p _ hnd l.length;have h4:(500+100*f)*((kS l p l.length).map fun y=>(dsK l p y l.length).length).sum<=(500+100*f)*uK l p l.length:=Nat.mul_le_mul_left _ h3;rw [tB_eq,List.length_append,show 400+100*(f+1)=500+100*f by omega];omega
def Iv (l:List Lf)(p:List ByteArray)(i e:Nat):Prop:=(∀j,j<l.length ->(nx p (gL l j)≠none↔i<=j/\ j<e))/\ i<=e/\ e<=l.length
theorem Iv.start {l:List Lf}{p:List ByteArray}{i e:Nat}(h:Iv l p i e):∀k,k<=i ->kS l p k=[]
 | 0,_=>rfl
 | k+1,hk=>by
  rw [kS_none]
  ·exact h.start k (by omega)
  ·have:=h.1 k (by have:=h.2;omega);cases e1:nx p (gL l k) with
   | none=>rfl
   | some y=>rw [e1] at this;have:=this.1 (by simp);omega
theorem Iv.stop {l:List Lf}{p:List ByteArray}{i e:Nat}(h:Iv l p i e):∀k,e<=k ->k<=l.length ->kS l p k=kS l p e:=by
 intro k h1 h2;induction k with
 | zero=>rw [show e=0 by omega]
 | succ k ih=>
  by_cases ek:e=k+1
  ·rw [ek]
  ·rw [kS_none,ih (by omega) (by omega)];have:=h.1 k (by omega);cases e1:nx p (gL l k) with
   | none=>rfl
   | some y=>rw [e1] at this;have:=this.1 (by simp);omega
section
variable {R F T : Nat -> Int} {n : Nat} {l : List Lf} {p : List ByteArray} {i e j g : Nat} {y : Ky}
theorem grp_keys (hy:y ∉ kS l p j)(hg:∀t,t<g ->nx p (gL l (j+t))=some y):∀t,t<g ->kS l p (j+(t+1))=kS l p j++[y]
 | 0,h=>by
  show kS l p (j+1)=_;have h0:=hg 0 h;rw [Nat.add_zero] at h0;rw [kS_some h0,if_neg (by rw [yes_f (fun e=>hy (List.mem_of_getLast? e))];simp)]
 | t+1,h=>by
  have ih:=grp_keys hy hg t (by omega);show kS l p (j+(t+1)+1)=_;rw [kS_some (hg (t+1) h),ih,if_pos (yes_t (by simp))]
theorem grp_only (hl:LvOk R F T n l l.length)(hI:Iv l p i e)(hj:i<=j)(hy:y ∉ kS l p j)(h1:1<=g)(hge:j+g<=e)(hg:∀t,t<g ->nx p (gL l (j+t))=some y)(hs:j+g<e ->nx p (gL l (j+g))≠some y):
  ∀t,t<l.length ->(nx p (gL l t)=some y↔j<=t/\ t<j+g):=fun t ht=>by
 have hel:=hI.2.2;constructor
 ·intro ht2;obtain⟨_,k2⟩:=kS_ok p hl j (by omega);refine⟨Nat.le_of_not_lt fun h=>hy ((k2 y).2 ⟨t,h,ht2⟩),Nat.lt_of_not_le fun h=> ?_⟩;have hte:=(hI.1 t ht).1 (by rw [ht2];simp);have hs':=hs (by omega);cases ez:nx p (gL l (j+g)) with
  | none=>have:=(hI.1 (j+g) (by omega)).2 (by omega);exact this ez
  | some z=>
   have hz:z≠y:=fun e=>hs' (by rw [ez,e]);have a1:=nx_order (hl.lt (i:=j+(g - 1)) (j+g) (by omega) (by omega)) (hg (g - 1) (by omega)) ez;have a2:cmpK y z≠0:=fun e=>hz ((CmpT.key.z y z).1 e).symm;by_cases et:t=j+g
   ·subst et;exact hs' ht2
   ·have a3:=nx_order (hl.lt (i:=j+g) t (by omega) ht) ez ht2;have a4:=(CmpT.key.neg y z).1 (by omega);omega
 ·rintro⟨h2,h3⟩;have:=hg (t - j) (by omega);rwa [show j+(t - j)=t by omega] at this
theorem grp_next (hl:LvOk R F T n l l.length)(hI:Iv l p i e)(hy:y ∉ kS l p j)(h1:1<=g)(hge:j+g<=e)(hg:∀t,t<g ->nx p (gL l (j+t))=some y)(hs:j+g<e ->nx p (gL l (j+g))≠some y){z:Ky}(hlt:j+g<e)(hz:nx p (gL l (j+g))=some z):z ∉ kS l p (j+g):=fun hm=>by
 have hel:=hI.2.2;have hk:=grp_keys hy hg (g - 1) (by omega);rw [show j+(g - 1+1)=j+g by omega] at hk;rw [hk,List.mem_append,List.mem_singleton] at hm;have hne:z≠y:=fun e=>hs hlt (by rw [hz,e]);rcases hm with hm|hm
 ·obtain⟨_,k2⟩:=kS_ok p hl j (by omega);obtain⟨t,ht,e1⟩:=(k2 z).1 hm;have h0:=hg 0 (by omega);rw [Nat.add_zero] at h0;have a1:=nx_order (hl.lt (i:=t) j ht (by omega)) e1 h0;have a2:=nx_order (hl.lt (i:=j) (j+g) (by omega) (by omega)) h0 hz;have a3:cmpK z y≠0:=fun e=>hne ((CmpT.key.z z y).1 e);have a4:=(CmpT.key.neg z y).1 (by omega);omega
 ·exact hne hm
theorem grp_list (ho:∀t,t<l.length ->(nx p (gL l t)=some y↔j<=t/\ t<j+g))(hge:j+g<=l.length):dsK l p y l.length=(List.range g).map fun t=>gL l (j+t):=by
 have key:∀k,k<=l.length ->dsK l p y k=(List.range (min (k - j) g)).map fun t=>gL l (j+t):=by
  intro k;induction k with
  | zero=>intro _;simp [dsK]
  | succ k ih=>
   intro hk;have ih:=ih (by omega);by_cases h:nx p (gL l k)=some y
   ·have:=(ho k (by omega)).1 h;rw [dsK_yes h,ih,show min (k+1 - j) g=(k - j)+1 by omega,show min (k - j) g=k - j by omega,List.range_succ,List.map_append];simp [show j+(k - j)=k by omega]
   ·have h2:¬(j<=k/\ k<j+g):=fun hh=>h ((ho k (by omega)).2 hh);rw [dsK_no h,ih];congr 2;omega
 rw [key _ (Nat.le_refl _),show min (l.length - j) g=g by omega]
theorem grp_map {s:ByteArray}(ho:∀t,t<l.length ->(nx p (gL l t)=some (s,3)↔j<=t/\ t<j+g))(hge:j+g<=l.length):Iv l (p++[s]) j (j+g):=
 ⟨fun t ht=>by rw [<- nx_map,ho t ht],by omega,hge⟩
end
theorem wp_app2 {P:Program}{o:Oper}{a:Act}{w w':World}{K:Act ->World ->Prop}{Q:Exit ->Act ->World ->Prop}(s x:Operand)(t u:TypeId)(ho:o.op=.call {callee:=.builtin .append,args:=#[s,x],argTypes:=#[t,u]}){v x' v':Value}{t':TypeId}(hr:(Builtin.append_ #[t,u] t' #[v,x']).run P w=.ok v' w')(hs:a.eval s=v)(hx:a.eval x=x')(ht:o.type=t')(h:K (a.put o.dst v') w'):Oper.wp P o a w K Q:=by
 subst ht;unfold Oper.wp execOp;simp only [ho,resolve,invoke,builtin,Sem.run_bind,Sem.run_pure,Result.andThen_ok,List.map_toArray,List.map_cons,List.map_nil,hs,hx,hr];exact h
theorem wpList_app2 {P:Program}{ops:Array Oper}{rest:List Oper}{o:Oper}{a:Act}{w w':World}{Q:Exit ->Act ->World ->Prop}(hgd:o.guard=none)(s x:Operand)(t u:TypeId)(ho:o.op=.call {callee:=.builtin .append,args:=#[s,x],argTypes:=#[t,u]}){v x' v':Value}{t':TypeId}(hr:(Builtin.append_ #[t,u] t' #[v,x']).run P w=.ok v' w')(hs:a.eval s=v)(hx:a.eval x=x')(ht:o.type=t')(h:wpList P ops Q rest (a.put o.dst v') w'):wpList P ops Q (o::rest) a w:=by
 refine wpList_plain hgd fun K hK=> ?_;exact wp_app2 s x t u ho hr hs hx ht (hK _ _ h)
theorem bytesApp (B:Nat)(v:Value)(zs ns:List Int)(a:Addr)(m c:Nat)(w:World)(ho:Own w B v zs)(hm:ns.length=m)(hn:∀i u,(ns.map (Value.int .u8))[i]? =some u ->w.cell? (a.add i)=some u)(hB:B<=w.heap.size)(hl:zs.length+m<=10000000000):
  ∃v' w',(Builtin.append_ #[22,22] 22 #[v,.slice (some a) m c]).run Tryz.prog w=.ok v' w'/\ Own w' B v' (zs++ns)/\ Gr w w' v v':=by
 obtain⟨i0,hi,hz0,hz1,hz2⟩:=info_parts Tryz.infoByte;have ho':w.ownsRow B 5 1 v zs.length (zs.map (Value.int .u8)):=ho;obtain⟨v',w',hr,h2,h3,h4,h5⟩:=run_append_own_at (P:=Tryz.prog) w B 22 22 5 i0 (.int .u8 0) 1 1 Tryz.underlying22 hi hz0 hz1 hz2 rfl (by decide) v zs.length _ ho' a m c (ns.map (Value.int .u8)) (by simp [hm]) hn (fun u hu=>by obtain⟨z,_,rfl⟩:=List.mem_map.1 hu;rfl) (by unfold maxLen;omega) (by omega) hB;refine⟨v',w',hr,?_,Gr.app h3 h5⟩;unfold Own;rw [List.length_append,List.map_append,hm];exact h2
structure LvB (l:List Lf):Prop where
 rep:∀i,i<l.length ->0<=(gL l i).r/\ (gL l i).r<8
 seq:∀i,i<l.length ->0<=(gL l i).q/\ (gL l i).q<=1000000000
 val:∀i,i<l.length ->(gL l i).v.size<=200
 len:l.length<=1000
 dis:Dis l l.length
end Go.Proofs.YtpfmeafmepgimaaGreat
