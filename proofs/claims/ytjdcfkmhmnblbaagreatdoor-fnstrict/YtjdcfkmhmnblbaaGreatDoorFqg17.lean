import Derived.Test.YtjdcfkmhmnblbaaGreatDoorFqg13
import Derived.Laws.IdiomStrings
import Derived.Test.YtjdcfkmhmnblbaaGreatDoorFqg06
import Derived.Test.YtjdcfkmhmnblbaaGreatDoorFqg16
import Derived.Test.YtjdcfkmhmnblbaaGreatDoorFqg08
set_option linter.unusedVariables false
set_option linter.unusedSimpArgs false
set_option maxRecDepth 100000
set_option maxHeartbeats 40000000
namespace Go.Proofs.YtjdcfkmhmnblbaaGreatDoor
open Go.ChangeShapes Go.WideShapes Go.ChangeAt Go.RowKit
variable {EX : Nat -> Option Value}
def Qb2 (f:Nat ->Int)(p L:Nat):ByteArray:=⟨((List.range L).map fun i=>UInt8.ofNat (f (p+i)).toNat).toArray⟩
theorem Qeq {w:World}{b off p L cap:Nat}{f:Nat ->Int}(hf:Byt f)(hc:∀i,i<L ->w.cell? ⟨b,off+p+i,none⟩=some (.int .u8 (f (p+i)))):
  (convert 22 9 (.slice (some ⟨b,off+p,none⟩) L cap)).run Tryz.prog w=.ok (.string (Qb2 f p L)) w:=by
 have r:((List.range L).map fun i=>UInt8.ofNat (f (p+i)).toNat).length=L:=by simp
 have:=run_convert_bytes_back (P:=Tryz.prog) w 22 9 5 ⟨b,off+p,none⟩ cap ((List.range L).map fun i=>UInt8.ofNat (f (p+i)).toNat) Tryz.underlying22 Tryz.underlying5 Tryz.underlying9 (fun j hj=>by
  have q:j<L:=by simpa using hj
  have e:(Addr.add ⟨b,off+p,none⟩ j)=⟨b,off+p+j,none⟩:=by
   by_cases k:j=0
   ·subst k;simp [Addr.add]
   ·simp [Addr.add,k]
  rw [e,hc j q];have:=hf (p+j);simp only [List.getElem_map,List.getElem_range,Option.some.injEq,Value.int.injEq,true_and];have m:(UInt8.ofNat (f (p+j)).toNat).toNat=(f (p+j)).toNat%256:=by simp
  rw [m];omega)
 rw [r] at this;exact this
theorem Qer {w:World}(ad:Addr)(p cap:Nat)(f:Nat ->Int):(convert 22 9 (.slice (some ad) 0 cap)).run Tryz.prog w=.ok (.string (Qb2 f p 0)) w:=
 run_convert_bytes_back (P:=Tryz.prog) w 22 9 5 ad cap [] Tryz.underlying22 Tryz.underlying5 Tryz.underlying9 (fun j hj=>by simp at hj)
def gtX (f:Nat ->Int)(n m:Nat)(x most:Int):ByteArray×Int×Nat:=
 if (gX f n m x).2.2≠0 then(⟨#[]⟩,x,(gX f n m x).2.2)
 else if most<0 \/most<(gX f n m x).1 then(⟨#[]⟩,x,4)
 else if (n:Int) - (gX f n m x).2.1<(gX f n m x).1 then(⟨#[]⟩,x,1)
 else(Qb2 f (gX f n m x).2.1.toNat (gX f n m x).1,(gX f n m x).2.1+(gX f n m x).1,0)
theorem QoY (a:Option Addr)(n c m:Nat)(x most:Int)(f:Nat ->Int)(w:World)(hn:n<=1048576)(hnc:n<=c)(hf:Byt f)(h:Seg w a n f)(hm:Cnt f n x.toNat m)(hx:(Lit.int .i64 x).wf=true)(hmo:(Lit.int .i64 most).wf=true):
  Calls Tryz.prog 31 #[.slice a n c,.int .i64 x,.int .i64 most] w fun e w'=>e=.returned (.tuple #[.string (gtX f n m x most).1,.int .i64 (gtX f n m x most).2.1,.int .i64 ((gtX f n m x most).2.2:Int)])/\ Below w.heap.size w w':=by
 have Q:=bounds_i64 hx;have D:=bounds_i64 hmo;have E:=hid (QcD hm hf hn Q.1 Q.2);have v:=hid (Qog a n c m x f w hn hf h hm);have H:Hid (gtX f n m x most=gtX f n m x most):=hid rfl;have u:Hid (gtX f n m x most=if (gX f n m x).2.2≠0 then(⟨#[]⟩,x,(gX f n m x).2.2)
   else if most<0 \/most<(gX f n m x).1 then(⟨#[]⟩,x,4)
   else if (n:Int) - (gX f n m x).2.1<(gX f n m x).1 then(⟨#[]⟩,x,1)
   else(Qb2 f (gX f n m x).2.1.toNat (gX f n m x).1,(gX f n m x).2.1+(gX f n m x).1,0)):=hid rfl
 obtain⟨T,z⟩:∃T,gtX f n m x most=T:=⟨_,rfl⟩;have L:=hid z;rw [z];rw [z] at u;clear H z;have s:(gX f n m x).2.2=0 ->0<n:=fun h0=>by
  rcases Nat.eq_zero_or_pos n with y|y
  ·rw [QdJ (by omega)] at h0;simp at h0
  ·exact y
 obtain⟨V,Z⟩:∃V,(gX f n m x).1=V:=⟨_,rfl⟩;obtain⟨A,U⟩:∃A,(gX f n m x).2.1=A:=⟨_,rfl⟩;obtain⟨C,g⟩:∃C,(gX f n m x).2.2=C:=⟨_,rfl⟩;rw [Z,U,g] at u E v;rw [g] at s;clear Z U g hm hx hmo;have t:=E.out;by_cases Y:C=0
 ·subst Y;obtain⟨N,_,O,_⟩:=t;obtain⟨X,B⟩:=O rfl;clear O;obtain⟨q,rfl⟩:∃q:Nat,A=(q:Int):=⟨A.toNat,by omega⟩;have Hc:=s rfl;clear s;by_cases y:most<0
  ·have e:Hid (T=(⟨#[]⟩,x,4)):=by show _=_;rw [u.out];simp [y]
   go_enter Tryz.func31,Tryz.ntmps31;go_wp2_with fail;refine v.mono ?_;rintro e w1 ⟨rfl,j⟩;have k:=hid j;clear j;go_wp2_with fail;go_ret3;exact⟨by rw [e.out];rfl,k.out⟩
  obtain⟨M,rfl⟩:∃M:Nat,most=(M:Int):=⟨most.toNat,by omega⟩;have He:IntKind.u64.wrap (M:Int)=(M:Int):=by rw [IntKind.wrap_u64];omega
  have Hb:decide ((M:Int)<0)=false:=by simp
  by_cases I:M<V
  ·have e:Hid (T=(⟨#[]⟩,x,4)):=by show _=_;rw [u.out];simp [I]
   go_enter Tryz.func31,Tryz.ntmps31;go_wp2_with fail;refine v.mono ?_;rintro e w1 ⟨rfl,j⟩;have k:=hid j;clear j;go_wp2_with fail;go_ret3;exact⟨by rw [e.out];rfl,k.out⟩
  obtain⟨r,hr⟩:∃r:Nat,(r:Int)=(n:Int) - (q:Int):=⟨n - q,by omega⟩;have Hf:IntKind.u64.wrap (IntKind.i64.wrap ((n:Int) - (q:Int)))=(r:Int):=by rw [Qan _ (by omega) (by omega),IntKind.wrap_u64];omega
  have Ha:IntKind.u64.wrap ((n:Int) - (q:Int))=(r:Int):=by rw [IntKind.wrap_u64];omega
  by_cases F:r<V
  ·have e:Hid (T=(⟨#[]⟩,x,1)):=by show _=_;rw [u.out,if_neg (by simp),if_neg (by omega),if_pos (by omega)]
   go_enter Tryz.func31,Tryz.ntmps31;go_wp2_with fail;refine v.mono ?_;rintro e w1 ⟨rfl,j⟩;have k:=hid j;clear j;go_wp2_with fail;go_ret3;exact⟨by rw [e.out];rfl,k.out⟩
  have e:Hid (T=(Qb2 f q V,(q:Int)+(V:Int),0)):=by show _=_;rw [u.out,if_neg (by simp),if_neg (by omega),if_neg (by omega)];simp
  rcases h with h|⟨b,off,rfl,t,G⟩
  ·omega
  have Hd:IntKind.i64.wrap (V:Int)=(V:Int):=Qan _ (by omega) (by omega);have o:∀(W:World),Below w.heap.size w W ->∀cap,Hid ((convert 22 9 (.slice (some ⟨b,off+q,none⟩) V cap)).run Tryz.prog W=.ok (.string (Qb2 f q V)) W):=fun W hW cap=>
   Qeq hf (fun i hi=>by rw [hW.cell (p:=⟨b,_,none⟩) t,Nat.add_assoc];exact G (q+i) (by omega))
  clear G u;by_cases R:q<c
  ·go_enter Tryz.func31,Tryz.ntmps31;go_wp2_with fail;refine v.mono ?_;rintro e w1 ⟨rfl,j⟩;have k:=hid j;have K:=fun cap=>(o w1 j cap).out;clear j o;go_wp2_with fail;go_ret3;exact⟨by rw [e.out];rfl,k.out⟩
  ·have J:V=0:=by omega
   subst J;have S:c<=q:=by omega
   clear o;go_enter Tryz.func31,Tryz.ntmps31;go_wp2_with fail;refine v.mono ?_;rintro e w1 ⟨rfl,j⟩;have k:=hid j;have K:=fun ad cap=>Qer (w:=w1) ad q cap f;clear j;go_wp2_with fail;go_ret3;exact⟨by rw [e.out];rfl,k.out⟩
 ·have e:Hid (T=(⟨#[]⟩,x,C)):=by show _=_;rw [u.out,if_pos Y]
  have P:0<C:=by omega
  go_enter Tryz.func31,Tryz.ntmps31;go_wp2_with fail;refine v.mono ?_;rintro e w1 ⟨rfl,j⟩;have k:=hid j;clear j;go_wp2_with fail;go_ret3;exact⟨by rw [e.out];rfl,k.out⟩
theorem Qi7 {f:Nat ->Int}(hf:Byt f)(i:Nat):((UInt8.ofNat (f i).toNat).toNat:Int)=f i:=by
 have:=hf i;have h:(UInt8.ofNat (f i).toNat).toNat=(f i).toNat:=by simp;omega
 rw [h];omega
theorem QcM (f:Nat ->Int)(p L:Nat):(Qb2 f p L).size=L:=by simp [Qb2,ByteArray.size]
theorem Qb3 {f:Nat ->Int}(hf:Byt f)(p L:Nat):Qa5 (Qb2 f p L)=(List.range L).map fun i=>f (p+i):=by
 unfold Qa5 Qb2;simp only [List.map_map];apply List.map_congr_left;intro i _;exact Qi7 hf (p+i)
theorem Qdo:∀{a b:List UInt8},(a.map fun x=>(x.toNat:Int))=(b.map fun x=>(x.toNat:Int)) ->a=b
 | [],[],_=>rfl
 | [],_::_,h=>by simp at h
 | _::_,[],h=>by simp at h
 | x::a,y::b,h=>by
  simp only [List.map_cons,List.cons.injEq] at h;have e:x=y:=UInt8.toNat_inj.1 (Int.ofNat.inj h.1);rw [e,Qdo h.2]
theorem QgY {s t:ByteArray}(h:Qa5 s=Qa5 t):s=t:=by
 obtain⟨⟨s⟩⟩:=s;obtain⟨⟨t⟩⟩:=t;have e:s=t:=Qdo h;rw [e]
theorem QmV {f:Nat ->Int}(hf:Byt f){p:Nat}{s:ByteArray}(h:At f p (Qa5 s)):Qb2 f p s.size=s:=by
 apply QgY;rw [Qb3 hf];apply List.ext_getElem?;intro i;by_cases k:i<s.size
 ·have:=h i (by rw [Qar];exact k);have j:i<(Qa5 s).length:=by rw [Qar];exact k
  simp [k,j,this,List.getD]
 ·have j:(Qa5 s).length<=i:=by rw [Qar];omega
  rw [List.getElem?_eq_none j,List.getElem?_eq_none (by simp;omega)]
noncomputable def Qcy (f:Nat ->Int)(n x:Nat)(most:Int):Option (ByteArray×Nat):=(rd f n x most).bind fun a=>if a.2+a.1<=n then some (Qb2 f a.2 a.1,a.2+a.1) else none
theorem QcK {f:Nat ->Int}(hf:Byt f){n x:Nat}{most:Int}(hm:most<=1000000){s:ByteArray}{x':Nat}:
  Qcy f n x most=some (s,x')↔(s.size:Int)<=most/\ At f x (Qae s)/\ x'=x+(Qae s).length/\ x'<=n:=by
 unfold Qcy Qae;constructor
 ·intro h;cases j:rd f n x most with
  | none=>rw [j] at h;cases h
  | some a=>
   obtain⟨V,g⟩:=a;rw [j] at h;simp only [Option.bind_some] at h;split at h
   ·rename_i hle;simp only [Option.some.injEq,Prod.mk.injEq] at h;obtain⟨rfl,rfl⟩:=h;obtain⟨y,r,u,v,z⟩:=(Qav hf).1 j;rw [QcM,At.app,Qb3 hf,List.length_append,List.length_map,List.length_range];refine⟨r,⟨u,?_⟩,by omega,hle⟩;rw [<- v];exact Qhi rfl
   ·cases h
 ·rintro⟨j,k,rfl,m⟩;rw [At.app] at k;rw [List.length_append,Qar] at m ⊢;have q:rd f n x most=some (s.size,x+(uvF 9 s.size).length):=(Qav hf).2 ⟨by omega,j,k.1,rfl,by omega⟩;rw [q];simp only [Option.bind_some];rw [if_pos (by omega),QmV hf k.2,Nat.add_assoc]
section
variable (f : Nat -> Int) (n : Nat) (K : Int -> Int -> Bool)
noncomputable def Qeg (kind:Int)(p:List ByteArray)(before:Dt)(acc:List Lf)(x:Nat):Option (Lf×Nat):=
 (rd f n x 7).bind fun a=>(rd f n a.2 1000000000).bind fun b=>
  if yes (Qbh before ((a.1:Int),(b.1:Int))<0/\ K (a.1:Int) (b.1:Int)=true/\ (∀y∈acc,¬(y.r=(a.1:Int)/\ y.q=(b.1:Int)))/\ acc.length≠1000)=true then
   if kind=2 then some (⟨p,true,(a.1:Int),(b.1:Int),ByteArray.empty⟩,b.2) else(Qcy f n b.2 200).bind fun t=>some (⟨p,false,(a.1:Int),(b.1:Int),t.1⟩,t.2)
  else none
noncomputable def QgP (kind:Int)(p:List ByteArray):Nat ->Dt ->List Lf ->Nat ->Option (List Lf×Nat)
 | 0,_,acc,x=>some (acc,x)
 | k+1,before,acc,x=>(Qeg f n K kind p before acc x).bind fun a=>QgP kind p k (a.1.r,a.1.q) (acc++[a.1]) a.2
noncomputable def Qf9 (before:Ky)(x:Nat):Option (Ky×Nat):=(Qcy f n x 40).bind fun a=>if yes (a.1.size≠0/\ a.2<n/\ QbA before (a.1,f a.2)<0)=true then some ((a.1,f a.2),a.2+1) else none
noncomputable def QhE (rec:List ByteArray ->List Lf ->Nat ->Option (List Lf×Nat))(p:List ByteArray)(y:Ky)(acc:List Lf)(x:Nat):Option (List Lf×Nat):=
 if y.2=3 then rec (p++[y.1]) acc x else if y.2=1 \/y.2=2 then(rd f n x 1000).bind fun a=>if a.1=0 then none else QgP f n K y.2 (p++[y.1]) a.1 (0,0) acc a.2 else none
noncomputable def Qjw (rec:List ByteArray ->List Lf ->Nat ->Option (List Lf×Nat))(p:List ByteArray):Nat ->Ky ->List Lf ->Nat ->Option (List Lf×Nat)
 | 0,_,acc,x=>some (acc,x)
 | k+1,before,acc,x=>(Qf9 f n before x).bind fun a=>(QhE f n K rec p a.1 acc a.2).bind fun b=>Qjw rec p k a.1 b.1 b.2
noncomputable def Qcv:Nat ->List ByteArray ->List Lf ->Nat ->Option (List Lf×Nat)
 | 0,_,_,_=>none
 | d+1,p,acc,x=>(rd f n x 1000).bind fun a=>if a.1=0 then(if p.length=0 then some (acc,a.2) else none) else if 8<=p.length then none else Qjw f n K (Qcv d) p a.1 (ByteArray.empty,0) acc a.2
noncomputable def Qif (fl:Bool)(p:List ByteArray)(x:Nat):Option (Lf×Nat):=
 (rd f n x 8).bind fun a=>(rd f n a.2 1000000000).bind fun b=>
  if fl=true then some (⟨p,fl,(a.1:Int),(b.1:Int),ByteArray.empty⟩,b.2) else(Qcy f n b.2 200).bind fun t=>some (⟨p,fl,(a.1:Int),(b.1:Int),t.1⟩,t.2)
noncomputable def QmA (fl:Bool)(p:List ByteArray):Nat ->List Lf ->Nat ->Option (List Lf×Nat)
 | 0,acc,x=>some (acc,x)
 | k+1,acc,x=>(Qif f n fl p x).bind fun a=>QmA fl p k (acc++[a.1]) a.2
noncomputable def QmZ (rec:List ByteArray ->List Lf ->Nat ->Option (List Lf×Nat))(p:List ByteArray)(y:Ky)(acc:List Lf)(x:Nat):Option (List Lf×Nat):=
 if y.2=3 then rec (p++[y.1]) acc x else if y.2=1 \/y.2=2 then(rd f n x 1000).bind fun a=>QmA f n (decide (y.2=2)) (p++[y.1]) a.1 acc a.2 else none
noncomputable def Qit (rec:List ByteArray ->List Lf ->Nat ->Option (List Lf×Nat))(p:List ByteArray):Nat ->List Lf ->Nat ->Option (List Lf×Nat)
 | 0,acc,x=>some (acc,x)
 | k+1,acc,x=>(Qcy f n x 40).bind fun a=>if a.2<n then(QmZ f n rec p (a.1,f a.2) acc (a.2+1)).bind fun b=>Qit rec p k b.1 b.2 else none
noncomputable def Qdu:Nat ->List ByteArray ->List Lf ->Nat ->Option (List Lf×Nat)
 | 0,_,_,_=>none
 | d+1,p,acc,x=>(rd f n x 4000).bind fun a=>if 8<=p.length then none else Qit f n (Qdu d) p a.1 acc a.2
end
theorem Qj0 {f:Nat ->Int}(hf:Byt f){n x:Nat}{m m':Int}(h:m<=m'){a:Nat×Nat}(e:rd f n x m=some a):rd f n x m'=some a:=by
 obtain⟨V,x'⟩:=a;obtain⟨j,q,k⟩:=(Qav hf).1 e;exact(Qav hf).2 ⟨j,by omega,k⟩
section
variable {f : Nat -> Int} {n : Nat} {K : Int -> Int -> Bool}
theorem Qab {α β:Type}{o:Option α}{g:α ->Option β}{b:β}:o.bind g=some b↔∃a,o=some a/\ g a=some b:=by cases o<;>simp
theorem Qm9 (hf:Byt f){kind:Int}(hk:kind=1 \/kind=2){p:List ByteArray}{before:Dt}{acc:List Lf}{x:Nat}{a:Lf×Nat}(h:Qeg f n K kind p before acc x=some a):Qif f n (decide (kind=2)) p x=some a:=by
 unfold Qeg at h;obtain⟨r,k,h⟩:=Qab.1 h;obtain⟨q,j,h⟩:=Qab.1 h;unfold Qif;rw [Qj0 hf (by decide) k];simp only [Option.bind_some];rw [j];simp only [Option.bind_some];split at h
 ·rcases hk with rfl|rfl
  ·simpa using h
  ·simpa using h
 ·cases h
theorem Qjg (hf:Byt f){kind:Int}(hk:kind=1 \/kind=2){p:List ByteArray}:∀(k:Nat) {before:Dt} {acc:List Lf} {x:Nat} {a:List Lf×Nat},QgP f n K kind p k before acc x=some a ->QmA f n (decide (kind=2)) p k acc x=some a
 | 0,_,_,_,_,h=>h
 | k+1,_,_,_,_,h=>by
  unfold QgP at h;obtain⟨b,j,h⟩:=Qab.1 h;unfold QmA;rw [Qm9 hf hk j];exact Qjg hf hk k h
theorem Qm8 (hf:Byt f){r r':List ByteArray ->List Lf ->Nat ->Option (List Lf×Nat)}(hr:∀p acc x a,r p acc x=some a ->r' p acc x=some a){p:List ByteArray}{y:Ky}{acc:List Lf}{x:Nat}{a:List Lf×Nat}(h:QhE f n K r p y acc x=some a):QmZ f n r' p y acc x=some a:=by
 unfold QhE at h;unfold QmZ;split at h
 ·rename_i h3;rw [if_pos h3];exact hr _ _ _ _ h
 ·rename_i h3;rw [if_neg h3];split at h
  ·rename_i h12;rw [if_pos h12];obtain⟨b,j,h⟩:=Qab.1 h;rw [j];simp only [Option.bind_some];split at h
   ·cases h
   ·exact Qjg hf h12 _ h
  ·cases h
theorem Qjf (hf:Byt f){r r':List ByteArray ->List Lf ->Nat ->Option (List Lf×Nat)}(hr:∀p acc x a,r p acc x=some a ->r' p acc x=some a){p:List ByteArray}:∀(k:Nat) {before:Ky} {acc:List Lf} {x:Nat} {a:List Lf×Nat},Qjw f n K r p k before acc x=some a ->Qit f n r' p k acc x=some a
 | 0,_,_,_,_,h=>h
 | k+1,_,_,_,_,h=>by
  unfold Qjw at h;obtain⟨b,j,h⟩:=Qab.1 h;obtain⟨c,m,h⟩:=Qab.1 h;unfold Qf9 at j;obtain⟨t,q,j⟩:=Qab.1 j;split at j
  ·rename_i hy;simp only [Option.some.injEq] at j;subst j;unfold Qit;rw [q];simp only [Option.bind_some];rw [if_pos (Qb9.1 hy).2.1,Qm8 hf hr m];exact Qjf hf hr k h
  ·cases j
theorem Qjh (hf:Byt f):∀(d:Nat) {p:List ByteArray} {acc:List Lf} {x:Nat} {a:List Lf×Nat},Qcv f n K d p acc x=some a ->Qdu f n d p acc x=some a
 | 0,_,_,_,_,h=>by cases h
 | d+1,p,acc,x,a,h=>by
  unfold Qcv at h;obtain⟨b,j,h⟩:=Qab.1 h;unfold Qdu;rw [Qj0 hf (by decide) j];simp only [Option.bind_some];split at h
  ·rename_i h0;split at h
   ·rename_i hp;rw [if_neg (by omega),h0];exact h
   ·cases h
  ·split at h
   ·cases h
   ·rename_i h8;rw [if_neg h8];exact Qjf hf (fun p' acc' x' a' h'=>Qjh hf d h') _ h
end
variable {EX : Nat -> Option Value}
def TxP (EX:Nat ->Option Value)(f:Nat ->Int)(n x:Nat)(most:Int)(cb:Nat)(a:Option Addr)(c:Nat)(w:World)(e:Ending)(w':World):Prop:=w.grownBy w' (some cb)/\
 ((∃s x',Qcy f n x most=some (s,x')/\ e=.returned (.tuple #[.string s,.nilIface])/\ Cur EX w' cb a n c ((x':Nat):Int)) \/
  (Qcy f n x most=none/\∃(t:TypeId) (v:Value) (y:Int),e=.returned (.tuple #[.string ⟨#[]⟩,.iface t v])/\ Cur EX w' cb a n c y))
def TlP (EX:Nat ->Option Value)(f:Nat ->Int)(n x:Nat)(most:Int)(cb:Nat)(a:Option Addr)(c:Nat)(w:World)(e:Ending)(w':World):Prop:=w.grownBy w' (some cb)/\
 ((∃V q:Nat,Qcy f n x most=some (Qb2 f q V,q+V)/\ q+V<=n/\ 0<n/\ e=.returned (.tuple #[.int .i64 (V:Int),.nilIface])/\ Cur EX w' cb a n c (q:Int)) \/
  (Qcy f n x most=none/\∃(t:TypeId) (v:Value) (y:Int),e=.returned (.tuple #[.int .i64 0,.iface t v])/\ Cur EX w' cb a n c y))
theorem QmP {f:Nat ->Int}(hf:Byt f){n x:Nat}{most:Int}{V q:Nat}(h:rd f n x most=some (V,q)):q<=n/\ 0<q:=by
 obtain⟨_,_,_,j,k⟩:=(Qav hf).1 h;have:0<(uvF 9 V).length:=by
  cases e:uvF 9 V with
  | nil=>unfold uvF at e;split at e<;>cases e
  | cons a l=>simp
 omega
theorem QkQ (cb B:Nat)(a:Option Addr)(n c x:Nat)(most:Int)(f:Nat ->Int)(aT aS aL aE:Addr)(w:World)(hn:n<=1048576)(hf:Byt f)(h:Seg w a n f)(hcur:Cur EX w cb a n c (x:Int))(hE:QcQ w B aT aS aL aE)(hBc:B<=cb)(hne:∀y,a=some y ->y.block≠cb)(hm0:0<=most)(hm1:most<=1000000):
  Calls Tryz.prog 149 #[.pointer (some ⟨cb,0,none⟩),.int .i64 most] w fun e w'=>TlP EX f n x most cb a c w e w':=by
 have O:=hid (uvC cb B a n c (x:Int) f aT aS aL aE w hn hf hcur h hne hE hBc);have s:=hid hE;have Q:=hid hf;have C:=hcur.lt;have N:B<=w.heap.size:=by omega
 clear h hcur hE hf;go_enter Tryz.func149,Tryz.ntmps149;go_wp2_with fail;refine O.mono ?_;rintro e w1 ⟨b,Y⟩;have i:=hid b;have A:=hid (s.below ((Below.refl B w).grown b (by omega) (fun k hk=>by injection hk with hk;omega)));clear b O s;rcases Y with ⟨V,q,X,z,rfl,o⟩|⟨z,t,v,y,rfl,o⟩
 ·have p:=z most;rw [Qa4] at p;have u:=hid p;have F:q<=n/\ 0<q:=by
   have:=z 18446744073709551616;rw [Qa4,if_pos (by omega)] at this;exact QmP Q.out this
  clear z p;have g:=hid o;obtain⟨Z,G,H,I⟩:=o;clear I;obtain⟨M,rfl⟩:∃M:Nat,most=(M:Int):=⟨most.toNat,by omega⟩;have S:IntKind.u64.wrap (M:Int)=(M:Int):=by rw [IntKind.wrap_u64];omega
  have D:decide ((M:Int)<0)=false:=by simp
  by_cases K:M<V
  ·have m:Hid (Qcy f n x (M:Int)=none):=hid (by unfold Qcy;rw [u.out,if_neg (by omega)];rfl);obtain⟨lv,J⟩:=A.x0;clear Z G H u;go_wp2_with fail;go_quiet (fail);go_wp2_with fail;go_ret2;exact⟨i.andThen (Qa3 _ _ _) (fun j hj=> .inr hj),.inr ⟨m.out,_,_,_,rfl,g.out⟩⟩
  obtain⟨r,P⟩:∃r:Nat,(r:Int)=(n:Int) - (q:Int):=⟨n - q,by omega⟩;have T:IntKind.u64.wrap (IntKind.i64.wrap ((n:Int) - (q:Int)))=(r:Int):=by rw [Qan _ (by omega) (by omega),IntKind.wrap_u64];omega
  have W:IntKind.u64.wrap ((n:Int) - (q:Int))=(r:Int):=by rw [IntKind.wrap_u64];omega
  by_cases L:r<V
  ·have m:Hid (Qcy f n x (M:Int)=none):=hid (by
    unfold Qcy;rw [u.out,if_pos (by omega)];show (if q+V<=n then some (Qb2 f q V,q+V) else none)=none;rw [if_neg (by omega)])
   have U:=A.gE;clear u;go_wp2_with fail;go_quiet (fail);go_wp2_with fail;go_quiet (fail);go_wp2_with fail;go_ret2;simp only [World.drewN_drewN];exact⟨i.andThen (Qa3 _ _ _) (fun j hj=> .inr hj),.inr ⟨m.out,_,_,_,rfl,g.out⟩⟩
  have m:Hid (Qcy f n x (M:Int)=some (Qb2 f q V,q+V)):=hid (by
   unfold Qcy;rw [u.out,if_pos (by omega)];show (if q+V<=n then some (Qb2 f q V,q+V) else none)=_;rw [if_pos (by omega)])
  have R:IntKind.i64.wrap (V:Int)=(V:Int):=Qan _ (by omega) (by omega);have E:Hid (q+V<=n/\ 0<n):=hid ⟨by omega,by omega⟩;clear u;go_wp2_with fail;go_quiet (fail);go_wp2_with fail;go_ret2;exact⟨i.andThen (Qa3 _ _ _) (fun j hj=> .inr hj),.inl ⟨V,q,m.out,E.1,E.2,rfl,g.out⟩⟩
 ·have m:Hid (Qcy f n x most=none):=hid (by unfold Qcy;rw [<- Qa4,z most];rfl);have g:=hid o;clear z o;go_wp2_with fail;go_ret2;exact⟨i.out,.inr ⟨m.out,_,_,_,rfl,g.out⟩⟩
theorem Qok (cb B:Nat)(a:Option Addr)(n c x:Nat)(most:Int)(f:Nat ->Int)(aT aS aL aE:Addr)(w:World)(hn:n<=1048576)(hnc:n<=c)(hcc:c<=9223372036854775807)(hf:Byt f)(h:Seg w a n f)(hcur:Cur EX w cb a n c (x:Int))(hE:QcQ w B aT aS aL aE)(hBc:B<=cb)(hne:∀y,a=some y ->y.block≠cb)(hm0:0<=most)(hm1:most<=1000000):
  Calls Tryz.prog 124 #[.pointer (some ⟨cb,0,none⟩),.int .i64 most] w fun e w'=>TxP EX f n x most cb a c w e w':=by
 have O:=hid (QkQ cb B a n c x most f aT aS aL aE w hn hf h hcur hE hBc hne hm0 hm1);have T:=hcur.lt;have N:=hid h;have L:=hid hf;obtain⟨I,J,K,p⟩:=hcur;clear h hE hf p;go_enter Tryz.func124,Tryz.ntmps124;go_wp2_with fail;refine O.mono ?_;rintro e w1 ⟨z,C⟩;have E:=hid z;have z1:=z.size;clear z O I J K;have Q:=fun(o:Obj)=>zO w1 o;rcases C with ⟨V,q,Y,Hf,Hd,rfl,r⟩|⟨Z,t,v,y,rfl,r⟩;rotate_left
 ·have X:=hid Z;have u:=hid r;clear Z r;go_wp2_with fail;go_ret2;exact⟨Qag E.out (Q _),.inr ⟨X.out,_,_,_,rfl,u.below (Q _) u.lt⟩⟩
 ·have A:=hid Y;clear Y;have u:=hid r;obtain⟨I,J,K,p⟩:=r;have Hi:IntKind.i64.wrap (V:Int)=(V:Int):=Qan _ (by omega) (by omega);have Hj:IntKind.i64.wrap ((q:Int)+(V:Int))=(q:Int)+(V:Int):=Qan _ (by omega) (by omega);obtain⟨W,m⟩:∃W,w1.setCell ⟨cb,1,none⟩ (.int .i64 ((q:Int)+(V:Int)))=W:=⟨_,rfl⟩;rcases N.out with h|⟨b,off,rfl,D,G⟩
  ·omega
  have F:=hne _ rfl;have U:Cur EX W cb (some ⟨b,off,none⟩) n c ((q:Int)+(V:Int)):=by rw [<- m];exact u.set _
  have s:=hid U;obtain⟨j0,j1,j2,R⟩:=U;have g:=hid (show w.grownBy W (some cb) from by rw [<- m];exact Qaf E.out (QdL (Qbm _ _) _));have H:∀i,i<V ->W.cell? ⟨b,off+q+i,none⟩=some (.int .u8 (f (q+i))):=fun i hi=>by
   rw [World.cell?_of_block (g.block b D (by simp;exact F)),Nat.add_assoc];exact G (q+i) (by omega)
  have P:∀k cap,(convert 22 9 (.slice (some ⟨b,off+q,none⟩) V cap)).run Tryz.prog (W.drewN k)=.ok (.string (Qb2 f q V)) (W.drewN k):=fun k cap=>Qeq L.out (fun i hi=>H i hi);clear G H;have He:(0:Int)<=(q:Int):=Int.natCast_nonneg _;have Hg:(q:Int)<=(q:Int)+(V:Int):=by omega
  have Hh:(q:Int)+(V:Int)<=(c:Int):=by omega
  clear p R;have M:Hid (((q+V:Nat):Int)=(q:Int)+(V:Int)):=hid (by push_cast;rfl);by_cases Hc:q<c
  ·go_wp2_with fail;try rw [m]
   clear m;go_quiet (fail);go_wp2_with fail;go_ret2;exact⟨g.andThen (Qa3 _ _ _) (fun j hj=> .inr hj),.inl ⟨_,_,A.out,rfl,by rw [M.out];exact s.out⟩⟩
  ·have S:V<=0:=by omega
   have Ha:c<=q:=by omega
   have Hb:∀k ad cap,(convert 22 9 (.slice (some ad) V cap)).run Tryz.prog (W.drewN k)=.ok (.string (Qb2 f q V)) (W.drewN k):=fun k ad cap=>by
    obtain rfl:V=0:=by omega
    exact Qer (w:=W.drewN k) ad q cap f
   clear P;go_wp2_with fail;try rw [m]
   clear m;go_quiet (fail);go_wp2_with fail;go_ret2;exact⟨g.andThen (Qa3 _ _ _) (fun j hj=> .inr hj),.inl ⟨_,_,A.out,rfl,by rw [M.out];exact s.out⟩⟩
variable {EX : Nat -> Option Value}
theorem Seg.grown {w w1:World}{a:Option Addr}{n cb:Nat}{f:Nat ->Int}(h:Seg w a n f)(g:w.grownBy w1 (some cb))(hab:∀y,a=some y ->y.block≠cb):Seg w1 a n f:=by
 rcases h with h|⟨b,off,rfl,j,k⟩
 ·exact .inl h
 ·refine .inr ⟨b,off,rfl,Nat.lt_of_lt_of_le j g.size,fun i hi=> ?_⟩;rw [World.cell?_of_block (g.block b j (by have:=hab _ rfl;simpa using this))];exact k i hi
theorem QcQ.grown {w w1:World}{B cb:Nat}{aT aS aL aE:Addr}(h:QcQ w B aT aS aL aE)(g:w.grownBy w1 (some cb))(hBc:B<=cb)(hcl:cb<w.heap.size):QcQ w1 B aT aS aL aE:=
 h.below ((Below.refl B w).grown g (by omega) (fun k hk=>by injection hk with hk;omega))
noncomputable def Qei (f:Nat ->Int)(n:Nat)(least:Int)(x:Nat):Option ((Int×Int)×Nat):=
 (rd f n x (1000000000 - least)).bind fun a=>(rd f n a.2 (1000000000 - (least+(a.1:Int)))).bind fun b=>some ((least+(a.1:Int),least+(a.1:Int)+(b.1:Int)),b.2)
theorem Qci (f:Nat ->Int)(n k:Nat)(least:Int)(x:Nat):Qa0 f n (k+1) least x=(Qei f n least x).bind fun a=>(Qa0 f n k (a.1.2+2) a.2).bind fun b=>some (a.1::b.1,b.2):=by
 unfold Qei;rw [Qa0];cases h1:rd f n x (1000000000 - least) with
 | none=>rfl
 | some a=>
  simp only [Option.bind_eq_bind,Option.bind_some];cases h2:rd f n a.2 (1000000000 - (least+(a.1:Int))) with
  | none=>rfl
  | some b=>rfl
theorem QmX {w w2:World}{cb n c:Nat}{a:Option Addr}{y:Int}{u0 u1:Value}(v0 v1:Value)(g:w.grownBy w2 (some cb))(cu:Cur EX w2 cb a n c y)(hcl:cb<w.heap.size)
  (k0:w2.cell? ⟨w.heap.size,0,none⟩=some u0) (k1:w2.cell? ⟨w.heap.size,1,none⟩=some u1):
  ∃Z,Z=(w2.setCell ⟨w.heap.size,0,none⟩ v0).setCell ⟨w.heap.size,1,none⟩ v1/\ Z.cell? ⟨w.heap.size,0,none⟩=some v0/\ Z.cell? ⟨w.heap.size,1,none⟩=some v1/\ w.grownBy Z (some cb)/\ Cur EX Z cb a n c y:=by
 refine⟨_,rfl,?_,?_,?_,?_,?_,?_⟩
 ·rw [World.cell?_setCell_other _ _ _ _ (by simp)];exact World.cell?_setCell_same _ _ _ k0
 ·have j:(w2.setCell ⟨w.heap.size,0,none⟩ v0).cell? ⟨w.heap.size,1,none⟩=some u1:=by
   rw [World.cell?_setCell_other _ _ _ _ (by simp)];exact k1
  exact World.cell?_setCell_same _ _ _ j
 ·refine⟨g.os,g.tape,g.output,?_,fun k hk hne=> ?_⟩
  ·have:=g.size;simpa [World.setCell] using this
  ·exact((zH _ _ _ _ (fun e=>by first|omega|(simp at e;omega))).trans (zH _ _ _ _ (fun e=>by first|omega|(simp at e;omega)))).trans (g.block k hk hne)
 ·rw [World.cell?_setCell_far _ _ _ _ (by simp;omega),World.cell?_setCell_far _ _ _ _ (by simp;omega)];exact cu.1
 ·rw [World.cell?_setCell_far _ _ _ _ (by simp;omega),World.cell?_setCell_far _ _ _ _ (by simp;omega)];exact cu.2.1
 ·rw [World.frozen?_setCell,World.frozen?_setCell];exact⟨cu.2.2.1,fun i hi=>by rw [World.cell?_setCell_far _ _ _ _ (by simp;omega),World.cell?_setCell_far _ _ _ _ (by simp;omega),World.frozen?_setCell,World.frozen?_setCell];exact cu.2.2.2 i hi⟩
theorem QoX (cb B:Nat)(a:Option Addr)(n c x:Nat)(least:Int)(f:Nat ->Int)(aT aS aL aE:Addr)(w:World)(hn:n<=1048576)(hf:Byt f)(hcur:Cur EX w cb a n c (x:Int))(hs:Seg w a n f)(hab:∀y,a=some y ->y.block≠cb)(hE:QcQ w B aT aS aL aE)(hBc:B<=cb)
  (hl0:1<=least) (hl1:least<=1000000002):
  Calls Tryz.prog 148 #[.pointer (some ⟨cb,0,none⟩),.int .i64 least] w fun e w'=>w.grownBy w' (some cb)/\
   ((∃(s t:Int) (x':Nat),Qei f n least x=some ((s,t),x')/\ least<=s/\ s<=t/\ t<=1000000000/\ e=.returned (.tuple #[.agg #[.int .i64 s,.int .i64 t],.nilIface])/\ Cur EX w' cb a n c (x':Int)) \/
    (Qei f n least x=none/\∃(t:TypeId) (v:Value) (y:Int),e=.returned (.tuple #[.agg #[.int .i64 0,.int .i64 0],.iface t v])/\ Cur EX w' cb a n c y)):=by
 have o:=hcur.lt;obtain⟨W,j⟩:∃W,w.alloc (.cells #[.int .i64 0,.int .i64 0] 157)=W:=⟨_,rfl⟩;have D:Below w.heap.size w W:=by rw [<- j];exact zO _ _
 have zW:W.heap.size=w.heap.size+1:=by rw [<- j];simp
 have h:w.grownBy W (some cb):=Qag (Qbm w (some cb)) D;have H:Hid (∀w1,W.grownBy w1 (some cb) ->w1.cell? ⟨w.heap.size,0,none⟩=some (.int .i64 0)/\ w1.cell? ⟨w.heap.size,1,none⟩=some (.int .i64 0)/\ w1.frozen? ⟨w.heap.size,0,none⟩=false/\ w1.frozen? ⟨w.heap.size,1,none⟩=false):=by
  intro w1 g;have G:=g.block w.heap.size (by omega) (by simp;omega);refine⟨?_,?_,?_,?_⟩
  ·rw [World.cell?_of_block G,<- j];simp
  ·rw [World.cell?_of_block G,<- j];simp
  ·have e:w1.frozen? ⟨w.heap.size,0,none⟩=W.frozen? ⟨w.heap.size,0,none⟩:=by unfold World.frozen?;rw [G]
   rw [e,<- j];simp
  ·have e:w1.frozen? ⟨w.heap.size,1,none⟩=W.frozen? ⟨w.heap.size,1,none⟩:=by unfold World.frozen?;rw [G]
   rw [e,<- j];simp
 have Ha:cb<W.heap.size:=by omega
 have N:=hid (QbL cb B a n c x (1000000000 - least) f aT aS aL aE W hn hf (hcur.below D o) (hs.grown h hab) hab (hE.grown h hBc o) hBc (by omega) (by omega));have J:=hid (hE.grown h hBc o);have S:=hid (hs.grown h hab);have C:=hid h;have T:IntKind.i64.wrap (1000000000 - least)=1000000000 - least:=Qan _ (by omega) (by omega);clear hE hcur hs h D;go_enter Tryz.func148,Tryz.ntmps148;go_wp2_with fail;try rw [T]
 try rw [j]
 clear j;refine N.mono ?_;rintro e w1 ⟨m,⟨V,x1,q,hV,rfl,p⟩|⟨q,t,v,y,rfl,p⟩⟩
 ·rw [Qa4] at q;have X:=hid (QbL cb B a n c x1 (1000000000 - (least+(V:Int))) f aT aS aL aE w1 hn hf p (S.grown m hab) hab (J.grown m hBc Ha) hBc (by omega) (by omega));have u:=hid m;have Y:=hid q;have e1:IntKind.i64.wrap (least+(V:Int))=least+(V:Int):=Qan _ (by omega) (by omega);have e2:IntKind.i64.wrap (1000000000 - (least+(V:Int)))=1000000000 - (least+(V:Int)):=Qan _ (by omega) (by omega);clear m q p N J;go_wp2_with fail;try rw [e2]
  refine X.mono ?_;rintro e w2 ⟨z,⟨M,x2,r,hM,rfl,A⟩|⟨r,t,v,y,rfl,A⟩⟩
  ·rw [Qa4] at r;obtain⟨E,O,F,P⟩:=H _ (Qaf u.out z);have K:=hid (Qaf C.out (Qaf u.out z));have L:=hid r;have I:=hid A;have e3:IntKind.i64.wrap (least+(V:Int)+(M:Int))=least+(V:Int)+(M:Int):=Qan _ (by omega) (by omega);clear z r A X;go_wp2_with fail;obtain⟨Z,k,Q,U,b,i⟩:=QmX (.int .i64 (least+(V:Int))) (.int .i64 (least+(V:Int)+(M:Int))) K.out I.out o E O;rw [<- k];clear k;refine zF (v:=.tuple #[.agg #[.int .i64 (least+(V:Int)),.int .i64 (least+(V:Int)+(M:Int))],.nilIface]) (by simp [results,Tryz.results148,go_sem,Q,U]) ⟨b,.inl ⟨least+(V:Int),least+(V:Int)+(M:Int),x2,?_,by omega,by omega,by omega,rfl,i⟩⟩;unfold Qei;rw [Y.out];simp only [Option.bind_some];rw [L.out];rfl
  ·rw [Qa4] at r;obtain⟨E,O,F,P⟩:=H _ (Qaf u.out z);have K:=hid (Qaf C.out (Qaf u.out z));have L:=hid r;have I:=hid A;clear z r A X;go_wp2_with fail;obtain⟨Z,k,Q,U,b,i⟩:=QmX (.int .i64 0) (.int .i64 0) K.out I.out o E O;rw [<- k];clear k;refine zF (v:=.tuple #[.agg #[.int .i64 0,.int .i64 0],.iface t v]) (by simp [results,Tryz.results148,go_sem,Q,U]) ⟨b,.inr ⟨?_,_,_,_,rfl,i⟩⟩;unfold Qei;rw [Y.out];simp only [Option.bind_some];rw [L.out];rfl
 ·rw [Qa4] at q;obtain⟨E,O,F,P⟩:=H _ m;have u:=hid (Qaf C.out m);have Y:=hid q;have R:=hid p;clear m q p N J;go_wp2_with fail;obtain⟨Z,k,Q,U,b,i⟩:=QmX (.int .i64 0) (.int .i64 0) u.out R.out o E O;rw [<- k];clear k;refine zF (v:=.tuple #[.agg #[.int .i64 0,.int .i64 0],.iface t v]) (by simp [results,Tryz.results148,go_sem,Q,U]) ⟨b,.inr ⟨?_,_,_,_,rfl,i⟩⟩;unfold Qei;rw [Y.out];rfl
variable {EX : Nat -> Option Value}
noncomputable def QhJ (f:Nat ->Int)(n:Nat)(left:Int)(x:Nat):Option (List (Int×Int)×Nat):=
 (rd f n x left).bind fun b=>if b.1=0 then none else Qa0 f n b.1 1 b.2
theorem SR.grown {w w1:World}{B cb:Nat}{v:Value}{l:List (Int×Int)}(h:SR w B v l)(g:w.grownBy w1 (some cb))(hB:cb<B):SR w1 B v l:=by
 refine World.ownsRow.kept h g ?_;cases e:v.ownBlock with
 | none=>exact .inl rfl
 | some k=>exact .inr (fun e2=>by have:=(World.ownsRow.lt h k e).1;injection e2 with e2;omega)
theorem Qod (cb B:Nat)(a:Option Addr)(n c x:Nat)(left:Int)(f:Nat ->Int)(aT aS aL aE:Addr)(w:World)(hn:n<=1048576)(hf:Byt f)(hcur:Cur EX w cb a n c (x:Int))(hs:Seg w a n f)(hab:∀y,a=some y ->y.block≠cb)(hE:QcQ w B aT aS aL aE)(hBc:B<=cb)
  (hl0: -1000<=left) (Hj:left<=1000):
  Calls Tryz.prog 121 #[.pointer (some ⟨cb,0,none⟩),.int .i64 left] w fun e w'=>w.grownBy w' (some cb)/\
   ((∃(l:List (Int×Int)) (x':Nat) (v:Value),QhJ f n left x=some (l,x')/\ e=.returned (.tuple #[v,.nilIface])/\ SR w' w.heap.size v l/\ Cur EX w' cb a n c (x':Int)) \/
    (QhJ f n left x=none/\∃(t:TypeId) (v:Value) (y:Int),e=.returned (.tuple #[.slice none 0 0,.iface t v])/\ Cur EX w' cb a n c y)):=by
 have Hi:=hcur.lt;obtain⟨i0,hi,Hr,Hs,Ht⟩:=info_parts Tryz.infoSpan;have X:=hid (QbL cb B a n c x left f aT aS aL aE w hn hf hcur hs hab hE hBc (by omega) (by omega));have L:=hid hE;have HS:=hid hs;clear hE hcur hs;go_enter Tryz.func121,Tryz.ntmps121;go_wp2_with fail;refine X.mono ?_;rintro e w1 ⟨O,⟨V,J,z,hV,rfl,E⟩|⟨z,t,v,y,rfl,E⟩⟩
 ·rw [Qa4] at z;have N:=hid O;have Z:=hid E;by_cases h0:V=0
  ·subst h0;have A:Hid (QhJ f n left x=none):=by unfold QhJ;rw [z];exact hid rfl
   have Hh:=L.below ((Below.refl B w).grown O (by omega) (fun k hk=>by injection hk with hk;omega));obtain⟨vN,Hu⟩:=Hh.gN;clear O z E Hh X L;go_wp2_with fail;go_quiet (fail);go_wp2_with fail;go_ret2;exact⟨Qaf N.out (Qa3 _ _ _),.inr ⟨A.out,_,_,_,rfl,Z.below (Qbb zI _) Z.lt⟩⟩
  ·have A:Hid (QhJ f n left x=Qa0 f n V 1 J):=by unfold QhJ;rw [z];exact hid (if_neg h0)
   have d0:((V:Int)==0)=false:=by simp;omega
   clear O z E X;go_wp2_with fail;go_loopw [8,9,26] (fun sv lv iv wr=>∃(k y:Nat) (l:List (Int×Int)) (Y:Int),k<=V/\ iv=.int .i64 (k:Int)/\ lv=.int .i64 Y/\ 1<=Y/\ Y<=1000000002/\ l.length=k/\ Hid (SR wr w.heap.size sv l)/\ Hid (Cur EX wr cb a n c (y:Int))/\ Hid (w.grownBy wr (some cb))/\
    Hid (Qa0 f n V 1 J=(Qa0 f n (V - k) Y y).bind fun b=>some (l++b.1,b.2))) (fun _ _ iv _=>V - (intOf iv).toNat)
   case atStart=>exact⟨0,J,[],1,Nat.zero_le _,rfl,rfl,by omega,by omega,rfl,hid (World.ownsRow_nil _ _ _ _),Z,N,hid (by cases h:Qa0 f n (V - 0) 1 J<;>simp_all)⟩
   case round=>
    obtain⟨k,y,l,Y,hk,rfl,rfl,Hj,Ho,Hp,F,H,o,U⟩:=hrel;have zr:=o.size;by_cases Hq:k<V
    ·obtain⟨m,D⟩:∃m,V - k=m+1:=⟨V - k - 1,by omega⟩;have S:=hid (QoX cb B a n c y Y f aT aS aL aE wr hn hf H.out (HS.grown o.out hab) hab (L.grown o.out hBc Hi) hBc Hj Ho);obtain⟨c0,c1,c2⟩:=H.out;go_wp2_with fail;refine S.mono ?_;rintro e q ⟨Q,⟨s,t,P,I,Hv,Hw,Hx,rfl,M⟩|⟨I,t,v,y2,rfl,M⟩⟩
     ·have Hb:=F.grown Q Hi;have T:Hid (∀g,u8.ownBlock=some g ->w.heap.size<=g/\ g<q.heap.size):=hid fun g hg=>World.ownsRow.lt Hb g hg;obtain⟨r,i⟩:∃r,q.alloc (.cells #[.int .i64 s,.int .i64 t] 157)=r:=⟨_,rfl⟩;have W:Below q.heap.size q r:=by rw [<- i];exact zO _ _
      have Hg:Hid (r.heap.size=q.heap.size+1):=by rw [<- i];exact hid (by simp)
      have r0:r.cell? ⟨q.heap.size,0,none⟩=some (.int .i64 s):=by rw [<- i];simp
      have r1:r.cell? ⟨q.heap.size,1,none⟩=some (.int .i64 t):=by rw [<- i];simp
      have Hc:Hid (SR r w.heap.size u8 l):=by rw [<- i];exact World.ownsRow.alloc Hb _
      have R:=hid (M.below W M.lt);have Hf:=hid (Qag (Qaf o.out Q) W);have G:Hid (Qa0 f n V 1 J=(Qa0 f n (V - (k+1)) (t+2) P).bind fun b=>some (l++[(s,t)]++b.1,b.2)):=by
       refine hid ?_;rw [U.out,D,Qci,I,show V - (k+1)=m from by omega];simp only [Option.bind_some];cases Qa0 f n m (t+2) P with
       | none=>rfl
       | some b=>simp
      have z2:=Q.size;have zz:w.heap.size<=q.heap.size:=by omega
      have e3:IntKind.i64.wrap (t+2)=t+2:=Qan _ (by omega) (by omega);subst Hp;clear Q I M S c0 c1 c2 F H o U W D Hb;go_wp2_with (at_builtin;go_loud ((try rw [i]);refine Qai rfl _ _ 121 rfl w.heap.size 157 i0 _ 2 16 Tryz.underlying121 hi Hr Hs Ht rfl (by decide) _ _ _ rfl (World.ownsRow.alloc Hc.out _) ⟨r.heap.size,0,none⟩ 1 1 [.int .i64 s,.int .i64 t] rfl rfl ?c1 ?c2 ?c3 ?c4 ?c5 ?_));case c1=>exact Qoz _ _ _ _
      case c2=>intro u hu;simp at hu;rcases hu with rfl|rfl<;>rfl
      case c3=>unfold maxLen;omega
      case c4=>omega
      case c5=>have:=Hg.out;simp;omega
      intro v4 w4 Ha C Hd;have z3:=Hg.out;have K:Hid (Below r.heap.size r (r.alloc (.cells #[.int .i64 s,.int .i64 t] 157))):=hid (zO _ _);have n1:some q.heap.size≠u8.ownBlock:=fun e=>by have:=(T _ e.symm).2;omega
      have n2:some cb≠u8.ownBlock:=fun e=>by have:=(T _ e.symm).1;omega
      have q1:=C.cell ((K.cell (p:=⟨q.heap.size,1,none⟩) (show q.heap.size<r.heap.size by omega)).trans r1) n1;have Hk:Hid (Cur EX w4 cb a n c (P:Int)):=by
       have h:=R.below K.out R.lt;have hb:=C.block cb h.lt n2;exact hid (h.at' hb)
      have Hm:Hid (w.grownBy w4 (some cb)):=hid ((Qag Hf.out K.out).andThen C (fun j hj=> .inl (T j hj).1));have Hn:Hid (SR w4 w.heap.size v4 (l++[(s,t)])):=by
       unfold SR;rw [QbU,List.length_append];exact hid Ha
      clear Ha C Hd r0 r1 i K R Hf Hc z3;go_wp2_with fail;go_roundw;case rel=>exact⟨l.length+1,P,l++[(s,t)],t+2,Hq,by go_num,rfl,by omega,by omega,by simp,Hn,Hk,Hm,G⟩
      case measure=>simp [intOf];omega
     ·have G:Hid (QhJ f n left x=none):=by
       refine hid ?_;rw [A.out,U.out,D,Qci,I];rfl
      have Hl:=hid (Qaf o.out Q);have He:=hid M;clear Q I M S c0 c1 c2 F H o U D;go_wp2_with fail;go_ret2;have B2:Below q.heap.size q ((q.alloc (.cells #[.int .i64 0,.int .i64 0] 157)).alloc (.cells #[.string {data:=#[114,117,110]},.int .i64 (y:Int),.iface t v] 100)):=Qak _ _ _;exact⟨Qag Hl.out B2,.inr ⟨G.out,_,_,_,rfl,He.below B2 He.lt⟩⟩
    ·obtain rfl:k=V:=by omega
     have G:Hid (QhJ f n left x=some (l,y)):=by
      refine hid ?_;rw [A.out,U.out,Nat.sub_self];simp [Qa0]
     clear U;go_wp2_with fail;go_ret2;exact⟨o.out,.inl ⟨l,y,_,G.out,rfl,F.out,H.out⟩⟩
 ·rw [Qa4] at z;have A:Hid (QhJ f n left x=none):=by unfold QhJ;rw [z];exact hid rfl
  have N:=hid O;have Z:=hid E;clear O z E X L;go_wp2_with fail;go_ret2;exact⟨N.out,.inr ⟨A.out,_,_,_,rfl,Z.out⟩⟩
open Go.Maps
variable {EX : Nat -> Option Value}
theorem Qek {f:Nat ->Int}{n:Nat}:∀(k:Nat) (j:Int) (x:Nat) (l:List (Int×Int)) (x':Nat),Qa0 f n k j x=some (l,x') ->l.length=k:=by
 intro k;induction k with
 | zero=>intro j x l x' h;simp [Qa0] at h;simp [<- h.1]
 | succ k ih=>
  intro j x l x' h;rw [Qci] at h;obtain⟨a,q,h⟩:=Option.bind_eq_some_iff.1 h;obtain⟨b,m,h⟩:=Option.bind_eq_some_iff.1 h;injection h with h;injection h with h3 h4;rw [<- h3];simp [ih _ _ b.1 b.2 m]
noncomputable def Qdw (f:Nat ->Int)(n:Nat)(before left:Int)(x:Nat):Option ((Int×List (Int×Int))×Nat):=
 (rd f n x 7).bind fun a=>if (a.1:Int)<=before then none else(QhJ f n left a.2).bind fun b=>some (((a.1:Int),b.1),b.2)
theorem Qeh (f:Nat ->Int)(n k:Nat)(before left:Int)(x:Nat):QaB f n (k+1) before left x=(Qdw f n before left x).bind fun a=>(QaB f n k a.1.1 (left - (a.1.2.length:Int)) a.2).bind fun d=>some (a.1::d.1,d.2):=by
 unfold Qdw QhJ;rw [QaB];cases h1:rd f n x 7 with
 | none=>rfl
 | some a=>
  simp only [Option.bind_some];split
  ·rfl
  ·cases h2:rd f n a.2 left with
   | none=>rfl
   | some b=>
    simp only [Option.bind_some];split
    ·rfl
    ·cases h3:Qa0 f n b.1 1 b.2 with
     | none=>rfl
     | some c=>
      simp only [Option.bind_some];rw [Qek b.1 1 b.2 c.1 c.2 h3]
theorem QkG (cb B:Nat)(a:Option Addr)(n c x:Nat)(before left:Int)(f:Nat ->Int)(aT aS aL aE:Addr)(w:World)(hn:n<=1048576)(hf:Byt f)(hcur:Cur EX w cb a n c (x:Int))(hs:Seg w a n f)(hab:∀y,a=some y ->y.block≠cb)(hE:QcQ w B aT aS aL aE)(hBc:B<=cb)
  (hl0: -1000<=left) (hl1:left<=1000):
  Calls Tryz.prog 97 #[.pointer (some ⟨cb,0,none⟩),.int .i64 before,.int .i64 left] w fun e w'=>w.grownBy w' (some cb)/\
   ((∃(r:Int) (l:List (Int×Int)) (x':Nat) (v:Value),Qdw f n before left x=some ((r,l),x')/\ before<r/\ 0<=r/\ r<=7/\ l≠[]/\ (l.length:Int)<=left/\ e=.returned (.tuple #[.int .i64 r,v,.nilIface])/\ SR w' w.heap.size v l/\ Cur EX w' cb a n c (x':Int)) \/
    (Qdw f n before left x=none/\∃(r:Int) (t:TypeId) (v:Value) (y:Int),e=.returned (.tuple #[.int .i64 r,.slice none 0 0,.iface t v])/\ Cur EX w' cb a n c y)):=by
 have F:=hcur.lt;have s:=hid (QbL cb B a n c x 7 f aT aS aL aE w hn hf hcur hs hab hE hBc (by omega) (by omega));have p:=hid hE;have L:=hid hs;clear hE hcur hs;go_enter Tryz.func97,Tryz.ntmps97;go_wp2_with fail;refine s.mono ?_;rintro e w1 ⟨k,⟨V,G,j,D,rfl,m⟩|⟨j,t,v,y,rfl,m⟩⟩
 ·rw [Qa4] at j;have z:=hid k;have i:=hid m;have z1:=k.size;have O:=hid (p.grown k hBc F);by_cases E:(V:Int)<=before
  ·have u:Hid (Qdw f n before left x=none):=by unfold Qdw;rw [j];exact hid (if_pos E)
   obtain⟨W,T⟩:=O.gO;have C:decide ((V:Int)<=before)=true:=by simpa using E
   clear k j m s p;go_wp2_with fail;go_quiet (fail);go_wp2_with fail;go_ret3;exact⟨Qaf z.out (Qa3 _ _ _),.inr ⟨u.out,_,_,_,_,rfl,i.below (Qbb zI _) i.lt⟩⟩
  ·have u:Hid (Qdw f n before left x=(QhJ f n left G).bind fun b=>some (((V:Int),b.1),b.2)):=by unfold Qdw;rw [j];exact hid (if_neg E)
   have Y:=hid (Qod cb B a n c G left f aT aS aL aE w1 hn hf m (L.grown k hab) hab O.out hBc hl0 hl1);have C:decide ((V:Int)<=before)=false:=by simpa using E
   clear k j m s p O;go_wp2_with fail;refine Y.mono ?_;rintro e P ⟨A,⟨l,K,v,q,rfl,J,h⟩|⟨q,t,v,y,rfl,h⟩⟩
   ·have I:l≠[]/\ (l.length:Int)<=left:=by
     unfold QhJ at q;obtain⟨b,Z,o⟩:=Option.bind_eq_some_iff.1 q;split at o
     ·cases o
     ·have:=Qek _ _ _ _ _ o;have R:=((Qav hf).1 (show rd f n G left=some (b.1,b.2) from Z)).2.1;refine⟨fun e=>by subst e;simp at this;omega,by omega⟩
    have U:Hid (Qdw f n before left x=some (((V:Int),l),K)):=by rw [u.out,q];exact hid rfl
    have Q:=hid (Qaf z.out A);have M:=hid h;have H:=hid I;have N:Hid (SR P w.heap.size v l):=by
     obtain⟨Z,o⟩:=J;refine hid ⟨Z,o.imp id ?_⟩;rintro⟨g,cap,X,e,S,r⟩;exact⟨g,cap,X,e,by omega,r⟩
    clear A q h J Y I;go_wp2_with fail;go_ret3;exact⟨Q.out,.inl ⟨_,l,K,v,U.out,by omega,by omega,D,H.1,H.2,rfl,N.out,M.out⟩⟩
   ·have U:Hid (Qdw f n before left x=none):=by rw [u.out,q];exact hid rfl
    have Q:=hid (Qaf z.out A);have M:=hid h;clear A q h Y;go_wp2_with fail;go_ret3;exact⟨Q.out,.inr ⟨U.out,_,_,_,_,rfl,M.out⟩⟩
 ·rw [Qa4] at j;have u:Hid (Qdw f n before left x=none):=by unfold Qdw;rw [j];exact hid rfl
  have z:=hid k;have i:=hid m;clear k j m s p;go_wp2_with fail;go_ret3;exact⟨z.out,.inr ⟨u.out,_,_,_,_,rfl,i.out⟩⟩
theorem Qdt.step {w w1:World}{bm n:Nat}{D:DataW Value}{G:Int ->Value}{L:Int ->List (Int×Int)}{v:Value}{r:Int}{l:List (Int×Int)}(h:Qdt w bm n D G L)(ho:w.ownsRow 0 157 2 v l.length (Qaw l))(hl:l≠[])
  (hD:w1.ownsMap Tryz.prog 3 Qii bm (n+1) (D.put (kI r) (.held v))) (hg:w.grownBy w1 (some bm)):
  Qdt w1 bm (n+1) (D.put (kI r) (.held v)) (upd G r v) (upd L r l):=by
 refine⟨hD,fun x=> ?_,fun x=> ?_,fun x=> ?_⟩
 ·by_cases e:x=r
  ·subst e;rw [Qay,atKey_put_same h.own.isMap (show WideAt.IsKeyLit (kI x) from trivial)]
  ·rw [Qap G v e,atKey_put_other (Qkw e)];exact h.at' x
 ·by_cases e:x=r
  ·subst e;rw [Qay,has_put_same h.own.isMap (show WideAt.IsKeyLit (kI x) from trivial)];cases l with
   | nil=>exact absurd rfl hl
   | cons _ _=>rfl
  ·rw [Qap L _ e,has_put_other (Qkw e)];exact h.has' x
 ·by_cases e:x=r
  ·subst e;rw [Qay,Qay];exact ho.kept hg (Qj3 ho h.own)
  ·rw [Qap G v e,Qap L _ e];exact(h.rows x).kept hg (Qj3 (h.rows x) h.own)
def lkS (g:List (Int×List (Int×Int)))(r:Int):List (Int×Int):=g.foldl (fun L p=>upd L p.1 p.2) (fun _=>[]) r
theorem Qk4 (g:List (Int×List (Int×Int)))(p:Int×List (Int×Int)):lkS (g++[p])=upd (lkS g) p.1 p.2:=by
 funext r;unfold lkS;rw [List.foldl_append];rfl
theorem Qj2 (cb B bm:Nat)(a:Option Addr)(n c:Nat)(x:Int)(f:Nat ->Int)(aT aS aL aE:Addr)(w0 w:World)(D0:DataW Value)(G0:Int ->Value)(hn:n<=1048576)(hf:Byt f)(hcur:Cur EX w cb a n c x)(hs:Seg w0 a n f)(hab:∀y,a=some y ->y.block≠cb)(hE:QcQ w0 B aT aS aL aE)(hBc:B<=cb)
  (hc0:cb<w0.heap.size) (hbm:w0.heap.size<=bm) (hg0:w0.grownBy w (some cb)) (hG:Qdt w bm 0 D0 G0 (fun _=>[])) (hGb:∀r g,(G0 r).ownBlock=some g ->w0.heap.size<=g):
  Calls Tryz.prog 68 #[.pointer (some ⟨cb,0,none⟩),.map (some bm)] w fun e w'=>w0.grownBy w' (some cb)/\
   ((∃(g:List (Int×List (Int×Int))) (x' nn:Nat) (D:DataW Value) (G:Int ->Value),(rdI f n x 8).bind (fun a=>QaB f n a.1 (-1) 1000 a.2)=some (g,x')/\ e=.returned .nilIface/\ Qdt w' bm nn D G (lkS g)/\ Cur EX w' cb a n c (x':Int)/\∀r g,(G r).ownBlock=some g ->w0.heap.size<=g) \/
    ((rdI f n x 8).bind (fun a=>QaB f n a.1 (-1) 1000 a.2)=none/\∃(t:TypeId) (v:Value) (y:Int),e=.returned (.iface t v)/\ Cur EX w' cb a n c y)):=by
 have Hu:=hcur.lt;have W:=hid (QbL cb B a n c x 8 f aT aS aL aE w hn hf hcur (hs.grown hg0 hab) hab (hE.grown hg0 hBc hc0) hBc (by omega) (by omega));have HE:=hid hE;have HS:=hid hs;have R:=hid hg0;have Hi:=hid hG;have Hh:=hid hGb;have Hs:=hG.own.lt;clear hE hcur hs hg0 hG hGb;go_enter Tryz.func68,Tryz.ntmps68;go_wp2_with fail;refine W.mono ?_;rintro e w1 ⟨Q,⟨V,I,Y,hV,rfl,E⟩|⟨Y,t,v,y,rfl,E⟩⟩
 ·have K:Hid ((rdI f n x 8).bind (fun a=>QaB f n a.1 (-1) 1000 a.2)=QaB f n V (-1) 1000 I):=by rw [Y];exact hid rfl
  have P:=hid (Qaf R.out Q);have F:=hid E;have Ha:=hid (Hi.gr (row:=some cb) Q (fun e=>by injection e with e;omega) (fun r g hg e=>by injection e with e;have:=Hh r g hg;omega));clear Q Y E W Hi R;go_wp2_with fail;go_loopw [7,8,22] (fun lv bv iv wr=>∃(k y:Nat) (g:List (Int×List (Int×Int))) (u before:Int) (D:DataW Value) (G:Int ->Value),k<=V/\ iv=.int .i64 (k:Int)/\ lv=.int .i64 u/\ bv=.int .i64 before/\ -1<=before/\ before<=7/\ 0<=u/\ u<=1000/\
   Hid (Qdt wr bm k D G (lkS g))/\ Hid (∀r g,(G r).ownBlock=some g ->w0.heap.size<=g)/\ Hid (Cur EX wr cb a n c (y:Int))/\ Hid (w0.grownBy wr (some cb))/\ bm<wr.heap.size/\
   Hid (QaB f n V (-1) 1000 I=(QaB f n (V - k) before u y).bind fun d=>some (g++d.1,d.2))) (fun _ _ iv _=>V - (intOf iv).toNat)
  case atStart=>exact⟨0,I,[],1000, -1,D0,G0,Nat.zero_le _,rfl,rfl,rfl,by omega,by omega,by omega,by omega,Ha,Hh,F,P,Ha.own.lt,hid (by cases h:QaB f n (V - 0) (-1) 1000 I<;>simp_all)⟩
  case round=>
   obtain⟨k,y,g,u,before,D,G,hk,rfl,rfl,rfl,Hq,Hr,Hv,Hw,L,Hf,U,z,Ht,p⟩:=hrel;have zr:=z.size;by_cases Hn:k<V
   ·obtain⟨m,X⟩:∃m,V - k=m+1:=⟨V - k - 1,by omega⟩;have T:=hid (QkG cb B a n c y before u f aT aS aL aE wr hn hf U.out (HS.grown z.out hab) hab (HE.grown z.out hBc hc0) hBc (by omega) (by omega));obtain⟨c0,c1,c2⟩:=U.out;go_wp2_with fail;refine T.mono ?_;rintro e C ⟨i,⟨r,l,x2,v,Z,Hy,Hz,H0,hl,Hx,rfl,H,M⟩|⟨Z,r,t,v,y2,rfl,M⟩⟩
    ·have z2:=i.size;have Hb:=hid (L.gr (row:=some cb) i (fun e=>by injection e with e;omega) (fun r g hg e=>by injection e with e;have:=Hf r g hg;omega));have A:Hid (QaB f n V (-1) 1000 I=(QaB f n (V - (k+1)) r (u - (l.length:Int)) x2).bind fun d=>some (g++[(r,l)]++d.1,d.2)):=by
      refine hid ?_;rw [p.out,X,Qeh,Z,show V - (k+1)=m from by omega];simp only [Option.bind_some];cases QaB f n m r (u - (l.length:Int)) x2 with
      | none=>rfl
      | some b=>simp
     have s:=hid M;have S:=hid (Qaf z.out i);have Hd:=QhM H;have HV:Hid (∀q,v.ownBlock=some q ->w0.heap.size<=q):=hid fun q hq=>Nat.le_trans zr (World.ownsRow.lt H q hq).1;obtain⟨J,nv,O,o⟩:=QaO H;have Ho:nv=l.length:=by
      rcases H.2 with ⟨e,e0⟩|⟨g',cap,Hp,e,_⟩
      ·rw [e] at o;injection o with _ e1 _;omega
      ·rw [e] at o;injection o with _ e1 _;omega
     subst Ho;have Hg:keyOf Tryz.prog 3 (.int .i64 r)=some (kI r):=keyOf_int_mk Tryz.underlying3 (wfI (by omega) (by omega));have e3:IntKind.i64.wrap (u - (l.length:Int))=u - (l.length:Int):=Qan _ (by omega) (by omega);have He:Hid (C.ownsRow 0 157 2 (.slice J l.length O) l.length (Qaw l)):=by rw [<- o];exact hid Hd
     have Hk:Hid (∀q,(Value.slice J l.length O).ownBlock=some q ->w0.heap.size<=q):=by rw [<- o];exact HV
     subst o;have Hj:=hid Hb.own;clear i Z M T c0 c1 c2 L U z p X H Hd HV;go_wp2_with (at_mapUpdate;refine wpList_mapUpdate_own _ rfl _ _ _ 55 rfl 3 121 (int_keyed Tryz.underlying3) Tryz.underlying55 Qii bm _ _ rfl Hj.out (by unfold maxLen;omega) _ _ _ rfl rfl Hg (.held (.slice J l.length O)) [] rfl ?_;intro w3 Hc N;go_frame);go_roundw;case rel=>
      have Hm:some cb≠some bm:=fun e=>by injection e with e;omega
      have Hl:=N.block cb s.lt Hm;refine⟨k+1,x2,g++[(r,l)],u - (l.length:Int),r,D.put (kI r) (.held (.slice J l.length O)),upd G r (.slice J l.length O),Hn,by go_num,rfl,rfl,by omega,by omega,by omega,by omega,?_,?_,?_,?_,?_,A⟩
      ·rw [Qk4];exact hid (Hb.step He.out hl Hc N)
      ·refine hid fun q t hq=> ?_;by_cases e:q=r
       ·subst e;rw [Qay] at hq;exact Hk t hq
       ·rw [Qap _ _ e] at hq;exact Hf q t hq
      ·exact hid (s.at' Hl)
      ·exact hid (S.andThen N (fun j hj=> .inl (by injection hj with hj;omega)))
      ·have:=N.size;omega
     case measure=>simp [intOf];omega
    ·have A:Hid ((rdI f n x 8).bind (fun a=>QaB f n a.1 (-1) 1000 a.2)=none):=by
      refine hid ?_;rw [K.out,p.out,X,Qeh,Z];rfl
     have S:=hid (Qaf z.out i);have s:=hid M;clear i Z M T c0 c1 c2 L U z p X;go_wp2_with fail;go_ret;have B2:Below C.heap.size C (C.alloc (.cells #[.string {data:=#[114,101,112,108,105,99,97]},.int .i64 (y:Int),.iface t v] 100)):=zO _ _;exact⟨Qag S.out B2,.inr ⟨A.out,_,_,_,rfl,s.below B2 s.lt⟩⟩
   ·obtain rfl:k=V:=by omega
    have A:Hid ((rdI f n x 8).bind (fun a=>QaB f n a.1 (-1) 1000 a.2)=some (g,y)):=by
     refine hid ?_;rw [K.out,p.out,Nat.sub_self];simp [QaB]
    clear p;go_wp2_with fail;go_ret;exact⟨z.out,.inl ⟨g,y,_,D,G,A.out,rfl,L.out,U.out,Hf.out⟩⟩
 ·have K:Hid ((rdI f n x 8).bind (fun a=>QaB f n a.1 (-1) 1000 a.2)=none):=by rw [Y];exact hid rfl
  have P:=hid (Qaf R.out Q);have F:=hid E;clear Q Y E W HE;go_wp2_with fail;go_ret;exact⟨P.out,.inr ⟨K.out,_,_,_,rfl,F.out⟩⟩
def QmY:Int ->List (Int×Int) ->Int
 | least,[]=>least
 | _,p::l=>QmY (p.2+2) l
theorem QiJ (l:List (Int×Int))(p:Int×Int):∀j,QmY j (l++[p])=p.2+2:=by
 induction l with
 | nil=>intro j;rfl
 | cons q l ih=>intro j;exact ih _
theorem QiI (l:List (Int×Int))(p:Int×Int):∀j,QbI j (l++[p])=QbI j l++(uvF 9 (p.1 - QmY j l).toNat++uvF 9 (p.2 - p.1).toNat):=by
 induction l with
 | nil=>intro j;simp [QbI,QmY]
 | cons q l ih=>
  intro j;show uvF 9 _++uvF 9 _++QbI _ (l++[p])=(uvF 9 _++uvF 9 _++QbI _ l)++_;rw [ih];simp only [List.append_assoc];rfl
theorem Qgi {α:Type}(l:List α)(d:α){k:Nat}(h:k<l.length):l.take (k+1)=l.take k++[l.getD k d]:=by
 rw [List.take_add_one];simp [List.getD,h]
theorem Qj8 (l:List (Int×Int)):∀k,k<=l.length ->spK l k=QbI 1 (l.take k)/\ loK l k=QmY 1 (l.take k)
 | 0,_=>by simp [spK,QbI,loK,QmY]
 | k+1,h=>by
  obtain⟨j,m⟩:=Qj8 l k (by omega);rw [Qgi l (0,0) (by omega),QiI,QiJ];refine⟨?_,rfl⟩;simp only [spK];rw [j,m];rfl
theorem Qkm (l:List (Int×Int)):QjS l=uvF 9 l.length++QbI 1 l:=by
 unfold QjS;rw [(Qj8 l l.length zL).1,List.take_length]
theorem Qkh (g g':List (Int×List (Int×Int))):QcW (g++g')=QcW g++QcW g':=by
 induction g with
 | nil=>rfl
 | cons p g ih=>
  show uvF 9 _++uvF 9 _++QbI 1 _++QcW (g++g')=(uvF 9 _++uvF 9 _++QbI 1 _++QcW g)++QcW g';rw [ih];simp only [List.append_assoc]
theorem QhA (L:Int ->List (Int×Int))(ks:List Int):∀k,k<=ks.length ->Qf8 L ks k=QcW ((ks.take k).map fun r=>(r,L r))
 | 0,_=>by simp [Qf8,QcW]
 | k+1,h=>by
  rw [Qgi ks 0 (by omega),List.map_append,Qkh,<- QhA L ks k (by omega)];simp only [Qf8,QmQ,Qkm,List.map_cons,List.map_nil,QcW,List.append_nil,List.append_assoc]
def Qis (L:Int ->List (Int×Int)):List (Int×List (Int×Int)):=(KS L 8).map fun r=>(r,L r)
theorem Qh9 (L:Int ->List (Int×Int)):Qee L=QhZ (Qis L):=by
 unfold Qee QhZ;rw [QhA L (KS L 8) _ zL,List.take_length];simp [Qis]
theorem Qjn:∀(l:List (Int×Int)) (least:Int),okS least l ->1<=least ->Srt l/\∀p∈l,least<=p.1
 | [],_,_,_=>⟨⟨List.Pairwise.nil,fun p j=>by cases j⟩,fun p j=>by cases j⟩
 | q::l,least,⟨o1,o2,o3,o4⟩,h1=>by
  obtain⟨k,m⟩:=Qjn l (q.2+2) o4 (by omega);refine⟨⟨List.pairwise_cons.2 ⟨fun p j=>by have:=m p j;omega,k.1⟩,fun p j=> ?_⟩,fun p j=> ?_⟩
  ·rcases List.mem_cons.1 j with rfl|j
   ·exact⟨by omega,o2,o3⟩
   ·exact k.2 p j
  ·rcases List.mem_cons.1 j with rfl|j
   ·exact o1
   ·have:=m p j;omega
theorem QjC:∀(l:List (Int×Int)) (least:Int),Srt l ->(∀p∈l,least<=p.1) ->okS least l
 | [],_,_,_=>trivial
 | q::l,least,h,h1=>by
  have j:=h.2 q List.mem_cons_self;obtain⟨k,m⟩:=List.pairwise_cons.1 h.1;exact⟨h1 q List.mem_cons_self,j.2.1,j.2.2,QjC l _ ⟨m,fun p hp=>h.2 p (List.mem_cons_of_mem _ hp)⟩ (fun p hp=>by have:=k p hp;omega)⟩
def Qat (g:List (Int×List (Int×Int))):List Rn:=g.flatMap fun p=>tag p.1 p.2
theorem Qe5 (p:Int×List (Int×Int))(g:List (Int×List (Int×Int))):Qat (p::g)=tag p.1 p.2++Qat g:=by simp [Qat]
theorem Qe6 (L:Int ->List (Int×Int)):Qat (Qis L)=Qdv L 8:=by
 unfold Qat Qis Qdv;rw [List.flatMap_map]
def lkG:List (Int×List (Int×Int)) ->Int ->List (Int×Int)
 | [],_=>[]
 | p::g,r=>if p.1=r then p.2 else lkG g r
theorem QdZ:∀(g:List (Int×List (Int×Int))) (before left:Int),okR before left g ->∀r,Srt (lkG g r)/\ (lkG g r≠[] ->before<r/\ 0<=r/\ r<=7)/\ (r∈g.map Prod.fst↔lkG g r≠[])
 | [],_,_,_,r=>⟨⟨List.Pairwise.nil,fun p hp=>by cases hp⟩,fun h=>absurd rfl h,by simp [lkG]⟩
 | p::g,before,left,⟨o1,o2,o3,o4,o5,o6,o7⟩,r=>by
  obtain⟨k,m,q⟩:=QdZ g p.1 _ o7 r;by_cases e:p.1=r
  ·have j:lkG (p::g) r=p.2:=if_pos e;rw [j];exact⟨(Qjn _ 1 o6 (by omega)).1,fun _=>by omega,by simp [e,o4]⟩
  ·have j:lkG (p::g) r=lkG g r:=if_neg e;rw [j];refine⟨k,fun h=>by have:=m h;omega,?_⟩;rw [List.map_cons,List.mem_cons,q];constructor
   ·rintro(h|h)
    ·exact absurd h.symm e
    ·exact h
   ·exact .inr
theorem Qd2:∀(g:List (Int×List (Int×Int))) (before left:Int),okR before left g ->(g.map Prod.fst).Pairwise (fun x y=>x<y)/\∀x∈g.map Prod.fst,before<x
 | [],_,_,_=>⟨List.Pairwise.nil,fun x j=>by cases j⟩
 | p::g,before,left,⟨o1,o2,o3,o4,o5,o6,o7⟩=>by
  obtain⟨m,k⟩:=Qd2 g p.1 _ o7;refine⟨List.pairwise_cons.2 ⟨k,m⟩,fun x j=> ?_⟩;rcases List.mem_cons.1 j with rfl|j
  ·exact o1
  ·have:=k x j;omega
theorem Qjj:∀(xs ys:List Int),xs.Pairwise (fun x y=>x<y) ->ys.Pairwise (fun x y=>x<y) ->(∀x,x∈xs↔x∈ys) ->xs=ys
 | [],[],_,_,_=>rfl
 | [],b::s,_,_,h=>by have:=(h b).2 List.mem_cons_self;cases this
 | a::t,[],_,_,h=>by have:=(h a).1 List.mem_cons_self;cases this
 | a::t,b::s,hx,hy,h=>by
  obtain⟨k,q⟩:=List.pairwise_cons.1 hx;obtain⟨m,r⟩:=List.pairwise_cons.1 hy;have e:a=b:=by
   rcases List.mem_cons.1 ((h a).1 List.mem_cons_self) with e|e
   ·exact e
   ·rcases List.mem_cons.1 ((h b).2 List.mem_cons_self) with j|j
    ·exact j.symm
    ·have:=k b j;have:=m a e;omega
  subst e;congr 1;refine Qjj t s q r (fun x=>⟨fun hm=> ?_,fun hm=> ?_⟩)
  ·rcases List.mem_cons.1 ((h x).1 (List.mem_cons_of_mem _ hm)) with e|e
   ·have:=k x hm;omega
   ·exact e
  ·rcases List.mem_cons.1 ((h x).2 (List.mem_cons_of_mem _ hm)) with e|e
   ·have:=m x hm;omega
   ·exact e
theorem Ql1:∀(g:List (Int×List (Int×Int))) (before left:Int),okR before left g ->(g.map Prod.fst).map (fun r=>(r,lkG g r))=g
 | [],_,_,_=>rfl
 | p::g,before,left,⟨o1,o2,o3,o4,o5,o6,o7⟩=>by
  have k:=Ql1 g p.1 _ o7;have j:=(Qd2 g p.1 _ o7).2;rw [List.map_cons,List.map_cons];have e:lkG (p::g) p.1=p.2:=if_pos rfl;rw [e];congr 1;refine Eq.trans (List.map_congr_left (fun r hm=> ?_)) k;have:lkG (p::g) r=lkG g r:=if_neg (by have:=j r hm;omega);rw [this]
theorem Qkr {g:List (Int×List (Int×Int))}{left:Int}(h:okR (-1) left g):Qis (lkG g)=g:=by
 have e:KS (lkG g) 8=g.map Prod.fst:=by
  refine Qjj _ _ (Qix _ 8) (Qd2 g _ _ h).1 (fun x=> ?_);obtain⟨_,k,m⟩:=QdZ g _ _ h x;rw [Qdk,m];constructor
  ·rintro⟨_,_,c⟩ e;rw [e] at c;cases c
  ·intro j;have:=k j;exact⟨by omega,by omega,by cases hl:lkG g x with|nil=>exact absurd hl j|cons _ _=>rfl⟩
 unfold Qis;rw [e];exact Ql1 g _ _ h
theorem QfM:∀(g:List (Int×List (Int×Int))) (before left:Int),okR before left g ->0<=left ->((Qat g).length:Int)<=left
 | [],_,_,_,h0=>by simpa [Qat] using h0
 | p::g,before,left,⟨o1,o2,o3,o4,o5,o6,o7⟩,h0=>by
  have j:=QfM g p.1 _ o7 (by omega);rw [Qe5,List.length_append];simp only [tag,List.length_map] at*;omega
def lR (l:List Rn)(i:Nat):Int:=(l.getD i (0,0,0)).1
def lF (l:List Rn)(i:Nat):Int:=(l.getD i (0,0,0)).2.1
def lT (l:List Rn)(i:Nat):Int:=(l.getD i (0,0,0)).2.2
theorem QfN (l:List Rn):flat (lR l) (lF l) (lT l) l.length=l:=by
 refine List.ext_getElem (by simp [flat]) (fun i h1 h2=> ?_);simp [flat,lR,lF,lT,List.getD,h2]
theorem Qjp {l:List Rn}(h:QbV l):Qeu (lR l) (lF l) (lT l) l.length:=by
 intro i k;have e:∀j,(hj:j<l.length) ->l.getD j (0,0,0)=l[j]:=fun j hj=>by simp [List.getD,hj]
 refine⟨?_,fun h0=> ?_⟩
 ·have:=h.2 _ (List.getElem_mem k);rw [<- e i k] at this;exact QbF this
 ·have:=List.pairwise_iff_getElem.1 h.1 (i - 1) i (by omega) k (by omega);rw [<- e i k,<- e (i - 1) (by omega)] at this;unfold QaE;exact decide_eq_true this
theorem QkN {l l':List (Int×Int)}(h:Srt l)(h':Srt l')(he:∀x,In l x↔In l' x):l=l':=by
 have:=uniq (Qha h (Int.le_refl 0) (by omega)) (Qha h' (Int.le_refl 0) (by omega)) (fun r x=>by rw [QjI,QjI,he]);unfold tag at this;have v:∀(a b:List (Int×Int)),a.map (fun p=>((0:Int),p.1,p.2))=b.map (fun p=>((0:Int),p.1,p.2)) ->a=b:=by
  intro a;induction a with
  | nil=>intro b j;cases b with|nil=>rfl|cons _ _=>simp at j
  | cons p a ih=>
   intro b j;cases b with
   | nil=>simp at j
   | cons q b=>
    rw [List.map_cons,List.map_cons] at j;injection j with h1 h2;have k:p=q:=by
     have m:=congrArg (fun z:Rn=>z.2.1) h1;have u:=congrArg (fun z:Rn=>z.2.2) h1;exact Prod.ext m u
    rw [k,ih b h2]
 exact v _ _ this
theorem Qcp {g:List (Int×List (Int×Int))}(h:okR (-1) 1000 g):
  QcR (lR (Qat g)) (lF (Qat g)) (lT (Qat g)) (Qat g).length=true/\ Lk (lR (Qat g)) (lF (Qat g)) (lT (Qat g)) (Qat g).length=lkG g/\ Qee (lkG g)=QhZ g/\ Qdv (lkG g) 8=Qat g:=by
 have k:∀r,Srt (lkG g r):=fun r=>(QdZ g _ _ h r).1;have q:=Qkr h;have j:Qdv (lkG g) 8=Qat g:=by rw [<- Qe6,q]
 have y:QbV (Qat g):=by rw [<- j];exact(Qec k 8 zL).1
 have u:=Qjp y;have z:=QfM g _ _ h (by omega);refine⟨Qao.2 ⟨u,by omega⟩,funext fun r=> ?_,by rw [Qh9,q],j⟩;refine QkN (Qdm _ u r).1 (k r) (fun x=> ?_);rw [<- Qfa,QfN,<- j,(Qec k 8 zL).2.1];constructor
 ·rintro⟨_,_,v⟩;exact v
 ·intro m;have:=(QdZ g _ _ h r).2.1 (fun e=>by rw [e] at m;exact Qiw m);exact⟨by omega,by omega,m⟩
theorem Ql4 (L:Int ->List (Int×Int)):∀(ks:List Int) (before left:Int),ks.Pairwise (fun x y=>x<y) ->(∀r∈ks,before<r/\ 0<=r/\ r<=7/\ L r≠[]/\ Srt (L r)) ->((ks.flatMap fun r=>tag r (L r)).length:Int)<=left ->okR before left (ks.map fun r=>(r,L r))
 | [],_,_,_,_,_=>trivial
 | k::ks,before,left,hp,ha,hl=>by
  obtain⟨o,i⟩:=List.pairwise_cons.1 hp;obtain⟨m,q,u,v,j⟩:=ha k List.mem_cons_self;rw [List.flatMap_cons,List.length_append] at hl;have b:(tag k (L k)).length=(L k).length:=by simp [tag]
  refine⟨m,q,u,v,by show (((L k).length:Nat):Int)<=left;omega,QjC _ _ j (fun p hp=>(j.2 p hp).1),Ql4 L ks k _ i (fun r hr=> ?_) ?_⟩
  ·obtain⟨_,z,h,g,t⟩:=ha r (List.mem_cons_of_mem _ hr);exact⟨o r hr,z,h,g,t⟩
  ·show _<=left - (((L k).length:Nat):Int);omega
theorem QhY {R F T:Nat ->Int}{n:Nat}(h:QcR R F T n=true):okR (-1) 1000 (Qis (Lk R F T n))/\ QhZ (Qis (Lk R F T n))=Qee (Lk R F T n)/\ Qat (Qis (Lk R F T n))=flat R F T n:=by
 obtain⟨k,y⟩:=Qao.1 h;have j:∀r,Srt (Lk R F T n r):=fun r=>(Qdm n k r).1;have q:Qdv (Lk R F T n) 8=flat R F T n:=by
  refine uniq (Qec j 8 zL).1 (Qbx n k) (fun r x=> ?_);rw [Qfa,(Qec j 8 zL).2.1];constructor
  ·rintro⟨_,_,v⟩;exact v
  ·intro m;have:=Qiz n k r (fun e=>by rw [e] at m;exact Qiw m);exact⟨by omega,by omega,m⟩
 refine⟨Ql4 _ _ _ _ (Qix _ 8) (fun r hr=> ?_) ?_,(Qh9 _).symm,by rw [Qe6,q]⟩
 ·obtain⟨z,g,u⟩:=(Qdk _ 8 r).1 hr;exact⟨by omega,by omega,by omega,(fun e=>by rw [e] at u;cases u),j r⟩
 ·have:(Qdv (Lk R F T n) 8).length=n:=by rw [q];simp [flat]
  unfold Qdv at this;omega
noncomputable def Qa6 (f:Nat ->Int)(n:Nat)(rep:Int):Nat ->Int ->Nat ->Option (List Rn×Nat)
 | 0,_,x=>some ([],x)
 | k+1,last,x=>(rd f n x 1000000000).bind fun a=>(rd f n a.2 1000000000).bind fun b=>
   (Qa6 f n rep k (last+2+(a.1:Int)+(b.1:Int)) b.2).bind fun c=>some ((rep,last+2+(a.1:Int),last+2+(a.1:Int)+(b.1:Int))::c.1,c.2)
noncomputable def QaM (f:Nat ->Int)(n:Nat):Nat ->Nat ->Option (List Rn×Nat)
 | 0,x=>some ([],x)
 | k+1,x=>(rd f n x 8).bind fun a=>(rd f n a.2 1000).bind fun b=>(Qa6 f n (a.1:Int) b.1 (-1) b.2).bind fun c=>(QaM f n k c.2).bind fun d=>some (c.1++d.1,d.2)
noncomputable def QdW (f:Nat ->Int)(n x:Nat):Option (List Rn×Nat):=(rd f n x 8).bind fun a=>QaM f n a.1 a.2
theorem QeA {f:Nat ->Int}(hf:Byt f){n:Nat}(rep:Int):∀(l:List (Int×Int)) (last:Int) (x:Nat), -1<=last ->okS (last+2) l ->At f x (QbI (last+2) l) ->x+(QbI (last+2) l).length<=n ->
  Qa6 f n rep l.length last x=some (tag rep l,x+(QbI (last+2) l).length)
 | [],last,x,_,_,_,_=>by simp [Qa6,tag,QbI]
 | p::l,last,x,h0,⟨o1,o2,o3,o4⟩,ha,hn=>by
  have j:At f x (uvF 9 (p.1 - (last+2)).toNat++uvF 9 (p.2 - p.1).toNat++QbI (p.2+2) l):=ha;have g:x+(uvF 9 (p.1 - (last+2)).toNat++uvF 9 (p.2 - p.1).toNat++QbI (p.2+2) l).length<=n:=hn;rw [At.app,At.app] at j;simp only [List.length_append,<- Nat.add_assoc] at j g;obtain⟨⟨k,m⟩,q⟩:=j;have r:rd f n x 1000000000=some ((p.1 - (last+2)).toNat,x+(uvF 9 (p.1 - (last+2)).toNat).length):=(Qav hf).2 ⟨by omega,by omega,k,rfl,by omega⟩;have u:rd f n (x+(uvF 9 (p.1 - (last+2)).toNat).length) 1000000000=some ((p.2 - p.1).toNat,x+(uvF 9 (p.1 - (last+2)).toNat).length+(uvF 9 (p.2 - p.1).toNat).length):=(Qav hf).2 ⟨by omega,by omega,m,rfl,by omega⟩;have v:=QeA hf (n:=n) rep l p.2 (x+(uvF 9 (p.1 - (last+2)).toNat).length+(uvF 9 (p.2 - p.1).toNat).length) (by omega) o4 q (by omega);have y:last+2+(((p.1 - (last+2)).toNat:Nat):Int)=p.1:=by omega
  have z:p.1+(((p.2 - p.1).toNat:Nat):Int)=p.2:=by omega
  show Qa6 f n rep (l.length+1) last x=_;unfold Qa6;rw [r,Option.bind_some];dsimp only;rw [u,Option.bind_some];dsimp only;rw [y,z,v,Option.bind_some];have h:x+(QbI (last+2) (p::l)).length=x+(uvF 9 (p.1 - (last+2)).toNat).length+(uvF 9 (p.2 - p.1).toNat).length+(QbI (p.2+2) l).length:=by
   show x+(uvF 9 (p.1 - (last+2)).toNat++uvF 9 (p.2 - p.1).toNat++QbI (p.2+2) l).length=_;simp only [List.length_append];omega
  rw [h];simp [tag]
theorem QfS {f:Nat ->Int}(hf:Byt f){n:Nat}:∀(g:List (Int×List (Int×Int))) (before left:Int) (x:Nat),left<=1000 ->okR before left g ->At f x (QcW g) ->x+(QcW g).length<=n ->
  QaM f n g.length x=some (Qat g,x+(QcW g).length)
 | [],_,_,x,_,_,_,_=>by simp [QaM,Qat,QcW]
 | p::g,before,left,x,hl,⟨o1,o2,o3,o4,o5,o6,o7⟩,ha,hn=>by
  have j:At f x (uvF 9 p.1.toNat++uvF 9 p.2.length++QbI 1 p.2++QcW g):=ha;have o:x+(uvF 9 p.1.toNat++uvF 9 p.2.length++QbI 1 p.2++QcW g).length<=n:=hn;rw [At.app,At.app,At.app] at j;simp only [List.length_append,<- Nat.add_assoc] at j o;obtain⟨⟨⟨k,m⟩,q⟩,r⟩:=j;have u:rd f n x 8=some (p.1.toNat,x+(uvF 9 p.1.toNat).length):=(Qav hf).2 ⟨by omega,by omega,k,rfl,by omega⟩;have v:rd f n (x+(uvF 9 p.1.toNat).length) 1000=some (p.2.length,x+(uvF 9 p.1.toNat).length+(uvF 9 p.2.length).length):=(Qav hf).2 ⟨by omega,by omega,m,rfl,by omega⟩;have y:=QeA hf (n:=n) p.1 p.2 (-1) (x+(uvF 9 p.1.toNat).length+(uvF 9 p.2.length).length) (by omega) o6 q (by show _+(QbI 1 p.2).length<=n;omega);have z:=QfS hf (n:=n) g p.1 (left - p.2.length) (x+(uvF 9 p.1.toNat).length+(uvF 9 p.2.length).length+(QbI 1 p.2).length) (by omega) o7 r (by omega);have t:((p.1.toNat:Nat):Int)=p.1:=by omega
  show QaM f n (g.length+1) x=_;unfold QaM;rw [u,Option.bind_some];dsimp only;rw [v,Option.bind_some];dsimp only;rw [t,y,Option.bind_some];dsimp only;rw [show (-1:Int)+2=1 from rfl,z,Option.bind_some];have h:x+(QcW (p::g)).length=x+(uvF 9 p.1.toNat).length+(uvF 9 p.2.length).length+(QbI 1 p.2).length+(QcW g).length:=by
   show x+(uvF 9 p.1.toNat++uvF 9 p.2.length++QbI 1 p.2++QcW g).length=_;simp only [List.length_append];omega
  rw [h,Qe5]
theorem Qk1 {f:Nat ->Int}(hf:Byt f){n x x':Nat}(hx:x<=n){g:List (Int×List (Int×Int))}(h:QgO f n x=some (g,x')):QdW f n x=some (Qat g,x'):=by
 obtain⟨m,j,k,r⟩:=(Qcg hf hx).1 h;unfold QhZ at j k;rw [At.app] at j;rw [List.length_append] at k;have u:=Qjm g (-1) 1000 m (by omega) (by omega);have q:rd f n x 8=some (g.length,x+(uvF 9 g.length).length):=(Qav hf).2 ⟨by omega,by omega,j.1,rfl,by omega⟩;unfold QdW;rw [q,Option.bind_some];dsimp only;rw [QfS hf g (-1) 1000 _ (by omega) m j.2 (by omega),k,Nat.add_assoc]
variable {EX : Nat -> Option Value}
theorem QaY.toR {w:World}{bm n:Nat}{D:DataW Value}{G:Int ->Value}{L:Int ->List (Int×Int)}(h:QaY w bm n D G L):Qdt w bm n D G L:=⟨h.own,h.at',h.has',fun r=>QhM (h.rows r)⟩
theorem Qh2:∀(g:List (Int×List (Int×Int))) (L0:Int ->List (Int×Int)) (r:Int),(g.map Prod.fst).Pairwise (fun x y=>x<y) ->g.foldl (fun L p=>upd L p.1 p.2) L0 r=if r∈g.map Prod.fst then lkG g r else L0 r
 | [],L0,r,_=>by simp
 | p::g,L0,r,h=>by
  obtain⟨q,u⟩:=List.pairwise_cons.1 h;rw [List.foldl_cons,Qh2 g _ r u];by_cases e:r=p.1
  ·subst e;rw [if_neg (fun j=>by have:=q _ j;omega),Qay,if_pos (by simp)];exact(if_pos rfl).symm
  ·have m:lkG (p::g) r=lkG g r:=if_neg (fun e3=>e e3.symm);rw [Qap _ _ e,m];by_cases j:r∈g.map Prod.fst
   ·rw [if_pos j];exact(if_pos (List.mem_cons_of_mem _ j)).symm
   ·rw [if_neg j];exact(if_neg (fun h3=>by rcases List.mem_cons.1 h3 with k|k;exact e k;exact j k)).symm
theorem Ql2 {g:List (Int×List (Int×Int))}{before left:Int}(h:okR before left g):lkS g=lkG g:=by
 funext r;unfold lkS;rw [Qh2 g _ r (Qd2 g _ _ h).1];split
 ·rfl
 ·rename_i hm;have:=(QdZ g _ _ h r).2.2;cases e:lkG g r with
  | nil=>rfl
  | cons q t=>exact absurd (this.2 (by rw [e];simp)) hm
theorem QgH:∀(g:List (Int×List (Int×Int))) (before left:Int),okR before left g ->0<=left ->∀r,((lkG g r).length:Int)<=left
 | [],_,_,_,h0,r=>by simpa [lkG] using h0
 | p::g,before,left,⟨o1,o2,o3,o4,o5,o6,o7⟩,h0,r=>by
  have j:=QgH g p.1 _ o7 (by omega) r;by_cases e:p.1=r
  ·rw [show lkG (p::g) r=p.2 from if_pos e];exact o5
  ·rw [show lkG (p::g) r=lkG g r from if_neg e];omega
noncomputable def rdC (f:Nat ->Int)(n:Nat)(x:Int):Option (List (Int×List (Int×Int))×Nat):=(rdI f n x 8).bind (fun a=>QaB f n a.1 (-1) 1000 a.2)
theorem Qfs (f:Nat ->Int)(n p:Nat):rdC f n (p:Int)=QgO f n p:=by unfold rdC QgO;rw [Qa4]
theorem QnX {f:Nat ->Int}(hf:Byt f){n:Nat}{x:Int}{g:List (Int×List (Int×Int))}{x':Nat}(h:rdC f n x=some (g,x')):0<=x/\ x<=n/\ okR (-1) 1000 g:=by
 have j:0<=x:=by
  rcases Int.lt_or_le x 0 with j|j
  ·unfold rdC rdI at h;rw [if_neg (by omega)] at h;cases h
  ·exact j
 obtain⟨p,rfl⟩:∃p:Nat,x=(p:Int):=⟨x.toNat,by omega⟩;rw [Qfs] at h;have m:p<=n:=by
  unfold QgO at h;obtain⟨a,k,_⟩:=Option.bind_eq_some_iff.1 h;have:=(Qav hf).1 (show rd f n p 8=some (a.1,a.2) from k);omega
 exact⟨j,by omega,((Qcg hf m).1 h).1⟩
theorem QoW (cb B:Nat)(a:Option Addr)(n c:Nat)(x:Int)(f:Nat ->Int)(aT aS aL aE:Addr)(w:World)(hn:n<=1048576)(hf:Byt f)(hcur:Cur EX w cb a n c x)(hs:Seg w a n f)(hab:∀y,a=some y ->y.block≠cb)(hE:QcQ w B aT aS aL aE)(hBc:B<=cb):
  Calls Tryz.prog 35 #[.pointer (some ⟨cb,0,none⟩)] w fun e w'=>w.grownBy w' (some cb)/\
   ((∃(g:List (Int×List (Int×Int))) (x' bm p:Nat) (D:DataW Value) (G:Int ->Value),rdC f n x=some (g,x')/\ e=.returned (.tuple #[.map (some bm),.nilIface])/\ Qdt w' bm p D G (lkS g)/\ Cur EX w' cb a n c (x':Int)/\ w.heap.size<=bm/\∀r g,(G r).ownBlock=some g ->w.heap.size<=g) \/
    (rdC f n x=none/\∃(pb:Nat) (u:Value) (y:Int),e=.returned (.tuple #[.map none,.iface 98 (.pointer (some ⟨pb,0,none⟩))])/\ w.heap.size<=pb/\ Plc w' pb x u/\ Cur EX w' cb a n c y)):=by
 have E:=hcur.lt;have Y:=@run_makeMap Tryz.prog;obtain⟨W,z⟩:∃W,w.alloc (.map #[] 0)=W:=⟨_,rfl⟩;have b:Below w.heap.size w W:=by rw [<- z];exact zO _ _
 have A:Hid (Qdt W w.heap.size 0 (.map []) (fun _=> .slice none 0 0) (fun _=>[])):=by rw [<- z];exact hid (Qff w).toR
 have i:=hid (Qj2 cb B w.heap.size a n c x f aT aS aL aE w W _ _ hn hf (hcur.below b E) hs hab hE hBc E zL (Qag (Qbm w (some cb)) b) A.out (fun r g hg=>by cases hg));obtain⟨H,I,J,_⟩:=hcur;clear hs hE A b;go_enter Tryz.func35,Tryz.ntmps35;go_wp2_with fail;try rw [z]
 clear z Y;refine i.mono ?_;rintro e w1 ⟨k,⟨g,Q,p,D,G,m,rfl,O,j,M⟩|⟨m,t,v,y,rfl,j⟩⟩
 ·have o:=hid (show rdC f n x=some (g,Q) from m);have h:=hid k;have q:=hid j;have V:=hid O;have U:=hid M;clear k m j O i M;go_wp2_with fail;go_ret2;exact⟨h.out,.inl ⟨g,Q,_,p,D,G,o.out,rfl,V.out,q.out,Nat.le_refl _,U.out⟩⟩
 ·have o:=hid (show rdC f n x=none from m);have Z:=k.size;have h:=hid k;have q:=hid j;clear k m j i;go_wp2_with fail;go_ret2;have s:Below w1.heap.size w1 (w1.alloc (.cells #[.string {data:=#[99,111,110,116,101,120,116]},.int .i64 x,.iface t v] 100)):=zO _ _;exact⟨Qag h.out s,.inr ⟨o.out,w1.heap.size,.iface t v,_,rfl,Z,⟨by simp,by simp,by simp⟩,q.below s q.lt⟩⟩
theorem QiM {l:List Lf}{k:Nat}(h:k<l.length):l.take (k+1)=l.take k++[gL l k]:=by
 rw [List.take_add_one];simp [gL,List.getD,h]
theorem Qe1 (l:List Lf)(p:List ByteArray)(y:Ky):∀k,k<=l.length ->dsK l p y k=(l.take k).filter fun z=>yes (nx p z=some y)
 | 0,_=>by simp [dsK]
 | k+1,h=>by
  rw [QiM (by omega),List.filter_append,<- Qe1 l p y k (by omega)];by_cases e:nx p (gL l k)=some y
  ·rw [Qb6 e];simp [Qal e]
  ·rw [QbT e];simp [Qaj e]
noncomputable def kF (p:List ByteArray):List Ky ->List Lf ->List Ky
 | acc,[]=>acc
 | acc,z::l=>kF p (match nx p z with|none=>acc|some y=>if yes (acc.getLast? =some y)=true then acc else acc++[y]) l
theorem QfP (p:List ByteArray):∀(l m:List Lf) (acc:List Ky),kF p acc (l++m)=kF p (kF p acc l) m
 | [],_,_=>rfl
 | z::l,m,acc=>by rw [List.cons_append];simp only [kF];exact QfP p l m _
theorem QnG (l:List Lf)(p:List ByteArray):∀k,k<=l.length ->kS l p k=kF p [] (l.take k)
 | 0,_=>by simp [kS,kF]
 | k+1,h=>by
  rw [QiM (by omega),QfP,<- QnG l p k (by omega)];cases e:nx p (gL l k) with
  | none=>rw [Qc2 e];simp only [kF,e]
  | some y=>rw [Qc3 e];simp only [kF,e]
theorem QgA {p:List ByteArray}:∀{l:List Lf} {acc:List Ky},(∀z∈l,nx p z=none) ->kF p acc l=acc
 | [],_,_=>rfl
 | z::l,acc,h=>by
  unfold kF;rw [h z List.mem_cons_self];exact QgA (fun x hx=>h x (List.mem_cons_of_mem _ hx))
theorem QiV {p:List ByteArray}{y:Ky}:∀{l:List Lf} {acc:List Ky},acc.getLast? =some y ->(∀z∈l,nx p z=some y) ->kF p acc l=acc
 | [],_,_,_=>rfl
 | z::l,acc,ha,h=>by
  unfold kF;rw [h z List.mem_cons_self];simp only [Qal ha,if_true];exact QiV ha (fun x hx=>h x (List.mem_cons_of_mem _ hx))
theorem QnF {p:List ByteArray}{y:Ky}{l:List Lf}{acc:List Ky}(hl:l≠[])(ha:acc.getLast? ≠some y)(h:∀z∈l,nx p z=some y):kF p acc l=acc++[y]:=by
 cases l with
 | nil=>exact absurd rfl hl
 | cons z l=>
  unfold kF;rw [h z List.mem_cons_self];simp only [Qaj ha];exact QiV (by simp) (fun x hx=>h x (List.mem_cons_of_mem _ hx))
abbrev Gr3:=Ky×List Lf×List Int
theorem QfQ {p:List ByteArray}:∀{G:List Gr3} {acc:List Ky},(G.map Prod.fst).Pairwise (fun x y=>QbA x y<0) ->(∀g∈G,g.2.1≠[]/\∀z∈g.2.1,nx p z=some g.1) ->(∀y,acc.getLast? =some y ->∀g∈G,QbA y g.1<0) ->kF p acc (G.flatMap fun g=>g.2.1)=acc++G.map Prod.fst
 | [],acc,_,_,_=>by simp [kF]
 | g::G,acc,h1,h2,h3=>by
  rw [List.flatMap_cons,QfP];rw [List.map_cons,List.pairwise_cons] at h1;obtain⟨k,m⟩:=h1;have j:=h2 g List.mem_cons_self;rw [QnF j.1 (fun e=>by have:=h3 _ e g List.mem_cons_self;rw [QaG.key.irr] at this;omega) j.2];rw [QfQ m (fun x hx=>h2 x (List.mem_cons_of_mem _ hx)) (fun y hy x hx=>by
   simp at hy;subst hy;exact k x.1 (List.mem_map.2 ⟨x,hx,rfl⟩))]
  simp
def EnT:Nat ->List ByteArray ->List Lf ->List Int ->Prop
 | 0,_,_,_=>False
 | d+1,p,B,U=>∃G:List Gr3,B=G.flatMap (fun g=>g.2.1)/\ U=uvF 9 G.length++G.flatMap (fun g=>Qae g.1.1++([g.1.2]++g.2.2))/\ (G.map Prod.fst).Pairwise (fun x y=>QbA x y<0)/\∀g∈G,(g.2.1≠[]/\∀z∈g.2.1,nx p z=some g.1)/\ (if g.1.2=3 then EnT d (p++[g.1.1]) g.2.1 g.2.2 else g.2.2=mB g.2.1 g.1.2)
theorem Qlz {x y:Ky}(h:QbA x y<0):x≠y:=fun e=>by rw [e,QaG.key.irr] at h;omega
theorem QcB {p:List ByteArray}{y:Ky}{l:List Lf}(h:∀z∈l,nx p z≠some y):(l.filter fun z=>yes (nx p z=some y))=[]:=by
 rw [List.filter_eq_nil_iff];intro z j;rw [Qaj (h z j)];simp
theorem Qkj {p:List ByteArray}{y:Ky}{l:List Lf}(h:∀z∈l,nx p z=some y):(l.filter fun z=>yes (nx p z=some y))=l:=by
 rw [List.filter_eq_self];intro z j;exact Qal (h z j)
theorem Qdz {G:List Gr3}{z:Lf}(h:z∈G.flatMap fun g=>g.2.1):∃g∈G,z∈g.2.1:=by simpa using h
theorem Qla:∀(d:Nat) (p:List ByteArray) (B:List Lf) (U:List Int) (A C:List Lf),EnT d p B U ->(∀z∈A,nx p z=none) ->(∀z∈C,nx p z=none) ->U=tB (A++(B++C)) d p
 | 0,_,_,_,_,_,h,_,_=>h.elim
 | d+1,p,B,U,A,C,⟨G,hB,hU,hk,hG⟩,hA,hC=>by
  obtain⟨l,v⟩:∃l,A++(B++C)=l:=⟨_,rfl⟩;rw [v,Qf1];have M:kS l p l.length=G.map Prod.fst:=by
   rw [QnG l p _ zL,List.take_length,<- v,QfP,QgA hA,QfP,hB,QfQ hk (fun g hg=>(hG g hg).1) (fun y hy=>by simp at hy),QgA hC];simp
  rw [M,List.length_map,List.flatMap_map,hU];congr 1;refine QbB (fun g hg=> ?_);obtain⟨t,o,Q⟩:=List.append_of_mem hg;subst Q;have i:=hk;rw [List.map_append,List.map_cons,List.pairwise_append,List.pairwise_cons] at i;obtain⟨_,⟨V,_⟩,Y⟩:=i;have s:∀z∈t.flatMap (fun g=>g.2.1),nx p z≠some g.1:=fun z hz e=>by
   obtain⟨j,k,r⟩:=Qdz hz;have:=(hG j (by simp [k])).1.2 z r;rw [this] at e;exact Qlz (Y j.1 (List.mem_map.2 ⟨j,k,rfl⟩) g.1 List.mem_cons_self) (Option.some.inj e)
  have E:∀z∈o.flatMap (fun g=>g.2.1),nx p z≠some g.1:=fun z hz e=>by
   obtain⟨j,k,r⟩:=Qdz hz;have:=(hG j (by simp [k])).1.2 z r;rw [this] at e;exact Qlz (V j.1 (List.mem_map.2 ⟨j,k,rfl⟩)) (Option.some.inj e).symm
  have b:l=(A++t.flatMap fun g=>g.2.1)++(g.2.1++((o.flatMap fun g=>g.2.1)++C)):=by
   rw [<- v,hB,List.flatMap_append,List.flatMap_cons];simp
  unfold kB;congr 2;have q:=(hG g hg).2;by_cases u:g.1.2=3
  ·rw [if_pos u] at q ⊢;have O:g.1=(g.1.1,3):=by rw [<- u]
   have m:∀z,nx p z≠some g.1 ->nx (p++[g.1.1]) z=none:=fun z hz=>by
    cases e:nx (p++[g.1.1]) z with
    | none=>rfl
    | some y=>exact absurd (by rw [O];exact QcG.2 (by rw [e];simp)) hz
   rw [b];refine Qla d (p++[g.1.1]) g.2.1 g.2.2 _ _ q (fun z hz=>m z ?_) (fun z hz=>m z ?_)
   ·rcases List.mem_append.1 hz with h|h
    ·rw [hA z h];simp
    ·exact s z h
   ·rcases List.mem_append.1 hz with h|h
    ·exact E z h
    ·rw [hC z h];simp
  ·rw [if_neg u] at q ⊢;rw [q,Qe1 l p g.1 _ zL,List.take_length,b,List.filter_append,List.filter_append,List.filter_append,List.filter_append];rw [QcB (l:=A) (fun z hz=>by rw [hA z hz];simp),QcB s,QcB E,QcB (l:=C) (fun z hz=>by rw [hC z hz];simp),Qkj (hG g hg).1.2];simp
structure LGd (K:Int ->Int ->Bool)(kind:Int)(p:List ByteArray)(z:Lf):Prop where
 p:z.p=p
 fl:z.fl=decide (kind=2)
 k:K z.r z.q=true
 v:z.v.size<=200
 e:kind=2 ->z.v=ByteArray.empty
def KOk (K:Int ->Int ->Bool):Prop:=∀r q,K r q=true ->0<=r/\ r<=7/\ 1<=q/\ q<=1000000000
section
variable {f : Nat -> Int} {n : Nat} {K : Int -> Int -> Bool}
theorem QhH (hf:Byt f)(hK:KOk K){kind:Int}(hk:kind=1 \/kind=2){p:List ByteArray}{before:Dt}{acc:List Lf}{x:Nat}{z:Lf}{x':Nat}:
  Qeg f n K kind p before acc x=some (z,x')↔LGd K kind p z/\ Qbh before (z.r,z.q)<0/\ (∀y∈acc,¬(y.r=z.r/\ y.q=z.q))/\ acc.length≠1000/\ At f x (lfB kind z)/\ x'=x+(lfB kind z).length/\ x'<=n:=by
 unfold Qeg lfB;constructor
 ·intro h;obtain⟨⟨r,x1⟩,o,h⟩:=Qab.1 h;obtain⟨⟨q,x2⟩,j,h⟩:=Qab.1 h;simp only at h j;obtain⟨r1,r2,V,s,r5⟩:=(Qav hf).1 o;obtain⟨W,q2,U,X,B⟩:=(Qav hf).1 j;split at h
  ·rename_i hy;obtain⟨m,Y,u,g⟩:=Qb9.1 hy;rcases hk with rfl|rfl
   ·rw [if_neg (by decide)] at h;obtain⟨⟨t,x3⟩,b,h⟩:=Qab.1 h;simp only [Option.some.injEq,Prod.mk.injEq] at h;obtain⟨rfl,rfl⟩:=h;obtain⟨t1,C,t3,D⟩:=(QcK hf (by decide)).1 b;refine⟨⟨rfl,by simp,Y,by simp only;omega,fun h=>by omega⟩,m,u,g,?_,?_,D⟩
    ·simp only [Int.toNat_natCast,if_true];rw [At.app,At.app];exact⟨V,by rw [<- s];exact U,by rw [<- s,<- X];exact C⟩
    ·simp only [Int.toNat_natCast,if_true,List.length_append];omega
   ·rw [if_pos rfl] at h;simp only [Option.some.injEq,Prod.mk.injEq] at h;obtain⟨rfl,rfl⟩:=h;refine⟨⟨rfl,by simp,Y,by simp,fun _=>rfl⟩,m,u,g,?_,?_,B⟩
    ·simp only [Int.toNat_natCast];rw [At.app,At.app];exact⟨V,by rw [<- s];exact U,by rw [if_neg (by decide)];intro i L;simp at L⟩
    ·simp only [Int.toNat_natCast,List.length_append];rw [if_neg (by decide)];simp;omega
  ·cases h
 ·rintro⟨⟨E,M,O,F,J⟩,m,u,g,Q,k,N⟩;obtain⟨P,R,S,T⟩:=hK _ _ O;rw [At.app,At.app] at Q;rw [List.length_append,List.length_append] at k;obtain⟨Z,G,A⟩:=Q;have H:((z.r.toNat:Nat):Int)=z.r:=by omega
  have I:((z.q.toNat:Nat):Int)=z.q:=by omega
  have o:rd f n x 7=some (z.r.toNat,x+(uvF 9 z.r.toNat).length):=(Qav hf).2 ⟨by omega,by omega,Z,rfl,by omega⟩;have j:rd f n (x+(uvF 9 z.r.toNat).length) 1000000000=some (z.q.toNat,x+(uvF 9 z.r.toNat).length+(uvF 9 z.q.toNat).length):=(Qav hf).2 ⟨by omega,by omega,G,rfl,by omega⟩;rw [o];simp only [Option.bind_some];rw [j];simp only [Option.bind_some,H,I];rw [if_pos (Qal ⟨m,O,u,g⟩)];rcases hk with rfl|rfl
  ·rw [if_neg (by decide)];rw [if_pos rfl] at A k;have b:Qcy f n (x+(uvF 9 z.r.toNat).length+(uvF 9 z.q.toNat).length) 200=some (z.v,x'):=(QcK hf (by decide)).2 ⟨by omega,A,by omega,N⟩;rw [b];simp only [Option.bind_some,Option.some.injEq,Prod.mk.injEq,and_true];rw [<- E];have:z.fl=false:=by rw [M];decide
   rw [<- this]
  ·rw [if_pos rfl];rw [if_neg (by decide)] at k;simp only [Option.some.injEq,Prod.mk.injEq];refine⟨?_,by simp at k;omega⟩;rw [<- E,<- J rfl];have:z.fl=true:=by rw [M];decide
   rw [<- this]
def OkB (K:Int ->Int ->Bool)(kind:Int)(p:List ByteArray):Dt ->List Lf ->List Lf ->Prop
 | _,_,[]=>True
 | before,acc,z::B=>LGd K kind p z/\ Qbh before (z.r,z.q)<0/\ (∀y∈acc,¬(y.r=z.r/\ y.q=z.q))/\ acc.length≠1000/\ OkB K kind p (z.r,z.q) (acc++[z]) B
theorem Qd5 (hf:Byt f)(hK:KOk K){kind:Int}(hk:kind=1 \/kind=2){p:List ByteArray}:∀(k:Nat) {before:Dt} {acc acc':List Lf} {x x':Nat},
  QgP f n K kind p k before acc x=some (acc',x')/\ x<=n↔∃B,acc'=acc++B/\ B.length=k/\ OkB K kind p before acc B/\ At f x (B.flatMap (lfB kind))/\ x'=x+(B.flatMap (lfB kind)).length/\ x'<=n
 | 0,before,acc,acc',x,x'=>by
  unfold QgP;constructor
  ·rintro⟨h,u⟩;simp only [Option.some.injEq,Prod.mk.injEq] at h;obtain⟨rfl,rfl⟩:=h;exact⟨[],by simp,rfl,trivial,fun i hi=>by simp at hi,by simp,u⟩
  ·rintro⟨B,rfl,j,_,_,rfl,m⟩;obtain rfl:=List.length_eq_zero_iff.1 j;simp at m ⊢;exact m
 | k+1,before,acc,acc',x,x'=>by
  unfold QgP;constructor
  ·rintro⟨h,u⟩;obtain⟨⟨z,H⟩,y,h⟩:=Qab.1 h;obtain⟨g,t,o,b,s,A,G⟩:=(QhH hf hK hk).1 y;obtain⟨B,E,M,O,Q,U,V⟩:=(Qd5 hf hK hk k).1 ⟨h,G⟩;refine⟨z::B,by rw [E];simp,by simp [M],⟨g,t,o,b,O⟩,?_,?_,V⟩
   ·rw [List.flatMap_cons,At.app];exact⟨s,by rw [<- A];exact Q⟩
   ·rw [List.flatMap_cons,List.length_append,U,A];omega
  ·rintro⟨B,rfl,j,Y,v,u,m⟩;cases B with
   | nil=>simp at j
   | cons z B=>
    obtain⟨g,t,o,b,s⟩:=Y;rw [List.flatMap_cons,At.app] at v;rw [List.flatMap_cons,List.length_append] at u;have y:Qeg f n K kind p before acc x=some (z,x+(lfB kind z).length):=(QhH hf hK hk).2 ⟨g,t,o,b,v.1,rfl,by omega⟩;have Z:=(Qd5 hf hK hk k (before:=(z.r,z.q)) (acc:=acc++[z]) (acc':=acc++z::B) (x:=x+(lfB kind z).length) (x':=x')).2 ⟨B,by simp,by simpa using j,s,v.2,by omega,m⟩;refine⟨?_,by omega⟩;rw [y];exact Z.1
theorem QhG (hf:Byt f){before y:Ky}{x x':Nat}:
  Qf9 f n before x=some (y,x')↔y.1.size≠0/\ y.1.size<=40/\ QbA before y<0/\ At f x (Qae y.1++[y.2])/\ x'=x+(Qae y.1++[y.2]).length/\ x'<=n:=by
 unfold Qf9;constructor
 ·intro h;obtain⟨⟨t,O⟩,k,h⟩:=Qab.1 h;obtain⟨E,z,g,M⟩:=(QcK hf (by decide)).1 k;split at h
  ·rename_i hy;obtain⟨o,b,p⟩:=Qb9.1 hy;simp only [Option.some.injEq,Prod.mk.injEq] at h;obtain⟨rfl,rfl⟩:=h;refine⟨o,by simp only;omega,p,?_,by simp;omega,by simp only at b;omega⟩;rw [At.app];refine⟨z,fun i hi=> ?_⟩;have:i=0:=by simpa using hi
   subst this;simp [g]
  ·cases h
 ·rintro⟨q,s,r,j,m,A⟩;rw [At.app] at j;rw [List.length_append] at m;have u:x'=x+(Qae y.1).length+1:=by simpa [Nat.add_assoc] using m
  have k:Qcy f n x 40=some (y.1,x+(Qae y.1).length):=(QcK hf (by decide)).2 ⟨by omega,j.1,rfl,by omega⟩;have v:f (x+(Qae y.1).length)=y.2:=by
   have:=j.2 0 (by simp);simpa using this
  rw [k];simp only [Option.bind_some];rw [v,if_pos (Qal ⟨q,by omega,r⟩),u]
def RD (K:Int ->Int ->Bool)(R:List ByteArray ->List Lf ->List Lf ->List Int ->Prop)(p:List ByteArray)(y:Ky)(acc B:List Lf)(U:List Int):Prop:=
 if y.2=3 then R (p++[y.1]) acc B U else(y.2=1 \/y.2=2)/\ B≠[]/\ B.length<=1000/\ OkB K y.2 (p++[y.1]) (0,0) acc B/\ U=mB B y.2
def RK (K:Int ->Int ->Bool)(R:List ByteArray ->List Lf ->List Lf ->List Int ->Prop)(p:List ByteArray):Ky ->List Lf ->List Gr3 ->Prop
 | _,_,[]=>True
 | before,acc,g::G=>(g.1.1.size≠0/\ g.1.1.size<=40/\ QbA before g.1<0)/\ RD K R p g.1 acc g.2.1 g.2.2/\ RK K R p g.1 (acc++g.2.1) G
def gB (g:Gr3):List Int:=Qae g.1.1++([g.1.2]++g.2.2)
def RT (K:Int ->Int ->Bool):Nat ->List ByteArray ->List Lf ->List Lf ->List Int ->Prop
 | 0,_,_,_,_=>False
 | d+1,p,acc,B,U=>∃G:List Gr3,B=G.flatMap (fun g=>g.2.1)/\ U=uvF 9 G.length++G.flatMap gB/\ G.length<=1000/\ (G=[] ->p.length=0)/\ (G≠[] ->p.length<8)/\ RK K (RT K d) p (ByteArray.empty,0) acc G
def Rds (f:Nat ->Int)(n:Nat)(r:List ByteArray ->List Lf ->Nat ->Option (List Lf×Nat))(R:List ByteArray ->List Lf ->List Lf ->List Int ->Prop):Prop:=
 ∀p acc x acc' x',r p acc x=some (acc',x')/\ x<=n↔∃B U,acc'=acc++B/\ R p acc B U/\ At f x U/\ x'=x+U.length/\ x'<=n
theorem QhF (hf:Byt f)(hK:KOk K){r:List ByteArray ->List Lf ->Nat ->Option (List Lf×Nat)}{R:List ByteArray ->List Lf ->List Lf ->List Int ->Prop}(hR:Rds f n r R)(p:List ByteArray)(y:Ky)(acc:List Lf)(x:Nat)(acc':List Lf)(x':Nat):
  QhE f n K r p y acc x=some (acc',x')/\ x<=n↔∃B U,acc'=acc++B/\ RD K R p y acc B U/\ At f x U/\ x'=x+U.length/\ x'<=n:=by
 unfold QhE RD;by_cases z:y.2=3
 ·simp only [if_pos z];exact hR (p++[y.1]) acc x acc' x'
 ·simp only [if_neg z];by_cases j:y.2=1 \/y.2=2
  ·rw [if_pos j];constructor
   ·rintro⟨h,u⟩;obtain⟨⟨c,G⟩,q,h⟩:=Qab.1 h;simp only at h;split at h
    ·cases h
    ·rename_i h0;obtain⟨V,Y,s,v,A⟩:=(Qav hf).1 q;obtain⟨B,g,m,t,o,i,b⟩:=(Qd5 hf hK j c).1 ⟨h,A⟩;refine⟨B,mB B y.2,g,⟨j,fun e=>h0 (by rw [<- m,e];rfl),by omega,t,rfl⟩,?_,?_,b⟩
     ·unfold mB;rw [At.app,m];exact⟨s,by rw [<- v];exact o⟩
     ·unfold mB;rw [List.length_append,m,i,v];omega
   ·rintro⟨B,U,rfl,⟨_,E,Z,M,rfl⟩,k,u,O⟩;unfold mB at k u;rw [At.app] at k;rw [List.length_append] at u;have q:rd f n x 1000=some (B.length,x+(uvF 9 B.length).length):=(Qav hf).2 ⟨by omega,by omega,k.1,rfl,by omega⟩;have Q:=(Qd5 hf hK j B.length (before:=(0,0)) (acc:=acc) (acc':=acc++B) (x:=x+(uvF 9 B.length).length) (x':=x')).2 ⟨B,rfl,rfl,M,k.2,by omega,O⟩;refine⟨?_,by omega⟩;rw [q];simp only [Option.bind_some];rw [if_neg (fun e=>E (List.length_eq_zero_iff.1 e))];exact Q.1
  ·rw [if_neg j];constructor
   ·rintro⟨h,_⟩;cases h
   ·rintro⟨B,U,_,⟨h,_⟩,_⟩;exact absurd h j
theorem Qd4 (hf:Byt f)(hK:KOk K){r:List ByteArray ->List Lf ->Nat ->Option (List Lf×Nat)}{R:List ByteArray ->List Lf ->List Lf ->List Int ->Prop}(hR:Rds f n r R)(p:List ByteArray):∀(k:Nat) (before:Ky) (acc:List Lf) (x:Nat) (acc':List Lf) (x':Nat),
  Qjw f n K r p k before acc x=some (acc',x')/\ x<=n↔∃G:List Gr3,acc'=acc++G.flatMap (fun g=>g.2.1)/\ G.length=k/\ RK K R p before acc G/\ At f x (G.flatMap gB)/\ x'=x+(G.flatMap gB).length/\ x'<=n
 | 0,before,acc,x,acc',x'=>by
  unfold Qjw;constructor
  ·rintro⟨h,u⟩;simp only [Option.some.injEq,Prod.mk.injEq] at h;obtain⟨rfl,rfl⟩:=h;exact⟨[],by simp,rfl,trivial,fun i hi=>by simp at hi,by simp,u⟩
  ·rintro⟨G,rfl,m,_,_,rfl,q⟩;obtain rfl:=List.length_eq_zero_iff.1 m;simp at q ⊢;exact q
 | k+1,before,acc,x,acc',x'=>by
  unfold Qjw;constructor
  ·rintro⟨h,u⟩;obtain⟨⟨y,x1⟩,z,h⟩:=Qab.1 h;obtain⟨⟨Y,O⟩,v,h⟩:=Qab.1 h;obtain⟨t,o,b,y4,s,y6⟩:=(QhG hf).1 z;obtain⟨B,U,Z,H,I,E,J⟩:=(QhF hf hK hR p y acc x1 Y O).1 ⟨v,y6⟩;subst Z;obtain⟨G,L,N,X,C,D,F⟩:=(Qd4 hf hK hR p k y (acc++B) O acc' x').1 ⟨h,J⟩;refine⟨(y,B,U)::G,by rw [L];simp,by simp [N],⟨⟨t,o,b⟩,H,X⟩,?_,?_,F⟩
   ·rw [List.flatMap_cons,At.app];have j:gB (y,B,U)=(Qae y.1++[y.2])++U:=by simp [gB]
    rw [j,At.app];refine⟨⟨y4,by rw [<- s];exact I⟩,?_⟩;rw [List.length_append,<- Nat.add_assoc,<- s,<- E];exact C
   ·rw [List.flatMap_cons,List.length_append];have j:gB (y,B,U)=(Qae y.1++[y.2])++U:=by simp [gB]
    rw [j,List.length_append,D,E,s];omega
  ·rintro⟨G,rfl,m,S,M,u,q⟩;cases G with
   | nil=>simp at m
   | cons g G=>
    obtain⟨y,B,U⟩:=g;obtain⟨⟨t,o,b⟩,P,T⟩:=S;have j:gB (y,B,U)=(Qae y.1++[y.2])++U:=by simp [gB]
    rw [List.flatMap_cons,At.app,j,At.app] at M;rw [List.flatMap_cons,List.length_append,j,List.length_append] at u;obtain⟨⟨Q,V⟩,A⟩:=M;rw [List.length_append,<- Nat.add_assoc] at A;have z:Qf9 f n before x=some (y,x+(Qae y.1++[y.2]).length):=(QhG hf).2 ⟨t,o,b,Q,rfl,by omega⟩;have v:=(QhF hf hK hR p y acc (x+(Qae y.1++[y.2]).length) (acc++B) (x+(Qae y.1++[y.2]).length+U.length)).2 ⟨B,U,rfl,P,V,rfl,by omega⟩;have W:=(Qd4 hf hK hR p k y (acc++B) (x+(Qae y.1++[y.2]).length+U.length) (acc++((y,B,U)::G).flatMap fun g=>g.2.1) x').2 ⟨G,by simp,by simpa using m,T,A,by omega,q⟩;refine⟨?_,by omega⟩;rw [z];simp only [Option.bind_some];rw [v.1];exact W.1
theorem QhK (hf:Byt f)(hK:KOk K):∀d,Rds f n (Qcv f n K d) (RT K d)
 | 0=>fun p acc x acc' x'=>by
  constructor
  ·rintro⟨h,_⟩;cases h
  ·rintro⟨B,U,_,h,_⟩;exact h.elim
 | d+1=>fun p acc x acc' x'=>by
  have t:=QhK hf hK d;unfold Qcv;constructor
  ·rintro⟨h,u⟩;obtain⟨⟨c,O⟩,r,h⟩:=Qab.1 h;simp only at h;obtain⟨Q,V,v,k,y⟩:=(Qav hf).1 r;split at h
   ·rename_i j;subst j;split at h
    ·rename_i hp;simp only [Option.some.injEq,Prod.mk.injEq] at h;obtain⟨rfl,rfl⟩:=h;exact⟨[],uvF 9 0,by simp,⟨[],rfl,by simp,by simp,fun _=>hp,fun h=>absurd rfl h,trivial⟩,v,k,y⟩
    ·cases h
   ·rename_i j;split at h
    ·cases h
    ·rename_i z;obtain⟨G,o,m,i,b,s,A⟩:=(Qd4 hf hK t p c _ acc O acc' x').1 ⟨h,y⟩;refine⟨_,uvF 9 G.length++G.flatMap gB,o,⟨G,rfl,rfl,by omega,fun e=>absurd (by rw [<- m,e];rfl) j,fun _=>by omega,i⟩,?_,?_,A⟩
     ·rw [At.app,m];exact⟨v,by rw [<- k];exact b⟩
     ·rw [List.length_append,m,s,k];omega
  ·rintro⟨B,U,rfl,⟨G,rfl,rfl,Y,j,z,E⟩,q,u,M⟩;rw [At.app] at q;rw [List.length_append] at u;have r:rd f n x 1000=some (G.length,x+(uvF 9 G.length).length):=(Qav hf).2 ⟨by omega,by omega,q.1,rfl,by omega⟩;refine⟨?_,by omega⟩;rw [r];simp only [Option.bind_some];by_cases e:G=[]
   ·subst e;rw [if_pos (by rfl),if_pos (j rfl)];simp at u ⊢;omega
   ·rw [if_neg (fun e'=>e (List.length_eq_zero_iff.1 e')),if_neg (by have:=z e;omega)];exact((Qd4 hf hK t p G.length _ acc (x+(uvF 9 G.length).length) (acc++G.flatMap fun g=>g.2.1) x').2 ⟨G,rfl,rfl,E,q.2,by omega,M⟩).1
end
def Qld (p:List ByteArray):Prop:=∀s∈p,1<=s.size/\ s.size<=40
theorem Qld.snoc {p:List ByteArray}{s:ByteArray}(h:Qld p)(h0:s.size≠0)(h1:s.size<=40):Qld (p++[s]):=fun t ht=>by
 rcases List.mem_append.1 ht with j|j
 ·exact h t j
 ·simp at j;subst j;omega
theorem Qld.pth {p:List ByteArray}(h:Qld p)(h1:1<=p.length)(h8:p.length<=8):QaS p:=⟨h1,h8,fun i hi=>h _ (by simp [gS,List.getD,hi])⟩
abbrev lfT (x:Lf):List ByteArray×(Int×Dt):=(x.p,(kd x.fl,(x.r,x.q)))
theorem Qlk:QaG (fun x y:List ByteArray×(Int×Dt)=>orI (QaC x.1 y.1) ((fun x y:Int×Dt=>orI (QaV x.1 y.1) (Qbh x.2 y.2)) x.2 y.2)):=QaG.path.pair (QaG.int.pair QaG.dot)
theorem QhX (a b:Lf):QaH a b<0 \/lfT a=lfT b \/QaH b a<0:=by
 rcases Int.lt_trichotomy (QaH a b) 0 with h|h|h
 ·exact .inl h
 ·exact .inr (.inl ((Qlk.z (lfT a) (lfT b)).1 h))
 ·exact .inr (.inr ((Qlk.neg (lfT b) (lfT a)).2 h))
theorem Qpy {p:List ByteArray}{a b:Lf}(h:lfT a=lfT b):nx p a=nx p b:=by
 have j:a.p=b.p:=congrArg Prod.fst h;have k:kd a.fl=kd b.fl:=congrArg (fun t=>t.2.1) h;unfold nx;rw [j,k]
theorem QoK {p:List ByteArray}{a b:Lf}{y z:Ky}(ha:nx p a=some y)(hb:nx p b=some z)(h:QbA y z<0):QaH a b<0:=by
 rcases QhX a b with j|j|j
 ·exact j
 ·rw [Qpy j,hb] at ha;obtain rfl:=Option.some.inj ha;rw [QaG.key.irr] at h;omega
 ·have:=QbM j hb ha;have:=(QaG.key.neg y z).1 h;omega
theorem QmH {p:List ByteArray}{s:ByteArray}{z:Lf}(h:z.p=p++[s]):nx p z=some (s,kd z.fl):=by
 rw [Qbi,h];refine⟨⟨List.prefix_append _ _,by simp⟩,?_⟩;unfold Qau;rw [if_neg (by simp)];simp [gS,List.getD]
theorem Qgc {a b:Lf}(h1:a.p=b.p)(h2:a.fl=b.fl):QaH a b=Qbh (a.r,a.q) (b.r,b.q):=by
 unfold QaH;rw [h1,h2];have j:QaC b.p b.p=0:=(QaG.path.z _ _).2 rfl;have k:QaV (kd b.fl) (kd b.fl)=0:=(QaG.int.z _ _).2 rfl;rw [j,k];simp [orI];rfl
theorem QiE {a b:Lf}(h:Qbh (a.r,a.q) (b.r,b.q)<0):Dif a b:=fun e=>by
 rw [e.1,e.2,QaG.dot.irr] at h;omega
section
variable {K : Int -> Int -> Bool}
theorem QfE {kind:Int}{p:List ByteArray}:∀{B:List Lf} {before:Dt} {acc:List Lf},OkB K kind p before acc B ->acc.length<=1000 ->
  (∀z∈B,LGd K kind p z/\ Qbh before (z.r,z.q)<0)/\ B.Pairwise (fun x y=>Qbh (x.r,x.q) (y.r,y.q)<0)/\ (∀y∈acc,∀z∈B,Dif y z)/\ (acc++B).length<=1000
 | [],_,acc,_,h=>⟨fun z hz=>by simp at hz,List.Pairwise.nil,fun y _ z hz=>by simp at hz,by simpa using h⟩
 | z::B,before,acc,⟨h1,h2,h3,h4,h5⟩,h=>by
  obtain⟨k,m,u,v⟩:=QfE h5 (by simp;omega);refine⟨fun x j=> ?_,List.pairwise_cons.2 ⟨fun x j=>(k x j).2,m⟩,fun y hy x j=> ?_,by simpa using v⟩
  ·rcases List.mem_cons.1 j with rfl|j
   ·exact⟨h1,h2⟩
   ·exact⟨(k x j).1,QaG.dot.tr _ _ _ h2 (k x j).2⟩
  ·rcases List.mem_cons.1 j with rfl|j
   ·exact h3 y hy
   ·exact u y (by simp [hy]) x j
theorem Qle {kind:Int}{p:List ByteArray}:∀{B:List Lf} {before:Dt} {acc:List Lf},(∀z∈B,LGd K kind p z/\ Qbh before (z.r,z.q)<0) ->B.Pairwise (fun x y=>Qbh (x.r,x.q) (y.r,y.q)<0) ->(∀y∈acc,∀z∈B,Dif y z) ->(acc++B).length<=1000 ->OkB K kind p before acc B
 | [],_,_,_,_,_,_=>trivial
 | z::B,before,acc,h1,h2,h3,h4=>by
  obtain⟨k,m⟩:=List.pairwise_cons.1 h2;refine⟨(h1 z List.mem_cons_self).1,(h1 z List.mem_cons_self).2,fun y j=>h3 y j z List.mem_cons_self,by simp at h4;omega,?_⟩;refine Qle (fun x hx=>⟨(h1 x (List.mem_cons_of_mem _ hx)).1,k x hx⟩) m (fun y j x hx=> ?_) (by simpa using h4);rcases List.mem_append.1 j with j|j
  ·exact h3 y j x (List.mem_cons_of_mem _ hx)
  ·simp at j;subst j;exact QiE (k x hx)
structure VB (K:Int ->Int ->Bool)(B:List Lf):Prop where
 ok:∀z∈B,QbW z/\ K z.r z.q=true
 ord:B.Pairwise (fun x y=>QaH x y<0)
 dif:B.Pairwise Dif
theorem VB.app {A B:List Lf}(h:VB K A)(k:VB K B)(h1:∀a∈A,∀b∈B,QaH a b<0)(h2:∀a∈A,∀b∈B,Dif a b):VB K (A++B):=
 ⟨fun z hz=>(List.mem_append.1 hz).elim (h.ok z) (k.ok z),List.pairwise_append.2 ⟨h.ord,k.ord,h1⟩,List.pairwise_append.2 ⟨h.dif,k.dif,h2⟩⟩
theorem VB.parts {A B:List Lf}(h:VB K (A++B)):VB K A/\ VB K B/\ (∀a∈A,∀b∈B,Dif a b):=by
 obtain⟨q,r,_⟩:=List.pairwise_append.1 h.ord;obtain⟨j,k,m⟩:=List.pairwise_append.1 h.dif;exact⟨⟨fun z hz=>h.ok z (by simp [hz]),q,j⟩,⟨fun z hz=>h.ok z (by simp [hz]),r,k⟩,m⟩
theorem QdG {v:ByteArray}:emB v=true↔v=ByteArray.empty:=by
 unfold emB;rw [Lib.toList_data];obtain⟨⟨l⟩⟩:=v;cases l with
 | nil=>simp;rfl
 | cons a l=>simp;intro h;injection h with h;injection h with h;cases h
theorem LGd.ok1 {kind:Int}{p:List ByteArray}{z:Lf}(h:LGd K kind p z)(hp:QaS p):QbW z:=by
 refine⟨by rw [h.p];exact hp,h.v,fun hf=> ?_⟩;rw [h.fl] at hf;exact QdG.2 (h.e (of_decide_eq_true hf))
theorem LGd.kd' {kind:Int}(hk:kind=1 \/kind=2){p:List ByteArray}{z:Lf}(h:LGd K kind p z):kd z.fl=kind:=by
 rw [h.fl];rcases hk with rfl|rfl<;>rfl
def GrS (K:Int ->Int ->Bool)(E:List ByteArray ->List Lf ->List Int ->Prop)(p:List ByteArray)(acc:List Lf)(g:Gr3):Prop:=
 (g.2.1≠[]/\∀z∈g.2.1,nx p z=some g.1)/\ (if g.1.2=3 then E (p++[g.1.1]) g.2.1 g.2.2 else g.2.2=mB g.2.1 g.1.2)/\ VB K g.2.1/\ (∀y∈acc,∀z∈g.2.1,Dif y z)/\ (acc++g.2.1).length<=1000
def Qov (K:Int ->Int ->Bool)(d:Nat):Prop:=∀p acc B U,RT K d p acc B U ->Qld p ->acc.length<=1000 ->EnT d p B U/\ VB K B/\ (∀z∈B,nx p z≠none)/\ (∀y∈acc,∀z∈B,Dif y z)/\ (acc++B).length<=1000/\ (p≠[] ->B≠[])
theorem QjX {d:Nat}(ih:Qov K d){p:List ByteArray}(hp:Qld p)(h8:p.length<8){acc:List Lf}(ha:acc.length<=1000){g:Gr3}(hn:g.1.1.size≠0/\ g.1.1.size<=40)(h:RD K (RT K d) p g.1 acc g.2.1 g.2.2):GrS K (EnT d) p acc g:=by
 unfold RD at h;unfold GrS;have u:=hp.snoc hn.1 hn.2;by_cases m:g.1.2=3
 ·rw [if_pos m] at h ⊢;obtain⟨y,t,o,i,s,A⟩:=ih _ _ _ _ h u ha;refine⟨⟨A (by simp),fun z hz=> ?_⟩,y,t,i,s⟩;have E:g.1=(g.1.1,3):=by rw [<- m]
  rw [E];exact QcG.2 (o z hz)
 ·rw [if_neg m] at h ⊢;obtain⟨M,O,H,Q,U⟩:=h;obtain⟨j,v,Z,G⟩:=QfE Q ha;have Y:QaS (p++[g.1.1]):=u.pth (by simp) (by simp;omega);refine⟨⟨O,fun z hz=> ?_⟩,U,⟨fun z hz=>⟨(j z hz).1.ok1 Y,(j z hz).1.k⟩,?_,v.imp QiE⟩,Z,G⟩
  ·rw [QmH (j z hz).1.p,(j z hz).1.kd' M]
  ·refine List.Pairwise.imp_of_mem ?_ v;intro a b q r V;rw [Qgc ((j a q).1.p.trans (j b r).1.p.symm) ((j a q).1.fl.trans (j b r).1.fl.symm)];exact V
theorem Qhg {d:Nat}(ih:Qov K d){p:List ByteArray}(hp:Qld p)(h8:p.length<8):∀{G:List Gr3} {before:Ky} {acc:List Lf},acc.length<=1000 ->RK K (RT K d) p before acc G ->
  (∀g∈G,(g.2.1≠[]/\∀z∈g.2.1,nx p z=some g.1)/\ (if g.1.2=3 then EnT d (p++[g.1.1]) g.2.1 g.2.2 else g.2.2=mB g.2.1 g.1.2))/\ (G.map Prod.fst).Pairwise (fun x y=>QbA x y<0)/\ (∀g∈G,QbA before g.1<0)/\
  VB K (G.flatMap fun g=>g.2.1)/\ (∀y∈acc,∀z∈G.flatMap (fun g=>g.2.1),Dif y z)/\ (acc++G.flatMap fun g=>g.2.1).length<=1000
 | [],before,acc,ha,_=>⟨fun g hg=>by simp at hg,by simp,fun g hg=>by simp at hg,⟨fun z m=>by simp at m,by simp,by simp⟩,fun y _ z m=>by simp at m,by simpa using ha⟩
 | g::G,before,acc,ha,⟨⟨n1,n2,n3⟩,hD,hR⟩=>by
  obtain⟨u,o,i,s,A⟩:=QjX ih hp h8 ha ⟨n1,n2⟩ hD;obtain⟨r1,r2,q,h,r,t⟩:=Qhg ih hp h8 A hR;refine⟨fun x j=> ?_,?_,fun x j=> ?_,?_,fun y hy z m=> ?_,?_⟩
  ·rcases List.mem_cons.1 j with rfl|j
   ·exact⟨u,o⟩
   ·exact r1 x j
  ·rw [List.map_cons,List.pairwise_cons];refine⟨fun k hk=> ?_,r2⟩;obtain⟨x,j,rfl⟩:=List.mem_map.1 hk;exact q x j
  ·rcases List.mem_cons.1 j with rfl|j
   ·exact n3
   ·exact QaG.key.tr _ _ _ n3 (q x j)
  ·rw [List.flatMap_cons];refine i.app h (fun a ha' b hb=> ?_) (fun a ha' b hb=>r a (by simp [ha']) b hb);obtain⟨x,j,v⟩:=Qdz hb;exact QoK (u.2 a ha') ((r1 x j).1.2 b v) (q x j)
  ·rw [List.flatMap_cons] at m;rcases List.mem_append.1 m with m|m
   ·exact s y hy z m
   ·exact r y (by simp [hy]) z m
  ·rw [List.flatMap_cons,<- List.append_assoc];exact t
theorem Qhh:∀d,Qov K d
 | 0=>fun p acc B U h _ _=>h.elim
 | d+1=>fun p acc B U ⟨G,hB,hU,hl,h0,h8,hR⟩ hp ha=>by
  by_cases j:G=[]
  ·subst j;obtain rfl:B=[]:=hB;refine⟨⟨[],rfl,hU,by simp,fun g k=>by simp at k⟩,⟨fun z hz=>by simp at hz,by simp,by simp⟩,fun z hz=>by simp at hz,fun y _ z hz=>by simp at hz,by simpa using ha,fun hne=>absurd (List.length_eq_zero_iff.1 (h0 rfl)) hne⟩
  ·obtain⟨r1,r2,v,q,r,u⟩:=Qhg (Qhh d) hp (h8 j) ha hR;subst hB;refine⟨⟨G,rfl,hU,r2,r1⟩,q,fun z hz=> ?_,r,u,fun _ e=> ?_⟩
   ·obtain⟨g,k,m⟩:=Qdz hz;rw [(r1 g k).1.2 z m];simp
   ·cases G with
    | nil=>exact j rfl
    | cons g G=>
     rw [List.flatMap_cons,List.append_eq_nil_iff] at e;exact(r1 g List.mem_cons_self).1.1 e.1
end
end Go.Proofs.YtjdcfkmhmnblbaaGreatDoor
