import Derived.Test.YtdeolligikjieaaGreatDoorFkg17
import Derived.Laws.IdiomStrings
import Derived.Test.YtdeolligikjieaaGreatDoorFkg09
import Derived.Test.YtdeolligikjieaaGreatDoorFkg04
import Derived.Test.YtdeolligikjieaaGreatDoorFkg05
set_option linter.unusedVariables false
set_option linter.unusedSimpArgs false
set_option maxRecDepth 100000
set_option maxHeartbeats 40000000
namespace Go.Proofs.YtdeolligikjieaaGreatDoor
def Qfu:List (Int×List (Int×Int)) ->List Int
 | []=>[]
 | p::g=>uvF 9 p.1.toNat++uvF 9 p.2.length++Qdl 1 p.2++Qfu g
def okR:Int ->Int ->List (Int×List (Int×Int)) ->Prop
 | _,_,[]=>True
 | before,left,p::g=>before<p.1/\ 0<=p.1/\ p.1<=7/\ p.2≠[]/\ (p.2.length:Int)<=left/\ okS 1 p.2/\ okR p.1 (left - p.2.length) g
noncomputable def QaB (f:Nat ->Int)(n:Nat):Nat ->Int ->Int ->Nat ->Option (List (Int×List (Int×Int))×Nat)
 | 0,_,_,x=>some ([],x)
 | k+1,before,left,x=>
  (rd f n x 7).bind fun a=>
   if (a.1:Int)<=before then none else
   (rd f n a.2 left).bind fun b=>
    if b.1=0 then none else
    (Qa0 f n b.1 1 b.2).bind fun c=>
     (QaB f n k (a.1:Int) (left - (b.1:Int)) c.2).bind fun d=>some (((a.1:Int),c.1)::d.1,d.2)
theorem Qe1 {f:Nat ->Int}(hf:Byt f){n:Nat}:∀(k:Nat) (before j:Int) (x:Nat) (g:List (Int×List (Int×Int))) (x':Nat),j<=1000 ->
  (QaB f n k before j x=some (g,x')/\ x<=n↔g.length=k/\ okR before j g/\ At f x (Qfu g)/\ x'=x+(Qfu g).length/\ x'<=n):=by
 intro k;induction k with
 | zero=>
  intro before j x g x' _;cases g with
  | nil=>simp [QaB,Qfu,okR,At];omega
  | cons p g=>simp [QaB]
 | succ k ih=>
  intro before j x g x' Ha;constructor
  ·rintro⟨h,Hc⟩;unfold QaB at h;obtain⟨a,m,h⟩:=Option.bind_eq_some_iff.1 h;split at h
   ·cases h
   ·rename_i hab;obtain⟨b,u,h⟩:=Option.bind_eq_some_iff.1 h;split at h
    ·cases h
    ·rename_i hb0;obtain⟨c,v,h⟩:=Option.bind_eq_some_iff.1 h;obtain⟨d,y,h⟩:=Option.bind_eq_some_iff.1 h;obtain⟨rep,x1⟩:=a;obtain⟨o,x2⟩:=b;obtain⟨l,E⟩:=c;obtain⟨q,M⟩:=d;simp only [Option.some.injEq,Prod.mk.injEq] at h;obtain⟨rfl,rfl⟩:=h;dsimp only at m u v y hab hb0;obtain⟨s1,s2,R,i,s5⟩:=(Qa8 hf).1 m;obtain⟨t1,t2,S,s,T⟩:=(Qa8 hf).1 u;obtain⟨z,W,u3,A,u5⟩:=(QdV hf o 1 x2 l E (by omega)).1 ⟨v,T⟩;obtain⟨v1,v2,v3,v4,v5⟩:=(ih rep (j - o) E q M (by omega)).1 ⟨y,u5⟩;have J:l≠[]:=by intro e;subst e;simp at z;omega
     refine⟨by simp [v1],⟨by show before<(rep:Int);omega,by show (0:Int)<=(rep:Int);omega,by show (rep:Int)<=7;omega,J,by show ((l.length:Nat):Int)<=j;omega,W,?_⟩,?_,?_,v5⟩
     ·show okR (rep:Int) (j - ((l.length:Nat):Int)) q;rw [z];exact v2
     ·show At f x (uvF 9 ((rep:Int)).toNat++uvF 9 l.length++Qdl 1 l++Qfu q);rw [Int.toNat_natCast,z,At.app,At.app,At.app];simp only [List.length_append,<- Nat.add_assoc];rw [<- i,<- s,<- A];exact⟨⟨⟨R,S⟩,u3⟩,v3⟩
     ·show M=x+(uvF 9 ((rep:Int)).toNat++uvF 9 l.length++Qdl 1 l++Qfu q).length;rw [Int.toNat_natCast,z];simp only [List.length_append];rw [v4,A,s,i];omega
  ·rintro⟨m,u,v,y,I⟩;cases g with
   | nil=>simp at m
   | cons p g=>
    obtain⟨r,l⟩:=p;obtain⟨K,L,N,X,C,D,F⟩:=u;have Hd:before<r:=K;have He:0<=r:=L;have Hf:r<=7:=N;have B:l≠[]:=X;have Hg:((l.length:Nat):Int)<=j:=C;have P:okR r (j - ((l.length:Nat):Int)) g:=F;have t:At f x (uvF 9 r.toNat++uvF 9 l.length++Qdl 1 l++Qfu g):=v;have H:x'=x+(uvF 9 r.toNat++uvF 9 l.length++Qdl 1 l++Qfu g).length:=y;rw [At.app,At.app,At.app] at t;simp only [List.length_append,<- Nat.add_assoc] at t H;obtain⟨⟨⟨O,Q⟩,U⟩,V⟩:=t;have Hb:0<l.length:=List.length_pos_iff.2 B;have Y:rd f n x 7=some (r.toNat,x+(uvF 9 r.toNat).length):=(Qa8 hf).2 ⟨by omega,by omega,O,rfl,by omega⟩;have Z:rd f n (x+(uvF 9 r.toNat).length) j=some (l.length,x+(uvF 9 r.toNat).length+(uvF 9 l.length).length):=(Qa8 hf).2 ⟨by omega,by omega,Q,rfl,by omega⟩;have b3:=((QdV (n:=n) hf l.length 1 (x+(uvF 9 r.toNat).length+(uvF 9 l.length).length) l (x+(uvF 9 r.toNat).length+(uvF 9 l.length).length+(Qdl 1 l).length) (by omega)).2 ⟨rfl,D,U,rfl,by omega⟩).1;have G:((r.toNat:Nat):Int)=r:=by omega
    have b4:=((ih r (j - ((l.length:Nat):Int)) (x+(uvF 9 r.toNat).length+(uvF 9 l.length).length+(Qdl 1 l).length) g x' (by omega)).2 ⟨by simpa using m,P,V,by omega,I⟩).1;refine⟨?_,by omega⟩;unfold QaB;rw [Y,Option.bind_some,if_neg (by show¬((r.toNat:Nat):Int)<=before;omega),Z,Option.bind_some,if_neg (by show¬l.length=0;omega),b3,Option.bind_some];dsimp only;rw [G,b4,Option.bind_some]
noncomputable def QhZ (f:Nat ->Int)(n x:Nat):Option (List (Int×List (Int×Int))×Nat):=
 (rd f n x 8).bind fun a=>QaB f n a.1 (-1) 1000 a.2
def QjZ (g:List (Int×List (Int×Int))):List Int:=uvF 9 g.length++Qfu g
theorem Qm9:∀(g:List (Int×List (Int×Int))) (before j:Int),okR before j g -> -1<=before ->before<=7 ->(g.length:Int)<=7 - before:=by
 intro g;induction g with
 | nil=>intro before j _ k m;simp;omega
 | cons p g ih=>
  rintro before j ⟨r,u,v,y,z,h,q⟩ k m;have:=ih p.1 _ q (by omega) (by omega);simp only [List.length_cons];omega
theorem QdS {f:Nat ->Int}(hf:Byt f){n x:Nat}(hx:x<=n){g:List (Int×List (Int×Int))}{x':Nat}:
  QhZ f n x=some (g,x')↔okR (-1) 1000 g/\ At f x (QjZ g)/\ x'=x+(QjZ g).length/\ x'<=n:=by
 constructor
 ·intro h;obtain⟨⟨u,s⟩,k,j⟩:=Option.bind_eq_some_iff.1 h;dsimp only at j;obtain⟨E,M,y,z,t⟩:=(Qa8 hf).1 k;obtain⟨o,i,b,O,p⟩:=(Qe1 hf u (-1) 1000 s g x' (by omega)).1 ⟨j,t⟩;unfold QjZ;rw [o,At.app,List.length_append,<- z];exact⟨i,⟨y,b⟩,by omega,p⟩
 ·rintro⟨k,j,m,v⟩;unfold QjZ at j m;rw [At.app] at j;rw [List.length_append] at m;have A:=Qm9 g (-1) 1000 k (by omega) (by omega);have q:rd f n x 8=some (g.length,x+(uvF 9 g.length).length):=(Qa8 hf).2 ⟨by omega,by omega,j.1,rfl,by omega⟩;have r:=((Qe1 (n:=n) hf g.length (-1) 1000 (x+(uvF 9 g.length).length) g x' (by omega)).2 ⟨rfl,k,j.2,by omega,v⟩).1;unfold QhZ;rw [q,Option.bind_some];exact r
open Go.ChangeShapes Go.WideShapes Go.ChangeAt Go.RowKit
variable {EX : Nat -> Option Value}
noncomputable def rdI (f:Nat ->Int)(n:Nat)(x most:Int):Option (Nat×Nat):=if 0<=x then rd f n x.toNat most else none
theorem Qa4 (f:Nat ->Int)(n p:Nat)(most:Int):rdI f n (p:Int) most=rd f n p most:=by
 unfold rdI;rw [if_pos (by omega)];simp
theorem uvC (cb B:Nat)(a:Option Addr)(n c:Nat)(x:Int)(f:Nat ->Int)(aT aS aL aE:Addr)(w:World)(hn:n<=1048576)(hf:Byt f)(hcur:Cur EX w cb a n c x)(hs:Seg w a n f)(hab:∀y,a=some y ->y.block≠cb)(hE:QcK w B aT aS aL aE)(hBc:B<=cb):
  Calls Tryz.prog 105 #[.pointer (some ⟨cb,0,none⟩)] w fun e w'=>w.grownBy w' (some cb)/\
   ((∃V x':Nat,V<18446744073709551616/\ (∀most:Int,rdI f n x most=if (V:Int)<=most then some (V,x') else none)/\ e=.returned (.tuple #[.int .u64 (V:Int),.nilIface])/\ Cur EX w' cb a n c (x':Int)) \/
    ((∀most:Int,rdI f n x most=none)/\∃(t:TypeId) (v:Value) (y:Int),e=.returned (.tuple #[.int .u64 0,.iface t v])/\ Cur EX w' cb a n c y)):=by
 by_cases A:x<0 \/(n:Int)<=x
 ·refine(QoU cb B a n c x aT aS aL aE w hn hcur A hE).mono ?_;rintro e w1 ⟨E,rfl,s,g,q⟩;refine⟨Qag (Qbo w (some cb)) q,.inr ⟨fun most=> ?_,_,_,x,rfl,hcur.below q hcur.lt⟩⟩;unfold rdI;split
  ·rename_i j;unfold rd;rw [QiK (by omega)];simp
  ·rfl
 ·obtain⟨p,rfl⟩:∃p:Nat,x=(p:Int):=⟨x.toNat,by omega⟩;have k:p<n:=by omega
  rcases hs with h|⟨b,off,rfl,o,i⟩
  ·omega
  have z:=Qgi f n p;have u:=QiJ (x:=(p:Int)) (by simpa using z) hf hn (by omega) (by omega);rw [QhN k] at u;refine(Qpr cb B b off n c p (cN f n p) f aT aS aL aE w hn hf hcur k z hE hBc (hab _ rfl) o i).mono ?_;rintro e w1 ⟨r,⟨j,rfl,m⟩|⟨j,E,rfl,s,g,y,m⟩⟩
  ·refine⟨r,.inl ⟨guV f n p (cN f n p),guA f n p (cN f n p),u.1,fun most=> ?_,rfl,m⟩⟩;rw [Qa4];unfold rd;rw [QhN k,j];simp
  ·refine⟨r,.inr ⟨fun most=> ?_,_,_,y,rfl,m⟩⟩;rw [Qa4];unfold rd;rw [QhN k];simp [j]
theorem QbG (cb B:Nat)(a:Option Addr)(n c:Nat)(x most:Int)(f:Nat ->Int)(aT aS aL aE:Addr)(w:World)(hn:n<=1048576)(hf:Byt f)(hcur:Cur EX w cb a n c x)(hs:Seg w a n f)(hab:∀y,a=some y ->y.block≠cb)(hE:QcK w B aT aS aL aE)(hBc:B<=cb)
  (hm0: -1000000000000<=most) (hm1:most<=1000000000000):
  Calls Tryz.prog 75 #[.pointer (some ⟨cb,0,none⟩),.int .i64 most] w fun e w'=>w.grownBy w' (some cb)/\
   ((∃V x':Nat,rdI f n x most=some (V,x')/\ (V:Int)<=most/\ e=.returned (.tuple #[.int .i64 (V:Int),.nilIface])/\ Cur EX w' cb a n c (x':Int)) \/
    (rdI f n x most=none/\∃(t:TypeId) (v:Value) (y:Int),e=.returned (.tuple #[.int .i64 0,.iface t v])/\ Cur EX w' cb a n c y)):=by
 have O:=hcur.lt;have g:=hid (uvC cb B a n c x f aT aS aL aE w hn hf hcur hs hab hE hBc);have h:=hid hE;clear hE hcur hs hab;go_enter Tryz.func75,Tryz.ntmps75;go_wp2_with fail;refine g.mono ?_;rintro e w1 ⟨u,⟨V,x',M,z,rfl,r⟩|⟨z,t,v,y,rfl,r⟩⟩
 ·have i:=h.below ((Below.refl B w).grown u (by omega) (fun k hk=>by injection hk with hk;omega));obtain⟨U,Q⟩:=i.gM;have m:=hid u;have q:=hid z;have j:=hid r;clear u z r i g h;by_cases s:most<0
  ·go_wp2_with fail;go_quiet (fail);go_wp2_with fail;go_ret2;exact⟨Qaf m.out (Qa2 _ _ _),.inr ⟨by rw [q.out,if_neg (by omega)],_,_,_,rfl,j.below (Qbb zI _) j.lt⟩⟩
  ·have E:IntKind.u64.wrap most=most:=by rw [IntKind.wrap_u64];omega
   have A:decide (most<0)=false:=by simpa using s
   by_cases o:(V:Int)<=most
   ·have b:decide (most<(V:Int))=false:=by simpa using o
    have p:IntKind.i64.wrap (V:Int)=(V:Int):=by rw [IntKind.wrap_i64];omega
    go_wp2_with fail;go_ret2;refine⟨m.out,.inl ⟨V,x',by rw [q.out,if_pos o],o,?_,j.out⟩⟩;first|rfl|rw [p]
   ·have b:decide (most<(V:Int))=true:=by simp;omega
    go_wp2_with fail;go_quiet (fail);go_wp2_with fail;go_ret2;exact⟨Qaf m.out (Qa2 _ _ _),.inr ⟨by rw [q.out,if_neg (by omega)],_,_,_,rfl,j.below (Qbb zI _) j.lt⟩⟩
 ·have m:=hid u;have q:=hid z;have j:=hid r;clear u z r g h;go_wp2_with fail;go_ret2;exact⟨m.out,.inr ⟨q.out _,_,_,_,rfl,j.out⟩⟩
variable {EX : Nat -> Option Value}
def Qeb (f:Nat ->Int)(p L:Nat):ByteArray:=⟨((List.range L).map fun i=>UInt8.ofNat (f (p+i)).toNat).toArray⟩
theorem QfX {w:World}{b off p L cap:Nat}{f:Nat ->Int}(hf:Byt f)(hc:∀i,i<L ->w.cell? ⟨b,off+p+i,none⟩=some (.int .u8 (f (p+i)))):
  (convert 22 9 (.slice (some ⟨b,off+p,none⟩) L cap)).run Tryz.prog w=.ok (.string (Qeb f p L)) w:=by
 have r:((List.range L).map fun i=>UInt8.ofNat (f (p+i)).toNat).length=L:=by simp
 have:=run_convert_bytes_back (P:=Tryz.prog) w 22 9 5 ⟨b,off+p,none⟩ cap ((List.range L).map fun i=>UInt8.ofNat (f (p+i)).toNat) Tryz.underlying22 Tryz.underlying5 Tryz.underlying9 (fun j hj=>by
  have q:j<L:=by simpa using hj
  have e:(Addr.add ⟨b,off+p,none⟩ j)=⟨b,off+p+j,none⟩:=by
   by_cases k:j=0
   ·subst k;simp [Addr.add]
   ·simp [Addr.add,k]
  rw [e,hc j q];have:=hf (p+j);simp only [List.getElem_map,List.getElem_range,Option.some.injEq,Value.int.injEq,true_and];have m:(UInt8.ofNat (f (p+j)).toNat).toNat=(f (p+j)).toNat%256:=by simp
  rw [m];omega)
 rw [r] at this;exact this
theorem QfY {w:World}(ad:Addr)(p cap:Nat)(f:Nat ->Int):(convert 22 9 (.slice (some ad) 0 cap)).run Tryz.prog w=.ok (.string (Qeb f p 0)) w:=
 run_convert_bytes_back (P:=Tryz.prog) w 22 9 5 ad cap [] Tryz.underlying22 Tryz.underlying5 Tryz.underlying9 (fun j hj=>by simp at hj)
theorem Qix {f:Nat ->Int}(hf:Byt f)(i:Nat):((UInt8.ofNat (f i).toNat).toNat:Int)=f i:=by
 have:=hf i;have h:(UInt8.ofNat (f i).toNat).toNat=(f i).toNat:=by simp;omega
 rw [h];omega
theorem Qec (f:Nat ->Int)(p L:Nat):(Qeb f p L).size=L:=by simp [Qeb,ByteArray.size]
theorem Qb1 {f:Nat ->Int}(hf:Byt f)(p L:Nat):Qa5 (Qeb f p L)=(List.range L).map fun i=>f (p+i):=by
 unfold Qa5 Qeb;simp only [List.map_map];apply List.map_congr_left;intro i _;exact Qix hf (p+i)
theorem Qdf:∀{a b:List UInt8},(a.map fun x=>(x.toNat:Int))=(b.map fun x=>(x.toNat:Int)) ->a=b
 | [],[],_=>rfl
 | [],_::_,h=>by simp at h
 | _::_,[],h=>by simp at h
 | x::a,y::b,h=>by
  simp only [List.map_cons,List.cons.injEq] at h;have e:x=y:=UInt8.toNat_inj.1 (Int.ofNat.inj h.1);rw [e,Qdf h.2]
theorem QgL {s t:ByteArray}(h:Qa5 s=Qa5 t):s=t:=by
 obtain⟨⟨s⟩⟩:=s;obtain⟨⟨t⟩⟩:=t;have e:s=t:=Qdf h;rw [e]
theorem QmI {f:Nat ->Int}(hf:Byt f){p:Nat}{s:ByteArray}(h:At f p (Qa5 s)):Qeb f p s.size=s:=by
 apply QgL;rw [Qb1 hf];apply List.ext_getElem?;intro i;by_cases k:i<s.size
 ·have:=h i (by rw [Qas];exact k);have j:i<(Qa5 s).length:=by rw [Qas];exact k
  simp [k,j,this,List.getD]
 ·have j:(Qa5 s).length<=i:=by rw [Qas];omega
  rw [List.getElem?_eq_none j,List.getElem?_eq_none (by simp;omega)]
noncomputable def Qei (f:Nat ->Int)(n x:Nat)(most:Int):Option (ByteArray×Nat):=(rd f n x most).bind fun a=>if a.2+a.1<=n then some (Qeb f a.2 a.1,a.2+a.1) else none
theorem QcF {f:Nat ->Int}(hf:Byt f){n x:Nat}{most:Int}(hm:most<=1000000){s:ByteArray}{x':Nat}:
  Qei f n x most=some (s,x')↔(s.size:Int)<=most/\ At f x (Qae s)/\ x'=x+(Qae s).length/\ x'<=n:=by
 unfold Qei Qae;constructor
 ·intro h;cases j:rd f n x most with
  | none=>rw [j] at h;cases h
  | some a=>
   obtain⟨V,g⟩:=a;rw [j] at h;simp only [Option.bind_some] at h;split at h
   ·rename_i hle;simp only [Option.some.injEq,Prod.mk.injEq] at h;obtain⟨rfl,rfl⟩:=h;obtain⟨y,r,u,v,z⟩:=(Qa8 hf).1 j;rw [Qec,At.app,Qb1 hf,List.length_append,List.length_map,List.length_range];refine⟨r,⟨u,?_⟩,by omega,hle⟩;rw [<- v];exact QgW rfl
   ·cases h
 ·rintro⟨j,k,rfl,m⟩;rw [At.app] at k;rw [List.length_append,Qas] at m ⊢;have q:rd f n x most=some (s.size,x+(uvF 9 s.size).length):=(Qa8 hf).2 ⟨by omega,j,k.1,rfl,by omega⟩;rw [q];simp only [Option.bind_some];rw [if_pos (by omega),QmI hf k.2,Nat.add_assoc]
section
variable (f : Nat -> Int) (n : Nat) (K : Int -> Int -> Bool)
noncomputable def Qej (kind:Int)(p:List ByteArray)(before:Dt)(acc:List Lf)(x:Nat):Option (Lf×Nat):=
 (rd f n x 7).bind fun a=>(rd f n a.2 1000000000).bind fun b=>
  if yes (Qbh before ((a.1:Int),(b.1:Int))<0/\ K (a.1:Int) (b.1:Int)=true/\ (∀y∈acc,¬(y.r=(a.1:Int)/\ y.q=(b.1:Int)))/\ acc.length≠1000)=true then
   if kind=2 then some (⟨p,true,(a.1:Int),(b.1:Int),ByteArray.empty⟩,b.2) else(Qei f n b.2 200).bind fun t=>some (⟨p,false,(a.1:Int),(b.1:Int),t.1⟩,t.2)
  else none
noncomputable def Qia (kind:Int)(p:List ByteArray):Nat ->Dt ->List Lf ->Nat ->Option (List Lf×Nat)
 | 0,_,acc,x=>some (acc,x)
 | k+1,before,acc,x=>(Qej f n K kind p before acc x).bind fun a=>Qia kind p k (a.1.r,a.1.q) (acc++[a.1]) a.2
noncomputable def QfN (before:Ky)(x:Nat):Option (Ky×Nat):=(Qei f n x 40).bind fun a=>if yes (a.1.size≠0/\ a.2<n/\ Qb7 before (a.1,f a.2)<0)=true then some ((a.1,f a.2),a.2+1) else none
noncomputable def Qij (rec:List ByteArray ->List Lf ->Nat ->Option (List Lf×Nat))(p:List ByteArray)(y:Ky)(acc:List Lf)(x:Nat):Option (List Lf×Nat):=
 if y.2=3 then rec (p++[y.1]) acc x else if y.2=1 \/y.2=2 then(rd f n x 1000).bind fun a=>if a.1=0 then none else Qia f n K y.2 (p++[y.1]) a.1 (0,0) acc a.2 else none
noncomputable def Qk4 (rec:List ByteArray ->List Lf ->Nat ->Option (List Lf×Nat))(p:List ByteArray):Nat ->Ky ->List Lf ->Nat ->Option (List Lf×Nat)
 | 0,_,acc,x=>some (acc,x)
 | k+1,before,acc,x=>(QfN f n before x).bind fun a=>(Qij f n K rec p a.1 acc a.2).bind fun b=>Qk4 rec p k a.1 b.1 b.2
noncomputable def Qcz:Nat ->List ByteArray ->List Lf ->Nat ->Option (List Lf×Nat)
 | 0,_,_,_=>none
 | d+1,p,acc,x=>(rd f n x 1000).bind fun a=>if a.1=0 then(if p.length=0 then some (acc,a.2) else none) else if 8<=p.length then none else Qk4 f n K (Qcz d) p a.1 (ByteArray.empty,0) acc a.2
end
section
variable {f : Nat -> Int} {n : Nat} {K : Int -> Int -> Bool}
theorem Qad {α β:Type}{o:Option α}{g:α ->Option β}{b:β}:o.bind g=some b↔∃a,o=some a/\ g a=some b:=by cases o<;>simp
end
variable {EX : Nat -> Option Value}
def TxP (EX:Nat ->Option Value)(f:Nat ->Int)(n x:Nat)(most:Int)(cb:Nat)(a:Option Addr)(c:Nat)(w:World)(e:Ending)(w':World):Prop:=w.grownBy w' (some cb)/\
 ((∃s x',Qei f n x most=some (s,x')/\ e=.returned (.tuple #[.string s,.nilIface])/\ Cur EX w' cb a n c ((x':Nat):Int)) \/
  (Qei f n x most=none/\∃(t:TypeId) (v:Value) (y:Int),e=.returned (.tuple #[.string ⟨#[]⟩,.iface t v])/\ Cur EX w' cb a n c y))
def TlP (EX:Nat ->Option Value)(f:Nat ->Int)(n x:Nat)(most:Int)(cb:Nat)(a:Option Addr)(c:Nat)(w:World)(e:Ending)(w':World):Prop:=w.grownBy w' (some cb)/\
 ((∃V q:Nat,Qei f n x most=some (Qeb f q V,q+V)/\ q+V<=n/\ 0<n/\ e=.returned (.tuple #[.int .i64 (V:Int),.nilIface])/\ Cur EX w' cb a n c (q:Int)) \/
  (Qei f n x most=none/\∃(t:TypeId) (v:Value) (y:Int),e=.returned (.tuple #[.int .i64 0,.iface t v])/\ Cur EX w' cb a n c y))
theorem QmE {f:Nat ->Int}(hf:Byt f){n x:Nat}{most:Int}{V q:Nat}(h:rd f n x most=some (V,q)):q<=n/\ 0<q:=by
 obtain⟨_,_,_,j,k⟩:=(Qa8 hf).1 h;have:0<(uvF 9 V).length:=by
  cases e:uvF 9 V with
  | nil=>unfold uvF at e;split at e<;>cases e
  | cons a l=>simp
 omega
theorem QkH (cb B:Nat)(a:Option Addr)(n c x:Nat)(most:Int)(f:Nat ->Int)(aT aS aL aE:Addr)(w:World)(hn:n<=1048576)(hf:Byt f)(h:Seg w a n f)(hcur:Cur EX w cb a n c (x:Int))(hE:QcK w B aT aS aL aE)(hBc:B<=cb)(hne:∀y,a=some y ->y.block≠cb)(hm0:0<=most)(hm1:most<=1000000):
  Calls Tryz.prog 159 #[.pointer (some ⟨cb,0,none⟩),.int .i64 most] w fun e w'=>TlP EX f n x most cb a c w e w':=by
 have O:=hid (uvC cb B a n c (x:Int) f aT aS aL aE w hn hf hcur h hne hE hBc);have s:=hid hE;have Q:=hid hf;have C:=hcur.lt;have N:B<=w.heap.size:=by omega
 clear h hcur hE hf;go_enter Tryz.func159,Tryz.ntmps159;go_wp2_with fail;refine O.mono ?_;rintro e w1 ⟨b,Y⟩;have i:=hid b;have A:=hid (s.below ((Below.refl B w).grown b (by omega) (fun k hk=>by injection hk with hk;omega)));clear b O s;rcases Y with ⟨V,q,X,z,rfl,o⟩|⟨z,t,v,y,rfl,o⟩
 ·have p:=z most;rw [Qa4] at p;have u:=hid p;have F:q<=n/\ 0<q:=by
   have:=z 18446744073709551616;rw [Qa4,if_pos (by omega)] at this;exact QmE Q.out this
  clear z p;have g:=hid o;obtain⟨Z,G,H,I⟩:=o;clear I;obtain⟨M,rfl⟩:∃M:Nat,most=(M:Int):=⟨most.toNat,by omega⟩;have S:IntKind.u64.wrap (M:Int)=(M:Int):=by rw [IntKind.wrap_u64];omega
  have D:decide ((M:Int)<0)=false:=by simp
  by_cases K:M<V
  ·have m:Hid (Qei f n x (M:Int)=none):=hid (by unfold Qei;rw [u.out,if_neg (by omega)];rfl);obtain⟨lv,J⟩:=A.x0;clear Z G H u;go_wp2_with fail;go_quiet (fail);go_wp2_with fail;go_ret2;exact⟨i.andThen (Qa2 _ _ _) (fun j hj=> .inr hj),.inr ⟨m.out,_,_,_,rfl,g.out⟩⟩
  obtain⟨r,P⟩:∃r:Nat,(r:Int)=(n:Int) - (q:Int):=⟨n - q,by omega⟩;have T:IntKind.u64.wrap (IntKind.i64.wrap ((n:Int) - (q:Int)))=(r:Int):=by rw [Qau _ (by omega) (by omega),IntKind.wrap_u64];omega
  have W:IntKind.u64.wrap ((n:Int) - (q:Int))=(r:Int):=by rw [IntKind.wrap_u64];omega
  by_cases L:r<V
  ·have m:Hid (Qei f n x (M:Int)=none):=hid (by
    unfold Qei;rw [u.out,if_pos (by omega)];show (if q+V<=n then some (Qeb f q V,q+V) else none)=none;rw [if_neg (by omega)])
   have U:=A.gE;clear u;go_wp2_with fail;go_quiet (fail);go_wp2_with fail;go_quiet (fail);go_wp2_with fail;go_ret2;simp only [World.drewN_drewN];exact⟨i.andThen (Qa2 _ _ _) (fun j hj=> .inr hj),.inr ⟨m.out,_,_,_,rfl,g.out⟩⟩
  have m:Hid (Qei f n x (M:Int)=some (Qeb f q V,q+V)):=hid (by
   unfold Qei;rw [u.out,if_pos (by omega)];show (if q+V<=n then some (Qeb f q V,q+V) else none)=_;rw [if_pos (by omega)])
  have R:IntKind.i64.wrap (V:Int)=(V:Int):=Qau _ (by omega) (by omega);have E:Hid (q+V<=n/\ 0<n):=hid ⟨by omega,by omega⟩;clear u;go_wp2_with fail;go_quiet (fail);go_wp2_with fail;go_ret2;exact⟨i.andThen (Qa2 _ _ _) (fun j hj=> .inr hj),.inl ⟨V,q,m.out,E.1,E.2,rfl,g.out⟩⟩
 ·have m:Hid (Qei f n x most=none):=hid (by unfold Qei;rw [<- Qa4,z most];rfl);have g:=hid o;clear z o;go_wp2_with fail;go_ret2;exact⟨i.out,.inr ⟨m.out,_,_,_,rfl,g.out⟩⟩
theorem Qoc (cb B:Nat)(a:Option Addr)(n c x:Nat)(most:Int)(f:Nat ->Int)(aT aS aL aE:Addr)(w:World)(hn:n<=1048576)(hnc:n<=c)(hcc:c<=9223372036854775807)(hf:Byt f)(h:Seg w a n f)(hcur:Cur EX w cb a n c (x:Int))(hE:QcK w B aT aS aL aE)(hBc:B<=cb)(hne:∀y,a=some y ->y.block≠cb)(hm0:0<=most)(hm1:most<=1000000):
  Calls Tryz.prog 137 #[.pointer (some ⟨cb,0,none⟩),.int .i64 most] w fun e w'=>TxP EX f n x most cb a c w e w':=by
 have O:=hid (QkH cb B a n c x most f aT aS aL aE w hn hf h hcur hE hBc hne hm0 hm1);have T:=hcur.lt;have N:=hid h;have L:=hid hf;obtain⟨I,J,K,p⟩:=hcur;clear h hE hf p;go_enter Tryz.func137,Tryz.ntmps137;go_wp2_with fail;refine O.mono ?_;rintro e w1 ⟨z,C⟩;have E:=hid z;have z1:=z.size;clear z O I J K;have Q:=fun(o:Obj)=>zO w1 o;rcases C with ⟨V,q,Y,Hf,Hd,rfl,r⟩|⟨Z,t,v,y,rfl,r⟩;rotate_left
 ·have X:=hid Z;have u:=hid r;clear Z r;go_wp2_with fail;go_ret2;exact⟨Qag E.out (Q _),.inr ⟨X.out,_,_,_,rfl,u.below (Q _) u.lt⟩⟩
 ·have A:=hid Y;clear Y;have u:=hid r;obtain⟨I,J,K,p⟩:=r;have Hi:IntKind.i64.wrap (V:Int)=(V:Int):=Qau _ (by omega) (by omega);have Hj:IntKind.i64.wrap ((q:Int)+(V:Int))=(q:Int)+(V:Int):=Qau _ (by omega) (by omega);obtain⟨W,m⟩:∃W,w1.setCell ⟨cb,1,none⟩ (.int .i64 ((q:Int)+(V:Int)))=W:=⟨_,rfl⟩;rcases N.out with h|⟨b,off,rfl,D,G⟩
  ·omega
  have F:=hne _ rfl;have U:Cur EX W cb (some ⟨b,off,none⟩) n c ((q:Int)+(V:Int)):=by rw [<- m];exact u.set _
  have s:=hid U;obtain⟨j0,j1,j2,R⟩:=U;have g:=hid (show w.grownBy W (some cb) from by rw [<- m];exact Qaf E.out (QdD (Qbo _ _) _));have H:∀i,i<V ->W.cell? ⟨b,off+q+i,none⟩=some (.int .u8 (f (q+i))):=fun i hi=>by
   rw [World.cell?_of_block (g.block b D (by simp;exact F)),Nat.add_assoc];exact G (q+i) (by omega)
  have P:∀k cap,(convert 22 9 (.slice (some ⟨b,off+q,none⟩) V cap)).run Tryz.prog (W.drewN k)=.ok (.string (Qeb f q V)) (W.drewN k):=fun k cap=>QfX L.out (fun i hi=>H i hi);clear G H;have He:(0:Int)<=(q:Int):=Int.natCast_nonneg _;have Hg:(q:Int)<=(q:Int)+(V:Int):=by omega
  have Hh:(q:Int)+(V:Int)<=(c:Int):=by omega
  clear p R;have M:Hid (((q+V:Nat):Int)=(q:Int)+(V:Int)):=hid (by push_cast;rfl);by_cases Hc:q<c
  ·go_wp2_with fail;try rw [m]
   clear m;go_quiet (fail);go_wp2_with fail;go_ret2;exact⟨g.andThen (Qa2 _ _ _) (fun j hj=> .inr hj),.inl ⟨_,_,A.out,rfl,by rw [M.out];exact s.out⟩⟩
  ·have S:V<=0:=by omega
   have Ha:c<=q:=by omega
   have Hb:∀k ad cap,(convert 22 9 (.slice (some ad) V cap)).run Tryz.prog (W.drewN k)=.ok (.string (Qeb f q V)) (W.drewN k):=fun k ad cap=>by
    obtain rfl:V=0:=by omega
    exact QfY (w:=W.drewN k) ad q cap f
   clear P;go_wp2_with fail;try rw [m]
   clear m;go_quiet (fail);go_wp2_with fail;go_ret2;exact⟨g.andThen (Qa2 _ _ _) (fun j hj=> .inr hj),.inl ⟨_,_,A.out,rfl,by rw [M.out];exact s.out⟩⟩
variable {EX : Nat -> Option Value}
theorem Seg.grown {w w1:World}{a:Option Addr}{n cb:Nat}{f:Nat ->Int}(h:Seg w a n f)(g:w.grownBy w1 (some cb))(hab:∀y,a=some y ->y.block≠cb):Seg w1 a n f:=by
 rcases h with h|⟨b,off,rfl,j,k⟩
 ·exact .inl h
 ·refine .inr ⟨b,off,rfl,Nat.lt_of_lt_of_le j g.size,fun i hi=> ?_⟩;rw [World.cell?_of_block (g.block b j (by have:=hab _ rfl;simpa using this))];exact k i hi
theorem QcK.grown {w w1:World}{B cb:Nat}{aT aS aL aE:Addr}(h:QcK w B aT aS aL aE)(g:w.grownBy w1 (some cb))(hBc:B<=cb)(hcl:cb<w.heap.size):QcK w1 B aT aS aL aE:=
 h.below ((Below.refl B w).grown g (by omega) (fun k hk=>by injection hk with hk;omega))
noncomputable def QdU (f:Nat ->Int)(n:Nat)(least:Int)(x:Nat):Option ((Int×Int)×Nat):=
 (rd f n x (1000000000 - least)).bind fun a=>(rd f n a.2 (1000000000 - (least+(a.1:Int)))).bind fun b=>some ((least+(a.1:Int),least+(a.1:Int)+(b.1:Int)),b.2)
theorem Qce (f:Nat ->Int)(n k:Nat)(least:Int)(x:Nat):Qa0 f n (k+1) least x=(QdU f n least x).bind fun a=>(Qa0 f n k (a.1.2+2) a.2).bind fun b=>some (a.1::b.1,b.2):=by
 unfold QdU;rw [Qa0];cases h1:rd f n x (1000000000 - least) with
 | none=>rfl
 | some a=>
  simp only [Option.bind_eq_bind,Option.bind_some];cases h2:rd f n a.2 (1000000000 - (least+(a.1:Int))) with
  | none=>rfl
  | some b=>rfl
theorem box2 {w w2:World}{cb n c:Nat}{a:Option Addr}{y:Int}{u0 u1:Value}(v0 v1:Value)(g:w.grownBy w2 (some cb))(cu:Cur EX w2 cb a n c y)(hcl:cb<w.heap.size)
  (k0:w2.cell? ⟨w.heap.size,0,none⟩=some u0) (k1:w2.cell? ⟨w.heap.size,1,none⟩=some u1):
  ∃Z,Z=(w2.setCell ⟨w.heap.size,0,none⟩ v0).setCell ⟨w.heap.size,1,none⟩ v1/\ Z.cell? ⟨w.heap.size,0,none⟩=some v0/\ Z.cell? ⟨w.heap.size,1,none⟩=some v1/\ w.grownBy Z (some cb)/\ Cur EX Z cb a n c y:=by
 refine⟨_,rfl,?_,?_,?_,?_,?_,?_⟩
 ·rw [World.cell?_setCell_other _ _ _ _ (by simp)];exact World.cell?_setCell_same _ _ _ k0
 ·have j:(w2.setCell ⟨w.heap.size,0,none⟩ v0).cell? ⟨w.heap.size,1,none⟩=some u1:=by
   rw [World.cell?_setCell_other _ _ _ _ (by simp)];exact k1
  exact World.cell?_setCell_same _ _ _ j
 ·refine⟨g.os,g.tape,g.output,?_,fun k hk hne=> ?_⟩
  ·have:=g.size;simpa [World.setCell] using this
  ·exact((zH _ _ _ _ (fun e=>by first|omega|(simp at e;omega))).trans (zH _ _ _ _ (fun e=>by first|omega|(simp at e;omega)))).trans (g.block k hk hne)
 ·rw [World.cell?_setCell_far _ _ _ _ (by simp;omega),World.cell?_setCell_far _ _ _ _ (by simp;omega)];exact cu.1
 ·rw [World.cell?_setCell_far _ _ _ _ (by simp;omega),World.cell?_setCell_far _ _ _ _ (by simp;omega)];exact cu.2.1
 ·rw [World.frozen?_setCell,World.frozen?_setCell];exact⟨cu.2.2.1,fun i hi=>by rw [World.cell?_setCell_far _ _ _ _ (by simp;omega),World.cell?_setCell_far _ _ _ _ (by simp;omega),World.frozen?_setCell,World.frozen?_setCell];exact cu.2.2.2 i hi⟩
theorem QoQ (cb B:Nat)(a:Option Addr)(n c x:Nat)(least:Int)(f:Nat ->Int)(aT aS aL aE:Addr)(w:World)(hn:n<=1048576)(hf:Byt f)(hcur:Cur EX w cb a n c (x:Int))(hs:Seg w a n f)(hab:∀y,a=some y ->y.block≠cb)(hE:QcK w B aT aS aL aE)(hBc:B<=cb)
  (hl0:1<=least) (hl1:least<=1000000002):
  Calls Tryz.prog 158 #[.pointer (some ⟨cb,0,none⟩),.int .i64 least] w fun e w'=>w.grownBy w' (some cb)/\
   ((∃(s t:Int) (x':Nat),QdU f n least x=some ((s,t),x')/\ least<=s/\ s<=t/\ t<=1000000000/\ e=.returned (.tuple #[.agg #[.int .i64 s,.int .i64 t],.nilIface])/\ Cur EX w' cb a n c (x':Int)) \/
    (QdU f n least x=none/\∃(t:TypeId) (v:Value) (y:Int),e=.returned (.tuple #[.agg #[.int .i64 0,.int .i64 0],.iface t v])/\ Cur EX w' cb a n c y)):=by
 have o:=hcur.lt;obtain⟨W,j⟩:∃W,w.alloc (.cells #[.int .i64 0,.int .i64 0] 148)=W:=⟨_,rfl⟩;have D:Below w.heap.size w W:=by rw [<- j];exact zO _ _
 have zW:W.heap.size=w.heap.size+1:=by rw [<- j];simp
 have h:w.grownBy W (some cb):=Qag (Qbo w (some cb)) D;have H:Hid (∀w1,W.grownBy w1 (some cb) ->w1.cell? ⟨w.heap.size,0,none⟩=some (.int .i64 0)/\ w1.cell? ⟨w.heap.size,1,none⟩=some (.int .i64 0)/\ w1.frozen? ⟨w.heap.size,0,none⟩=false/\ w1.frozen? ⟨w.heap.size,1,none⟩=false):=by
  intro w1 g;have G:=g.block w.heap.size (by omega) (by simp;omega);refine⟨?_,?_,?_,?_⟩
  ·rw [World.cell?_of_block G,<- j];simp
  ·rw [World.cell?_of_block G,<- j];simp
  ·have e:w1.frozen? ⟨w.heap.size,0,none⟩=W.frozen? ⟨w.heap.size,0,none⟩:=by unfold World.frozen?;rw [G]
   rw [e,<- j];simp
  ·have e:w1.frozen? ⟨w.heap.size,1,none⟩=W.frozen? ⟨w.heap.size,1,none⟩:=by unfold World.frozen?;rw [G]
   rw [e,<- j];simp
 have Ha:cb<W.heap.size:=by omega
 have N:=hid (QbG cb B a n c x (1000000000 - least) f aT aS aL aE W hn hf (hcur.below D o) (hs.grown h hab) hab (hE.grown h hBc o) hBc (by omega) (by omega));have J:=hid (hE.grown h hBc o);have S:=hid (hs.grown h hab);have C:=hid h;have T:IntKind.i64.wrap (1000000000 - least)=1000000000 - least:=Qau _ (by omega) (by omega);clear hE hcur hs h D;go_enter Tryz.func158,Tryz.ntmps158;go_wp2_with fail;try rw [T]
 try rw [j]
 clear j;refine N.mono ?_;rintro e w1 ⟨m,⟨V,x1,q,hV,rfl,p⟩|⟨q,t,v,y,rfl,p⟩⟩
 ·rw [Qa4] at q;have X:=hid (QbG cb B a n c x1 (1000000000 - (least+(V:Int))) f aT aS aL aE w1 hn hf p (S.grown m hab) hab (J.grown m hBc Ha) hBc (by omega) (by omega));have u:=hid m;have Y:=hid q;have e1:IntKind.i64.wrap (least+(V:Int))=least+(V:Int):=Qau _ (by omega) (by omega);have e2:IntKind.i64.wrap (1000000000 - (least+(V:Int)))=1000000000 - (least+(V:Int)):=Qau _ (by omega) (by omega);clear m q p N J;go_wp2_with fail;try rw [e2]
  refine X.mono ?_;rintro e w2 ⟨z,⟨M,x2,r,hM,rfl,A⟩|⟨r,t,v,y,rfl,A⟩⟩
  ·rw [Qa4] at r;obtain⟨E,O,F,P⟩:=H _ (Qaf u.out z);have K:=hid (Qaf C.out (Qaf u.out z));have L:=hid r;have I:=hid A;have e3:IntKind.i64.wrap (least+(V:Int)+(M:Int))=least+(V:Int)+(M:Int):=Qau _ (by omega) (by omega);clear z r A X;go_wp2_with fail;obtain⟨Z,k,Q,U,b,i⟩:=box2 (.int .i64 (least+(V:Int))) (.int .i64 (least+(V:Int)+(M:Int))) K.out I.out o E O;rw [<- k];clear k;refine zF (v:=.tuple #[.agg #[.int .i64 (least+(V:Int)),.int .i64 (least+(V:Int)+(M:Int))],.nilIface]) (by simp [results,Tryz.results158,go_sem,Q,U]) ⟨b,.inl ⟨least+(V:Int),least+(V:Int)+(M:Int),x2,?_,by omega,by omega,by omega,rfl,i⟩⟩;unfold QdU;rw [Y.out];simp only [Option.bind_some];rw [L.out];rfl
  ·rw [Qa4] at r;obtain⟨E,O,F,P⟩:=H _ (Qaf u.out z);have K:=hid (Qaf C.out (Qaf u.out z));have L:=hid r;have I:=hid A;clear z r A X;go_wp2_with fail;obtain⟨Z,k,Q,U,b,i⟩:=box2 (.int .i64 0) (.int .i64 0) K.out I.out o E O;rw [<- k];clear k;refine zF (v:=.tuple #[.agg #[.int .i64 0,.int .i64 0],.iface t v]) (by simp [results,Tryz.results158,go_sem,Q,U]) ⟨b,.inr ⟨?_,_,_,_,rfl,i⟩⟩;unfold QdU;rw [Y.out];simp only [Option.bind_some];rw [L.out];rfl
 ·rw [Qa4] at q;obtain⟨E,O,F,P⟩:=H _ m;have u:=hid (Qaf C.out m);have Y:=hid q;have R:=hid p;clear m q p N J;go_wp2_with fail;obtain⟨Z,k,Q,U,b,i⟩:=box2 (.int .i64 0) (.int .i64 0) u.out R.out o E O;rw [<- k];clear k;refine zF (v:=.tuple #[.agg #[.int .i64 0,.int .i64 0],.iface t v]) (by simp [results,Tryz.results158,go_sem,Q,U]) ⟨b,.inr ⟨?_,_,_,_,rfl,i⟩⟩;unfold QdU;rw [Y.out];rfl
variable {EX : Nat -> Option Value}
noncomputable def Qh4 (f:Nat ->Int)(n:Nat)(left:Int)(x:Nat):Option (List (Int×Int)×Nat):=
 (rd f n x left).bind fun b=>if b.1=0 then none else Qa0 f n b.1 1 b.2
theorem SR.grown {w w1:World}{B cb:Nat}{v:Value}{l:List (Int×Int)}(h:SR w B v l)(g:w.grownBy w1 (some cb))(hB:cb<B):SR w1 B v l:=by
 refine World.ownsRow.kept h g ?_;cases e:v.ownBlock with
 | none=>exact .inl rfl
 | some k=>exact .inr (fun e2=>by have:=(World.ownsRow.lt h k e).1;injection e2 with e2;omega)
theorem QnU (cb B:Nat)(a:Option Addr)(n c x:Nat)(left:Int)(f:Nat ->Int)(aT aS aL aE:Addr)(w:World)(hn:n<=1048576)(hf:Byt f)(hcur:Cur EX w cb a n c (x:Int))(hs:Seg w a n f)(hab:∀y,a=some y ->y.block≠cb)(hE:QcK w B aT aS aL aE)(hBc:B<=cb)
  (hl0: -1000<=left) (Hj:left<=1000):
  Calls Tryz.prog 134 #[.pointer (some ⟨cb,0,none⟩),.int .i64 left] w fun e w'=>w.grownBy w' (some cb)/\
   ((∃(l:List (Int×Int)) (x':Nat) (v:Value),Qh4 f n left x=some (l,x')/\ e=.returned (.tuple #[v,.nilIface])/\ SR w' w.heap.size v l/\ Cur EX w' cb a n c (x':Int)) \/
    (Qh4 f n left x=none/\∃(t:TypeId) (v:Value) (y:Int),e=.returned (.tuple #[.slice none 0 0,.iface t v])/\ Cur EX w' cb a n c y)):=by
 have Hi:=hcur.lt;obtain⟨i0,hi,Hr,Hs,Ht⟩:=info_parts Tryz.infoSpan;have X:=hid (QbG cb B a n c x left f aT aS aL aE w hn hf hcur hs hab hE hBc (by omega) (by omega));have L:=hid hE;have HS:=hid hs;clear hE hcur hs;go_enter Tryz.func134,Tryz.ntmps134;go_wp2_with fail;refine X.mono ?_;rintro e w1 ⟨O,⟨V,J,z,hV,rfl,E⟩|⟨z,t,v,y,rfl,E⟩⟩
 ·rw [Qa4] at z;have N:=hid O;have Z:=hid E;by_cases h0:V=0
  ·subst h0;have A:Hid (Qh4 f n left x=none):=by unfold Qh4;rw [z];exact hid rfl
   have Hh:=L.below ((Below.refl B w).grown O (by omega) (fun k W=>by injection W with W;omega));obtain⟨vN,Hu⟩:=Hh.gN;clear O z E Hh X L;go_wp2_with fail;go_quiet (fail);go_wp2_with fail;go_ret2;exact⟨Qaf N.out (Qa2 _ _ _),.inr ⟨A.out,_,_,_,rfl,Z.below (Qbb zI _) Z.lt⟩⟩
  ·have A:Hid (Qh4 f n left x=Qa0 f n V 1 J):=by unfold Qh4;rw [z];exact hid (if_neg h0)
   have d0:((V:Int)==0)=false:=by simp;omega
   clear O z E X;go_wp2_with fail;go_loopw [8,9,26] (fun sv lv iv wr=>∃(k y:Nat) (l:List (Int×Int)) (Y:Int),k<=V/\ iv=.int .i64 (k:Int)/\ lv=.int .i64 Y/\ 1<=Y/\ Y<=1000000002/\ l.length=k/\ Hid (SR wr w.heap.size sv l)/\ Hid (Cur EX wr cb a n c (y:Int))/\ Hid (w.grownBy wr (some cb))/\
    Hid (Qa0 f n V 1 J=(Qa0 f n (V - k) Y y).bind fun b=>some (l++b.1,b.2))) (fun _ _ iv _=>V - (intOf iv).toNat)
   case atStart=>exact⟨0,J,[],1,Nat.zero_le _,rfl,rfl,by omega,by omega,rfl,hid (World.ownsRow_nil _ _ _ _),Z,N,hid (by cases h:Qa0 f n (V - 0) 1 J<;>simp_all)⟩
   case round=>
    obtain⟨k,y,l,Y,W,rfl,rfl,Hj,Ho,Hp,F,H,o,U⟩:=hrel;have zr:=o.size;by_cases Hq:k<V
    ·obtain⟨m,D⟩:∃m,V - k=m+1:=⟨V - k - 1,by omega⟩;have S:=hid (QoQ cb B a n c y Y f aT aS aL aE wr hn hf H.out (HS.grown o.out hab) hab (L.grown o.out hBc Hi) hBc Hj Ho);obtain⟨c0,c1,c2⟩:=H.out;go_wp2_with fail;refine S.mono ?_;rintro e q ⟨Q,⟨s,t,P,I,Hv,Hw,Hx,rfl,M⟩|⟨I,t,v,y2,rfl,M⟩⟩
     ·have Hb:=F.grown Q Hi;have T:Hid (∀g,u8.ownBlock=some g ->w.heap.size<=g/\ g<q.heap.size):=hid fun g hg=>World.ownsRow.lt Hb g hg;obtain⟨r,i⟩:∃r,q.alloc (.cells #[.int .i64 s,.int .i64 t] 148)=r:=⟨_,rfl⟩;have b3:Below q.heap.size q r:=by rw [<- i];exact zO _ _
      have Hg:Hid (r.heap.size=q.heap.size+1):=by rw [<- i];exact hid (by simp)
      have r0:r.cell? ⟨q.heap.size,0,none⟩=some (.int .i64 s):=by rw [<- i];simp
      have r1:r.cell? ⟨q.heap.size,1,none⟩=some (.int .i64 t):=by rw [<- i];simp
      have Hc:Hid (SR r w.heap.size u8 l):=by rw [<- i];exact World.ownsRow.alloc Hb _
      have R:=hid (M.below b3 M.lt);have Hf:=hid (Qag (Qaf o.out Q) b3);have G:Hid (Qa0 f n V 1 J=(Qa0 f n (V - (k+1)) (t+2) P).bind fun b=>some (l++[(s,t)]++b.1,b.2)):=by
       refine hid ?_;rw [U.out,D,Qce,I,show V - (k+1)=m from by omega];simp only [Option.bind_some];cases Qa0 f n m (t+2) P with
       | none=>rfl
       | some b=>simp
      have z2:=Q.size;have zz:w.heap.size<=q.heap.size:=by omega
      have e3:IntKind.i64.wrap (t+2)=t+2:=Qau _ (by omega) (by omega);subst Hp;clear Q I M S c0 c1 c2 F H o U b3 D Hb;go_wp2_with (at_builtin;go_loud ((try rw [i]);refine Qav rfl _ _ 96 rfl w.heap.size 148 i0 _ 2 16 Tryz.underlying96 hi Hr Hs Ht rfl (by decide) _ _ _ rfl (World.ownsRow.alloc Hc.out _) ⟨r.heap.size,0,none⟩ 1 1 [.int .i64 s,.int .i64 t] rfl rfl ?c1 ?c2 ?c3 ?c4 ?c5 ?_));case c1=>exact Qot _ _ _ _
      case c2=>intro u hu;simp at hu;rcases hu with rfl|rfl<;>rfl
      case c3=>unfold maxLen;omega
      case c4=>omega
      case c5=>have:=Hg.out;simp;omega
      intro v4 w4 Ha C Hd;have z3:=Hg.out;have K:Hid (Below r.heap.size r (r.alloc (.cells #[.int .i64 s,.int .i64 t] 148))):=hid (zO _ _);have n1:some q.heap.size≠u8.ownBlock:=fun e=>by have:=(T _ e.symm).2;omega
      have n2:some cb≠u8.ownBlock:=fun e=>by have:=(T _ e.symm).1;omega
      have q1:=C.cell ((K.cell (p:=⟨q.heap.size,1,none⟩) (show q.heap.size<r.heap.size by omega)).trans r1) n1;have Hk:Hid (Cur EX w4 cb a n c (P:Int)):=by
       have h:=R.below K.out R.lt;have hb:=C.block cb h.lt n2;exact hid (h.at' hb)
      have Hm:Hid (w.grownBy w4 (some cb)):=hid ((Qag Hf.out K.out).andThen C (fun j hj=> .inl (T j hj).1));have Hn:Hid (SR w4 w.heap.size v4 (l++[(s,t)])):=by
       unfold SR;rw [QbS,List.length_append];exact hid Ha
      clear Ha C Hd r0 r1 i K R Hf Hc z3;go_wp2_with fail;go_roundw;case rel=>exact⟨l.length+1,P,l++[(s,t)],t+2,Hq,by go_num,rfl,by omega,by omega,by simp,Hn,Hk,Hm,G⟩
      case measure=>simp [intOf];omega
     ·have G:Hid (Qh4 f n left x=none):=by
       refine hid ?_;rw [A.out,U.out,D,Qce,I];rfl
      have Hl:=hid (Qaf o.out Q);have He:=hid M;clear Q I M S c0 c1 c2 F H o U D;go_wp2_with fail;go_ret2;have B2:Below q.heap.size q ((q.alloc (.cells #[.int .i64 0,.int .i64 0] 148)).alloc (.cells #[.string {data:=#[114,117,110]},.int .i64 (y:Int),.iface t v] 109)):=Qak _ _ _;exact⟨Qag Hl.out B2,.inr ⟨G.out,_,_,_,rfl,He.below B2 He.lt⟩⟩
    ·obtain rfl:k=V:=by omega
     have G:Hid (Qh4 f n left x=some (l,y)):=by
      refine hid ?_;rw [A.out,U.out,Nat.sub_self];simp [Qa0]
     clear U;go_wp2_with fail;go_ret2;exact⟨o.out,.inl ⟨l,y,_,G.out,rfl,F.out,H.out⟩⟩
 ·rw [Qa4] at z;have A:Hid (Qh4 f n left x=none):=by unfold Qh4;rw [z];exact hid rfl
  have N:=hid O;have Z:=hid E;clear O z E X L;go_wp2_with fail;go_ret2;exact⟨N.out,.inr ⟨A.out,_,_,_,rfl,Z.out⟩⟩
open Go.Maps
variable {EX : Nat -> Option Value}
theorem QdW {f:Nat ->Int}{n:Nat}:∀(k:Nat) (j:Int) (x:Nat) (l:List (Int×Int)) (x':Nat),Qa0 f n k j x=some (l,x') ->l.length=k:=by
 intro k;induction k with
 | zero=>intro j x l x' h;simp [Qa0] at h;simp [<- h.1]
 | succ k ih=>
  intro j x l x' h;rw [Qce] at h;obtain⟨a,q,h⟩:=Option.bind_eq_some_iff.1 h;obtain⟨b,m,h⟩:=Option.bind_eq_some_iff.1 h;injection h with h;injection h with h3 h4;rw [<- h3];simp [ih _ _ b.1 b.2 m]
noncomputable def Qdn (f:Nat ->Int)(n:Nat)(before left:Int)(x:Nat):Option ((Int×List (Int×Int))×Nat):=
 (rd f n x 7).bind fun a=>if (a.1:Int)<=before then none else(Qh4 f n left a.2).bind fun b=>some (((a.1:Int),b.1),b.2)
theorem QdT (f:Nat ->Int)(n k:Nat)(before left:Int)(x:Nat):QaB f n (k+1) before left x=(Qdn f n before left x).bind fun a=>(QaB f n k a.1.1 (left - (a.1.2.length:Int)) a.2).bind fun d=>some (a.1::d.1,d.2):=by
 unfold Qdn Qh4;rw [QaB];cases h1:rd f n x 7 with
 | none=>rfl
 | some a=>
  simp only [Option.bind_some];split
  ·rfl
  ·cases h2:rd f n a.2 left with
   | none=>rfl
   | some b=>
    simp only [Option.bind_some];split
    ·rfl
    ·cases h3:Qa0 f n b.1 1 b.2 with
     | none=>rfl
     | some c=>
      simp only [Option.bind_some];rw [QdW b.1 1 b.2 c.1 c.2 h3]
theorem Qk8 (cb B:Nat)(a:Option Addr)(n c x:Nat)(before left:Int)(f:Nat ->Int)(aT aS aL aE:Addr)(w:World)(hn:n<=1048576)(hf:Byt f)(hcur:Cur EX w cb a n c (x:Int))(hs:Seg w a n f)(hab:∀y,a=some y ->y.block≠cb)(hE:QcK w B aT aS aL aE)(hBc:B<=cb)
  (hl0: -1000<=left) (hl1:left<=1000):
  Calls Tryz.prog 104 #[.pointer (some ⟨cb,0,none⟩),.int .i64 before,.int .i64 left] w fun e w'=>w.grownBy w' (some cb)/\
   ((∃(r:Int) (l:List (Int×Int)) (x':Nat) (v:Value),Qdn f n before left x=some ((r,l),x')/\ before<r/\ 0<=r/\ r<=7/\ l≠[]/\ (l.length:Int)<=left/\ e=.returned (.tuple #[.int .i64 r,v,.nilIface])/\ SR w' w.heap.size v l/\ Cur EX w' cb a n c (x':Int)) \/
    (Qdn f n before left x=none/\∃(r:Int) (t:TypeId) (v:Value) (y:Int),e=.returned (.tuple #[.int .i64 r,.slice none 0 0,.iface t v])/\ Cur EX w' cb a n c y)):=by
 have F:=hcur.lt;have s:=hid (QbG cb B a n c x 7 f aT aS aL aE w hn hf hcur hs hab hE hBc (by omega) (by omega));have p:=hid hE;have L:=hid hs;clear hE hcur hs;go_enter Tryz.func104,Tryz.ntmps104;go_wp2_with fail;refine s.mono ?_;rintro e w1 ⟨k,⟨V,G,j,D,rfl,m⟩|⟨j,t,v,y,rfl,m⟩⟩
 ·rw [Qa4] at j;have z:=hid k;have i:=hid m;have z1:=k.size;have O:=hid (p.grown k hBc F);by_cases E:(V:Int)<=before
  ·have u:Hid (Qdn f n before left x=none):=by unfold Qdn;rw [j];exact hid (if_pos E)
   obtain⟨W,T⟩:=O.gO;have C:decide ((V:Int)<=before)=true:=by simpa using E
   clear k j m s p;go_wp2_with fail;go_quiet (fail);go_wp2_with fail;go_ret3;exact⟨Qaf z.out (Qa2 _ _ _),.inr ⟨u.out,_,_,_,_,rfl,i.below (Qbb zI _) i.lt⟩⟩
  ·have u:Hid (Qdn f n before left x=(Qh4 f n left G).bind fun b=>some (((V:Int),b.1),b.2)):=by unfold Qdn;rw [j];exact hid (if_neg E)
   have Y:=hid (QnU cb B a n c G left f aT aS aL aE w1 hn hf m (L.grown k hab) hab O.out hBc hl0 hl1);have C:decide ((V:Int)<=before)=false:=by simpa using E
   clear k j m s p O;go_wp2_with fail;refine Y.mono ?_;rintro e P ⟨A,⟨l,K,v,q,rfl,J,h⟩|⟨q,t,v,y,rfl,h⟩⟩
   ·have I:l≠[]/\ (l.length:Int)<=left:=by
     unfold Qh4 at q;obtain⟨b,Z,o⟩:=Option.bind_eq_some_iff.1 q;split at o
     ·cases o
     ·have:=QdW _ _ _ _ _ o;have R:=((Qa8 hf).1 (show rd f n G left=some (b.1,b.2) from Z)).2.1;refine⟨fun e=>by subst e;simp at this;omega,by omega⟩
    have U:Hid (Qdn f n before left x=some (((V:Int),l),K)):=by rw [u.out,q];exact hid rfl
    have Q:=hid (Qaf z.out A);have M:=hid h;have H:=hid I;have N:Hid (SR P w.heap.size v l):=by
     obtain⟨Z,o⟩:=J;refine hid ⟨Z,o.imp id ?_⟩;rintro⟨g,cap,X,e,S,r⟩;exact⟨g,cap,X,e,by omega,r⟩
    clear A q h J Y I;go_wp2_with fail;go_ret3;exact⟨Q.out,.inl ⟨_,l,K,v,U.out,by omega,by omega,D,H.1,H.2,rfl,N.out,M.out⟩⟩
   ·have U:Hid (Qdn f n before left x=none):=by rw [u.out,q];exact hid rfl
    have Q:=hid (Qaf z.out A);have M:=hid h;clear A q h Y;go_wp2_with fail;go_ret3;exact⟨Q.out,.inr ⟨U.out,_,_,_,_,rfl,M.out⟩⟩
 ·rw [Qa4] at j;have u:Hid (Qdn f n before left x=none):=by unfold Qdn;rw [j];exact hid rfl
  have z:=hid k;have i:=hid m;clear k j m s p;go_wp2_with fail;go_ret3;exact⟨z.out,.inr ⟨u.out,_,_,_,_,rfl,i.out⟩⟩
theorem Qdk.step {w w1:World}{bm n:Nat}{D:DataW Value}{G:Int ->Value}{L:Int ->List (Int×Int)}{v:Value}{r:Int}{l:List (Int×Int)}(h:Qdk w bm n D G L)(ho:w.ownsRow 0 148 2 v l.length (Qaw l))(hl:l≠[])
  (hD:w1.ownsMap Tryz.prog 3 QhY bm (n+1) (D.put (kI r) (.held v))) (hg:w.grownBy w1 (some bm)):
  Qdk w1 bm (n+1) (D.put (kI r) (.held v)) (upd G r v) (upd L r l):=by
 refine⟨hD,fun x=> ?_,fun x=> ?_,fun x=> ?_⟩
 ·by_cases e:x=r
  ·subst e;rw [Qay,atKey_put_same h.own.isMap (show WideAt.IsKeyLit (kI x) from trivial)]
  ·rw [Qao G v e,atKey_put_other (Qko e)];exact h.at' x
 ·by_cases e:x=r
  ·subst e;rw [Qay,has_put_same h.own.isMap (show WideAt.IsKeyLit (kI x) from trivial)];cases l with
   | nil=>exact absurd rfl hl
   | cons _ _=>rfl
  ·rw [Qao L _ e,has_put_other (Qko e)];exact h.has' x
 ·by_cases e:x=r
  ·subst e;rw [Qay,Qay];exact ho.kept hg (Qjw ho h.own)
  ·rw [Qao G v e,Qao L _ e];exact(h.rows x).kept hg (Qjw (h.rows x) h.own)
def lkS (g:List (Int×List (Int×Int)))(r:Int):List (Int×Int):=g.foldl (fun L p=>upd L p.1 p.2) (fun _=>[]) r
theorem Qkw (g:List (Int×List (Int×Int)))(p:Int×List (Int×Int)):lkS (g++[p])=upd (lkS g) p.1 p.2:=by
 funext r;unfold lkS;rw [List.foldl_append];rfl
theorem Qju (cb B bm:Nat)(a:Option Addr)(n c:Nat)(x:Int)(f:Nat ->Int)(aT aS aL aE:Addr)(w0 w:World)(D0:DataW Value)(G0:Int ->Value)(hn:n<=1048576)(hf:Byt f)(hcur:Cur EX w cb a n c x)(hs:Seg w0 a n f)(hab:∀y,a=some y ->y.block≠cb)(hE:QcK w0 B aT aS aL aE)(hBc:B<=cb)
  (hc0:cb<w0.heap.size) (hbm:w0.heap.size<=bm) (hg0:w0.grownBy w (some cb)) (hG:Qdk w bm 0 D0 G0 (fun _=>[])) (hGb:∀r g,(G0 r).ownBlock=some g ->w0.heap.size<=g):
  Calls Tryz.prog 74 #[.pointer (some ⟨cb,0,none⟩),.map (some bm)] w fun e w'=>w0.grownBy w' (some cb)/\
   ((∃(g:List (Int×List (Int×Int))) (x' nn:Nat) (D:DataW Value) (G:Int ->Value),(rdI f n x 8).bind (fun a=>QaB f n a.1 (-1) 1000 a.2)=some (g,x')/\ e=.returned .nilIface/\ Qdk w' bm nn D G (lkS g)/\ Cur EX w' cb a n c (x':Int)/\∀r g,(G r).ownBlock=some g ->w0.heap.size<=g) \/
    ((rdI f n x 8).bind (fun a=>QaB f n a.1 (-1) 1000 a.2)=none/\∃(t:TypeId) (v:Value) (y:Int),e=.returned (.iface t v)/\ Cur EX w' cb a n c y)):=by
 have Hu:=hcur.lt;have W:=hid (QbG cb B a n c x 8 f aT aS aL aE w hn hf hcur (hs.grown hg0 hab) hab (hE.grown hg0 hBc hc0) hBc (by omega) (by omega));have HE:=hid hE;have HS:=hid hs;have R:=hid hg0;have Hi:=hid hG;have Hh:=hid hGb;have Hs:=hG.own.lt;clear hE hcur hs hg0 hG hGb;go_enter Tryz.func74,Tryz.ntmps74;go_wp2_with fail;refine W.mono ?_;rintro e w1 ⟨Q,⟨V,I,Y,hV,rfl,E⟩|⟨Y,t,v,y,rfl,E⟩⟩
 ·have K:Hid ((rdI f n x 8).bind (fun a=>QaB f n a.1 (-1) 1000 a.2)=QaB f n V (-1) 1000 I):=by rw [Y];exact hid rfl
  have P:=hid (Qaf R.out Q);have F:=hid E;have Ha:=hid (Hi.gr (row:=some cb) Q (fun e=>by injection e with e;omega) (fun r g hg e=>by injection e with e;have:=Hh r g hg;omega));clear Q Y E W Hi R;go_wp2_with fail;go_loopw [7,8,22] (fun lv bv iv wr=>∃(k y:Nat) (g:List (Int×List (Int×Int))) (u before:Int) (D:DataW Value) (G:Int ->Value),k<=V/\ iv=.int .i64 (k:Int)/\ lv=.int .i64 u/\ bv=.int .i64 before/\ -1<=before/\ before<=7/\ 0<=u/\ u<=1000/\
   Hid (Qdk wr bm k D G (lkS g))/\ Hid (∀r g,(G r).ownBlock=some g ->w0.heap.size<=g)/\ Hid (Cur EX wr cb a n c (y:Int))/\ Hid (w0.grownBy wr (some cb))/\ bm<wr.heap.size/\
   Hid (QaB f n V (-1) 1000 I=(QaB f n (V - k) before u y).bind fun d=>some (g++d.1,d.2))) (fun _ _ iv _=>V - (intOf iv).toNat)
  case atStart=>exact⟨0,I,[],1000, -1,D0,G0,Nat.zero_le _,rfl,rfl,rfl,by omega,by omega,by omega,by omega,Ha,Hh,F,P,Ha.own.lt,hid (by cases h:QaB f n (V - 0) (-1) 1000 I<;>simp_all)⟩
  case round=>
   obtain⟨k,y,g,u,before,D,G,hk,rfl,rfl,rfl,Hq,Hr,Hv,Hw,L,Hf,U,z,Ht,p⟩:=hrel;have zr:=z.size;by_cases Hn:k<V
   ·obtain⟨m,X⟩:∃m,V - k=m+1:=⟨V - k - 1,by omega⟩;have T:=hid (Qk8 cb B a n c y before u f aT aS aL aE wr hn hf U.out (HS.grown z.out hab) hab (HE.grown z.out hBc hc0) hBc (by omega) (by omega));obtain⟨c0,c1,c2⟩:=U.out;go_wp2_with fail;refine T.mono ?_;rintro e C ⟨i,⟨r,l,x2,v,Z,Hy,Hz,H0,hl,Hx,rfl,H,M⟩|⟨Z,r,t,v,y2,rfl,M⟩⟩
    ·have z2:=i.size;have Hb:=hid (L.gr (row:=some cb) i (fun e=>by injection e with e;omega) (fun r g hg e=>by injection e with e;have:=Hf r g hg;omega));have A:Hid (QaB f n V (-1) 1000 I=(QaB f n (V - (k+1)) r (u - (l.length:Int)) x2).bind fun d=>some (g++[(r,l)]++d.1,d.2)):=by
      refine hid ?_;rw [p.out,X,QdT,Z,show V - (k+1)=m from by omega];simp only [Option.bind_some];cases QaB f n m r (u - (l.length:Int)) x2 with
      | none=>rfl
      | some b=>simp
     have s:=hid M;have S:=hid (Qaf z.out i);have Hd:=Qh7 H;have HV:Hid (∀q,v.ownBlock=some q ->w0.heap.size<=q):=hid fun q hq=>Nat.le_trans zr (World.ownsRow.lt H q hq).1;obtain⟨J,nv,O,o⟩:=QbJ H;have Ho:nv=l.length:=by
      rcases H.2 with ⟨e,e0⟩|⟨g',cap,Hp,e,_⟩
      ·rw [e] at o;injection o with _ e1 _;omega
      ·rw [e] at o;injection o with _ e1 _;omega
     subst Ho;have Hg:keyOf Tryz.prog 3 (.int .i64 r)=some (kI r):=keyOf_int_mk Tryz.underlying3 (wfI (by omega) (by omega));have e3:IntKind.i64.wrap (u - (l.length:Int))=u - (l.length:Int):=Qau _ (by omega) (by omega);have He:Hid (C.ownsRow 0 148 2 (.slice J l.length O) l.length (Qaw l)):=by rw [<- o];exact hid Hd
     have Hk:Hid (∀q,(Value.slice J l.length O).ownBlock=some q ->w0.heap.size<=q):=by rw [<- o];exact HV
     subst o;have Hj:=hid Hb.own;clear i Z M T c0 c1 c2 L U z p X H Hd HV;go_wp2_with (at_mapUpdate;refine wpList_mapUpdate_own _ rfl _ _ _ 47 rfl 3 96 (int_keyed Tryz.underlying3) Tryz.underlying47 QhY bm _ _ rfl Hj.out (by unfold maxLen;omega) _ _ _ rfl rfl Hg (.held (.slice J l.length O)) [] rfl ?_;intro w3 Hc N;go_frame);go_roundw;case rel=>
      have Hm:some cb≠some bm:=fun e=>by injection e with e;omega
      have Hl:=N.block cb s.lt Hm;refine⟨k+1,x2,g++[(r,l)],u - (l.length:Int),r,D.put (kI r) (.held (.slice J l.length O)),upd G r (.slice J l.length O),Hn,by go_num,rfl,rfl,by omega,by omega,by omega,by omega,?_,?_,?_,?_,?_,A⟩
      ·rw [Qkw];exact hid (Hb.step He.out hl Hc N)
      ·refine hid fun q t hq=> ?_;by_cases e:q=r
       ·subst e;rw [Qay] at hq;exact Hk t hq
       ·rw [Qao _ _ e] at hq;exact Hf q t hq
      ·exact hid (s.at' Hl)
      ·exact hid (S.andThen N (fun j hj=> .inl (by injection hj with hj;omega)))
      ·have:=N.size;omega
     case measure=>simp [intOf];omega
    ·have A:Hid ((rdI f n x 8).bind (fun a=>QaB f n a.1 (-1) 1000 a.2)=none):=by
      refine hid ?_;rw [K.out,p.out,X,QdT,Z];rfl
     have S:=hid (Qaf z.out i);have s:=hid M;clear i Z M T c0 c1 c2 L U z p X;go_wp2_with fail;go_ret;have B2:Below C.heap.size C (C.alloc (.cells #[.string {data:=#[114,101,112,108,105,99,97]},.int .i64 (y:Int),.iface t v] 109)):=zO _ _;exact⟨Qag S.out B2,.inr ⟨A.out,_,_,_,rfl,s.below B2 s.lt⟩⟩
   ·obtain rfl:k=V:=by omega
    have A:Hid ((rdI f n x 8).bind (fun a=>QaB f n a.1 (-1) 1000 a.2)=some (g,y)):=by
     refine hid ?_;rw [K.out,p.out,Nat.sub_self];simp [QaB]
    clear p;go_wp2_with fail;go_ret;exact⟨z.out,.inl ⟨g,y,_,D,G,A.out,rfl,L.out,U.out,Hf.out⟩⟩
 ·have K:Hid ((rdI f n x 8).bind (fun a=>QaB f n a.1 (-1) 1000 a.2)=none):=by rw [Y];exact hid rfl
  have P:=hid (Qaf R.out Q);have F:=hid E;clear Q Y E W HE;go_wp2_with fail;go_ret;exact⟨P.out,.inr ⟨K.out,_,_,_,rfl,F.out⟩⟩
def QmM:Int ->List (Int×Int) ->Int
 | least,[]=>least
 | _,p::l=>QmM (p.2+2) l
theorem QiC (l:List (Int×Int))(p:Int×Int):∀j,QmM j (l++[p])=p.2+2:=by
 induction l with
 | nil=>intro j;rfl
 | cons q l ih=>intro j;exact ih _
theorem QiB (l:List (Int×Int))(p:Int×Int):∀j,Qdl j (l++[p])=Qdl j l++(uvF 9 (p.1 - QmM j l).toNat++uvF 9 (p.2 - p.1).toNat):=by
 induction l with
 | nil=>intro j;simp [Qdl,QmM]
 | cons q l ih=>
  intro j;show uvF 9 _++uvF 9 _++Qdl _ (l++[p])=(uvF 9 _++uvF 9 _++Qdl _ l)++_;rw [ih];simp only [List.append_assoc];rfl
theorem QfZ {α:Type}(l:List α)(d:α){k:Nat}(h:k<l.length):l.take (k+1)=l.take k++[l.getD k d]:=by
 rw [List.take_add_one];simp [List.getD,h]
theorem Qj2 (l:List (Int×Int)):∀k,k<=l.length ->spK l k=Qdl 1 (l.take k)/\ loK l k=QmM 1 (l.take k)
 | 0,_=>by simp [spK,Qdl,loK,QmM]
 | k+1,h=>by
  obtain⟨j,m⟩:=Qj2 l k (by omega);rw [QfZ l (0,0) (by omega),QiB,QiC];refine⟨?_,rfl⟩;simp only [spK];rw [j,m];rfl
theorem Qke (l:List (Int×Int)):QjM l=uvF 9 l.length++Qdl 1 l:=by
 unfold QjM;rw [(Qj2 l l.length zL).1,List.take_length]
theorem Qka (g g':List (Int×List (Int×Int))):Qfu (g++g')=Qfu g++Qfu g':=by
 induction g with
 | nil=>rfl
 | cons p g ih=>
  show uvF 9 _++uvF 9 _++Qdl 1 _++Qfu (g++g')=(uvF 9 _++uvF 9 _++Qdl 1 _++Qfu g)++Qfu g';rw [ih];simp only [List.append_assoc]
theorem Qhw (L:Int ->List (Int×Int))(ks:List Int):∀k,k<=ks.length ->Qfw L ks k=Qfu ((ks.take k).map fun r=>(r,L r))
 | 0,_=>by simp [Qfw,Qfu]
 | k+1,h=>by
  rw [QfZ ks 0 (by omega),List.map_append,Qka,<- Qhw L ks k (by omega)];simp only [Qfw,QmF,Qke,List.map_cons,List.map_nil,Qfu,List.append_nil,List.append_assoc]
def QhO (L:Int ->List (Int×Int)):List (Int×List (Int×Int)):=(KS L 8).map fun r=>(r,L r)
theorem Qhv (L:Int ->List (Int×Int)):QdR L=QjZ (QhO L):=by
 unfold QdR QjZ;rw [Qhw L (KS L 8) _ zL,List.take_length];simp [QhO]
theorem Qjh:∀(l:List (Int×Int)) (least:Int),okS least l ->1<=least ->Srt l/\∀p∈l,least<=p.1
 | [],_,_,_=>⟨⟨List.Pairwise.nil,fun p j=>by cases j⟩,fun p j=>by cases j⟩
 | q::l,least,⟨o1,o2,o3,o4⟩,h1=>by
  obtain⟨k,m⟩:=Qjh l (q.2+2) o4 (by omega);refine⟨⟨List.pairwise_cons.2 ⟨fun p j=>by have:=m p j;omega,k.1⟩,fun p j=> ?_⟩,fun p j=> ?_⟩
  ·rcases List.mem_cons.1 j with rfl|j
   ·exact⟨by omega,o2,o3⟩
   ·exact k.2 p j
  ·rcases List.mem_cons.1 j with rfl|j
   ·exact o1
   ·have:=m p j;omega
theorem Qj5:∀(l:List (Int×Int)) (least:Int),Srt l ->(∀p∈l,least<=p.1) ->okS least l
 | [],_,_,_=>trivial
 | q::l,least,h,h1=>by
  have j:=h.2 q List.mem_cons_self;obtain⟨k,m⟩:=List.pairwise_cons.1 h.1;exact⟨h1 q List.mem_cons_self,j.2.1,j.2.2,Qj5 l _ ⟨m,fun p hp=>h.2 p (List.mem_cons_of_mem _ hp)⟩ (fun p hp=>by have:=k p hp;omega)⟩
def Qa7 (g:List (Int×List (Int×Int))):List Rn:=g.flatMap fun p=>tag p.1 p.2
theorem QhM (p:Int×List (Int×Int))(g:List (Int×List (Int×Int))):Qa7 (p::g)=tag p.1 p.2++Qa7 g:=by simp [Qa7]
theorem Qet (L:Int ->List (Int×Int)):Qa7 (QhO L)=Qdm L 8:=by
 unfold Qa7 QhO Qdm;rw [List.flatMap_map]
def lkG:List (Int×List (Int×Int)) ->Int ->List (Int×Int)
 | [],_=>[]
 | p::g,r=>if p.1=r then p.2 else lkG g r
theorem QdM:∀(g:List (Int×List (Int×Int))) (before left:Int),okR before left g ->∀r,Srt (lkG g r)/\ (lkG g r≠[] ->before<r/\ 0<=r/\ r<=7)/\ (r∈g.map Prod.fst↔lkG g r≠[])
 | [],_,_,_,r=>⟨⟨List.Pairwise.nil,fun p hp=>by cases hp⟩,fun h=>absurd rfl h,by simp [lkG]⟩
 | p::g,before,left,⟨o1,o2,o3,o4,o5,o6,o7⟩,r=>by
  obtain⟨k,m,q⟩:=QdM g p.1 _ o7 r;by_cases e:p.1=r
  ·have j:lkG (p::g) r=p.2:=if_pos e;rw [j];exact⟨(Qjh _ 1 o6 (by omega)).1,fun _=>by omega,by simp [e,o4]⟩
  ·have j:lkG (p::g) r=lkG g r:=if_neg e;rw [j];refine⟨k,fun h=>by have:=m h;omega,?_⟩;rw [List.map_cons,List.mem_cons,q];constructor
   ·rintro(h|h)
    ·exact absurd h.symm e
    ·exact h
   ·exact .inr
theorem Qds:∀(g:List (Int×List (Int×Int))) (before left:Int),okR before left g ->(g.map Prod.fst).Pairwise (fun x y=>x<y)/\∀x∈g.map Prod.fst,before<x
 | [],_,_,_=>⟨List.Pairwise.nil,fun x j=>by cases j⟩
 | p::g,before,left,⟨o1,o2,o3,o4,o5,o6,o7⟩=>by
  obtain⟨m,k⟩:=Qds g p.1 _ o7;refine⟨List.pairwise_cons.2 ⟨k,m⟩,fun x j=> ?_⟩;rcases List.mem_cons.1 j with rfl|j
  ·exact o1
  ·have:=k x j;omega
theorem Qje:∀(xs ys:List Int),xs.Pairwise (fun x y=>x<y) ->ys.Pairwise (fun x y=>x<y) ->(∀x,x∈xs↔x∈ys) ->xs=ys
 | [],[],_,_,_=>rfl
 | [],b::s,_,_,h=>by have:=(h b).2 List.mem_cons_self;cases this
 | a::t,[],_,_,h=>by have:=(h a).1 List.mem_cons_self;cases this
 | a::t,b::s,hx,hy,h=>by
  obtain⟨k,q⟩:=List.pairwise_cons.1 hx;obtain⟨m,r⟩:=List.pairwise_cons.1 hy;have e:a=b:=by
   rcases List.mem_cons.1 ((h a).1 List.mem_cons_self) with e|e
   ·exact e
   ·rcases List.mem_cons.1 ((h b).2 List.mem_cons_self) with j|j
    ·exact j.symm
    ·have:=k b j;have:=m a e;omega
  subst e;congr 1;refine Qje t s q r (fun x=>⟨fun hm=> ?_,fun hm=> ?_⟩)
  ·rcases List.mem_cons.1 ((h x).1 (List.mem_cons_of_mem _ hm)) with e|e
   ·have:=k x hm;omega
   ·exact e
  ·rcases List.mem_cons.1 ((h x).2 (List.mem_cons_of_mem _ hm)) with e|e
   ·have:=m x hm;omega
   ·exact e
theorem Qlt:∀(g:List (Int×List (Int×Int))) (before left:Int),okR before left g ->(g.map Prod.fst).map (fun r=>(r,lkG g r))=g
 | [],_,_,_=>rfl
 | p::g,before,left,⟨o1,o2,o3,o4,o5,o6,o7⟩=>by
  have k:=Qlt g p.1 _ o7;have j:=(Qds g p.1 _ o7).2;rw [List.map_cons,List.map_cons];have e:lkG (p::g) p.1=p.2:=if_pos rfl;rw [e];congr 1;refine Eq.trans (List.map_congr_left (fun r hm=> ?_)) k;have:lkG (p::g) r=lkG g r:=if_neg (by have:=j r hm;omega);rw [this]
theorem Qkj {g:List (Int×List (Int×Int))}{left:Int}(h:okR (-1) left g):QhO (lkG g)=g:=by
 have e:KS (lkG g) 8=g.map Prod.fst:=by
  refine Qje _ _ (Qin _ 8) (Qds g _ _ h).1 (fun x=> ?_);obtain⟨_,k,m⟩:=QdM g _ _ h x;rw [Qdb,m];constructor
  ·rintro⟨_,_,c⟩ e;rw [e] at c;cases c
  ·intro j;have:=k j;exact⟨by omega,by omega,by cases hl:lkG g x with|nil=>exact absurd hl j|cons _ _=>rfl⟩
 unfold QhO;rw [e];exact Qlt g _ _ h
theorem QfB:∀(g:List (Int×List (Int×Int))) (before left:Int),okR before left g ->0<=left ->((Qa7 g).length:Int)<=left
 | [],_,_,_,h0=>by simpa [Qa7] using h0
 | p::g,before,left,⟨o1,o2,o3,o4,o5,o6,o7⟩,h0=>by
  have j:=QfB g p.1 _ o7 (by omega);rw [QhM,List.length_append];simp only [tag,List.length_map] at*;omega
def lR (l:List Rn)(i:Nat):Int:=(l.getD i (0,0,0)).1
def lF (l:List Rn)(i:Nat):Int:=(l.getD i (0,0,0)).2.1
def lT (l:List Rn)(i:Nat):Int:=(l.getD i (0,0,0)).2.2
theorem QdA (l:List Rn):flat (lR l) (lF l) (lT l) l.length=l:=by
 refine List.ext_getElem (by simp [flat]) (fun i h1 h2=> ?_);simp [flat,lR,lF,lT,List.getD,h2]
theorem Qjj {l:List Rn}(h:QbT l):Qeg (lR l) (lF l) (lT l) l.length:=by
 intro i k;have e:∀j,(hj:j<l.length) ->l.getD j (0,0,0)=l[j]:=fun j hj=>by simp [List.getD,hj]
 refine⟨?_,fun h0=> ?_⟩
 ·have:=h.2 _ (List.getElem_mem k);rw [<- e i k] at this;exact QbC this
 ·have:=List.pairwise_iff_getElem.1 h.1 (i - 1) i (by omega) k (by omega);rw [<- e i k,<- e (i - 1) (by omega)] at this;unfold QaC;exact decide_eq_true this
theorem QkE {l l':List (Int×Int)}(h:Srt l)(h':Srt l')(he:∀x,In l x↔In l' x):l=l':=by
 have:=uniq (QgN h (Int.le_refl 0) (by omega)) (QgN h' (Int.le_refl 0) (by omega)) (fun r x=>by rw [QjD,QjD,he]);unfold tag at this;have v:∀(a b:List (Int×Int)),a.map (fun p=>((0:Int),p.1,p.2))=b.map (fun p=>((0:Int),p.1,p.2)) ->a=b:=by
  intro a;induction a with
  | nil=>intro b j;cases b with|nil=>rfl|cons _ _=>simp at j
  | cons p a ih=>
   intro b j;cases b with
   | nil=>simp at j
   | cons q b=>
    rw [List.map_cons,List.map_cons] at j;injection j with h1 h2;have k:p=q:=by
     have m:=congrArg (fun z:Rn=>z.2.1) h1;have u:=congrArg (fun z:Rn=>z.2.2) h1;exact Prod.ext m u
    rw [k,ih b h2]
 exact v _ _ this
theorem QcR {g:List (Int×List (Int×Int))}(h:okR (-1) 1000 g):
  QcL (lR (Qa7 g)) (lF (Qa7 g)) (lT (Qa7 g)) (Qa7 g).length=true/\ Lk (lR (Qa7 g)) (lF (Qa7 g)) (lT (Qa7 g)) (Qa7 g).length=lkG g/\ QdR (lkG g)=QjZ g/\ Qdm (lkG g) 8=Qa7 g:=by
 have k:∀r,Srt (lkG g r):=fun r=>(QdM g _ _ h r).1;have q:=Qkj h;have j:Qdm (lkG g) 8=Qa7 g:=by rw [<- Qet,q]
 have y:QbT (Qa7 g):=by rw [<- j];exact(QdQ k 8 zL).1
 have u:=Qjj y;have z:=QfB g _ _ h (by omega);refine⟨Qam.2 ⟨u,by omega⟩,funext fun r=> ?_,by rw [Qhv,q],j⟩;refine QkE (Qdd _ u r).1 (k r) (fun x=> ?_);rw [<- QeQ,QdA,<- j,(QdQ k 8 zL).2.1];constructor
 ·rintro⟨_,_,v⟩;exact v
 ·intro m;have:=(QdM g _ _ h r).2.1 (fun e=>by rw [e] at m;exact Qim m);exact⟨by omega,by omega,m⟩
theorem Qly (L:Int ->List (Int×Int)):∀(ks:List Int) (before left:Int),ks.Pairwise (fun x y=>x<y) ->(∀r∈ks,before<r/\ 0<=r/\ r<=7/\ L r≠[]/\ Srt (L r)) ->((ks.flatMap fun r=>tag r (L r)).length:Int)<=left ->okR before left (ks.map fun r=>(r,L r))
 | [],_,_,_,_,_=>trivial
 | k::ks,before,left,hp,ha,hl=>by
  obtain⟨g,t⟩:=List.pairwise_cons.1 hp;obtain⟨m,q,u,v,j⟩:=ha k List.mem_cons_self;rw [List.flatMap_cons,List.length_append] at hl;have o:(tag k (L k)).length=(L k).length:=by simp [tag]
  refine⟨m,q,u,v,by show (((L k).length:Nat):Int)<=left;omega,Qj5 _ _ j (fun p hp=>(j.2 p hp).1),Qly L ks k _ t (fun r hr=> ?_) ?_⟩
  ·obtain⟨_,z,b3,b4,h⟩:=ha r (List.mem_cons_of_mem _ hr);exact⟨g r hr,z,b3,b4,h⟩
  ·show _<=left - (((L k).length:Nat):Int);omega
theorem QhL {R F T:Nat ->Int}{n:Nat}(h:QcL R F T n=true):okR (-1) 1000 (QhO (Lk R F T n))/\ QjZ (QhO (Lk R F T n))=QdR (Lk R F T n)/\ Qa7 (QhO (Lk R F T n))=flat R F T n:=by
 obtain⟨k,y⟩:=Qam.1 h;have j:∀r,Srt (Lk R F T n r):=fun r=>(Qdd n k r).1;have q:Qdm (Lk R F T n) 8=flat R F T n:=by
  refine uniq (QdQ j 8 zL).1 (Qbv n k) (fun r x=> ?_);rw [QeQ,(QdQ j 8 zL).2.1];constructor
  ·rintro⟨_,_,v⟩;exact v
  ·intro m;have:=Qip n k r (fun e=>by rw [e] at m;exact Qim m);exact⟨by omega,by omega,m⟩
 refine⟨Qly _ _ _ _ (Qin _ 8) (fun r hr=> ?_) ?_,(Qhv _).symm,by rw [Qet,q]⟩
 ·obtain⟨z,g,u⟩:=(Qdb _ 8 r).1 hr;exact⟨by omega,by omega,by omega,(fun e=>by rw [e] at u;cases u),j r⟩
 ·have:(Qdm (Lk R F T n) 8).length=n:=by rw [q];simp [flat]
  unfold Qdm at this;omega
variable {EX : Nat -> Option Value}
theorem QaY.toR {w:World}{bm n:Nat}{D:DataW Value}{G:Int ->Value}{L:Int ->List (Int×Int)}(h:QaY w bm n D G L):Qdk w bm n D G L:=⟨h.own,h.at',h.has',fun r=>Qh7 (h.rows r)⟩
theorem Qhp:∀(g:List (Int×List (Int×Int))) (L0:Int ->List (Int×Int)) (r:Int),(g.map Prod.fst).Pairwise (fun x y=>x<y) ->g.foldl (fun L p=>upd L p.1 p.2) L0 r=if r∈g.map Prod.fst then lkG g r else L0 r
 | [],L0,r,_=>by simp
 | p::g,L0,r,h=>by
  obtain⟨q,u⟩:=List.pairwise_cons.1 h;rw [List.foldl_cons,Qhp g _ r u];by_cases e:r=p.1
  ·subst e;rw [if_neg (fun j=>by have:=q _ j;omega),Qay,if_pos (by simp)];exact(if_pos rfl).symm
  ·have m:lkG (p::g) r=lkG g r:=if_neg (fun e3=>e e3.symm);rw [Qao _ _ e,m];by_cases j:r∈g.map Prod.fst
   ·rw [if_pos j];exact(if_pos (List.mem_cons_of_mem _ j)).symm
   ·rw [if_neg j];exact(if_neg (fun h3=>by rcases List.mem_cons.1 h3 with k|k;exact e k;exact j k)).symm
theorem Qlu {g:List (Int×List (Int×Int))}{before left:Int}(h:okR before left g):lkS g=lkG g:=by
 funext r;unfold lkS;rw [Qhp g _ r (Qds g _ _ h).1];split
 ·rfl
 ·rename_i hm;have:=(QdM g _ _ h r).2.2;cases e:lkG g r with
  | nil=>rfl
  | cons q t=>exact absurd (this.2 (by rw [e];simp)) hm
theorem Qg6:∀(g:List (Int×List (Int×Int))) (before left:Int),okR before left g ->0<=left ->∀r,((lkG g r).length:Int)<=left
 | [],_,_,_,h0,r=>by simpa [lkG] using h0
 | p::g,before,left,⟨o1,o2,o3,o4,o5,o6,o7⟩,h0,r=>by
  have j:=Qg6 g p.1 _ o7 (by omega) r;by_cases e:p.1=r
  ·rw [show lkG (p::g) r=p.2 from if_pos e];exact o5
  ·rw [show lkG (p::g) r=lkG g r from if_neg e];omega
noncomputable def rdC (f:Nat ->Int)(n:Nat)(x:Int):Option (List (Int×List (Int×Int))×Nat):=(rdI f n x 8).bind (fun a=>QaB f n a.1 (-1) 1000 a.2)
theorem QgD (f:Nat ->Int)(n p:Nat):rdC f n (p:Int)=QhZ f n p:=by unfold rdC QhZ;rw [Qa4]
theorem QnN {f:Nat ->Int}(hf:Byt f){n:Nat}{x:Int}{g:List (Int×List (Int×Int))}{x':Nat}(h:rdC f n x=some (g,x')):0<=x/\ x<=n/\ okR (-1) 1000 g:=by
 have j:0<=x:=by
  rcases Int.lt_or_le x 0 with j|j
  ·unfold rdC rdI at h;rw [if_neg (by omega)] at h;cases h
  ·exact j
 obtain⟨p,rfl⟩:∃p:Nat,x=(p:Int):=⟨x.toNat,by omega⟩;rw [QgD] at h;have m:p<=n:=by
  unfold QhZ at h;obtain⟨a,k,_⟩:=Option.bind_eq_some_iff.1 h;have:=(Qa8 hf).1 (show rd f n p 8=some (a.1,a.2) from k);omega
 exact⟨j,by omega,((QdS hf m).1 h).1⟩
theorem QoP (cb B:Nat)(a:Option Addr)(n c:Nat)(x:Int)(f:Nat ->Int)(aT aS aL aE:Addr)(w:World)(hn:n<=1048576)(hf:Byt f)(hcur:Cur EX w cb a n c x)(hs:Seg w a n f)(hab:∀y,a=some y ->y.block≠cb)(hE:QcK w B aT aS aL aE)(hBc:B<=cb):
  Calls Tryz.prog 41 #[.pointer (some ⟨cb,0,none⟩)] w fun e w'=>w.grownBy w' (some cb)/\
   ((∃(g:List (Int×List (Int×Int))) (x' bm p:Nat) (D:DataW Value) (G:Int ->Value),rdC f n x=some (g,x')/\ e=.returned (.tuple #[.map (some bm),.nilIface])/\ Qdk w' bm p D G (lkS g)/\ Cur EX w' cb a n c (x':Int)/\ w.heap.size<=bm/\∀r g,(G r).ownBlock=some g ->w.heap.size<=g) \/
    (rdC f n x=none/\∃(pb:Nat) (u:Value) (y:Int),e=.returned (.tuple #[.map none,.iface 107 (.pointer (some ⟨pb,0,none⟩))])/\ w.heap.size<=pb/\ Plc w' pb x u/\ Cur EX w' cb a n c y)):=by
 have E:=hcur.lt;have Y:=@run_makeMap Tryz.prog;obtain⟨W,z⟩:∃W,w.alloc (.map #[] 0)=W:=⟨_,rfl⟩;have b:Below w.heap.size w W:=by rw [<- z];exact zO _ _
 have A:Hid (Qdk W w.heap.size 0 (.map []) (fun _=> .slice none 0 0) (fun _=>[])):=by rw [<- z];exact hid (QeV w).toR
 have i:=hid (Qju cb B w.heap.size a n c x f aT aS aL aE w W _ _ hn hf (hcur.below b E) hs hab hE hBc E zL (Qag (Qbo w (some cb)) b) A.out (fun r g hg=>by cases hg));obtain⟨H,I,J,_⟩:=hcur;clear hs hE A b;go_enter Tryz.func41,Tryz.ntmps41;go_wp2_with fail;try rw [z]
 clear z Y;refine i.mono ?_;rintro e w1 ⟨k,⟨g,Q,p,D,G,m,rfl,O,j,M⟩|⟨m,t,v,y,rfl,j⟩⟩
 ·have o:=hid (show rdC f n x=some (g,Q) from m);have h:=hid k;have q:=hid j;have V:=hid O;have U:=hid M;clear k m j O i M;go_wp2_with fail;go_ret2;exact⟨h.out,.inl ⟨g,Q,_,p,D,G,o.out,rfl,V.out,q.out,Nat.le_refl _,U.out⟩⟩
 ·have o:=hid (show rdC f n x=none from m);have Z:=k.size;have h:=hid k;have q:=hid j;clear k m j i;go_wp2_with fail;go_ret2;have s:Below w1.heap.size w1 (w1.alloc (.cells #[.string {data:=#[99,111,110,116,101,120,116]},.int .i64 x,.iface t v] 109)):=zO _ _;exact⟨Qag h.out s,.inr ⟨o.out,w1.heap.size,.iface t v,_,rfl,Z,⟨by simp,by simp,by simp⟩,q.below s q.lt⟩⟩
theorem QiG {l:List Lf}{k:Nat}(h:k<l.length):l.take (k+1)=l.take k++[gL l k]:=by
 rw [List.take_add_one];simp [gL,List.getD,h]
theorem Qep (l:List Lf)(p:List ByteArray)(y:Ky):∀k,k<=l.length ->dsK l p y k=(l.take k).filter fun z=>yes (nx p z=some y)
 | 0,_=>by simp [dsK]
 | k+1,h=>by
  rw [QiG (by omega),List.filter_append,<- Qep l p y k (by omega)];by_cases e:nx p (gL l k)=some y
  ·rw [Qb4 e];simp [Qal e]
  ·rw [QbR e];simp [Qaj e]
noncomputable def kF (p:List ByteArray):List Ky ->List Lf ->List Ky
 | acc,[]=>acc
 | acc,z::l=>kF p (match nx p z with|none=>acc|some y=>if yes (acc.getLast? =some y)=true then acc else acc++[y]) l
theorem QfF (p:List ByteArray):∀(l m:List Lf) (acc:List Ky),kF p acc (l++m)=kF p (kF p acc l) m
 | [],_,_=>rfl
 | z::l,m,acc=>by rw [List.cons_append];simp only [kF];exact QfF p l m _
theorem Qn2 (l:List Lf)(p:List ByteArray):∀k,k<=l.length ->kS l p k=kF p [] (l.take k)
 | 0,_=>by simp [kS,kF]
 | k+1,h=>by
  rw [QiG (by omega),QfF,<- Qn2 l p k (by omega)];cases e:nx p (gL l k) with
  | none=>rw [Qcu e];simp only [kF,e]
  | some y=>rw [Qcv e];simp only [kF,e]
theorem Qgz {p:List ByteArray}:∀{l:List Lf} {acc:List Ky},(∀z∈l,nx p z=none) ->kF p acc l=acc
 | [],_,_=>rfl
 | z::l,acc,h=>by
  unfold kF;rw [h z List.mem_cons_self];exact Qgz (fun x hx=>h x (List.mem_cons_of_mem _ hx))
theorem QiS {p:List ByteArray}{y:Ky}:∀{l:List Lf} {acc:List Ky},acc.getLast? =some y ->(∀z∈l,nx p z=some y) ->kF p acc l=acc
 | [],_,_,_=>rfl
 | z::l,acc,ha,h=>by
  unfold kF;rw [h z List.mem_cons_self];simp only [Qal ha,if_true];exact QiS ha (fun x hx=>h x (List.mem_cons_of_mem _ hx))
theorem Qn1 {p:List ByteArray}{y:Ky}{l:List Lf}{acc:List Ky}(hl:l≠[])(ha:acc.getLast? ≠some y)(h:∀z∈l,nx p z=some y):kF p acc l=acc++[y]:=by
 cases l with
 | nil=>exact absurd rfl hl
 | cons z l=>
  unfold kF;rw [h z List.mem_cons_self];simp only [Qaj ha];exact QiS (by simp) (fun x hx=>h x (List.mem_cons_of_mem _ hx))
abbrev Gr3:=Ky×List Lf×List Int
theorem QfG {p:List ByteArray}:∀{G:List Gr3} {acc:List Ky},(G.map Prod.fst).Pairwise (fun x y=>Qb7 x y<0) ->(∀g∈G,g.2.1≠[]/\∀z∈g.2.1,nx p z=some g.1) ->(∀y,acc.getLast? =some y ->∀g∈G,Qb7 y g.1<0) ->kF p acc (G.flatMap fun g=>g.2.1)=acc++G.map Prod.fst
 | [],acc,_,_,_=>by simp [kF]
 | g::G,acc,h1,h2,h3=>by
  rw [List.flatMap_cons,QfF];rw [List.map_cons,List.pairwise_cons] at h1;obtain⟨k,m⟩:=h1;have j:=h2 g List.mem_cons_self;rw [Qn1 j.1 (fun e=>by have:=h3 _ e g List.mem_cons_self;rw [QaF.key.irr] at this;omega) j.2];rw [QfG m (fun x hx=>h2 x (List.mem_cons_of_mem _ hx)) (fun y hy x hx=>by
   simp at hy;subst hy;exact k x.1 (List.mem_map.2 ⟨x,hx,rfl⟩))]
  simp
def EnT:Nat ->List ByteArray ->List Lf ->List Int ->Prop
 | 0,_,_,_=>False
 | d+1,p,B,U=>∃G:List Gr3,B=G.flatMap (fun g=>g.2.1)/\ U=uvF 9 G.length++G.flatMap (fun g=>Qae g.1.1++([g.1.2]++g.2.2))/\ (G.map Prod.fst).Pairwise (fun x y=>Qb7 x y<0)/\∀g∈G,(g.2.1≠[]/\∀z∈g.2.1,nx p z=some g.1)/\ (if g.1.2=3 then EnT d (p++[g.1.1]) g.2.1 g.2.2 else g.2.2=mB g.2.1 g.1.2)
theorem Qlr {x y:Ky}(h:Qb7 x y<0):x≠y:=fun e=>by rw [e,QaF.key.irr] at h;omega
theorem Qc8 {p:List ByteArray}{y:Ky}{l:List Lf}(h:∀z∈l,nx p z≠some y):(l.filter fun z=>yes (nx p z=some y))=[]:=by
 rw [List.filter_eq_nil_iff];intro z j;rw [Qaj (h z j)];simp
theorem Qkb {p:List ByteArray}{y:Ky}{l:List Lf}(h:∀z∈l,nx p z=some y):(l.filter fun z=>yes (nx p z=some y))=l:=by
 rw [List.filter_eq_self];intro z j;exact Qal (h z j)
theorem Qdp {G:List Gr3}{z:Lf}(h:z∈G.flatMap fun g=>g.2.1):∃g∈G,z∈g.2.1:=by simpa using h
theorem QkS:∀(d:Nat) (p:List ByteArray) (B:List Lf) (U:List Int) (A C:List Lf),EnT d p B U ->(∀z∈A,nx p z=none) ->(∀z∈C,nx p z=none) ->U=tB (A++(B++C)) d p
 | 0,_,_,_,_,_,h,_,_=>h.elim
 | d+1,p,B,U,A,C,⟨G,hB,hU,hk,hG⟩,hA,hC=>by
  obtain⟨l,v⟩:∃l,A++(B++C)=l:=⟨_,rfl⟩;rw [v,Qfp];have M:kS l p l.length=G.map Prod.fst:=by
   rw [Qn2 l p _ zL,List.take_length,<- v,QfF,Qgz hA,QfF,hB,QfG hk (fun g hg=>(hG g hg).1) (fun y hy=>by simp at hy),Qgz hC];simp
  rw [M,List.length_map,List.flatMap_map,hU];congr 1;refine Qb8 (fun g hg=> ?_);obtain⟨t,o,Q⟩:=List.append_of_mem hg;subst Q;have i:=hk;rw [List.map_append,List.map_cons,List.pairwise_append,List.pairwise_cons] at i;obtain⟨_,⟨V,_⟩,Y⟩:=i;have s:∀z∈t.flatMap (fun g=>g.2.1),nx p z≠some g.1:=fun z hz e=>by
   obtain⟨j,k,r⟩:=Qdp hz;have:=(hG j (by simp [k])).1.2 z r;rw [this] at e;exact Qlr (Y j.1 (List.mem_map.2 ⟨j,k,rfl⟩) g.1 List.mem_cons_self) (Option.some.inj e)
  have E:∀z∈o.flatMap (fun g=>g.2.1),nx p z≠some g.1:=fun z hz e=>by
   obtain⟨j,k,r⟩:=Qdp hz;have:=(hG j (by simp [k])).1.2 z r;rw [this] at e;exact Qlr (V j.1 (List.mem_map.2 ⟨j,k,rfl⟩)) (Option.some.inj e).symm
  have b:l=(A++t.flatMap fun g=>g.2.1)++(g.2.1++((o.flatMap fun g=>g.2.1)++C)):=by
   rw [<- v,hB,List.flatMap_append,List.flatMap_cons];simp
  unfold kB;congr 2;have q:=(hG g hg).2;by_cases u:g.1.2=3
  ·rw [if_pos u] at q ⊢;have O:g.1=(g.1.1,3):=by rw [<- u]
   have m:∀z,nx p z≠some g.1 ->nx (p++[g.1.1]) z=none:=fun z hz=>by
    cases e:nx (p++[g.1.1]) z with
    | none=>rfl
    | some y=>exact absurd (by rw [O];exact QcC.2 (by rw [e];simp)) hz
   rw [b];refine QkS d (p++[g.1.1]) g.2.1 g.2.2 _ _ q (fun z hz=>m z ?_) (fun z hz=>m z ?_)
   ·rcases List.mem_append.1 hz with h|h
    ·rw [hA z h];simp
    ·exact s z h
   ·rcases List.mem_append.1 hz with h|h
    ·exact E z h
    ·rw [hC z h];simp
  ·rw [if_neg u] at q ⊢;rw [q,Qep l p g.1 _ zL,List.take_length,b,List.filter_append,List.filter_append,List.filter_append,List.filter_append];rw [Qc8 (l:=A) (fun z hz=>by rw [hA z hz];simp),Qc8 s,Qc8 E,Qc8 (l:=C) (fun z hz=>by rw [hC z hz];simp),Qkb (hG g hg).1.2];simp
end Go.Proofs.YtdeolligikjieaaGreatDoor
