import Derived.Test.YtdeolligikjieaaGreatDoorFkg20
import Derived.Test.YtdeolligikjieaaGreatDoorFkg10
import Derived.Test.YtdeolligikjieaaGreatDoorFkg17
import Derived.Test.YtdeolligikjieaaGreatDoorFkg13
import Derived.Test.YtdeolligikjieaaGreatDoorFkg16
import Derived.Test.YtdeolligikjieaaGreatDoorCards
import Derived.Test.YtdeolligikjieaaGreatDoorTie
import Derived.ChangeVars
import Derived.Stop.LaidTwo
import Derived.LaidHandle
import Derived.Deep.DeepHandedRow
import Derived.SevenTiedAt
set_option linter.unusedVariables false
set_option linter.unusedSimpArgs false
set_option maxRecDepth 100000
set_option maxHeartbeats 40000000
namespace Go.Proofs.YtdeolligikjieaaGreatDoor
open Go.ChangeShapes Go.WideShapes Go.ChangeAt Go.RowKit
theorem Qnb {f:Nat ->Int}(hf:Byt f){R F T:Nat ->Int}{m:Nat}{l:List Lf}(hst:Qbe R F T m l)(h4:(psB R F T m l).length<=4000)(hA:At f 0 (psB R F T m l)):∃g,gsR f (psB R F T m l).length=some (g,l)/\ Qa7 g=flat R F T m:=by
 obtain⟨n,k⟩:∃n,(psB R F T m l).length=n:=⟨_,rfl⟩;rw [k] at h4 ⊢;obtain⟨v,j,y⟩:=QhL hst.1;unfold psB at k hA;rw [List.length_append] at k;rw [At.app,Nat.zero_add] at hA;have h:QhZ f n 0=some (QhO (Lk R F T m),0+(QjZ (QhO (Lk R F T m))).length):=(QdS hf (Nat.zero_le _)).2 ⟨v,by rw [j];exact hA.1,rfl,by rw [j];omega⟩;refine⟨QhO (Lk R F T m),?_,y⟩;have z:(fun r q=>inB (lkS (QhO (Lk R F T m)) r) q q)=fun r q=>Qco R F T r q q m:=by
  rw [Qnn v,y];funext r q;rw [Bool.eq_iff_iff,Qgq,Qgq,QdA]
 unfold gsR;rw [if_neg (by omega),show ((0:Int))=((0:Nat):Int) from rfl,QgD,h];simp only [Option.bind_some];rw [z,j,Nat.zero_add];have u:tB l 9 []=tB l 8 []:=(QjC hst.2.2.1 7 [] rfl).symm;have t:=((Qe7 (n:=n) hf (Qnc hst.1) (x:=(QdR (Lk R F T m)).length) (x':=n) (l:=l)).2 ⟨⟨hst.2.2.1,hst.2.2.2,hst.2.1⟩,by rw [u];exact hA.2,by rw [u];omega,Nat.le_refl _⟩).1;rw [t];simp
theorem QgQ {R F T R' F' T':Nat ->Int}:∀n,(∀i,i<n ->R i=R' i/\ F i=F' i/\ T i=T' i) ->Lk R F T n=Lk R' F' T' n
 | 0,_=>rfl
 | n+1,h=>by
  show upd (Lk R F T n) (R n) (Lk R F T n (R n)++[(F n,T n)])=upd (Lk R' F' T' n) (R' n) (Lk R' F' T' n (R' n)++[(F' n,T' n)]);rw [QgQ n (fun i hi=>h i (by omega)),(h n (by omega)).1,(h n (by omega)).2.1,(h n (by omega)).2.2]
theorem ps0 {R F T:Nat ->Int}{m:Nat}{l:List Lf}{zs:List Int}(h:psZ R F T m l=(zs,0)):Qbe R F T m l/\ zs.length<=4000/\ psB R F T m l=zs:=by
 by_cases k:Qbe R F T m l
 ·by_cases j:(psB R F T m l).length<=4000
  ·rw [Qfh k j] at h;injection h with h1 h2;rw [h1] at j;exact⟨k,j,h1⟩
  ·rw [Qdt k j] at h;injection h with h1 h2;cases h2
 ·rw [Qhu k] at h;injection h with h1 h2;cases h2
theorem QhX {R F T:Nat ->Int}{m:Nat}{l:List Lf}{zs:List Int}{k:Int}(h:psZ R F T m l=(zs,k)):zs.length<=4000/\ Byt (fun i=>zs.getD i 0):=by
 have j:=QmB R F T m l;have q:=(QnJ R F T m l).byt;rw [h] at j q;exact⟨j,q⟩
theorem QeL {S:Sx}{zs:List Int}(h:psZ S.R S.F S.T S.n S.l=(zs,0)):∃g,gsR (fun i=>zs.getD i 0) zs.length=some (g,S.l)/\ Qa7 g=fS S:=by
 obtain⟨k,j,e⟩:=ps0 h;have:=Qnb (f:=fun i=>zs.getD i 0) (QhX h).2 k (by rw [e];exact j) (by rw [e];intro i m;rw [Nat.zero_add]);rw [e] at this;exact this
theorem Qi4 {A B:Sx}{za zb:List Int}(ha:psZ A.R A.F A.T A.n A.l=(za,0))(hb:psZ B.R B.F B.T B.n B.l=(zb,0)):za=zb↔EqS A B:=by
 constructor
 ·rintro rfl;obtain⟨g,r,u⟩:=QeL ha;obtain⟨y,m,v⟩:=QeL hb;rw [r] at m;injection m with e;injection e with j k;exact QiD.2 ⟨k,by rw [<- u,<- v,j]⟩
 ·rintro⟨j,k,q⟩;rw [<- (ps0 ha).2.2,<- (ps0 hb).2.2];unfold psB;rw [j,<- k,QgQ A.n q]
theorem QmK {za zb:List Int}(ha:Byt (fun i=>za.getD i 0))(hb:Byt (fun i=>zb.getD i 0)):Qeb (fun i=>za.getD i 0) 0 za.length=Qeb (fun i=>zb.getD i 0) 0 zb.length↔za=zb:=by
 constructor
 ·intro h;have j:=congrArg ByteArray.size h;rw [Qec,Qec] at j;have k:=congrArg Qa5 h;rw [Qb1 ha,Qb1 hb] at k;refine List.ext_getElem j (fun i hi hj=> ?_);have m:=congrArg (fun l=>l[i]?) k;simpa [hi,hj,List.getD] using m
 ·rintro rfl;rfl
open Go.Deep
def PtQ (zs:List Int)(k:Int)(w:World)(e:Ending)(w':World):Prop:=∃a c,e=.returned (.tuple #[.slice a zs.length c,.int .i64 k])/\ (zs.length<=c/\ c<=9223372036854775807)/\ Seg w' a zs.length (fun i=>zs.getD i 0)/\ (∀y,a=some y ->y.block<w'.heap.size)/\ Below w.heap.size w w'
theorem QmA {w:World}{B:Nat}{v:Value}{zs:List Int}(ho:Own w B v zs):∃a c,v=.slice a zs.length c/\ (zs.length<=c/\ c<=9223372036854775807)/\ Seg w a zs.length (fun i=>zs.getD i 0)/\∀y,a=some y ->y.block<w.heap.size:=by
 obtain⟨a,c,rfl,s⟩:=Own.any ho;refine⟨a,c,rfl,?_,s,fun y hy=> ?_⟩
 ·rcases ho.2 with ⟨j,q⟩|⟨g,cap,m,k,_,_,u,r,_⟩
  ·injection j with e1 j e3;omega
  ·injection k with e1 j e3;unfold maxLen at r;omega
 ·subst hy;rcases ho.2 with ⟨j,q⟩|⟨g,cap,m,k,_⟩
  ·injection j with e1 j e3;cases e1
  ·have h:=ho;rw [k] at h;injection k with e1 j e3;injection e1 with e1;subst e1;exact(World.ownsRow.lt h g rfl).2
theorem ptq {R F T:Nat ->Int}{n:Nat}{l:List Lf}{zs:List Int}{k:Int}{w w':World}{e:Ending}(hz:psZ R F T n l=(zs,k))(h:∃v zs k,e=.returned (.tuple #[v,.int .i64 k])/\ psZ R F T n l=(zs,k)/\ Own w' w.heap.size v zs/\ Below w.heap.size w w'):PtQ zs k w e w':=by
 obtain⟨v,g,z,rfl,j,y,u⟩:=h;rw [hz] at j;injection j with e1 e2;subst e1 e2;obtain⟨a,c,rfl,m,q,r⟩:=QmA y;exact⟨a,c,rfl,m,q,r,u⟩
section
variable {a x : Option Addr} {c d : Nat} {S : Sx} {zs : List Int} {k : Int} {w : World}
theorem QnL (hm:S.Sm)(hc:S.l.length<=c/\ c<=9223372036854775807)(hz:psZ S.R S.F S.T S.n S.l=(zs,k))(h:SCt w a x S):
  Calls Tryz.prog 5 #[.agg #[.slice a S.l.length c,.slice x S.n d]] w fun e w'=>PtQ zs k w e w':=
 (QfU a c S.l x S.n d S.R S.F S.T w hc.1 hc.2 hm.l1 hm.p1 hm.n1 h.lf h.lf.seg h.rn).mono fun _ _ h=>ptq hz h
theorem QnK (hm:S.Sm/\∀i,LfI (gL S.l i))(hz:psZ S.R S.F S.T S.n S.l=(zs,k))(h:SCt w a x S):
  Calls Tryz.prog 6 #[.agg #[.slice a S.l.length c,.slice x S.n d]] w fun e w'=>PtQ zs k w e w':=
 (QfE a c S.l x S.n d S.R S.F S.T w hm.1.l1 hm.1.p1 hm.2 hm.1.n1 h.lf.seg h.rn).mono fun _ _ h=>ptq hz h
end
section
variable {a x : Option Addr} {c d : Nat} {S : Sx} {zs : List Int} {k : Int} {w : World}
def bkS (S:Sx):Sx:=⟨S.l,(fS S).length,lR (fS S),lF (fS S),lT (fS S)⟩
theorem Qoq (S:Sx):EqS (bkS S) S:=QiD.2 ⟨rfl,QdA _⟩
theorem Qor (h:S.Sm):(bkS S).Sm:=⟨h.l1,h.p1,by show (fS S).length<=_;rw [Qca];exact h.n1⟩
theorem Qo2 {B:Nat}{aT aS aL aE:Addr}(hz:psZ S.R S.F S.T S.n S.l=(zs,0))(hc:zs.length<=c/\ c<=9223372036854775807)(hs:Seg w a zs.length (fun i=>zs.getD i 0))(hE:QcK w B aT aS aL aE)(hB:B<=w.heap.size)(hab:∀y,a=some y ->y.block<w.heap.size):
  Calls Tryz.prog 7 #[.slice a zs.length c] w fun e w'=>∃k q m r,e=.returned (.tuple #[.agg #[.slice k (bkS S).l.length q,.slice m (bkS S).n r],.int .i64 0])/\ SCt w' k m (bkS S)/\ Below w.heap.size w w':=by
 obtain⟨s,t⟩:=QhX hz;obtain⟨g,u,o⟩:=QeL hz;refine(Qkl B a zs.length c (fun i=>zs.getD i 0) aT aS aL aE w (by omega) hc.1 hc.2 t hs hE hB hab).mono ?_;rintro e w1 ⟨b,⟨p,l,k,q,m,r,j,rfl,h,z⟩|⟨j,rfl⟩⟩
 ·rw [u] at j;injection j with j;injection j with h1 h2;subst h1 h2;have v:=SOw.of (S:=⟨S.l,(Qa7 g).length,lR (Qa7 g),lF (Qa7 g),lT (Qa7 g)⟩) (h.low (Nat.le_succ _)) (FR.weak z (Nat.le_succ _)) rfl rfl rfl rfl b.size;rw [o] at v ⊢;exact⟨k,q,m,r,rfl,v.ct,b⟩
 ·rw [u] at j;cases j
end
theorem Qob {s1 s2:ByteArray}(h:s1≠s2):(s1.toList==s2.toList)=false:=by
 rw [beq_eq_false_iff_ne];intro e;rw [ByteArray.toList_eq,ByteArray.toList_eq] at e;have m:s1.data=s2.data:=Array.toList_inj.1 e;obtain⟨j⟩:=s1;obtain⟨k⟩:=s2;exact h (by rw [show j=k from m])
theorem QmJ {za zb:List Int}{A B:Sx}(ha:psZ A.R A.F A.T A.n A.l=(za,0))(hb:psZ B.R B.F B.T B.n B.l=(zb,0)):
  ((Qeb (fun i=>za.getD i 0) 0 za.length).toList==(Qeb (fun i=>zb.getD i 0) 0 zb.length).toList)=yes (EqS A B):=by
 by_cases h:EqS A B
 ·rw [Qal h,(Qi4 ha hb).2 h];simp
 ·rw [Qaj h];exact Qob (fun e=>h ((Qi4 ha hb).1 ((QmK (QhX ha).2 (QhX hb).2).1 e)))
theorem La.own:ownKnob Tryz.prog.godebug=none:=by kernel_rfl
theorem La.laidOut:laidOutB Tryz.prog=true:=by kernel_rfl
theorem La.gT:Tryz.prog.globalNamed "loop.example/s02772/impl.errTenth" =some 11:=by kernel_rfl
theorem La.gS:Tryz.prog.globalNamed "loop.example/s02772/impl.errShorter" =some 12:=by kernel_rfl
theorem La.gE:Tryz.prog.globalNamed "loop.example/s02772/impl.errEnds" =some 10:=by kernel_rfl
theorem La.tT:(Tryz.prog.globals[11]?).map (·.type)=some 54:=by kernel_rfl
theorem La.tS:(Tryz.prog.globals[12]?).map (·.type)=some 54:=by kernel_rfl
theorem La.tE:(Tryz.prog.globals[10]?).map (·.type)=some 54:=by kernel_rfl
theorem La.cellsS:Tryz.prog.cellsOf 278=1:=by kernel_rfl
theorem La.cells9:Tryz.prog.cellsOf 9=1:=by kernel_rfl
theorem La.star: "*" ++ "errors.errorString" = "*errors.errorString" :=by decide
theorem La.row (u:TypeId)(h:Tryz.prog.typeName? 3 u=some "*errors.errorString"):u=261:=
 typeName_ptr_named (nm:= "errors.errorString") (by rw [La.star];kernel_rfl) (by kernel_rfl) (by decide) u (by rw [La.star];exact h)
theorem Qap {P:Program}{x y:String×DataW Unit}{r:List (String×DataW Unit)}{w:World}(h:laidMet P (x::y::r) w):laidMet P (x::r) w:=by
 obtain⟨ps,M,i,E⟩:=h;obtain⟨n,d⟩:=x;obtain⟨V,d'⟩:=y;obtain⟨g,t,k,m,p,q,u,v,z,o,s,rfl⟩:=M;obtain⟨U,Z,O,Q,Y,j,_,_,_,_,A,rfl⟩:=s;refine⟨_++j,⟨g,t,k,m,p,j,u,v,z,o,A,rfl⟩,List.Nodup.sublist ?_ i,fun b off hm=>E b off ?_⟩
 ·exact(List.sublist_append_right _ j).append_left _
 ·rcases List.mem_append.1 hm with h|h
  ·exact List.mem_append_left _ h
  ·exact List.mem_append_right _ (List.mem_append_right _ h)
theorem QdF {tp:TypeId}{a b:Addr}{o:Option (Array Value)}(h1:o=some #[.iface tp (.pointer (some a))])(h2:o=some #[.iface tp (.pointer (some b))]):a=b:=by
 rw [h1] at h2;simpa using h2
theorem La.gM:Tryz.prog.globalNamed "loop.example/s02772/impl.errLimit" =some 4:=by kernel_rfl
theorem La.tM:(Tryz.prog.globals[4]?).map (·.type)=some 54:=by kernel_rfl
theorem La.gO:Tryz.prog.globalNamed "loop.example/s02772/impl.errOrder" =some 5:=by kernel_rfl
theorem La.tO:(Tryz.prog.globals[5]?).map (·.type)=some 54:=by kernel_rfl
theorem La.gN:Tryz.prog.globalNamed "loop.example/s02772/impl.errNoRuns" =some 9:=by kernel_rfl
theorem La.tN:(Tryz.prog.globals[9]?).map (·.type)=some 54:=by kernel_rfl
theorem Qii {P:Program}{W W':World}{n:String}{cs:Array Value}(h:W.var? P n=some cs)(hb:Below W.heap.size W W'):W'.var? P n=some cs:=by
 unfold World.var? at h ⊢;cases hg:P.globalNamed n with
 | none=>simp [hg] at h
 | some g=>
  simp only [hg,Option.bind_some] at h ⊢;have k:g<W.heap.size:=by
   rcases Nat.lt_or_ge g W.heap.size with j|j
   ·exact j
   ·simp [Array.getElem?_eq_none j] at h
  rw [hb.block g k];exact h
theorem openBytesC {H:Type}{enc:TypeId×Value ->H}{W:World}{r:Reach}{b0 base:Nat}{held:Bool}{v:Value}{d:DataW H}{p:List MemPlace}
  (hval:Value.okWide Tryz.prog W r b0 22 v) (h:DataW.Trod enc Tryz.prog W base (fun _=>true) held 22 v d p):
  ∃a n c f,v=.slice a n c/\ n<=9223372036854775807/\ Seg W a n f/\ Byt f/\ n<=c:=by
 obtain⟨q,y,k,rfl⟩:=okWide_slice Tryz.underlying22 hval;obtain⟨j,g⟩:∃j:List Int,(q=none/\ y=0/\ k=0/\ j=[]) \/∃x,q=some x/\ y<=k/\ k<=maxLen/\ j.length=k/\ (∀i,i<j.length ->W.cell? (x.add i)=some (.int .u8 (j.getD i 0)))/\∀n∈j,(Lit.int .u8 n).wf=true:=by
  obtain⟨Q,A⟩:=h;rcases open_ints Tryz.underlying22 Tryz.underlying5 (by kernel_rfl) A with ⟨m,_⟩|⟨x,l,c,O,m,_,u,E,z,_,b,M⟩
  ·simp [Value.cells] at m;obtain⟨rfl,rfl,rfl⟩:=m;exact⟨[],.inl ⟨rfl,rfl,rfl,rfl⟩⟩
  ·simp [Value.cells] at m;obtain⟨rfl,rfl,rfl⟩:=m;exact⟨O,.inr ⟨_,rfl,u,E,by first|exact z|simpa using z|omega,b,M⟩⟩
 obtain⟨s,o,u⟩:=Ql4 g;exact⟨q,y,k,_,rfl,u,s,o,by rcases g with ⟨_,t,U,_⟩|⟨_,_,t,_⟩<;>omega⟩
theorem La.g_x0:Tryz.prog.globalNamed "loop.example/s02772/impl.errTooLong" =some 0:=by kernel_rfl
theorem La.t_x0:(Tryz.prog.globals[0]?).map (·.type)=some 54:=by kernel_rfl
theorem La.g_x1:Tryz.prog.globalNamed "loop.example/s02772/impl.errBehind" =some 1:=by kernel_rfl
theorem La.t_x1:(Tryz.prog.globals[1]?).map (·.type)=some 54:=by kernel_rfl
theorem La.g_x2:Tryz.prog.globalNamed "loop.example/s02772/impl.errNoName" =some 7:=by kernel_rfl
theorem La.t_x2:(Tryz.prog.globals[7]?).map (·.type)=some 54:=by kernel_rfl
theorem La.g_x3:Tryz.prog.globalNamed "loop.example/s02772/impl.errKind" =some 6:=by kernel_rfl
theorem La.t_x3:(Tryz.prog.globals[6]?).map (·.type)=some 54:=by kernel_rfl
theorem La.g_x4:Tryz.prog.globalNamed "loop.example/s02772/impl.errDeep" =some 3:=by kernel_rfl
theorem La.t_x4:(Tryz.prog.globals[3]?).map (·.type)=some 54:=by kernel_rfl
theorem La.g_x5:Tryz.prog.globalNamed "loop.example/s02772/impl.errNoKeys" =some 2:=by kernel_rfl
theorem La.t_x5:(Tryz.prog.globals[2]?).map (·.type)=some 54:=by kernel_rfl
theorem La.g_x6:Tryz.prog.globalNamed "loop.example/s02772/impl.errNoLeaves" =some 8:=by kernel_rfl
theorem La.t_x6:(Tryz.prog.globals[8]?).map (·.type)=some 54:=by kernel_rfl
theorem La.g_x7:Tryz.prog.globalNamed "loop.example/s02772/impl.errUnknown" =some 13:=by kernel_rfl
theorem La.t_x7:(Tryz.prog.globals[13]?).map (·.type)=some 54:=by kernel_rfl
theorem La.g_x8:Tryz.prog.globalNamed "loop.example/s02772/impl.errTwice" =some 14:=by kernel_rfl
theorem La.t_x8:(Tryz.prog.globals[14]?).map (·.type)=some 54:=by kernel_rfl
theorem QeP {W:World}(h:laidMetH Tryz.prog [("loop.example/s02772/impl.errEnds",Rows.laid_loop_example_s02772_impl_errEnds),("loop.example/s02772/impl.errTenth",Rows.laid_loop_example_s02772_impl_errTenth),("loop.example/s02772/impl.errShorter",Rows.laid_loop_example_s02772_impl_errShorter),("loop.example/s02772/impl.errTooLong",Rows.laid_loop_example_s02772_impl_errTooLong),("loop.example/s02772/impl.errLimit",Rows.laid_loop_example_s02772_impl_errLimit),("loop.example/s02772/impl.errOrder",Rows.laid_loop_example_s02772_impl_errOrder),("loop.example/s02772/impl.errNoRuns",Rows.laid_loop_example_s02772_impl_errNoRuns),("loop.example/s02772/impl.errBehind",Rows.laid_loop_example_s02772_impl_errBehind),("loop.example/s02772/impl.errNoName",Rows.laid_loop_example_s02772_impl_errNoName),("loop.example/s02772/impl.errKind",Rows.laid_loop_example_s02772_impl_errKind),("loop.example/s02772/impl.errDeep",Rows.laid_loop_example_s02772_impl_errDeep),("loop.example/s02772/impl.errNoKeys",Rows.laid_loop_example_s02772_impl_errNoKeys),("loop.example/s02772/impl.errNoLeaves",Rows.laid_loop_example_s02772_impl_errNoLeaves),("loop.example/s02772/impl.errUnknown",Rows.laid_loop_example_s02772_impl_errUnknown),("loop.example/s02772/impl.errTwice",Rows.laid_loop_example_s02772_impl_errTwice)] W):∃y u q,QcK W W.heap.size y u q q:=by
 have r:laidMet Tryz.prog [("loop.example/s02772/impl.errEnds",Rows.laid_loop_example_s02772_impl_errEnds),("loop.example/s02772/impl.errTenth",Rows.laid_loop_example_s02772_impl_errTenth),("loop.example/s02772/impl.errShorter",Rows.laid_loop_example_s02772_impl_errShorter),("loop.example/s02772/impl.errTooLong",Rows.laid_loop_example_s02772_impl_errTooLong),("loop.example/s02772/impl.errLimit",Rows.laid_loop_example_s02772_impl_errLimit),("loop.example/s02772/impl.errOrder",Rows.laid_loop_example_s02772_impl_errOrder),("loop.example/s02772/impl.errNoRuns",Rows.laid_loop_example_s02772_impl_errNoRuns),("loop.example/s02772/impl.errBehind",Rows.laid_loop_example_s02772_impl_errBehind),("loop.example/s02772/impl.errNoName",Rows.laid_loop_example_s02772_impl_errNoName),("loop.example/s02772/impl.errKind",Rows.laid_loop_example_s02772_impl_errKind),("loop.example/s02772/impl.errDeep",Rows.laid_loop_example_s02772_impl_errDeep),("loop.example/s02772/impl.errNoKeys",Rows.laid_loop_example_s02772_impl_errNoKeys),("loop.example/s02772/impl.errNoLeaves",Rows.laid_loop_example_s02772_impl_errNoLeaves),("loop.example/s02772/impl.errUnknown",Rows.laid_loop_example_s02772_impl_errUnknown),("loop.example/s02772/impl.errTwice",Rows.laid_loop_example_s02772_impl_errTwice)] W:=h;obtain⟨q,y,_,_,cE,cT,k,H,o,b,_,_,_,_,_,_,B,I,K⟩:=laid_sentinels2 r La.gE La.tE La.gT La.tT Tryz.underlying54 La.row Tryz.underlying261 Tryz.underlying278 rfl rfl Tryz.underlying9 La.cellsS La.cells9;obtain⟨R,u,_,_,_,cS,_,G,C,i,_,_,_,_,_,_,X,_,J⟩:=laid_sentinels2 (Qap r) La.gE La.tE La.gS La.tS Tryz.underlying54 La.row Tryz.underlying261 Tryz.underlying278 rfl rfl Tryz.underlying9 La.cellsS La.cells9;obtain⟨T,S,_,_,_,_,_,_,F,D,_,_,_,_,_,_,P,_,_⟩:=laid_sentinels2 r.tail La.gT La.tT La.gS La.tS Tryz.underlying54 La.row Tryz.underlying261 Tryz.underlying278 rfl rfl Tryz.underlying9 La.cellsS La.cells9;have E:=Qap (Qap r);obtain⟨_,a_x0,_,_,_,_,_,_,_,v_x0,_⟩:=laid_sentinels2 E La.gE La.tE La.g_x0 La.t_x0 Tryz.underlying54 La.row Tryz.underlying261 Tryz.underlying278 rfl rfl Tryz.underlying9 La.cellsS La.cells9;have M:=Qap E;obtain⟨_,a_gM,_,_,_,_,_,_,_,v_gM,_⟩:=laid_sentinels2 M La.gE La.tE La.gM La.tM Tryz.underlying54 La.row Tryz.underlying261 Tryz.underlying278 rfl rfl Tryz.underlying9 La.cellsS La.cells9;have O:=Qap M;obtain⟨_,a_gO,_,_,_,_,_,_,_,v_gO,_⟩:=laid_sentinels2 O La.gE La.tE La.gO La.tO Tryz.underlying54 La.row Tryz.underlying261 Tryz.underlying278 rfl rfl Tryz.underlying9 La.cellsS La.cells9;have Q:=Qap O;obtain⟨_,a_gN,_,_,_,_,_,_,_,v_gN,_⟩:=laid_sentinels2 Q La.gE La.tE La.gN La.tN Tryz.underlying54 La.row Tryz.underlying261 Tryz.underlying278 rfl rfl Tryz.underlying9 La.cellsS La.cells9;have U:=Qap Q;obtain⟨_,a_x1,_,_,_,_,_,_,_,v_x1,_⟩:=laid_sentinels2 U La.gE La.tE La.g_x1 La.t_x1 Tryz.underlying54 La.row Tryz.underlying261 Tryz.underlying278 rfl rfl Tryz.underlying9 La.cellsS La.cells9;have V:=Qap U;obtain⟨_,a_x2,_,_,_,_,_,_,_,v_x2,_⟩:=laid_sentinels2 V La.gE La.tE La.g_x2 La.t_x2 Tryz.underlying54 La.row Tryz.underlying261 Tryz.underlying278 rfl rfl Tryz.underlying9 La.cellsS La.cells9;have Y:=Qap V;obtain⟨_,a_x3,_,_,_,_,_,_,_,v_x3,_⟩:=laid_sentinels2 Y La.gE La.tE La.g_x3 La.t_x3 Tryz.underlying54 La.row Tryz.underlying261 Tryz.underlying278 rfl rfl Tryz.underlying9 La.cellsS La.cells9;have Z:=Qap Y;obtain⟨_,a_x4,_,_,_,_,_,_,_,v_x4,_⟩:=laid_sentinels2 Z La.gE La.tE La.g_x4 La.t_x4 Tryz.underlying54 La.row Tryz.underlying261 Tryz.underlying278 rfl rfl Tryz.underlying9 La.cellsS La.cells9;have p:=Qap Z;obtain⟨_,a_x5,_,_,_,_,_,_,_,v_x5,_⟩:=laid_sentinels2 p La.gE La.tE La.g_x5 La.t_x5 Tryz.underlying54 La.row Tryz.underlying261 Tryz.underlying278 rfl rfl Tryz.underlying9 La.cellsS La.cells9;have s:=Qap p;obtain⟨_,a_x6,_,_,_,_,_,_,_,v_x6,_⟩:=laid_sentinels2 s La.gE La.tE La.g_x6 La.t_x6 Tryz.underlying54 La.row Tryz.underlying261 Tryz.underlying278 rfl rfl Tryz.underlying9 La.cellsS La.cells9;have A:=Qap s;obtain⟨_,a_x7,_,_,_,_,_,_,_,v_x7,_⟩:=laid_sentinels2 A La.gE La.tE La.g_x7 La.t_x7 Tryz.underlying54 La.row Tryz.underlying261 Tryz.underlying278 rfl rfl Tryz.underlying9 La.cellsS La.cells9;have L:=Qap A;obtain⟨_,a_x8,_,_,_,_,_,_,_,v_x8,_⟩:=laid_sentinels2 L La.gE La.tE La.g_x8 La.t_x8 Tryz.underlying54 La.row Tryz.underlying261 Tryz.underlying278 rfl rfl Tryz.underlying9 La.cellsS La.cells9;obtain rfl:=QdF o C;obtain rfl:=QdF b F;obtain rfl:=QdF i D;have z:∀{a:Addr} {c:Array Value} {t:TypeId},W.heap[a.block]? =some (.cells c t (0,0)) ->a.block<W.heap.size:=fun{a c t} hb=>by
  rcases Nat.lt_or_ge a.block W.heap.size with m|m
  ·exact m
  ·rw [Array.getElem?_eq_none m] at hb;cases hb
 have j:∀{g:Nat} {v:Value},W.cell? ⟨g,0,none⟩=some v ->g<W.heap.size:=fun{g v} hc=>by
  rcases Nat.lt_or_ge g W.heap.size with m|m
  ·exact m
  ·simp [World.cell?,Array.getElem?_eq_none m] at hc
 have l1:10<W.heap.size:=j (by simpa using World.var?_cell La.gE o 0);have l2:11<W.heap.size:=j (by simpa using World.var?_cell La.gT b 0);have l3:12<W.heap.size:=j (by simpa using World.var?_cell La.gS i 0);have l_x0:0<W.heap.size:=j (by simpa using World.var?_cell La.g_x0 v_x0 0);have l_gM:4<W.heap.size:=j (by simpa using World.var?_cell La.gM v_gM 0);have l_gO:5<W.heap.size:=j (by simpa using World.var?_cell La.gO v_gO 0);have l_gN:9<W.heap.size:=j (by simpa using World.var?_cell La.gN v_gN 0);have l_x1:1<W.heap.size:=j (by simpa using World.var?_cell La.g_x1 v_x1 0);have l_x2:7<W.heap.size:=j (by simpa using World.var?_cell La.g_x2 v_x2 0);have l_x3:6<W.heap.size:=j (by simpa using World.var?_cell La.g_x3 v_x3 0);have l_x4:3<W.heap.size:=j (by simpa using World.var?_cell La.g_x4 v_x4 0);have l_x5:2<W.heap.size:=j (by simpa using World.var?_cell La.g_x5 v_x5 0);have l_x6:8<W.heap.size:=j (by simpa using World.var?_cell La.g_x6 v_x6 0);have l_x7:13<W.heap.size:=j (by simpa using World.var?_cell La.g_x7 v_x7 0);have l_x8:14<W.heap.size:=j (by simpa using World.var?_cell La.g_x8 v_x8 0);have N:15<=W.heap.size:=by omega
 exact ⟨y, u, q, {
            gT:=by simpa using World.var?_cell La.gT b 0,
            gS:=by simpa using World.var?_cell La.gS i 0,
            gE:=by simpa using World.var?_cell La.gE o 0,
            nTS:=P,nTE:=B.symm,nSE:=X.symm,
            x0:=⟨_,by simpa using World.var?_cell La.g_x0 v_x0 0⟩,
            gM:=⟨_,by simpa using World.var?_cell La.gM v_gM 0⟩,
            gO:=⟨_,by simpa using World.var?_cell La.gO v_gO 0⟩,
            gN:=⟨_,by simpa using World.var?_cell La.gN v_gN 0⟩,
            x1:=⟨_,by simpa using World.var?_cell La.g_x1 v_x1 0⟩,
            x2:=⟨_,by simpa using World.var?_cell La.g_x2 v_x2 0⟩,
            x3:=⟨_,by simpa using World.var?_cell La.g_x3 v_x3 0⟩,
            x4:=⟨_,by simpa using World.var?_cell La.g_x4 v_x4 0⟩,
            x5:=⟨_,by simpa using World.var?_cell La.g_x5 v_x5 0⟩,
            x6:=⟨_,by simpa using World.var?_cell La.g_x6 v_x6 0⟩,
            x7:=⟨_,by simpa using World.var?_cell La.g_x7 v_x7 0⟩,
            x8:=⟨_,by simpa using World.var?_cell La.g_x8 v_x8 0⟩,
            bT:=⟨_,_,K⟩,bS:=⟨_,_,J⟩,bE:=⟨_,_,I⟩,
            lG:=N,lT:=z K,lS:=z J,lE:=z I}⟩
end Go.Proofs.YtdeolligikjieaaGreatDoor
