import Derived.Test.YtjdcfkmhmnblbaaGreatDoorFqg09
import Derived.Test.YtjdcfkmhmnblbaaGreatDoorFqg05
import Derived.Test.YtjdcfkmhmnblbaaGreatDoorFqg03
import Derived.Test.YtjdcfkmhmnblbaaGreatDoorFqg10
import Derived.Test.YtjdcfkmhmnblbaaGreatDoorFqg04
set_option linter.unusedVariables false
set_option linter.unusedSimpArgs false
set_option maxRecDepth 100000
set_option maxHeartbeats 40000000
namespace Go.Proofs.YtjdcfkmhmnblbaaGreatDoor
open Go.ChangeShapes Go.WideShapes Go.ChangeAt Go.RowKit Go.Maps
theorem Qfg (R F T:Nat ->Int)(r f t:Int):∀n,Qct R F T r f t n=true ->∃k,k<n/\ R k=r/\ F k<=f/\ t<=T k
 | 0,h=>by simp [Qct] at h
 | n+1,h=>by
  simp only [Qct,Bool.or_eq_true,decide_eq_true_eq] at h;rcases h with h|h
  ·obtain⟨k,j,r⟩:=Qfg R F T r f t n h;exact⟨k,by omega,r⟩
  ·exact⟨n,by omega,h⟩
theorem Qpb {R F T:Nat ->Int}{n:Nat}{l:List Lf}(h:StW R F T n l):∀x∈l,(0<=x.r/\ x.r<8)/\ (0<=x.q/\ x.q<=1000000000)/\ x.v.size<=200/\ x.p.length<=8:=fun x hx=>by
 obtain⟨i,y,e⟩:=Qa2.1 hx;have b:=h.1.1;obtain⟨k,o,z,g,t⟩:=Qfg R F T _ _ _ n (h.2.2.1 i y).2.1;have:=(b k o).1;simp only [QaL,Bool.and_eq_true,decide_eq_true_eq] at this;have j:=(h.2.2.1 i y).1;have m:=j.1.2.1;have u:=j.2.1;rw [e] at z g t m u;exact⟨by omega,by omega,u,m⟩
theorem Qnw {l:List Lf}{i:Nat}(h:¬i<l.length):(gL l i).p=[]:=by simp [gL,List.getD,h]
theorem Qgz (l:List Rn):flat (fun i=>(gR l i).1) (fun i=>(gR l i).2.1) (fun i=>(gR l i).2.2) l.length=l:=by
 refine List.ext_getElem (by simp [flat]) (fun i h1 h2=> ?_);simp [flat,gR,List.getD,h2]
theorem QiN {l:List Rn}(h:QbV l):Qeu (fun i=>(gR l i).1) (fun i=>(gR l i).2.1) (fun i=>(gR l i).2.2) l.length:=by
 intro i k;have e:∀j,(hj:j<l.length) ->gR l j=l[j]:=fun j hj=>by simp [gR,List.getD,hj]
 refine⟨?_,fun h0=> ?_⟩
 ·have:=h.2 _ (List.getElem_mem k);rw [<- e i k] at this;exact QbF this
 ·have:=List.pairwise_iff_getElem.1 h.1 (i - 1) i (by omega) k (by omega);rw [<- e i k,<- e (i - 1) (by omega)] at this;unfold QaE;exact decide_eq_true this
theorem Qmp (R F T:Nat ->Int)(r x:Int)(n:Nat):Qct R F T r x x n=true↔RI (flat R F T n) r x:=by
 rw [Qfa,<- Qg4];unfold inB In;simp
theorem Qg1 {R F T:Nat ->Int}{n:Nat}{x:Lf}:Qcu R F T n x↔RI (flat R F T n) x.r x.q:=Qmp R F T x.r x.q n
def mkS (l:List Lf)(u:List Rn):Sx:=⟨l,u.length,fun i=>(gR u i).1,fun i=>(gR u i).2.1,fun i=>(gR u i).2.2⟩
theorem Qlw (S S':Sx):jnS S S'=mkS (jn S.R S.F S.T S.n S.l S'.R S'.F S'.T S'.n S'.l) (jnU S S'):=rfl
theorem Qjk {l:List Lf}{u:List Rn}{x:Lf}:Qcu (mkS l u).R (mkS l u).F (mkS l u).T (mkS l u).n x↔RI u x.r x.q:=by
 rw [Qg1];unfold mkS;simp only;rw [Qgz]
def dtR (x:Lf):Rn:=(x.r,x.q,x.q)
theorem QiH {l:List Lf}{r x:Int}:RI (l.map dtR) r x↔∃y∈l,y.r=r/\ y.q=x:=by
 unfold RI InR dtR;constructor
 ·rintro⟨p,v,j,m,u⟩;obtain⟨y,k,rfl⟩:=List.mem_map.1 v;exact⟨y,k,j,by simp only at m u;omega⟩
 ·rintro⟨y,k,j,m⟩;exact⟨_,List.mem_map.2 ⟨y,k,rfl⟩,j,by simp only;omega,by simp only;omega⟩
noncomputable def goL (g:Lf ->Prop)(l:List Lf):List Lf:=l.filter fun x=>yes (g x)
noncomputable def stL (g:Lf ->Prop)(l:List Lf):List Lf:=l.filter fun x=> !yes (g x)
noncomputable def dlU (g:Lf ->Prop)(l P:List Lf):List Rn:=unF [] ((goL g l).map dtR++P.map dtR)
noncomputable def dlS (g:Lf ->Prop)(l P:List Lf):Sx:=mkS P (dlU g l P)
def nxU (S:Sx)(P:List Lf):List Rn:=unF (flat S.R S.F S.T S.n) (P.map dtR)
noncomputable def nxL (g:Lf ->Prop)(l P:List Lf):List Lf:=P.foldl (fun o y=>Qc0 y o) (stL g l)
noncomputable def nxS (g:Lf ->Prop)(S:Sx)(P:List Lf):Sx:=mkS (nxL g S.l P) (nxU S P)
theorem QcY {g:Lf ->Prop}{l:List Lf}{x:Lf}:x∈goL g l↔x∈l/\ g x:=by
 unfold goL;rw [List.mem_filter];exact and_congr_right fun _=>⟨fun h=>Classical.byContradiction fun hn=>(by rw [Qaj hn] at h;cases h),fun h=>Qal h⟩
theorem QgX {g:Lf ->Prop}{l:List Lf}{x:Lf}:x∈stL g l↔x∈l/\¬g x:=by
 unfold stL;rw [List.mem_filter];exact and_congr_right fun _=>⟨fun h hn=>(by rw [Qal hn] at h;cases h),fun h=>(by rw [Qaj h];rfl)⟩
structure PtO (S:Sx)(P:List Lf):Prop where
 one:P.length<=1
 ok:∀y∈P,QbW y
 dot:∀y∈P,Rok (dtR y)
 new:∀y∈P,¬Qcu S.R S.F S.T S.n y
theorem PtO.nil (S:Sx):PtO S []:=⟨by simp,fun y h=>(by cases h),fun y h=>(by cases h),fun y h=>(by cases h)⟩
theorem QfW {S:Sx}(h:QaQ S.R S.F S.T S.n S.l):∀z∈S.l,Qcu S.R S.F S.T S.n z:=fun z hz=>by
 obtain⟨j,k,e⟩:=Qa2.1 hz;have:=(h.2.2.1 j k).2.1;rw [e] at this;exact this
theorem QiT {R F T:Nat ->Int}{n:Nat}(h:Qeu R F T n){x:Lf}(hx:Qcu R F T n x):Rok (dtR x):=by
 obtain⟨k,j,m,q,r⟩:=Qfg R F T _ _ _ n hx;have:=(h k j).1;simp only [QaL,Bool.and_eq_true,decide_eq_true_eq] at this;unfold Rok dtR;simp only;omega
theorem Qdc {S:Sx}(h:QaQ S.R S.F S.T S.n S.l):Qeu S.R S.F S.T S.n:=(Qao.1 h.1).1
section
variable {g : Lf -> Prop} {S : Sx} {P : List Lf}
theorem Qln (h:QaQ S.R S.F S.T S.n S.l)(hp:PtO S P):∀p∈(goL g S.l).map dtR++P.map dtR,Rok p:=fun p j=>by
 rcases List.mem_append.1 j with j|j
 ·obtain⟨x,k,rfl⟩:=List.mem_map.1 j;exact QiT (Qdc h) (QfW h x (QcY.1 k).1)
 ·obtain⟨x,k,rfl⟩:=List.mem_map.1 j;exact hp.dot x k
theorem Qlp:QbV []:=⟨List.Pairwise.nil,fun p h=>by cases h⟩
theorem QfJ (h:QaQ S.R S.F S.T S.n S.l)(hp:PtO S P):QbV (dlU g S.l P)/\∀r x,RI (dlU g S.l P) r x↔(∃y,(y∈S.l/\ g y)/\ y.r=r/\ y.q=x) \/∃y∈P,y.r=r/\ y.q=x:=by
 obtain⟨k,m⟩:=Qds ((goL g S.l).map dtR++P.map dtR) [] Qlp (Qln h hp);refine⟨k,fun r x=>(m r x).trans ?_⟩;rw [Qbn,QiH,QiH];constructor
 ·rintro(e|⟨y,j,e⟩|e)
  ·exact absurd e Qi1
  ·exact .inl ⟨y,QcY.1 j,e⟩
  ·exact .inr e
 ·rintro(⟨y,j,e⟩|e)
  ·exact .inr (.inl ⟨y,QcY.2 j,e⟩)
  ·exact .inr (.inr e)
theorem Qmh (h:QaQ S.R S.F S.T S.n S.l)(hp:PtO S P):(dlU g S.l P).length<=1001:=by
 have j:=Qdh ((goL g S.l).map dtR++P.map dtR) [];have k:(goL g S.l).length<=S.l.length:=List.length_filter_le _ _;have m:=h.2.1;have q:=hp.one;simp at j;show (unF [] ((goL g S.l).map dtR++P.map dtR)).length<=1001;omega
theorem QnS (hp:PtO S P){R F T:Nat ->Int}{n:Nat}(hh:∀y∈P,Qcu R F T n y):QbS R F T n P P.length/\ Dis P P.length:=by
 have m:=hp.one;refine⟨fun i hi=> ?_,fun i hi j hj=>by omega⟩;have k:gL P i∈P:=Qa2.2 ⟨i,hi,rfl⟩;exact⟨hp.ok _ k,hh _ k,fun h0=>by omega⟩
theorem Qph (h:QaQ S.R S.F S.T S.n S.l)(hp:PtO S P):StW (dlS g S.l P).R (dlS g S.l P).F (dlS g S.l P).T (dlS g S.l P).n (dlS g S.l P).l:=by
 have k:=(QfJ (g:=g) h hp).1;have m:=Qmh (g:=g) h hp;have j:=QnS hp (R:=(dlS g S.l P).R) (F:=(dlS g S.l P).F) (T:=(dlS g S.l P).T) (n:=(dlS g S.l P).n) (fun y hy=>Qjk.2 (((QfJ h hp).2 _ _).2 (.inr ⟨y,hy,rfl,rfl⟩)));exact⟨⟨QiN k,by show (dlU g S.l P).length<=2000;omega⟩,by show P.length<=1000;have:=hp.one;omega,j.1,j.2⟩
theorem QeI (h:QaQ S.R S.F S.T S.n S.l):(stL g S.l).Pairwise (fun a b=>QaH a b<0):=by
 refine List.Pairwise.filter _ (List.pairwise_iff_getElem.2 fun i j hi hj hij=> ?_);have:=h.2.2.1.lt j hij hj;have k:gL S.l i=S.l[i]:=by simp [gL,List.getD,hi]
 have m:gL S.l j=S.l[j]:=by simp [gL,List.getD,hj]
 rw [k,m] at this;exact this
theorem Qfm {l:List Lf}{z:Lf}:∀{P:List Lf} {o:List Lf},z∈P.foldl (fun o y=>Qc0 y o) o↔z∈o \/z∈P
 | [],o=>by simp
 | y::P,o=>by
  rw [List.foldl_cons,Qfm (l:=l) (P:=P),Qd1,List.mem_cons];constructor
  ·rintro((e|e)|e)
   ·exact .inr (.inl e)
   ·exact .inl e
   ·exact .inr (.inr e)
  ·rintro(e|e|e)
   ·exact .inl (.inr e)
   ·exact .inl (.inl e)
   ·exact .inr e
theorem Qig (h:QaQ S.R S.F S.T S.n S.l)(hp:PtO S P):(nxL g S.l P).Pairwise (fun a b=>QaH a b<0):=by
 unfold nxL;match P,hp with
 | [],_=>exact QeI h
 | [y],hp=>
  refine Qc1 (QeI h) (fun z hz e=> ?_);exact hp.new y (List.mem_singleton.2 rfl) ((Qht e).1 (QfW h z (QgX.1 hz).1))
 | _::_::_,hp=>exact absurd hp.one (by simp)
theorem Qo2 (h:QaQ S.R S.F S.T S.n S.l)(hp:PtO S P):(jnS S (dlS g S.l P)).l=nxL g S.l P:=by
 refine Qh1 (QdR h.w (Qph h hp)) (Qig h hp) (fun z=> ?_);show z∈jnL S.l P _ _↔_;rw [QiU];unfold nxL;rw [Qfm (l:=S.l),QgX];have v:Qcu (dlS g S.l P).R (dlS g S.l P).F (dlS g S.l P).T (dlS g S.l P).n z↔_:=Qjk.trans ((QfJ (g:=g) h hp).2 z.r z.q);rw [v];constructor
 ·rintro(⟨j,k⟩|⟨j,_⟩)
  ·rcases k with k|k
   ·exact .inr k
   ·exact .inl ⟨j,fun m=>k (.inl ⟨z,⟨j,m⟩,rfl,rfl⟩)⟩
  ·exact .inr j
 ·rintro(⟨j,k⟩|j)
  ·refine .inl ⟨j,.inr ?_⟩;rintro(⟨y,⟨u,m⟩,e⟩|⟨y,u,e⟩)
   ·exact k ((Qgv h.2.2.2 u j e) ▸ m)
   ·refine hp.new y u ?_;have:=QfW h z j;unfold Qcu at this ⊢;rw [e.1,e.2];exact this
  ·exact .inr ⟨j,hp.new z j⟩
theorem QnP (h:QaQ S.R S.F S.T S.n S.l)(hp:PtO S P):QbV (nxU S P)/\∀r x,RI (nxU S P) r x↔RI (flat S.R S.F S.T S.n) r x \/∃y∈P,y.r=r/\ y.q=x:=by
 obtain⟨j,k⟩:=Qds (P.map dtR) (flat S.R S.F S.T S.n) (Qbx S.n (Qdc h)) (fun p hq=>by
  obtain⟨x,m,rfl⟩:=List.mem_map.1 hq;exact hp.dot x m)
 refine⟨j,fun r x=>(k r x).trans ?_⟩;rw [QiH]
theorem Qo4 (h:QaQ S.R S.F S.T S.n S.l)(hp:PtO S P):jnU S (dlS g S.l P)=nxU S P:=by
 have j:=QfJ (g:=g) h hp;have k:jnU S (dlS g S.l P)=unF (flat S.R S.F S.T S.n) (dlU g S.l P):=by
  unfold jnU unL dlS mkS;simp only;rw [Qgz]
 rw [k];obtain⟨u,v⟩:=Qds (dlU g S.l P) (flat S.R S.F S.T S.n) (Qbx S.n (Qdc h)) j.1.2;obtain⟨z,t⟩:=QnP h hp;refine uniq u z (fun r x=> ?_);rw [v,t,j.2];constructor
 ·rintro(e|⟨y,⟨o,_⟩,m,q⟩|e)
  ·exact .inl e
  ·have:=Qg1.1 (QfW h y o);rw [m,q] at this;exact .inl this
  ·exact .inr e
 ·rintro(e|e)
  ·exact .inl e
  ·exact .inr (.inr e)
theorem Qo3 (h:QaQ S.R S.F S.T S.n S.l)(hp:PtO S P):jnS S (dlS g S.l P)=nxS g S P:=by
 rw [Qlw,Qo4 h hp];have:=Qo2 (g:=g) h hp;unfold nxS;rw [<- this];rfl
end
abbrev Vd (S:Sx):Prop:=QaQ S.R S.F S.T S.n S.l
def fS (S:Sx):List Rn:=flat S.R S.F S.T S.n
def Hs (S:Sx)(x:Lf):Prop:=RI (fS S) x.r x.q
theorem Qki (l:List Lf)(u:List Rn):fS (mkS l u)=u:=Qgz u
theorem QfB (S:Sx):Qcu S.R S.F S.T S.n=Hs S:=funext fun x=>propext Qg1
theorem QdQ (S S':Sx):jnS S S'=mkS (jnL S.l S'.l (Hs S) (Hs S')) (unF (fS S) (fS S')):=by
 rw [Qlw,<- QfB,<- QfB];rfl
theorem QlL {S:Sx}(h:Vd S):QbV (fS S):=Qbx S.n (Qdc h)
section
variable {S S' S2 : Sx}
theorem Qor (h:Vd S)(h':Vd S'):QbV (fS (jnS S S'))/\∀y x,RI (fS (jnS S S')) y x↔(RI (fS S) y x \/RI (fS S') y x):=by
 rw [QdQ,Qki];exact Qds _ _ (QlL h) (QlL h').2
theorem QoB (h:Vd S)(h':Vd S'){z:Lf}:Hs (jnS S S') z↔Hs S z \/Hs S' z:=(Qor h h').2 _ _
theorem Qmw:jnF S S'=true↔(jnS S S').l.length<=1000/\ (jnS S S').n<=1000:=by unfold jnF;rw [Bool.and_eq_true,decide_eq_true_eq,decide_eq_true_eq]
theorem QnE (h:Vd S)(h':Vd S')(hf:jnF S S'=true):Vd (jnS S S'):=by
 obtain⟨k,m⟩:=Qmw.1 hf;have j:=(Qor h h').1;rw [QdQ,Qki] at j;refine⟨Qao.2 ⟨?_,m⟩,k,?_,QnC h.w h'.w⟩
 ·rw [QdQ];exact QiN j
 ·refine QoD h.w h'.w (fun z hz=> ?_);rw [QfB,QfB] at hz;rw [QfB];exact(QoB h h').2 hz
theorem QoI:Vd Sx.mt:=⟨Qao.2 ⟨fun i hi=>absurd hi (Nat.not_lt_zero _),Nat.zero_le _⟩,Nat.zero_le _,fun i hi=>absurd hi (Nat.not_lt_zero _),fun i hi=>absurd hi (Nat.not_lt_zero _)⟩
theorem Qmv:jnB S S'=true↔Vd S/\ Vd S'/\ jnF S S'=true:=by
 unfold jnB;rw [Bool.and_eq_true,Bool.and_eq_true];exact⟨fun h=>⟨Qim h.1.1,Qim h.1.2,h.2⟩,fun h=>⟨⟨Qal h.1,Qal h.2.1⟩,h.2.2⟩⟩
end
def gnS (p:List ByteArray)(fl:Bool)(x:Lf):Prop:=x.p=p/\ x.fl=fl
def gnR (p:List ByteArray)(x:Lf):Prop:=p <+:x.p
theorem Qns (r q:Int)(w:World):
  Calls Tryz.prog 147 #[.agg #[.int .i64 r,.int .i64 q]] w fun e w'=>e=.returned (.bool (QaL r q q))/\ Below w.heap.size w w':=by
 have j:Below w.heap.size w (w.alloc (.cells #[.int .i64 r,.int .i64 q] 75)):=zO _ _;have m:=hid j;clear j;go_enter Tryz.func147,Tryz.ntmps147;go_wp2_with fail;refine(QcL r q q _).mono ?_;rintro e w1 ⟨rfl,k⟩;have u:=hid (Qac m.out k);clear k;go_wp2_with fail;go_ret;exact⟨rfl,u.out⟩
def Qce (R F T:Nat ->Int)(rep:Int)(n:Nat):Bool:=QcR R F T n && QaL rep (Qbj R T rep n+1) (Qbj R T rep n+1)
theorem Qhb {R F T:Nat ->Int}{n:Nat}(h:QcR R F T n=true)(rep:Int):0<=Qbj R T rep n/\ Qbj R T rep n<=1000000000:=by
 have:=Qiy n (Qao.1 h).1;rw [this.2.2.1 rep];exact this.2.2.2 rep
theorem QkR {R T:Nat ->Int}(hT:I64 T)(rep:Int)(k:Nat): -9223372036854775808<=Qbj R T rep k/\ Qbj R T rep k<=9223372036854775807:=by
 induction k with
 | zero=>simp [Qbj]
 | succ k ih=>
  simp only [Qbj];split
  ·exact hT k
  ·exact ih
theorem QmW {R T:Nat ->Int}{rep:Int}{k:Nat}(h:R k=rep)(h2:Qbj R T rep k<T k):Qbj R T rep (k+1)=T k:=by
 show (if R k=rep/\ Qbj R T rep k<T k then T k else Qbj R T rep k)=_;rw [if_pos ⟨h,h2⟩]
theorem QhT {R T:Nat ->Int}{rep:Int}{k:Nat}(h:¬(R k=rep/\ Qbj R T rep k<T k)):Qbj R T rep (k+1)=Qbj R T rep k:=by
 show (if R k=rep/\ Qbj R T rep k<T k then T k else Qbj R T rep k)=_;rw [if_neg h]
theorem vI {a b:Int}(h:a=b):Value.int .i64 a=.int .i64 b:=by rw [h]
theorem QkM (a:Option Addr)(n c:Nat)(R F T:Nat ->Int)(rep:Int)(w:World)(hn:n<=1048576)(h:Qb5 w a n R F T)(hT:I64 T):
  Calls Tryz.prog 120 #[.agg #[.slice a n c],.int .i64 rep] w fun e w'=>
   (Qce R F T rep n=true ->e=.returned (.tuple #[.agg #[.int .i64 rep,.int .i64 (Qbj R T rep n+1)],.bool true]))/\ (Qce R F T rep n=false ->e=.returned (.tuple #[.agg #[.int .i64 0,.int .i64 0],.bool false]))/\ Below w.heap.size w w':=by
 obtain⟨m,g⟩:∃m,(w.alloc (.cells #[.slice a n c] 27)).alloc (.cells #[.int .i64 0,.int .i64 0] 75)=m:=⟨_,rfl⟩;have bW:Below w.heap.size w m:=by rw [<- g];exact Qak _ _ _
 have X:m.heap.size=w.heap.size+2:=by rw [<- g];simp
 have J:m.cell? ⟨w.heap.size,0,none⟩=some (.slice a n c):=by rw [<- g];simp
 have x0:m.cell? ⟨w.heap.size+1,0,none⟩=some (.int .i64 0):=by rw [<- g];simp
 have N:m.cell? ⟨w.heap.size+1,1,none⟩=some (.int .i64 0):=by rw [<- g];simp
 have H:m.frozen? ⟨w.heap.size+1,0,none⟩=false:=by rw [<- g];simp
 have I:m.frozen? ⟨w.heap.size+1,1,none⟩=false:=by rw [<- g];simp
 have Q:=h.below bW;go_enter Tryz.func120,Tryz.ntmps120;go_wp2_with fail;try rw [g]
 go_loop [6,7] (fun t i=>∃k:Nat,k<=n/\ i=.int .i64 k/\ t=.int .i64 (Qbj R T rep k)) (fun _ i=>n - (intOf i).toNat);case atStart=>exact⟨0,Nat.zero_le _,rfl,rfl⟩
 case round=>
  obtain⟨k,hk,rfl,rfl⟩:=hrel;have Hf:=QkR (R:=R) hT rep k;by_cases Hb:k<n
  ·rcases Q with Q|⟨b,off,rfl,hb,hc⟩
   ·omega
   have c0:=(hc k Hb).1;have c2:=(hc k Hb).2.2;clear hc h;by_cases E:R k=rep
   ·have t1:(R k==rep)=true:=by simp;exact E
    by_cases e2:Qbj R T rep k<T k
    ·have C:=hid (QmW E e2);have H1:=hid E;clear E;generalize Qbj R T rep k=tk at*;go_wp2_with fail;go_round;case rel=>exact⟨k+1,Hb,by go_num,vI C.symm⟩
     case measure=>simp [intOf];omega
    ·have C:=hid (QhT (R:=R) (T:=T) (rep:=rep) (k:=k) (fun hh=>e2 hh.2));clear E;generalize Qbj R T rep k=tk at*;go_wp2_with fail;go_round;case rel=>exact⟨k+1,Hb,by go_num,vI C.symm⟩
     case measure=>simp [intOf];omega
   ·have t1:(R k==rep)=false:=by simp;exact E
    have C:=hid (QhT (R:=R) (T:=T) (rep:=rep) (k:=k) (fun hh=>E hh.1));clear E;generalize Qbj R T rep k=tk at*;go_wp2_with fail;go_round;case rel=>exact⟨k+1,Hb,by go_num,vI C.symm⟩
    case measure=>simp [intOf];omega
  ·obtain rfl:k=n:=by omega
   clear h hk;cases hcx:QcR R F T k with
   | false=>
    have D:Hid (Qce R F T rep k=false):=by unfold Hid Qce;rw [hcx];rfl
    obtain⟨j,u⟩:∃j,m.alloc (.cells #[.int .i64 rep,.int .i64 (wrap64 (Qbj R T rep k+1))] 75)=j:=⟨_,rfl⟩;have r:Below m.heap.size m j:=by rw [<- u];exact zO _ _
    have z3:j.heap.size=w.heap.size+3:=by rw [<- u];simp;omega
    have s:j.cell? ⟨w.heap.size+2,0,none⟩=some (.int .i64 rep):=by rw [<- u,<- X];simp
    have A:j.cell? ⟨w.heap.size+2,1,none⟩=some (.int .i64 (wrap64 (Qbj R T rep k+1))):=by rw [<- u,<- X];simp
    have o:=bW.trans (r.mono (by omega));have V:=(r.cell (p:=⟨w.heap.size+1,0,none⟩) (show w.heap.size+1<m.heap.size by omega)).trans x0;have Y:=(r.cell (p:=⟨w.heap.size+1,1,none⟩) (show w.heap.size+1<m.heap.size by omega)).trans N;have M:=(r.frozen (p:=⟨w.heap.size+1,0,none⟩) (show w.heap.size+1<m.heap.size by omega)).trans H;have O:=(r.frozen (p:=⟨w.heap.size+1,1,none⟩) (show w.heap.size+1<m.heap.size by omega)).trans I;have W:=(r.cell (p:=⟨w.heap.size,0,none⟩) (show w.heap.size<m.heap.size by omega)).trans J;have U:=Q.below r;clear Q r g;go_wp2_with fail;try rw [u]
    clear u J W x0 N H I;refine(Qgf a k c R F T _ hn U).mono ?_;rintro e z ⟨rfl,q⟩;rw [hcx];have z4:=q.size;have Z:=(q.cell (p:=⟨w.heap.size+1,0,none⟩) (show w.heap.size+1<j.heap.size by omega)).trans V;have G:=(q.cell (p:=⟨w.heap.size+1,1,none⟩) (show w.heap.size+1<j.heap.size by omega)).trans Y;have K:=(q.frozen (p:=⟨w.heap.size+1,0,none⟩) (show w.heap.size+1<j.heap.size by omega)).trans M;have L:=(q.frozen (p:=⟨w.heap.size+1,1,none⟩) (show w.heap.size+1<j.heap.size by omega)).trans O;have P:=(q.cell (p:=⟨w.heap.size+2,0,none⟩) (show w.heap.size+2<j.heap.size by omega)).trans s;have S:=(q.cell (p:=⟨w.heap.size+2,1,none⟩) (show w.heap.size+2<j.heap.size by omega)).trans A;have B:=hid (Qac o q);clear V Y M O s A U q o hcx;go_wp2_with fail;refine zF (v:=.tuple #[.agg #[.int .i64 0,.int .i64 0],.bool false]) (by simp [results,Tryz.results120,go_sem,Z,G]) ⟨(fun h=>by have:=D.symm.trans h;cases this),(fun _=>rfl),?_⟩;exact(B.setCell (by simp) _).setCell (by simp) _
   | true=>
    have Hk:=Qhb hcx rep;cases hdo:QaL rep (Qbj R T rep k+1) (Qbj R T rep k+1) with
    | false=>
     have D:Hid (Qce R F T rep k=false):=by unfold Hid Qce;rw [hcx,hdo];rfl
     clear Hf;generalize Ha:Qbj R T rep k=tk at*;have HT:=hid Ha;clear Ha;obtain⟨j,u⟩:∃j,m.alloc (.cells #[.int .i64 rep,.int .i64 (tk+1)] 75)=j:=⟨_,rfl⟩;have r:Below m.heap.size m j:=by rw [<- u];exact zO _ _
     have z3:j.heap.size=w.heap.size+3:=by rw [<- u];simp;omega
     have s:j.cell? ⟨w.heap.size+2,0,none⟩=some (.int .i64 rep):=by rw [<- u,<- X];simp
     have A:j.cell? ⟨w.heap.size+2,1,none⟩=some (.int .i64 (tk+1)):=by rw [<- u,<- X];simp
     have o:=bW.trans (r.mono (by omega));have V:=(r.cell (p:=⟨w.heap.size+1,0,none⟩) (show w.heap.size+1<m.heap.size by omega)).trans x0;have Y:=(r.cell (p:=⟨w.heap.size+1,1,none⟩) (show w.heap.size+1<m.heap.size by omega)).trans N;have M:=(r.frozen (p:=⟨w.heap.size+1,0,none⟩) (show w.heap.size+1<m.heap.size by omega)).trans H;have O:=(r.frozen (p:=⟨w.heap.size+1,1,none⟩) (show w.heap.size+1<m.heap.size by omega)).trans I;have W:=(r.cell (p:=⟨w.heap.size,0,none⟩) (show w.heap.size<m.heap.size by omega)).trans J;have U:=Q.below r;clear Q r g;go_wp2_with fail;try rw [u]
     clear u J W x0 N H I;refine(Qgf a k c R F T _ hn U).mono ?_;rintro e z ⟨rfl,q⟩;rw [hcx];have z4:=q.size;have Z:=(q.cell (p:=⟨w.heap.size+1,0,none⟩) (show w.heap.size+1<j.heap.size by omega)).trans V;have G:=(q.cell (p:=⟨w.heap.size+1,1,none⟩) (show w.heap.size+1<j.heap.size by omega)).trans Y;have K:=(q.frozen (p:=⟨w.heap.size+1,0,none⟩) (show w.heap.size+1<j.heap.size by omega)).trans M;have L:=(q.frozen (p:=⟨w.heap.size+1,1,none⟩) (show w.heap.size+1<j.heap.size by omega)).trans O;have P:=(q.cell (p:=⟨w.heap.size+2,0,none⟩) (show w.heap.size+2<j.heap.size by omega)).trans s;have S:=(q.cell (p:=⟨w.heap.size+2,1,none⟩) (show w.heap.size+2<j.heap.size by omega)).trans A;have B:=hid (Qac o q);clear V Y M O s A U q o hcx;go_wp2_with fail;refine(Qns rep (tk+1) _).mono ?_;rintro e w5 ⟨rfl,y⟩;rw [hdo];have Hd:=(y.cell (p:=⟨w.heap.size+1,0,none⟩) (show w.heap.size+1<z.heap.size by omega)).trans Z;have He:=(y.cell (p:=⟨w.heap.size+1,1,none⟩) (show w.heap.size+1<z.heap.size by omega)).trans G;have Hi:=(y.frozen (p:=⟨w.heap.size+1,0,none⟩) (show w.heap.size+1<z.heap.size by omega)).trans K;have Hj:=(y.frozen (p:=⟨w.heap.size+1,1,none⟩) (show w.heap.size+1<z.heap.size by omega)).trans L;have Hc:=hid (Qac B.out y);clear Z G K L y hdo P S;go_wp2_with fail;refine zF (v:=.tuple #[.agg #[.int .i64 0,.int .i64 0],.bool false]) (by simp [results,Tryz.results120,go_sem,Hd,He]) ⟨(fun h=>by have:=D.symm.trans h;cases this),(fun _=>rfl),?_⟩;exact(Hc.setCell (by simp) _).setCell (by simp) _
    | true=>
     have D:Hid (Qce R F T rep k=true):=by unfold Hid Qce;rw [hcx,hdo];rfl
     clear Hf;generalize Ha:Qbj R T rep k=tk at*;have HT:=hid Ha;clear Ha;obtain⟨j,u⟩:∃j,m.alloc (.cells #[.int .i64 rep,.int .i64 (tk+1)] 75)=j:=⟨_,rfl⟩;have r:Below m.heap.size m j:=by rw [<- u];exact zO _ _
     have z3:j.heap.size=w.heap.size+3:=by rw [<- u];simp;omega
     have s:j.cell? ⟨w.heap.size+2,0,none⟩=some (.int .i64 rep):=by rw [<- u,<- X];simp
     have A:j.cell? ⟨w.heap.size+2,1,none⟩=some (.int .i64 (tk+1)):=by rw [<- u,<- X];simp
     have o:=bW.trans (r.mono (by omega));have V:=(r.cell (p:=⟨w.heap.size+1,0,none⟩) (show w.heap.size+1<m.heap.size by omega)).trans x0;have Y:=(r.cell (p:=⟨w.heap.size+1,1,none⟩) (show w.heap.size+1<m.heap.size by omega)).trans N;have M:=(r.frozen (p:=⟨w.heap.size+1,0,none⟩) (show w.heap.size+1<m.heap.size by omega)).trans H;have O:=(r.frozen (p:=⟨w.heap.size+1,1,none⟩) (show w.heap.size+1<m.heap.size by omega)).trans I;have W:=(r.cell (p:=⟨w.heap.size,0,none⟩) (show w.heap.size<m.heap.size by omega)).trans J;have U:=Q.below r;clear Q r g;go_wp2_with fail;try rw [u]
     clear u J W x0 N H I;refine(Qgf a k c R F T _ hn U).mono ?_;rintro e z ⟨rfl,q⟩;rw [hcx];have z4:=q.size;have Z:=(q.cell (p:=⟨w.heap.size+1,0,none⟩) (show w.heap.size+1<j.heap.size by omega)).trans V;have G:=(q.cell (p:=⟨w.heap.size+1,1,none⟩) (show w.heap.size+1<j.heap.size by omega)).trans Y;have K:=(q.frozen (p:=⟨w.heap.size+1,0,none⟩) (show w.heap.size+1<j.heap.size by omega)).trans M;have L:=(q.frozen (p:=⟨w.heap.size+1,1,none⟩) (show w.heap.size+1<j.heap.size by omega)).trans O;have P:=(q.cell (p:=⟨w.heap.size+2,0,none⟩) (show w.heap.size+2<j.heap.size by omega)).trans s;have S:=(q.cell (p:=⟨w.heap.size+2,1,none⟩) (show w.heap.size+2<j.heap.size by omega)).trans A;have B:=hid (Qac o q);clear V Y M O s A U q o hcx;go_wp2_with fail;refine(Qns rep (tk+1) _).mono ?_;rintro e w5 ⟨rfl,y⟩;rw [hdo];have Hd:=(y.cell (p:=⟨w.heap.size+1,0,none⟩) (show w.heap.size+1<z.heap.size by omega)).trans Z;have He:=(y.cell (p:=⟨w.heap.size+1,1,none⟩) (show w.heap.size+1<z.heap.size by omega)).trans G;have Hi:=(y.frozen (p:=⟨w.heap.size+1,0,none⟩) (show w.heap.size+1<z.heap.size by omega)).trans K;have Hj:=(y.frozen (p:=⟨w.heap.size+1,1,none⟩) (show w.heap.size+1<z.heap.size by omega)).trans L;have Hg:=(y.cell (p:=⟨w.heap.size+2,0,none⟩) (show w.heap.size+2<z.heap.size by omega)).trans P;have Hh:=(y.cell (p:=⟨w.heap.size+2,1,none⟩) (show w.heap.size+2<z.heap.size by omega)).trans S;have Hc:=hid (Qac B.out y);clear Z G K L y hdo P S;go_wp2_with fail;refine zF (v:=.tuple #[.agg #[.int .i64 rep,.int .i64 (tk+1)],.bool true]) (by simp [results,Tryz.results120,go_sem,Hd,He]) ⟨(fun _=>by rw [HT.out]),(fun h=>by have:=D.symm.trans h;cases this),?_⟩;exact(Hc.setCell (by simp) _).setCell (by simp) _
noncomputable def chF (S D:Sx):Bool:=jnF S D && (decide (D.l.length<=1000) && decide (D.n<=1000))
noncomputable def chX (S D:Sx):Sx:=if chF S D then jnS S D else Sx.mt
noncomputable def chY (S D:Sx):Sx:=if chF S D then D else Sx.mt
noncomputable def chC (S D:Sx):Int:=if chF S D then 0 else 4
theorem Qo1 {S D:Sx}(h:chF S D=true):chX S D=jnS S D/\ chY S D=D/\ chC S D=0:=by unfold chX chY chC;rw [if_pos h,if_pos h,if_pos h];exact⟨rfl,rfl,rfl⟩
theorem Qo0 {S D:Sx}(h:chF S D=false):chX S D=Sx.mt/\ chY S D=Sx.mt/\ chC S D=4:=by unfold chX chY chC;rw [if_neg (by rw [h];simp),if_neg (by rw [h];simp),if_neg (by rw [h];simp)];exact⟨rfl,rfl,rfl⟩
noncomputable def ocC (S:Sx)(p:List ByteArray)(v:ByteArray):Int:=if stB S=true then(if yes (QaS p/\ v.size<=200)=true then 0 else 2) else 1
theorem QmJ {S:Sx}{p:List ByteArray}{v:ByteArray}(h:stB S=false):ocC S p v=1:=by unfold ocC;rw [if_neg (by rw [h];simp)]
theorem Qk8 {S:Sx}{p:List ByteArray}{v:ByteArray}(h:stB S=true)(hn:¬(QaS p/\ v.size<=200)):ocC S p v=2:=by unfold ocC;rw [if_pos h,if_neg (by rw [Qaj hn];simp)]
theorem QnQ {S:Sx}{p:List ByteArray}{v:ByteArray}(h:stB S=true)(hn:QaS p/\ v.size<=200):ocC S p v=0:=by unfold ocC;rw [if_pos h,if_pos (Qal hn)]
theorem QnR {S:Sx}{p:List ByteArray}{v:ByteArray}(h:ocC S p v=0):stB S=true/\ QaS p/\ v.size<=200:=by
 cases hb:stB S with
 | false=>rw [QmJ hb] at h;cases h
 | true=>
  by_cases j:QaS p/\ v.size<=200
  ·exact⟨rfl,j⟩
  ·rw [Qk8 hb j] at h;cases h
noncomputable def rmD (S:Sx)(p:List ByteArray):Sx:=dlS (gnR p) S.l []
noncomputable def rmX (S:Sx)(p:List ByteArray):Sx:=if ocC S p ⟨#[]⟩=0 then chX S (rmD S p) else Sx.mt
noncomputable def rmY (S:Sx)(p:List ByteArray):Sx:=if ocC S p ⟨#[]⟩=0 then chY S (rmD S p) else Sx.mt
noncomputable def rmC (S:Sx)(p:List ByteArray):Int:=if ocC S p ⟨#[]⟩=0 then chC S (rmD S p) else ocC S p ⟨#[]⟩
theorem Qpj {S:Sx}{p:List ByteArray}(h:ocC S p ⟨#[]⟩=0):rmX S p=chX S (rmD S p)/\ rmY S p=chY S (rmD S p)/\ rmC S p=chC S (rmD S p):=by unfold rmX rmY rmC;rw [if_pos h,if_pos h,if_pos h];exact⟨rfl,rfl,rfl⟩
theorem QoV {S:Sx}{p:List ByteArray}(h:ocC S p ⟨#[]⟩≠0):rmX S p=Sx.mt/\ rmY S p=Sx.mt/\ rmC S p=ocC S p ⟨#[]⟩:=by unfold rmX rmY rmC;rw [if_neg h,if_neg h,if_neg h];exact⟨rfl,rfl,rfl⟩
theorem QjJ {R T:Nat ->Int}{rep:Int}:∀{n k:Nat},k<n ->R k=rep ->T k<=Qbj R T rep n
 | 0,k,h,_=>by omega
 | n+1,k,h,e=>by
  have mono:Qbj R T rep n<=Qbj R T rep (n+1):=by
   show _<=(if R n=rep/\ Qbj R T rep n<T n then T n else Qbj R T rep n);split<;>omega
  by_cases j:k=n
  ·subst j;show _<=(if R k=rep/\ Qbj R T rep k<T k then T k else Qbj R T rep k);split
   ·omega
   ·next hn=>exact Int.not_lt.1 (fun hlt=>hn ⟨e,hlt⟩)
  ·exact Int.le_trans (QjJ (by omega) e) mono
def QnO (S:Sx)(rep:Int):Prop:=(0<=rep/\ rep<8)/\ Qbj S.R S.T rep S.n+1<=1000000000
def nxY (S:Sx)(rep:Int)(p:List ByteArray)(fl:Bool)(v:ByteArray):Lf:=⟨p,fl,rep,Qbj S.R S.T rep S.n+1,v⟩
theorem Ql3 {S:Sx}{rep:Int}{p:List ByteArray}{fl:Bool}{v:ByteArray}(hs:QaQ S.R S.F S.T S.n S.l)(hp:QaS p)(hv:v.size<=200)(hf:fl=true ->emB v=true)(h:QnO S rep):PtO S [nxY S rep p fl v]:=by
 have g:=Qhb hs.1 rep;have z:=h.2;have u:=h.1;refine⟨by simp,fun y hy=> ?_,fun y hy=> ?_,fun y hy hx=> ?_⟩
 ·rw [List.mem_singleton.1 hy];exact⟨hp,hv,hf⟩
 ·rw [List.mem_singleton.1 hy];unfold Rok dtR nxY;simp only;omega
 ·rw [List.mem_singleton.1 hy] at hx;obtain⟨k,q,j,r,m⟩:=Qfg S.R S.F S.T _ _ _ S.n hx;have:=QjJ (R:=S.R) (T:=S.T) (rep:=rep) q (by first|exact j|exact j.symm);unfold nxY at m;simp only at m;omega
section
variable {S : Sx} {rep : Int} {p : List ByteArray} {fl : Bool} {v : ByteArray}
end
open Go.Deep
noncomputable def cDR (g:Lf ->Prop)(l P:List Lf)(j k:Nat):List Rn:=unF [] ((goL g (l.take j)).map dtR++(P.take k).map dtR)
def cNR (S:Sx)(P:List Lf)(k:Nat):List Rn:=unF (flat S.R S.F S.T S.n) ((P.take k).map dtR)
noncomputable def cNL (g:Lf ->Prop)(l P:List Lf)(j k:Nat):List Lf:=(P.take k).foldl (fun o y=>Qc0 y o) (stL g (l.take j))
noncomputable def cDL (P:List Lf)(k:Nat):List Lf:=(P.take k).foldl (fun o y=>Qc0 y o) []
theorem QbP {l:List Lf}{j:Nat}(h:j<l.length):l.take (j+1)=l.take j++[gL l j]:=by
 rw [List.take_add_one,List.getElem?_eq_getElem h];simp [gL,List.getD,h]
theorem Qcr {l:List Lf}{j:Nat}{x:Lf}(h:x∈l.take j):x∈l:=List.mem_of_mem_take h
section
variable {g : Lf -> Prop} {l P : List Lf} {j k : Nat}
theorem Qo9 (h:j<l.length)(hg:g (gL l j)):goL g (l.take (j+1))=goL g (l.take j)++[gL l j]:=by
 unfold goL;rw [QbP h,List.filter_append];congr 1;simp [Qal hg]
theorem Qo8 (h:j<l.length)(hg:¬g (gL l j)):goL g (l.take (j+1))=goL g (l.take j):=by
 unfold goL;rw [QbP h,List.filter_append];simp [Qaj hg]
theorem Qpa (h:j<l.length)(hg:g (gL l j)):stL g (l.take (j+1))=stL g (l.take j):=by
 unfold stL;rw [QbP h,List.filter_append];simp [Qal hg]
theorem QoZ (h:j<l.length)(hg:¬g (gL l j)):stL g (l.take (j+1))=stL g (l.take j)++[gL l j]:=by
 unfold stL;rw [QbP h,List.filter_append];congr 1;simp [Qaj hg]
theorem Qnj (h:j<l.length)(hg:g (gL l j)):cDR g l P (j+1) 0=ins (cDR g l P j 0) (dtR (gL l j)):=by
 unfold cDR;rw [Qo9 h hg,List.take_zero,List.map_append,List.map_nil,List.append_nil,List.append_nil];exact Qd8 _ _ _
theorem Qnl (h:j<l.length)(hg:¬g (gL l j)):cDR g l P (j+1) 0=cDR g l P j 0:=by unfold cDR;rw [Qo8 h hg]
theorem Qnm (h:j<l.length)(hg:g (gL l j)):cNL g l P (j+1) 0=cNL g l P j 0:=by unfold cNL;rw [Qpa h hg]
theorem Qnn (h:j<l.length)(hg:¬g (gL l j)):cNL g l P (j+1) 0=cNL g l P j 0++[gL l j]:=by
 unfold cNL;rw [QoZ h hg,List.take_zero];rfl
theorem QlX (h:k<P.length):cDR g l P j (k+1)=ins (cDR g l P j k) (dtR (gL P k)):=by
 unfold cDR;rw [QbP h,List.map_append,<- List.append_assoc];exact Qd8 _ _ _
theorem Qmd {S:Sx}(h:k<P.length):cNR S P (k+1)=ins (cNR S P k) (dtR (gL P k)):=by
 unfold cNR;rw [QbP h,List.map_append];exact Qd8 _ _ _
theorem Qmb (h:k<P.length):cNL g l P j (k+1)=Qc0 (gL P k) (cNL g l P j k):=by
 unfold cNL;rw [QbP h,List.foldl_append];rfl
theorem QlV (h:k<P.length):cDL P (k+1)=Qc0 (gL P k) (cDL P k):=by
 unfold cDL;rw [QbP h,List.foldl_append];rfl
theorem Qgr:cDR g l P l.length P.length=dlU g l P:=by unfold cDR dlU;rw [List.take_length,List.take_length]
theorem Qgt {S:Sx}:cNR S P P.length=nxU S P:=by unfold cNR nxU;rw [List.take_length]
theorem Qgs:cNL g l P l.length P.length=nxL g l P:=by unfold cNL nxL;rw [List.take_length,List.take_length]
theorem Qi8 (h:P.length<=1):cDL P P.length=P:=by
 unfold cDL;rw [List.take_length];match P,h with
 | [],_=>rfl
 | [y],_=>rfl
 | _::_::_,h=>simp at h
theorem Qfc:∀(P o:List Lf),(P.foldl (fun o y=>Qc0 y o) o).length=o.length+P.length
 | [],o=>rfl
 | y::P,o=>by rw [List.foldl_cons,Qfc P,Qbz,List.length_cons];omega
theorem QlY:(cNL g l P j k).length<=l.length+P.length:=by
 unfold cNL;rw [Qfc];have m:(stL g (l.take j)).length<=(l.take j).length:=List.length_filter_le _ _;rw [List.length_take] at m ⊢;omega
theorem QlS:(cDL P k).length<=P.length:=by
 unfold cDL;rw [Qfc,List.length_take,List.length_nil];omega
theorem QlW:(cDR g l P j k).length<=l.length+P.length:=by
 have m:=Qdh ((goL g (l.take j)).map dtR++(P.take k).map dtR) [];have q:(goL g (l.take j)).length<=(l.take j).length:=List.length_filter_le _ _;rw [List.length_append,List.length_map,List.length_map,List.length_take,List.length_nil] at m;rw [List.length_take] at q;show (unF [] _).length<=_;omega
theorem Qmc {S:Sx}:(cNR S P k).length<=S.n+P.length:=by
 have j:=Qdh ((P.take k).map dtR) (flat S.R S.F S.T S.n);rw [List.length_map,List.length_take,Qbp] at j;show (unF _ _).length<=_;omega
theorem QlZ {z:Lf}(h:z∈cNL g l P j k):z∈l \/z∈P:=by
 unfold cNL at h;rcases (Qfm (l:=l)).1 h with h|h
 ·exact .inl (Qcr (QgX.1 h).1)
 ·exact .inr (Qcr h)
theorem QlT {z:Lf}(h:z∈cDL P k):z∈P:=by
 unfold cDL at h;rcases (Qfm (l:=P)).1 h with h|h
 ·cases h
 ·exact Qcr h
end
section
variable {g : Lf -> Prop} {S : Sx} {P : List Lf}
theorem Qnk (h:QaQ S.R S.F S.T S.n S.l)(hp:PtO S P)(j k:Nat):QbV (cDR g S.l P j k):=(Qds _ [] Qlp (fun p m=>by
 refine Qln (g:=g) h hp p ?_;rcases List.mem_append.1 m with m|m
 ·obtain⟨x,q,rfl⟩:=List.mem_map.1 m;exact List.mem_append.2 (.inl (List.mem_map.2 ⟨x,QcY.2 ⟨Qcr (QcY.1 q).1,(QcY.1 q).2⟩,rfl⟩))
 ·obtain⟨x,q,rfl⟩:=List.mem_map.1 m;exact List.mem_append.2 (.inr (List.mem_map.2 ⟨x,Qcr q,rfl⟩)))).1
theorem Qno (h:QaQ S.R S.F S.T S.n S.l)(hp:PtO S P)(k:Nat):QbV (cNR S P k):=(Qds _ _ (Qbx S.n (Qdc h)) (fun p hq=>by
 obtain⟨x,j,rfl⟩:=List.mem_map.1 hq;exact hp.dot x (Qcr j))).1
theorem Ql8 {l:List Lf}(h:∀z∈l,1<=z.p.length/\ z.p.length<=8):∀i,i<l.length ->1<=(gL l i).p.length/\ (gL l i).p.length<=8:=fun i hi=>h _ (Qa2.2 ⟨i,hi,rfl⟩)
theorem QoL (h:QaQ S.R S.F S.T S.n S.l):∀z∈S.l,1<=z.p.length/\ z.p.length<=8:=fun z hz=>by
 obtain⟨j,k,e⟩:=Qa2.1 hz;have:=(h.2.2.1 j k).1;rw [e] at this;exact⟨this.1.1,this.1.2.1⟩
theorem PtO.pm (hp:PtO S P):∀z∈P,1<=z.p.length/\ z.p.length<=8:=fun z hz=>⟨(hp.ok z hz).1.1,(hp.ok z hz).1.2.1⟩
theorem Qma (h:QaQ S.R S.F S.T S.n S.l)(hp:PtO S P)(j k:Nat):∀i,i<(cNL g S.l P j k).length ->1<=(gL (cNL g S.l P j k) i).p.length/\ (gL (cNL g S.l P j k) i).p.length<=8:=Ql8 fun z m=>by
 rcases QlZ m with m|m
 ·exact QoL h z m
 ·exact hp.pm z m
theorem QlU (hp:PtO S P)(k:Nat):∀i,i<(cDL P k).length ->1<=(gL (cDL P k) i).p.length/\ (gL (cDL P k) i).p.length<=8:=Ql8 fun z hz=>hp.pm z (QlT hz)
end
theorem QnN {w:World}{lo g c:Nat}{ra:Option Addr}{rc:Nat}{l:List Lf}{u:List Rn}{P Q:Nat ->Nat}(h:LC w lo (.slice (some ⟨g,0,none⟩) l.length c) l P Q)(hf:FR w lo (.slice ra u.length rc) u):SNc w lo (some ⟨g,0,none⟩) c ra (mkS l u):=⟨fun w' h1 h2=>by
 have k:=h.move h1 h2;have j:FR w' lo (.slice ra u.length rc) u:=QaD hf (fun q hq=>h2 q (World.ownsRow.lt hf q hq).1 (World.ownsRow.lt hf q hq).2);obtain⟨a,m,e,s,_,_⟩:=j.fs;injection e with e1 e2 e3;subst e1;exact⟨k.lcap rfl,s.rseg⟩,h.cp rfl⟩
structure CS (w wr:World)(t1 t2:Nat)(va0 va1:Value)(gD cD:Nat)(DL:List Lf)(DP DQ:Nat ->Nat)(vr1:Value)(DU:List Rn)(gN cN:Nat)(NL:List Lf)(NP NQ:Nat ->Nat)(vr2:Value)(NU:List Rn):Prop where
 low:Below w.heap.size w wr
 a:Bx2 wr w.heap.size va0 va1
 r1:Bx2 wr (w.heap.size+1) (.slice none 0 0) (.slice none 0 0)
 r2:Bx2 wr (w.heap.size+1+1) (.slice none 0 0) (.slice none 0 0)
 d:Bx2 wr t1 (.slice (some ⟨gD,0,none⟩) DL.length cD) vr1
 n:Bx2 wr t2 (.slice (some ⟨gN,0,none⟩) NL.length cN) vr2
 ld:LC wr (w.heap.size+3) (.slice (some ⟨gD,0,none⟩) DL.length cD) DL DP DQ
 ln:LC wr (w.heap.size+3) (.slice (some ⟨gN,0,none⟩) NL.length cN) NL NP NQ
 fd:FR wr (w.heap.size+3) vr1 DU
 fn:FR wr (w.heap.size+3) vr2 NU
 h1:w.heap.size+3<=t1
 h2:w.heap.size+3<=t2
 h12:t1≠t2
 sd:gD≠t1/\ gD≠t2/\ gD≠gN
 sn:gN≠t1/\ gN≠t2
 s1:∀b,vr1.ownBlock=some b ->b≠t1/\ b≠t2/\ b≠gN
 s2:∀b,vr2.ownBlock=some b ->b≠t1/\ b≠t2/\ b≠gN
 pd:∀i,i<DL.length ->DP i≠t1/\ DP i≠t2
 pn:∀i,i<NL.length ->NP i≠t1/\ NP i≠t2
section
variable {w wr w1 : World} {t1 t2 : Nat} {va0 va1 : Value} {gD cD : Nat} {DL : List Lf} {DP DQ : Nat -> Nat} {vr1 : Value} {DU : List Rn} {gN cN : Nat} {NL : List Lf} {NP NQ : Nat -> Nat} {vr2 : Value} {NU : List Rn}
theorem CS.below (h:CS w wr t1 t2 va0 va1 gD cD DL DP DQ vr1 DU gN cN NL NP NQ vr2 NU)(hb:Below wr.heap.size wr w1):CS w w1 t1 t2 va0 va1 gD cD DL DP DQ vr1 DU gN cN NL NP NQ vr2 NU:=
 ⟨h.low.trans (hb.mono h.low.size),h.a.below hb h.a.lt,h.r1.below hb h.r1.lt,h.r2.below hb h.r2.lt,h.d.below hb h.d.lt,h.n.below hb h.n.lt,h.ld.below hb,h.ln.below hb,h.fd.below hb,h.fn.below hb,h.h1,h.h2,h.h12,h.sd,h.sn,h.s1,h.s2,h.pd,h.pn⟩
theorem Qb7 {a b:Nat}{n c:Nat}(h:a≠b):(Value.slice (some ⟨a,0,none⟩) n c).ownBlock≠some b:=fun e=>h (by simpa [Value.ownBlock] using e)
theorem CS.setD1 {v:Value}{U:List Rn}(h:CS w wr t1 t2 va0 va1 gD cD DL DP DQ vr1 DU gN cN NL NP NQ vr2 NU)(hb:Below wr.heap.size wr w1)(hf:FR w1 wr.heap.size v U):CS w (w1.setCell ⟨t1,1,none⟩ v) t1 t2 va0 va1 gD cD DL DP DQ v U gN cN NL NP NQ vr2 NU:=by
 have k:=h.below hb;have m:=h.d.lt;have q:=h.n.lt;have r:=(h.ln.row.lt gN rfl).2;have u:=h.h1;have j:∀b,v.ownBlock=some b ->wr.heap.size<=b:=fun b e=>(World.ownsRow.lt hf b e).1;refine⟨k.low.setCell (by show w.heap.size<=t1;omega) _,k.a.setAt _ _ (by show t1≠w.heap.size;omega),k.r1.setAt _ _ (by show t1≠w.heap.size+1;omega),k.r2.setAt _ _ (by show t1≠w.heap.size+1+1;omega),k.d.set1 _,k.n.setAt _ _ h.h12,k.ld.set _ _ (Qb7 h.sd.1) (fun i hi=>(h.pd i hi).1),k.ln.set _ _ (Qb7 h.sn.1) (fun i hi=>(h.pn i hi).1),(hf.weak (by omega)).setFar _ _ (fun e=>by have:=j _ e;have:wr.heap.size<=t1:=this;omega),k.fn.setFar _ _ (fun e=>(h.s2 _ e).1 rfl),h.h1,h.h2,h.h12,h.sd,h.sn,fun b e=> ?_,h.s2,h.pd,h.pn⟩;have:=j b e;exact⟨by omega,by omega,by omega⟩
theorem CS.setN1 {v:Value}{U:List Rn}(h:CS w wr t1 t2 va0 va1 gD cD DL DP DQ vr1 DU gN cN NL NP NQ vr2 NU)(hb:Below wr.heap.size wr w1)(hf:FR w1 wr.heap.size v U):CS w (w1.setCell ⟨t2,1,none⟩ v) t1 t2 va0 va1 gD cD DL DP DQ vr1 DU gN cN NL NP NQ v U:=by
 have k:=h.below hb;have m:=h.d.lt;have q:=h.n.lt;have r:=(h.ln.row.lt gN rfl).2;have u:=h.h2;have j:∀b,v.ownBlock=some b ->wr.heap.size<=b:=fun b e=>(World.ownsRow.lt hf b e).1;refine⟨k.low.setCell (by show w.heap.size<=t2;omega) _,k.a.setAt _ _ (by show t2≠w.heap.size;omega),k.r1.setAt _ _ (by show t2≠w.heap.size+1;omega),k.r2.setAt _ _ (by show t2≠w.heap.size+1+1;omega),k.d.setAt _ _ (Ne.symm h.h12),k.n.set1 _,k.ld.set _ _ (Qb7 h.sd.2.1) (fun i hi=>(h.pd i hi).2),k.ln.set _ _ (Qb7 h.sn.2) (fun i hi=>(h.pn i hi).2),k.fd.setFar _ _ (fun e=>(h.s1 _ e).2.1 rfl),(hf.weak (by omega)).setFar _ _ (fun e=>by have:=j _ e;have:wr.heap.size<=t2:=this;omega),h.h1,h.h2,h.h12,h.sd,h.sn,h.s1,fun b e=> ?_,h.pd,h.pn⟩;have:=j b e;exact⟨by omega,by omega,by omega⟩
theorem Qe9 {g n c:Nat}{l:List Lf}{P Q:Nat ->Nat}{lo t:Nat}{n0 c0:Nat}{a0:Option Addr}{u:Value}(h:LC w lo (.slice (some ⟨g,0,none⟩) n c) l P Q)(hp:∀i,i<l.length ->1<=(gL l i).p.length)(hb:Bx2 w t (.slice a0 n0 c0) u):∀i,i<l.length ->P i≠t:=fun i hi e=>by
 have j:=(h.pt i hi).2.2.2.1.cell (i:=0) (by have:=hp i hi;omega);rw [e,hb.c0] at j;cases j
theorem CS.setD0 {g2 c2 n2:Nat}{l2:List Lf}{P2 Q2:Nat ->Nat}(h:CS w wr t1 t2 va0 va1 gD cD DL DP DQ vr1 DU gN cN NL NP NQ vr2 NU)(hb:Below wr.heap.size wr w1)(hl:LC w1 (w.heap.size+3) (.slice (some ⟨g2,0,none⟩) n2 c2) l2 P2 Q2)(hn:n2=l2.length)(hg:wr.heap.size<=g2)(hp:∀i,i<l2.length ->1<=(gL l2 i).p.length):CS w (w1.setCell ⟨t1,0,none⟩ (.slice (some ⟨g2,0,none⟩) n2 c2)) t1 t2 va0 va1 g2 c2 l2 P2 Q2 vr1 DU gN cN NL NP NQ vr2 NU:=by
 subst hn;have k:=h.below hb;have q:=h.d.lt;have r:=h.n.lt;have v:=(h.ln.row.lt gN rfl).2;have u:=h.h1;have j:=Qe9 hl hp k.d;have m:=Qe9 hl hp k.n;exact⟨k.low.setCell (by show w.heap.size<=t1;omega) _,k.a.setAt _ _ (by show t1≠w.heap.size;omega),k.r1.setAt _ _ (by show t1≠w.heap.size+1;omega),k.r2.setAt _ _ (by show t1≠w.heap.size+1+1;omega),k.d.set0 _,k.n.setAt _ _ h.h12,hl.set _ _ (Qb7 (show g2≠t1 by omega)) j,k.ln.set _ _ (Qb7 h.sn.1) (fun i hi=>(h.pn i hi).1),k.fd.setFar _ _ (fun e=>(h.s1 _ e).1 rfl),k.fn.setFar _ _ (fun e=>(h.s2 _ e).1 rfl),h.h1,h.h2,h.h12,⟨by omega,by omega,by omega⟩,h.sn,h.s1,h.s2,fun i hi=>⟨j i hi,m i hi⟩,h.pn⟩
theorem CS.setN0 {g2 c2 n2:Nat}{l2:List Lf}{P2 Q2:Nat ->Nat}(h:CS w wr t1 t2 va0 va1 gD cD DL DP DQ vr1 DU gN cN NL NP NQ vr2 NU)(hb:Below wr.heap.size wr w1)(hl:LC w1 (w.heap.size+3) (.slice (some ⟨g2,0,none⟩) n2 c2) l2 P2 Q2)(hn:n2=l2.length)(hg:wr.heap.size<=g2)(hp:∀i,i<l2.length ->1<=(gL l2 i).p.length):CS w (w1.setCell ⟨t2,0,none⟩ (.slice (some ⟨g2,0,none⟩) n2 c2)) t1 t2 va0 va1 gD cD DL DP DQ vr1 DU g2 c2 l2 P2 Q2 vr2 NU:=by
 subst hn;have k:=h.below hb;have q:=h.d.lt;have r:=h.n.lt;have v:=(h.ld.row.lt gD rfl).2;have u:=h.h2;have m:=Qe9 hl hp k.d;have j:=Qe9 hl hp k.n;refine⟨k.low.setCell (by show w.heap.size<=t2;omega) _,k.a.setAt _ _ (by show t2≠w.heap.size;omega),k.r1.setAt _ _ (by show t2≠w.heap.size+1;omega),k.r2.setAt _ _ (by show t2≠w.heap.size+1+1;omega),k.d.setAt _ _ (Ne.symm h.h12),k.n.set0 _,k.ld.set _ _ (Qb7 h.sd.2.1) (fun i hi=>(h.pd i hi).2),hl.set _ _ (Qb7 (show g2≠t2 by omega)) j,k.fd.setFar _ _ (fun e=>(h.s1 _ e).2.1 rfl),k.fn.setFar _ _ (fun e=>(h.s2 _ e).2.1 rfl),h.h1,h.h2,h.h12,⟨h.sd.1,h.sd.2.1,by omega⟩,⟨by omega,by omega⟩,fun b e=> ?_,fun b e=> ?_,h.pd,fun i hi=>⟨m i hi,j i hi⟩⟩
 ·have:=(World.ownsRow.lt h.fd b e).2;exact⟨(h.s1 b e).1,(h.s1 b e).2.1,by omega⟩
 ·have:=(World.ownsRow.lt h.fn b e).2;exact⟨(h.s2 b e).1,(h.s2 b e).2.1,by omega⟩
theorem CS.appN {y:Lf}{p pc:Nat}(h:CS w wr t1 t2 va0 va1 gD cD [] DP DQ vr1 DU gN cN NL NP NQ vr2 NU)(hb:Below wr.heap.size wr w1)(hk:NL.length<=1048576)(hy:1<=y.p.length)(hp:∀i,i<NL.length ->1<=(gL NL i).p.length)(hp1:wr.heap.size<=p)(hp2:p<w1.heap.size)(hw:Wr w1 p 9 y.p.length (fun t=> .string (gS y.p t)))(hpc:y.p.length<=pc/\ pc<=9223372036854775807):
  ∃m s u,(Builtin.append_ #[24,24] 24 #[.slice (some ⟨gN,0,none⟩) NL.length cN,.slice (some ⟨w1.heap.size,0,none⟩) 1 1]).run Tryz.prog (w1.alloc (.cells #[.slice (some ⟨p,0,none⟩) y.p.length pc,.bool y.fl,.int .i64 y.r,.int .i64 y.q,.string y.v] 77))=.ok (.slice (some ⟨m,0,none⟩) (NL.length+1) s) u/\ Below w.heap.size w u/\ Bx2 u w.heap.size va0 va1/\ Bx2 u t2 (.slice (some ⟨gN,0,none⟩) NL.length cN) vr2/\
   ∃P' Q',CS w (u.setCell ⟨t2,0,none⟩ (.slice (some ⟨m,0,none⟩) (NL.length+1) s)) t1 t2 va0 va1 gD cD [] DP DQ vr1 DU m s (NL++[y]) P' Q' vr2 NU:=by
 have k:=h.below hb;have S:=h.low.size;have T:=hb.size;have W:=h.d.lt;have l2:=h.n.lt;have l3:=h.a.lt;have l4:=h.r1.lt;have l5:=h.r2.lt;have l6:=h.ln.row.lt gN rfl;have l7:=h.ld.row.lt gD rfl;have V:=h.h1;have Y:=h.h2;obtain⟨m,s,u,B,A,z⟩:=h.ln.app hb (by omega) hk y p pc (by omega) hp2 (fun e=>by simp [Value.ownBlock] at e;omega) hw hpc;have O:m=gN \/w1.heap.size<=m:=by
  rcases z.l with e|⟨b,e,P⟩
  ·exact .inl (by simpa [Value.ownBlock] using e)
  ·have F:m=b:=by simpa [Value.ownBlock] using e
   exact .inr (by omega)
 have R:=(A.row.lt m rfl).2;have row:∀b,(Value.slice (some ⟨gN,0,none⟩) NL.length cN).ownBlock=some b ->b=gN:=fun b e=>by
  have:gN=b:=by simpa [Value.ownBlock] using e
  exact this.symm
 have o:∀{b:Nat} {u0 u1:Value},Bx2 w1 b u0 u1 ->b≠gN ->Bx2 u b u0 u1:=fun hB hne=>hB.gr z.g (fun b e=>by rw [row b e];exact fun j=>hne j.symm);have Q:=o k.a (by omega);have N:=o k.r1 (by omega);have X:=o k.r2 (by omega);have U:=o k.d (fun e=>h.sn.1 e.symm);have M:=o k.n (fun e=>h.sn.2 e.symm);have J:FR u (w.heap.size+3) vr1 DU:=k.fd.gr z.g (fun b e j=>(h.s1 b e).2.2 (row b j.symm));have K:FR u (w.heap.size+3) vr2 NU:=k.fn.gr z.g (fun b e j=>(h.s2 b e).2.2 (row b j.symm));have L:LC u (w.heap.size+3) (.slice (some ⟨gD,0,none⟩) ([]:List Lf).length cD) [] DP DQ:=⟨QaD k.ld.row (fun b e=>by
  have e:gD=b:=by simpa [Value.ownBlock] using e
  subst e;exact z.g.block gD (by omega) (fun j=>h.sd.2.2 (row gD j.symm))),fun i hi=>by simp at hi⟩
 have H:Below w.heap.size w u:=k.low.grown z.g k.low.size (fun b e=>by rw [row b e];omega);have G:∀i,i<(NL++[y]).length ->1<=(gL (NL++[y]) i).p.length:=fun i hi=>by
  by_cases e:i=NL.length
  ·rw [e,Qhq];exact hy
  ·have Z:i<NL.length:=by simp at hi;omega
   rw [Qhr NL y Z];exact hp i Z
 have D:=Qe9 A G U;have I:=Qe9 A G M;have E:m≠t1/\ m≠t2/\ gD≠m:=by
  rcases O with e|e
  ·rw [e];exact⟨h.sn.1,h.sn.2,h.sd.2.2⟩
  ·exact⟨by omega,by omega,by omega⟩
 have C:NL.length+1=(NL++[y]).length:=by simp
 refine⟨m,s,u,B,H,Q,M,(fun i=>if i=NL.length then p else NP i),(fun i=>if i=NL.length then pc else NQ i),?_⟩;rw [C] at A ⊢;refine⟨H.setCell (by show w.heap.size<=t2;omega) _,Q.setAt _ _ (by show t2≠w.heap.size;omega),N.setAt _ _ (by show t2≠w.heap.size+1;omega),X.setAt _ _ (by show t2≠w.heap.size+1+1;omega),U.setAt _ _ (Ne.symm h.h12),M.set0 _,L.set _ _ (Qb7 h.sd.2.1) (fun i hi=>by simp at hi),A.set _ _ (Qb7 E.2.1) I,J.setFar _ _ (fun e=>(h.s1 _ e).2.1 rfl),K.setFar _ _ (fun e=>(h.s2 _ e).2.1 rfl),h.h1,h.h2,h.h12,⟨h.sd.1,h.sd.2.1,E.2.2⟩,⟨E.1,E.2.1⟩,fun b e=>⟨(h.s1 b e).1,(h.s1 b e).2.1,?_⟩,fun b e=>⟨(h.s2 b e).1,(h.s2 b e).2.1,?_⟩,fun i hi=>by simp at hi,fun i hi=>⟨D i hi,I i hi⟩⟩
 ·have:=(World.ownsRow.lt h.fd b e).2;rcases O with j|j
  ·rw [j];exact(h.s1 b e).2.2
  ·omega
 ·have:=(World.ownsRow.lt h.fn b e).2;rcases O with j|j
  ·rw [j];exact(h.s2 b e).2.2
  ·omega
end
theorem Qpo {G T:Prop}(h:Hid T ->G)(k:T):G:=h k
theorem QdU (gn:Lf ->Prop)(P:List Lf)(a:Option Addr)(c:Nat)(xa:Option Addr)(d gg gc:Nat)(pa:Option Addr)(ppc:Nat)(S:Sx)(w:World)(hs:QaQ S.R S.F S.T S.n S.l)(hP:PtO S P)(h1:Qdy w a S.l)(h3:Qb5 w xa S.n S.R S.F S.T)(hgg:gg<w.heap.size)(hgo:∀i,i<S.l.length ->w.cell? ⟨gg,i,none⟩=some (.bool (yes (gn (gL S.l i)))))(h2:Qdy w pa P):
  Calls Tryz.prog 91 #[.agg #[.slice a S.l.length c,.slice xa S.n d],.slice (some ⟨gg,0,none⟩) S.l.length gc,.slice pa P.length ppc] w fun e w'=>∃a m x t a' m' x' t',e=.returned (.tuple #[.agg #[.slice a (chX S (dlS gn S.l P)).l.length m,.slice x (chX S (dlS gn S.l P)).n t],.agg #[.slice a' (chY S (dlS gn S.l P)).l.length m',.slice x' (chY S (dlS gn S.l P)).n t'],.int .i64 (chC S (dlS gn S.l P))])/\ SNc w' w.heap.size a m x (chX S (dlS gn S.l P))/\ SNc w' w.heap.size a' m' x' (chY S (dlS gn S.l P))/\ Below w.heap.size w w':=by
 obtain⟨A,Gv⟩:∃A,((w.alloc (.cells #[.slice a S.l.length c,.slice xa S.n d] 29)).alloc (.cells #[.slice none 0 0,.slice none 0 0] 29)).alloc (.cells #[.slice none 0 0,.slice none 0 0] 29)=A:=⟨_,rfl⟩;obtain⟨W,hW⟩:∃W,(((A.alloc (.cells #[] 77)).alloc (.cells #[] 79)).alloc (.cells #[.slice (some ⟨A.heap.size,0,none⟩) 0 0,.slice (some ⟨A.heap.size+1,0,none⟩) 0 0] 29)).alloc (.cells #[] 77)=W:=⟨_,rfl⟩;have zA:A.heap.size=w.heap.size+1+1+1:=by rw [<- Gv];simp
 have bA:Below w.heap.size w A:=by rw [<- Gv];exact(Qak _ _ _).alloc (by simp;omega) _
 have al:∀(v:World) (o:Obj),Below v.heap.size v (v.alloc o):=fun v o=>zO _ _;have Kn:Below A.heap.size A W:=by rw [<- hW];exact(Qac (Qac (Qac (al _ _) (al _ _)) (al _ _)) (al _ _))
 have b0:Below w.heap.size w W:=Qac bA Kn;have zW:W.heap.size=w.heap.size+7:=by rw [<- hW];simp;omega
 have A0:Bx2 W w.heap.size (.slice a S.l.length c) (.slice xa S.n d):=by
  have:Bx2 A w.heap.size (.slice a S.l.length c) (.slice xa S.n d):=by rw [<- Gv];exact((Bx2.made w _ _ _).allocs _).allocs _
  exact this.below Kn this.lt
 have J4:Bx2 W (w.heap.size+1) (.slice none 0 0) (.slice none 0 0):=by
  have:Bx2 A (w.heap.size+1) (.slice none 0 0) (.slice none 0 0):=by
   rw [<- Gv];have:=Bx2.made (w.alloc (.cells #[.slice a S.l.length c,.slice xa S.n d] 29)) (.slice none 0 0) (.slice none 0 0) 29;exact(by simpa using this:Bx2 _ (w.heap.size+1) _ _).allocs _
  exact this.below Kn this.lt
 have J5:Bx2 W (w.heap.size+1+1) (.slice none 0 0) (.slice none 0 0):=by
  have:Bx2 A (w.heap.size+1+1) (.slice none 0 0) (.slice none 0 0):=by
   rw [<- Gv];simpa using Bx2.made ((w.alloc (.cells #[.slice a S.l.length c,.slice xa S.n d] 29)).alloc (.cells #[.slice none 0 0,.slice none 0 0] 29)) (.slice none 0 0) (.slice none 0 0) 29
  exact this.below Kn this.lt
 have J2:LC W (w.heap.size+3) (.slice (some ⟨A.heap.size,0,none⟩) 0 0) [] (fun _=>0) (fun _=>0):=by
  refine⟨?_,fun i hi=>by simp at hi⟩;have q:=World.ownsRow_lit (base:=w.heap.size+3) (e:=77) (size:=5) A #[] 0 (by omega) (by unfold maxLen;omega) rfl;have q3:=((World.ownsRow.alloc q (.cells #[] 79)).alloc (.cells #[.slice (some ⟨A.heap.size,0,none⟩) 0 0,.slice (some ⟨A.heap.size+1,0,none⟩) 0 0] 29)).alloc (.cells #[] 77);rw [hW] at q3;exact q3
 have Ju:FR W (w.heap.size+3) (.slice (some ⟨A.heap.size+1,0,none⟩) 0 0) []:=by
  have q:=World.ownsRow_lit (base:=w.heap.size+3) (e:=79) (size:=3) (A.alloc (.cells #[] 77)) #[] 0 (by simp;omega) (by unfold maxLen;omega) rfl;have zz:(A.alloc (.cells #[] 77)).heap.size=A.heap.size+1:=by simp
  rw [zz] at q;have q3:=(World.ownsRow.alloc q (.cells #[.slice (some ⟨A.heap.size,0,none⟩) 0 0,.slice (some ⟨A.heap.size+1,0,none⟩) 0 0] 29)).alloc (.cells #[] 77);rw [hW] at q3;exact q3
 have D0:Bx2 W (A.heap.size+1+1) (.slice (some ⟨A.heap.size,0,none⟩) 0 0) (.slice (some ⟨A.heap.size+1,0,none⟩) 0 0):=by
  have q:=Bx2.made ((A.alloc (.cells #[] 77)).alloc (.cells #[] 79)) (.slice (some ⟨A.heap.size,0,none⟩) 0 0) (.slice (some ⟨A.heap.size+1,0,none⟩) 0 0) 29;have zz:((A.alloc (.cells #[] 77)).alloc (.cells #[] 79)).heap.size=A.heap.size+1+1:=by simp
  rw [zz] at q;have q3:=q.allocs (.cells #[] 77);rw [hW] at q3;exact q3
 have J3:LC W (w.heap.size+3) (.slice (some ⟨A.heap.size+1+1+1,0,none⟩) 0 0) [] (fun _=>0) (fun _=>0):=by
  refine⟨?_,fun i hi=>by simp at hi⟩;have q:=World.ownsRow_lit (base:=w.heap.size+3) (e:=77) (size:=5) (((A.alloc (.cells #[] 77)).alloc (.cells #[] 79)).alloc (.cells #[.slice (some ⟨A.heap.size,0,none⟩) 0 0,.slice (some ⟨A.heap.size+1,0,none⟩) 0 0] 29)) #[] 0 (by simp;omega) (by unfold maxLen;omega) rfl;have zz:(((A.alloc (.cells #[] 77)).alloc (.cells #[] 79)).alloc (.cells #[.slice (some ⟨A.heap.size,0,none⟩) 0 0,.slice (some ⟨A.heap.size+1,0,none⟩) 0 0] 29)).heap.size=A.heap.size+1+1+1:=by simp
  rw [zz,hW] at q;exact q
 have Kp:=Qao.1 hs.1;have HU:=hid (QeH xa S.n d S.R S.F S.T (some ⟨A.heap.size+1,0,none⟩) 0 0 (fun _=>0) (fun _=>0) (fun _=>0) W Kp.2 (by omega) (h3.below b0) (.inl rfl) Kp.1 (fun i hi=>absurd hi (by omega)));have J0:Hid (unL S.R S.F S.T S.n (fun _=>0) (fun _=>0) (fun _=>0) 0=cNR S P 0):=hid (by unfold unL cNR;simp [flat]);rw [J0.out] at HU;have Li:Hid (A.heap.size=w.heap.size+3):=hid (by omega);have H1:=hid h1;have H2:=hid h2;have K9:=hid hs;have Jm:=hid hP;have Lh:Hid (∀wr,Below w.heap.size w wr ->∀i,i<S.l.length ->wr.cell? ⟨gg,i,none⟩=some (.bool (yes (gn (gL S.l i))))):=hid (fun wr b i hi=>(b.cell (p:=⟨gg,i,none⟩) hgg).trans (hgo i hi));have Kg:Hid (S.l.length<=1000/\ S.n<=1000/\ P.length<=1):=hid ⟨hs.2.1,Kp.2,hP.one⟩;have Je:=hid A0;have Gs:=hid J4;have Gt:=hid J5;have Jh:=hid D0;have Ke:=hid J2;have Kd:=hid Ju;have Kh:=hid J3;have Jv:=hid b0;have J1:=hid zW;obtain⟨X,hX⟩:∃X,chX S (dlS gn S.l P)=X:=⟨_,rfl⟩;obtain⟨Y,hY⟩:∃Y,chY S (dlS gn S.l P)=Y:=⟨_,rfl⟩;obtain⟨CC,hC⟩:∃CC,chC S (dlS gn S.l P)=CC:=⟨_,rfl⟩;have Hi:=hid (And.intro hX (And.intro hY hC));rw [hX,hY,hC];have k1:=A0.c1;have k2:=D0.c1;have Hw:Hid (∀j k,QbV (cDR gn S.l P j k)/\ (cDR gn S.l P j k).length<=1001):=hid (fun j k=>⟨Qnk hs hP j k,by have:=QlW (g:=gn) (l:=S.l) (P:=P) (j:=j) (k:=k);have:=hs.2.1;have:=hP.one;omega⟩);have Gl:Hid (∀k,QbV (cNR S P k)/\ (cNR S P k).length<=1001):=hid (fun k=>⟨Qno hs hP k,by have:=Qmc (P:=P) (k:=k) (S:=S);have:=Kp.2;have:=hP.one;omega⟩);have Ho:Hid (∀j k,(cNL gn S.l P j k).length<=1001/\∀i,i<(cNL gn S.l P j k).length ->1<=(gL (cNL gn S.l P j k) i).p.length/\ (gL (cNL gn S.l P j k) i).p.length<=8):=hid (fun j k=>⟨by have:=QlY (g:=gn) (l:=S.l) (P:=P) (j:=j) (k:=k);have:=hs.2.1;have:=hP.one;omega,Qma hs hP j k⟩);have H6:Hid (∀k,(cDL P k).length<=1/\∀i,i<(cDL P k).length ->1<=(gL (cDL P k) i).p.length/\ (gL (cDL P k) i).p.length<=8):=hid (fun k=>⟨by have:=QlS (P:=P) (k:=k);have:=hP.one;omega,QlU hP k⟩);clear A0 J4 J5 D0 J2 Ju J3 b0 bA Kn al zA zW h1 h2 h3 hs hP hgo hgg Kp hX hY hC J0;go_enter Tryz.func91,Tryz.ntmps91;go_wp2_with fail;try rw [Gv]
 try rw [hW]
 clear hW Gv;refine HU.mono ?_;rintro e w1 ⟨vr,rfl,f1,b1⟩;obtain⟨ra,rc,Lu,_⟩:=f1.fs;subst Lu;obtain⟨nu,La⟩:∃nu,(cNR S P 0).length=nu:=⟨_,rfl⟩;rw [La] at f1 ⊢;clear La;obtain⟨w2,Jb⟩:∃w2,w1.alloc (.cells #[.slice (some ⟨A.heap.size+1+1+1,0,none⟩) 0 0,.slice ra nu rc] 29)=w2:=⟨_,rfl⟩;have b2:Below w1.heap.size w1 w2:=by rw [<- Jb];exact zO _ _
 have Gc:=Qac b1 b2;have Hx:Hid (CS w w2 (A.heap.size+1+1) w1.heap.size (.slice a S.l.length c) (.slice xa S.n d) A.heap.size 0 [] (fun _=>0) (fun _=>0) (.slice (some ⟨A.heap.size+1,0,none⟩) 0 0) (cDR gn S.l P 0 0) (A.heap.size+1+1+1) 0 (cNL gn S.l P 0 0) (fun _=>0) (fun _=>0) (.slice ra nu rc) (cNR S P 0)):=hid (by
  have hz:=J1.out;have L3:=b1.size;have Lx:=Li.out;have e1:cDR gn S.l P 0 0=[]:=by unfold cDR goL;simp [unF]
  have e2:cNL gn S.l P 0 0=[]:=by unfold cNL stL;simp
  rw [e1,e2];refine⟨Qac Jv.out Gc,Je.below Gc Je.lt,Gs.below Gc Gs.lt,Gt.below Gc Gt.lt,Jh.below Gc Jh.lt,?_,Ke.below Gc,Kh.below Gc,Kd.below Gc,(f1.below b2).weak (by omega),by omega,by omega,by omega,⟨by omega,by omega,by omega⟩,⟨by omega,by omega⟩,fun b e=> ?_,fun b e=> ?_,fun i hi=>by simp at hi,fun i hi=>by simp at hi⟩
  ·rw [<- Jb];exact Bx2.made _ _ _ _
  ·have e:A.heap.size+1=b:=by simpa [Value.ownBlock] using e
   exact⟨by omega,by omega,by omega⟩
  ·have:=World.ownsRow.lt f1 b e;exact⟨by omega,by omega,by omega⟩)
 clear f1 b1 b2 Gc k1 k2 HU Je Gs Gt Jh Ke Kd Kh Jv J1;go_wp2_with fail;try rw [Jb]
 clear Jb;obtain⟨t2,J7⟩:∃t2,w1.heap.size=t2:=⟨_,rfl⟩;rw [J7] at Hx ⊢;clear J7;obtain⟨t1,Lb⟩:∃t1,A.heap.size+1+1=t1:=⟨_,rfl⟩;rw [Lb] at Hx ⊢;clear Lb;obtain⟨gD,J9⟩:∃gD,A.heap.size=gD:=⟨_,rfl⟩;rw [J9] at Hx;clear J9;go_loopw [11] (fun i wr=>∃(j gN cN:Nat) (NP NQ:Nat ->Nat) (Gk:Value),j<=S.l.length/\ i=.int .i64 j/\ Hid (CS w wr t1 t2 (.slice a S.l.length c) (.slice xa S.n d) gD 0 [] (fun _=>0) (fun _=>0) Gk (cDR gn S.l P j 0) gN cN (cNL gn S.l P j 0) NP NQ (.slice ra nu rc) (cNR S P 0))) (fun i _=>S.l.length - (intOf i).toNat);case atStart=>exact⟨0,_,_,_,_,_,Nat.zero_le _,rfl,Hx⟩
 case round=>
  clear Hx;obtain⟨j,gN,cN,NP,NQ,Gk,hj,rfl,V⟩:=hrel;have Ly:S.l.length<=1000:=Kg.1;have a0:=V.a.c0;by_cases Ht:j<S.l.length
  ·have i1:(0:Int)<=(j:Int):=Int.natCast_nonneg _;have i2:(j:Int)<(S.l.length:Int):=by omega
   obtain⟨C,ao,rfl,G3,Ko⟩:=(H1.out).resolve_left (by omega);obtain⟨Lv,pc,⟨u,d0⟩,sg,O,c2,c3,c4⟩:=Ko j Ht;have Gg:=Qh5 K9.out j Ht;obtain⟨pb,po,rfl,G2,Ge⟩:=sg.resolve_left (by omega);have Gh:Hid (Rok (dtR (gL S.l j))):=hid (QiT (Qdc K9.out) (QfW K9.out _ (Qa2.2 ⟨j,Ht,rfl⟩)));have K4:=hid (fun wr b=>Lh.out wr b j Ht);obtain⟨y,hy⟩:∃y,gL S.l j=y:=⟨_,rfl⟩;rw [hy] at u O c2 c3 c4 d0 Ge Gg Gh K4;have HY:=hid hy;obtain⟨s,I,U,M,J⟩:=y;dsimp only at u O c2 c3 c4 d0 Ge Gg Gh K4;have H5:Hid (∀w',Below w.heap.size w w' ->(w'.cell? ⟨C,ao+j*5,none⟩=some (.slice (some ⟨pb,po,none⟩) s.length pc)/\ w'.cell? ⟨C,ao+j*5+1,none⟩=some (.bool I)/\ w'.cell? ⟨C,ao+j*5+2,none⟩=some (.int .i64 U)/\ w'.cell? ⟨C,ao+j*5+3,none⟩=some (.int .i64 M)/\ w'.cell? ⟨C,ao+j*5+4,none⟩=some (.string J))):=hid (fun w' b=>⟨(b.cell (p:=⟨C,_,none⟩) G3).trans u,(b.cell (p:=⟨C,_,none⟩) G3).trans O,(b.cell (p:=⟨C,_,none⟩) G3).trans c2,(b.cell (p:=⟨C,_,none⟩) G3).trans c3,(b.cell (p:=⟨C,_,none⟩) G3).trans c4⟩);have Kl:Hid (∀w',Below w.heap.size w w' ->pb<w'.heap.size/\∀t,t<s.length ->w'.cell? ⟨pb,po+t,none⟩=some (.string (gS s t))):=hid (fun w' b=>⟨Nat.lt_of_lt_of_le G2 b.size,fun t ht=>(b.cell (p:=⟨pb,po+t,none⟩) G2).trans (Ge t ht)⟩);have Gu:=hid Gg;obtain⟨w5,Gf⟩:∃w5,wr.alloc (.cells #[.int .i64 U,.int .i64 M] 75)=w5:=⟨_,rfl⟩;have b5:Below wr.heap.size wr w5:=by rw [<- Gf];exact zO _ _
   have X5:Bx2 w5 wr.heap.size (.int .i64 U) (.int .i64 M):=by rw [<- Gf];exact Bx2.made _ _ _ _
   have G:=hid (V.below b5);have m2:=(H5 wr V.low).2.2.1;have m3:=(H5 wr V.low).2.2.2.1;have m5:=K4 w5 G.low;have x0:=X5.c0;have x1:=X5.c1;clear hy Ko sg Ge G2 G3 b5 X5 d0 Gg V K4 u O c2 c3 c4;cases hgj:yes (gn ⟨s,I,U,M,J⟩) with
   | true=>
    rw [hgj] at m5;have Gx:gn (gL S.l j):=by rw [HY.out];exact Qb9.1 hgj
    have H7:Hid (ins (cDR gn S.l P j 0) (U,M,M)=cDR gn S.l P (j+1) 0):=hid (by rw [Qnj Ht Gx,HY.out];rfl);have H8:Hid (cNL gn S.l P j 0=cNL gn S.l P (j+1) 0):=hid (Qnm Ht Gx).symm;obtain⟨fx,fc,Kw,J8,_,_⟩:=G.fd.fs;subst Kw;have Jj:=hid (Qfv fx fc (cDR gn S.l P j 0) U M M w5 (by have:=(Hw j 0).2;omega) J8 (Hw j 0).1 Gh.out);have d1:=G.d.c1;obtain⟨ln,H0⟩:∃ln,(cDR gn S.l P j 0).length=ln:=⟨_,rfl⟩;rw [H0] at Jj d1;clear J8 Gx hgj;go_wp2_with fail;refine Jj.mono ?_;rintro e w6 ⟨v6,rfl,Gw,b6⟩;obtain⟨vy,vm,vc,rfl⟩:=QaO Gw;have D6:=G.d.below b6 G.d.lt;have o1:=D6.c1;have of:=D6.f;rw [H0] at o1;have Hz:=hid (G.setD1 b6 Gw);rw [H7.out,H8.out] at Hz;clear Gw b6 D6 Jj x0 x1 m2 m3 m5 d1 a0 Gf H0 G;go_wp2_with fail;go_roundw;case rel=>exact⟨j+1,gN,cN,NP,NQ,_,Ht,by go_num,Hz⟩
    case measure=>simp [intOf];omega
   | false=>
    rw [hgj] at m5;have Gx:¬gn (gL S.l j):=by rw [HY.out];intro h;rw [Qal h] at hgj;cases hgj
    have H7:Hid (cDR gn S.l P j 0=cDR gn S.l P (j+1) 0):=hid (Qnl Ht Gx).symm;have H8:Hid (cNL gn S.l P j 0++[⟨s,I,U,M,J⟩]=cNL gn S.l P (j+1) 0):=hid (by rw [Qnn Ht Gx,HY.out]);have Hk:Hid (∀w',Below w.heap.size w w' ->w'.cell? ⟨w.heap.size,0,none⟩=some (.slice (some ⟨C,ao,none⟩) S.l.length c) ->(Below w.heap.size w w'/\ w'.cell? ⟨w.heap.size,0,none⟩=some (.slice (some ⟨C,ao,none⟩) S.l.length c)/\ w'.cell? ⟨C,ao+j*5,none⟩=some (.slice (some ⟨pb,po,none⟩) s.length pc)/\ w'.cell? ⟨C,ao+j*5+1,none⟩=some (.bool I)/\ w'.cell? ⟨C,ao+j*5+2,none⟩=some (.int .i64 U)/\ w'.cell? ⟨C,ao+j*5+3,none⟩=some (.int .i64 M)/\ w'.cell? ⟨C,ao+j*5+4,none⟩=some (.string J))):=hid (fun w' hB h0=>⟨hB,h0,H5.out w' hB⟩);have Kf:Hid (∀w',Below w5.heap.size w5 w' ->Calls Tryz.prog 88 #[.agg #[.slice (some ⟨pb,po,none⟩) s.length pc,.bool I,.int .i64 U,.int .i64 M,.string J]] w' fun e w''=>∃q cap,e=.returned (.agg #[.slice (some ⟨q,0,none⟩) s.length cap,.bool I,.int .i64 U,.int .i64 M,.string J])/\ Below w'.heap.size w' w''/\ w'.heap.size<=q/\ q<w''.heap.size/\ Wr w'' q 9 s.length (fun t=> .string (gS s t))/\ s.length<=cap/\ cap<=9223372036854775807):=hid (fun w' b=>by
     have hq:=Kl w' (Qac G.low b);exact Qda pb po s.length pc ⟨s,I,U,M,J⟩ w' rfl (by have:=Gu.2;omega) hq.1 hq.2)
    have Km:Hid (∀E p pc',Below w5.heap.size w5 E ->w5.heap.size<=p ->p<E.heap.size ->Wr E p 9 s.length (fun t=> .string (gS s t)) ->s.length<=pc'/\ pc'<=9223372036854775807 ->_):=hid (fun E p pc' z p1 p2 hw hcap=>G.appN (y:=⟨s,I,U,M,J⟩) (p:=p) (pc:=pc') z (by have:=(Ho j 0).1;omega) Gu.1 (fun i hi=>((Ho j 0).2 i hi).1) p1 p2 hw hcap);obtain⟨ln,H0⟩:∃ln,(cNL gn S.l P j 0).length=ln:=⟨_,rfl⟩;have Ga:=hid H0;clear Gx hgj H5 Kl;go_wp2_with fail;try rw [Gf]
    clear Gf x0 x1 m2 m3 m5 a0;refine zR (S:=fun w'=>Below w.heap.size w w'/\ w'.cell? ⟨w.heap.size,0,none⟩=some (.slice (some ⟨C,ao,none⟩) S.l.length c)/\ w'.cell? ⟨C,ao+j*5,none⟩=some (.slice (some ⟨pb,po,none⟩) s.length pc)/\ w'.cell? ⟨C,ao+j*5+1,none⟩=some (.bool I)/\ w'.cell? ⟨C,ao+j*5+2,none⟩=some (.int .i64 U)/\ w'.cell? ⟨C,ao+j*5+3,none⟩=some (.int .i64 M)/\ w'.cell? ⟨C,ao+j*5+4,none⟩=some (.string J)) (Hk _ G.low.drew (G.a.below zI.drew G.a.lt).c0) (fun qh=> ?_);refine tZ 0 56 ?_;refine tZ 2 58 ?_;refine tZ 3 59 ?_;refine tZ 4 60 ?_;refine tZ 5 61 ?_;refine tZ 6 62 ?_;refine Qbu (i:=1) (j:=7) (d:=some 57) (d':=some 63) (by kernel_rfl) (by kernel_rfl) (by kernel_rfl) ?_ ?_
    ·
     have H:=(G.n.below zI.drew G.n.lt).c0;rw [H0] at H;intro o D G1 K r;simp only [gZa,gZb,gZc,gZd] at D;subst D;go_simp;refine r.out _ _ (Hk _ G.low.drew (G.a.below zI.drew G.a.lt).c0) (fun qh=> ?_);clear r K;try simp only [zP]
     clear H;refine cZ 7 ?_;intro K r;go_simp;refine(Kf _ zI.drew).mono ?_;rintro e E ⟨p7,Kx,rfl,z,G8,G9,Hm,G4⟩;have Q:Below w5.heap.size w5 E:=⟨z.os,z.tape,z.output,z.size,z.block⟩;have L1:=G.below Q;have L2:=L1.below (zO E (.cells #[.slice (some ⟨p7,0,none⟩) s.length Kx,.bool I,.int .i64 U,.int .i64 M,.string J] 77));obtain⟨q8,Gd,w8,Hg,l8,A8,L,P8,Q8,h8⟩:=Km E p7 Kx Q G8 G9 Hm G4;have Gm:=hid h8;refine r.out _ _ (Hk _ L1.low L1.a.c0) (fun qh=> ?_);clear r K;try simp only [zP]
     refine cZ 8 ?_;intro K r;go_simp;refine r.out _ _ (Hk _ L2.low L2.a.c0) (fun qh=> ?_);clear r K;try simp only [zP]
     rw [Ga.out] at Hg;refine cZ 9 ?_;intro K r;refine Qcj _ _ _ _ rfl Hg (by rfl) (by rfl) rfl ?_;refine r.out _ _ (Hk _ l8 A8.c0) (fun qh=> ?_);clear r K;try simp only [zP]
     refine tZ 10 66 ?_;have H:=L.c0;have tf:=L.f;rw [Ga.out] at H;refine cZ 11 ?_;intro K r;go_simp;have h9:=Gm.out;rw [Ga.out] at h9;refine r.out _ _ (Hk _ h9.low h9.a.c0) (fun qh=> ?_);clear r K;try simp only [zP]
     refine zD ?_;have Gi:=hid h9;rw [H7.out,H8.out] at Gi;clear qh z Q L1 L2 Hg l8 A8 L h8 h9 H tf Hm G4 G8 G9 Km Kf Hk Gm G H0;go_wp2_with fail;go_roundw;case rel=>exact⟨j+1,q8,Gd,P8,Q8,Gk,Ht,by go_num,Gi⟩
     case measure=>simp [intOf];omega
    ·
     intro o D G1 K r;simp only [gZa,gZb,gZc,gZd] at D;subst D;go_simp;refine(Kf _ zI.drew).mono ?_;rintro e E ⟨p7,Kx,rfl,z,G8,G9,Hm,G4⟩;have Q:Below w5.heap.size w5 E:=⟨z.os,z.tape,z.output,z.size,z.block⟩;have L1:=G.below Q;have L2:=L1.below (zO E (.cells #[.slice (some ⟨p7,0,none⟩) s.length Kx,.bool I,.int .i64 U,.int .i64 M,.string J] 77));obtain⟨q8,Gd,w8,Hg,l8,A8,L,P8,Q8,h8⟩:=Km E p7 Kx Q G8 G9 Hm G4;have Gm:=hid h8;refine r.out _ _ (Hk _ L1.low L1.a.c0) (fun qh=> ?_);clear r K;try simp only [zP]
     refine Qbu (i:=1) (j:=8) (d:=some 57) (d':=some 64) (by kernel_rfl) (by kernel_rfl) (by kernel_rfl) ?_ ?_
     ·
      have H:=L1.n.c0;rw [H0] at H;intro o D G1 K r;simp only [gZa,gZb,gZc,gZd] at D;subst D;go_simp;refine r.out _ _ (Hk _ L1.low L1.a.c0) (fun qh=> ?_);clear r K;try simp only [zP]
      clear H;refine cZ 8 ?_;intro K r;go_simp;refine r.out _ _ (Hk _ L2.low L2.a.c0) (fun qh=> ?_);clear r K;try simp only [zP]
      rw [Ga.out] at Hg;refine cZ 9 ?_;intro K r;refine Qcj _ _ _ _ rfl Hg (by rfl) (by rfl) rfl ?_;refine r.out _ _ (Hk _ l8 A8.c0) (fun qh=> ?_);clear r K;try simp only [zP]
      refine tZ 10 66 ?_;have H:=L.c0;have tf:=L.f;rw [Ga.out] at H;refine cZ 11 ?_;intro K r;go_simp;have h9:=Gm.out;rw [Ga.out] at h9;refine r.out _ _ (Hk _ h9.low h9.a.c0) (fun qh=> ?_);clear r K;try simp only [zP]
      refine zD ?_;have Gi:=hid h9;rw [H7.out,H8.out] at Gi;clear qh z Q L1 L2 Hg l8 A8 L h8 h9 H tf Hm G4 G8 G9 Km Kf Hk Gm G H0;go_wp2_with fail;go_roundw;case rel=>exact⟨j+1,q8,Gd,P8,Q8,Gk,Ht,by go_num,Gi⟩
      case measure=>simp [intOf];omega
     ·
      intro o D G1 K r;simp only [gZa,gZb,gZc,gZd] at D;subst D;go_simp;refine r.out _ _ (Hk _ L2.low L2.a.c0) (fun qh=> ?_);clear r K;try simp only [zP]
      have H:=L2.n.c0;rw [H0] at H;refine cZ 1 ?_;intro K r;go_simp;refine r.out _ _ (Hk _ L2.low L2.a.c0) (fun qh=> ?_);clear r K;try simp only [zP]
      clear H;rw [Ga.out] at Hg;refine cZ 9 ?_;intro K r;refine Qcj _ _ _ _ rfl Hg (by rfl) (by rfl) rfl ?_;refine r.out _ _ (Hk _ l8 A8.c0) (fun qh=> ?_);clear r K;try simp only [zP]
      refine tZ 10 66 ?_;have H:=L.c0;have tf:=L.f;rw [Ga.out] at H;refine cZ 11 ?_;intro K r;go_simp;have h9:=Gm.out;rw [Ga.out] at h9;refine r.out _ _ (Hk _ h9.low h9.a.c0) (fun qh=> ?_);clear r K;try simp only [zP]
      refine zD ?_;have Gi:=hid h9;rw [H7.out,H8.out] at Gi;clear qh z Q L1 L2 Hg l8 A8 L h8 h9 H tf Hm G4 G8 G9 Km Kf Hk Gm G H0;go_wp2_with fail;go_roundw;case rel=>exact⟨j+1,q8,Gd,P8,Q8,Gk,Ht,by go_num,Gi⟩
      case measure=>simp [intOf];omega
  ·obtain rfl:j=S.l.length:=by omega
   go_wp2_with fail;go_loopw [13] (fun i wr=>∃(k gD cD gN cN:Nat) (DP DQ NP NQ:Nat ->Nat) (Gk Le:Value),k<=P.length/\ i=.int .i64 k/\ Hid (CS w wr t1 t2 (.slice a S.l.length c) (.slice xa S.n d) gD cD (cDL P k) DP DQ Gk (cDR gn S.l P S.l.length k) gN cN (cNL gn S.l P S.l.length k) NP NQ Le (cNR S P k))) (fun i _=>P.length - (intOf i).toNat);case atStart=>exact⟨0,_,_,_,_,_,_,_,_,_,_,Nat.zero_le _,rfl,V⟩
   case round=>
    clear V a0;obtain⟨k,gD,cD,gN,cN,DP,DQ,NP,NQ,Gk,Le,hk,rfl,V⟩:=hrel;have Lz:P.length<=1:=Kg.2.2;by_cases Hn:k<P.length
    ·skip;have i1:(0:Int)<=(k:Int):=Int.natCast_nonneg _;have i2:(k:Int)<(P.length:Int):=by omega
     obtain⟨Z,N,rfl,G6,Ko⟩:=(H2.out).resolve_left (by omega);obtain⟨Lv,pc,⟨u,d0⟩,sg,O,c2,c3,c4⟩:=Ko k Hn;have G0:gL P k∈P:=Qa2.2 ⟨k,Hn,rfl⟩;have Gg:=Jm.pm _ G0;obtain⟨pb,po,rfl,G2,Ge⟩:=sg.resolve_left (by omega);have Gh:Hid (Rok (dtR (gL P k))):=hid (Jm.dot _ G0);have H7:Hid (ins (cDR gn S.l P S.l.length k) (dtR (gL P k))=cDR gn S.l P S.l.length (k+1)):=hid (QlX Hn).symm;have H8:Hid (ins (cNR S P k) (dtR (gL P k))=cNR S P (k+1)):=hid (Qmd Hn).symm;have K2:Hid (Qc0 (gL P k) (cDL P k)=cDL P (k+1)):=hid (QlV Hn).symm;have K3:Hid (Qc0 (gL P k) (cNL gn S.l P S.l.length k)=cNL gn S.l P S.l.length (k+1)):=hid (Qmb Hn).symm;obtain⟨y,hy⟩:∃y,gL P k=y:=⟨_,rfl⟩;rw [hy] at u O c2 c3 c4 d0 Ge Gg Gh H7 H8 K2 K3;obtain⟨s,I,U,M,J⟩:=y;dsimp only [dtR] at u O c2 c3 c4 d0 Ge Gg Gh H7 H8 K2 K3;have H5:Hid (∀w',Below w.heap.size w w' ->(w'.cell? ⟨Z,N+k*5,none⟩=some (.slice (some ⟨pb,po,none⟩) s.length pc)/\ w'.cell? ⟨Z,N+k*5+1,none⟩=some (.bool I)/\ w'.cell? ⟨Z,N+k*5+2,none⟩=some (.int .i64 U)/\ w'.cell? ⟨Z,N+k*5+3,none⟩=some (.int .i64 M)/\ w'.cell? ⟨Z,N+k*5+4,none⟩=some (.string J))):=hid (fun w' b=>⟨(b.cell (p:=⟨Z,_,none⟩) G6).trans u,(b.cell (p:=⟨Z,_,none⟩) G6).trans O,(b.cell (p:=⟨Z,_,none⟩) G6).trans c2,(b.cell (p:=⟨Z,_,none⟩) G6).trans c3,(b.cell (p:=⟨Z,_,none⟩) G6).trans c4⟩);have Kl:Hid (∀w',Below w.heap.size w w' ->pb<w'.heap.size/\∀t,t<s.length ->w'.cell? ⟨pb,po+t,none⟩=some (.string (gS s t))):=hid (fun w' b=>⟨Nat.lt_of_lt_of_le G2 b.size,fun t ht=>(b.cell (p:=⟨pb,po+t,none⟩) G2).trans (Ge t ht)⟩);have Gu:=hid Gg;obtain⟨w5,Gf⟩:∃w5,wr.alloc (.cells #[.int .i64 U,.int .i64 M] 75)=w5:=⟨_,rfl⟩;have b5:Below wr.heap.size wr w5:=by rw [<- Gf];exact zO _ _
     have X5:Bx2 w5 wr.heap.size (.int .i64 U) (.int .i64 M):=by rw [<- Gf];exact Bx2.made _ _ _ _
     have G:=hid (V.below b5);have Jo:=hid X5;have Lk:Hid (t1≠wr.heap.size/\ t2≠wr.heap.size):=hid ⟨by have:=V.d.lt;omega,by have:=V.n.lt;omega⟩;have m2:=(H5 wr V.low).2.2.1;have m3:=(H5 wr V.low).2.2.2.1;have x0:=X5.c0;have x1:=X5.c1;clear hy Ko sg Ge G2 G6 b5 X5 d0 Gg V u O c2 c3 c4 G0;obtain⟨Lq,Lo,Kw,Ks,_,_⟩:=G.fd.fs;subst Kw;have Gn:=hid (Qfv Lq Lo (cDR gn S.l P S.l.length k) U M M w5 (by have:=(Hw S.l.length k).2;omega) Ks (Hw S.l.length k).1 Gh.out);have d1:=G.d.c1;obtain⟨L4,Gy⟩:∃ln,((cDR gn S.l P S.l.length k)).length=ln:=⟨_,rfl⟩;rw [Gy] at Gn d1;clear Ks;go_wp2_with fail;refine Gn.mono ?_;rintro e w6 ⟨v6,rfl,Gw,b6⟩;obtain⟨vy,vm,vc,rfl⟩:=QaO Gw;have D6:=G.d.below b6 G.d.lt;have o1:=D6.c1;have of:=D6.f;rw [Gy] at o1;have Hz:=hid (G.setD1 b6 Gw);rw [H7.out] at Hz;have X6:=(Jo.below b6 Jo.lt).setAt ⟨t1,1,none⟩ (.slice vy vm vc) Lk.1;obtain⟨wb,Lc⟩:∃wb,w6.setCell ⟨t1,1,none⟩ (.slice vy vm vc)=wb:=⟨_,rfl⟩;rw [Lc] at Hz X6;have Lm:=hid X6;clear x0 x1 m2 m3 d1 Gf Gw b6 D6 Gn Gy G Jo;have x0:=X6.c0;have x1:=X6.c1;clear X6;obtain⟨Lr,Lp,Js,Kt,_,_⟩:=Hz.fn.fs;subst Js;have Go:=hid (Qfv Lr Lp (cNR S P k) U M M wb (by have:=(Gl k).2;omega) Kt (Gl k).1 Gh.out);have d2:=Hz.n.c1;obtain⟨L5,Gz⟩:∃ln,((cNR S P k)).length=ln:=⟨_,rfl⟩;rw [Gz] at Go d2;clear Kt;go_wp2_with fail;clear o1 of;refine Go.mono ?_;rintro e Lw ⟨v7,rfl,Jq,z⟩;obtain⟨uy,um,uc,rfl⟩:=QaO Jq;have D7:=Hz.n.below z Hz.n.lt;have o1:=D7.c1;have of:=D7.f;rw [Gz] at o1;have B:=hid (Hz.setN1 z Jq);rw [H8.out] at B;obtain⟨wc,Jt⟩:∃wc,Lw.setCell ⟨t2,1,none⟩ (.slice uy um uc)=wc:=⟨_,rfl⟩;rw [Jt] at B;clear Lc x0 x1 d2 Jq z D7 Go Gz Hz Lm;have Hf:Hid (∀w',Below w.heap.size w w' ->(Below w.heap.size w w'/\ w'.cell? ⟨Z,N+k*5,none⟩=some (.slice (some ⟨pb,po,none⟩) s.length pc)/\ w'.cell? ⟨Z,N+k*5+1,none⟩=some (.bool I)/\ w'.cell? ⟨Z,N+k*5+2,none⟩=some (.int .i64 U)/\ w'.cell? ⟨Z,N+k*5+3,none⟩=some (.int .i64 M)/\ w'.cell? ⟨Z,N+k*5+4,none⟩=some (.string J))):=hid (fun w' b=>⟨b,H5.out w' b⟩);have Gp:Hid (∀w',Below wc.heap.size wc w' ->Calls Tryz.prog 88 #[.agg #[.slice (some ⟨pb,po,none⟩) s.length pc,.bool I,.int .i64 U,.int .i64 M,.string J]] w' fun e w''=>∃q cap,e=.returned (.agg #[.slice (some ⟨q,0,none⟩) s.length cap,.bool I,.int .i64 U,.int .i64 M,.string J])/\ Below w'.heap.size w' w''/\ w'.heap.size<=q/\ q<w''.heap.size/\ Wr w'' q 9 s.length (fun t=> .string (gS s t))/\ s.length<=cap/\ cap<=9223372036854775807):=hid (fun w' b=>by
      have hq:=Kl w' (Qac B.low b);exact Qda pb po s.length pc ⟨s,I,U,M,J⟩ w' rfl (by have:=Gu.2;omega) hq.1 hq.2)
     obtain⟨G7,Hp⟩:∃ln,(cDL P k).length=ln:=⟨_,rfl⟩;have Gr:Hid (∀E q cap,Below wc.heap.size wc E ->wc.heap.size<=q ->q<E.heap.size ->Wr E q 9 s.length (fun t=> .string (gS s t)) ->(s.length<=cap/\ cap<=9223372036854775807) ->Calls Tryz.prog 87 #[.slice (some ⟨gD,0,none⟩) G7 cD,.agg #[.slice (some ⟨q,0,none⟩) s.length cap,.bool I,.int .i64 U,.int .i64 M,.string J]] E fun e w'=>(∃g' cap' P' Q',e=.returned (.slice (some ⟨g',0,none⟩) (G7+1) cap')/\ E.heap.size<=g'/\ LC w' (w.heap.size+3) (.slice (some ⟨g',0,none⟩) (G7+1) cap') (cDL P (k+1)) P' Q')/\ Below E.heap.size E w'):=hid (fun E q cap z hq1 hq2 hw hcap=>by
      have hJ:=B.below z;have Ls:=B.r2.lt;have Lt:=z.size;rw [<- K2.out,<- Hp];exact QfR gD cD (cDL P k) DP DQ E (w.heap.size+3) q cap s I U M J hJ.ld (by omega) (by have:=(H6 k).1;omega) (fun i hi=>by have:=((H6 k).2 i hi).2;omega) (by have:=Gu.2;omega) ⟨by omega,hq2⟩ hw hcap)
     have Gq:Hid (G7+1=(cDL P (k+1)).length):=hid (by rw [<- K2.out,Qbz,Hp]);go_wp2_with fail;try rw [Jt]
     clear Jt o1 of;apply Qpo
     ·intro Ld;refine zR (S:=fun w'=>Below w.heap.size w w'/\ w'.cell? ⟨Z,N+k*5,none⟩=some (.slice (some ⟨pb,po,none⟩) s.length pc)/\ w'.cell? ⟨Z,N+k*5+1,none⟩=some (.bool I)/\ w'.cell? ⟨Z,N+k*5+2,none⟩=some (.int .i64 U)/\ w'.cell? ⟨Z,N+k*5+3,none⟩=some (.int .i64 M)/\ w'.cell? ⟨Z,N+k*5+4,none⟩=some (.string J)) (Hf _ B.low.drew) (fun qh=> ?_);refine tZ 0 104 ?_;refine tZ 2 106 ?_;refine tZ 3 107 ?_;refine tZ 4 108 ?_;refine tZ 5 109 ?_;refine Qbu (i:=1) (j:=6) (d:=some 105) (d':=some 110) (by kernel_rfl) (by kernel_rfl) (by kernel_rfl) ?_ ?_
      ·
       have H:=(B.d.below zI.drew B.d.lt).c0;rw [Hp] at H;intro o D G1 K r;simp only [gZa,gZb,gZc,gZd] at D;subst D;go_simp;refine r.out _ _ (Hf _ B.low.drew) (fun qh=> ?_);clear r K;try simp only [zP]
       clear H;refine cZ 6 ?_;intro K r;go_simp;refine(Gp _ zI.drew).mono ?_;rintro e E ⟨q7,Hj,rfl,z,Hd,He,Hm,Ha⟩;have Q:Below wc.heap.size wc E:=⟨z.os,z.tape,z.output,z.size,z.block⟩;refine r.out _ _ (Hf _ (Qac B.low Q)) (fun qh=> ?_);clear r K;try simp only [zP]
       have H4:=hid (Gr E q7 Hj Q Hd He Hm Ha);clear Hm Ha Hd He;refine cZ 7 ?_;intro K r;go_simp;refine H4.mono ?_;rintro e w8 ⟨⟨g8,c8,P8,Q8,rfl,G5,l8⟩,b8⟩;have Hl:=Qac Q b8;have Hq:=hid (B.setD0 Hl l8 Gq.out (by have:=Q.size;omega) (fun i hi=>((H6 (k+1)).2 i hi).1));have L:=B.d.below Hl B.d.lt;refine r.out _ _ (Hf _ (Qac B.low Hl)) (fun qh=> ?_);clear r K;try simp only [zP]
       refine tZ 8 112 ?_;have o0:=L.c0;have of:=L.f 0;rw [Hp] at o0;clear L;refine cZ 9 ?_;intro K r;go_simp;clear qh;refine r.out _ _ (Hf _ Hq.low) (fun qh=> ?_);clear r K;try simp only [zP]
       refine zD ?_;obtain⟨wz,Jc⟩:∃wz,w8.setCell ⟨t1,0,none⟩ (.slice (some ⟨g8,0,none⟩) (G7+1) c8)=wz:=⟨_,rfl⟩;rw [Jc] at Hq ⊢;clear qh Jc z Q b8 Hl l8 G5 o0 of H4;revert Hq;revert wz;revert Q8;revert P8;revert c8;revert g8;revert Hj;revert q7;exact Ld.out
      ·
       intro o D G1 K r;simp only [gZa,gZb,gZc,gZd] at D;subst D;go_simp;refine(Gp _ zI.drew).mono ?_;rintro e E ⟨q7,Hj,rfl,z,Hd,He,Hm,Ha⟩;have Q:Below wc.heap.size wc E:=⟨z.os,z.tape,z.output,z.size,z.block⟩;refine r.out _ _ (Hf _ (Qac B.low Q)) (fun qh=> ?_);clear r K;try simp only [zP]
       have H:=(B.d.below Q B.d.lt).c0;rw [Hp] at H;refine cZ 1 ?_;intro K r;go_simp;refine r.out _ _ (Hf _ (Qac B.low Q)) (fun qh=> ?_);clear r K;try simp only [zP]
       clear H;have H4:=hid (Gr E q7 Hj Q Hd He Hm Ha);clear Hm Ha Hd He;refine cZ 7 ?_;intro K r;go_simp;refine H4.mono ?_;rintro e w8 ⟨⟨g8,c8,P8,Q8,rfl,G5,l8⟩,b8⟩;have Hl:=Qac Q b8;have Hq:=hid (B.setD0 Hl l8 Gq.out (by have:=Q.size;omega) (fun i hi=>((H6 (k+1)).2 i hi).1));have L:=B.d.below Hl B.d.lt;refine r.out _ _ (Hf _ (Qac B.low Hl)) (fun qh=> ?_);clear r K;try simp only [zP]
       refine tZ 8 112 ?_;have o0:=L.c0;have of:=L.f 0;rw [Hp] at o0;clear L;refine cZ 9 ?_;intro K r;go_simp;clear qh;refine r.out _ _ (Hf _ Hq.low) (fun qh=> ?_);clear r K;try simp only [zP]
       refine zD ?_;obtain⟨wz,Jc⟩:∃wz,w8.setCell ⟨t1,0,none⟩ (.slice (some ⟨g8,0,none⟩) (G7+1) c8)=wz:=⟨_,rfl⟩;rw [Jc] at Hq ⊢;exact Ld q7 Hj g8 c8 P8 Q8 wz Hq
     intro q3 Ln g3 c3 P3 Q3 wd Hh;clear B Hf Gp Gr Hp Gq;have Hc:Hid (∀w',Below w.heap.size w w' ->(Below w.heap.size w w'/\ w'.cell? ⟨Z,N+k*5,none⟩=some (.slice (some ⟨pb,po,none⟩) s.length pc)/\ w'.cell? ⟨Z,N+k*5+1,none⟩=some (.bool I)/\ w'.cell? ⟨Z,N+k*5+2,none⟩=some (.int .i64 U)/\ w'.cell? ⟨Z,N+k*5+3,none⟩=some (.int .i64 M)/\ w'.cell? ⟨Z,N+k*5+4,none⟩=some (.string J))):=hid (fun w' b=>⟨b,H5.out w' b⟩);have H9:Hid (∀w',Below wd.heap.size wd w' ->Calls Tryz.prog 88 #[.agg #[.slice (some ⟨pb,po,none⟩) s.length pc,.bool I,.int .i64 U,.int .i64 M,.string J]] w' fun e w''=>∃q cap,e=.returned (.agg #[.slice (some ⟨q,0,none⟩) s.length cap,.bool I,.int .i64 U,.int .i64 M,.string J])/\ Below w'.heap.size w' w''/\ w'.heap.size<=q/\ q<w''.heap.size/\ Wr w'' q 9 s.length (fun t=> .string (gS s t))/\ s.length<=cap/\ cap<=9223372036854775807):=hid (fun w' b=>by
      have hq:=Kl w' (Qac Hh.low b);exact Qda pb po s.length pc ⟨s,I,U,M,J⟩ w' rfl (by have:=Gu.2;omega) hq.1 hq.2)
     obtain⟨Jd,Hr⟩:∃ln,(cNL gn S.l P S.l.length k).length=ln:=⟨_,rfl⟩;have Gb:Hid (∀E q cap,Below wd.heap.size wd E ->wd.heap.size<=q ->q<E.heap.size ->Wr E q 9 s.length (fun t=> .string (gS s t)) ->(s.length<=cap/\ cap<=9223372036854775807) ->Calls Tryz.prog 87 #[.slice (some ⟨gN,0,none⟩) Jd cN,.agg #[.slice (some ⟨q,0,none⟩) s.length cap,.bool I,.int .i64 U,.int .i64 M,.string J]] E fun e w'=>(∃g' cap' P' Q',e=.returned (.slice (some ⟨g',0,none⟩) (Jd+1) cap')/\ E.heap.size<=g'/\ LC w' (w.heap.size+3) (.slice (some ⟨g',0,none⟩) (Jd+1) cap') (cNL gn S.l P S.l.length (k+1)) P' Q')/\ Below E.heap.size E w'):=hid (fun E q cap z hq1 hq2 hw hcap=>by
      have hJ:=Hh.below z;have Ls:=Hh.r2.lt;have Lt:=z.size;rw [<- K3.out,<- Hr];exact QfR gN cN (cNL gn S.l P S.l.length k) NP NQ E (w.heap.size+3) q cap s I U M J hJ.ln (by omega) (by have:=(Ho S.l.length k).1;omega) (fun i hi=>by have:=((Ho S.l.length k).2 i hi).2;omega) (by have:=Gu.2;omega) ⟨by omega,hq2⟩ hw hcap)
     have Kj:Hid (Jd+1=(cNL gn S.l P S.l.length (k+1)).length):=hid (by rw [<- K3.out,Qbz,Hr]);go_wp2_with fail;refine zR (S:=fun w'=>Below w.heap.size w w'/\ w'.cell? ⟨Z,N+k*5,none⟩=some (.slice (some ⟨pb,po,none⟩) s.length pc)/\ w'.cell? ⟨Z,N+k*5+1,none⟩=some (.bool I)/\ w'.cell? ⟨Z,N+k*5+2,none⟩=some (.int .i64 U)/\ w'.cell? ⟨Z,N+k*5+3,none⟩=some (.int .i64 M)/\ w'.cell? ⟨Z,N+k*5+4,none⟩=some (.string J)) (Hc _ Hh.low.drew) (fun qh=> ?_);refine tZ 0 113 ?_;refine tZ 2 115 ?_;refine tZ 3 116 ?_;refine tZ 4 117 ?_;refine tZ 5 118 ?_;refine Qbu (i:=1) (j:=6) (d:=some 114) (d':=some 119) (by kernel_rfl) (by kernel_rfl) (by kernel_rfl) ?_ ?_
     ·
      have H:=(Hh.n.below zI.drew Hh.n.lt).c0;rw [Hr] at H;intro o D G1 K r;simp only [gZa,gZb,gZc,gZd] at D;subst D;go_simp;refine r.out _ _ (Hc _ Hh.low.drew) (fun qh=> ?_);clear r K;try simp only [zP]
      clear H;refine cZ 6 ?_;intro K r;go_simp;refine(H9 _ zI.drew).mono ?_;rintro e E ⟨q7,Hj,rfl,z,Hd,He,Hm,Ha⟩;have Q:Below wd.heap.size wd E:=⟨z.os,z.tape,z.output,z.size,z.block⟩;refine r.out _ _ (Hc _ (Qac Hh.low Q)) (fun qh=> ?_);clear r K;try simp only [zP]
      have H4:=hid (Gb E q7 Hj Q Hd He Hm Ha);clear Hm Ha Hd He;refine cZ 7 ?_;intro K r;go_simp;refine H4.mono ?_;rintro e w8 ⟨⟨g8,c8,P8,Q8,rfl,G5,l8⟩,b8⟩;have Hl:=Qac Q b8;have Hq:=hid (Hh.setN0 Hl l8 Kj.out (by have:=Q.size;omega) (fun i hi=>((Ho S.l.length (k+1)).2 i hi).1));have L:=Hh.n.below Hl Hh.n.lt;refine r.out _ _ (Hc _ (Qac Hh.low Hl)) (fun qh=> ?_);clear r K;try simp only [zP]
      refine tZ 8 121 ?_;have o0:=L.c0;have of:=L.f 0;rw [Hr] at o0;clear L;refine cZ 9 ?_;intro K r;go_simp;clear qh;refine r.out _ _ (Hc _ Hq.low) (fun qh=> ?_);clear r K;try simp only [zP]
      refine zD ?_;clear qh z Q b8 Hl l8 G5 o0 of H4 Gb H9 Hc;go_wp2_with fail;go_roundw;case rel=>exact⟨k+1,g3,c3,g8,c8,P3,Q3,P8,Q8,_,_,Hn,by go_num,Hq⟩
      case measure=>simp [intOf];omega
     ·
      intro o D G1 K r;simp only [gZa,gZb,gZc,gZd] at D;subst D;go_simp;refine(H9 _ zI.drew).mono ?_;rintro e E ⟨q7,Hj,rfl,z,Hd,He,Hm,Ha⟩;have Q:Below wd.heap.size wd E:=⟨z.os,z.tape,z.output,z.size,z.block⟩;refine r.out _ _ (Hc _ (Qac Hh.low Q)) (fun qh=> ?_);clear r K;try simp only [zP]
      have H:=(Hh.n.below Q Hh.n.lt).c0;rw [Hr] at H;refine cZ 1 ?_;intro K r;go_simp;refine r.out _ _ (Hc _ (Qac Hh.low Q)) (fun qh=> ?_);clear r K;try simp only [zP]
      clear H;have H4:=hid (Gb E q7 Hj Q Hd He Hm Ha);clear Hm Ha Hd He;refine cZ 7 ?_;intro K r;go_simp;refine H4.mono ?_;rintro e w8 ⟨⟨g8,c8,P8,Q8,rfl,G5,l8⟩,b8⟩;have Hl:=Qac Q b8;have Hq:=hid (Hh.setN0 Hl l8 Kj.out (by have:=Q.size;omega) (fun i hi=>((Ho S.l.length (k+1)).2 i hi).1));have L:=Hh.n.below Hl Hh.n.lt;refine r.out _ _ (Hc _ (Qac Hh.low Hl)) (fun qh=> ?_);clear r K;try simp only [zP]
      refine tZ 8 121 ?_;have o0:=L.c0;have of:=L.f 0;rw [Hr] at o0;clear L;refine cZ 9 ?_;intro K r;go_simp;clear qh;refine r.out _ _ (Hc _ Hq.low) (fun qh=> ?_);clear r K;try simp only [zP]
      refine zD ?_;clear qh z Q b8 Hl l8 G5 o0 of H4 Gb H9 Hc;go_wp2_with fail;go_roundw;case rel=>exact⟨k+1,g3,c3,g8,c8,P3,Q3,P8,Q8,_,_,Hn,by go_num,Hq⟩
      case measure=>simp [intOf];omega
    ·obtain rfl:k=P.length:=by omega
     have e1:=V.ld;have e2:=V.ln;obtain⟨Hu,H3,Kw,_⟩:=V.fd.fs;subst Kw;obtain⟨Hs,Hv,Js,_⟩:=V.fn.fs;subst Js;have Jy:Hid (SNc wr (w.heap.size+3) (some ⟨gD,0,none⟩) cD Hu (mkS (cDL P P.length) (cDR gn S.l P S.l.length P.length))):=hid (QnN V.ld V.fd);have Jz:Hid (SNc wr (w.heap.size+3) (some ⟨gN,0,none⟩) cN Hs (mkS (cNL gn S.l P S.l.length P.length) (cNR S P P.length))):=hid (QnN V.ln V.fn);rw [Qi8 Kg.2.2,Qgr] at Jy;rw [Qgs,Qgt] at Jz;have K1:Hid (dlS gn S.l P=mkS P (dlU gn S.l P)/\ jnS S (dlS gn S.l P)=mkS (nxL gn S.l P) (nxU S P)):=hid ⟨rfl,Qo3 K9.out Jm.out⟩;have D1:=V.d;have N1:=V.n;rw [Qi8 Kg.2.2,Qgr] at D1;rw [Qgs,Qgt] at N1;obtain⟨d1,Kq⟩:∃d1,P.length=d1:=⟨_,rfl⟩;obtain⟨d2,Kr⟩:∃d2,(dlU gn S.l P).length=d2:=⟨_,rfl⟩;obtain⟨n1,Ku⟩:∃n1,(nxL gn S.l P).length=n1:=⟨_,rfl⟩;obtain⟨n2,Kv⟩:∃n2,(nxU S P).length=n2:=⟨_,rfl⟩;have Kz:Hid (d1<=1/\ d2<=1001/\ n1<=1001/\ n2<=1001):=hid (by
      refine⟨by rw [<- Kq];exact Kg.2.2,?_,?_,?_⟩
      ·rw [<- Kr,<- Qgr];exact(Hw _ _).2
      ·rw [<- Ku,<- Qgs];exact(Ho _ _).1
      ·rw [<- Kv,<- Qgt];exact(Gl _).2)
     have Kb:Hid (chF S (dlS gn S.l P)=((decide (n1<=1000) && decide (n2<=1000)) && (decide (d1<=1000) && decide (d2<=1000)))):=hid (by
      unfold chF jnF;rw [K1.2,K1.1,<- Ku,<- Kv,<- Kq,<- Kr];rfl)
     rw [Kq,Kr] at D1;rw [Ku,Kv] at N1;have Lj:=hid (And.intro Kq (And.intro Kr (And.intro Ku Kv)));have Ji:=hid (QgF (some ⟨gD,0,none⟩) Hu d1 d2 cD H3 wr (by have:=Kz.out;omega) (by have:=Kz.out;omega));have Jx:=hid (fun w3=>QgF (some ⟨gN,0,none⟩) Hs n1 n2 cN Hv w3 (by have:=Kz.out;omega) (by have:=Kz.out;omega));have Jw:=hid D1;have K5:=hid N1;have Ki:=hid V.low;have K7:=hid V.r1;have K8:=hid V.r2;have Ll:Hid (w.heap.size+3<=t1/\ w.heap.size+3<=t2/\ t1≠t2):=hid ⟨V.h1,V.h2,V.h12⟩;obtain⟨B1,J6⟩:∃B1,(decide (d1<=1000) && decide (d2<=1000))=B1:=⟨_,rfl⟩;obtain⟨B2,Jp⟩:∃B2,(decide (n1<=1000) && decide (n2<=1000))=B2:=⟨_,rfl⟩;rw [J6] at Ji Kb;rw [Jp] at Kb;have Kc:Hid (∀w3,Calls Tryz.prog 52 #[.agg #[.slice (some ⟨gN,0,none⟩) n1 cN,.slice Hs n2 Hv]] w3 fun e w'=>e=.returned (.bool B2)/\ Below w3.heap.size w3 w'):=hid (fun w3=>by rw [<- Jp];exact Jx w3);have x0:=D1.c0;have x1:=D1.c1;clear J6 Jp Jx D1 N1 V e1 e2 Kq Kr Ku Kv;go_wp2_with fail;refine Ji.mono ?_;rintro e w3 ⟨rfl,b3⟩;clear x0 x1 Ji;cases B1 with
     | false=>
      have HZ:Hid (X=Sx.mt/\ Y=Sx.mt/\ CC=4):=hid (by
       have e:chF S (dlS gn S.l P)=false:=by rw [Kb.out];simp
       obtain⟨z1,z2,z3⟩:=Qo0 e;exact⟨Hi.1.symm.trans z1,Hi.2.1.symm.trans z2,Hi.2.2.symm.trans z3⟩)
      have Ky:=hid (Qac Ki.out b3);have Hb:=hid (K7.below b3 K7.lt);have Hy:=hid (K8.below b3 K8.lt);clear b3;have r0:=Hb.c0;have r1:=Hb.c1;have rf:=Hb.f;have Jg:=hid (Hb.set (.slice none 0 0) (.slice none 0 0));have Q3:=(Hy.setAt ⟨w.heap.size+1,0,none⟩ (.slice none 0 0) (by show w.heap.size+1≠w.heap.size+1+1;omega)).setAt ⟨w.heap.size+1,1,none⟩ (.slice none 0 0) (by show w.heap.size+1≠w.heap.size+1+1;omega);have q0:=Q3.c0;have q1:=Q3.c1;have qf:=Q3.f;have Kk:=hid (Q3.set (.slice none 0 0) (.slice none 0 0));have Ka:=hid ((Jg.setAt ⟨w.heap.size+1+1,0,none⟩ (.slice none 0 0) (by show w.heap.size+1+1≠w.heap.size+1;omega)).setAt ⟨w.heap.size+1+1,1,none⟩ (.slice none 0 0) (by show w.heap.size+1+1≠w.heap.size+1;omega));clear Q3;go_wp2_with fail;have s0:=Ka.c0;have s1:=Ka.c1;have s2:=Kk.c0;have s3:=Kk.c1;refine zF (v:=.tuple #[.agg #[.slice none 0 0,.slice none 0 0],.agg #[.slice none 0 0,.slice none 0 0],.int .i64 4]) (by simp [results,Tryz.results91,go_sem,s0,s1,s2,s3]) ⟨none,0,none,0,none,0,none,0,by rw [HZ.1,HZ.2.1,HZ.2.2];rfl,?_,?_,?_⟩
      ·rw [HZ.1];exact SNc.mt _ _ _ _
      ·rw [HZ.2.1];exact SNc.mt _ _ _ _
      ·exact(((Ky.setCell (by simp) _).setCell (by simp) _).setCell (by simp;omega) _).setCell (by simp;omega) _
     | true=>
      have N3:=K5.below b3 K5.lt;have x0:=N3.c0;have x1:=N3.c1;have Lg:=hid b3;clear b3 N3;go_wp2_with fail;refine(Kc w3).mono ?_;rintro e w4 ⟨rfl,b4⟩;have Gj:=Qac Lg.out b4;have Ky:=hid (Qac Ki.out Gj);have Hb:=hid (K7.below Gj K7.lt);have Hy:=hid (K8.below Gj K8.lt);have K0:=hid (Jw.below Gj Jw.lt);have K6:=hid (K5.below Gj K5.lt);have Jk:=hid (Jy.below Gj);have Jl:=hid (Jz.below Gj);clear b4 Gj x0 x1 Kc;cases B2 with
      | false=>
       have HZ:Hid (X=Sx.mt/\ Y=Sx.mt/\ CC=4):=hid (by
        have e:chF S (dlS gn S.l P)=false:=by rw [Kb.out];simp
        obtain⟨z1,z2,z3⟩:=Qo0 e;exact⟨Hi.1.symm.trans z1,Hi.2.1.symm.trans z2,Hi.2.2.symm.trans z3⟩)
       have r0:=Hb.c0;have r1:=Hb.c1;have rf:=Hb.f;have Jg:=hid (Hb.set (.slice none 0 0) (.slice none 0 0));have Q3:=(Hy.setAt ⟨w.heap.size+1,0,none⟩ (.slice none 0 0) (by show w.heap.size+1≠w.heap.size+1+1;omega)).setAt ⟨w.heap.size+1,1,none⟩ (.slice none 0 0) (by show w.heap.size+1≠w.heap.size+1+1;omega);have q0:=Q3.c0;have q1:=Q3.c1;have qf:=Q3.f;have Kk:=hid (Q3.set (.slice none 0 0) (.slice none 0 0));have Ka:=hid ((Jg.setAt ⟨w.heap.size+1+1,0,none⟩ (.slice none 0 0) (by show w.heap.size+1+1≠w.heap.size+1;omega)).setAt ⟨w.heap.size+1+1,1,none⟩ (.slice none 0 0) (by show w.heap.size+1+1≠w.heap.size+1;omega));clear Q3;go_wp2_with fail;have s0:=Ka.c0;have s1:=Ka.c1;have s2:=Kk.c0;have s3:=Kk.c1;refine zF (v:=.tuple #[.agg #[.slice none 0 0,.slice none 0 0],.agg #[.slice none 0 0,.slice none 0 0],.int .i64 4]) (by simp [results,Tryz.results91,go_sem,s0,s1,s2,s3]) ⟨none,0,none,0,none,0,none,0,by rw [HZ.1,HZ.2.1,HZ.2.2];rfl,?_,?_,?_⟩
       ·rw [HZ.1];exact SNc.mt _ _ _ _
       ·rw [HZ.2.1];exact SNc.mt _ _ _ _
       ·exact(((Ky.setCell (by simp) _).setCell (by simp) _).setCell (by simp;omega) _).setCell (by simp;omega) _
      | true=>
       have HZ:Hid (X=mkS (nxL gn S.l P) (nxU S P)/\ Y=mkS P (dlU gn S.l P)/\ CC=0):=hid (by
        have e:chF S (dlS gn S.l P)=true:=by rw [Kb.out];rfl
        obtain⟨z1,z2,z3⟩:=Qo1 e;exact⟨Hi.1.symm.trans (z1.trans K1.2),Hi.2.1.symm.trans (z2.trans K1.1),Hi.2.2.symm.trans z3⟩)
       have Ja:Hid (∀w',Bx2 w' t1 (.slice (some ⟨gD,0,none⟩) d1 cD) (.slice Hu d2 H3) ->Bx2 w' t2 (.slice (some ⟨gN,0,none⟩) n1 cN) (.slice Hs n2 Hv) ->(w'.cell? ⟨t1,0,none⟩=some (.slice (some ⟨gD,0,none⟩) d1 cD)/\ w'.cell? ⟨t1,1,none⟩=some (.slice Hu d2 H3)/\ w'.cell? ⟨t2,0,none⟩=some (.slice (some ⟨gN,0,none⟩) n1 cN)/\ w'.cell? ⟨t2,1,none⟩=some (.slice Hs n2 Hv))):=hid (fun w' h1 h2=>⟨h1.c0,h1.c1,h2.c0,h2.c1⟩);go_wp2_with fail;refine zR (S:=fun w'=>w'.cell? ⟨t1,0,none⟩=some (.slice (some ⟨gD,0,none⟩) d1 cD)/\ w'.cell? ⟨t1,1,none⟩=some (.slice Hu d2 H3)/\ w'.cell? ⟨t2,0,none⟩=some (.slice (some ⟨gN,0,none⟩) n1 cN)/\ w'.cell? ⟨t2,1,none⟩=some (.slice Hs n2 Hv)) (Ja _ (K0.below zI.drew K0.lt) (K6.below zI.drew K6.lt)) (fun qh=> ?_);refine tZ 0 132 ?_;refine tZ 1 133 ?_;obtain⟨u0,Jr⟩:∃u0,w4.drew=u0:=⟨_,rfl⟩;have bu:Below w4.heap.size w4 u0:=by rw [<- Jr];exact zI.drew
       rw [Jr];clear Jr;have R1:=Hb.below bu Hb.lt;have R2:=Hy.below bu Hy.lt;have r0:=R1.c0;have r1:=R1.c1;have rf:=R1.f;have L0:=Ll.out;have DA:=((K0.below bu K0.lt).setAt ⟨w.heap.size+1,0,none⟩ (.slice (some ⟨gN,0,none⟩) n1 cN) (by show w.heap.size+1≠t1;omega)).setAt ⟨w.heap.size+1,1,none⟩ (.slice Hs n2 Hv) (by show w.heap.size+1≠t1;omega);have NA:=((K6.below bu K6.lt).setAt ⟨w.heap.size+1,0,none⟩ (.slice (some ⟨gN,0,none⟩) n1 cN) (by show w.heap.size+1≠t2;omega)).setAt ⟨w.heap.size+1,1,none⟩ (.slice Hs n2 Hv) (by show w.heap.size+1≠t2;omega);have RA:=R1.set (.slice (some ⟨gN,0,none⟩) n1 cN) (.slice Hs n2 Hv);have QA:=(R2.setAt ⟨w.heap.size+1,0,none⟩ (.slice (some ⟨gN,0,none⟩) n1 cN) (by show w.heap.size+1≠w.heap.size+1+1;omega)).setAt ⟨w.heap.size+1,1,none⟩ (.slice Hs n2 Hv) (by show w.heap.size+1≠w.heap.size+1+1;omega);have DB:=(DA.setAt ⟨w.heap.size+1+1,0,none⟩ (.slice (some ⟨gD,0,none⟩) d1 cD) (by show w.heap.size+1+1≠t1;omega)).setAt ⟨w.heap.size+1+1,1,none⟩ (.slice Hu d2 H3) (by show w.heap.size+1+1≠t1;omega);have NB:=(NA.setAt ⟨w.heap.size+1+1,0,none⟩ (.slice (some ⟨gD,0,none⟩) d1 cD) (by show w.heap.size+1+1≠t2;omega)).setAt ⟨w.heap.size+1+1,1,none⟩ (.slice Hu d2 H3) (by show w.heap.size+1+1≠t2;omega);have RB:=hid ((RA.setAt ⟨w.heap.size+1+1,0,none⟩ (.slice (some ⟨gD,0,none⟩) d1 cD) (by show w.heap.size+1+1≠w.heap.size+1;omega)).setAt ⟨w.heap.size+1+1,1,none⟩ (.slice Hu d2 H3) (by show w.heap.size+1+1≠w.heap.size+1;omega));have QB:=hid (QA.set (.slice (some ⟨gD,0,none⟩) d1 cD) (.slice Hu d2 H3));have Jn:=hid QA;clear R1 R2 RA QA;refine cZ 2 ?_;intro K r;go_simp;refine r.out _ _ (Ja _ DA NA) (fun qh=> ?_);clear r K;try simp only [zP]
       clear r0 r1 rf;have r0:=Jn.c0;have r1:=Jn.c1;have rf:=Jn.f;refine cZ 3 ?_;intro K r;go_simp;refine r.out _ _ (Ja _ DB NB) (fun qh=> ?_);clear r K;try simp only [zP]
       refine tZ 4 8 ?_;refine zD ?_;have Jf:=hid bu;clear qh r0 r1 rf DA NA DB NB bu Ja;go_wp2_with fail;have s0:=RB.c0;have s1:=RB.c1;have s2:=QB.c0;have s3:=QB.c1;refine zF (v:=.tuple #[.agg #[.slice (some ⟨gN,0,none⟩) n1 cN,.slice Hs n2 Hv],.agg #[.slice (some ⟨gD,0,none⟩) d1 cD,.slice Hu d2 H3],.int .i64 0]) (by simp [results,Tryz.results91,go_sem,s0,s1,s2,s3]) ?_;first|refine⟨some ⟨gN,0,none⟩,cN,Hs,Hv,some ⟨gD,0,none⟩,cD,Hu,⟨H3,?_⟩,?_,?_,?_⟩|refine⟨some ⟨gN,0,none⟩,cN,Hs,Hv,some ⟨gD,0,none⟩,cD,Hu,H3,?_,?_,?_,?_⟩
       ·obtain⟨z1,z2,z3⟩:=HZ.out;obtain⟨l1,l2,l3,l4⟩:=Lj.out;rw [z1,z2,z3];show _=Ending.returned (.tuple #[.agg #[.slice _ (nxL gn S.l P).length _,.slice _ (nxU S P).length _],.agg #[.slice _ P.length _,.slice _ (dlU gn S.l P).length _],_]);rw [l1,l2,l3,l4]
       ·rw [HZ.1];refine(Jl.below Jf.out).move (by omega) (by simp [World.setCell]) (fun q h1 h2=> ?_);rw [zH _ _ _ _ (by simp;omega),zH _ _ _ _ (by simp;omega),zH _ _ _ _ (by simp;omega),zH _ _ _ _ (by simp;omega)]
       ·rw [HZ.2.1];refine(Jk.below Jf.out).move (by omega) (by simp [World.setCell]) (fun q h1 h2=> ?_);rw [zH _ _ _ _ (by simp;omega),zH _ _ _ _ (by simp;omega),zH _ _ _ _ (by simp;omega),zH _ _ _ _ (by simp;omega)]
       ·exact((((Qac Ky.out Jf.out).setCell (by simp) _).setCell (by simp) _).setCell (by simp;omega) _).setCell (by simp;omega) _
theorem QjL (p q:List ByteArray)(a b:Option Addr)(c d:Nat)(w:World)(y:p.length<=c)(hd:q.length<=d)(hc':c<=9223372036854775807)(hd':d<=9223372036854775807)(h:QaT w a p)(v:QaT w b q):
  Calls Tryz.prog 90 #[.slice a p.length c,.slice b q.length d] w fun e w'=>e=.returned (.bool (yes (p <+:q)))/\∃k,w'=w.drewN k:=by
 by_cases O:p.length<=q.length
 ·have s:decide ((p.length:Int)<=(q.length:Int))=true:=by simp;omega
  have A:decide (p.length<=q.length)=true:=by simp;omega
  have o:(q.take p.length).length=p.length:=by simp;omega
  have t:QaT w b (q.take p.length):=by
   rcases v with v|⟨b,off,rfl,M,y⟩
   ·exact .inl (by omega)
   ·refine .inr ⟨b,off,rfl,M,fun i hi=> ?_⟩;have e:gS (q.take p.length) i=gS q i:=by simp [gS,List.getD,List.getElem?_take_of_lt (show i<p.length by omega)]
    rw [e];exact y i (by omega)
  have u:=hid (QcV p (q.take p.length) a b c d w y (by omega) hc' hd' h t);rw [o] at u;have m:Hid (QaC p (q.take p.length)=0↔p <+:q):=hid (by rw [QdD];exact⟨fun e=>by rw [e];exact List.take_prefix _ _,fun e=>List.prefix_iff_eq_take.1 e⟩);obtain⟨C,g⟩:∃C,QaC p (q.take p.length)=C:=⟨_,rfl⟩;rw [g] at u m;have Q:(0:Int)<=(p.length:Int):=Int.natCast_nonneg _;have U:(p.length:Int)<=(d:Int):=by omega
  clear h v t g o;go_enter Tryz.func90,Tryz.ntmps90;go_wp2_with fail;refine u.mono ?_;rintro e w1 ⟨rfl,z,rfl⟩;clear u;by_cases j:C=0
  ·have E:(C==0)=true:=by simpa using j
   have r:=hid (Qal (m.1 j));clear j m;go_wp2_with fail;go_ret;exact⟨Qa8 r.symm,z,rfl⟩
  ·have E:(C==0)=false:=by simpa using j
   have r:=hid (Qaj (fun h=>j (m.2 h)));clear j m;go_wp2_with fail;go_ret;exact⟨Qa8 r.symm,z,rfl⟩
 ·have s:decide ((p.length:Int)<=(q.length:Int))=false:=by simp;omega
  have A:decide (p.length<=q.length)=false:=by simp;omega
  have r:Hid (yes (p <+:q)=false):=hid (Qaj (fun e=>O e.length_le));go_enter Tryz.func90,Tryz.ntmps90;go_wp2_with fail;go_ret;exact⟨Qa8 r.symm,0,rfl⟩
structure SOw (w:World)(lo hi:Nat)(a x:Option Addr)(d:Nat)(S:Sx):Prop where
 nc:∀w':World,w.heap.size<=w'.heap.size ->(∀q,lo<=q ->q<hi ->w'.heap[q]? =w.heap[q]?) ->SCt w' a x S
 hl:lo<=hi/\ hi<=w.heap.size
theorem SOw.ct {w:World}{lo hi:Nat}{a x:Option Addr}{d:Nat}{S:Sx}(h:SOw w lo hi a x d S):SCt w a x S:=h.nc w zL (fun _ _ _=>rfl)
theorem SOw.mt (w:World)(S:Sx)(hl:S.l.length=0)(hn:S.n=0)(lo hi:Nat)(h:lo<=hi/\ hi<=w.heap.size)(a x:Option Addr)(d:Nat):SOw w lo hi a x d S:=
 ⟨fun _ _ _=>⟨.inl hl,.inl hn⟩,h⟩
theorem Qna {w:World}{r1 r2:Nat}{u0 u1 u2 u3:Value}(h1:Bx2 w r1 u0 u1)(h2:Bx2 w r2 u2 u3)(hne:r1≠r2)(v0 v1 v2 v3:Value):Bx2 ((w.setCell ⟨r1,0,none⟩ v0).setCell ⟨r1,1,none⟩ v1) r2 u2 u3/\ Bx2 ((((w.setCell ⟨r1,0,none⟩ v0).setCell ⟨r1,1,none⟩ v1).setCell ⟨r2,0,none⟩ v2).setCell ⟨r2,1,none⟩ v3) r1 v0 v1/\ Bx2 ((((w.setCell ⟨r1,0,none⟩ v0).setCell ⟨r1,1,none⟩ v1).setCell ⟨r2,0,none⟩ v2).setCell ⟨r2,1,none⟩ v3) r2 v2 v3:=
 ⟨(h2.setAt _ _ hne).setAt _ _ hne,((h1.set v0 v1).setAt _ _ (Ne.symm hne)).setAt _ _ (Ne.symm hne),((h2.setAt _ _ hne).setAt _ _ hne).set v2 v3⟩
theorem Qhj {w w1:World}{B r1 r2:Nat}(h:Below B w w1)(h1:B<=r1)(h2:B<=r2)(v0 v1 v2 v3:Value):Below B w ((((w1.setCell ⟨r1,0,none⟩ v0).setCell ⟨r1,1,none⟩ v1).setCell ⟨r2,0,none⟩ v2).setCell ⟨r2,1,none⟩ v3):=
 (((h.setCell (p:=⟨r1,0,none⟩) h1 _).setCell (p:=⟨r1,1,none⟩) h1 _).setCell (p:=⟨r2,0,none⟩) h2 _).setCell (p:=⟨r2,1,none⟩) h2 _
theorem Qiq {w:World}{r:Nat}{u0 u1 u2 u3:Value}(h1:Bx2 w r u0 u1)(h2:Bx2 w (r+1) u2 u3)(v0 v1 v2 v3:Value):w.cell? ⟨r,0,none⟩=some u0/\ w.cell? ⟨r,1,none⟩=some u1/\ (∀i,w.frozen? ⟨r,i,none⟩=false)/\ ((w.setCell ⟨r,0,none⟩ v0).setCell ⟨r,1,none⟩ v1).cell? ⟨r+1,0,none⟩=some u2/\ ((w.setCell ⟨r,0,none⟩ v0).setCell ⟨r,1,none⟩ v1).cell? ⟨r+1,1,none⟩=some u3/\ (∀i,((w.setCell ⟨r,0,none⟩ v0).setCell ⟨r,1,none⟩ v1).frozen? ⟨r+1,i,none⟩=false)/\ Hid (Bx2 ((((w.setCell ⟨r,0,none⟩ v0).setCell ⟨r,1,none⟩ v1).setCell ⟨r+1,0,none⟩ v2).setCell ⟨r+1,1,none⟩ v3) r v0 v1/\ Bx2 ((((w.setCell ⟨r,0,none⟩ v0).setCell ⟨r,1,none⟩ v1).setCell ⟨r+1,0,none⟩ v2).setCell ⟨r+1,1,none⟩ v3) (r+1) v2 v3):=
 have j:=Qna h1 h2 (show r≠r+1 by omega) v0 v1 v2 v3
 ⟨h1.c0,h1.c1,h1.f,j.1.c0,j.1.c1,j.1.f,hid j.2⟩
theorem Qa9 {w w1:World}(h:Below w.heap.size w w1)(v0 v1 v2 v3:Value):Below w.heap.size w ((((w1.setCell ⟨w.heap.size+1,0,none⟩ v0).setCell ⟨w.heap.size+1,1,none⟩ v1).setCell ⟨w.heap.size+1+1,0,none⟩ v2).setCell ⟨w.heap.size+1+1,1,none⟩ v3):=Qhj h (by omega) (by omega) _ _ _ _
theorem Qj6 {w:World}{lo lo' r1 r2 c:Nat}{a x:Option Addr}{Z:Sx}(h:SNc w lo a c x Z)(hl:lo'<=lo)(h1:r1<lo)(h2:r2<lo)(v0 v1 v2 v3:Value):SNc ((((w.setCell ⟨r1,0,none⟩ v0).setCell ⟨r1,1,none⟩ v1).setCell ⟨r2,0,none⟩ v2).setCell ⟨r2,1,none⟩ v3) lo' a c x Z:=
 h.move hl (by simp [World.setCell]) (fun q k1 k2=>by
  rw [zH _ _ _ _ (by simp;omega),zH _ _ _ _ (by simp;omega),zH _ _ _ _ (by simp;omega),zH _ _ _ _ (by simp;omega)])
theorem QeF {w u:World}{lo c:Nat}{a x:Option Addr}{Z:Sx}(h:SNc u lo a c x Z)(hl:w.heap.size+1+1<lo)(v0 v1 v2 v3:Value):SNc ((((u.setCell ⟨w.heap.size+1,0,none⟩ v0).setCell ⟨w.heap.size+1,1,none⟩ v1).setCell ⟨w.heap.size+1+1,0,none⟩ v2).setCell ⟨w.heap.size+1+1,1,none⟩ v3) w.heap.size a c x Z:=Qj6 h (by omega) (by omega) hl _ _ _ _
theorem Qku:(Tryz.prog.info? 4).map (fun i=>(i.zero,i.size,i.bytes))=some (some (.bool false),1,1):=by kernel_rfl
def Qli (bs:List Bool):List Value:=bs.map fun b=> .bool b
def BR (w:World)(B:Nat)(v:Value)(bs:List Bool):Prop:=w.ownsRow B 4 1 v bs.length (Qli bs)/\ v≠.slice none 0 0
theorem BR.lt {w:World}{B:Nat}{v:Value}{bs:List Bool}(h:BR w B v bs):∀g,v.ownBlock=some g ->B<=g/\ g<w.heap.size:=fun g e=>World.ownsRow.lt h.1 g e
theorem BR.below {w w1:World}{B:Nat}{v:Value}{bs:List Bool}(h:BR w B v bs)(hb:Below w.heap.size w w1):BR w1 B v bs:=⟨QaD h.1 (fun g hg=>hb.block g (h.lt g hg).2),h.2⟩
theorem BR.new (w:World):BR (w.alloc (.cells #[] 4)) w.heap.size (.slice (some ⟨w.heap.size,0,none⟩) 0 0) []:=by
 refine⟨?_,fun e=>by cases e⟩;exact World.ownsRow_lit (base:=w.heap.size) (e:=4) (size:=1) w #[] 0 zL (by unfold maxLen;omega) rfl
theorem Qgp (B:Nat)(w:World)(v:Value)(bs:List Bool)(b:Bool)(h:BR w B v bs)(hB:B<=w.heap.size)(hl:bs.length<=1048576):
  ∃v' w',(Builtin.append_ #[177,177] 177 #[v,.slice (some ⟨w.heap.size,0,none⟩) 1 1]).run Tryz.prog (w.alloc (.cells #[.bool b] 4))=.ok v' w'/\ BR w' B v' (bs++[b])/\ Below B w w':=by
 obtain⟨t,r,y,z,g⟩:=info_parts Qku;have m:Below w.heap.size w (w.alloc (.cells #[.bool b] 4)):=zO _ _;have q:=h.below m;obtain⟨v',w',o,i,p,A⟩:=run_append_own (P:=Tryz.prog) (w.alloc (.cells #[.bool b] 4)) B 177 177 4 t (.bool false) 1 1 Tryz.underlying177 r y z g rfl (by decide) v bs.length (Qli bs) q.1 ⟨w.heap.size,0,none⟩ 1 1 (Qli [b]) rfl (fun j u hu=>by
  match j,hu with
  | 0,hu=>simp [Qli] at hu;subst hu;simp [Addr.add]
  | j+1,hu=>simp [Qli] at hu) (fun u hu=>by
   obtain⟨s,_,rfl⟩:=List.mem_map.1 hu;rfl) (by unfold maxLen;omega) (by omega) (by simp;omega)
 refine⟨v',w',o,⟨?_,fun e=>h.2 (A.1 e).1⟩,?_⟩
 ·rw [List.length_append];simpa [Qli] using i
 ·exact(m.mono hB).grown p (by simp;omega) (fun k hk=>(q.lt k hk).1)
theorem BR.cells {w:World}{B:Nat}{v:Value}{bs:List Bool}(h:BR w B v bs):∃g c,v=.slice (some ⟨g,0,none⟩) bs.length c/\ g<w.heap.size/\∀i,i<bs.length ->w.cell? ⟨g,i,none⟩=some (.bool (bs.getD i false)):=by
 rcases h.1.2 with ⟨e,r⟩|⟨g,cap,m,rfl,t,j,u,y,z,k⟩
 ·exact absurd e h.2
 ·refine⟨g,cap,rfl,(Array.getElem?_eq_some_iff.1 j).1,fun i hi=> ?_⟩;have q:w.cell? ⟨g,i,none⟩=(Qli bs)[i]? :=by
   rw [<- k,Nat.mul_one,List.getElem?_take_of_lt hi];simp [World.cell?,j]
  rw [q];simp [Qli,List.getD,hi]
noncomputable def gnB (gn:Lf ->Prop)(l:List Lf)(k:Nat):List Bool:=(l.take k).map fun x=>yes (gn x)
theorem Qfd {gn:Lf ->Prop}{l:List Lf}{k:Nat}(h:k<l.length):gnB gn l (k+1)=gnB gn l k++[yes (gn (gL l k))]:=by
 unfold gnB;rw [QbP h,List.map_append];rfl
theorem QcX (gn:Lf ->Prop)(l:List Lf):(gnB gn l l.length).length=l.length:=by simp [gnB]
theorem QiP {gn:Lf ->Prop}{l:List Lf}{i:Nat}(h:i<l.length):(gnB gn l l.length).getD i false=yes (gn (gL l i)):=by
 simp [gnB,List.getD,h,gL]
theorem QiQ (gn:Lf ->Prop)(l:List Lf)(k:Nat):(gnB gn l k).length<=l.length:=by simp [gnB,List.length_take];omega
theorem Qil (a:Option Addr)(c:Nat)(xa:Option Addr)(d:Nat)(pa:Option Addr)(pc:Nat)(S:Sx)(p:List ByteArray)(w:World)(hm:S.Sm)(P:Qdy w a S.l)(h3:Qb5 w xa S.n S.R S.F S.T)(hp:p.length<=1048576)(hpc:p.length<=pc/\ pc<=9223372036854775807)(hseg:QaT w pa p):
  Calls Tryz.prog 57 #[.agg #[.slice a S.l.length c,.slice xa S.n d],.slice pa p.length pc] w fun e w'=>∃a m x t a' m' x' t',e=.returned (.tuple #[.agg #[.slice a (rmX S p).l.length m,.slice x (rmX S p).n t],.agg #[.slice a' (rmY S p).l.length m',.slice x' (rmY S p).n t'],.int .i64 (rmC S p)])/\ SNc w' w.heap.size a m x (rmX S p)/\ SNc w' w.heap.size a' m' x' (rmY S p)/\ Below w.heap.size w w':=by
 obtain⟨W,E⟩:∃W,((w.alloc (.cells #[.slice a S.l.length c,.slice xa S.n d] 29)).alloc (.cells #[.slice none 0 0,.slice none 0 0] 29)).alloc (.cells #[.slice none 0 0,.slice none 0 0] 29)=W:=⟨_,rfl⟩;have C:Below w.heap.size w W:=by rw [<- E];exact(Qak _ _ _).alloc (by simp;omega) _
 have zW:W.heap.size=w.heap.size+3:=by rw [<- E];simp
 have V:Bx2 W w.heap.size (.slice a S.l.length c) (.slice xa S.n d):=by rw [<- E];exact((Bx2.made w _ _ _).allocs _).allocs _
 have R0:Bx2 W (w.heap.size+1) (.slice none 0 0) (.slice none 0 0):=by
  rw [<- E];have:=Bx2.made (w.alloc (.cells #[.slice a S.l.length c,.slice xa S.n d] 29)) (.slice none 0 0) (.slice none 0 0) 29;exact(by simpa using this:Bx2 _ (w.heap.size+1) _ _).allocs _
 have Q0:Bx2 W (w.heap.size+1+1) (.slice none 0 0) (.slice none 0 0):=by
  rw [<- E];simpa using Bx2.made ((w.alloc (.cells #[.slice a S.l.length c,.slice xa S.n d] 29)).alloc (.cells #[.slice none 0 0,.slice none 0 0] 29)) (.slice none 0 0) (.slice none 0 0) 29
 have Hx:=hid V;have H9:=hid R0;have H8:=hid Q0;have Gh:=hid C;have Gn:=hid zW;have k0:=V.c0;have k1:=V.c1;have K:=hid (Qbv a c S.l xa S.n d S.R S.F S.T W hm.l1 hm.p1 hm.n1 (P.below C) (h3.below C));change Hid (Calls _ _ _ _ fun e w'=>e=.returned (.bool (stB S))/\ _) at K;have H1:=hid P;have H3:=hid h3;have Ga:=hid hseg;have H7:=hid hpc;obtain⟨B,hB⟩:∃B,stB S=B:=⟨_,rfl⟩;have L:=hid hB;rw [hB] at K;clear C zW V R0 Q0 P h3 hseg hB hpc;go_enter Tryz.func57,Tryz.ntmps57;go_wp2_with fail;try rw [E]
 clear E;refine K.mono ?_;rintro e w1 ⟨rfl,O⟩;have q:=hid (Qac Gh.out O);have b:=hid (H9.below O H9.lt);have s:=hid (H8.below O H8.lt);have Hy:=hid (Hx.below O Hx.lt);have Gl:Hid (w.heap.size+3<=w1.heap.size):=hid (by have:=Gn.out;have:=O.size;omega);clear O k0 k1 K;cases B with
 | false=>
  have A:Hid (rmX S p=Sx.mt/\ rmY S p=Sx.mt/\ rmC S p=1):=hid (by
   have e:=QmJ (p:=p) (v:=⟨#[]⟩) L.out;have:=QoV (S:=S) (p:=p) (by rw [e];decide);rw [e] at this;exact this)
  obtain⟨r0,r1,rf,q0,q1,qf,U⟩:=Qiq b.out s.out (.slice none 0 0) (.slice none 0 0) (.slice none 0 0) (.slice none 0 0);go_wp2_with fail;obtain⟨y,z⟩:=U.out;refine zF (v:=.tuple #[.agg #[.slice none 0 0,.slice none 0 0],.agg #[.slice none 0 0,.slice none 0 0],.int .i64 1]) (by simp [results,Tryz.results57,go_sem,y.c0,y.c1,z.c0,z.c1]) ?_;rw [A.1,A.2.1,A.2.2];first
   | exact⟨none,0,none,0,none,0,none,0,rfl,SNc.mt _ _ _ _,SNc.mt _ _ _ _,Qa9 q.out _ _ _ _⟩
   | exact⟨none,0,none,0,none,0,none,⟨0,rfl⟩,SNc.mt _ _ _ _,SNc.mt _ _ _ _,Qa9 q.out _ _ _ _⟩
 | true=>
  have Hn:=hid (Qfp p pa pc w1 hp (Ga.below q.out));obtain⟨Z,hZ⟩:∃Z,yes (QaS p)=Z:=⟨_,rfl⟩;rw [hZ] at Hn;have Gb:=hid hZ;clear hZ;go_wp2_with fail;refine Hn.mono ?_;rintro e j ⟨rfl,rfl⟩;clear Hn;cases Z with
  | false=>
   have A:Hid (rmX S p=Sx.mt/\ rmY S p=Sx.mt/\ rmC S p=2):=hid (by
    have e:=Qk8 (p:=p) (v:=⟨#[]⟩) L.out (fun h=>by have:=Gb.out;rw [Qal h.1] at this;cases this);have:=QoV (S:=S) (p:=p) (by rw [e];decide);rw [e] at this;exact this)
   obtain⟨r0,r1,rf,q0,q1,qf,U⟩:=Qiq b.out s.out (.slice none 0 0) (.slice none 0 0) (.slice none 0 0) (.slice none 0 0);go_wp2_with fail;obtain⟨y,z⟩:=U.out;refine zF (v:=.tuple #[.agg #[.slice none 0 0,.slice none 0 0],.agg #[.slice none 0 0,.slice none 0 0],.int .i64 2]) (by simp [results,Tryz.results57,go_sem,y.c0,y.c1,z.c0,z.c1]) ?_;rw [A.1,A.2.1,A.2.2];first
    | exact⟨none,0,none,0,none,0,none,0,rfl,SNc.mt _ _ _ _,SNc.mt _ _ _ _,Qa9 q.out _ _ _ _⟩
    | exact⟨none,0,none,0,none,0,none,⟨0,rfl⟩,SNc.mt _ _ _ _,SNc.mt _ _ _ _,Qa9 q.out _ _ _ _⟩
  | true=>
   have Gg:=Qb9.1 Gb.out;have hs:=Qim L.out;have Gk:=hid hs;have Ho:=hid (Qpj (S:=S) (p:=p) (QnQ L.out ⟨Gg,by decide⟩));obtain⟨w3,Hg⟩:∃w3,j.alloc (.cells #[] 4)=w3:=⟨_,rfl⟩;have b3:Below j.heap.size j w3:=by rw [<- Hg];exact zO _ _
   have H4:Hid (BR w3 j.heap.size (.slice (some ⟨j.heap.size,0,none⟩) 0 0) (gnB (gnR p) S.l 0)):=hid (by rw [<- Hg];exact BR.new _);have Hz:=hid b3;have Gp:S.l.length<=1000:=hs.2.1;have Go:=hid (And.intro (Nat.le_refl j.heap.size) b3.size);clear Gg hs b3;go_wp2_with fail;try rw [Hg]
   clear Hg;go_loopw [7,8] (fun o i wr=>∃k:Nat,k<=S.l.length/\ i=.int .i64 k/\ Hid (Below j.heap.size j wr)/\ Hid (BR wr j.heap.size o (gnB (gnR p) S.l k))) (fun _ i _=>S.l.length - (intOf i).toNat);case atStart=>exact⟨0,Nat.zero_le _,rfl,Hz,H4⟩
   case round=>
    clear Hz H4;obtain⟨k,hk,rfl,Q,J⟩:=hrel;have I:=hid (Qac q.out Q.out);have G:=Hy.below Q.out Hy.lt;have k0:=G.c0;have k1:=G.c1;by_cases Hu:k<S.l.length
    ·have i1:(0:Int)<=(k:Int):=Int.natCast_nonneg _;have i2:(k:Int)<(S.l.length:Int):=by omega
     obtain⟨ab,ao,rfl,Gc,Ge⟩:=(H1.out).resolve_left (by omega);obtain⟨qa,qc,⟨r,Hc⟩,sg,u,c2,c3,c4⟩:=Ge k Hu;have x0:=(I.cell (p:=⟨ab,ao+k*5,none⟩) Gc).trans r;have N:=hid (QjL p (gL S.l k).p pa qa pc qc wr H7.1 Hc.1 H7.2 Hc.2 (Ga.below I.out) (sg.below I.out));have Ha:Hid (gnB (gnR p) S.l (k+1)=gnB (gnR p) S.l k++[yes (p <+:(gL S.l k).p)]):=hid (Qfd Hu);obtain⟨bb,Gd⟩:∃bb,yes (p <+:(gL S.l k).p)=bb:=⟨_,rfl⟩;obtain⟨lp,Gf⟩:∃lp,(gL S.l k).p.length=lp:=⟨_,rfl⟩;rw [Gd] at N Ha;rw [Gf] at N x0;clear Gd Gf Ge sg r u c2 c3 c4 Hc Gc G;go_wp2_with fail;refine N.mono ?_;rintro e w4 ⟨rfl,dn,Hv⟩;have H0:Hid (Below j.heap.size j w4):=hid (by rw [Hv];exact Qaz Q.out dn);have o4:BR w4 j.heap.size u7 (gnB (gnR p) S.l k):=by rw [Hv];exact J.below (Qaz zI dn)
     obtain⟨v5,M,Hf,o5,g⟩:=Qgp j.heap.size w4 u7 (gnB (gnR p) S.l k) bb o4 H0.size (by have:=QiQ (gnR p) S.l k;omega);have Gi:=hid (H0.trans g);have Gj:Hid (BR M j.heap.size v5 (gnB (gnR p) S.l (k+1))):=hid (by rw [Ha.out];exact o5);clear N Hv o4 o5 g Ha x0 k0 k1 J;go_wp2_with (at_builtin;refine Qaa rfl _ _ _ _ rfl Hf (by rfl) (by rfl) rfl ?_;clear Hf);go_roundw;case rel=>exact⟨k+1,Hu,by go_num,Gi,Gj⟩
     case measure=>simp [intOf];omega
    ·obtain rfl:k=S.l.length:=by omega
     obtain⟨gg,gc,hv,Ht,Hs⟩:=J.cells;subst hv;rw [QcX];rw [QcX] at Hs;obtain⟨M,Hw⟩:∃M,wr.alloc (.cells #[] 77)=M:=⟨_,rfl⟩;have g:Below wr.heap.size wr M:=by rw [<- Hw];exact zO _ _
     have Hp:=Qac Q.out g;have Hq:=Qac I.out g;have Hm:=hid (QdU (gnR p) [] a c xa d gg gc (some ⟨wr.heap.size,0,none⟩) 0 S M Gk.out (PtO.nil S) (H1.below Hq) (H3.below Hq) (Nat.lt_of_lt_of_le Ht g.size) (fun i hi=>by
      rw [<- QiP hi];exact(g.cell (p:=⟨gg,i,none⟩) Ht).trans (Hs i hi)) (.inl rfl))
     obtain⟨X,hX⟩:∃X,chX S (dlS (gnR p) S.l [])=X:=⟨_,rfl⟩;obtain⟨Y,hY⟩:∃Y,chY S (dlS (gnR p) S.l [])=Y:=⟨_,rfl⟩;obtain⟨H,Hr⟩:∃H,chC S (dlS (gnR p) S.l [])=H:=⟨_,rfl⟩;rw [hX,hY,Hr] at Hm;have Hb:Hid (rmX S p=X/\ rmY S p=Y/\ rmC S p=H):=hid ⟨Ho.1.trans hX,Ho.2.1.trans hY,Ho.2.2.trans Hr⟩;have Hl:=hid Hp;have Gm:Hid (w.heap.size+3<=M.heap.size):=hid (by have P:=Gl.out;have h2:=Hp.size;omega);clear hX hY Hr Ht Hs g Hp Hq J Q G;go_wp2_with fail;try rw [Hw]
     clear Hw;refine Hm.mono ?_;rintro e w4 ⟨ra,rc,rx,rd,Hh,Hi,Hk,Hj,rfl,ox,oy,b4⟩;have D:=Qac Hl.out b4;have Hd:=hid (b.below D b.lt);have He:=hid (s.below D s.lt);have H2:=hid (Qac q.out D);have H5:=hid ox;have H6:=hid oy;clear b4 D ox oy Hm k0 k1 b s q;have b:=Hd;have s:=He;have q:=H2;clear Hd He H2;obtain⟨r0,r1,rf,q0,q1,qf,U⟩:=Qiq b.out s.out (.slice ra X.l.length rc) (.slice rx X.n rd) (.slice Hh Y.l.length Hi) (.slice Hk Y.n Hj);go_wp2_with fail;obtain⟨y,z⟩:=U.out;refine zF (v:=.tuple #[.agg #[.slice ra X.l.length rc,.slice rx X.n rd],.agg #[.slice Hh Y.l.length Hi,.slice Hk Y.n Hj],.int .i64 H]) (by simp [results,Tryz.results57,go_sem,y.c0,y.c1,z.c0,z.c1]) ?_;have hz:=Gm.out;rw [Hb.1,Hb.2.1,Hb.2.2];first
      | exact⟨ra,rc,rx,rd,Hh,Hi,Hk,Hj,rfl,QeF H5.out (by omega) _ _ _ _,QeF H6.out (by omega) _ _ _ _,Qa9 q.out _ _ _ _⟩
      | exact⟨ra,rc,rx,rd,Hh,Hi,Hk,⟨Hj,rfl⟩,QeF H5.out (by omega) _ _ _ _,QeF H6.out (by omega) _ _ _ _,Qa9 q.out _ _ _ _⟩
end Go.Proofs.YtjdcfkmhmnblbaaGreatDoor
