import Derived.Test.YtgmjgboibfdaeaaGreatDoorDrg02
import Derived.Laws.StructEq
set_option linter.unusedVariables false
set_option linter.unusedSimpArgs false
set_option maxRecDepth 100000
set_option maxHeartbeats 40000000
namespace Go.Proofs.YtgmjgboibfdaeaaGreatDoor
open Go.ChangeShapes Go.WideShapes Go.ChangeAt Go.RowKit Go.Maps
variable {B bm cap g k n:Nat}{F R T f:Nat ->Int}{L:Int ->List (Int×Int)}{l:List (Int×Int)}{r t x y:Int}{w:World}
def QaW (R T:Nat ->Int)(rep:Int):Nat ->Int
 | 0=>0
 | k+1=>if R k=rep/\ QaW R T rep k<T k then T k else QaW R T rep k
def QaY (l:List (Int×Int)):Int:=match l.getLast? with|none=>0|some p=>p.2
theorem Qbj (l:List (Int×Int))(p:Int×Int):QaY (l++[p])=p.2:=by simp [QaY]
theorem Qh1:QaY []=0:=rfl
theorem Qg7 {R F T:Nat ->Int}:∀k:Nat,Qd8 R F T k ->(∀r,Lk R F T k r≠[] ->0<k/\ r<=R (k - 1))/\ (0<k ->QaY (Lk R F T k (R (k - 1)))=T (k - 1))/\ (∀r,QaW R T r k=QaY (Lk R F T k r))/\ (∀r,0<=QaY (Lk R F T k r)/\ QaY (Lk R F T k r)<=1000000000)
 | 0,_=>⟨fun r h=>absurd rfl h,fun h=>absurd h (by omega),fun r=>rfl,fun r=>by simp [Lk,QaY]⟩
 | k+1,h=>by
  have g:Qd8 R F T k:=fun i hi=>h i (by omega);obtain⟨y,b,z,p⟩:=Qg7 k g;have A:=QaV.1 (h k (by omega)).1;have u:0<k ->(R (k - 1)<R k \/(R (k - 1)=R k/\ T (k - 1)+1<F k)):=fun j=>by
   have:=(h k (by omega)).2 j;unfold QaC at this;exact of_decide_eq_true this
  have q:∀r,Lk R F T (k+1) r=upd (Lk R F T k) (R k) (Lk R F T k (R k)++[(F k,T k)]) r:=fun r=>rfl;have o:QaY (Lk R F T k (R k))<T k:=by
   by_cases v:Lk R F T k (R k)=[]
   ·rw [v,Qh1];omega
   ·obtain⟨j,t⟩:=y (R k) v;rcases u j with m|⟨m,s⟩
    ·omega
    ·rw [<- m,b j];omega
  refine⟨fun r hr=> ?_,fun _=> ?_,fun r=> ?_,fun r=> ?_⟩
  ·refine⟨by omega,?_⟩;rw [Nat.add_sub_cancel];rw [q] at hr;by_cases e:r=R k
   ·omega
   ·rw [Qad _ _ e] at hr;obtain⟨j,t⟩:=y r hr;rcases u j with m|⟨m,_⟩<;>omega
  ·rw [Nat.add_sub_cancel,q,Qak,Qbj]
  ·rw [q];by_cases e:r=R k
   ·subst e;rw [Qak,Qbj];show (if R k=R k/\ QaW R T (R k) k<T k then T k else QaW R T (R k) k)=T k;rw [if_pos ⟨rfl,by rw [z];exact o⟩]
   ·rw [Qad _ _ e,<- z r];show (if R k=r/\ QaW R T r k<T k then T k else QaW R T r k)=QaW R T r k;rw [if_neg (fun m=>e m.1.symm)]
  ·rw [q];by_cases e:r=R k
   ·subst e;rw [Qak,Qbj];show 0<=T k/\ T k<=1000000000;omega
   ·rw [Qad _ _ e];exact p r
def Srt (l:List (Int×Int)):Prop:=l.Pairwise (fun p q=>p.2+1<q.1)/\∀p∈l,1<=p.1/\ p.1<=p.2/\ p.2<=1000000000
theorem Qcg {R F T:Nat ->Int}:∀k:Nat,Qd8 R F T k ->∀r,Srt (Lk R F T k r)/\∀p∈Lk R F T k r,p.2<=QaY (Lk R F T k r)
 | 0,_=>fun r=>⟨⟨List.Pairwise.nil,fun p j=>by cases j⟩,fun p j=>by cases j⟩
 | k+1,h=>by
  have v:Qd8 R F T k:=fun i hi=>h i (by omega);have z:=Qcg k v;obtain⟨t,o,Q,U⟩:=Qg7 k v;have O:=QaV.1 (h k (by omega)).1;have g:0<k ->(R (k - 1)<R k \/(R (k - 1)=R k/\ T (k - 1)+1<F k)):=fun m=>by
   have:=(h k (by omega)).2 m;unfold QaC at this;exact of_decide_eq_true this
  intro r;show Srt (upd (Lk R F T k) (R k) (Lk R F T k (R k)++[(F k,T k)]) r)/\∀p∈upd (Lk R F T k) (R k) (Lk R F T k (R k)++[(F k,T k)]) r,p.2<=QaY (upd (Lk R F T k) (R k) (Lk R F T k (R k)++[(F k,T k)]) r);by_cases e:r=R k
  ·subst e;rw [Qak];obtain⟨⟨b,s⟩,A⟩:=z (R k);have y:∀p∈Lk R F T k (R k),p.2+1<F k:=by
    intro p j;obtain⟨m,M⟩:=t (R k) (List.ne_nil_of_mem j);have:=A p j;rcases g m with u|⟨u,E⟩
    ·omega
    ·rw [<- u,o m] at this;omega
   refine⟨⟨List.pairwise_append.2 ⟨b,List.pairwise_singleton _ _,fun p j q hq=> ?_⟩,fun p j=> ?_⟩,fun p j=> ?_⟩
   ·rw [List.mem_singleton] at hq;subst hq;exact y p j
   ·rcases List.mem_append.1 j with j|j
    ·exact s p j
    ·rw [List.mem_singleton] at j;subst j;exact⟨by omega,by omega,by omega⟩
   ·rw [Qbj];rcases List.mem_append.1 j with j|j
    ·have:=y p j;show p.2<=T k;omega
    ·rw [List.mem_singleton] at j;subst j;exact Int.le_refl _
  ·rw [Qad _ _ e];exact z r
def SS (w:World)(a:Option Addr)(n:Nat)(f t:Nat ->Int):Prop:=
 n=0 \/∃b off,a=some ⟨b,off,none⟩/\ b<w.heap.size/\∀i,i<n ->w.cell? ⟨b,off+i*2,none⟩=some (.int .i64 (f i))/\ w.cell? ⟨b,off+i*2+1,none⟩=some (.int .i64 (t i))
theorem QiS(h:w.ownsRow B 233 2 (.slice (some ⟨g,0,none⟩) n cap) n (Qal l))(hl:l.length=n):
  SS w (some ⟨g,0,none⟩) n (fun i=>(l.getD i (0,0)).1) (fun i=>(l.getD i (0,0)).2):=by
 refine .inr ⟨g,0,rfl,(h.lt g rfl).2,fun i hi=> ?_⟩;have j:∀(l:List (Int×Int)) (i:Nat),i<l.length ->(Qal l)[i*2]? =some (.int .i64 (l.getD i (0,0)).1)/\ (Qal l)[i*2+1]? =some (.int .i64 (l.getD i (0,0)).2):=by
  intro l;induction l with
  | nil=>intro i hi;simp at hi
  | cons a l ih=>
   intro i hi;cases i with
   | zero=>simp [Qal]
   | succ i=>
    have:=ih i (by simpa using hi);have e:Qal (a::l)=.int .i64 a.1::.int .i64 a.2::Qal l:=by simp [Qal]
    rw [e,show (i+1)*2=i*2+1+1 from by omega];simpa using this
 rw [Nat.zero_add,h.cellAt _ (by omega),h.cellAt _ (by omega)];exact j l i (by omega)
theorem Qgz(h:Srt l){i j:Nat}(hij:i<j)(hj:j<l.length):(l.getD i (0,0)).2+1<(l.getD j (0,0)).1/\ (l.getD i (0,0)).1<=(l.getD i (0,0)).2/\ (l.getD j (0,0)).1<=(l.getD j (0,0)).2:=by
 have k:l.getD i (0,0)=l[i]:=by simp [List.getD,show i<l.length by omega]
 have m:l.getD j (0,0)=l[j]:=by simp [List.getD,hj]
 rw [k,m];exact⟨List.pairwise_iff_getElem.1 h.1 i j (by omega) hj hij,(h.2 _ (List.getElem_mem _)).2.1,(h.2 _ (List.getElem_mem _)).2.1⟩
theorem QjS (a:Option Addr)(n c:Nat)(R F T:Nat ->Int)(w:World)(hn:n<=1048576)(h:Qa7 w a n R F T)(hok:Qdh R F T n=false):
  Cl 154 #[.agg #[.slice a n c]] w (Rt w (.tuple #[.map none,.bool false])):=by
 have j:Bl w (w.alloc (.cells #[.slice a n c] 38)):=zO _ _;go_enter Tryz.func154,Tryz.ntmps154;go_wp2_with fail;refine(Qky a n c R F T _ hn (h.bw j)).mono ?_;rintro e w1 ⟨rfl,k⟩;rw [hok];have m:=hid (Qaa j k);clear k j hok h;go_wp2_with fail;go_ret2;exact⟨rfl,m⟩
theorem Qi3(h:w.ownsRow B 233 2 (.slice (some ⟨g,0,none⟩) n cap) n (Qal l))(hl:l.length=n)(h0:0<n):
  w.cell? ⟨g,(n - 1)*2+1,none⟩=some (.int .i64 (QaY l)):=by
 rw [h.cellAt _ (by omega)];obtain⟨j,p,rfl⟩:∃j p,l=j++[p]:=⟨l.dropLast,l.getLast (by intro e;rw [e] at hl;simp at hl;omega),(List.dropLast_concat_getLast _).symm⟩;have k:(Qal j).length=j.length*2:=by
  clear h hl;induction j with
  | nil=>rfl
  | cons a l ih=>simp [Qal] at*;omega
 simp at hl;rw [Qbj,Qa2,List.getElem?_append_right (by rw [k];omega),k,show (n - 1)*2+1 - j.length*2=1 from by omega];rfl
theorem Qj3{D:DataW Value}{G:Int ->Value}(h:Qaz w bm n D G L)(r:Int)(hr:(Lit.int .i64 r).wf=true)(hl:(L r).length<=1000000):
  Cl 146 #[.map (some bm),.int .i64 r] w fun e w'=>e=.returned (.int .i64 (QaY (L r)))/\ w'=w:=by
 have v:=h.look r hr;have j:=h.rows r;rcases j.2 with ⟨e,y⟩|⟨g,E,M,e,z,i,s,t,o,p⟩
 ·have k:L r=[]:=List.eq_nil_of_length_eq_zero y;have q:Hid (QaY (L r)=0):=by rw [k];rfl
  rw [e] at v;clear j e y h k;go_enter Tryz.func146,Tryz.ntmps146;go_wp2_with fail;go_ret;exact⟨Qbv q.symm,rfl⟩
 ·rw [e] at v j;unfold maxLen at t;by_cases u:(L r).length=0
  ·have k:L r=[]:=List.eq_nil_of_length_eq_zero u;have q:Hid (QaY (L r)=0):=by rw [k];rfl
   rw [u] at v;clear j e h k o p i z s t;go_enter Tryz.func146,Tryz.ntmps146;go_wp2_with fail;go_ret;exact⟨Qbv q.symm,rfl⟩
  ·have V:=Qi3 j rfl (by omega);generalize b:(L r).length=m at*;have A:=hid b;have O:((m:Int) - 1).toNat=m - 1:=by omega
   have Q:(1:Int)<=(m:Int):=by omega
   have U:((m:Int)==0)=false:=by simp;omega
   clear j e h o p i z b u;go_enter Tryz.func146,Tryz.ntmps146;go_wp2_with fail;go_ret;exact⟨rfl,rfl⟩
def QaU (x y:Int):Int:=if x<y then -1 else if y<x then 1 else 0
theorem Qcn (x y:Int)(w:World):Cl 174 #[.int .i64 x,.int .i64 y] w fun e w'=>e=.returned (.int .i64 (QaU x y))/\ w'=w:=by
 by_cases k:x<y
 ·have j:Hid (QaU x y= -1):=if_pos k;go_enter Tryz.func174,Tryz.ntmps174;go_wp2;go_ret;exact⟨Qbv j.symm,rfl⟩
 ·by_cases m:y<x
  ·have j:Hid (QaU x y=1):=by unfold Hid QaU;rw [if_neg k,if_pos m]
   go_enter Tryz.func174,Tryz.ntmps174;go_wp2;go_ret;exact⟨Qbv j.symm,rfl⟩
  ·have j:Hid (QaU x y=0):=by unfold Hid QaU;rw [if_neg k,if_neg m]
   go_enter Tryz.func174,Tryz.ntmps174;go_wp2;go_ret;exact⟨Qbv j.symm,rfl⟩
theorem Qkx (f t q:Int)(w:World):Cl 217 #[.agg #[.int .i64 f,.int .i64 t],.int .i64 q] w (Rt w (.int .i64 (QaU t q))):=by
 go_enter Tryz.func217,Tryz.ntmps217;go_wp2_with fail;refine(Qcn t q _).mono ?_;rintro e w1 ⟨rfl,rfl⟩;go_wp2_with fail;go_ret;exact⟨rfl,zO _ _⟩
theorem QkN (a:Option Addr)(n c:Nat)(f t:Nat ->Int)(q:Int)(w:World)(hn:n<=1000000)(h:SS w a n f t)(hm:∀i j,i<j ->j<n ->t i<t j):
  Cl 216 #[.slice a n c,.int .i64 q,.func (.func 217) #[] #[]] w fun e w'=>∃(i:Nat) (b:Bool),e=.returned (.tuple #[.int .i64 i,.bool b])/\ i<=n/\ (∀j,j<i ->t j<q)/\ (∀j,i<=j ->j<n ->q<=t j)/\ Bl w w':=by
 go_enter Tryz.func216,Tryz.ntmps216;go_wp2_with fail;go_loopw [9,10] (fun vi vj wr=>∃i j:Nat,i<=j/\ j<=n/\ vi=.int .i64 i/\ vj=.int .i64 j/\ (∀k,k<i ->t k<q)/\ (∀k,j<=k ->k<n ->q<=t k)/\ Bl w wr) (fun vi vj _=>(intOf vj).toNat - (intOf vi).toNat);case atStart=>exact⟨0,n,Nat.zero_le _,Nat.le_refl _,rfl,rfl,fun k hk=>by omega,fun k h1 h2=>by omega,zI⟩
 case round=>
  obtain⟨i,j,N,J,rfl,rfl,M,E,r⟩:=hrel;have U:=hid M;have Q:=hid E;have Y:=hid hm;have z:=hid r;rcases h with h|⟨b,O,rfl,A,u⟩
  ·have H:i=0:=by omega
   have I:j=0:=by omega
   subst h H I;clear M E r hm;go_wp2_with fail;go_ret2;exact⟨0,false,rfl,by omega,fun k hk=>by omega,fun k _ hk=>by omega,z⟩
  by_cases B:i<j
  ·obtain⟨m,K⟩:∃m:Nat,m=(i+j)/2:=⟨_,rfl⟩;have Z:((i:Int)+(j:Int))/2=(m:Int):=by omega
   have o:=(r.cell (p:=⟨b,O+m*2,none⟩) A).trans (u m (by omega)).1;have s:=(r.cell (p:=⟨b,O+m*2+1,none⟩) A).trans (u m (by omega)).2;have C:i<=m:=by omega
   have D:m<j:=by omega
   clear M E r hm u K;go_wp2_with fail;refine(Qkx (f m) (t m) q _).mono ?_;rintro e L ⟨rfl,v⟩;have g:=hid (Qaa z v);clear v;by_cases y:t m<q
   ·rw [show QaU (t m) q= -1 from if_pos y];have V:Hid (∀k,k<m+1 ->t k<q):=fun k hk=>by
     by_cases e:k=m
     ·subst e;exact y
     ·have:=Y k m (by omega) (by omega);omega
    clear o s y Z;go_wp2_with fail;go_roundw;case rel=>exact⟨m+1,j,by omega,J,by go_num,rfl,V,Q,g⟩
    case measure=>simp [intOf];omega
   ·have G:0<=QaU (t m) q:=by unfold QaU;rw [if_neg y];split<;>omega
    generalize QaU (t m) q=cv at G;have V:Hid (∀k,m<=k ->k<n ->q<=t k):=fun k h1 h2=>by
     by_cases e:k=m
     ·subst e;omega
     ·have:=Y m k (by omega) (by omega);omega
    clear o s y Z;go_wp2_with fail;go_roundw;case rel=>exact⟨i,m,by omega,by omega,rfl,rfl,U,V,g⟩
    case measure=>simp [intOf];omega
  ·obtain rfl:i=j:=by omega
   clear M E hm;by_cases X:i<n
   ·have o:=(r.cell (p:=⟨b,O+i*2,none⟩) A).trans (u i (by omega)).1;have s:=(r.cell (p:=⟨b,O+i*2+1,none⟩) A).trans (u i (by omega)).2;clear u r;go_wp2_with fail;refine(Qkx (f i) (t i) q _).mono ?_;rintro e L ⟨rfl,v⟩;have g:=hid (Qaa z v);clear v o s;generalize QaU (t i) q=cv;go_wp2_with fail;go_ret2;exact⟨i,cv==0,rfl,by omega,U,Q,g⟩
   ·clear u r;go_wp2_with fail;go_ret2;exact⟨i,false,rfl,by omega,U,Q,z⟩
def inB (l:List (Int×Int))(f t:Int):Bool:=l.any fun p=>decide (p.1<=f/\ t<=p.2)
theorem QmD(h:Srt l)(f t:Int)(i:Nat)(hi:i<=l.length)(hlo:∀j,j<i ->(l.getD j (0,0)).2<t)(hhi:∀j,i<=j ->j<l.length ->t<=(l.getD j (0,0)).2):
  inB l f t=(decide (i<l.length) && decide ((l.getD i (0,0)).1<=f)):=by
 rw [Bool.eq_iff_iff];simp only [inB,List.any_eq_true,decide_eq_true_iff,Bool.and_eq_true];constructor
 ·rintro⟨p,y,k,r⟩;obtain⟨j,u,rfl⟩:=List.getElem_of_mem y;have m:l.getD j (0,0)=l[j]:=by simp [List.getD,u]
  have z:i<=j:=by
   by_cases v:j<i
   ·have:=hlo j v;rw [m] at this;omega
   ·omega
  refine⟨by omega,?_⟩;by_cases e:i=j
  ·subst e;rw [m];exact k
  ·have:=Qgz h (show i<j by omega) u;rw [m] at this;omega
 ·rintro⟨k,r⟩;have q:l.getD i (0,0)=l[i]:=by simp [List.getD,k]
  refine⟨l[i],List.getElem_mem _,?_,?_⟩
  ·rw [<- q];exact r
  ·rw [<- q];exact hhi i zL k
theorem QmB{D:DataW Value}{G:Int ->Value}(h:Qaz w bm n D G L)(r f t:Int)(hr:(Lit.int .i64 r).wf=true)(hs:Srt (L r))(hl:(L r).length<=1000000):
  Cl 192 #[.map (some bm),.int .i64 r,.agg #[.int .i64 f,.int .i64 t]] w (Rt w (.bool (inB (L r) f t))):=by
 obtain⟨q,v⟩:=zE (w.alloc (.cells #[.int .i64 f,.int .i64 t] 233));have o:Bl w q:=by rw [<- v];exact zO _ _
 have z0:q.heap.size=w.heap.size+1:=by rw [<- v];simp
 have x0:q.cell? ⟨w.heap.size,0,none⟩=some (.int .i64 f):=by rw [<- v];simp
 have X:q.cell? ⟨w.heap.size,1,none⟩=some (.int .i64 t):=by rw [<- v];simp
 have Q:=h.bw o;have Z:=Q.look r hr;have b:=Q.rows r;obtain⟨a,c,e,K,Ha⟩:∃a c,G r=.slice a (L r).length c/\ SS q a (L r).length (fun i=>((L r).getD i (0,0)).1) (fun i=>((L r).getD i (0,0)).2)/\ ((L r).length≠0 ->∃g,a=some ⟨g,0,none⟩):=by
  rcases b.2 with ⟨e,O⟩|⟨g,B,P,e,_⟩
  ·exact⟨none,0,by rw [e,O],.inl O,fun h=>absurd O h⟩
  ·exact⟨_,B,e,by rw [e] at b;exact QiS b rfl,fun _=>⟨g,rfl⟩⟩
 rw [e] at Z;have z:=hid K;have E:=hid (QmD hs f t);have M:Hid (∀i j,i<j ->j<(L r).length ->(fun i=>((L r).getD i (0,0)).2) i<(fun i=>((L r).getD i (0,0)).2) j):=fun i j hij hj=>by
  have:=Qgz hs hij hj;show ((L r).getD i (0,0)).2<((L r).getD j (0,0)).2;omega
 clear e b Q h hs K;generalize Hb:(L r).length=m at*;go_enter Tryz.func192,Tryz.ntmps192;go_wp2_with fail;try rw [v]
 refine(QkN a m c _ _ t _ (by omega) z M).mono ?_;rintro e N ⟨i,R,rfl,hi,H,V,u⟩;clear v;have A:=hid (E i hi H V);have I:=(u.cell (p:=⟨w.heap.size,0,none⟩) (show w.heap.size<q.heap.size by omega)).trans x0;have s:=hid (Qaa o u);by_cases Y:i<m
 ·have F:∃g k,a=some ⟨g,k,none⟩/\ g<N.heap.size/\ N.cell? ⟨g,k+i*2,none⟩=some (.int .i64 ((L r).getD i (0,0)).1):=by
   rcases z.out with h|⟨g,k,rfl,U,C⟩
   ·omega
   ·exact⟨g,k,rfl,Nat.lt_of_lt_of_le U u.size,(u.cell (p:=⟨g,k+i*2,none⟩) U).trans (C i Y).1⟩
  obtain⟨g,k,rfl,U,J⟩:=F;have W:(0:Int)<=(i:Int):=Int.natCast_nonneg _;have Hc:(i:Int)<(m:Int):=by omega
  generalize T:((L r).getD i (0,0)).1=fi at*;clear H V u x0 X Z z M E o;cases hle:decide (fi<=f) with
  | false=>
   have y:Hid (inB (L r) f t=false):=by unfold Hid;rw [A.out,hle];simp
   go_wp2_with fail;refine zR (S:=fun w'=>w'.cell? ⟨w.heap.size,0,none⟩=some (.int .i64 f)/\ w'.cell? ⟨g,k+i*2,none⟩=some (.int .i64 fi)) ⟨I,J⟩ (fun qh=> ?_);refine tZ 0 20 ?_;refine tZ 1 21 ?_;refine tZ 2 22 ?_;refine tZ 3 23 ?_;refine tZ 4 24 ?_;refine tZ 5 25 ?_;refine tZ 6 26 ?_;refine tZ 7 27 ?_;refine tZ 8 28 ?_;refine tZ 9 29 ?_;refine tZ 10 30 ?_;refine tZ 11 31 ?_;refine tZ 12 32 ?_;refine tZ 13 33 ?_;refine tZ 14 6 ?_;refine zD ?_;go_wp2_with fail;go_ret;exact⟨QbE y.symm,s.drew⟩
  | true=>
   have y:Hid (inB (L r) f t=true):=by unfold Hid;rw [A.out,hle];simp [Y]
   go_wp2_with fail;refine zR (S:=fun w'=>w'.cell? ⟨w.heap.size,0,none⟩=some (.int .i64 f)/\ w'.cell? ⟨g,k+i*2,none⟩=some (.int .i64 fi)) ⟨I,J⟩ (fun qh=> ?_);refine tZ 0 20 ?_;refine tZ 1 21 ?_;refine tZ 2 22 ?_;refine tZ 3 23 ?_;refine tZ 4 24 ?_;refine tZ 5 25 ?_;refine tZ 6 26 ?_;refine tZ 7 27 ?_;refine tZ 8 28 ?_;refine tZ 9 29 ?_;refine tZ 10 30 ?_;refine tZ 11 31 ?_;refine tZ 12 32 ?_;refine tZ 13 33 ?_;refine tZ 14 6 ?_;refine zD ?_;go_wp2_with fail;go_ret;exact⟨QbE y.symm,s.drew⟩
 ·have y:Hid (inB (L r) f t=false):=by unfold Hid;rw [A.out];simp [Y]
  have Hd:decide ((i:Int)<(m:Int))=false:=by simp;omega
  have He:decide (i<m)=false:=by simp;omega
  clear H V u x0 X Z z M E o;go_wp2_with fail;refine zR (S:=fun w'=>w'.cell? ⟨w.heap.size,0,none⟩=some (.int .i64 f)) I (fun qh=> ?_);refine tZ 0 20 ?_;refine tZ 1 21 ?_;refine tZ 2 22 ?_;refine tZ 3 23 ?_;refine tZ 4 24 ?_;refine uZ 5 25 ?_;refine uZ 6 26 ?_;refine uZ 7 27 ?_;refine uZ 8 28 ?_;refine uZ 9 29 ?_;refine uZ 10 30 ?_;refine uZ 11 31 ?_;refine uZ 12 32 ?_;refine tZ 13 33 ?_;refine tZ 14 6 ?_;refine zD ?_;go_wp2_with fail;go_ret;exact⟨QbE y.symm,s.drew⟩
theorem QnD{D:DataW Value}{G:Int ->Value}(h:Qaz w bm n D G L)(r q:Int)(hr:(Lit.int .i64 r).wf=true)(hs:Srt (L r))(hl:(L r).length<=1000000):
  Cl 177 #[.map (some bm),.agg #[.int .i64 r,.int .i64 q]] w (Rt w (.bool (inB (L r) q q))):=by
 have j:Bl w (w.alloc (.cells #[.int .i64 r,.int .i64 q] 104)):=zO _ _;have k:=hid (QmB (h.bw j) r q q hr hs hl);have u:=hid j;clear j h hs;go_enter Tryz.func177,Tryz.ntmps177;go_wp2_with fail;refine k.mono ?_;rintro e w1 ⟨rfl,m⟩;have v:=hid (Qaa u m);clear m k;go_wp2_with fail;go_ret;exact⟨rfl,v⟩
def QbG (R F T:Nat ->Int)(r f t:Int):Nat ->Bool
 | 0=>false
 | k+1=>QbG R F T r f t k||decide (R k=r/\ F k<=f/\ t<=T k)
theorem Qe7 (R F T:Nat ->Int)(r f t:Int)(k:Nat):inB (Lk R F T k r) f t=QbG R F T r f t k:=by
 induction k with
 | zero=>rfl
 | succ k ih=>
  show inB (upd (Lk R F T k) (R k) (Lk R F T k (R k)++[(F k,T k)]) r) f t=(QbG R F T r f t k||decide (R k=r/\ F k<=f/\ t<=T k));by_cases e:r=R k
  ·subst e;rw [Qak,<- ih];simp [inB]
  ·rw [Qad _ _ e,ih];have:decide (R k=r/\ F k<=f/\ t<=T k)=false:=by simp;intro h;exact absurd h.symm e
   rw [this];simp
theorem Qe5{f:Int}(hk:k<n)(h:R k=r/\ F k<=f/\ t<=T k):QbG R F T r f t n=true:=by
 induction n with
 | zero=>omega
 | succ n ih=>
  simp only [QbG,Bool.or_eq_true,decide_eq_true_iff];by_cases e:k=n
  ·subst e;exact .inr h
  ·exact .inl (ih (by omega))
theorem Qdy{f:Int}(h:QbG R F T r f t k=false)(h2:¬(R k=r/\ F k<=f/\ t<=T k)):QbG R F T r f t (k+1)=false:=by
 simp only [QbG,h,Bool.false_or,decide_eq_false_iff_not];exact h2
theorem Qlz (a:Option Addr)(n c:Nat)(R F T:Nat ->Int)(r q:Int)(w:World)(hn:n<=1048576)(h:Qa7 w a n R F T):
  Cl 66 #[.agg #[.slice a n c],.agg #[.int .i64 r,.int .i64 q]] w (Rt w (.bool (QbG R F T r q q n))):=by
 obtain⟨m,y⟩:=zE ((w.alloc (.cells #[.slice a n c] 38)).alloc (.cells #[.int .i64 r,.int .i64 q] 104));have Z:Bl w m:=by rw [<- y];exact Qae _ _ _
 have I:m.cell? ⟨w.heap.size,0,none⟩=some (.slice a n c):=by rw [<- y];simp
 have x0:m.cell? ⟨w.heap.size+1,0,none⟩=some (.int .i64 r):=by rw [<- y];simp
 have K:m.cell? ⟨w.heap.size+1,1,none⟩=some (.int .i64 q):=by rw [<- y];simp
 have zW:m.heap.size=w.heap.size+2:=by rw [<- y];simp
 have G:=h.bw Z;clear h;go_enter Tryz.func66,Tryz.ntmps66;go_wp2_with fail;try rw [y]
 clear y;go_loopw [5] (fun i wr=>∃k:Nat,k<=n/\ i=.int .i64 k/\ QbG R F T r q q k=false/\ Bl m wr) (fun i _=>n - (intOf i).toNat);case atStart=>exact⟨0,Nat.zero_le _,rfl,rfl,zI⟩
 case round=>
  obtain⟨k,D,rfl,J,u⟩:=hrel;have E:=(u.cell (p:=⟨w.heap.size,0,none⟩) (show w.heap.size<m.heap.size by omega)).trans I;have V:=(u.cell (p:=⟨w.heap.size+1,0,none⟩) (show w.heap.size+1<m.heap.size by omega)).trans x0;have Y:=(u.cell (p:=⟨w.heap.size+1,1,none⟩) (show w.heap.size+1<m.heap.size by omega)).trans K;have t:=hid u;have A:=hid J;by_cases z:k<n
  ·rcases G with G|⟨b,j,rfl,H,U⟩
   ·omega
   have M:=(u.cell (p:=⟨b,j+k*3,none⟩) H).trans (U k z).1;have O:=(u.cell (p:=⟨b,j+k*3+1,none⟩) H).trans (U k z).2.1;have Q:=(u.cell (p:=⟨b,j+k*3+2,none⟩) H).trans (U k z).2.2;have P:(0:Int)<=(k:Int):=Int.natCast_nonneg _;have W:(k:Int)<(n:Int):=by omega
   clear U u J I x0 K;by_cases g:R k=r
   ·have X:(R k==r)=true:=by simp;exact g
    have L:=hid g;clear g;by_cases o:F k<=q
    ·have B:decide (F k<=q)=true:=by simp;exact o
     have N:=hid o;clear o;by_cases s:q<=T k
     ·have C:decide (q<=T k)=true:=by simp;exact s
      have v:=hid (Qe5 (n:=n) z ⟨L,N,s⟩);clear s;go_wp2_with fail;refine zR (S:=fun w'=>w'.cell? ⟨w.heap.size,0,none⟩=some (.slice (some ⟨b,j,none⟩) n c)/\ w'.cell? ⟨w.heap.size+1,0,none⟩=some (.int .i64 r)/\ w'.cell? ⟨w.heap.size+1,1,none⟩=some (.int .i64 q)/\ w'.cell? ⟨b,j+k*3,none⟩=some (.int .i64 (R k))/\ w'.cell? ⟨b,j+k*3+1,none⟩=some (.int .i64 (F k))/\ w'.cell? ⟨b,j+k*3+2,none⟩=some (.int .i64 (T k))) ⟨E,V,Y,M,O,Q⟩ (fun qh=> ?_);refine tZ 0 13 ?_;refine tZ 1 14 ?_;refine tZ 2 15 ?_;refine tZ 3 16 ?_;refine tZ 4 17 ?_;refine tZ 5 18 ?_;refine tZ 6 19 ?_;refine tZ 7 20 ?_;refine tZ 8 21 ?_;refine tZ 9 22 ?_;refine tZ 10 23 ?_;refine tZ 11 24 ?_;refine tZ 12 25 ?_;refine tZ 13 26 ?_;refine tZ 14 27 ?_;refine tZ 15 28 ?_;refine tZ 16 29 ?_;refine tZ 17 30 ?_;refine tZ 18 31 ?_;refine tZ 19 32 ?_;refine tZ 20 33 ?_;refine tZ 21 34 ?_;refine tZ 22 35 ?_;refine tZ 23 36 ?_;refine tZ 24 37 ?_;refine tZ 25 38 ?_;refine tZ 26 39 ?_;refine tZ 27 40 ?_;refine tZ 28 41 ?_;refine tZ 29 42 ?_;refine tZ 30 43 ?_;refine zD ?_;go_wp2_with fail;go_ret;exact⟨QbE v.symm,(Z.trans (t.mono (by omega))).drew⟩
     ·have C:decide (q<=T k)=false:=by simp;omega
      have v:=hid (Qdy A (fun hh=>s hh.2.2));clear s;go_wp2_with fail;refine zR (S:=fun w'=>w'.cell? ⟨w.heap.size,0,none⟩=some (.slice (some ⟨b,j,none⟩) n c)/\ w'.cell? ⟨w.heap.size+1,0,none⟩=some (.int .i64 r)/\ w'.cell? ⟨w.heap.size+1,1,none⟩=some (.int .i64 q)/\ w'.cell? ⟨b,j+k*3,none⟩=some (.int .i64 (R k))/\ w'.cell? ⟨b,j+k*3+1,none⟩=some (.int .i64 (F k))/\ w'.cell? ⟨b,j+k*3+2,none⟩=some (.int .i64 (T k))) ⟨E,V,Y,M,O,Q⟩ (fun qh=> ?_);refine tZ 0 13 ?_;refine tZ 1 14 ?_;refine tZ 2 15 ?_;refine tZ 3 16 ?_;refine tZ 4 17 ?_;refine tZ 5 18 ?_;refine tZ 6 19 ?_;refine tZ 7 20 ?_;refine tZ 8 21 ?_;refine tZ 9 22 ?_;refine tZ 10 23 ?_;refine tZ 11 24 ?_;refine tZ 12 25 ?_;refine tZ 13 26 ?_;refine tZ 14 27 ?_;refine tZ 15 28 ?_;refine tZ 16 29 ?_;refine tZ 17 30 ?_;refine tZ 18 31 ?_;refine tZ 19 32 ?_;refine tZ 20 33 ?_;refine tZ 21 34 ?_;refine tZ 22 35 ?_;refine tZ 23 36 ?_;refine tZ 24 37 ?_;refine tZ 25 38 ?_;refine tZ 26 39 ?_;refine tZ 27 40 ?_;refine tZ 28 41 ?_;refine tZ 29 42 ?_;refine tZ 30 43 ?_;refine zD ?_;go_wp2_with fail;go_roundw;case rel=>exact⟨k+1,z,by go_num,v,t.drew⟩
      case measure=>simp [intOf];omega
    ·have B:decide (F k<=q)=false:=by simp;omega
     have v:=hid (Qdy A (fun hh=>o hh.2.1));clear o;go_wp2_with fail;refine zR (S:=fun w'=>w'.cell? ⟨w.heap.size,0,none⟩=some (.slice (some ⟨b,j,none⟩) n c)/\ w'.cell? ⟨w.heap.size+1,0,none⟩=some (.int .i64 r)/\ w'.cell? ⟨w.heap.size+1,1,none⟩=some (.int .i64 q)/\ w'.cell? ⟨b,j+k*3,none⟩=some (.int .i64 (R k))/\ w'.cell? ⟨b,j+k*3+1,none⟩=some (.int .i64 (F k))/\ w'.cell? ⟨b,j+k*3+2,none⟩=some (.int .i64 (T k))) ⟨E,V,Y,M,O,Q⟩ (fun qh=> ?_);refine tZ 0 13 ?_;refine tZ 1 14 ?_;refine tZ 2 15 ?_;refine tZ 3 16 ?_;refine tZ 4 17 ?_;refine tZ 5 18 ?_;refine tZ 6 19 ?_;refine tZ 7 20 ?_;refine tZ 8 21 ?_;refine tZ 9 22 ?_;refine tZ 10 23 ?_;refine tZ 11 24 ?_;refine tZ 12 25 ?_;refine tZ 13 26 ?_;refine tZ 14 27 ?_;refine tZ 15 28 ?_;refine tZ 16 29 ?_;refine tZ 17 30 ?_;refine tZ 18 31 ?_;refine tZ 19 32 ?_;refine tZ 20 33 ?_;refine uZ 21 34 ?_;refine uZ 22 35 ?_;refine uZ 23 36 ?_;refine uZ 24 37 ?_;refine uZ 25 38 ?_;refine uZ 26 39 ?_;refine uZ 27 40 ?_;refine uZ 28 41 ?_;refine uZ 29 42 ?_;refine tZ 30 43 ?_;refine zD ?_;go_wp2_with fail;go_roundw;case rel=>exact⟨k+1,z,by go_num,v,t.drew⟩
     case measure=>simp [intOf];omega
   ·have X:(R k==r)=false:=by simp;exact g
    have v:=hid (Qdy A (fun hh=>g hh.1));clear g;go_wp2_with fail;refine zR (S:=fun w'=>w'.cell? ⟨w.heap.size,0,none⟩=some (.slice (some ⟨b,j,none⟩) n c)/\ w'.cell? ⟨w.heap.size+1,0,none⟩=some (.int .i64 r)/\ w'.cell? ⟨w.heap.size+1,1,none⟩=some (.int .i64 q)/\ w'.cell? ⟨b,j+k*3,none⟩=some (.int .i64 (R k))/\ w'.cell? ⟨b,j+k*3+1,none⟩=some (.int .i64 (F k))/\ w'.cell? ⟨b,j+k*3+2,none⟩=some (.int .i64 (T k))) ⟨E,V,Y,M,O,Q⟩ (fun qh=> ?_);refine tZ 0 13 ?_;refine tZ 1 14 ?_;refine tZ 2 15 ?_;refine tZ 3 16 ?_;refine tZ 4 17 ?_;refine tZ 5 18 ?_;refine tZ 6 19 ?_;refine tZ 7 20 ?_;refine tZ 8 21 ?_;refine tZ 9 22 ?_;refine uZ 10 23 ?_;refine uZ 11 24 ?_;refine uZ 12 25 ?_;refine uZ 13 26 ?_;refine uZ 14 27 ?_;refine uZ 15 28 ?_;refine uZ 16 29 ?_;refine uZ 17 30 ?_;refine uZ 18 31 ?_;refine tZ 19 32 ?_;refine tZ 20 33 ?_;refine uZ 21 34 ?_;refine uZ 22 35 ?_;refine uZ 23 36 ?_;refine uZ 24 37 ?_;refine uZ 25 38 ?_;refine uZ 26 39 ?_;refine uZ 27 40 ?_;refine uZ 28 41 ?_;refine uZ 29 42 ?_;refine tZ 30 43 ?_;refine zD ?_;go_wp2_with fail;go_roundw;case rel=>exact⟨k+1,z,by go_num,v,t.drew⟩
    case measure=>simp [intOf];omega
  ·obtain rfl:k=n:=by omega
   clear u J I x0 K G;go_wp2_with fail;go_ret;exact⟨QbE A.symm,Z.trans (t.mono (by omega))⟩
def nz (f:Nat ->Int):Nat ->Nat ->Int
 | 0,_=>0
 | n+1,k=>if f k=0 then nz f n (k+1) else f k
theorem QlF(h:k<n):nz f (n - k) k=if f k=0 then nz f (n - (k+1)) (k+1) else f k:=by
 rw [show n - k=(n - (k+1))+1 by omega];rfl
theorem Qjr (b n c:Nat)(f:Nat ->Int)(w:World)(hn:n<=1000)(h:∀i,i<n ->w.cell? ⟨b,i,none⟩=some (.int .i64 (f i))):
  Cl 173 #[.slice (some ⟨b,0,none⟩) n c] w fun e w'=>e=.returned (.int .i64 (nz f n 0))/\ w'=w:=by
 go_enter Tryz.func173,Tryz.ntmps173;go_wp2_with fail;go_loop [8] (fun i=>∃k:Nat,k<=n/\ i=.int .i64 (k:Int)/\ Hid (nz f n 0=nz f (n - k) k)) (fun i=>n - (intOf i).toNat);case atStart=>exact⟨0,Nat.zero_le _,rfl,hid rfl⟩
 case round=>
  obtain⟨k,v,rfl,m⟩:=hrel;by_cases r:k<n
  ·have x0:=h k r;have y:(0:Int)<=(k:Int):=Int.natCast_nonneg _;have z:(k:Int)<(n:Int):=by omega
   have j:Hid (nz f n 0=if f k=0 then nz f (n - (k+1)) (k+1) else f k):=hid (by rw [m.out,QlF r]);obtain⟨x,u⟩:=zE (f k);rw [u] at x0 j;clear h u m;by_cases q:x=0
   ·subst q;have j:Hid (nz f n 0=nz f (n - (k+1)) (k+1)):=hid (by rw [j.out,if_pos rfl]);go_wp2_with fail;go_round;case rel=>exact⟨k+1,r,by go_num,j⟩
    case measure=>simp [intOf];omega
   ·have j:Hid (nz f n 0=x):=hid (by rw [j.out,if_neg q]);have g:(x !=0)=true:=by simpa using q
    go_wp2_with fail;go_ret;exact⟨QbA j.symm,rfl⟩
  ·obtain rfl:k=n:=by omega
   have j:Hid (nz f k 0=0):=hid (by rw [m.out,Nat.sub_self];rfl);clear h m;go_wp2_with fail;go_ret;exact⟨QbA j.symm,rfl⟩
def orI (x y:Int):Int:=if x=0 then y else x
theorem nz2:nz f 2 0=orI (f 0) (f 1):=by
 unfold orI nz;by_cases h:f 0=0
 ·rw [if_pos h,if_pos h];unfold nz;by_cases j:f 1=0
  ·rw [if_pos j,j];rfl
  ·rw [if_neg j]
 ·rw [if_neg h,if_neg h]
theorem nz3:nz f 3 0=orI (f 0) (orI (f 1) (f 2)):=by
 unfold orI nz;by_cases h:f 0=0
 ·rw [if_pos h,if_pos h];unfold nz;by_cases j:f 1=0
  ·rw [if_pos j,if_pos j];unfold nz;by_cases k:f 2=0
   ·rw [if_pos k,k];rfl
   ·rw [if_neg k]
  ·rw [if_neg j,if_neg j]
 ·rw [if_neg h,if_neg h]
def kd (fl:Bool):Int:=if fl=true then 2 else 1
def Qla (r q r' q':Int):Int:=orI (QaU r r') (QaU q q')
def QaM (x y:Lf):Int:=orI (QaD x.p y.p) (orI (QaU (kd x.fl) (kd y.fl)) (Qla x.r x.q y.r y.q))
theorem QeB (v0:Value)(fl:Bool)(v2 v3 v4:Value)(w:World):Cl 131 #[.agg #[v0,.bool fl,v2,v3,v4]] w (Rt w (.int .i64 (kd fl))):=by
 have j:=hid (zO w (.cells #[v0,.bool fl,v2,v3,v4] 106));cases fl
 ·go_enter Tryz.func131,Tryz.ntmps131;go_wp2_with fail;go_ret;exact⟨rfl,j⟩
 ·go_enter Tryz.func131,Tryz.ntmps131;go_wp2_with fail;go_ret;exact⟨rfl,j⟩
theorem QfO (r q r' q':Int)(w:World):Cl 151 #[.agg #[.int .i64 r,.int .i64 q],.agg #[.int .i64 r',.int .i64 q']] w (Rt w (.int .i64 (Qla r q r' q'))):=by
 obtain⟨W,m⟩:=zE ((w.alloc (.cells #[.int .i64 r,.int .i64 q] 104)).alloc (.cells #[.int .i64 r',.int .i64 q'] 104));have z:Bl w W:=by rw [<- m];exact Qae _ _ _
 have A:W.heap.size=w.heap.size+2:=by rw [<- m];simp
 have k0:W.cell? ⟨w.heap.size,0,none⟩=some (.int .i64 r):=by rw [<- m];simp
 have o:W.cell? ⟨w.heap.size,1,none⟩=some (.int .i64 q):=by rw [<- m];simp
 have b:W.cell? ⟨w.heap.size+1,0,none⟩=some (.int .i64 r'):=by rw [<- m];simp
 have s:W.cell? ⟨w.heap.size+1,1,none⟩=some (.int .i64 q'):=by rw [<- m];simp
 have v:=hid z;have h:w.heap.size<W.heap.size:=by omega
 have g:w.heap.size+1<W.heap.size:=by omega
 clear z A;go_enter Tryz.func151,Tryz.ntmps151;go_wp2_with fail;try rw [m]
 clear m;have u:∀w',Bl W w' ->(Bl W w'/\ w'.cell? ⟨w.heap.size,0,none⟩=some (.int .i64 r)/\ w'.cell? ⟨w.heap.size,1,none⟩=some (.int .i64 q)/\ w'.cell? ⟨w.heap.size+1,0,none⟩=some (.int .i64 r')/\ w'.cell? ⟨w.heap.size+1,1,none⟩=some (.int .i64 q')):=fun w' k=>⟨k,(k.cell (p:=⟨w.heap.size,0,none⟩) h).trans k0,(k.cell (p:=⟨w.heap.size,1,none⟩) h).trans o,(k.cell (p:=⟨w.heap.size+1,0,none⟩) g).trans b,(k.cell (p:=⟨w.heap.size+1,1,none⟩) g).trans s⟩;have y:=hid u;clear u;refine zS y (fun qh=> ?_);refine tZ 0 5 ?_;refine tZ 1 6 ?_;refine tZ 2 7 ?_;refine tZ 3 8 ?_;refine tZ 5 10 ?_;refine tZ 6 11 ?_;refine tZ 7 12 ?_;refine tZ 8 13 ?_;refine cZ 4 ?_;intro K j;go_simp;refine(Qcn r r' _).mono ?_;rintro e w1 ⟨rfl,rfl⟩;refine j.out _ _ qh (fun qh=> ?_);clear j K;try simp only [zP]
 refine cZ 9 ?_;intro K j;go_simp;refine(Qcn q q' _).mono ?_;rintro e E ⟨rfl,rfl⟩;refine j.out _ _ qh (fun qh=> ?_);clear j K;try simp only [zP]
 refine cZ 10 ?_;intro K j;go_simp;have k:=qh.1.alloc qh.1.size (.cells #[.int .i64 (QaU r r'),.int .i64 (QaU q q')] 3);refine j.out _ _ (y _ k) (fun qh=> ?_);clear j K;try simp only [zP]
 refine cZ 11 ?_;intro K j;go_simp;refine(Qjr _ 2 2 (fun i=>if i=0 then QaU r r' else QaU q q') _ (by omega) (fun i hi=> ?_)).mono ?_
 ·match i,hi with
  | 0,_=>simp
  | 1,_=>simp
 rintro e M ⟨rfl,rfl⟩;refine j.out _ _ qh (fun qh=> ?_);clear j K;try simp only [zP]
 refine tZ 12 4 ?_;refine zD ?_;have t:=hid (v.trans (qh.1.mono v.size));clear qh k;go_wp2_with fail;go_ret;exact⟨QbA nz2,t⟩
theorem Qex (a a':Option Addr)(c c':Nat)(p p':List ByteArray)(fl fl':Bool)(r q r' q':Int)(v v':ByteArray)(w:World)(hn:p.length<=1048576)(hn':p'.length<=1048576)(h:Qaw w a p)(h':Qaw w a' p'):
  Cl 178 #[.agg #[.slice a p.length c,.bool fl,.int .i64 r,.int .i64 q,.string v],.agg #[.slice a' p'.length c',.bool fl',.int .i64 r',.int .i64 q',.string v']] w (Rt w (.int .i64 (QaM ⟨p,fl,r,q,v⟩ ⟨p',fl',r',q',v'⟩))):=by
 obtain⟨W,m⟩:=zE ((w.alloc (.cells #[.slice a p.length c,.bool fl,.int .i64 r,.int .i64 q,.string v] 106)).alloc (.cells #[.slice a' p'.length c',.bool fl',.int .i64 r',.int .i64 q',.string v'] 106));have g:Bl w W:=by rw [<- m];exact Qae _ _ _
 have B:W.heap.size=w.heap.size+2:=by rw [<- m];simp
 have k0:W.cell? ⟨w.heap.size,0,none⟩=some (.slice a p.length c):=by rw [<- m];simp
 have Y:W.cell? ⟨w.heap.size,1,none⟩=some (.bool fl):=by rw [<- m];simp
 have Z:W.cell? ⟨w.heap.size,2,none⟩=some (.int .i64 r):=by rw [<- m];simp
 have G:W.cell? ⟨w.heap.size,3,none⟩=some (.int .i64 q):=by rw [<- m];simp
 have H:W.cell? ⟨w.heap.size,4,none⟩=some (.string v):=by rw [<- m];simp
 have I:W.cell? ⟨w.heap.size+1,0,none⟩=some (.slice a' p'.length c'):=by rw [<- m];simp
 have J:W.cell? ⟨w.heap.size+1,1,none⟩=some (.bool fl'):=by rw [<- m];simp
 have L:W.cell? ⟨w.heap.size+1,2,none⟩=some (.int .i64 r'):=by rw [<- m];simp
 have N:W.cell? ⟨w.heap.size+1,3,none⟩=some (.int .i64 q'):=by rw [<- m];simp
 have X:W.cell? ⟨w.heap.size+1,4,none⟩=some (.string v'):=by rw [<- m];simp
 have o:=hid g;have y:w.heap.size<W.heap.size:=by omega
 have z:w.heap.size+1<W.heap.size:=by omega
 have U:=hid (h.bw g);have V:=hid (h'.bw g);clear g B h h';go_enter Tryz.func178,Tryz.ntmps178;go_wp2_with fail;try rw [m]
 clear m;have t:∀w',Bl W w' ->(Bl W w'/\ w'.cell? ⟨w.heap.size,0,none⟩=some (.slice a p.length c)/\ w'.cell? ⟨w.heap.size,1,none⟩=some (.bool fl)/\ w'.cell? ⟨w.heap.size,2,none⟩=some (.int .i64 r)/\ w'.cell? ⟨w.heap.size,3,none⟩=some (.int .i64 q)/\ w'.cell? ⟨w.heap.size,4,none⟩=some (.string v)/\ w'.cell? ⟨w.heap.size+1,0,none⟩=some (.slice a' p'.length c')/\ w'.cell? ⟨w.heap.size+1,1,none⟩=some (.bool fl')/\ w'.cell? ⟨w.heap.size+1,2,none⟩=some (.int .i64 r')/\ w'.cell? ⟨w.heap.size+1,3,none⟩=some (.int .i64 q')/\ w'.cell? ⟨w.heap.size+1,4,none⟩=some (.string v')):=fun w' k=>⟨k,(k.cell (p:=⟨w.heap.size,0,none⟩) y).trans k0,(k.cell (p:=⟨w.heap.size,1,none⟩) y).trans Y,(k.cell (p:=⟨w.heap.size,2,none⟩) y).trans Z,(k.cell (p:=⟨w.heap.size,3,none⟩) y).trans G,(k.cell (p:=⟨w.heap.size,4,none⟩) y).trans H,(k.cell (p:=⟨w.heap.size+1,0,none⟩) z).trans I,(k.cell (p:=⟨w.heap.size+1,1,none⟩) z).trans J,(k.cell (p:=⟨w.heap.size+1,2,none⟩) z).trans L,(k.cell (p:=⟨w.heap.size+1,3,none⟩) z).trans N,(k.cell (p:=⟨w.heap.size+1,4,none⟩) z).trans X⟩;have u:=hid t;clear t;refine zS u (fun qh=> ?_);refine tZ 0 5 ?_;refine tZ 1 6 ?_;refine tZ 2 7 ?_;refine tZ 3 8 ?_;refine tZ 5 10 ?_;refine tZ 7 12 ?_;refine tZ 10 15 ?_;refine tZ 11 16 ?_;refine tZ 12 17 ?_;refine tZ 13 18 ?_;refine cZ 4 ?_;intro K j;go_simp;refine(Qlb p p' a a' c c' _ hn hn' (U.bw qh.1) (V.bw qh.1)).mono ?_;rintro e w1 ⟨rfl,rfl⟩;refine j.out _ _ qh (fun qh=> ?_);clear j K;try simp only [zP]
 refine cZ 6 ?_;intro K j;go_simp;refine(QeB _ fl _ _ _ _).mono ?_;rintro e C ⟨rfl,b⟩;have E:=qh.1.trans (b.mono qh.1.size);refine j.out _ _ (u _ E) (fun qh=> ?_);clear j K;try simp only [zP]
 refine cZ 8 ?_;intro K j;go_simp;refine(QeB _ fl' _ _ _ _).mono ?_;rintro e D ⟨rfl,s⟩;have M:=qh.1.trans (s.mono qh.1.size);refine j.out _ _ (u _ M) (fun qh=> ?_);clear j K;try simp only [zP]
 refine cZ 9 ?_;intro K j;go_simp;refine(Qcn (kd fl) (kd fl') _).mono ?_;rintro e F ⟨rfl,rfl⟩;refine j.out _ _ qh (fun qh=> ?_);clear j K;try simp only [zP]
 refine cZ 14 ?_;intro K j;go_simp;refine(QfO r q r' q' _).mono ?_;rintro e P ⟨rfl,A⟩;have O:=qh.1.trans (A.mono qh.1.size);refine j.out _ _ (u _ O) (fun qh=> ?_);clear j K;try simp only [zP]
 refine cZ 15 ?_;intro K j;go_simp;have k:=qh.1.alloc qh.1.size (.cells #[.int .i64 (QaD p p'),.int .i64 (QaU (kd fl) (kd fl')),.int .i64 (Qla r q r' q')] 3);refine j.out _ _ (u _ k) (fun qh=> ?_);clear j K;try simp only [zP]
 refine cZ 16 ?_;intro K j;go_simp;refine(Qjr _ 3 3 (fun i=>if i=0 then QaD p p' else if i=1 then QaU (kd fl) (kd fl') else Qla r q r' q') _ (by omega) (fun i hi=> ?_)).mono ?_
 ·match i,hi with
  | 0,_=>simp
  | 1,_=>simp
  | 2,_=>simp
 rintro e R ⟨rfl,rfl⟩;refine j.out _ _ qh (fun qh=> ?_);clear j K;try simp only [zP]
 refine tZ 17 4 ?_;refine zD ?_;have Q:=hid (o.trans (qh.1.mono o.size));clear qh k O M E A s b;go_wp2_with fail;go_ret;exact⟨QbA nz3,Q⟩
theorem Qkg {P:Prop} [Decidable P]:yes P=decide P:=by
 by_cases h:P
 ·rw [Qah h,decide_eq_true h]
 ·rw [Qaf h,decide_eq_false h]
theorem Qet:QaU x y<0↔x<y:=by unfold QaU;split<;>(try split)<;>omega
theorem QdV:QaU x y=0↔x=y:=by unfold QaU;split<;>(try split)<;>omega
theorem Qoh {p p':List ByteArray}{fl fl':Bool}{r q r' q':Int}{v v':ByteArray}:
  (QaD p p'≠0 ->yes (QaM ⟨p,fl,r,q,v⟩ ⟨p',fl',r',q',v'⟩<0)=decide (QaD p p'<0))/\
  (QaD p p'=0 ->fl≠fl' ->yes (QaM ⟨p,fl,r,q,v⟩ ⟨p',fl',r',q',v'⟩<0)=fl')/\
  (QaD p p'=0 ->fl=fl' ->r≠r' ->yes (QaM ⟨p,fl,r,q,v⟩ ⟨p',fl',r',q',v'⟩<0)=decide (r<r'))/\
  (QaD p p'=0 ->fl=fl' ->r=r' ->yes (QaM ⟨p,fl,r,q,v⟩ ⟨p',fl',r',q',v'⟩<0)=decide (q<q')):=by
 refine⟨fun h=> ?_,fun h hf=> ?_,fun h hf hr=> ?_,fun h hf hr=> ?_⟩
 ·rw [Qkg];simp only [QaM,orI,if_neg h]
 ·have e:QaM ⟨p,fl,r,q,v⟩ ⟨p',fl',r',q',v'⟩=QaU (kd fl) (kd fl'):=by
   have:QaU (kd fl) (kd fl')≠0:=by rw [Ne,QdV];cases fl<;>cases fl'<;>simp_all [kd]
   simp only [QaM,orI,if_pos h,if_neg this]
  rw [e,Qkg];cases fl<;>cases fl'<;>simp_all [kd,QaU]
 ·have e:QaM ⟨p,fl,r,q,v⟩ ⟨p',fl',r',q',v'⟩=QaU r r':=by
   have j:QaU (kd fl) (kd fl')=0:=by rw [QdV,hf]
   have k:QaU r r'≠0:=by rw [Ne,QdV];exact hr
   simp only [QaM,orI,if_pos h,if_pos j,Qla,if_neg k]
  rw [e,Qkg];exact decide_eq_decide.2 Qet
 ·have e:QaM ⟨p,fl,r,q,v⟩ ⟨p',fl',r',q',v'⟩=QaU q q':=by
   have j:QaU (kd fl) (kd fl')=0:=by rw [QdV,hf]
   have k:QaU r r'=0:=by rw [QdV];exact hr
   simp only [QaM,orI,if_pos h,if_pos j,Qla,if_pos k]
  rw [e,Qkg];exact decide_eq_decide.2 Qet
theorem QgQ (a a':Option Addr)(c c':Nat)(p p':List ByteArray)(fl fl':Bool)(r q r' q':Int)(v v':ByteArray)(w:World)(hn:p.length<=1048576)(hn':p'.length<=1048576)(hc:p.length<=c)(hc':p'.length<=c')(M:c<=9223372036854775807)(hx':c'<=9223372036854775807)(h:Qaw w a p)(h':Qaw w a' p'):
  Cl 67 #[.agg #[.slice a p.length c,.bool fl,.int .i64 r,.int .i64 q,.string v],.agg #[.slice a' p'.length c',.bool fl',.int .i64 r',.int .i64 q',.string v']] w (Rt w (.bool (yes (QaM ⟨p,fl,r,q,v⟩ ⟨p',fl',r',q',v'⟩<0)))):=by
 obtain⟨W,j⟩:=zE ((w.alloc (.cells #[.slice a p.length c,.bool fl,.int .i64 r,.int .i64 q,.string v] 106)).alloc (.cells #[.slice a' p'.length c',.bool fl',.int .i64 r',.int .i64 q',.string v'] 106));have A:Bl w W:=by rw [<- j];exact Qae _ _ _
 have T:W.heap.size=w.heap.size+2:=by rw [<- j];simp
 have k0:W.cell? ⟨w.heap.size,0,none⟩=some (.slice a p.length c):=by rw [<- j];simp
 have H:W.cell? ⟨w.heap.size,1,none⟩=some (.bool fl):=by rw [<- j];simp
 have I:W.cell? ⟨w.heap.size,2,none⟩=some (.int .i64 r):=by rw [<- j];simp
 have J:W.cell? ⟨w.heap.size,3,none⟩=some (.int .i64 q):=by rw [<- j];simp
 have D:W.cell? ⟨w.heap.size,4,none⟩=some (.string v):=by rw [<- j];simp
 have F:W.cell? ⟨w.heap.size+1,0,none⟩=some (.slice a' p'.length c'):=by rw [<- j];simp
 have K:W.cell? ⟨w.heap.size+1,1,none⟩=some (.bool fl'):=by rw [<- j];simp
 have L:W.cell? ⟨w.heap.size+1,2,none⟩=some (.int .i64 r'):=by rw [<- j];simp
 have N:W.cell? ⟨w.heap.size+1,3,none⟩=some (.int .i64 q'):=by rw [<- j];simp
 have P:W.cell? ⟨w.heap.size+1,4,none⟩=some (.string v'):=by rw [<- j];simp
 have i:=hid A;have R:w.heap.size<W.heap.size:=by omega
 have S:w.heap.size+1<W.heap.size:=by omega
 have O:=hid (QcL p p' a a' c c' W hc hc' M hx' (h.bw A) (h'.bw A));obtain⟨U,V,Y,Z⟩:=@Qoh p p' fl fl' r q r' q' v v';have u:=hid U;have y:=hid V;have z:=hid Y;have g:=hid Z;obtain⟨B,Q⟩:=zE (yes (QaM ⟨p,fl,r,q,v⟩ ⟨p',fl',r',q',v'⟩<0));obtain⟨x,M⟩:=zE (QaD p p');rw [Q] at u y z g;rw [M] at u y z g O;rw [Q];clear A T h h' U V Y Z Q M;go_enter Tryz.func67,Tryz.ntmps67;go_wp2_with fail;try rw [j]
 clear j;refine O.mono ?_;rintro e w1 ⟨rfl,k,m⟩;have Ha:w1.cell? ⟨w.heap.size,1,none⟩=some (.bool fl):=by rw [m];exact H
 have Hb:w1.cell? ⟨w.heap.size,2,none⟩=some (.int .i64 r):=by rw [m];exact I
 have Hc:w1.cell? ⟨w.heap.size,3,none⟩=some (.int .i64 q):=by rw [m];exact J
 have Hd:w1.cell? ⟨w.heap.size+1,1,none⟩=some (.bool fl'):=by rw [m];exact K
 have He:w1.cell? ⟨w.heap.size+1,2,none⟩=some (.int .i64 r'):=by rw [m];exact L
 have Hf:w1.cell? ⟨w.heap.size+1,3,none⟩=some (.int .i64 q'):=by rw [m];exact N
 have s:Hid (Bl w w1):=hid (by rw [m];exact⟨i.os,i.tape,i.output,i.size,i.block⟩);clear m k0 H I J D F K L N P O R S i;by_cases b:x=0
 ·have X:(x !=0)=false:=by simp [b]
  by_cases o:fl=fl'
  ·have G:(fl !=fl')=false:=by simp [o]
   by_cases E:r=r'
   ·have C:(r !=r')=false:=by simp [E]
    have t:=hid (g b o E);clear u y z g;go_wp2_with fail;go_ret;exact⟨Qay t.symm,s⟩
   ·have C:(r !=r')=true:=by simpa using E
    have t:=hid (z b o E);clear u y z g;go_wp2_with fail;go_ret;exact⟨Qay t.symm,s⟩
  ·have G:(fl !=fl')=true:=by simpa using o
   have t:=hid (y b o);clear u y z g G;cases fl<;>cases fl'<;>first
    | exact absurd rfl o
    | (clear o;go_wp2_with fail;go_ret;exact⟨Qay t.symm,s⟩)
 ·have X:(x !=0)=true:=by simpa using b
  have t:=hid (u b);clear u y z g;go_wp2_with fail;go_ret;exact⟨Qay t.symm,s⟩
def emB (v:ByteArray):Bool:=v.toList.isEmpty
def Qc1 (x:Lf):Prop:=QaH x.p/\ x.v.size<=200/\ (x.fl=true ->emB x.v=true)
theorem QmM (a:Option Addr)(c:Nat)(p:List ByteArray)(fl:Bool)(r q:Int)(v:ByteArray)(w:World)(hn:p.length<=1048576)(h:Qaw w a p):
  Cl 176 #[.agg #[.slice a p.length c,.bool fl,.int .i64 r,.int .i64 q,.string v]] w (Rt w (.bool (yes (Qc1 ⟨p,fl,r,q,v⟩)))):=by
 obtain⟨W,j⟩:=zE (w.alloc (.cells #[.slice a p.length c,.bool fl,.int .i64 r,.int .i64 q,.string v] 106));have o:Bl w W:=by rw [<- j];exact zO _ _
 have k0:W.cell? ⟨w.heap.size,0,none⟩=some (.slice a p.length c):=by rw [<- j];simp
 have Q:W.cell? ⟨w.heap.size,1,none⟩=some (.bool fl):=by rw [<- j];simp
 have U:W.cell? ⟨w.heap.size,4,none⟩=some (.string v):=by rw [<- j];simp
 have t:=hid (Qhb p a c W hn (h.bw o));have y:=hid o;obtain⟨B,i⟩:=zE (yes (Qc1 ⟨p,fl,r,q,v⟩));have g:=hid i;rw [i];clear o h i;by_cases m:fl=true/\ emB v=false
 ·have M:v.toList.isEmpty=false:=m.2;have k:Hid (B=false):=hid (by rw [<- g.out];exact Qaf (fun h=>by have:=h.2.2 m.1;simp only at this;rw [m.2] at this;cases this));obtain⟨rfl,_⟩:=m;go_enter Tryz.func176,Tryz.ntmps176;go_wp2_with fail;try rw [j]
  clear j;go_wp2_with fail;go_ret;exact⟨Qay k.symm,y⟩
 ·have k:Hid (B=(yes (QaH p) && decide (v.size<=200))):=hid (by
   rw [<- g.out];have hi:fl=true ->emB v=true:=fun e=>by
    by_cases h:emB v=true
    ·exact h
    ·exact absurd ⟨e,by simpa using h⟩ m
   by_cases u:QaH p
   ·by_cases z:v.size<=200
    ·rw [Qah ⟨u,z,hi⟩,Qah u,decide_eq_true z];rfl
    ·rw [Qaf (fun h=>z h.2.1),Qah u,decide_eq_false z];rfl
   ·rw [Qaf (fun h=>u h.1),Qaf u];rfl)
  obtain⟨Y,A⟩:=zE (yes (QaH p));rw [A] at k t;clear A g;have b:decide ((v.size:Int)<=200)=decide (v.size<=200):=decide_eq_decide.2 (by omega);obtain⟨Z,E⟩:=zE (decide (v.size<=200));rw [E] at k b;clear E;have s:∀(Y Z:Bool),B=(Y && Z) ->Y=false ->B=false:=fun Y Z h u=>by rw [h,u];rfl
  have O:=hid s;clear s;cases fl with
  | false=>
   clear m;go_enter Tryz.func176,Tryz.ntmps176;go_wp2_with fail;try rw [j]
   clear j;go_wp2_with fail;refine t.mono ?_;rintro e w1 ⟨rfl,rfl⟩;cases Y with
   | true=>
    go_wp2_with fail;go_ret;exact⟨Qay (by rw [k.out];simp [b]),y⟩
   | false=>
    go_wp2_with fail;go_ret;exact⟨Qay (by rw [k.out];rfl),y⟩
  | true=>
   have M:v.toList.isEmpty=true:=by
    by_cases h:emB v=true
    ·exact h
    ·exact absurd ⟨rfl,by simpa using h⟩ m
   clear m;go_enter Tryz.func176,Tryz.ntmps176;go_wp2_with fail;try rw [j]
   clear j;go_wp2_with fail;refine t.mono ?_;rintro e w1 ⟨rfl,rfl⟩;cases Y with
   | true=>
    go_wp2_with fail;go_ret;exact⟨Qay (by rw [k.out];simp [b]),y⟩
   | false=>
    go_wp2_with fail;go_ret;exact⟨Qay (by rw [k.out];rfl),y⟩
theorem Qok:Tryz.prog.fieldsOf 104=match Tryz.prog.underlying 104 with|some (.struct fs)=>fs|_=>#[]:=rfl
theorem Qjz:Tryz.prog.stoodInHeld 104=false:=by kernel_rfl
theorem Qjy:Tryz.prog.eqGuardType Tryz.prog.depth 104=false:=by kernel_rfl
theorem Qks (r q r' q':Int)(w:World):(binOp .eql 104 (.agg #[.int .i64 r,.int .i64 q]) (.agg #[.int .i64 r',.int .i64 q'])).run Tryz.prog w=.ok (.bool (r==r' && q==q')) w:=by
 rw [run_eql_struct,show (10000:Nat)=9999+1 from rfl,run_equalIn_agg _ _ _ _ _ (by kernel_rfl) Qjz,Qok,Tryz.underlying104];cases h1:(r==r')<;>simp [Op.eqFields,go_sem,Tryz.underlying3,h1];by_cases j:q=q'<;>simp [j]
end Go.Proofs.YtgmjgboibfdaeaaGreatDoor
