import Derived.Test.YtjdcfkmhmnblbaaGreatDoorFqg02
import Derived.Test.YtjdcfkmhmnblbaaGreatDoorFqg01
import Derived.Laws.StructEq
import Derived.Deep.CutRange
set_option linter.unusedVariables false
set_option linter.unusedSimpArgs false
set_option maxRecDepth 100000
set_option maxHeartbeats 40000000
namespace Go.Proofs.YtjdcfkmhmnblbaaGreatDoor
open Go.ChangeShapes Go.WideShapes Go.ChangeAt Go.RowKit
def QaS (p:List ByteArray):Prop:=1<=p.length/\ p.length<=8/\∀i,i<p.length ->1<=(gS p i).size/\ (gS p i).size<=40
noncomputable def yes (P:Prop):Bool:=@decide P (Classical.propDecidable P)
theorem Qal {P:Prop}(h:P):yes P=true:=by unfold yes;exact @decide_eq_true _ (Classical.propDecidable P) h
theorem Qaj {P:Prop}(h:¬P):yes P=false:=by unfold yes;exact @decide_eq_false _ (Classical.propDecidable P) h
theorem Qb9 {P:Prop}:yes P=true↔P:=⟨fun h=>by unfold yes at h;exact @of_decide_eq_true _ (Classical.propDecidable P) h,Qal⟩
theorem Qa8 {x y:Bool}(h:x=y):Ending.returned (.bool x)=.returned (.bool y):=by rw [h]
theorem Qfp (p:List ByteArray)(a:Option Addr)(c:Nat)(w:World)(hp:p.length<=1048576)(h:QaT w a p):
  Calls Tryz.prog 65 #[.slice a p.length c] w fun e w'=>e=.returned (.bool (yes (QaS p)))/\ w'=w:=by
 go_enter Tryz.func65,Tryz.ntmps65;go_wp2_with fail;go_loop [3] (fun i=>∃k:Nat,k<=p.length/\ i=.int .i64 (k:Int)/\ Hid (∀j,j<k ->1<=(gS p j).size/\ (gS p j).size<=40)) (fun i=>p.length - (intOf i).toNat);case atStart=>exact⟨0,Nat.zero_le _,rfl,hid (fun j hj=>by omega)⟩
 case round=>
  obtain⟨k,M,rfl,y⟩:=hrel;by_cases v:k<p.length
  ·rcases h with h|⟨A,U,rfl,E,b⟩
   ·omega
   have x0:=b k v;have O:(0:Int)<=(k:Int):=Int.natCast_nonneg _;have Q:(k:Int)<(p.length:Int):=by omega
   obtain⟨s,o⟩:∃s,gS p k=s:=⟨_,rfl⟩;rw [o] at x0;have z:=hid o;clear b o;by_cases r:(s.size:Int)<1
   ·have g:decide ((s.size:Int)<1)=true:=by simpa using r
    have m:Hid (yes (QaS p)=false):=hid (Qaj (fun h=>by have:=(h.2.2 k v).1;rw [z.out] at this;omega));go_wp2_with fail;go_ret;exact⟨Qa8 m.symm,rfl⟩
   ·have g:decide ((s.size:Int)<1)=false:=by simpa using r
    by_cases u:(40:Int)<(s.size:Int)
    ·have t:decide ((40:Int)<(s.size:Int))=true:=by simpa using u
     have m:Hid (yes (QaS p)=false):=hid (Qaj (fun h=>by have:=(h.2.2 k v).2;rw [z.out] at this;omega));go_wp2_with fail;go_ret;exact⟨Qa8 m.symm,rfl⟩
    ·have t:decide ((40:Int)<(s.size:Int))=false:=by simpa using u
     have m:Hid (∀j,j<k+1 ->1<=(gS p j).size/\ (gS p j).size<=40):=hid (fun j hj=>by
      by_cases e:j=k
      ·rw [e,z.out];omega
      ·exact y j (by omega))
     go_wp2_with fail;go_round;case rel=>exact⟨k+1,v,by go_num,m⟩
     case measure=>simp [intOf];omega
  ·obtain rfl:k=p.length:=by omega
   have m:Hid (yes (QaS p)=decide (1<=p.length/\ p.length<=8)):=hid (by
    by_cases q:1<=p.length/\ p.length<=8
    ·rw [Qal ⟨q.1,q.2,y.out⟩,decide_eq_true q]
    ·rw [Qaj (fun h=>q ⟨h.1,h.2.1⟩),decide_eq_false q])
   clear h y;by_cases r:(1:Int)<=(p.length:Int)
   ·have g:decide ((1:Int)<=(p.length:Int))=true:=by simpa using r
    by_cases u:(p.length:Int)<=8
    ·have t:decide ((p.length:Int)<=8)=true:=by simpa using u
     have m:Hid (yes (QaS p)=true):=hid (by rw [m.out];exact decide_eq_true (by omega));go_wp2_with fail;go_ret;exact⟨Qa8 m.symm,rfl⟩
    ·have t:decide ((p.length:Int)<=8)=false:=by simpa using u
     have m:Hid (yes (QaS p)=false):=hid (by rw [m.out];exact decide_eq_false (by omega));go_wp2_with fail;go_ret;exact⟨Qa8 m.symm,rfl⟩
   ·have g:decide ((1:Int)<=(p.length:Int))=false:=by simpa using r
    have m:Hid (yes (QaS p)=false):=hid (by rw [m.out];exact decide_eq_false (by omega));go_wp2_with fail;go_ret;exact⟨Qa8 m.symm,rfl⟩
theorem QkB (p:List ByteArray)(a:Option Addr)(c:Nat)(w:World)(hp:p.length<=1048576)(h:QaT w a p):
  Calls Tryz.prog 115 #[.slice a p.length c] w fun e w'=>e=.returned (.bool (yes (QaS p)))/\ w'=w:=by
 by_cases q:(p.length:Int)<1
 ·have u:decide ((p.length:Int)<1)=true:=by simpa using q
  have m:Hid (yes (QaS p)=false):=hid (Qaj (fun h=>by have:=h.1;omega));clear h;go_enter Tryz.func115,Tryz.ntmps115;go_wp2_with fail;go_ret;exact⟨Qa8 m.symm,rfl⟩
 ·have u:decide ((p.length:Int)<1)=false:=by simpa using q
  by_cases r:(8:Int)<(p.length:Int)
  ·have v:decide ((8:Int)<(p.length:Int))=true:=by simpa using r
   have m:Hid (yes (QaS p)=false):=hid (Qaj (fun h=>by have:=h.2.1;omega));clear h;go_enter Tryz.func115,Tryz.ntmps115;go_wp2_with fail;go_ret;exact⟨Qa8 m.symm,rfl⟩
  ·have v:decide ((8:Int)<(p.length:Int))=false:=by simpa using r
   go_enter Tryz.func115,Tryz.ntmps115;go_wp2_with fail;clear u v;go_loop [15] (fun i=>∃k:Nat,k<=p.length/\ i=.int .i64 (k:Int)/\ Hid (∀j,j<k ->1<=(gS p j).size/\ (gS p j).size<=40)) (fun i=>p.length - (intOf i).toNat);case atStart=>exact⟨0,Nat.zero_le _,rfl,hid (fun j hj=>by omega)⟩
   case round=>
    obtain⟨k,E,rfl,z⟩:=hrel;by_cases y:k<p.length
    ·rcases h with h|⟨b,Q,rfl,A,o⟩
     ·omega
     have x0:=o k y;have M:(0:Int)<=(k:Int):=Int.natCast_nonneg _;have O:(k:Int)<(p.length:Int):=by omega
     obtain⟨s,t⟩:∃s,gS p k=s:=⟨_,rfl⟩;rw [t] at x0;have g:=hid t;clear o t;by_cases q:(s.size:Int)<1
     ·have u:decide ((s.size:Int)<1)=true:=by simpa using q
      have m:Hid (yes (QaS p)=false):=hid (Qaj (fun h=>by have:=(h.2.2 k y).1;rw [g.out] at this;omega));go_wp2_with fail;go_ret;exact⟨Qa8 m.symm,rfl⟩
     ·have u:decide ((s.size:Int)<1)=false:=by simpa using q
      by_cases r:(40:Int)<(s.size:Int)
      ·have v:decide ((40:Int)<(s.size:Int))=true:=by simpa using r
       have m:Hid (yes (QaS p)=false):=hid (Qaj (fun h=>by have:=(h.2.2 k y).2;rw [g.out] at this;omega));go_wp2_with fail;go_ret;exact⟨Qa8 m.symm,rfl⟩
      ·have v:decide ((40:Int)<(s.size:Int))=false:=by simpa using r
       have m:Hid (∀j,j<k+1 ->1<=(gS p j).size/\ (gS p j).size<=40):=hid (fun j hj=>by
        by_cases e:j=k
        ·rw [e,g.out];omega
        ·exact z j (by omega))
       go_wp2_with fail;go_round;case rel=>exact⟨k+1,y,by go_num,m⟩
       case measure=>simp [intOf];omega
    ·obtain rfl:k=p.length:=by omega
     have m:Hid (yes (QaS p)=true):=hid (Qal ⟨by omega,by omega,z.out⟩);clear h z;go_wp2_with fail;go_ret;exact⟨Qa8 m.symm,rfl⟩
open Go.Maps
def Qbj (R T:Nat ->Int)(rep:Int):Nat ->Int
 | 0=>0
 | k+1=>if R k=rep/\ Qbj R T rep k<T k then T k else Qbj R T rep k
def Qcc (l:List (Int×Int)):Int:=match l.getLast? with|none=>0|some p=>p.2
theorem QbJ (l:List (Int×Int))(p:Int×Int):Qcc (l++[p])=p.2:=by simp [Qcc]
theorem Qie:Qcc []=0:=rfl
theorem Qiy {R F T:Nat ->Int}:∀k:Nat,Qeu R F T k ->(∀r,Lk R F T k r≠[] ->0<k/\ r<=R (k - 1))/\ (0<k ->Qcc (Lk R F T k (R (k - 1)))=T (k - 1))/\ (∀r,Qbj R T r k=Qcc (Lk R F T k r))/\ (∀r,0<=Qcc (Lk R F T k r)/\ Qcc (Lk R F T k r)<=1000000000)
 | 0,_=>⟨fun r h=>absurd rfl h,fun h=>absurd h (by omega),fun r=>rfl,fun r=>by simp [Lk,Qcc]⟩
 | k+1,h=>by
  have g:Qeu R F T k:=fun i hi=>h i (by omega);obtain⟨y,b,z,p⟩:=Qiy k g;have A:=Qbg.1 (h k (by omega)).1;have u:0<k ->(R (k - 1)<R k \/(R (k - 1)=R k/\ T (k - 1)+1<F k)):=fun j=>by
   have:=(h k (by omega)).2 j;unfold QaE at this;exact of_decide_eq_true this
  have q:∀r,Lk R F T (k+1) r=upd (Lk R F T k) (R k) (Lk R F T k (R k)++[(F k,T k)]) r:=fun r=>rfl;have o:Qcc (Lk R F T k (R k))<T k:=by
   by_cases v:Lk R F T k (R k)=[]
   ·rw [v,Qie];omega
   ·obtain⟨j,t⟩:=y (R k) v;rcases u j with m|⟨m,s⟩
    ·omega
    ·rw [<- m,b j];omega
  refine⟨fun r hr=> ?_,fun _=> ?_,fun r=> ?_,fun r=> ?_⟩
  ·refine⟨by omega,?_⟩;rw [Nat.add_sub_cancel];rw [q] at hr;by_cases e:r=R k
   ·omega
   ·rw [Qap _ _ e] at hr;obtain⟨j,t⟩:=y r hr;rcases u j with m|⟨m,_⟩<;>omega
  ·rw [Nat.add_sub_cancel,q,Qay,QbJ]
  ·rw [q];by_cases e:r=R k
   ·subst e;rw [Qay,QbJ];show (if R k=R k/\ Qbj R T (R k) k<T k then T k else Qbj R T (R k) k)=T k;rw [if_pos ⟨rfl,by rw [z];exact o⟩]
   ·rw [Qap _ _ e,<- z r];show (if R k=r/\ Qbj R T r k<T k then T k else Qbj R T r k)=Qbj R T r k;rw [if_neg (fun m=>e m.1.symm)]
  ·rw [q];by_cases e:r=R k
   ·subst e;rw [Qay,QbJ];show 0<=T k/\ T k<=1000000000;omega
   ·rw [Qap _ _ e];exact p r
def Srt (l:List (Int×Int)):Prop:=l.Pairwise (fun p q=>p.2+1<q.1)/\∀p∈l,1<=p.1/\ p.1<=p.2/\ p.2<=1000000000
theorem Qdm {R F T:Nat ->Int}:∀k:Nat,Qeu R F T k ->∀r,Srt (Lk R F T k r)/\∀p∈Lk R F T k r,p.2<=Qcc (Lk R F T k r)
 | 0,_=>fun r=>⟨⟨List.Pairwise.nil,fun p j=>by cases j⟩,fun p j=>by cases j⟩
 | k+1,h=>by
  have v:Qeu R F T k:=fun i hi=>h i (by omega);have z:=Qdm k v;obtain⟨t,o,Q,U⟩:=Qiy k v;have O:=Qbg.1 (h k (by omega)).1;have g:0<k ->(R (k - 1)<R k \/(R (k - 1)=R k/\ T (k - 1)+1<F k)):=fun m=>by
   have:=(h k (by omega)).2 m;unfold QaE at this;exact of_decide_eq_true this
  intro r;show Srt (upd (Lk R F T k) (R k) (Lk R F T k (R k)++[(F k,T k)]) r)/\∀p∈upd (Lk R F T k) (R k) (Lk R F T k (R k)++[(F k,T k)]) r,p.2<=Qcc (upd (Lk R F T k) (R k) (Lk R F T k (R k)++[(F k,T k)]) r);by_cases e:r=R k
  ·subst e;rw [Qay];obtain⟨⟨b,s⟩,A⟩:=z (R k);have y:∀p∈Lk R F T k (R k),p.2+1<F k:=by
    intro p j;obtain⟨m,M⟩:=t (R k) (List.ne_nil_of_mem j);have:=A p j;rcases g m with u|⟨u,E⟩
    ·omega
    ·rw [<- u,o m] at this;omega
   refine⟨⟨List.pairwise_append.2 ⟨b,List.pairwise_singleton _ _,fun p j q hq=> ?_⟩,fun p j=> ?_⟩,fun p j=> ?_⟩
   ·rw [List.mem_singleton] at hq;subst hq;exact y p j
   ·rcases List.mem_append.1 j with j|j
    ·exact s p j
    ·rw [List.mem_singleton] at j;subst j;exact⟨by omega,by omega,by omega⟩
   ·rw [QbJ];rcases List.mem_append.1 j with j|j
    ·have:=y p j;show p.2<=T k;omega
    ·rw [List.mem_singleton] at j;subst j;exact Int.le_refl _
  ·rw [Qap _ _ e];exact z r
def SS (w:World)(a:Option Addr)(n:Nat)(f t:Nat ->Int):Prop:=
 n=0 \/∃b off,a=some ⟨b,off,none⟩/\ b<w.heap.size/\∀i,i<n ->w.cell? ⟨b,off+i*2,none⟩=some (.int .i64 (f i))/\ w.cell? ⟨b,off+i*2+1,none⟩=some (.int .i64 (t i))
theorem QhQ {w:World}{B n cap g:Nat}{l:List (Int×Int)}(h:w.ownsRow B 157 2 (.slice (some ⟨g,0,none⟩) n cap) n (Qaw l))(hl:l.length=n):
  SS w (some ⟨g,0,none⟩) n (fun i=>(l.getD i (0,0)).1) (fun i=>(l.getD i (0,0)).2):=by
 refine .inr ⟨g,0,rfl,(h.lt g rfl).2,fun i j=> ?_⟩;have k:∀(l:List (Int×Int)) (i:Nat),i<l.length ->(Qaw l)[i*2]? =some (.int .i64 (l.getD i (0,0)).1)/\ (Qaw l)[i*2+1]? =some (.int .i64 (l.getD i (0,0)).2):=by
  intro l;induction l with
  | nil=>intro i j;simp at j
  | cons a l ih=>
   intro i j;cases i with
   | zero=>simp [Qaw]
   | succ i=>
    have:=ih i (by simpa using j);have e:Qaw (a::l)=.int .i64 a.1::.int .i64 a.2::Qaw l:=by simp [Qaw]
    rw [e,show (i+1)*2=i*2+1+1 from by omega];simpa using this
 rw [Nat.zero_add,h.cellAt _ (by omega),h.cellAt _ (by omega)];exact k l i (by omega)
theorem Qfw {l:List (Int×Int)}(h:Srt l){i j:Nat}(hij:i<j)(hj:j<l.length):(l.getD i (0,0)).2+1<(l.getD j (0,0)).1/\ (l.getD i (0,0)).1<=(l.getD i (0,0)).2/\ (l.getD j (0,0)).1<=(l.getD j (0,0)).2:=by
 have k:l.getD i (0,0)=l[i]:=by simp [List.getD,show i<l.length by omega]
 have m:l.getD j (0,0)=l[j]:=by simp [List.getD,hj]
 rw [k,m];exact⟨List.pairwise_iff_getElem.1 h.1 i j (by omega) hj hij,(h.2 _ (List.getElem_mem _)).2.1,(h.2 _ (List.getElem_mem _)).2.1⟩
theorem Qk9 (a:Option Addr)(n c:Nat)(R F T:Nat ->Int)(w:World)(hn:n<=1048576)(h:Qb5 w a n R F T)(hok:QcR R F T n=false):
  Calls Tryz.prog 49 #[.agg #[.slice a n c]] w fun e w'=>e=.returned (.tuple #[.map none,.bool false])/\ Below w.heap.size w w':=by
 have j:Below w.heap.size w (w.alloc (.cells #[.slice a n c] 27)):=zO _ _;go_enter Tryz.func49,Tryz.ntmps49;go_wp2_with fail;refine(Qlu a n c R F T _ hn (h.below j)).mono ?_;rintro e w1 ⟨rfl,k⟩;rw [hok];have m:=hid (Qac j k);clear k j hok h;go_wp2_with fail;go_ret2;exact⟨rfl,m.out⟩
def QaV (x y:Int):Int:=if x<y then -1 else if y<x then 1 else 0
theorem QbZ (x y:Int)(w:World):Calls Tryz.prog 109 #[.int .i64 x,.int .i64 y] w fun e w'=>e=.returned (.int .i64 (QaV x y))/\ w'=w:=by
 by_cases k:x<y
 ·have j:Hid (QaV x y= -1):=if_pos k;go_enter Tryz.func109,Tryz.ntmps109;go_wp2;go_ret;exact⟨Qft j.symm,rfl⟩
 ·by_cases m:y<x
  ·have j:Hid (QaV x y=1):=by unfold Hid QaV;rw [if_neg k,if_pos m]
   go_enter Tryz.func109,Tryz.ntmps109;go_wp2;go_ret;exact⟨Qft j.symm,rfl⟩
  ·have j:Hid (QaV x y=0):=by unfold Hid QaV;rw [if_neg k,if_neg m]
   go_enter Tryz.func109,Tryz.ntmps109;go_wp2;go_ret;exact⟨Qft j.symm,rfl⟩
theorem Qlt (f t q:Int)(w:World):Calls Tryz.prog 146 #[.agg #[.int .i64 f,.int .i64 t],.int .i64 q] w fun e w'=>e=.returned (.int .i64 (QaV t q))/\ Below w.heap.size w w':=by
 go_enter Tryz.func146,Tryz.ntmps146;go_wp2_with fail;refine(QbZ t q _).mono ?_;rintro e w1 ⟨rfl,rfl⟩;go_wp2_with fail;go_ret;exact⟨rfl,zO _ _⟩
theorem Qi6 (a:Option Addr)(n c:Nat)(f t:Nat ->Int)(q:Int)(w:World)(hn:n<=1000000)(h:SS w a n f t)(hm:∀i j,i<j ->j<n ->t i<t j):
  Calls Tryz.prog 145 #[.slice a n c,.int .i64 q,.func (.func 146) #[] #[]] w fun e w'=>∃(i:Nat) (b:Bool),e=.returned (.tuple #[.int .i64 i,.bool b])/\ i<=n/\ (∀j,j<i ->t j<q)/\ (∀j,i<=j ->j<n ->q<=t j)/\ Below w.heap.size w w':=by
 go_enter Tryz.func145,Tryz.ntmps145;go_wp2_with fail;go_loopw [9,10] (fun vi vj wr=>∃i j:Nat,i<=j/\ j<=n/\ vi=.int .i64 i/\ vj=.int .i64 j/\ (∀k,k<i ->t k<q)/\ (∀k,j<=k ->k<n ->q<=t k)/\ Below w.heap.size w wr) (fun vi vj _=>(intOf vj).toNat - (intOf vi).toNat);case atStart=>exact⟨0,n,Nat.zero_le _,Nat.le_refl _,rfl,rfl,fun k hk=>by omega,fun k h1 h2=>by omega,zI⟩
 case round=>
  obtain⟨i,j,L,I,rfl,rfl,M,E,r⟩:=hrel;have Q:=hid M;have O:=hid E;have V:=hid hm;have z:=hid r;rcases h with h|⟨b,off,rfl,A,u⟩
  ·have G:i=0:=by omega
   have H:j=0:=by omega
   subst h G H;clear M E r hm;go_wp2_with fail;go_ret2;exact⟨0,false,rfl,by omega,fun k hk=>by omega,fun k _ hk=>by omega,z.out⟩
  by_cases X:i<j
  ·obtain⟨m,J⟩:∃m:Nat,m=(i+j)/2:=⟨_,rfl⟩;have Y:((i:Int)+(j:Int))/2=(m:Int):=by omega
   have o:=(r.cell (p:=⟨b,off+m*2,none⟩) A).trans (u m (by omega)).1;have s:=(r.cell (p:=⟨b,off+m*2+1,none⟩) A).trans (u m (by omega)).2;have B:i<=m:=by omega
   have C:m<j:=by omega
   clear M E r hm u J;go_wp2_with fail;refine(Qlt (f m) (t m) q _).mono ?_;rintro e K ⟨rfl,v⟩;have g:=hid (Qac z.out v);clear v;by_cases y:t m<q
   ·rw [show QaV (t m) q= -1 from if_pos y];have U:Hid (∀k,k<m+1 ->t k<q):=fun k hk=>by
     by_cases e:k=m
     ·subst e;exact y
     ·have:=V k m (by omega) (by omega);omega
    clear o s y Y;go_wp2_with fail;go_roundw;case rel=>exact⟨m+1,j,by omega,I,by go_num,rfl,U.out,O.out,g.out⟩
    case measure=>simp [intOf];omega
   ·have Z:0<=QaV (t m) q:=by unfold QaV;rw [if_neg y];split<;>omega
    generalize QaV (t m) q=cv at Z;have U:Hid (∀k,m<=k ->k<n ->q<=t k):=fun k h1 h2=>by
     by_cases e:k=m
     ·subst e;omega
     ·have:=V m k (by omega) (by omega);omega
    clear o s y Y;go_wp2_with fail;go_roundw;case rel=>exact⟨i,m,by omega,by omega,rfl,rfl,Q.out,U.out,g.out⟩
    case measure=>simp [intOf];omega
  ·obtain rfl:i=j:=by omega
   clear M E hm;by_cases N:i<n
   ·have o:=(r.cell (p:=⟨b,off+i*2,none⟩) A).trans (u i (by omega)).1;have s:=(r.cell (p:=⟨b,off+i*2+1,none⟩) A).trans (u i (by omega)).2;clear u r;go_wp2_with fail;refine(Qlt (f i) (t i) q _).mono ?_;rintro e K ⟨rfl,v⟩;have g:=hid (Qac z.out v);clear v o s;generalize QaV (t i) q=cv;go_wp2_with fail;go_ret2;exact⟨i,cv==0,rfl,by omega,Q.out,O.out,g.out⟩
   ·clear u r;go_wp2_with fail;go_ret2;exact⟨i,false,rfl,by omega,Q.out,O.out,z.out⟩
def inB (l:List (Int×Int))(f t:Int):Bool:=l.any fun p=>decide (p.1<=f/\ t<=p.2)
theorem Qlv {l:List (Int×Int)}(h:Srt l)(f t:Int)(i:Nat)(hi:i<=l.length)(hlo:∀j,j<i ->(l.getD j (0,0)).2<t)(hhi:∀j,i<=j ->j<l.length ->t<=(l.getD j (0,0)).2):
  inB l f t=(decide (i<l.length) && decide ((l.getD i (0,0)).1<=f)):=by
 rw [Bool.eq_iff_iff];simp only [inB,List.any_eq_true,decide_eq_true_iff,Bool.and_eq_true];constructor
 ·rintro⟨p,y,k,r⟩;obtain⟨j,u,rfl⟩:=List.getElem_of_mem y;have m:l.getD j (0,0)=l[j]:=by simp [List.getD,u]
  have z:i<=j:=by
   by_cases v:j<i
   ·have:=hlo j v;rw [m] at this;omega
   ·omega
  refine⟨by omega,?_⟩;by_cases e:i=j
  ·subst e;rw [m];exact k
  ·have:=Qfw h (show i<j by omega) u;rw [m] at this;omega
 ·rintro⟨k,r⟩;have q:l.getD i (0,0)=l[i]:=by simp [List.getD,k]
  refine⟨l[i],List.getElem_mem _,?_,?_⟩
  ·rw [<- q];exact r
  ·rw [<- q];exact hhi i zL k
theorem Qn6 {w:World}{bm n:Nat}{D:DataW Value}{G:Int ->Value}{L:Int ->List (Int×Int)}(h:QaY w bm n D G L)(r f t:Int)(hr:(Lit.int .i64 r).wf=true)(hs:Srt (L r))(hl:(L r).length<=1000000):
  Calls Tryz.prog 116 #[.map (some bm),.int .i64 r,.agg #[.int .i64 f,.int .i64 t]] w fun e w'=>e=.returned (.bool (inB (L r) f t))/\ Below w.heap.size w w':=by
 obtain⟨k,u⟩:∃k,w.alloc (.cells #[.int .i64 f,.int .i64 t] 157)=k:=⟨_,rfl⟩;have z:Below w.heap.size w k:=by rw [<- u];exact zO _ _
 have z0:k.heap.size=w.heap.size+1:=by rw [<- u];simp
 have x0:k.cell? ⟨w.heap.size,0,none⟩=some (.int .i64 f):=by rw [<- u];simp
 have N:k.cell? ⟨w.heap.size,1,none⟩=some (.int .i64 t):=by rw [<- u];simp
 have O:=h.below z;have Y:=O.look r hr;have o:=O.rows r;obtain⟨a,c,e,J,Ha⟩:∃a c,G r=.slice a (L r).length c/\ SS k a (L r).length (fun i=>((L r).getD i (0,0)).1) (fun i=>((L r).getD i (0,0)).2)/\ ((L r).length≠0 ->∃g,a=some ⟨g,0,none⟩):=by
  rcases o.2 with ⟨e,M⟩|⟨g,cap,F,e,_⟩
  ·exact⟨none,0,by rw [e,M],.inl M,fun h=>absurd M h⟩
  ·exact⟨_,cap,e,by rw [e] at o;exact QhQ o rfl,fun _=>⟨g,rfl⟩⟩
 rw [e] at Y;have y:=hid J;have A:=hid (Qlv hs f t);have E:Hid (∀i j,i<j ->j<(L r).length ->(fun i=>((L r).getD i (0,0)).2) i<(fun i=>((L r).getD i (0,0)).2) j):=fun i j hij hj=>by
  have:=Qfw hs hij hj;show ((L r).getD i (0,0)).2<((L r).getD j (0,0)).2;omega
 clear e o O h hs J;generalize Hb:(L r).length=m at*;go_enter Tryz.func116,Tryz.ntmps116;go_wp2_with fail;try rw [u]
 refine(Qi6 a m c _ _ t _ (by omega) y.out E.out).mono ?_;rintro e K ⟨i,P,rfl,C,Z,U,q⟩;clear u;have s:=hid (A i C Z U);have H:=(q.cell (p:=⟨w.heap.size,0,none⟩) (show w.heap.size<k.heap.size by omega)).trans x0;have b:=hid (Qac z q);by_cases V:i<m
 ·have B:∃g off,a=some ⟨g,off,none⟩/\ g<K.heap.size/\ K.cell? ⟨g,off+i*2,none⟩=some (.int .i64 ((L r).getD i (0,0)).1):=by
   rcases y.out with h|⟨g,off,rfl,Q,X⟩
   ·omega
   ·exact⟨g,off,rfl,Nat.lt_of_lt_of_le Q q.size,(q.cell (p:=⟨g,off+i*2,none⟩) Q).trans (X i V).1⟩
  obtain⟨g,off,rfl,Q,I⟩:=B;have T:(0:Int)<=(i:Int):=Int.natCast_nonneg _;have W:(i:Int)<(m:Int):=by omega
  generalize R:((L r).getD i (0,0)).1=fi at*;clear Z U q x0 N Y y E A z;cases hle:decide (fi<=f) with
  | false=>
   have v:Hid (inB (L r) f t=false):=by unfold Hid;rw [s.out,hle];simp
   go_wp2_with fail;refine zR (S:=fun w'=>w'.cell? ⟨w.heap.size,0,none⟩=some (.int .i64 f)/\ w'.cell? ⟨g,off+i*2,none⟩=some (.int .i64 fi)) ⟨H,I⟩ (fun qh=> ?_);refine tZ 0 20 ?_;refine tZ 1 21 ?_;refine tZ 2 22 ?_;refine tZ 3 23 ?_;refine tZ 4 24 ?_;refine tZ 5 25 ?_;refine tZ 6 26 ?_;refine tZ 7 27 ?_;refine tZ 8 28 ?_;refine tZ 9 29 ?_;refine tZ 10 30 ?_;refine tZ 11 31 ?_;refine tZ 12 32 ?_;refine tZ 13 33 ?_;refine tZ 14 6 ?_;refine zD ?_;go_wp2_with fail;go_ret;exact⟨QbD v.symm,b.drew⟩
  | true=>
   have v:Hid (inB (L r) f t=true):=by unfold Hid;rw [s.out,hle];simp [V]
   go_wp2_with fail;refine zR (S:=fun w'=>w'.cell? ⟨w.heap.size,0,none⟩=some (.int .i64 f)/\ w'.cell? ⟨g,off+i*2,none⟩=some (.int .i64 fi)) ⟨H,I⟩ (fun qh=> ?_);refine tZ 0 20 ?_;refine tZ 1 21 ?_;refine tZ 2 22 ?_;refine tZ 3 23 ?_;refine tZ 4 24 ?_;refine tZ 5 25 ?_;refine tZ 6 26 ?_;refine tZ 7 27 ?_;refine tZ 8 28 ?_;refine tZ 9 29 ?_;refine tZ 10 30 ?_;refine tZ 11 31 ?_;refine tZ 12 32 ?_;refine tZ 13 33 ?_;refine tZ 14 6 ?_;refine zD ?_;go_wp2_with fail;go_ret;exact⟨QbD v.symm,b.drew⟩
 ·have v:Hid (inB (L r) f t=false):=by unfold Hid;rw [s.out];simp [V]
  have Hc:decide ((i:Int)<(m:Int))=false:=by simp;omega
  have Hd:decide (i<m)=false:=by simp;omega
  clear Z U q x0 N Y y E A z;go_wp2_with fail;refine zR (S:=fun w'=>w'.cell? ⟨w.heap.size,0,none⟩=some (.int .i64 f)) H (fun qh=> ?_);refine tZ 0 20 ?_;refine tZ 1 21 ?_;refine tZ 2 22 ?_;refine tZ 3 23 ?_;refine tZ 4 24 ?_;refine uZ 5 25 ?_;refine uZ 6 26 ?_;refine uZ 7 27 ?_;refine uZ 8 28 ?_;refine uZ 9 29 ?_;refine uZ 10 30 ?_;refine uZ 11 31 ?_;refine uZ 12 32 ?_;refine tZ 13 33 ?_;refine tZ 14 6 ?_;refine zD ?_;go_wp2_with fail;go_ret;exact⟨QbD v.symm,b.drew⟩
theorem Qpt {w:World}{bm n:Nat}{D:DataW Value}{G:Int ->Value}{L:Int ->List (Int×Int)}(h:QaY w bm n D G L)(r q:Int)(hr:(Lit.int .i64 r).wf=true)(hs:Srt (L r))(hl:(L r).length<=1000000):
  Calls Tryz.prog 83 #[.map (some bm),.agg #[.int .i64 r,.int .i64 q]] w fun e w'=>e=.returned (.bool (inB (L r) q q))/\ Below w.heap.size w w':=by
 have j:Below w.heap.size w (w.alloc (.cells #[.int .i64 r,.int .i64 q] 75)):=zO _ _;have k:=hid (Qn6 (h.below j) r q q hr hs hl);have u:=hid j;clear j h hs;go_enter Tryz.func83,Tryz.ntmps83;go_wp2_with fail;refine k.mono ?_;rintro e w1 ⟨rfl,m⟩;have v:=hid (Qac u.out m);clear m k;go_wp2_with fail;go_ret;exact⟨rfl,v.out⟩
def Qct (R F T:Nat ->Int)(r f t:Int):Nat ->Bool
 | 0=>false
 | k+1=>Qct R F T r f t k||decide (R k=r/\ F k<=f/\ t<=T k)
theorem Qg4 (R F T:Nat ->Int)(r f t:Int)(k:Nat):inB (Lk R F T k r) f t=Qct R F T r f t k:=by
 induction k with
 | zero=>rfl
 | succ k ih=>
  show inB (upd (Lk R F T k) (R k) (Lk R F T k (R k)++[(F k,T k)]) r) f t=(Qct R F T r f t k||decide (R k=r/\ F k<=f/\ t<=T k));by_cases e:r=R k
  ·subst e;rw [Qay,<- ih];simp [inB]
  ·rw [Qap _ _ e,ih];have:decide (R k=r/\ F k<=f/\ t<=T k)=false:=by simp;intro h;exact absurd h.symm e
   rw [this];simp
theorem Qks {R F T:Nat ->Int}{r f t:Int}{k n:Nat}(hk:k<n)(h:R k=r/\ F k<=f/\ t<=T k):Qct R F T r f t n=true:=by
 induction n with
 | zero=>omega
 | succ n ih=>
  simp only [Qct,Bool.or_eq_true,decide_eq_true_iff];by_cases e:k=n
  ·subst e;exact .inr h
  ·exact .inl (ih (by omega))
theorem QdM {R F T:Nat ->Int}{r f t:Int}{k:Nat}(h:Qct R F T r f t k=false)(h2:¬(R k=r/\ F k<=f/\ t<=T k)):Qct R F T r f t (k+1)=false:=by
 simp only [Qct,h,Bool.false_or,decide_eq_false_iff_not];exact h2
theorem Qmz (a:Option Addr)(n c:Nat)(R F T:Nat ->Int)(r q:Int)(w:World)(hn:n<=1048576)(h:Qb5 w a n R F T):
  Calls Tryz.prog 66 #[.agg #[.slice a n c],.agg #[.int .i64 r,.int .i64 q]] w fun e w'=>e=.returned (.bool (Qct R F T r q q n))/\ Below w.heap.size w w':=by
 obtain⟨j,v⟩:∃j,(w.alloc (.cells #[.slice a n c] 27)).alloc (.cells #[.int .i64 r,.int .i64 q] 75)=j:=⟨_,rfl⟩;have Y:Below w.heap.size w j:=by rw [<- v];exact Qak _ _ _
 have H:j.cell? ⟨w.heap.size,0,none⟩=some (.slice a n c):=by rw [<- v];simp
 have x0:j.cell? ⟨w.heap.size+1,0,none⟩=some (.int .i64 r):=by rw [<- v];simp
 have J:j.cell? ⟨w.heap.size+1,1,none⟩=some (.int .i64 q):=by rw [<- v];simp
 have W:j.heap.size=w.heap.size+2:=by rw [<- v];simp
 have Z:=h.below Y;clear h;go_enter Tryz.func66,Tryz.ntmps66;go_wp2_with fail;try rw [v]
 clear v;go_loopw [5] (fun i wr=>∃k:Nat,k<=n/\ i=.int .i64 k/\ Qct R F T r q q k=false/\ Below j.heap.size j wr) (fun i _=>n - (intOf i).toNat);case atStart=>exact⟨0,Nat.zero_le _,rfl,rfl,zI⟩
 case round=>
  obtain⟨k,C,rfl,I,m⟩:=hrel;have A:=(m.cell (p:=⟨w.heap.size,0,none⟩) (show w.heap.size<j.heap.size by omega)).trans H;have U:=(m.cell (p:=⟨w.heap.size+1,0,none⟩) (show w.heap.size+1<j.heap.size by omega)).trans x0;have V:=(m.cell (p:=⟨w.heap.size+1,1,none⟩) (show w.heap.size+1<j.heap.size by omega)).trans J;have g:=hid m;have s:=hid I;by_cases y:k<n
  ·rcases Z with Z|⟨b,off,rfl,G,Q⟩
   ·omega
   have E:=(m.cell (p:=⟨b,off+k*3,none⟩) G).trans (Q k y).1;have M:=(m.cell (p:=⟨b,off+k*3+1,none⟩) G).trans (Q k y).2.1;have O:=(m.cell (p:=⟨b,off+k*3+2,none⟩) G).trans (Q k y).2.2;have D:(0:Int)<=(k:Int):=Int.natCast_nonneg _;have P:(k:Int)<(n:Int):=by omega
   clear Q m I H x0 J;by_cases z:R k=r
   ·have N:(R k==r)=true:=by simp;exact z
    have K:=hid z;clear z;by_cases t:F k<=q
    ·have X:decide (F k<=q)=true:=by simp;exact t
     have L:=hid t;clear t;by_cases o:q<=T k
     ·have B:decide (q<=T k)=true:=by simp;exact o
      have u:=hid (Qks (n:=n) y ⟨K.out,L.out,o⟩);clear o;go_wp2_with fail;refine zR (S:=fun w'=>w'.cell? ⟨w.heap.size,0,none⟩=some (.slice (some ⟨b,off,none⟩) n c)/\ w'.cell? ⟨w.heap.size+1,0,none⟩=some (.int .i64 r)/\ w'.cell? ⟨w.heap.size+1,1,none⟩=some (.int .i64 q)/\ w'.cell? ⟨b,off+k*3,none⟩=some (.int .i64 (R k))/\ w'.cell? ⟨b,off+k*3+1,none⟩=some (.int .i64 (F k))/\ w'.cell? ⟨b,off+k*3+2,none⟩=some (.int .i64 (T k))) ⟨A,U,V,E,M,O⟩ (fun qh=> ?_);refine tZ 0 13 ?_;refine tZ 1 14 ?_;refine tZ 2 15 ?_;refine tZ 3 16 ?_;refine tZ 4 17 ?_;refine tZ 5 18 ?_;refine tZ 6 19 ?_;refine tZ 7 20 ?_;refine tZ 8 21 ?_;refine tZ 9 22 ?_;refine tZ 10 23 ?_;refine tZ 11 24 ?_;refine tZ 12 25 ?_;refine tZ 13 26 ?_;refine tZ 14 27 ?_;refine tZ 15 28 ?_;refine tZ 16 29 ?_;refine tZ 17 30 ?_;refine tZ 18 31 ?_;refine tZ 19 32 ?_;refine tZ 20 33 ?_;refine tZ 21 34 ?_;refine tZ 22 35 ?_;refine tZ 23 36 ?_;refine tZ 24 37 ?_;refine tZ 25 38 ?_;refine tZ 26 39 ?_;refine tZ 27 40 ?_;refine tZ 28 41 ?_;refine tZ 29 42 ?_;refine tZ 30 43 ?_;refine zD ?_;go_wp2_with fail;go_ret;exact⟨QbD u.symm,(Y.trans (g.mono (by omega))).drew⟩
     ·have B:decide (q<=T k)=false:=by simp;omega
      have u:=hid (QdM s.out (fun hh=>o hh.2.2));clear o;go_wp2_with fail;refine zR (S:=fun w'=>w'.cell? ⟨w.heap.size,0,none⟩=some (.slice (some ⟨b,off,none⟩) n c)/\ w'.cell? ⟨w.heap.size+1,0,none⟩=some (.int .i64 r)/\ w'.cell? ⟨w.heap.size+1,1,none⟩=some (.int .i64 q)/\ w'.cell? ⟨b,off+k*3,none⟩=some (.int .i64 (R k))/\ w'.cell? ⟨b,off+k*3+1,none⟩=some (.int .i64 (F k))/\ w'.cell? ⟨b,off+k*3+2,none⟩=some (.int .i64 (T k))) ⟨A,U,V,E,M,O⟩ (fun qh=> ?_);refine tZ 0 13 ?_;refine tZ 1 14 ?_;refine tZ 2 15 ?_;refine tZ 3 16 ?_;refine tZ 4 17 ?_;refine tZ 5 18 ?_;refine tZ 6 19 ?_;refine tZ 7 20 ?_;refine tZ 8 21 ?_;refine tZ 9 22 ?_;refine tZ 10 23 ?_;refine tZ 11 24 ?_;refine tZ 12 25 ?_;refine tZ 13 26 ?_;refine tZ 14 27 ?_;refine tZ 15 28 ?_;refine tZ 16 29 ?_;refine tZ 17 30 ?_;refine tZ 18 31 ?_;refine tZ 19 32 ?_;refine tZ 20 33 ?_;refine tZ 21 34 ?_;refine tZ 22 35 ?_;refine tZ 23 36 ?_;refine tZ 24 37 ?_;refine tZ 25 38 ?_;refine tZ 26 39 ?_;refine tZ 27 40 ?_;refine tZ 28 41 ?_;refine tZ 29 42 ?_;refine tZ 30 43 ?_;refine zD ?_;go_wp2_with fail;go_roundw;case rel=>exact⟨k+1,y,by go_num,u.out,g.drew⟩
      case measure=>simp [intOf];omega
    ·have X:decide (F k<=q)=false:=by simp;omega
     have u:=hid (QdM s.out (fun hh=>t hh.2.1));clear t;go_wp2_with fail;refine zR (S:=fun w'=>w'.cell? ⟨w.heap.size,0,none⟩=some (.slice (some ⟨b,off,none⟩) n c)/\ w'.cell? ⟨w.heap.size+1,0,none⟩=some (.int .i64 r)/\ w'.cell? ⟨w.heap.size+1,1,none⟩=some (.int .i64 q)/\ w'.cell? ⟨b,off+k*3,none⟩=some (.int .i64 (R k))/\ w'.cell? ⟨b,off+k*3+1,none⟩=some (.int .i64 (F k))/\ w'.cell? ⟨b,off+k*3+2,none⟩=some (.int .i64 (T k))) ⟨A,U,V,E,M,O⟩ (fun qh=> ?_);refine tZ 0 13 ?_;refine tZ 1 14 ?_;refine tZ 2 15 ?_;refine tZ 3 16 ?_;refine tZ 4 17 ?_;refine tZ 5 18 ?_;refine tZ 6 19 ?_;refine tZ 7 20 ?_;refine tZ 8 21 ?_;refine tZ 9 22 ?_;refine tZ 10 23 ?_;refine tZ 11 24 ?_;refine tZ 12 25 ?_;refine tZ 13 26 ?_;refine tZ 14 27 ?_;refine tZ 15 28 ?_;refine tZ 16 29 ?_;refine tZ 17 30 ?_;refine tZ 18 31 ?_;refine tZ 19 32 ?_;refine tZ 20 33 ?_;refine uZ 21 34 ?_;refine uZ 22 35 ?_;refine uZ 23 36 ?_;refine uZ 24 37 ?_;refine uZ 25 38 ?_;refine uZ 26 39 ?_;refine uZ 27 40 ?_;refine uZ 28 41 ?_;refine uZ 29 42 ?_;refine tZ 30 43 ?_;refine zD ?_;go_wp2_with fail;go_roundw;case rel=>exact⟨k+1,y,by go_num,u.out,g.drew⟩
     case measure=>simp [intOf];omega
   ·have N:(R k==r)=false:=by simp;exact z
    have u:=hid (QdM s.out (fun hh=>z hh.1));clear z;go_wp2_with fail;refine zR (S:=fun w'=>w'.cell? ⟨w.heap.size,0,none⟩=some (.slice (some ⟨b,off,none⟩) n c)/\ w'.cell? ⟨w.heap.size+1,0,none⟩=some (.int .i64 r)/\ w'.cell? ⟨w.heap.size+1,1,none⟩=some (.int .i64 q)/\ w'.cell? ⟨b,off+k*3,none⟩=some (.int .i64 (R k))/\ w'.cell? ⟨b,off+k*3+1,none⟩=some (.int .i64 (F k))/\ w'.cell? ⟨b,off+k*3+2,none⟩=some (.int .i64 (T k))) ⟨A,U,V,E,M,O⟩ (fun qh=> ?_);refine tZ 0 13 ?_;refine tZ 1 14 ?_;refine tZ 2 15 ?_;refine tZ 3 16 ?_;refine tZ 4 17 ?_;refine tZ 5 18 ?_;refine tZ 6 19 ?_;refine tZ 7 20 ?_;refine tZ 8 21 ?_;refine tZ 9 22 ?_;refine uZ 10 23 ?_;refine uZ 11 24 ?_;refine uZ 12 25 ?_;refine uZ 13 26 ?_;refine uZ 14 27 ?_;refine uZ 15 28 ?_;refine uZ 16 29 ?_;refine uZ 17 30 ?_;refine uZ 18 31 ?_;refine tZ 19 32 ?_;refine tZ 20 33 ?_;refine uZ 21 34 ?_;refine uZ 22 35 ?_;refine uZ 23 36 ?_;refine uZ 24 37 ?_;refine uZ 25 38 ?_;refine uZ 26 39 ?_;refine uZ 27 40 ?_;refine uZ 28 41 ?_;refine uZ 29 42 ?_;refine tZ 30 43 ?_;refine zD ?_;go_wp2_with fail;go_roundw;case rel=>exact⟨k+1,y,by go_num,u.out,g.drew⟩
    case measure=>simp [intOf];omega
  ·obtain rfl:k=n:=by omega
   clear m I H x0 J Z;go_wp2_with fail;go_ret;exact⟨QbD s.symm,Y.trans (g.mono (by omega))⟩
def nz (f:Nat ->Int):Nat ->Nat ->Int
 | 0,_=>0
 | n+1,k=>if f k=0 then nz f n (k+1) else f k
theorem QmI {f:Nat ->Int}{n k:Nat}(h:k<n):nz f (n - k) k=if f k=0 then nz f (n - (k+1)) (k+1) else f k:=by
 rw [show n - k=(n - (k+1))+1 by omega];rfl
theorem QiA (b n c:Nat)(f:Nat ->Int)(w:World)(hn:n<=1000)(h:∀i,i<n ->w.cell? ⟨b,i,none⟩=some (.int .i64 (f i))):
  Calls Tryz.prog 107 #[.slice (some ⟨b,0,none⟩) n c] w fun e w'=>e=.returned (.int .i64 (nz f n 0))/\ w'=w:=by
 go_enter Tryz.func107,Tryz.ntmps107;go_wp2_with fail;go_loop [8] (fun i=>∃k:Nat,k<=n/\ i=.int .i64 (k:Int)/\ Hid (nz f n 0=nz f (n - k) k)) (fun i=>n - (intOf i).toNat);case atStart=>exact⟨0,Nat.zero_le _,rfl,hid rfl⟩
 case round=>
  obtain⟨k,v,rfl,m⟩:=hrel;by_cases r:k<n
  ·have x0:=h k r;have y:(0:Int)<=(k:Int):=Int.natCast_nonneg _;have z:(k:Int)<(n:Int):=by omega
   have j:Hid (nz f n 0=if f k=0 then nz f (n - (k+1)) (k+1) else f k):=hid (by rw [m.out,QmI r]);obtain⟨x,u⟩:∃x,f k=x:=⟨_,rfl⟩;rw [u] at x0 j;clear h u m;by_cases q:x=0
   ·subst q;have j:Hid (nz f n 0=nz f (n - (k+1)) (k+1)):=hid (by rw [j.out,if_pos rfl]);go_wp2_with fail;go_round;case rel=>exact⟨k+1,r,by go_num,j⟩
    case measure=>simp [intOf];omega
   ·have j:Hid (nz f n 0=x):=hid (by rw [j.out,if_neg q]);have g:(x !=0)=true:=by simpa using q
    go_wp2_with fail;go_ret;exact⟨QbE j.symm,rfl⟩
  ·obtain rfl:k=n:=by omega
   have j:Hid (nz f k 0=0):=hid (by rw [m.out,Nat.sub_self];rfl);clear h m;go_wp2_with fail;go_ret;exact⟨QbE j.symm,rfl⟩
def orI (x y:Int):Int:=if x=0 then y else x
theorem nz2 {f:Nat ->Int}:nz f 2 0=orI (f 0) (f 1):=by
 unfold orI nz;by_cases h:f 0=0
 ·rw [if_pos h,if_pos h];unfold nz;by_cases j:f 1=0
  ·rw [if_pos j,j];rfl
  ·rw [if_neg j]
 ·rw [if_neg h,if_neg h]
theorem nz3 {f:Nat ->Int}:nz f 3 0=orI (f 0) (orI (f 1) (f 2)):=by
 unfold orI nz;by_cases h:f 0=0
 ·rw [if_pos h,if_pos h];unfold nz;by_cases j:f 1=0
  ·rw [if_pos j,if_pos j];unfold nz;by_cases k:f 2=0
   ·rw [if_pos k,k];rfl
   ·rw [if_neg k]
  ·rw [if_neg j,if_neg j]
 ·rw [if_neg h,if_neg h]
def kd (fl:Bool):Int:=if fl=true then 2 else 1
def Qlj (r q r' q':Int):Int:=orI (QaV r r') (QaV q q')
def QaH (x y:Lf):Int:=orI (QaC x.p y.p) (orI (QaV (kd x.fl) (kd y.fl)) (Qlj x.r x.q y.r y.q))
theorem Qfk (v0:Value)(fl:Bool)(v2 v3 v4:Value)(w:World):Calls Tryz.prog 41 #[.agg #[v0,.bool fl,v2,v3,v4]] w fun e w'=>e=.returned (.int .i64 (kd fl))/\ Below w.heap.size w w':=by
 have j:=hid (zO w (.cells #[v0,.bool fl,v2,v3,v4] 77));cases fl
 ·go_enter Tryz.func41,Tryz.ntmps41;go_wp2_with fail;go_ret;exact⟨rfl,j.out⟩
 ·go_enter Tryz.func41,Tryz.ntmps41;go_wp2_with fail;go_ret;exact⟨rfl,j.out⟩
theorem QdE (r q r' q':Int)(w:World):Calls Tryz.prog 103 #[.agg #[.int .i64 r,.int .i64 q],.agg #[.int .i64 r',.int .i64 q']] w fun e w'=>e=.returned (.int .i64 (Qlj r q r' q'))/\ Below w.heap.size w w':=by
 obtain⟨W,m⟩:∃W,(w.alloc (.cells #[.int .i64 r,.int .i64 q] 75)).alloc (.cells #[.int .i64 r',.int .i64 q'] 75)=W:=⟨_,rfl⟩;have z:Below w.heap.size w W:=by rw [<- m];exact Qak _ _ _
 have E:W.heap.size=w.heap.size+2:=by rw [<- m];simp
 have o:W.cell? ⟨w.heap.size,0,none⟩=some (.int .i64 r):=by rw [<- m];simp
 have b:W.cell? ⟨w.heap.size,1,none⟩=some (.int .i64 q):=by rw [<- m];simp
 have s:W.cell? ⟨w.heap.size+1,0,none⟩=some (.int .i64 r'):=by rw [<- m];simp
 have A:W.cell? ⟨w.heap.size+1,1,none⟩=some (.int .i64 q'):=by rw [<- m];simp
 have v:=hid z;have h:w.heap.size<W.heap.size:=by omega
 have g:w.heap.size+1<W.heap.size:=by omega
 clear z E;go_enter Tryz.func103,Tryz.ntmps103;go_wp2_with fail;try rw [m]
 clear m;have u:∀w',Below W.heap.size W w' ->(Below W.heap.size W w'/\ w'.cell? ⟨w.heap.size,0,none⟩=some (.int .i64 r)/\ w'.cell? ⟨w.heap.size,1,none⟩=some (.int .i64 q)/\ w'.cell? ⟨w.heap.size+1,0,none⟩=some (.int .i64 r')/\ w'.cell? ⟨w.heap.size+1,1,none⟩=some (.int .i64 q')):=fun w' k=>⟨k,(k.cell (p:=⟨w.heap.size,0,none⟩) h).trans o,(k.cell (p:=⟨w.heap.size,1,none⟩) h).trans b,(k.cell (p:=⟨w.heap.size+1,0,none⟩) g).trans s,(k.cell (p:=⟨w.heap.size+1,1,none⟩) g).trans A⟩;have y:=hid u;clear u;refine zR (S:=fun w'=>Below W.heap.size W w'/\ w'.cell? ⟨w.heap.size,0,none⟩=some (.int .i64 r)/\ w'.cell? ⟨w.heap.size,1,none⟩=some (.int .i64 q)/\ w'.cell? ⟨w.heap.size+1,0,none⟩=some (.int .i64 r')/\ w'.cell? ⟨w.heap.size+1,1,none⟩=some (.int .i64 q')) (y _ zI.drew) (fun qh=> ?_);refine tZ 0 5 ?_;refine tZ 1 6 ?_;refine tZ 2 7 ?_;refine tZ 3 8 ?_;refine tZ 5 10 ?_;refine tZ 6 11 ?_;refine tZ 7 12 ?_;refine tZ 8 13 ?_;refine cZ 4 ?_;intro K j;go_simp;refine(QbZ r r' _).mono ?_;rintro e w1 ⟨rfl,rfl⟩;refine j.out _ _ qh (fun qh=> ?_);clear j K;try simp only [zP]
 refine cZ 9 ?_;intro K j;go_simp;refine(QbZ q q' _).mono ?_;rintro e M ⟨rfl,rfl⟩;refine j.out _ _ qh (fun qh=> ?_);clear j K;try simp only [zP]
 refine cZ 10 ?_;intro K j;go_simp;have k:=qh.1.alloc qh.1.size (.cells #[.int .i64 (QaV r r'),.int .i64 (QaV q q')] 3);refine j.out _ _ (y _ k) (fun qh=> ?_);clear j K;try simp only [zP]
 refine cZ 11 ?_;intro K j;go_simp;refine(QiA _ 2 2 (fun i=>if i=0 then QaV r r' else QaV q q') _ (by omega) (fun i hi=> ?_)).mono ?_
 ·match i,hi with
  | 0,_=>simp
  | 1,_=>simp
 rintro e O ⟨rfl,rfl⟩;refine j.out _ _ qh (fun qh=> ?_);clear j K;try simp only [zP]
 refine tZ 12 4 ?_;refine zD ?_;have t:=hid (v.trans (qh.1.mono v.size));clear qh k;go_wp2_with fail;go_ret;exact⟨QbE nz2,t.out⟩
theorem QeV (a a':Option Addr)(c c':Nat)(p p':List ByteArray)(fl fl':Bool)(r q r' q':Int)(v v':ByteArray)(w:World)(hn:p.length<=1048576)(hn':p'.length<=1048576)(h:QaT w a p)(h':QaT w a' p'):
  Calls Tryz.prog 84 #[.agg #[.slice a p.length c,.bool fl,.int .i64 r,.int .i64 q,.string v],.agg #[.slice a' p'.length c',.bool fl',.int .i64 r',.int .i64 q',.string v']] w fun e w'=>e=.returned (.int .i64 (QaH ⟨p,fl,r,q,v⟩ ⟨p',fl',r',q',v'⟩))/\ Below w.heap.size w w':=by
 obtain⟨W,m⟩:∃W,(w.alloc (.cells #[.slice a p.length c,.bool fl,.int .i64 r,.int .i64 q,.string v] 77)).alloc (.cells #[.slice a' p'.length c',.bool fl',.int .i64 r',.int .i64 q',.string v'] 77)=W:=⟨_,rfl⟩;have g:Below w.heap.size w W:=by rw [<- m];exact Qak _ _ _
 have C:W.heap.size=w.heap.size+2:=by rw [<- m];simp
 have Y:W.cell? ⟨w.heap.size,0,none⟩=some (.slice a p.length c):=by rw [<- m];simp
 have Z:W.cell? ⟨w.heap.size,1,none⟩=some (.bool fl):=by rw [<- m];simp
 have G:W.cell? ⟨w.heap.size,2,none⟩=some (.int .i64 r):=by rw [<- m];simp
 have H:W.cell? ⟨w.heap.size,3,none⟩=some (.int .i64 q):=by rw [<- m];simp
 have I:W.cell? ⟨w.heap.size,4,none⟩=some (.string v):=by rw [<- m];simp
 have J:W.cell? ⟨w.heap.size+1,0,none⟩=some (.slice a' p'.length c'):=by rw [<- m];simp
 have L:W.cell? ⟨w.heap.size+1,1,none⟩=some (.bool fl'):=by rw [<- m];simp
 have N:W.cell? ⟨w.heap.size+1,2,none⟩=some (.int .i64 r'):=by rw [<- m];simp
 have X:W.cell? ⟨w.heap.size+1,3,none⟩=some (.int .i64 q'):=by rw [<- m];simp
 have B:W.cell? ⟨w.heap.size+1,4,none⟩=some (.string v'):=by rw [<- m];simp
 have o:=hid g;have y:w.heap.size<W.heap.size:=by omega
 have z:w.heap.size+1<W.heap.size:=by omega
 have U:=hid (h.below g);have V:=hid (h'.below g);clear g C h h';go_enter Tryz.func84,Tryz.ntmps84;go_wp2_with fail;try rw [m]
 clear m;have t:∀w',Below W.heap.size W w' ->(Below W.heap.size W w'/\ w'.cell? ⟨w.heap.size,0,none⟩=some (.slice a p.length c)/\ w'.cell? ⟨w.heap.size,1,none⟩=some (.bool fl)/\ w'.cell? ⟨w.heap.size,2,none⟩=some (.int .i64 r)/\ w'.cell? ⟨w.heap.size,3,none⟩=some (.int .i64 q)/\ w'.cell? ⟨w.heap.size,4,none⟩=some (.string v)/\ w'.cell? ⟨w.heap.size+1,0,none⟩=some (.slice a' p'.length c')/\ w'.cell? ⟨w.heap.size+1,1,none⟩=some (.bool fl')/\ w'.cell? ⟨w.heap.size+1,2,none⟩=some (.int .i64 r')/\ w'.cell? ⟨w.heap.size+1,3,none⟩=some (.int .i64 q')/\ w'.cell? ⟨w.heap.size+1,4,none⟩=some (.string v')):=fun w' k=>⟨k,(k.cell (p:=⟨w.heap.size,0,none⟩) y).trans Y,(k.cell (p:=⟨w.heap.size,1,none⟩) y).trans Z,(k.cell (p:=⟨w.heap.size,2,none⟩) y).trans G,(k.cell (p:=⟨w.heap.size,3,none⟩) y).trans H,(k.cell (p:=⟨w.heap.size,4,none⟩) y).trans I,(k.cell (p:=⟨w.heap.size+1,0,none⟩) z).trans J,(k.cell (p:=⟨w.heap.size+1,1,none⟩) z).trans L,(k.cell (p:=⟨w.heap.size+1,2,none⟩) z).trans N,(k.cell (p:=⟨w.heap.size+1,3,none⟩) z).trans X,(k.cell (p:=⟨w.heap.size+1,4,none⟩) z).trans B⟩;have u:=hid t;clear t;refine zR (S:=fun w'=>Below W.heap.size W w'/\ w'.cell? ⟨w.heap.size,0,none⟩=some (.slice a p.length c)/\ w'.cell? ⟨w.heap.size,1,none⟩=some (.bool fl)/\ w'.cell? ⟨w.heap.size,2,none⟩=some (.int .i64 r)/\ w'.cell? ⟨w.heap.size,3,none⟩=some (.int .i64 q)/\ w'.cell? ⟨w.heap.size,4,none⟩=some (.string v)/\ w'.cell? ⟨w.heap.size+1,0,none⟩=some (.slice a' p'.length c')/\ w'.cell? ⟨w.heap.size+1,1,none⟩=some (.bool fl')/\ w'.cell? ⟨w.heap.size+1,2,none⟩=some (.int .i64 r')/\ w'.cell? ⟨w.heap.size+1,3,none⟩=some (.int .i64 q')/\ w'.cell? ⟨w.heap.size+1,4,none⟩=some (.string v')) (u _ zI.drew) (fun qh=> ?_);refine tZ 0 5 ?_;refine tZ 1 6 ?_;refine tZ 2 7 ?_;refine tZ 3 8 ?_;refine tZ 5 10 ?_;refine tZ 7 12 ?_;refine tZ 10 15 ?_;refine tZ 11 16 ?_;refine tZ 12 17 ?_;refine tZ 13 18 ?_;refine cZ 4 ?_;intro K j;go_simp;refine(Qme p p' a a' c c' _ hn hn' (U.below qh.1) (V.below qh.1)).mono ?_;rintro e w1 ⟨rfl,rfl⟩;refine j.out _ _ qh (fun qh=> ?_);clear j K;try simp only [zP]
 refine cZ 6 ?_;intro K j;go_simp;refine(Qfk _ fl _ _ _ _).mono ?_;rintro e D ⟨rfl,b⟩;have E:=qh.1.trans (b.mono qh.1.size);refine j.out _ _ (u _ E) (fun qh=> ?_);clear j K;try simp only [zP]
 refine cZ 8 ?_;intro K j;go_simp;refine(Qfk _ fl' _ _ _ _).mono ?_;rintro e F ⟨rfl,s⟩;have M:=qh.1.trans (s.mono qh.1.size);refine j.out _ _ (u _ M) (fun qh=> ?_);clear j K;try simp only [zP]
 refine cZ 9 ?_;intro K j;go_simp;refine(QbZ (kd fl) (kd fl') _).mono ?_;rintro e P ⟨rfl,rfl⟩;refine j.out _ _ qh (fun qh=> ?_);clear j K;try simp only [zP]
 refine cZ 14 ?_;intro K j;go_simp;refine(QdE r q r' q' _).mono ?_;rintro e R ⟨rfl,A⟩;have O:=qh.1.trans (A.mono qh.1.size);refine j.out _ _ (u _ O) (fun qh=> ?_);clear j K;try simp only [zP]
 refine cZ 15 ?_;intro K j;go_simp;have k:=qh.1.alloc qh.1.size (.cells #[.int .i64 (QaC p p'),.int .i64 (QaV (kd fl) (kd fl')),.int .i64 (Qlj r q r' q')] 3);refine j.out _ _ (u _ k) (fun qh=> ?_);clear j K;try simp only [zP]
 refine cZ 16 ?_;intro K j;go_simp;refine(QiA _ 3 3 (fun i=>if i=0 then QaC p p' else if i=1 then QaV (kd fl) (kd fl') else Qlj r q r' q') _ (by omega) (fun i hi=> ?_)).mono ?_
 ·match i,hi with
  | 0,_=>simp
  | 1,_=>simp
  | 2,_=>simp
 rintro e T ⟨rfl,rfl⟩;refine j.out _ _ qh (fun qh=> ?_);clear j K;try simp only [zP]
 refine tZ 17 4 ?_;refine zD ?_;have Q:=hid (o.trans (qh.1.mono o.size));clear qh k O M E A s b;go_wp2_with fail;go_ret;exact⟨QbE nz3,Q.out⟩
theorem QkY {P:Prop} [Decidable P]:yes P=decide P:=by
 by_cases h:P
 ·rw [Qal h,decide_eq_true h]
 ·rw [Qaj h,decide_eq_false h]
theorem QeQ {x y:Int}:QaV x y<0↔x<y:=by unfold QaV;split<;>(try split)<;>omega
theorem Qez {x y:Int}:QaV x y=0↔x=y:=by unfold QaV;split<;>(try split)<;>omega
theorem Qpn {p p':List ByteArray}{fl fl':Bool}{r q r' q':Int}{v v':ByteArray}:
  (QaC p p'≠0 ->yes (QaH ⟨p,fl,r,q,v⟩ ⟨p',fl',r',q',v'⟩<0)=decide (QaC p p'<0))/\
  (QaC p p'=0 ->fl≠fl' ->yes (QaH ⟨p,fl,r,q,v⟩ ⟨p',fl',r',q',v'⟩<0)=fl')/\
  (QaC p p'=0 ->fl=fl' ->r≠r' ->yes (QaH ⟨p,fl,r,q,v⟩ ⟨p',fl',r',q',v'⟩<0)=decide (r<r'))/\
  (QaC p p'=0 ->fl=fl' ->r=r' ->yes (QaH ⟨p,fl,r,q,v⟩ ⟨p',fl',r',q',v'⟩<0)=decide (q<q')):=by
 refine⟨fun h=> ?_,fun h hf=> ?_,fun h hf hr=> ?_,fun h hf hr=> ?_⟩
 ·rw [QkY];simp only [QaH,orI,if_neg h]
 ·have e:QaH ⟨p,fl,r,q,v⟩ ⟨p',fl',r',q',v'⟩=QaV (kd fl) (kd fl'):=by
   have:QaV (kd fl) (kd fl')≠0:=by rw [Ne,Qez];cases fl<;>cases fl'<;>simp_all [kd]
   simp only [QaH,orI,if_pos h,if_neg this]
  rw [e,QkY];cases fl<;>cases fl'<;>simp_all [kd,QaV]
 ·have e:QaH ⟨p,fl,r,q,v⟩ ⟨p',fl',r',q',v'⟩=QaV r r':=by
   have j:QaV (kd fl) (kd fl')=0:=by rw [Qez,hf]
   have k:QaV r r'≠0:=by rw [Ne,Qez];exact hr
   simp only [QaH,orI,if_pos h,if_pos j,Qlj,if_neg k]
  rw [e,QkY];exact decide_eq_decide.2 QeQ
 ·have e:QaH ⟨p,fl,r,q,v⟩ ⟨p',fl',r',q',v'⟩=QaV q q':=by
   have j:QaV (kd fl) (kd fl')=0:=by rw [Qez,hf]
   have k:QaV r r'=0:=by rw [Qez];exact hr
   simp only [QaH,orI,if_pos h,if_pos j,Qlj,if_pos k]
  rw [e,QkY];exact decide_eq_decide.2 QeQ
theorem Qhv (a a':Option Addr)(c c':Nat)(p p':List ByteArray)(fl fl':Bool)(r q r' q':Int)(v v':ByteArray)(w:World)(hn:p.length<=1048576)(hn':p'.length<=1048576)(hc:p.length<=c)(hc':p'.length<=c')(M:c<=9223372036854775807)(hx':c'<=9223372036854775807)(h:QaT w a p)(h':QaT w a' p'):
  Calls Tryz.prog 67 #[.agg #[.slice a p.length c,.bool fl,.int .i64 r,.int .i64 q,.string v],.agg #[.slice a' p'.length c',.bool fl',.int .i64 r',.int .i64 q',.string v']] w fun e w'=>e=.returned (.bool (yes (QaH ⟨p,fl,r,q,v⟩ ⟨p',fl',r',q',v'⟩<0)))/\ Below w.heap.size w w':=by
 obtain⟨W,j⟩:∃W,(w.alloc (.cells #[.slice a p.length c,.bool fl,.int .i64 r,.int .i64 q,.string v] 77)).alloc (.cells #[.slice a' p'.length c',.bool fl',.int .i64 r',.int .i64 q',.string v'] 77)=W:=⟨_,rfl⟩;have A:Below w.heap.size w W:=by rw [<- j];exact Qak _ _ _
 have zW:W.heap.size=w.heap.size+2:=by rw [<- j];simp
 have D:W.cell? ⟨w.heap.size,0,none⟩=some (.slice a p.length c):=by rw [<- j];simp
 have H:W.cell? ⟨w.heap.size,1,none⟩=some (.bool fl):=by rw [<- j];simp
 have I:W.cell? ⟨w.heap.size,2,none⟩=some (.int .i64 r):=by rw [<- j];simp
 have J:W.cell? ⟨w.heap.size,3,none⟩=some (.int .i64 q):=by rw [<- j];simp
 have F:W.cell? ⟨w.heap.size,4,none⟩=some (.string v):=by rw [<- j];simp
 have P:W.cell? ⟨w.heap.size+1,0,none⟩=some (.slice a' p'.length c'):=by rw [<- j];simp
 have K:W.cell? ⟨w.heap.size+1,1,none⟩=some (.bool fl'):=by rw [<- j];simp
 have L:W.cell? ⟨w.heap.size+1,2,none⟩=some (.int .i64 r'):=by rw [<- j];simp
 have N:W.cell? ⟨w.heap.size+1,3,none⟩=some (.int .i64 q'):=by rw [<- j];simp
 have R:W.cell? ⟨w.heap.size+1,4,none⟩=some (.string v'):=by rw [<- j];simp
 have i:=hid A;have S:w.heap.size<W.heap.size:=by omega
 have T:w.heap.size+1<W.heap.size:=by omega
 have O:=hid (QcV p p' a a' c c' W hc hc' M hx' (h.below A) (h'.below A));obtain⟨U,V,Y,Z⟩:=@Qpn p p' fl fl' r q r' q' v v';have u:=hid U;have y:=hid V;have z:=hid Y;have g:=hid Z;obtain⟨B,Q⟩:∃B,yes (QaH ⟨p,fl,r,q,v⟩ ⟨p',fl',r',q',v'⟩<0)=B:=⟨_,rfl⟩;obtain⟨x,M⟩:∃x,QaC p p'=x:=⟨_,rfl⟩;rw [Q] at u y z g;rw [M] at u y z g O;rw [Q];clear A zW h h' U V Y Z Q M;go_enter Tryz.func67,Tryz.ntmps67;go_wp2_with fail;try rw [j]
 clear j;refine O.mono ?_;rintro e w1 ⟨rfl,k,m⟩;have Ha:w1.cell? ⟨w.heap.size,1,none⟩=some (.bool fl):=by rw [m];exact H
 have Hb:w1.cell? ⟨w.heap.size,2,none⟩=some (.int .i64 r):=by rw [m];exact I
 have Hc:w1.cell? ⟨w.heap.size,3,none⟩=some (.int .i64 q):=by rw [m];exact J
 have Hd:w1.cell? ⟨w.heap.size+1,1,none⟩=some (.bool fl'):=by rw [m];exact K
 have He:w1.cell? ⟨w.heap.size+1,2,none⟩=some (.int .i64 r'):=by rw [m];exact L
 have Hf:w1.cell? ⟨w.heap.size+1,3,none⟩=some (.int .i64 q'):=by rw [m];exact N
 have s:Hid (Below w.heap.size w w1):=hid (by rw [m];exact⟨i.os,i.tape,i.output,i.size,i.block⟩);clear m D H I J F P K L N R O S T i;by_cases b:x=0
 ·have X:(x !=0)=false:=by simp [b]
  by_cases o:fl=fl'
  ·have G:(fl !=fl')=false:=by simp [o]
   by_cases E:r=r'
   ·have C:(r !=r')=false:=by simp [E]
    have t:=hid (g b o E);clear u y z g;go_wp2_with fail;go_ret;exact⟨Qa8 t.symm,s.out⟩
   ·have C:(r !=r')=true:=by simpa using E
    have t:=hid (z b o E);clear u y z g;go_wp2_with fail;go_ret;exact⟨Qa8 t.symm,s.out⟩
  ·have G:(fl !=fl')=true:=by simpa using o
   have t:=hid (y b o);clear u y z g G;cases fl<;>cases fl'<;>first
    | exact absurd rfl o
    | (clear o;go_wp2_with fail;go_ret;exact⟨Qa8 t.symm,s.out⟩)
 ·have X:(x !=0)=true:=by simpa using b
  have t:=hid (u b);clear u y z g;go_wp2_with fail;go_ret;exact⟨Qa8 t.symm,s.out⟩
def emB (v:ByteArray):Bool:=v.toList.isEmpty
def QbW (x:Lf):Prop:=QaS x.p/\ x.v.size<=200/\ (x.fl=true ->emB x.v=true)
theorem QnK (a:Option Addr)(c:Nat)(p:List ByteArray)(fl:Bool)(r q:Int)(v:ByteArray)(w:World)(hn:p.length<=1048576)(h:QaT w a p):
  Calls Tryz.prog 82 #[.agg #[.slice a p.length c,.bool fl,.int .i64 r,.int .i64 q,.string v]] w fun e w'=>e=.returned (.bool (yes (QbW ⟨p,fl,r,q,v⟩)))/\ Below w.heap.size w w':=by
 obtain⟨W,j⟩:∃W,w.alloc (.cells #[.slice a p.length c,.bool fl,.int .i64 r,.int .i64 q,.string v] 77)=W:=⟨_,rfl⟩;have o:Below w.heap.size w W:=by rw [<- j];exact zO _ _
 have U:W.cell? ⟨w.heap.size,0,none⟩=some (.slice a p.length c):=by rw [<- j];simp
 have V:W.cell? ⟨w.heap.size,1,none⟩=some (.bool fl):=by rw [<- j];simp
 have G:W.cell? ⟨w.heap.size,4,none⟩=some (.string v):=by rw [<- j];simp
 have t:=hid (QkB p a c W hn (h.below o));have y:=hid o;obtain⟨B,i⟩:∃B,yes (QbW ⟨p,fl,r,q,v⟩)=B:=⟨_,rfl⟩;have g:=hid i;rw [i];clear o h i;by_cases m:fl=true/\ emB v=false
 ·have M:v.toList.isEmpty=false:=m.2;have k:Hid (B=false):=hid (by rw [<- g.out];exact Qaj (fun h=>by have:=h.2.2 m.1;simp only at this;rw [m.2] at this;cases this));obtain⟨rfl,_⟩:=m;go_enter Tryz.func82,Tryz.ntmps82;go_wp2_with fail;try rw [j]
  clear j;go_wp2_with fail;go_ret;exact⟨Qa8 k.symm,y.out⟩
 ·have k:Hid (B=(yes (QaS p) && decide (v.size<=200))):=hid (by
   rw [<- g.out];have O:fl=true ->emB v=true:=fun e=>by
    by_cases h:emB v=true
    ·exact h
    ·exact absurd ⟨e,by simpa using h⟩ m
   by_cases u:QaS p
   ·by_cases z:v.size<=200
    ·rw [Qal ⟨u,z,O⟩,Qal u,decide_eq_true z];rfl
    ·rw [Qaj (fun h=>z h.2.1),Qal u,decide_eq_false z];rfl
   ·rw [Qaj (fun h=>u h.1),Qaj u];rfl)
  obtain⟨Y,A⟩:∃Y,yes (QaS p)=Y:=⟨_,rfl⟩;rw [A] at k t;clear A g;have b:decide ((v.size:Int)<=200)=decide (v.size<=200):=decide_eq_decide.2 (by omega);obtain⟨Z,E⟩:∃Z,decide (v.size<=200)=Z:=⟨_,rfl⟩;rw [E] at k b;clear E;have s:∀(Y Z:Bool),B=(Y && Z) ->Y=false ->B=false:=fun Y Z h u=>by rw [h,u];rfl
  have Q:=hid s;clear s;cases fl with
  | false=>
   clear m;go_enter Tryz.func82,Tryz.ntmps82;go_wp2_with fail;try rw [j]
   clear j;go_wp2_with fail;refine t.mono ?_;rintro e w1 ⟨rfl,rfl⟩;cases Y with
   | true=>
    go_wp2_with fail;go_ret;exact⟨Qa8 (by rw [k.out];simp [b]),y.out⟩
   | false=>
    go_wp2_with fail;go_ret;exact⟨Qa8 (by rw [k.out];rfl),y.out⟩
  | true=>
   have M:v.toList.isEmpty=true:=by
    by_cases h:emB v=true
    ·exact h
    ·exact absurd ⟨rfl,by simpa using h⟩ m
   clear m;go_enter Tryz.func82,Tryz.ntmps82;go_wp2_with fail;try rw [j]
   clear j;go_wp2_with fail;refine t.mono ?_;rintro e w1 ⟨rfl,rfl⟩;cases Y with
   | true=>
    go_wp2_with fail;go_ret;exact⟨Qa8 (by rw [k.out];simp [b]),y.out⟩
   | false=>
    go_wp2_with fail;go_ret;exact⟨Qa8 (by rw [k.out];rfl),y.out⟩
theorem Qpq:Tryz.prog.fieldsOf 75=match Tryz.prog.underlying 75 with|some (.struct fs)=>fs|_=>#[]:=rfl
theorem Qke:Tryz.prog.stoodInHeld 75=false:=by kernel_rfl
theorem Qkd:Tryz.prog.eqGuardType Tryz.prog.depth 75=false:=by kernel_rfl
theorem Qlo (r q r' q':Int)(w:World):(binOp .eql 75 (.agg #[.int .i64 r,.int .i64 q]) (.agg #[.int .i64 r',.int .i64 q'])).run Tryz.prog w=.ok (.bool (r==r' && q==q')) w:=by
 rw [run_eql_struct,show (10000:Nat)=9999+1 from rfl,run_equalIn_agg _ _ _ _ _ (by kernel_rfl) Qke,Qpq,Tryz.underlying75];cases h1:(r==r')<;>simp [Op.eqFields,go_sem,Tryz.underlying3,h1];by_cases j:q=q'<;>simp [j]
def QbS (R F T:Nat ->Int)(n:Nat)(l:List Lf)(k:Nat):Prop:=∀i,i<k ->QbW (gL l i)/\ Qct R F T (gL l i).r (gL l i).q (gL l i).q n=true/\ (0<i ->QaH (gL l (i - 1)) (gL l i)<0)
def Dif (x y:Lf):Prop:=¬(x.r=y.r/\ x.q=y.q)
def Dis (l:List Lf)(k:Nat):Prop:=∀i,i<k ->∀j,j<i ->Dif (gL l j) (gL l i)
def QaQ (R F T:Nat ->Int)(n:Nat)(l:List Lf):Prop:=QcR R F T n=true/\ l.length<=1000/\ QbS R F T n l l.length/\ Dis l l.length
theorem QbS.step {R F T:Nat ->Int}{n:Nat}{l:List Lf}{k:Nat}(h:QbS R F T n l k)(h1:QbW (gL l k))(h2:Qct R F T (gL l k).r (gL l k).q (gL l k).q n=true)(h3:0<k ->QaH (gL l (k - 1)) (gL l k)<0):QbS R F T n l (k+1):=fun i hi=>by
 by_cases e:i=k
 ·subst e;exact⟨h1,h2,h3⟩
 ·exact h i (by omega)
theorem Dis.step {l:List Lf}{k:Nat}(h:Dis l k)(h1:∀j,j<k ->Dif (gL l j) (gL l k)):Dis l (k+1):=fun i hi j hj=>by
 by_cases e:i=k
 ·subst e;exact h1 j hj
 ·exact h i (by omega) j hj
theorem Qaz {B:Nat}{a w:World}(h:Below B a w)(n:Nat):Below B a (w.drewN n):=⟨h.os,h.tape,h.output,h.size,h.block⟩
theorem Qbv (a:Option Addr)(c:Nat)(l:List Lf)(x:Option Addr)(n d:Nat)(R F T:Nat ->Int)(w:World)(hn:l.length<=1048576)(hp:LBd l)(hm:n<=1048576)(h:Qdy w a l)(h':Qb5 w x n R F T):
  Calls Tryz.prog 34 #[.agg #[.slice a l.length c,.slice x n d]] w fun e w'=>e=.returned (.bool (yes (QaQ R F T n l)))/\ Below w.heap.size w w':=by
 obtain⟨W,hW⟩:∃W,w.alloc (.cells #[.slice a l.length c,.slice x n d] 29)=W:=⟨_,rfl⟩;have b0:Below w.heap.size w W:=by rw [<- hW];exact zO _ _
 have zW:w.heap.size<W.heap.size:=by rw [<- hW];simp
 have k0:W.cell? ⟨w.heap.size,0,none⟩=some (.slice a l.length c):=by rw [<- hW];simp
 have k1:W.cell? ⟨w.heap.size,1,none⟩=some (.slice x n d):=by rw [<- hW];simp
 have HC:=hid (Qgf x n d R F T W hm (h'.below b0));have HL:=hid (h.below b0);have HR:=hid (h'.below b0);have Hn:=hid b0;clear h h' b0;obtain⟨Y,hY⟩:∃Y,yes (QaQ R F T n l)=Y:=⟨_,rfl⟩;have HY:=hid hY;rw [hY];clear hY;go_enter Tryz.func34,Tryz.ntmps34;go_wp2_with fail;try rw [hW]
 clear hW;refine HC.mono ?_;rintro e w1 ⟨rfl,b1⟩;have m0:=(b1.cell (p:=⟨w.heap.size,0,none⟩) zW).trans k0;have m1:=(b1.cell (p:=⟨w.heap.size,1,none⟩) zW).trans k1;have E:=hid (Hn.trans (b1.mono Hn.size));have H9:=hid (HL.below b1);have Ga:=hid (HR.below b1);have z1:w.heap.size<w1.heap.size:=Nat.lt_of_lt_of_le zW b1.size;clear HC HL HR Hn k0 k1 zW b1;obtain⟨C,hC⟩:∃C,QcR R F T n=C:=⟨_,rfl⟩;have HC:=hid hC;rw [hC];clear hC;cases C with
 | false=>
  have Q:Hid (Y=false):=hid (by rw [<- HY.out];exact Qaj (fun h=>by have:=h.1;rw [HC.out] at this;cases this));go_wp2_with fail;go_ret;exact⟨Qa8 Q.symm,E.out⟩
 | true=>
  by_cases Hg:(1000:Int)<(l.length:Int)
  ·have d0:decide ((1000:Int)<(l.length:Int))=true:=by simpa using Hg
   have Q:Hid (Y=false):=hid (by rw [<- HY.out];exact Qaj (fun h=>by have:=h.2.1;omega));go_wp2_with fail;go_ret;exact⟨Qa8 Q.symm,E.out⟩
  ·have d0:decide ((1000:Int)<(l.length:Int))=false:=by simpa using Hg
   go_wp2_with fail;clear d0;go_loopw [3] (fun i wr=>∃k:Nat,k<=l.length/\ i=.int .i64 k/\ Hid (Below w1.heap.size w1 wr)/\ Hid (QbS R F T n l k/\ Dis l k)) (fun i _=>l.length - (intOf i).toNat);case atStart=>exact⟨0,Nat.zero_le _,rfl,hid zI,hid ⟨fun i hi=>by omega,fun i hi=>by omega⟩⟩
   case round=>
    obtain⟨k,hk,rfl,g,HI⟩:=hrel;have r0:=(g.cell (p:=⟨w.heap.size,0,none⟩) z1).trans m0;have r1:=(g.cell (p:=⟨w.heap.size,1,none⟩) z1).trans m1;by_cases Hj:k<l.length
    ·rcases H9.out with h|⟨b,off,rfl,P,hc⟩
     ·omega
     obtain⟨pa,pc,⟨c0,cp,cq⟩,s,c1,H,I,c4⟩:=hc k Hj;have x0:=(g.cell (p:=⟨b,off+k*5,none⟩) P).trans c0;have x1:=(g.cell (p:=⟨b,off+k*5+1,none⟩) P).trans c1;have x2:=(g.cell (p:=⟨b,off+k*5+2,none⟩) P).trans H;have x3:=(g.cell (p:=⟨b,off+k*5+3,none⟩) P).trans I;have x4:=(g.cell (p:=⟨b,off+k*5+4,none⟩) P).trans c4;have HS:=hid (s.below g.out);have i1:(0:Int)<=(k:Int):=Int.natCast_nonneg _;have i2:(k:Int)<(l.length:Int):=by omega
     have N:=hid hc;have zr:w1.heap.size<=wr.heap.size:=g.size;clear hc c0 c1 H I c4 s m0 m1;go_upto_region 7 with fail;obtain⟨y,hy⟩:∃y,gL l k=y:=⟨_,rfl⟩;have Hk:=hp k;rw [hy] at HS x0 x1 x2 x3 x4 cp Hk ⊢;have HE:=hid hy;clear hy;obtain⟨p,fl,r,q,v⟩:=y;dsimp only at HS x0 x1 x2 x3 x4 cp Hk ⊢;obtain⟨G,Hi⟩:∃G,wr.alloc (.cells #[.slice pa p.length pc,.bool fl,.int .i64 r,.int .i64 q,.string v] 77)=G:=⟨_,rfl⟩;have b2:Below wr.heap.size wr G:=by rw [<- Hi];exact zO _ _
     have D:Bx5 G wr.heap.size (.slice pa p.length pc) (.bool fl) (.int .i64 r) (.int .i64 q) (.string v):=by rw [<- Hi];exact⟨by simp,by simp,by simp,by simp,by simp,fun i=>by simp,by simp⟩
     have t0:=(b2.cell (p:=⟨w.heap.size,0,none⟩) (show w.heap.size<wr.heap.size by omega)).trans r0;have t1:=(b2.cell (p:=⟨w.heap.size,1,none⟩) (show w.heap.size<wr.heap.size by omega)).trans r1;have y0:=D.c0;have y1:=D.c1;have y2:=D.c2;have y3:=D.c3;have y4:=D.c4;have Hd:=hid (g.trans (b2.mono g.size));have Ht:=hid (HS.below b2);have HP:=hid (Qfp p pa pc G Hk Ht.out);have HA:=hid (Qmz x n d R F T r q G hm (Ga.below Hd.out));have z2:wr.heap.size<G.heap.size:=D.lt;have z:=hid D;rw [Hi];clear Hi b2 D x0 x1 x2 x3 x4 r0 r1 HS g;have H7:=hid (E.trans (Hd.mono E.size));have Z:Hid (¬(QbW ⟨p,fl,r,q,v⟩/\ Qct R F T r q q n=true/\ (0<k ->QaH (gL l (k - 1)) ⟨p,fl,r,q,v⟩<0)) ->Y=false):=hid (fun no=>by
      rw [<- HY.out];exact Qaj (fun h=>no (by have:=h.2.2.1 k Hj;rw [HE.out] at this;exact this)))
     go_cut [54] from 16 to 81 (fun v5 wx=>∃A:Bool,v5=.bool (!A)/\ Hid (A=true↔QbW ⟨p,fl,r,q,v⟩/\ Qct R F T r q q n=true)/\ Hid (Below G.heap.size G wx));case first=>
      go_wp2_with fail;refine HP.mono ?_;rintro e w3 ⟨rfl,rfl⟩;obtain⟨Y1,Hy⟩:∃Y1,yes (QaS p)=Y1:=⟨_,rfl⟩;have Hu:=hid Hy;rw [Hy];clear Hy HP Z;cases Y1 with
      | false=>
       go_wp2_with fail;go_meet;exact⟨false,rfl,hid ⟨fun h=>(by cases h),fun h=>(by have:=Qal h.1.1;rw [Hu.out] at this;cases this)⟩,hid zI⟩
      | true=>
       by_cases hv:(200:Int)<(v.size:Int)
       ·have d1:decide ((200:Int)<(v.size:Int))=true:=by simpa using hv
        go_wp2_with fail;go_meet;exact⟨false,rfl,hid ⟨fun h=>(by cases h),fun h=>(by have:v.size<=200:=h.1.2.1;omega)⟩,hid zI⟩
       ·have d1:decide ((200:Int)<(v.size:Int))=false:=by simpa using hv
        by_cases Ha:fl=true/\ v.toList.isEmpty=false
        ·obtain⟨rfl,Ha⟩:=Ha;go_wp2_with fail;go_meet;exact⟨false,rfl,hid ⟨fun h=>(by cases h),fun h=>(by have:v.toList.isEmpty=true:=h.1.2.2 rfl;rw [Ha] at this;cases this)⟩,hid zI⟩
        ·have he:fl=true ->v.toList.isEmpty=true:=fun e=>by
          by_cases h:v.toList.isEmpty=true
          ·exact h
          ·exact absurd ⟨e,by simpa using h⟩ Ha
         have Hh:Hid (QbW ⟨p,fl,r,q,v⟩):=hid ⟨Qb9.1 Hu.out,by show v.size<=200;omega,he⟩;clear Ha Hu;cases fl with
         | true=>
          have he:=he rfl;go_wp2_with fail;refine HA.mono ?_;rintro e m ⟨rfl,b4⟩;have O:=hid b4;clear b4;go_wp2_with fail;go_meet;exact⟨_,rfl,hid ⟨fun h=>⟨Hh.out,h⟩,fun h=>h.2⟩,O⟩
         | false=>
          clear he;go_wp2_with fail;refine HA.mono ?_;rintro e m ⟨rfl,b4⟩;have O:=hid b4;clear b4;go_wp2_with fail;go_meet;exact⟨_,rfl,hid ⟨fun h=>⟨Hh.out,h⟩,fun h=>h.2⟩,O⟩
     case rest=>
      obtain⟨A,rfl,J,u⟩:=hcut;obtain⟨m,rfl⟩:∃m,m=wc:=⟨_,rfl⟩;have zt:w.heap.size<m.heap.size:=by have:=u.size;omega
      have V:wr.heap.size<m.heap.size:=by have:=u.size;omega
      have B4:=z.below u.out z2;have t0:=(u.cell (p:=⟨w.heap.size,0,none⟩) (show w.heap.size<G.heap.size by omega)).trans t0;have y0:=B4.c0;have y1:=B4.c1;have y2:=B4.c2;have y3:=B4.c3;have y4:=B4.c4;have O:=hid (Hd.trans (u.mono Hd.size));have H6:=hid (Ht.below u.out);have He:=hid (E.trans (O.mono E.size));clear B4 z Ht H7 u HP HA t1 Hd z2;cases A with
      | false=>
       have Q:=hid (Z (fun h=>by have:=J.2 ⟨h.1,h.2.1⟩;cases this));clear Z N;go_wp2_with fail;go_ret;exact⟨Qa8 Q.symm,He.out⟩
      | true=>
       have Hh:=hid (J.1 rfl).1;have Hq:=hid (J.1 rfl).2;clear J;go_upto_region 9 with fail;go_cut [67] from 16 to 81 (fun v5 wx=>∃A:Bool,v5=.bool (!A)/\ Hid (A=true↔(0<k ->QaH (gL l (k - 1)) ⟨p,fl,r,q,v⟩<0))/\ Hid (Below m.heap.size m wx));case first=>
        by_cases Ge:k=0
        ·have d2:decide ((0:Int)<(k:Int))=false:=by simp;omega
         have d3:decide (0<k)=false:=by simp;omega
         go_quiet (fail);go_wp2_with fail;go_meet;exact⟨true,rfl,hid ⟨fun _ h=>by omega,fun _=>rfl⟩,hid (Qaz zI _)⟩
        ·obtain⟨j,hj⟩:∃j,k=j+1:=⟨k - 1,by omega⟩;obtain⟨Hl,Hm,⟨c0,Hv,Gd⟩,s',c1,H,I,c4⟩:=N j (by omega);have M:=fun(o:Nat)=>O.cell (p:=⟨b,o,none⟩) P;have j0:=(M _).trans c0;have j1:=(M _).trans c1;have j2:=(M _).trans H;have j3:=(M _).trans I;have j4:=(M _).trans c4;have Hs:=hid (s'.below O.out);have H0:=hp j;obtain⟨y',H2⟩:∃y',gL l j=y':=⟨_,rfl⟩;rw [H2] at j0 j1 j2 j3 j4 Hs H0 Hv;have Hf:=hid H2;obtain⟨p',Hc,r',M,v'⟩:=y';dsimp only at j0 j1 j2 j3 j4 Hs H0 Hv;have zb:b<m.heap.size:=by have:=O.size;omega
         have d2:decide ((0:Int)<(k:Int))=true:=by simp;omega
         have d3:decide (0<k)=true:=by simp;omega
         have H1:(k:Int) - 1=(j:Int):=by omega
         have Gf:IntKind.i64.wrap (j:Int)=(j:Int):=by rw [IntKind.wrap_i64];omega
         have Gg:IntKind.i64.wrap ((k:Int) - 1)=(j:Int):=by rw [H1];exact Gf
         have q1:(0:Int)<=(j:Int):=Int.natCast_nonneg _;have q2:(j:Int)<(l.length:Int):=by omega
         have H4:=hid hj;obtain⟨Bf,Hx⟩:∃Bf,yes (QaH ⟨p',Hc,r',M,v'⟩ ⟨p,fl,r,q,v⟩<0)=Bf:=⟨_,rfl⟩;have H8:=hid Hx;have H5:Hid (∀W,Below m.heap.size m W ->Calls Tryz.prog 67 #[.agg #[.slice Hl p'.length Hm,.bool Hc,.int .i64 r',.int .i64 M,.string v'],.agg #[.slice pa p.length pc,.bool fl,.int .i64 r,.int .i64 q,.string v]] W fun e w'=>e=.returned (.bool Bf)/\ Below W.heap.size W w'):=hid (fun W hB=>by rw [<- Hx];exact Qhv Hl pa Hm pc p' p Hc fl r' M r q v' v W H0 Hk Hv cp Gd cq (Hs.below hB) (H6.below hB));clear Hx hj Ge c0 c1 H I c4 s' H2;have Hp:Hid (∀w',Below m.heap.size m w' ->(Below m.heap.size m w'/\ w'.cell? ⟨w.heap.size,0,none⟩=some (.slice (some ⟨b,off,none⟩) l.length c)/\ w'.cell? ⟨wr.heap.size,0,none⟩=some (.slice pa p.length pc)/\ w'.cell? ⟨wr.heap.size,1,none⟩=some (.bool fl)/\ w'.cell? ⟨wr.heap.size,2,none⟩=some (.int .i64 r)/\ w'.cell? ⟨wr.heap.size,3,none⟩=some (.int .i64 q)/\ w'.cell? ⟨wr.heap.size,4,none⟩=some (.string v)/\ w'.cell? ⟨b,off+j*5,none⟩=some (.slice Hl p'.length Hm)/\ w'.cell? ⟨b,off+j*5+1,none⟩=some (.bool Hc)/\ w'.cell? ⟨b,off+j*5+2,none⟩=some (.int .i64 r')/\ w'.cell? ⟨b,off+j*5+3,none⟩=some (.int .i64 M)/\ w'.cell? ⟨b,off+j*5+4,none⟩=some (.string v'))):=hid (fun w' hB=>⟨hB,(hB.cell (p:=⟨w.heap.size,0,none⟩) zt).trans t0,(hB.cell (p:=⟨wr.heap.size,0,none⟩) V).trans y0,(hB.cell (p:=⟨wr.heap.size,1,none⟩) V).trans y1,(hB.cell (p:=⟨wr.heap.size,2,none⟩) V).trans y2,(hB.cell (p:=⟨wr.heap.size,3,none⟩) V).trans y3,(hB.cell (p:=⟨wr.heap.size,4,none⟩) V).trans y4,(hB.cell (p:=⟨b,off+j*5,none⟩) zb).trans j0,(hB.cell (p:=⟨b,off+j*5+1,none⟩) zb).trans j1,(hB.cell (p:=⟨b,off+j*5+2,none⟩) zb).trans j2,(hB.cell (p:=⟨b,off+j*5+3,none⟩) zb).trans j3,(hB.cell (p:=⟨b,off+j*5+4,none⟩) zb).trans j4⟩);refine zR (S:=fun w'=>Below m.heap.size m w'/\ w'.cell? ⟨w.heap.size,0,none⟩=some (.slice (some ⟨b,off,none⟩) l.length c)/\ w'.cell? ⟨wr.heap.size,0,none⟩=some (.slice pa p.length pc)/\ w'.cell? ⟨wr.heap.size,1,none⟩=some (.bool fl)/\ w'.cell? ⟨wr.heap.size,2,none⟩=some (.int .i64 r)/\ w'.cell? ⟨wr.heap.size,3,none⟩=some (.int .i64 q)/\ w'.cell? ⟨wr.heap.size,4,none⟩=some (.string v)/\ w'.cell? ⟨b,off+j*5,none⟩=some (.slice Hl p'.length Hm)/\ w'.cell? ⟨b,off+j*5+1,none⟩=some (.bool Hc)/\ w'.cell? ⟨b,off+j*5+2,none⟩=some (.int .i64 r')/\ w'.cell? ⟨b,off+j*5+3,none⟩=some (.int .i64 M)/\ w'.cell? ⟨b,off+j*5+4,none⟩=some (.string v')) (Hp _ zI.drew) (fun qh=> ?_);refine tZ 0 55 ?_;refine tZ 1 56 ?_;refine tZ 2 57 ?_;refine tZ 3 58 ?_;refine tZ 4 59 ?_;refine tZ 5 60 ?_;refine tZ 6 61 ?_;refine tZ 7 62 ?_;refine tZ 8 63 ?_;refine tZ 9 64 ?_;refine cZ 10 ?_;intro K hK;go_simp;refine(H5 _ qh.1).mono ?_;rintro e U ⟨rfl,b5⟩;have Hw:=qh.1.trans (b5.mono qh.1.size);refine hK.out _ _ (Hp _ Hw) (fun qh=> ?_);clear hK K;try simp only [zP]
         refine tZ 11 66 ?_;refine tZ 12 67 ?_;refine zD ?_;have z:=hid Hw;have J:Hid (Bf=true↔(0<k ->QaH (gL l (k - 1)) ⟨p,fl,r,q,v⟩<0)):=hid (by
          have e:gL l (k - 1)=⟨p',Hc,r',M,v'⟩:=by rw [show k - 1=j by have:=H4.out;omega,Hf.out]
          rw [e,<- H8.out,Qb9];exact⟨fun h _=>h,fun h=>h (by have:=H4.out;omega)⟩)
         clear qh Hw b5 Hp H5 Z N;go_wp2_with fail;go_meet;exact⟨Bf,rfl,J,z⟩
       case rest=>
        obtain⟨A,rfl,J,u⟩:=hcut;obtain⟨U,rfl⟩:∃U,U=wc:=⟨_,rfl⟩;have z:=hid (O.trans (u.mono O.size));have t0:=(u.cell (p:=⟨w.heap.size,0,none⟩) zt).trans t0;have y2:=(u.cell (p:=⟨wr.heap.size,2,none⟩) V).trans y2;have y3:=(u.cell (p:=⟨wr.heap.size,3,none⟩) V).trans y3;have zt:w.heap.size<U.heap.size:=Nat.lt_of_lt_of_le zt u.size;have V:wr.heap.size<U.heap.size:=Nat.lt_of_lt_of_le V u.size;clear u y0 y1 y4 H6 O He;cases A with
        | false=>
         have Q:=hid (Z (fun h=>by have:=J.2 h.2.2;cases this));have HZ:=hid (E.trans (z.mono E.size));clear Z N;go_wp2_with fail;go_ret;exact⟨Qa8 Q.symm,HZ.out⟩
        | true=>
         have Hr:Hid (0<k ->QaH (gL l (k - 1)) ⟨p,fl,r,q,v⟩<0):=hid (J.1 rfl);have Gb:Hid (∀wi,Below U.heap.size U wi ->wi.cell? ⟨wr.heap.size,2,none⟩=some (.int .i64 r)):=hid (fun wi h=>(h.cell (p:=⟨wr.heap.size,2,none⟩) V).trans y2);have Gc:Hid (∀wi,Below U.heap.size U wi ->wi.cell? ⟨wr.heap.size,3,none⟩=some (.int .i64 q)):=hid (fun wi h=>(h.cell (p:=⟨wr.heap.size,3,none⟩) V).trans y3);go_wp2_with fail;go_loopw [5] (fun i wi=>∃j:Nat,j<=k/\ i=.int .i64 j/\ Hid (Below U.heap.size U wi)/\ Hid (∀t,t<j ->Dif (gL l t) (gL l k))) (fun i _=>k - (intOf i).toNat);case atStart=>exact⟨0,Nat.zero_le _,rfl,hid zI,hid (fun t ht=>by omega)⟩
         case round=>
          obtain⟨j,hj,rfl,L,Hb⟩:=hrel;have g0:=(L.cell (p:=⟨w.heap.size,0,none⟩) zt).trans t0;have g2:=Gb _ L.out;have g3:=Gc _ L.out;by_cases Hz:j<k
          ·obtain⟨ja,jc,_,_,_,H,I,_⟩:=N j (by omega);have j2:=(((z.trans (L.mono z.size)).cell (p:=⟨b,off+j*5+2,none⟩) P)).trans H;have j3:=(((z.trans (L.mono z.size)).cell (p:=⟨b,off+j*5+3,none⟩) P)).trans I;obtain⟨yj,H3⟩:∃yj,gL l j=yj:=⟨_,rfl⟩;rw [H3] at j2 j3;have Hf:=hid H3;obtain⟨pj,fj,B,X,vj⟩:=yj;dsimp only at j2 j3;have q1:(0:Int)<=(j:Int):=Int.natCast_nonneg _;have q2:(j:Int)<(l.length:Int):=by omega
           have q3:(j:Int)<(k:Int):=by omega
           have hG:=Qkd;have EQ:∀w:World,(binOp .eql 75 (.agg #[.int .i64 B,.int .i64 X]) (.agg #[.int .i64 r,.int .i64 q])).run Tryz.prog w=.ok (.bool (B==r && X==q)) w:=fun w=>Qlo B X r q w;clear H3 H I t0 y2 y3;by_cases hr:B=r
           ·have e1:(B==r)=true:=by simpa using hr
            by_cases hq:X=q
            ·have e2:(X==q)=true:=by simpa using hq
             have EQ:∀w:World,(binOp .eql 75 (.agg #[.int .i64 B,.int .i64 X]) (.agg #[.int .i64 r,.int .i64 q])).run Tryz.prog w=.ok (.bool true) w:=fun w=>by rw [EQ w,e1,e2];rfl
             have Q:Hid (Y=false):=hid (by rw [<- HY.out];exact Qaj (fun h=>h.2.2.2 k Hj j Hz (by rw [Hf.out,HE.out];exact⟨hr,hq⟩)));have HZ:=hid (E.trans ((z.trans (L.mono z.size)).mono E.size));clear Z Hb N;go_wp2_with fail;go_quiet (fail);go_wp2_with fail;go_ret;exact⟨Qa8 Q.symm,Qaz HZ.out _⟩
            ·have e2:(X==q)=false:=by simpa using hq
             have EQ:∀w:World,(binOp .eql 75 (.agg #[.int .i64 B,.int .i64 X]) (.agg #[.int .i64 r,.int .i64 q])).run Tryz.prog w=.ok (.bool false) w:=fun w=>by rw [EQ w,e1,e2];rfl
             have HD:Hid (∀t,t<j+1 ->Dif (gL l t) (gL l k)):=hid (fun t ht=>by
              by_cases e:t=j
              ·rw [e,Hf.out,HE.out];exact fun h=>hq h.2
              ·exact Hb t (by omega))
             clear Z Hb N;go_wp2_with fail;go_quiet (fail);have Ho:=hid (Qaz L.out nq);go_wp2_with fail;go_roundw;case rel=>exact⟨j+1,Hz,by go_num,Ho,HD⟩
             case measure=>simp [intOf];omega
           ·have e1:(B==r)=false:=by simpa using hr
            have EQ:∀w:World,(binOp .eql 75 (.agg #[.int .i64 B,.int .i64 X]) (.agg #[.int .i64 r,.int .i64 q])).run Tryz.prog w=.ok (.bool false) w:=fun w=>by rw [EQ w,e1];rfl
            have HD:Hid (∀t,t<j+1 ->Dif (gL l t) (gL l k)):=hid (fun t ht=>by
             by_cases e:t=j
             ·rw [e,Hf.out,HE.out];exact fun h=>hr h.1
             ·exact Hb t (by omega))
            clear Z Hb N;go_wp2_with fail;go_quiet (fail);have Ho:=hid (Qaz L.out nq);go_wp2_with fail;go_roundw;case rel=>exact⟨j+1,Hz,by go_num,Ho,HD⟩
            case measure=>simp [intOf];omega
          ·obtain rfl:j=k:=by omega
           have HN:Hid (QbS R F T n l (j+1)/\ Dis l (j+1)):=hid ⟨HI.1.step (by rw [HE.out];exact Hh.out) (by rw [HE.out];exact Hq.out) (fun h=>by rw [HE.out];exact Hr h),HI.2.step Hb.out⟩;have HZ:=hid (z.trans (L.mono z.size));clear Z Hb N t0 y2 y3 g0 g2 g3;go_wp2_with fail;go_roundw;case rel=>exact⟨j+1,Hj,by go_num,HZ,HN⟩
           case measure=>simp [intOf];omega
    ·obtain rfl:k=l.length:=by omega
     have Q:Hid (Y=true):=hid (by rw [<- HY.out];exact Qal ⟨HC.out,by omega,HI.1,HI.2⟩);have HB:=hid (E.trans (g.mono E.size));clear m0 m1;go_wp2_with fail;go_ret;exact⟨Qa8 Q.symm,HB.out⟩
end Go.Proofs.YtjdcfkmhmnblbaaGreatDoor
