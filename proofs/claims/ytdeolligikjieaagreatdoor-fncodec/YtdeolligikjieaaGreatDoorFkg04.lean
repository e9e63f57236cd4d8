import Derived.Test.YtdeolligikjieaaGreatDoorFkg01
import Derived.Maps.Range
import Derived.Test.YtdeolligikjieaaGreatDoorShelf
import Derived.Lib.SlKeysI
set_option linter.unusedVariables false
set_option linter.unusedSimpArgs false
set_option maxRecDepth 100000
set_option maxHeartbeats 40000000
namespace Go.Proofs.YtdeolligikjieaaGreatDoor
open Go.ChangeShapes Go.WideShapes Go.ChangeAt Go.RowKit Go.Maps
def Qbj (R T:Nat ->Int)(rep:Int):Nat ->Int
 | 0=>0
 | k+1=>if R k=rep/\ Qbj R T rep k<T k then T k else Qbj R T rep k
def Qcc (l:List (Int×Int)):Int:=match l.getLast? with|none=>0|some p=>p.2
theorem QbF (l:List (Int×Int))(p:Int×Int):Qcc (l++[p])=p.2:=by simp [Qcc]
theorem QhT:Qcc []=0:=rfl
theorem Qio {R F T:Nat ->Int}:∀k:Nat,Qeg R F T k ->(∀r,Lk R F T k r≠[] ->0<k/\ r<=R (k - 1))/\ (0<k ->Qcc (Lk R F T k (R (k - 1)))=T (k - 1))/\ (∀r,Qbj R T r k=Qcc (Lk R F T k r))/\ (∀r,0<=Qcc (Lk R F T k r)/\ Qcc (Lk R F T k r)<=1000000000)
 | 0,_=>⟨fun r h=>absurd rfl h,fun h=>absurd h (by omega),fun r=>rfl,fun r=>by simp [Lk,Qcc]⟩
 | k+1,h=>by
  have g:Qeg R F T k:=fun i hi=>h i (by omega);obtain⟨y,b,z,p⟩:=Qio k g;have A:=Qbg.1 (h k (by omega)).1;have u:0<k ->(R (k - 1)<R k \/(R (k - 1)=R k/\ T (k - 1)+1<F k)):=fun j=>by
   have:=(h k (by omega)).2 j;unfold QaC at this;exact of_decide_eq_true this
  have q:∀r,Lk R F T (k+1) r=upd (Lk R F T k) (R k) (Lk R F T k (R k)++[(F k,T k)]) r:=fun r=>rfl;have o:Qcc (Lk R F T k (R k))<T k:=by
   by_cases v:Lk R F T k (R k)=[]
   ·rw [v,QhT];omega
   ·obtain⟨j,t⟩:=y (R k) v;rcases u j with m|⟨m,s⟩
    ·omega
    ·rw [<- m,b j];omega
  refine⟨fun r hr=> ?_,fun _=> ?_,fun r=> ?_,fun r=> ?_⟩
  ·refine⟨by omega,?_⟩;rw [Nat.add_sub_cancel];rw [q] at hr;by_cases e:r=R k
   ·omega
   ·rw [Qao _ _ e] at hr;obtain⟨j,t⟩:=y r hr;rcases u j with m|⟨m,_⟩<;>omega
  ·rw [Nat.add_sub_cancel,q,Qay,QbF]
  ·rw [q];by_cases e:r=R k
   ·subst e;rw [Qay,QbF];show (if R k=R k/\ Qbj R T (R k) k<T k then T k else Qbj R T (R k) k)=T k;rw [if_pos ⟨rfl,by rw [z];exact o⟩]
   ·rw [Qao _ _ e,<- z r];show (if R k=r/\ Qbj R T r k<T k then T k else Qbj R T r k)=Qbj R T r k;rw [if_neg (fun m=>e m.1.symm)]
  ·rw [q];by_cases e:r=R k
   ·subst e;rw [Qay,QbF];show 0<=T k/\ T k<=1000000000;omega
   ·rw [Qao _ _ e];exact p r
def Srt (l:List (Int×Int)):Prop:=l.Pairwise (fun p q=>p.2+1<q.1)/\∀p∈l,1<=p.1/\ p.1<=p.2/\ p.2<=1000000000
theorem Qdd {R F T:Nat ->Int}:∀k:Nat,Qeg R F T k ->∀r,Srt (Lk R F T k r)/\∀p∈Lk R F T k r,p.2<=Qcc (Lk R F T k r)
 | 0,_=>fun r=>⟨⟨List.Pairwise.nil,fun p j=>by cases j⟩,fun p j=>by cases j⟩
 | k+1,h=>by
  have v:Qeg R F T k:=fun i hi=>h i (by omega);have z:=Qdd k v;obtain⟨t,o,Q,U⟩:=Qio k v;have O:=Qbg.1 (h k (by omega)).1;have g:0<k ->(R (k - 1)<R k \/(R (k - 1)=R k/\ T (k - 1)+1<F k)):=fun m=>by
   have:=(h k (by omega)).2 m;unfold QaC at this;exact of_decide_eq_true this
  intro r;show Srt (upd (Lk R F T k) (R k) (Lk R F T k (R k)++[(F k,T k)]) r)/\∀p∈upd (Lk R F T k) (R k) (Lk R F T k (R k)++[(F k,T k)]) r,p.2<=Qcc (upd (Lk R F T k) (R k) (Lk R F T k (R k)++[(F k,T k)]) r);by_cases e:r=R k
  ·subst e;rw [Qay];obtain⟨⟨b,s⟩,A⟩:=z (R k);have y:∀p∈Lk R F T k (R k),p.2+1<F k:=by
    intro p j;obtain⟨m,M⟩:=t (R k) (List.ne_nil_of_mem j);have:=A p j;rcases g m with u|⟨u,E⟩
    ·omega
    ·rw [<- u,o m] at this;omega
   refine⟨⟨List.pairwise_append.2 ⟨b,List.pairwise_singleton _ _,fun p j q hq=> ?_⟩,fun p j=> ?_⟩,fun p j=> ?_⟩
   ·rw [List.mem_singleton] at hq;subst hq;exact y p j
   ·rcases List.mem_append.1 j with j|j
    ·exact s p j
    ·rw [List.mem_singleton] at j;subst j;exact⟨by omega,by omega,by omega⟩
   ·rw [QbF];rcases List.mem_append.1 j with j|j
    ·have:=y p j;show p.2<=T k;omega
    ·rw [List.mem_singleton] at j;subst j;exact Int.le_refl _
  ·rw [Qao _ _ e];exact z r
def SS (w:World)(a:Option Addr)(n:Nat)(f t:Nat ->Int):Prop:=
 n=0 \/∃b off,a=some ⟨b,off,none⟩/\ b<w.heap.size/\∀i,i<n ->w.cell? ⟨b,off+i*2,none⟩=some (.int .i64 (f i))/\ w.cell? ⟨b,off+i*2+1,none⟩=some (.int .i64 (t i))
theorem QhC {w:World}{B n cap g:Nat}{l:List (Int×Int)}(h:w.ownsRow B 148 2 (.slice (some ⟨g,0,none⟩) n cap) n (Qaw l))(hl:l.length=n):
  SS w (some ⟨g,0,none⟩) n (fun i=>(l.getD i (0,0)).1) (fun i=>(l.getD i (0,0)).2):=by
 refine .inr ⟨g,0,rfl,(h.lt g rfl).2,fun i j=> ?_⟩;have k:∀(l:List (Int×Int)) (i:Nat),i<l.length ->(Qaw l)[i*2]? =some (.int .i64 (l.getD i (0,0)).1)/\ (Qaw l)[i*2+1]? =some (.int .i64 (l.getD i (0,0)).2):=by
  intro l;induction l with
  | nil=>intro i j;simp at j
  | cons a l ih=>
   intro i j;cases i with
   | zero=>simp [Qaw]
   | succ i=>
    have:=ih i (by simpa using j);have e:Qaw (a::l)=.int .i64 a.1::.int .i64 a.2::Qaw l:=by simp [Qaw]
    rw [e,show (i+1)*2=i*2+1+1 from by omega];simpa using this
 rw [Nat.zero_add,h.cellAt _ (by omega),h.cellAt _ (by omega)];exact k l i (by omega)
theorem Qfm {l:List (Int×Int)}(h:Srt l){i j:Nat}(hij:i<j)(hj:j<l.length):(l.getD i (0,0)).2+1<(l.getD j (0,0)).1/\ (l.getD i (0,0)).1<=(l.getD i (0,0)).2/\ (l.getD j (0,0)).1<=(l.getD j (0,0)).2:=by
 have k:l.getD i (0,0)=l[i]:=by simp [List.getD,show i<l.length by omega]
 have m:l.getD j (0,0)=l[j]:=by simp [List.getD,hj]
 rw [k,m];exact⟨List.pairwise_iff_getElem.1 h.1 i j (by omega) hj hij,(h.2 _ (List.getElem_mem _)).2.1,(h.2 _ (List.getElem_mem _)).2.1⟩
theorem Qk0 (a:Option Addr)(n c:Nat)(R F T:Nat ->Int)(w:World)(hn:n<=1048576)(h:Qb3 w a n R F T)(hok:QcL R F T n=false):
  Calls Tryz.prog 64 #[.agg #[.slice a n c]] w fun e w'=>e=.returned (.tuple #[.map none,.bool false])/\ Below w.heap.size w w':=by
 have j:Below w.heap.size w (w.alloc (.cells #[.slice a n c] 26)):=zO _ _;go_enter Tryz.func64,Tryz.ntmps64;go_wp2_with fail;refine(Qll a n c R F T _ hn (h.below j)).mono ?_;rintro e w1 ⟨rfl,k⟩;rw [hok];have m:=hid (Qab j k);clear k j hok h;go_wp2_with fail;go_ret2;exact⟨rfl,m.out⟩
theorem QaS (B m0:Nat)(bv:Value)(zs0:List Int)(w:World)(hm:m0<18446744073709551616)(hB:B<=w.heap.size)(hl:zs0.length<=1000000000000)(ho:Own w B bv zs0):
  Calls Tryz.prog 35 #[bv,.int .u64 (m0:Int)] w fun e w'=>∃v,e=.returned v/\ Own w' B v (zs0++uvF 9 m0)/\ Gr w w' bv v/\ w.heap.size<w'.heap.size:=by
 obtain⟨G,O,V,Y,Z⟩:=info_parts Tryz.infoByte;go_enter Tryz.func35,Tryz.ntmps35;go_wp2_with fail;go_loopw [0,1] (fun b v wr=>∃(k m:Nat) (r:List Int),k<=9/\ m<128^(k+1)/\ m<18446744073709551616/\ v=.int .u64 (m:Int)/\ Own wr B b r/\ Gr w wr bv b/\ w.heap.size<=wr.heap.size/\ r.length+k<=zs0.length+9/\ r++uvF k m=zs0++uvF 9 m0) (fun _ v _=>(intOf v).toNat);case atStart=>exact⟨9,m0,zs0,Nat.le_refl _,by omega,hm,rfl,ho,Gr.refl _ _,Nat.le_refl _,Nat.le_refl _,rfl⟩
 case round=>
  obtain⟨k,m,r,N,U,L,rfl,z,E,D,C,M⟩:=hrel;have i:Hid (r++uvF k m=zs0++uvF 9 m0):=M;have p:Hid (m<128^(k+1)):=U;have o:=hid E;clear M ho U E;unfold Own at z;by_cases Q:m<128
  ·go_wp2_with (at_builtin;refine Qav rfl _ _ 22 rfl B 5 G (.int .u8 0) 1 1 Tryz.underlying22 O V Y Z rfl (by decide) _ _ _ rfl (z.alloc _) ⟨wr.heap.size,0,none⟩ 1 1 [.int .u8 (m:Int)] rfl rfl ?c1 ?c2 ?c3 ?c4 ?c5 ?_);case c1=>exact cell_one_new _ _ _
   case c2=>intro u t;simp at t;subst t;rfl
   case c3=>unfold maxLen;omega
   case c4=>omega
   case c5=>simp;omega
   ·intro v' w1 g q y;have R:Own w1 B v' (zs0++uvF 9 m0):=by
     rw [<- i.out,QcI k m Q];unfold Own;rw [List.length_append,List.map_append];exact g
    have s:=hid ((o.alloc _).trans (Gr.app (b':=v') q (by simpa using y)));have A:=q.size;simp at A;clear g q z y o;go_wp2;go_ret;exact⟨v',rfl,R,s.out,by omega⟩
  ·have J:=QkZ m L;have K:bits BinOp.or IntKind.u8 ((m:Int)%128) 128=128+(m:Int)%128:=by
    have:=QnG (m%128) (by omega);simpa using this
   go_wp2_with (at_builtin;refine Qav rfl _ _ 22 rfl B 5 G (.int .u8 0) 1 1 Tryz.underlying22 O V Y Z rfl (by decide) _ _ _ rfl (z.alloc _) ⟨wr.heap.size,0,none⟩ 1 1 [.int .u8 (128+(m:Int)%128)] rfl rfl ?d1 ?d2 ?d3 ?d4 ?d5 ?_);case d1=>exact cell_one_new _ _ _
   case d2=>intro u t;simp at t;subst t;rfl
   case d3=>unfold maxLen;omega
   case d4=>omega
   case d5=>simp;omega
   ·intro v' w1 g q y;have X:1<=k:=by
     have:=p.out;rcases Nat.eq_zero_or_pos k with rfl|h
     ·simp at this;omega
     ·exact h
    obtain⟨j,rfl⟩:∃j,k=j+1:=⟨k - 1,by omega⟩;have R:Own w1 B v' (r++[128+(m:Int)%128]):=by
     unfold Own;rw [List.length_append,List.map_append];exact g
    have H:Hid (r++[128+(m:Int)%128]++uvF j (m/128)=zs0++uvF 9 m0):=by
     have:=i.out;rw [Qee j m Q] at this;show _=_;rw [<- this];simp
    have I:Hid (m/128<128^(j+1)):=by
     have:=p.out;rw [Nat.pow_succ] at this;show _<_;omega
    have s:=hid ((o.alloc _).trans (Gr.app (b':=v') q (by simpa using y)));have A:=q.size;simp at A;clear g q z i p K J y o;go_wp2;go_roundw;case rel=>exact⟨j,m/128,_,by omega,I.out,by omega,by go_num,R,s.out,by omega,by simp;omega,H.out⟩
    case measure=>simp [intOf];omega
def sF (l:List (Int×Int))(i:Nat):Int:=(l.getD i (0,0)).1
def sT (l:List (Int×Int))(i:Nat):Int:=(l.getD i (0,0)).2
def loK (l:List (Int×Int)):Nat ->Int
 | 0=>1
 | k+1=>sT l k+2
def spK (l:List (Int×Int)):Nat ->List Int
 | 0=>[]
 | k+1=>spK l k++(uvF 9 (sF l k - loK l k).toNat++uvF 9 (sT l k - sF l k).toNat)
def QjM (l:List (Int×Int)):List Int:=uvF 9 l.length++spK l l.length
theorem QdZ (l:List (Int×Int)):∀k,(spK l k).length<=20*k
 | 0=>by simp [spK]
 | k+1=>by
  have:=QdZ l k;have j:=(Qai 9 (sF l k - loK l k).toNat).1;have m:=(Qai 9 (sT l k - sF l k).toNat).1;simp only [spK,List.length_append];omega
theorem Qkf (l:List (Int×Int)):(QjM l).length<=10+20*l.length:=by
 have j:=(Qai 9 l.length).1;have:=QdZ l l.length;simp only [QjM,List.length_append];omega
theorem Ql7 {l:List (Int×Int)}(h:Srt l){k:Nat}(hk:k<l.length):1<=loK l k/\ loK l k<=sF l k/\ sF l k<=sT l k/\ sT l k<=1000000000:=by
 have e:l.getD k (0,0)=l[k]:=by simp [List.getD,hk]
 have j:=h.2 _ (List.getElem_mem hk);rw [<- e] at j;have m:loK l k<=sF l k/\ 1<=loK l k:=by
  cases k with
  | zero=>exact⟨j.1,Int.le_refl _⟩
  | succ k=>
   have u:=Qfm h (show k<k+1 by omega) hk;have q:l.getD k (0,0)=l[k]:=by simp [List.getD,show k<l.length by omega]
   have r:=h.2 _ (List.getElem_mem (show k<l.length by omega));rw [<- q] at r;show (l.getD k (0,0)).2+2<=(l.getD (k+1) (0,0)).1/\ 1<=(l.getD k (0,0)).2+2;exact⟨by omega,by omega⟩
 exact⟨m.2,m.1,j.2.1,j.2.2⟩
theorem Qfs (x:Int)(h0:0<=x)(h1:x<=1000000000):IntKind.u64.wrap x=x:=by
 unfold IntKind.wrap;simp [IntKind.bits,IntKind.signed];omega
theorem Qgd (B:Nat)(bv:Value)(zs0:List Int)(a:Option Addr)(c:Nat)(l:List (Int×Int))(w:World)(hB:B<=w.heap.size)(hl:zs0.length<=100000000)(ho:Own w B bv zs0)
  (hs:SS w a l.length (sF l) (sT l)) (hne:∀x,a=some x ->some x.block≠bv.ownBlock) (hok:Srt l) (hn:l.length<=1000):
  Calls Tryz.prog 40 #[bv,.slice a l.length c] w fun e w'=>∃v,e=.returned v/\ Own w' B v (zs0++QjM l)/\ Gr w w' bv v:=by
 obtain⟨n,U⟩:∃n,l.length=n:=⟨_,rfl⟩;have H:Hid (QjM l=uvF 9 n++spK l n):=by unfold QjM;rw [U];exact rfl
 rw [U] at hs hn ⊢;have Hb:Hid (∀k,k<n ->1<=loK l k/\ loK l k<=sF l k/\ sF l k<=sT l k/\ sT l k<=1000000000):=fun k hk=>Ql7 hok (by omega);have HU:=Qai 9 n;have HS:=QdZ l;clear hok U;go_enter Tryz.func40,Tryz.ntmps40;go_wp2_with fail;refine(QaS B n bv zs0 w (by omega) hB (by omega) ho).mono ?_;rintro e w1 ⟨v1,rfl,V,O,Hj⟩;have Z:=hid O;rcases hs with h0|⟨b,off,rfl,hb,L⟩
 ·subst h0;clear O;go_wp2_with fail;refine wp_loop_rounds 1 ?_;rw [rounds_succ];go_wp2_with fail;go_ret;exact⟨v1,rfl,by rw [H.out];simpa [spK] using V,Z.out⟩
 have C:=hne _ rfl;have N:Hid (∀i,i<n ->w.cell? ⟨b,off+i*2,none⟩=some (.int .i64 (sF l i))/\ w.cell? ⟨b,off+i*2+1,none⟩=some (.int .i64 (sT l i))):=L;have Hd:=hid V;clear O L V hne ho;go_wp2_with fail;go_loopw [0,5,15] (fun b' lo i wr=>∃(k:Nat) (z:List Int),k<=n/\ i=.int .i64 k/\ lo=.int .i64 (loK l k)/\ Own wr B b' z/\ Hid (z=zs0++uvF 9 n++spK l k)/\ Hid (Gr w wr bv b')/\ w.heap.size<=wr.heap.size/\ z.length<=100000000+10+20*k) (fun _ _ i _=>n - (intOf i).toNat);case atStart=>exact⟨0,_,Nat.zero_le _,rfl,rfl,Hd.out,hid (by simp [spK]),Z,by omega,by simp;omega⟩
 case round=>
  obtain⟨k,z,hk,rfl,rfl,o,P,s,Hi,Hh⟩:=hrel;by_cases A:k<n
  ·have Hg:wr.cell? ⟨b,off+k*2,none⟩=some (.int .i64 (sF l k)):=s.g.cell (N k A).1 C;have Ha:wr.cell? ⟨b,off+k*2+1,none⟩=some (.int .i64 (sT l k)):=s.g.cell (N k A).2 C;obtain⟨q1,q2,q3,q4⟩:=Hb k A;obtain⟨q,r⟩:∃q,wr.alloc (.cells #[.int .i64 (sF l k),.int .i64 (sT l k)] 148)=q:=⟨_,rfl⟩;have zW:q.heap.size=wr.heap.size+1:=by rw [<- r];simp
   have R:q.cell? ⟨wr.heap.size,0,none⟩=some (.int .i64 (sF l k)):=by rw [<- r];simp
   have r1:q.cell? ⟨wr.heap.size,1,none⟩=some (.int .i64 (sT l k)):=by rw [<- r];simp
   have K:Own q B u0 z:=by rw [<- r];exact World.ownsRow.alloc o _
   have Y:Hid (Gr w q bv u0):=by rw [<- r];exact s.alloc _
   have Q:some wr.heap.size≠u0.ownBlock:=fun e=>by have:=(World.ownsRow.lt o _ e.symm).2;omega
   obtain⟨u,E⟩:∃m:Nat,sF l k - loK l k=(m:Int):=⟨(sF l k - loK l k).toNat,by omega⟩;obtain⟨y,M⟩:∃m:Nat,sT l k - sF l k=(m:Int):=⟨(sT l k - sF l k).toNat,by omega⟩;have x1:IntKind.i64.wrap (sF l k - loK l k)=(u:Int):=by rw [E];exact Qau _ (by omega) (by omega)
   have x2:IntKind.i64.wrap (sT l k - sF l k)=(y:Int):=by rw [M];exact Qau _ (by omega) (by omega)
   have x3:IntKind.u64.wrap (u:Int)=(u:Int):=Qfs _ (by omega) (by omega);have x4:IntKind.u64.wrap (y:Int)=(y:Int):=Qfs _ (by omega) (by omega);have Hf:Hid (spK l (k+1)=spK l k++(uvF 9 u++uvF 9 y)):=by show spK l k++_=_;rw [E,M];rfl
   have y1:u<=1000000000:=by omega
   have y2:y<=1000000000:=by omega
   clear E M;have x5:IntKind.i64.wrap (sT l k+2)=sT l k+2:=Qau _ (by omega) (by omega);have J:=hid K;clear K o;go_wp2_with fail;try rw [r]
   refine(QaS B u u0 z q (by omega) (by omega) (by omega) J.out).mono ?_;rintro e w2 ⟨W,rfl,D,t,Hk⟩;have S:=t.g.cell R Q;have T:=t.g.cell r1 Q;have l2:=(Qai 9 u).1;have l3:=(Qai 9 y).1;have X:some wr.heap.size≠W.ownBlock:=fun e=>by
    rcases t.l with h|⟨j,h,hj⟩
    ·exact Q (e.trans h)
    ·rw [h] at e;injection e with e;omega
   have G:=hid (Y.trans t);have I:=hid D;clear r Hg Ha R r1 t D Y J;go_wp2_with fail;refine(QaS B y W _ w2 (by omega) (by omega) (by simp;omega) I.out).mono ?_;rintro e w3 ⟨v3,rfl,F,p,Hl⟩;have t0:=p.g.cell S X;have t1:=p.g.cell T X;have Hc:=hid (G.trans p);have He:=hid F;clear S T p F G I;go_wp2_with fail;go_roundw;case rel=>exact⟨k+1,_,A,by go_num,rfl,He.out,hid (by rw [Hf.out,P.out];simp),Hc,by omega,by simp;omega⟩
   case measure=>simp [intOf];omega
  ·obtain rfl:k=n:=by omega
   have HO:=hid o;clear o;go_wp2_with fail;go_ret;refine⟨u0,rfl,?_,s.out⟩;rw [H.out,<- List.append_assoc,<- P.out];exact HO.out
open Go.Sort Go.Shelf
theorem QnR (m:Nat):AnyZI.SortsIn Tryz.prog Tryz.sortedA_ren Fence.wide m:=
 ⟨fun blk off cap ss W hH hblk hsz=>callsIn_wide.2 (AnyM.slices_Sort_int Tryz.sortA blk off cap ss W hH hblk hsz),
  fun p cap W=>callsIn_wide.2 (AnyM.slices_Sort_int_none Tryz.sortA p cap W)⟩
theorem Qn5 (mb:Option Nat)(W:World):Calls Tryz.prog 39 #[.map mb] W fun e w'=>e=.returned (.func (.func 73) #[] #[.pointer (some ⟨W.heap.size,0,none⟩)])/\ w'=W.alloc (.cells #[.map mb] 47):=
 (callsIn_wide (n:=5)).1 (AnyZI.keys_in Tryz.keysA Fence.wide 5 trivial rfl mb W)
theorem Qj1 {H:Type}(b nn:Nat)(D0:DataW H)(R:Value ->Option (DataW H×List MemPlace))(w:World)(hown:w.ownsMap Tryz.prog 3 R b nn D0)(hmax:Maps.size D0<=maxLen)(hbytes:Maps.size D0*8<=140737488355328):
  Calls Tryz.prog 38 #[.func (.func 73) #[] #[.pointer (some ⟨w.heap.size,0,none⟩)]] (w.alloc (.cells #[.map (some b)] 47)) fun e w'=>∃(v:Value) (j:List Int),e=.returned v/\ j.Perm (intKeys D0)/\
   w'.ownsRow (w.heap.size+1) 3 1 v j.length ((j.mergeSort (fun x y=>decide (x<=y))).map encZ)/\ Below w.heap.size w w':=by
 have t:=hown.lt;have i:SeqGives Fence.wide 2 Tryz.prog 73 #[.pointer (some ⟨w.heap.size,0,none⟩)] encZ (fun j=>j.Perm (intKeys D0)) (Maps.size D0) (w.alloc (.cells #[.map (some b)] 47)):=
  AnyZI.keys_gives (ρ:=Tryz.keysA_ren) {Tryz.keysA with} Fence.wide _ trivial rfl (by omega) w.heap.size b nn D0 _ (by simp) (by simp) (by
   obtain⟨z,u,k,r,o,h⟩:=hown;exact⟨z,u,(Below.heap_alloc _ _ b t).trans k,r,o,h⟩)
 have m:=AnyZI.sorted_in Tryz.sortedA Fence.wide 5 trivial trivial trivial trivial rfl (by omega) (QnR _) (enters_of Tryz.func72 (by kernel_rfl) rfl) 73 #[.pointer (some ⟨w.heap.size,0,none⟩)] trivial (enters_of Tryz.func73 (by kernel_rfl) rfl) _ _ hmax hbytes _ i;change CallsIn _ _ Tryz.prog 38 _ _ _ at m;refine((callsIn_wide (n:=5)).1 m).mono ?_;rintro e w' ⟨v,j,rfl,g,q,p,k⟩;refine⟨v,j,rfl,g,?_,((Below.refl _ w).alloc zL _).trans (k.mono (by simp))⟩;have e:(w.alloc (.cells #[.map (some b)] 47)).heap.size=w.heap.size+1:=by simp
 rw [e] at q;exact q
def KS (L:Int ->List (Int×Int)):Nat ->List Int
 | 0=>[]
 | k+1=>KS L k++(if (L (k:Int)).isEmpty then [] else [(k:Int)])
theorem Qdb (L:Int ->List (Int×Int))(k:Nat):∀x,x∈KS L k↔(0<=x/\ x<k/\ (L x).isEmpty=false):=by
 induction k with
 | zero=>intro x;simp [KS];omega
 | succ k ih=>
  intro x;simp only [KS,List.mem_append,ih];by_cases e:(L (k:Int)).isEmpty=true
  ·rw [if_pos e];constructor
   ·rintro(⟨a,b,c⟩|h)
    ·exact⟨a,by omega,c⟩
    ·simp at h
   ·rintro⟨a,b,c⟩;refine .inl ⟨a,?_,c⟩;rcases Int.lt_or_le x k with h|h
    ·exact h
    ·have:x=(k:Int):=by omega
     rw [this,e] at c;cases c
  ·rw [if_neg e];simp only [Bool.not_eq_true] at e;constructor
   ·rintro(⟨a,b,c⟩|h)
    ·exact⟨a,by omega,c⟩
    ·rw [List.mem_singleton] at h;subst h;exact⟨by omega,by omega,e⟩
   ·rintro⟨a,b,c⟩;rcases Int.lt_or_le x k with h|h
    ·exact .inl ⟨a,h,c⟩
    ·exact .inr (List.mem_singleton.2 (by omega))
theorem Qin (L:Int ->List (Int×Int))(k:Nat):(KS L k).Pairwise (fun x y=>x<y):=by
 induction k with
 | zero=>exact List.Pairwise.nil
 | succ k ih=>
  simp only [KS];refine List.pairwise_append.2 ⟨ih,?_,fun x hx y hy=> ?_⟩
  ·split
   ·exact List.Pairwise.nil
   ·exact List.pairwise_singleton _ _
  ·have:=(Qdb L k x).1 hx;split at hy
   ·cases hy
   ·rw [List.mem_singleton] at hy;omega
theorem Qfz (L:Int ->List (Int×Int))(k:Nat):(KS L k).length<=k:=by
 induction k with
 | zero=>simp [KS]
 | succ k ih=>simp only [KS,List.length_append];split<;>simp<;>omega
theorem QiY {w:World}{bm n:Nat}{D:DataW Value}{G:Int ->Value}{L:Int ->List (Int×Int)}(h:QaY w bm n D G L)(hL:∀r,L r≠[] ->0<=r/\ r<8):(KS L 8).Perm (intKeys D)/\ Maps.size D=(KS L 8).length:=by
 obtain⟨y,k,t,_⟩:=h.own.entries (int_keyed Tryz.underlying3);obtain⟨z,m,g⟩:=h.own.keysOf;obtain rfl:y=z:=by rw [k] at m;simpa using m
 have u:(KS L 8).Perm (intKeys D):=by
  have q:=h.has';rw [k] at q ⊢;refine perm_intKeys t (fun p hp=>by obtain⟨v,o⟩:=g p hp;obtain⟨x,_,i,_⟩:=Maps.keyOf_i64 Tryz.underlying3 o;exact⟨x,i⟩) ((Qin L 8).imp (fun h=>by omega)) (fun x=> ?_);have:=q x;unfold kI at this;rw [this,Qdb];constructor
  ·rintro⟨_,_,c⟩;rw [c];rfl
  ·intro c;have j:(L x).isEmpty=false:=by simpa using c
   have:=hL x (by intro e;rw [e] at j;cases j);exact⟨this.1,this.2,j⟩
 refine⟨u,?_⟩;rw [u.length_eq,k];simp [Maps.size_eq,intKeys]
theorem Qf0 {L:Int ->List (Int×Int)}{ss ks:List Int}(h1:(KS L 8).Perm ks)(h2:ss.Perm ks):ss.mergeSort (fun x y=>decide (x<=y))=KS L 8:=by
 rw [mergeSort_of_perm_i (h2.trans h1.symm)];refine List.mergeSort_of_pairwise ((Qin L 8).imp (fun h=> ?_));simp;omega
theorem Qip {R F T:Nat ->Int}:∀k:Nat,Qeg R F T k ->∀r,Lk R F T k r≠[] ->0<=r/\ r<8
 | 0,_=>fun r h=>absurd rfl h
 | k+1,h=>fun r hr=>by
  have j:=Qbg.1 (h k (by omega)).1;by_cases e:r=R k
  ·subst e;exact⟨j.1,j.2.1⟩
  ·have m:Lk R F T (k+1) r=Lk R F T k r:=Qao _ _ e;rw [m] at hr;exact Qip k (fun i hi=>h i (by omega)) r hr
def QmF (L:Int ->List (Int×Int))(r:Int):List Int:=uvF 9 r.toNat++QjM (L r)
def Qfw (L:Int ->List (Int×Int))(ks:List Int):Nat ->List Int
 | 0=>[]
 | k+1=>Qfw L ks k++QmF L (ks.getD k 0)
def QdR (L:Int ->List (Int×Int)):List Int:=uvF 9 (KS L 8).length++Qfw L (KS L 8) (KS L 8).length
theorem Qhx {L:Int ->List (Int×Int)}(hL:∀r,(L r).length<=1000)(ks:List Int):∀k,(Qfw L ks k).length<=30000*k
 | 0=>by simp [Qfw]
 | k+1=>by
  have:=Qhx hL ks k;have j:=(Qai 9 (ks.getD k 0).toNat).1;have m:=Qkf (L (ks.getD k 0));have q:=hL (ks.getD k 0);simp only [Qfw,QmF,List.length_append];omega
theorem QaY.gr {w w1:World}{bm n:Nat}{D:DataW Value}{G:Int ->Value}{L:Int ->List (Int×Int)}(h:QaY w bm n D G L){row:Option Nat}(hg:w.grownBy w1 row)(hr:some bm≠row)(hro:∀r g,(G r).ownBlock=some g ->some g≠row):QaY w1 bm n D G L:=
 ⟨h.own.kept hg hr,h.at',h.has',fun r=>(h.rows r).kept hg (by
  cases e:(G r).ownBlock with
  | none=>exact .inl rfl
  | some g=>exact .inr (hro r g e)),h.apart⟩
theorem Qh6 {w:World}{B g m cap:Nat}{zs:List Int}(h:w.ownsRow B 3 1 (.slice (some ⟨g,0,none⟩) m cap) m (zs.map encZ))(hl:zs.length=m):∀i,i<m ->w.cell? ⟨g,i,none⟩=some (.int .i64 (zs.getD i 0)):=by
 intro i j;rw [h.cellAt i (by omega)];simp [List.getD,show i<zs.length by omega]
theorem Qiu {w:World}{bm n:Nat}{D:DataW Value}{G:Int ->Value}{L:Int ->List (Int×Int)}(hgrp:QaY w bm n D G L)(HLen:Hid (∀r,(L r).length<=1000))(HSrt:Hid (∀r,Srt (L r)))(HRep:Hid (∀r,L r≠[] ->0<=r/\ r<8)):
  Calls Tryz.prog 15 #[.map (some bm),.slice none 0 0] w fun e w'=>∃v,e=.returned v/\ Own w' w.heap.size v (QdR L)/\ Below w.heap.size w w':=by
 obtain⟨T,Z⟩:=QiY hgrp HRep.out;obtain⟨q,o⟩:∃q,KS L 8=q:=⟨_,rfl⟩;have Ho:Hid (QdR L=uvF 9 q.length++Qfw L q q.length):=by unfold QdR;rw [o];exact rfl
 have Gn:q.length<=8:=by rw [<- o];exact Qfz L 8
 have Hk:Hid (∀x∈q,0<=x/\ x<8/\ L x≠[]):=fun x hx=>by
  rw [<- o] at hx;have:=(Qdb L 8 x).1 hx;exact⟨this.1,by omega,fun e=>by rw [e] at this;simp at this⟩
 have Hp:Hid (∀b:List Int,b.Perm (intKeys D) ->b.mergeSort (fun x y=>decide (x<=y))=q/\ b.length=q.length):=fun b hs=>by rw [<- o];exact⟨Qf0 T hs,by rw [hs.length_eq,<- T.length_eq]⟩
 rw [o] at Z;clear o T;have Hd:=hgrp.own.len Tryz.underlying47;rw [Z] at Hd;have O:=hid hgrp;have HU:=Qai 9 q.length;clear hgrp;have x0:IntKind.u64.wrap ((q.length:Nat):Int)=(q.length:Int):=Qfs _ (by omega) (by omega);go_enter Tryz.func15,Tryz.ntmps15;go_wp2_with fail;refine(QjS w.heap.size q.length _ [] w (by omega) zL (by simp) (World.ownsRow_nil _ _ _ _)).mono ?_;rintro e H ⟨M,rfl,Hu,X,Gq⟩;have Q:=hid Hu;have W:=hid X;have H7:=O.own.lt;have I:=hid (O.below X);clear Hu X Hd;go_wp2_with fail;refine(Qn5 (some bm) H).mono ?_;rintro e w3 ⟨rfl,rfl⟩;go_wp2_with fail;refine(Qj1 bm n D QhY H I.own (by rw [Z];unfold maxLen;omega) (by rw [Z];omega)).mono ?_;rintro e z ⟨v4,b,rfl,Ha,u,A⟩;obtain⟨Hq,N⟩:=Hp b Ha;rw [Hq,N] at u;have Ga:=N;clear Ha Hq N Hp;have Hv:Own z w.heap.size M (uvF 9 q.length):=Q.kept A (fun k t=>(World.ownsRow.lt Q.out k t).2);have Hz:∀k,M.ownBlock=some k ->w.heap.size<=k/\ k<H.heap.size:=fun k t=>World.ownsRow.lt Q.out k t;have s:=hid Hz;have g4:QaY z bm n D G L:=I.below A;have H0:=hid g4;have Hb:Hid (∀r g,(G r).ownBlock=some g ->g<w.heap.size):=fun r g E=>((O.rows r).lt g E).2;have Hm:=hid (W.trans (A.mono (by omega)));have z4:H.heap.size<=z.heap.size:=A.size;have Hn:=hid Hv;clear A Q W I O g4 Hv Hz;rcases u.2 with ⟨rfl,J⟩|⟨g,cap,Gj,rfl,Gk,E,Gp,H8,H9,Hh⟩
 ·have HE:Hid (QdR L=uvF 9 q.length):=by show QdR L=_;rw [Ho.out,J];simp [Qfw]
  have H4:=hid u;clear u;go_wp2_with fail;refine wp_loop_rounds 1 ?_;rw [rounds_succ];go_wp2_with fail;go_ret;exact⟨M,rfl,by rw [HE.out];exact Hn.out,Hm.out⟩
 have HC:Hid (∀i,i<q.length ->z.cell? ⟨g,i,none⟩=some (.int .i64 (q.getD i 0))):=Qh6 u rfl;have Hl:some g≠M.ownBlock:=fun e=>by have:=(s g e.symm).2;omega
 have Gm:g<z.heap.size:=(u.lt g rfl).2;unfold maxLen at H8;clear u E H9 Hh;go_wp2_with fail;go_loopw [1,16] (fun b' i wr=>∃(k:Nat) (p:List Int),k<=q.length/\ i=.int .i64 k/\ Hid (Own wr w.heap.size b' p)/\ Hid (p=uvF 9 q.length++Qfw L q k)/\ Hid (Gr z wr M b')/\ z.heap.size<=wr.heap.size) (fun _ i _=>q.length - (intOf i).toNat);case atStart=>exact⟨0,_,Nat.zero_le _,rfl,Hn,hid (by simp [Qfw]),hid (Gr.refl _ _),Nat.le_refl _⟩
 case round=>
  obtain⟨k,p,t,rfl,Hf,S,C,Gi⟩:=hrel;by_cases F:k<q.length
  ·have R:=Hk (q.getD k 0) (by simp [List.getD,F]);obtain⟨m,P⟩:∃m:Nat,q.getD k 0=(m:Int):=⟨(q.getD k 0).toNat,by omega⟩;have Hr:=C.g.cell (HC k F) Hl;have Gu:p.length<=10+30000*k:=by rw [S.out];have:=Qhx HLen.out q k;simp;omega
   have H3:Hid (Qfw L q (k+1)=Qfw L q k++(uvF 9 m++QjM (L (m:Int)))):=by show Qfw L q k++QmF L (q.getD k 0)=_;rw [P];rfl
   rw [P] at R Hr;have Go:m<8:=by omega
   have He:=R.2.2;have x3:IntKind.u64.wrap (m:Int)=(m:Int):=Qfs _ (by omega) (by omega);clear R P;go_wp2_with fail;refine(QaS w.heap.size m u1 p wr (by omega) (by omega) (by omega) Hf.out).mono ?_;rintro e w5 ⟨v5,rfl,Hw,Hs,Gs⟩;have V:=C.trans Hs;have K:QaY w5 bm n D G L:=H0.gr V.g (fun e=>by have:=(s _ e.symm).1;omega) (fun r g E e=>by have:=(s _ e.symm).1;have:=Hb r g E;omega);have Ht:=K.look (m:Int) (wfI (by omega) (by omega));have Y:=K.rows (m:Int);rcases Y.2 with ⟨_,J⟩|⟨U,cs,cu,eG,Gc,Gd,Ge,Gf,Gg,Gh⟩
   ·exact absurd (List.eq_nil_of_length_eq_zero J) He
   have Gl:=Hb (m:Int) U (by rw [eG];rfl);rw [eG] at Ht Y;have Hy:=QhC Y rfl;have Hc:some U≠v5.ownBlock:=fun e=>by
    rcases V.l with h|⟨j,h,hj⟩
    ·have:=(s U (h ▸ e.symm)).1;omega
    ·rw [h] at e;injection e with e;omega
   have l5:=(Qai 9 m).1;have Hg:=HSrt (m:Int);have Gb:=HLen (m:Int);have H1:=hid Hw;have Hi:=hid V;have H5:=hid Hy;have H6:=hid Hg;clear Hy Y K Hw V Gc Gd Ge Gf Gg Gh Hs Hr Hg He;go_wp2_with fail;refine(Qgd w.heap.size v5 (p++uvF 9 m) (some ⟨U,0,none⟩) cs (L (m:Int)) w5 (by omega) (by simp;omega) H1.out H5.out (fun x hx=>by injection hx with hx;subst hx;exact Hc) H6.out Gb).mono ?_;rintro e w6 ⟨v6,rfl,Hx,B⟩;have H2:=hid Hx;have Hj:=hid (Hi.trans B);have Gt:=B.g.size;clear Hx B Ht;go_wp2_with fail;go_roundw;case rel=>exact⟨k+1,_,F,by go_num,H2,hid (by rw [H3.out,S.out];simp),Hj,by omega⟩
   case measure=>simp [intOf];omega
  ·obtain rfl:k=q.length:=by omega
   go_wp2_with fail;go_ret;refine⟨_,rfl,?_,Hm.trans (C.below (by omega) (fun k t=>by have:=(s k t).1;omega))⟩;rw [Ho.out,<- S.out];exact Hf.out
theorem QaK (w:World)(x y z:Value)(t:TypeId):∀j u,[x,y,z][j]? =some u ->(w.alloc (.cells #[x,y,z] t)).cell? ((⟨w.heap.size,0,none⟩:Addr).add j)=some u:=by
 intro j u k;match j,k with
 | 0,k=>simp at k;subst k;simp [Addr.add]
 | 1,k=>simp at k;subst k;simp [Addr.add]
 | 2,k=>simp at k;subst k;simp [Addr.add]
def QaA (r:Int)(l:List (Int×Int)):List Value:=l.flatMap fun p=>[.int .i64 r,.int .i64 p.1,.int .i64 p.2]
theorem Qfk (r:Int)(l:List (Int×Int))(p:Int×Int):QaA r (l++[p])=QaA r l++[.int .i64 r,.int .i64 p.1,.int .i64 p.2]:=by simp [QaA]
theorem Qb3.at {w:World}{a:Option Addr}{n:Nat}{R F T:Nat ->Int}(h:Qb3 w a n R F T){k:Nat}(hk:k<n):∃b off,a=some ⟨b,off,none⟩/\ b<w.heap.size/\ w.cell? ⟨b,off+k*3,none⟩=some (.int .i64 (R k))/\ w.cell? ⟨b,off+k*3+1,none⟩=some (.int .i64 (F k))/\ w.cell? ⟨b,off+k*3+2,none⟩=some (.int .i64 (T k)):=by
 rcases h with h|⟨b,off,rfl,j,m⟩
 ·omega
 ·exact⟨b,off,rfl,j,m k hk⟩
theorem QnV (a:Option Addr)(n c:Nat)(R F T:Nat ->Int)(rep:Int)(w:World)(hn:n<=1048576)(h:Qb3 w a n R F T):
  Calls Tryz.prog 59 #[.agg #[.slice a n c],.int .i64 rep] w fun e w'=>∃v,e=.returned v/\ w'.ownsRow w.heap.size 113 3 v (Lk R F T n rep).length (QaA rep (Lk R F T n rep))/\ Below w.heap.size w w':=by
 obtain⟨i0,S,Hc,Hd,He⟩:=info_parts Tryz.infoRun;obtain⟨L,j⟩:∃L:Nat ->List (Int×Int),(fun k=>Lk R F T k rep)=L:=⟨_,rfl⟩;have E:Lk R F T n rep=L n:=by rw [<- j]
 have U:Hid (L 0=[]):=by show L 0=[];rw [<- j];rfl
 have Z:Hid (∀k,R k=rep ->L (k+1)=L k++[(F k,T k)]):=fun k e=>by
  rw [<- j];show upd _ _ _ _=_;rw [<- e,Qay]
 have Y:Hid (∀k,R k≠rep ->L (k+1)=L k):=fun k e=>by
  rw [<- j];show upd _ _ _ _=_;rw [Qao _ _ (fun h=>e h.symm)]
 have V:Hid (∀k,(L k).length<=k):=fun k=>by rw [<- j];exact Qdc R F T k rep
 rw [E];clear E j;have Ha:(w.alloc (.cells #[.slice a n c] 26)).cell? ⟨w.heap.size,0,none⟩=some (.slice a n c):=by simp
 go_enter Tryz.func59,Tryz.ntmps59;go_wp2_with fail;go_loopw [5,6] (fun v i wr=>∃k:Nat,k<=n/\ i=.int .i64 k/\ Hid (wr.ownsRow (w.heap.size+1) 113 3 v (L k).length (QaA rep (L k)))/\ Hid (Below w.heap.size w wr)/\ wr.cell? ⟨w.heap.size,0,none⟩=some (.slice a n c)/\ w.heap.size+1<=wr.heap.size) (fun _ i _=>n - (intOf i).toNat);case atStart=>
  refine⟨0,Nat.zero_le _,rfl,?_,hid (Qak _ _ _),by simp,by simp⟩;rw [U.out];have:=World.ownsRow_lit (base:=w.heap.size+1) (e:=113) (size:=3) (w.alloc (.cells #[.slice a n c] 26)) #[] 0 (by simp) (by unfold maxLen;omega) rfl;exact hid (by simpa [QaA] using this)
 case round=>
  obtain⟨k,M,rfl,y,z,p,Hb⟩:=hrel;by_cases s:k<n
  ·obtain⟨b,off,rfl,hb,C,D,P⟩:=(h.below z.out).at s;have Hg:=V k;by_cases q:R k=rep
   ·have N:(R k==rep)=true:=by simp [q]
    have m:=Z k q;subst q;have o:=hid m;have X:some w.heap.size≠u5.ownBlock:=fun e=>by have:=(y.lt _ e.symm).1;omega
    clear m;go_wp2_with (at_builtin;refine Qav rfl _ _ 24 rfl (w.heap.size+1) 113 i0 _ 3 24 Tryz.underlying24 S Hc Hd He rfl (by decide) _ _ _ rfl (y.alloc _) ⟨wr.heap.size,0,none⟩ 1 1 [.int .i64 (R k),.int .i64 (F k),.int .i64 (T k)] rfl rfl ?c1 ?c2 ?c3 ?c4 ?c5 ?_);case c1=>exact QaK _ _ _ _ _
    case c2=>intro u Q;simp at Q;rcases Q with rfl|rfl|rfl<;>rfl
    case c3=>unfold maxLen;omega
    case c4=>omega
    case c5=>simp;omega
    ·intro v' w1 O t W;have G:Hid (w1.ownsRow (w.heap.size+1) 113 3 v' (L (k+1)).length (QaA (R k) (L (k+1)))):=by
      rw [o.out,Qfk,List.length_append];exact O
     have H:Hid (Below w.heap.size w w1):=(z.alloc (by omega) _).grown t (by simp;omega) (fun k M=>by have:=(y.lt k M).1;omega);have I:w1.cell? ⟨w.heap.size,0,none⟩=some (.slice (some ⟨b,off,none⟩) n c):=t.cell (by rw [Below.cell (B:=wr.heap.size) (zO _ _) (show w.heap.size<wr.heap.size by omega)];exact p) X;have J:=t.size;simp at J;clear O t W C D P p;go_wp2_with fail;go_roundw;case rel=>exact⟨k+1,s,by go_num,G,H,I,by omega⟩
     case measure=>simp [intOf];omega
   ·have N:(R k==rep)=false:=by simp [q]
    have m:=Y k q;have o:=hid m;clear m;go_wp2_with fail;go_roundw;case rel=>exact⟨k+1,s,by go_num,by rw [o.out];exact y,z,p,Hb⟩
    case measure=>simp [intOf];omega
  ·obtain rfl:k=n:=by omega
   go_wp2_with fail;go_ret;refine⟨_,rfl,?_,z.out⟩;obtain⟨q1,A⟩:=y.out;refine⟨q1,?_⟩;rcases A with A|⟨g,cap,K,rfl,Hf,r⟩
   ·exact .inl A
   ·exact .inr ⟨g,cap,K,rfl,by omega,r⟩
theorem QaM (m:Nat)(w:World)(hm:m<=1000000000):
  Calls Tryz.prog 60 #[.int .i64 (m:Int)] w fun e w'=>∃v,e=.returned v/\ Own w' w.heap.size v (uvF 9 m)/\ Below w.heap.size w w'/\ w.heap.size<w'.heap.size:=by
 have r:IntKind.u64.wrap (m:Int)=(m:Int):=Qfs _ (by omega) (by omega);go_enter Tryz.func60,Tryz.ntmps60;go_wp2_with fail;refine(Ql6 9 m w zL (show m<128^(9+1) by omega) (by omega)).mono ?_;rintro e w1 ⟨v,rfl,k,j,q⟩;go_wp2_with fail;go_ret;exact⟨v,rfl,k,j,q⟩
abbrev Rn:=Int×Int×Int
def Apt (p q:Rn):Prop:=p.1<q.1 \/(p.1=q.1/\ p.2.2+1<q.2.1)
instance (p q:Rn):Decidable (Apt p q):=by unfold Apt;infer_instance
def Rok (p:Rn):Prop:=0<=p.1/\ p.1<8/\ 1<=p.2.1/\ p.2.1<=p.2.2/\ p.2.2<=1000000000
def QbT (l:List Rn):Prop:=l.Pairwise Apt/\∀p∈l,Rok p
def InR (p:Rn)(r x:Int):Prop:=p.1=r/\ p.2.1<=x/\ x<=p.2.2
def RI (l:List Rn)(r x:Int):Prop:=∃p∈l,InR p r x
theorem Apt.trans {p q s:Rn}(h1:Apt p q)(hq:Rok q)(h2:Apt q s):Apt p s:=by
 unfold Apt Rok at*;omega
theorem QeD {p:Rn}{l:List Rn}{r x:Int}:RI (p::l) r x↔InR p r x \/RI l r x:=by simp [RI]
theorem Qbp {l l':List Rn}{r x:Int}:RI (l++l') r x↔RI l r x \/RI l' r x:=by
 constructor
 ·rintro⟨p,j,h⟩;rcases List.mem_append.1 j with j|j
  ·exact .inl ⟨p,j,h⟩
  ·exact .inr ⟨p,j,h⟩
 ·rintro(⟨p,j,h⟩|⟨p,j,h⟩)
  ·exact⟨p,List.mem_append.2 (.inl j),h⟩
  ·exact⟨p,List.mem_append.2 (.inr j),h⟩
theorem QgT {p:Rn}{r x:Int}:RI [p] r x↔InR p r x:=by simp [RI]
theorem Qir {r x:Int}:¬RI [] r x:=by simp [RI]
theorem Qhc {p q:Rn}{l:List Rn}(h:QbT (p::l))(j:q∈p::l):p.1<q.1 \/(p.1=q.1/\ p.2.1<=q.2.1):=by
 rcases List.mem_cons.1 j with rfl|j
 ·exact .inr ⟨rfl,Int.le_refl _⟩
 ·have k:=(List.pairwise_cons.1 h.1).1 q j;have m:=h.2 p (List.mem_cons_self);unfold Apt Rok at*;omega
theorem QjH {p p':Rn}{t t':List Rn}(h:QbT (p::t))(h':QbT (p'::t'))(he:∀r x,RI (p::t) r x ->RI (p'::t') r x)(hf:p.1=p'.1/\ p.2.1=p'.2.1):p.2.2<=p'.2.2:=by
 have g:=h.2 p List.mem_cons_self;have o:=h'.2 p' List.mem_cons_self;rcases Int.lt_or_le p'.2.2 p.2.2 with z|m
 ·exfalso;have k:RI (p::t) p.1 (p'.2.2+1):=⟨p,List.mem_cons_self,rfl,by unfold Rok at*;omega,by omega⟩;obtain⟨q,j,u,v,y⟩:=he _ _ k;rcases List.mem_cons.1 j with rfl|j
  ·omega
  ·have:=(List.pairwise_cons.1 h'.1).1 q j;unfold Apt at this;omega
 ·exact m
theorem uniq:∀{l l':List Rn},QbT l ->QbT l' ->(∀r x,RI l r x↔RI l' r x) ->l=l'
 | [],[],_,_,_=>rfl
 | [],p'::t',_,h',he=>by
  have y:=h'.2 p' List.mem_cons_self;exact absurd ((he p'.1 p'.2.1).2 ⟨p',List.mem_cons_self,rfl,Int.le_refl _,y.2.2.2.1⟩) Qir
 | p::t,[],h,_,he=>by
  have v:=h.2 p List.mem_cons_self;exact absurd ((he p.1 p.2.1).1 ⟨p,List.mem_cons_self,rfl,Int.le_refl _,v.2.2.2.1⟩) Qir
 | p::t,p'::t',h,h',he=>by
  have v:=h.2 p List.mem_cons_self;have y:=h'.2 p' List.mem_cons_self;have m:p.1=p'.1/\ p.2.1=p'.2.1:=by
   obtain⟨q,j,U,Y,G⟩:=(he p.1 p.2.1).1 ⟨p,List.mem_cons_self,rfl,Int.le_refl _,v.2.2.2.1⟩;obtain⟨B,E,V,Z,H⟩:=(he p'.1 p'.2.1).2 ⟨p',List.mem_cons_self,rfl,Int.le_refl _,y.2.2.2.1⟩;have a:=Qhc h' j;have b:=Qhc h E;omega
  have o:=QjH h h' (fun r x=>(he r x).1) m;have i:=QjH h' h (fun r x=>(he r x).2) ⟨m.1.symm,m.2.symm⟩;have A:p=p':=by
   obtain⟨a,b,c⟩:=p;obtain⟨Q,b',g⟩:=p';simp at m o i;obtain⟨rfl,rfl⟩:=m;have:c=g:=by omega
   rw [this]
  subst A;have z:∀{s:List Rn},QbT (p::s) ->∀{r x},RI s r x ->¬InR p r x:=by
   rintro s M r x ⟨q,j,I,J,K⟩ ⟨L,N,X⟩;have:=(List.pairwise_cons.1 M.1).1 q j;unfold Apt at this;omega
  have O:t=t':=by
   refine uniq ⟨(List.pairwise_cons.1 h.1).2,fun q j=>h.2 q (List.mem_cons_of_mem _ j)⟩ ⟨(List.pairwise_cons.1 h'.1).2,fun q j=>h'.2 q (List.mem_cons_of_mem _ j)⟩ (fun r x=> ?_);have e:=he r x;rw [QeD,QeD] at e;constructor
   ·intro u;rcases e.1 (.inr u) with k|k
    ·exact absurd k (z h u)
    ·exact k
   ·intro u;rcases e.2 (.inr u) with k|k
    ·exact absurd k (z h' u)
    ·exact k
  rw [O]
def QaH (s:List Rn×Rn×List Rn)(q:Rn):List Rn×Rn×List Rn:=
 if Apt q s.2.1 then(s.1++[q],s.2.1,s.2.2) else if Apt s.2.1 q then(s.1,s.2.1,s.2.2++[q]) else(s.1,(s.2.1.1,min q.2.1 s.2.1.2.1,max q.2.2 s.2.1.2.2),s.2.2)
def Qgw (l:List Rn)(r:Rn):List Rn×Rn×List Rn:=l.foldl QaH ([],r,[])
def ins (l:List Rn)(r:Rn):List Rn:=(Qgw l r).1++[(Qgw l r).2.1]++(Qgw l r).2.2
structure Inv (s:List Rn×Rn×List Rn)(t:List Rn):Prop where
 b:QbT s.1
 a:QbT s.2.2
 r:Rok s.2.1
 br:∀p∈s.1,Apt p s.2.1
 ra:∀p∈s.2.2,Apt s.2.1 p
 bt:∀p∈s.1,∀q∈t,Apt p q
 at':∀p∈s.2.2,∀q∈t,Apt p q
 t:QbT t
def RS (s:List Rn×Rn×List Rn)(r x:Int):Prop:=RI s.1 r x \/InR s.2.1 r x \/RI s.2.2 r x
theorem QbT.snoc {l:List Rn}{q:Rn}(h:QbT l)(hq:Rok q)(ha:∀p∈l,Apt p q):QbT (l++[q]):=
 ⟨List.pairwise_append.2 ⟨h.1,List.pairwise_singleton _ _,fun p j q' hq'=>by rw [List.mem_singleton] at hq';subst hq';exact ha p j⟩,fun p j=>by
  rcases List.mem_append.1 j with j|j
  ·exact h.2 p j
  ·rw [List.mem_singleton] at j;subst j;exact hq⟩
theorem Inv.step {s:List Rn×Rn×List Rn}{q:Rn}{t:List Rn}(h:Inv s (q::t)):Inv (QaH s q) t/\∀r x,RS (QaH s q) r x↔(RS s r x \/InR q r x):=by
 have v:=h.t.2 q List.mem_cons_self;have y:=(List.pairwise_cons.1 h.t.1).1;have u:QbT t:=⟨(List.pairwise_cons.1 h.t.1).2,fun p j=>h.t.2 p (List.mem_cons_of_mem _ j)⟩;have m:=fun p j q' (hq':q'∈t)=>h.bt p j q' (List.mem_cons_of_mem _ hq');have k:=fun p j q' (hq':q'∈t)=>h.at' p j q' (List.mem_cons_of_mem _ hq');unfold QaH;split
 ·rename_i hA;refine⟨⟨h.b.snoc v (fun p j=>h.bt p j q List.mem_cons_self),h.a,h.r,fun p j=> ?_,h.ra,fun p j=> ?_,k,u⟩,fun r x=> ?_⟩
  ·rcases List.mem_append.1 j with j|j
   ·exact h.br p j
   ·rw [List.mem_singleton] at j;subst j;exact hA
  ·rcases List.mem_append.1 j with j|j
   ·exact m p j
   ·rw [List.mem_singleton] at j;subst j;exact y
  ·simp only [RS,Qbp,QgT];constructor
   ·rintro((a|a)|a|a)
    ·exact .inl (.inl a)
    ·exact .inr a
    ·exact .inl (.inr (.inl a))
    ·exact .inl (.inr (.inr a))
   ·rintro((a|a|a)|a)
    ·exact .inl (.inl a)
    ·exact .inr (.inl a)
    ·exact .inr (.inr a)
    ·exact .inl (.inr a)
 ·rename_i hA;split
  ·rename_i hB;refine⟨⟨h.b,h.a.snoc v (fun p j=>h.at' p j q List.mem_cons_self),h.r,h.br,fun p j=> ?_,m,fun p j=> ?_,u⟩,fun r x=> ?_⟩
   ·rcases List.mem_append.1 j with j|j
    ·exact h.ra p j
    ·rw [List.mem_singleton] at j;subst j;exact hB
   ·rcases List.mem_append.1 j with j|j
    ·exact k p j
    ·rw [List.mem_singleton] at j;subst j;exact y
   ·simp only [RS,Qbp,QgT];constructor
    ·rintro(a|a|a|a)
     ·exact .inl (.inl a)
     ·exact .inl (.inr (.inl a))
     ·exact .inl (.inr (.inr a))
     ·exact .inr a
    ·rintro((a|a|a)|a)
     ·exact .inl a
     ·exact .inr (.inl a)
     ·exact .inr (.inr (.inl a))
     ·exact .inr (.inr (.inr a))
  ·rename_i hB;have i:=h.r;have nil:∀p∈s.2.2,False:=fun p j=>hB ((h.ra p j).trans (h.a.2 p j) (h.at' p j q List.mem_cons_self));refine⟨⟨h.b,h.a,?_,fun p j=> ?_,fun p j=>(nil p j).elim,m,k,u⟩,fun r x=> ?_⟩
   ·unfold Apt Rok at*;simp only;omega
   ·have g:=h.br p j;have o:=h.bt p j q List.mem_cons_self;unfold Apt at*;simp only;omega
   ·have z:InR (s.2.1.1,min q.2.1 s.2.1.2.1,max q.2.2 s.2.1.2.2) r x↔(InR s.2.1 r x \/InR q r x):=by
     unfold InR Apt Rok at*;simp only;omega
    simp only [RS,z];constructor
    ·rintro(a|(a|a)|a)
     ·exact .inl (.inl a)
     ·exact .inl (.inr (.inl a))
     ·exact .inr a
     ·exact .inl (.inr (.inr a))
    ·rintro((a|a|a)|a)
     ·exact .inl a
     ·exact .inr (.inl (.inl a))
     ·exact .inr (.inr a)
     ·exact .inr (.inl (.inr a))
theorem Inv.fold:∀(t:List Rn) (s:List Rn×Rn×List Rn),Inv s t ->Inv (t.foldl QaH s) []/\∀r x,RS (t.foldl QaH s) r x↔(RS s r x \/RI t r x)
 | [],s,h=>⟨h,fun r x=>by simp [RI]⟩
 | q::t,s,h=>by
  obtain⟨j,k⟩:=h.step;obtain⟨m,u⟩:=Inv.fold t _ j;refine⟨m,fun r x=> ?_⟩;rw [List.foldl_cons,u r x,k r x,QeD,or_assoc]
theorem Qnt {l:List Rn}{r:Rn}(hl:QbT l)(hr:Rok r):QbT (ins l r)/\∀y x,RI (ins l r) y x↔(RI l y x \/InR r y x):=by
 have m:Inv ([],r,[]) l:=⟨⟨List.Pairwise.nil,(fun p j=>by cases j)⟩,⟨List.Pairwise.nil,(fun p j=>by cases j)⟩,hr,(fun p j=>by cases j),(fun p j=>by cases j),(fun p j=>by cases j),(fun p j=>by cases j),hl⟩;obtain⟨h,u⟩:=Inv.fold l _ m;change Inv (Qgw l r) [] at h;refine⟨⟨?_,fun p j=> ?_⟩,fun y x=> ?_⟩
 ·unfold ins;rw [List.append_assoc];refine List.pairwise_append.2 ⟨h.b.1,List.pairwise_append.2 ⟨List.pairwise_singleton _ _,h.a.1,fun p j q k=> ?_⟩,fun p j q k=> ?_⟩
  ·rw [List.mem_singleton] at j;subst j;exact h.ra q k
  ·rcases List.mem_append.1 k with k|k
   ·rw [List.mem_singleton] at k;subst k;exact h.br p j
   ·exact(h.br p j).trans h.r (h.ra q k)
 ·unfold ins at j;rcases List.mem_append.1 j with j|j
  ·rcases List.mem_append.1 j with j|j
   ·exact h.b.2 p j
   ·rw [List.mem_singleton] at j;subst j;exact h.r
  ·exact h.a.2 p j
 ·have:=u y x;unfold ins;rw [Qbp,Qbp,QgT];change RS (Qgw l r) y x↔_ at this;unfold RS at this;rw [or_assoc,this];simp [RI];exact or_comm
def unF (l b:List Rn):List Rn:=b.foldl ins l
theorem Qdj:∀(b l:List Rn),QbT l ->(∀p∈b,Rok p) ->QbT (unF l b)/\∀y x,RI (unF l b) y x↔(RI l y x \/RI b y x)
 | [],l,h,_=>⟨h,fun y x=>by simp [unF,RI]⟩
 | q::b,l,h,hb=>by
  obtain⟨j,k⟩:=Qnt h (hb q List.mem_cons_self);obtain⟨m,r⟩:=Qdj b (ins l q) j (fun p hp=>hb p (List.mem_cons_of_mem _ hp));refine⟨m,fun y x=> ?_⟩;show RI (unF (ins l q) b) y x↔_;rw [r,k,QeD,or_assoc]
def In (l:List (Int×Int))(x:Int):Prop:=∃p∈l,p.1<=x/\ x<=p.2
theorem Qil {l l':List (Int×Int)}{x:Int}:In (l++l') x↔In l x \/In l' x:=by
 constructor
 ·rintro⟨p,j,h⟩;rcases List.mem_append.1 j with j|j
  ·exact .inl ⟨p,j,h⟩
  ·exact .inr ⟨p,j,h⟩
 ·rintro(⟨p,j,h⟩|⟨p,j,h⟩)
  ·exact⟨p,List.mem_append.2 (.inl j),h⟩
  ·exact⟨p,List.mem_append.2 (.inr j),h⟩
theorem QmN {p:Int×Int}{x:Int}:In [p] x↔p.1<=x/\ x<=p.2:=by simp [In]
theorem Qim {x:Int}:¬In [] x:=by simp [In]
def flat (R F T:Nat ->Int)(n:Nat):List Rn:=(List.range n).map fun i=>(R i,F i,T i)
def tag (r:Int)(l:List (Int×Int)):List Rn:=l.map fun p=>(r,p.1,p.2)
def Qdm (L:Int ->List (Int×Int))(k:Nat):List Rn:=(KS L k).flatMap fun r=>tag r (L r)
theorem Qc9 (R F T:Nat ->Int)(n:Nat):flat R F T (n+1)=flat R F T n++[(R n,F n,T n)]:=by simp [flat,List.range_succ]
theorem QeQ (R F T:Nat ->Int):∀(n:Nat) (r x:Int),RI (flat R F T n) r x↔In (Lk R F T n r) x
 | 0,r,x=>by simp [flat,Lk,RI,In]
 | n+1,r,x=>by
  rw [Qc9,Qbp,QgT,QeQ R F T n r x];by_cases e:r=R n
  ·subst e;have:Lk R F T (n+1) (R n)=Lk R F T n (R n)++[(F n,T n)]:=Qay _ _ _;rw [this,Qil,QmN];simp [InR]
  ·have:Lk R F T (n+1) r=Lk R F T n r:=Qao _ _ e;rw [this];simp [InR,Ne.symm e]
theorem Qbv {R F T:Nat ->Int}:∀(n:Nat),Qeg R F T n ->QbT (flat R F T n)
 | 0,_=>⟨by simp [flat],fun p j=>by simp [flat] at j⟩
 | n+1,h=>by
  have q:=Qbv n (fun i hi=>h i (by omega));have v:=Qbg.1 (h n (by omega)).1;rw [Qc9];refine q.snoc v (fun p j=> ?_);cases n with
  | zero=>simp [flat] at j
  | succ m=>
   have k:=(h (m+1) (by omega)).2 (by omega);unfold QaC at k;have k:=of_decide_eq_true k;rw [Nat.add_sub_cancel] at k;have r:Apt (R m,F m,T m) (R (m+1),F (m+1),T (m+1)):=k;rw [Qc9] at j q;rcases List.mem_append.1 j with j|j
   ·have u:=(List.pairwise_append.1 q.1).2.2 p j _ (List.mem_singleton.2 rfl);exact u.trans (q.2 _ (by simp)) r
   ·rw [List.mem_singleton] at j;subst j;exact r
theorem QgN {r:Int}{l:List (Int×Int)}(h:Srt l)(h0:0<=r)(h8:r<8):QbT (tag r l):=by
 refine⟨List.pairwise_map.2 (h.1.imp (fun hh=> .inr ⟨rfl,hh⟩)),fun p hp=> ?_⟩;obtain⟨q,j,rfl⟩:=List.mem_map.1 hp;have:=h.2 q j;exact⟨h0,h8,this⟩
theorem QjD {r:Int}{l:List (Int×Int)}{y x:Int}:RI (tag r l) y x↔(r=y/\ In l x):=by
 constructor
 ·rintro⟨p,u,k,m⟩;obtain⟨q,j,rfl⟩:=List.mem_map.1 u;exact⟨k,q,j,m⟩
 ·rintro⟨rfl,q,j,h⟩;exact⟨_,List.mem_map.2 ⟨q,j,rfl⟩,rfl,h⟩
theorem QgA {L:Int ->List (Int×Int)}{k:Nat}(h:(L (k:Int)).isEmpty=false):Qdm L (k+1)=Qdm L k++tag (k:Int) (L (k:Int)):=by
 simp [Qdm,KS,h]
theorem Qg9 {L:Int ->List (Int×Int)}{k:Nat}(h:(L (k:Int)).isEmpty=true):Qdm L (k+1)=Qdm L k:=by
 simp [Qdm,KS,h]
theorem QdQ {L:Int ->List (Int×Int)}(hL:∀r,Srt (L r)):∀k:Nat,k<=8 ->QbT (Qdm L k)/\ (∀y x,RI (Qdm L k) y x↔(0<=y/\ y<k/\ In (L y) x))/\∀p∈Qdm L k,p.1<k
 | 0,_=>⟨⟨by simp [Qdm,KS],fun p j=>by simp [Qdm,KS] at j⟩,fun y x=>by simp [Qdm,KS,RI];omega,fun p j=>by simp [Qdm,KS] at j⟩
 | k+1,hk=>by
  obtain⟨m,z,u⟩:=QdQ hL k (by omega);by_cases e:(L (k:Int)).isEmpty=true
  ·rw [Qg9 e];refine⟨m,fun y x=> ?_,fun p j=>by have:=u p j;omega⟩;rw [z];constructor
   ·rintro⟨a,b,c⟩;exact⟨a,by omega,c⟩
   ·rintro⟨a,b,c⟩;refine⟨a,?_,c⟩;rcases Int.lt_or_le y k with h|h
    ·exact h
    ·have:y=(k:Int):=by omega
     subst this;have:L (k:Int)=[]:=by simpa using e
     rw [this] at c;exact absurd c Qim
  ·have e:(L (k:Int)).isEmpty=false:=by simpa using e
   rw [QgA e];have v:=QgN (hL (k:Int)) (by omega:(0:Int)<=k) (by omega);refine⟨⟨List.pairwise_append.2 ⟨m.1,v.1,fun p j q hq=> ?_⟩,fun p j=> ?_⟩,fun y x=> ?_,fun p j=> ?_⟩
   ·obtain⟨g,_,rfl⟩:=List.mem_map.1 hq;exact .inl (u p j)
   ·rcases List.mem_append.1 j with j|j
    ·exact m.2 p j
    ·exact v.2 p j
   ·rw [Qbp,z,QjD];constructor
    ·rintro(⟨a,b,c⟩|⟨rfl,c⟩)
     ·exact⟨a,by omega,c⟩
     ·exact⟨by omega,by omega,c⟩
    ·rintro⟨a,b,c⟩;rcases Int.lt_or_le y k with h|h
     ·exact .inl ⟨a,h,c⟩
     ·have:y=(k:Int):=by omega
      subst this;exact .inr ⟨rfl,c⟩
   ·rcases List.mem_append.1 j with j|j
    ·have:=u p j;omega
    ·obtain⟨g,_,rfl⟩:=List.mem_map.1 j;show (k:Int)<_;omega
def SR (w:World)(B:Nat)(v:Value)(l:List (Int×Int)):Prop:=w.ownsRow B 148 2 v l.length (Qaw l)
theorem Qot (w:World)(x y:Value)(t:TypeId):∀j u,[x,y][j]? =some u ->(w.alloc (.cells #[x,y] t)).cell? ((⟨w.heap.size,0,none⟩:Addr).add j)=some u:=by
 intro j u k;match j,k with
 | 0,k=>simp at k;subst k;simp [Addr.add]
 | 1,k=>simp at k;subst k;simp [Addr.add]
theorem Qbw (w:World)(p:Addr)(u:Value):w.grownBy (w.setCell p u) (some p.block):=
 ⟨rfl,rfl,rfl,by simp [World.setCell],fun k hk hne=>zH _ _ _ _ (fun e=>hne (by rw [e]))⟩
structure Qdk (w:World)(bm n:Nat)(D:DataW Value)(G:Int ->Value)(L:Int ->List (Int×Int)):Prop where
 own:w.ownsMap Tryz.prog 3 QhY bm n D
 at':∀r,D.atKey (kI r) (.held (.slice none 0 0))=.held (G r)
 has':∀r,Maps.has D (kI r)= !(L r).isEmpty
 rows:∀r,w.ownsRow 0 148 2 (G r) (L r).length (Qaw (L r))
theorem Qh7 {w:World}{B:Nat}{e:TypeId}{s:Nat}{v:Value}{n:Nat}{xs:List Value}(h:w.ownsRow B e s v n xs):w.ownsRow 0 e s v n xs:=by
 obtain⟨k,m⟩:=h;refine⟨k,m.imp id ?_⟩;rintro⟨g,cap,j,e,_,r⟩;exact⟨g,cap,j,e,Nat.zero_le _,r⟩
theorem Qjw {w:World}{B bm n:Nat}{e:TypeId}{s:Nat}{v:Value}{m:Nat}{xs:List Value}{D:DataW Value}(h:w.ownsRow B e s v m xs)(hm:w.ownsMap Tryz.prog 3 QhY bm n D):v.ownBlock=none \/v.ownBlock≠some bm:=by
 obtain⟨_,k⟩:=h;rcases k with ⟨rfl,_⟩|⟨g,cap,u,rfl,_,j,_⟩
 ·exact .inl rfl
 ·refine .inr (fun e=> ?_);obtain⟨y,r,q,_⟩:=hm;have e:g=bm:=by simpa [Value.ownBlock] using e
  rw [e,q] at j;cases j
theorem QfO {w w1:World}{B:Nat}{e:TypeId}{s:Nat}{v:Value}{n:Nat}{xs:List Value}(h:w.ownsRow B e s v n xs)(hb:Below w.heap.size w w1):w1.ownsRow B e s v n xs:=
 Qe0 h hb (fun k hk=>(h.lt k hk).2)
theorem Qjx {w:World}{B:Nat}{v:Value}{l:List (Int×Int)}(h:w.ownsRow B 148 2 v l.length (Qaw l)):
  ∃a c,v=.slice a l.length c/\ SS w a l.length (sF l) (sT l)/\ l.length<=c/\ c<=9223372036854775807:=by
 rcases h.2 with ⟨e,j⟩|⟨g,cap,q,e,r,_,m,k,_⟩
 ·exact⟨none,0,by rw [e,j],.inl j,by omega,by omega⟩
 ·exact⟨_,cap,e,by rw [e] at h;exact QhC h rfl,m,by unfold maxLen at k;omega⟩
theorem QbJ {w:World}{B:Nat}{e:TypeId}{size:Nat}{v:Value}{n:Nat}{xs:List Value}(h:w.ownsRow B e size v n xs):∃y m c,v=.slice y m c:=by
 rcases h.2 with ⟨rfl,_⟩|⟨g,cap,j,rfl,_⟩
 ·exact⟨_,_,_,rfl⟩
 ·exact⟨_,_,_,rfl⟩
theorem Qdk.gr {w w1:World}{bm n:Nat}{D:DataW Value}{G:Int ->Value}{L:Int ->List (Int×Int)}(h:Qdk w bm n D G L){row:Option Nat}(hg:w.grownBy w1 row)(hr:some bm≠row)(hro:∀r g,(G r).ownBlock=some g ->some g≠row):Qdk w1 bm n D G L:=
 ⟨h.own.kept hg hr,h.at',h.has',fun r=>(h.rows r).kept hg (by
  cases e:(G r).ownBlock with
  | none=>exact .inl rfl
  | some g=>exact .inr (hro r g e))⟩
theorem Qdk.below {w w1:World}{bm n:Nat}{D:DataW Value}{G:Int ->Value}{L:Int ->List (Int×Int)}(h:Qdk w bm n D G L)(hb:Below w.heap.size w w1):Qdk w1 bm n D G L:=
 h.gr (row:=none) ⟨hb.os,hb.tape,hb.output,hb.size,fun k hk _=>hb.block k hk⟩ (by simp) (by simp)
end Go.Proofs.YtdeolligikjieaaGreatDoor
