import Derived.Test.YtjdcfkmhmnblbaaGreatDoorFqg12
import Derived.Test.YtjdcfkmhmnblbaaGreatDoorFqg09
import Derived.Test.YtjdcfkmhmnblbaaGreatDoorFqg02
import Derived.Test.YtjdcfkmhmnblbaaGreatDoorFqg01
import Derived.Deep.RegionHeld3
import Derived.OwnWalk
import Derived.Test.YtjdcfkmhmnblbaaGreatDoorRows
import Derived.WalkKit
import Derived.LaidEql
import Derived.Stop.Asserts
import Derived.RowKitTokens
import Derived.Stop.LaidTwo
import Derived.Deep.QuietTactic
import Derived.BigQuiet
set_option linter.unusedVariables false
set_option linter.unusedSimpArgs false
set_option maxRecDepth 100000
set_option maxHeartbeats 40000000
namespace Go.Proofs.YtjdcfkmhmnblbaaGreatDoor
open Go.ChangeShapes Go.WideShapes Go.ChangeAt Go.RowKit Go.Maps Go.Sort
def QoU (R F T:Nat ->Int)(n:Nat):List Int:=if QcR R F T n then Qee (Lk R F T n) else []
theorem QkC (R F T:Nat ->Int)(n:Nat):(QoU R F T n).length<=1000000:=by
 unfold QoU;split
 ·rename_i h;have j:=Qao.1 h;rw [Qfq];have k:=(Qah 9 (KS (Lk R F T n) 8).length).1;have m:=Qc9 (L:=Lk R F T n) (fun r=>Nat.le_trans (Qdl R F T n r) j.2) 8;simp only [List.length_append];omega
 ·simp
theorem Own.any {w:World}{B:Nat}{v:Value}{zs:List Int}(h:Own w B v zs):∃a cap,v=.slice a zs.length cap/\ Seg w a zs.length (fun i=>zs.getD i 0):=by
 by_cases j:zs=[]
 ·subst j;obtain⟨_,k⟩:=h;rcases k with ⟨rfl,_⟩|⟨g,cap,m,rfl,_⟩
  ·exact⟨none,0,rfl,.inl rfl⟩
  ·exact⟨_,cap,rfl,.inl rfl⟩
 ·obtain⟨g,cap,rfl,_,_,_,_,_,s⟩:=h.shape j;exact⟨_,cap,rfl,s⟩
theorem QiS (R F T:Nat ->Int)(r f t:Int):∀n,Qct R F T r f t n=true ->∃k,k<n/\ R k=r/\ F k<=f/\ t<=T k
 | 0,h=>by simp [Qct] at h
 | n+1,h=>by
  simp only [Qct,Bool.or_eq_true,decide_eq_true_eq] at h;rcases h with h|h
  ·obtain⟨k,j,r⟩:=QiS R F T r f t n h;exact⟨k,by omega,r⟩
  ·exact⟨n,by omega,h⟩
theorem QaQ.lvB {R F T:Nat ->Int}{n:Nat}{l:List Lf}(h:QaQ R F T n l):LvB l:=by
 obtain⟨u,v,j,y⟩:=h;have g:=(Qao.1 u).1;have m:∀i,i<l.length ->(0<=(gL l i).r/\ (gL l i).r<8)/\ (0<=(gL l i).q/\ (gL l i).q<=1000000000):=fun i hi=>by
  obtain⟨k,z,t,o,b⟩:=QiS R F T _ _ _ n (j i hi).2.1;have:=(g k z).1;simp only [QaL,Bool.and_eq_true,decide_eq_true_eq] at this;omega
 exact⟨fun i hi=>(m i hi).1,fun i hi=>(m i hi).2,fun i hi=>(j i hi).1.2.1,v,y⟩
noncomputable def psB (R F T:Nat ->Int)(n:Nat)(l:List Lf):List Int:=Qee (Lk R F T n)++tB l 8 []
noncomputable def psZ (R F T:Nat ->Int)(n:Nat)(l:List Lf):List Int×Int:=
 if yes (QaQ R F T n l)=true then(if (psB R F T n l).length<=4000 then(psB R F T n l,0) else([],2)) else([],1)
theorem QfZ {R F T:Nat ->Int}{n:Nat}{l:List Lf}(h:¬QaQ R F T n l):psZ R F T n l=([],1):=by unfold psZ;rw [if_neg (by rw [Qaj h];simp)]
theorem QcJ {R F T:Nat ->Int}{n:Nat}{l:List Lf}(h:QaQ R F T n l)(h2:¬(psB R F T n l).length<=4000):psZ R F T n l=([],2):=by unfold psZ;rw [if_pos (Qal h),if_neg h2]
theorem Qdd {R F T:Nat ->Int}{n:Nat}{l:List Lf}(h:QaQ R F T n l)(h2:(psB R F T n l).length<=4000):psZ R F T n l=(psB R F T n l,0):=by unfold psZ;rw [if_pos (Qal h),if_pos h2]
theorem QmL (R F T:Nat ->Int)(n:Nat)(l:List Lf):(psZ R F T n l).1.length<=4000:=by
 unfold psZ;split
 ·split
  ·assumption
  ·simp
 ·simp
theorem QaQ.put_len {R F T:Nat ->Int}{n:Nat}{l:List Lf}(h:QaQ R F T n l):(Qee (Lk R F T n)).length<=1000000/\ 0<(Qee (Lk R F T n)).length:=by
 have:=QkC R F T n;unfold QoU at this;rw [if_pos h.1] at this;refine⟨this,?_⟩;rw [Qfq,List.length_append];have:=(Qah 9 (KS (Lk R F T n) 8).length).2;omega
theorem QaQ.tree_len {R F T:Nat ->Int}{n:Nat}{l:List Lf}(h:QaQ R F T n l):(tB l 8 []).length<=2000000:=by
 have j:=QlG h.2.2.1 8 [];have k:=Qom l [] l.length;have m:=h.2.1;have q:(400+100*8)*uK l [] l.length<=1200*1000:=Nat.mul_le_mul (by omega) (by omega);omega
theorem QaQ.iv {R F T:Nat ->Int}{n:Nat}{l:List Lf}(h:QaQ R F T n l):Iv l [] 0 (0+l.length):=by
 refine⟨fun j hj=> ?_,by omega,by omega⟩;rw [Qfo];have:=(h.2.2.1 j hj).1.1.1;exact⟨fun _=>⟨by omega,by omega⟩,fun _=>⟨List.nil_prefix,Nat.lt_of_lt_of_le Nat.zero_lt_one this⟩⟩
theorem Qew.lat {w:World}{a:Option Addr}{l:List Lf}(h:Qew w a l)(h0:0<l.length):∃b off,a=some ⟨b,off,none⟩/\ LAt w b off l 0 l.length:=by
 rcases h with h|⟨b,off,e,j,k⟩
 ·omega
 ·refine⟨b,off,e,j,fun t ht=> ?_⟩;rw [Nat.zero_add];exact k t ht
theorem Ql5 (w:World)(B:Nat)(hB:B<=w.heap.size):Own (w.alloc (.cells #[] 5)) B (.slice (some ⟨w.heap.size,0,none⟩) 0 0) []:=by
 have:=World.ownsRow_lit (base:=B) (e:=5) (size:=1) w #[] 0 hB (by unfold maxLen;omega) rfl;simpa [Own] using this
theorem Qhw (a:Option Addr)(c:Nat)(l:List Lf)(x:Option Addr)(n d:Nat)(R F T:Nat ->Int)(w:World)(hc:l.length<=c)(hcm:c<=9223372036854775807)(hn:n<=1048576)(h:Qew w a l)(h':Qb5 w x n R F T)(hok:QaQ R F T n l):
  Calls Tryz.prog 13 #[.agg #[.slice a l.length c,.slice x n d]] w fun e w'=>∃v,e=.returned v/\ Own w' w.heap.size v (psB R F T n l)/\ Below w.heap.size w w':=by
 obtain⟨W,q⟩:∃W,w.alloc (.cells #[.slice a l.length c,.slice x n d] 29)=W:=⟨_,rfl⟩;have k:Below w.heap.size w W:=by rw [<- q];exact zO _ _
 have j:Bx2 W w.heap.size (.slice a l.length c) (.slice x n d):=by rw [<- q];exact Bx2.made _ _ _ _
 have H:=j.c0;have I:=j.c1;have r:=hid j;have Y:=hid (h.below k);have s:=hid (QmU x n d R F T W hn (h'.below k) hok.1);have g:=hid k;have E:Hid (∀w1,Below W.heap.size W w1 ->Calls Tryz.prog 29 #[.slice a l.length c,.int .i64 0] w1 fun e w'=>∃v,e=.returned v/\ Own w' w1.heap.size v (tB l 8 [])/\ Below w1.heap.size w1 w'):=hid (fun w1 hb1=>by
  have:=Qm6 l hok.2.2.1 hok.lvB 8 [] rfl (by omega) 0 l.length c a w1 hc hcm hok.iv (fun h0=>(Y.below hb1).lat h0) (by have:=hok.tree_len;omega);exact this)
 have p:=hid (And.intro hok.put_len hok.tree_len);have G:Hid (0<(tB l 8 []).length):=hid (QlH l 7 []);have A:Hid (Qee (Lk R F T n)++tB l 8 []=psB R F T n l):=hid rfl;obtain⟨Z,Q⟩:∃Z,psB R F T n l=Z:=⟨_,rfl⟩;rw [Q] at A ⊢;clear Q h h' k j hok;go_enter Tryz.func13,Tryz.ntmps13;go_wp2_with fail;try rw [q]
 clear q;refine s.mono ?_;rintro e w1 ⟨L,rfl,z,m⟩;have u:=r.below m r.lt;have J:=u.c0;have K:=u.c1;have t:Hid (Bd w w1 L (Qee (Lk R F T n))):=hid ⟨Qac g.out m,Own.weak z g.size,Ql6 z p.1.2⟩;have M:=hid (E w1 m);clear m z u s E r H I;go_wp2_with fail;refine M.mono ?_;rintro e B ⟨X,rfl,V,O⟩;obtain⟨N,C,U,y⟩:=t.app O V G.out (by have:=p.out;omega);rw [A.out] at y;have i:=hid y;clear y O V t M J K;go_wp2_with (at_builtin;refine Qaa rfl _ _ _ _ rfl U (by rfl) (by rfl) rfl ?_;clear U);go_ret;exact⟨N,rfl,i.o,i.b⟩
theorem Qgg (a:Option Addr)(c:Nat)(l:List Lf)(x:Option Addr)(n d:Nat)(R F T:Nat ->Int)(w:World)(hc:l.length<=c)(hcm:c<=9223372036854775807)(hl:l.length<=1048576)(hp:LBd l)(hn:n<=1048576)(h:Qdy w a l)(s:Qew w a l)(h':Qb5 w x n R F T):
  Calls Tryz.prog 17 #[.agg #[.slice a l.length c,.slice x n d]] w fun e w'=>∃v zs k,e=.returned (.tuple #[v,.int .i64 k])/\ psZ R F T n l=(zs,k)/\ Own w' w.heap.size v zs/\ Below w.heap.size w w':=by
 obtain⟨W,z⟩:∃W,w.alloc (.cells #[.slice a l.length c,.slice x n d] 29)=W:=⟨_,rfl⟩;have y:Below w.heap.size w W:=by rw [<- z];exact zO _ _
 have g:Bx2 W w.heap.size (.slice a l.length c) (.slice x n d):=by rw [<- z];exact Bx2.made _ _ _ _
 have I:=g.c0;have J:=g.c1;have o:=hid g;have K:=hid (s.below y);have N:=hid (h'.below y);have u:=hid (Qbv a c l x n d R F T W hl hp hn (h.below y) (h'.below y));have M:=hid y;clear h s h' y g;by_cases j:QaQ R F T n l
 ·rw [Qal j] at u;have i:Hid (∀w1,Below W.heap.size W w1 ->Calls Tryz.prog 13 #[.agg #[.slice a l.length c,.slice x n d]] w1 fun e w'=>∃v,e=.returned v/\ Own w' w1.heap.size v (psB R F T n l)/\ Below w1.heap.size w1 w'):=hid (fun w1 hb=>Qhw a c l x n d R F T w1 hc hcm hn (K.below hb) (N.below hb) j);have V:=hid (fun h=>Qdd j h);have Q:=hid (fun h=>QcJ j h);have O:Hid ((psB R F T n l).length<=1000000000):=hid (by have h1:=j.put_len;have s:=j.tree_len;unfold psB;rw [List.length_append];omega);obtain⟨Z,A⟩:∃Z,psB R F T n l=Z:=⟨_,rfl⟩;obtain⟨P,q⟩:∃P,psZ R F T n l=P:=⟨_,rfl⟩;rw [A,q] at V Q;rw [A] at i O;rw [q];clear A q j;go_enter Tryz.func17,Tryz.ntmps17;go_wp2_with fail;try rw [z]
  clear z;refine u.mono ?_;rintro e w1 ⟨rfl,m⟩;have p:=o.below m o.lt;have C:=p.c0;have D:=p.c1;have r:=hid (Qac M.out m);have Y:=hid (i w1 m);clear m p u o I J i;go_wp2_with fail;refine Y.mono ?_;rintro e w2 ⟨v2,rfl,E,G⟩;have L:=hid (Own.weak E r.size);have t:=hid (Qac r.out G);obtain⟨S,cv,rfl,_⟩:=E.any;have Ha:=O.out;clear G E Y C D;by_cases H:Z.length<=4000
  ·have b:=hid (V H);have X:decide ((4000:Int)<(Z.length:Int))=false:=by simp;omega
   have B:decide (4000<Z.length)=false:=by simp;omega
   go_wp2_with fail;go_ret2;exact⟨_,Z,0,rfl,b.out,L.out,t.out⟩
  ·have b:=hid (Q H);have X:decide ((4000:Int)<(Z.length:Int))=true:=by simp;omega
   have B:decide (4000<Z.length)=true:=by simp;omega
   go_wp2_with fail;go_ret2;exact⟨_,[],2,rfl,b.out,Ql5 _ _ t.size,t.alloc t.size _⟩
 ·rw [Qaj j] at u;have U:=hid (QfZ j);obtain⟨P,q⟩:∃P,psZ R F T n l=P:=⟨_,rfl⟩;rw [q] at U;rw [q];clear q j;go_enter Tryz.func17,Tryz.ntmps17;go_wp2_with fail;try rw [z]
  clear z;refine u.mono ?_;rintro e w1 ⟨rfl,m⟩;have r:=hid (Qac M.out m);clear m u o I J;go_wp2_with fail;go_ret2;exact⟨_,[],1,rfl,U.out,Ql5 _ _ r.size,r.alloc r.size _⟩
def Qb8 (f:Nat ->Int)(p:Nat):Nat ->Nat
 | 0=>0
 | k+1=>Qb8 f p k+(f (p+k)%128).toNat*128^k
def Cnt (f:Nat ->Int)(n p m:Nat):Prop:=m<=9/\ (∀k,k<m ->p+k<n/\ 128<=f (p+k))/\ (p+m<n ->m<9 ->f (p+m)<128)
theorem Qlm (f:Nat ->Int)(n p:Nat):∃m,Cnt f n p m:=by
 have u:∀d m,m+d=9 ->(∀k,k<m ->p+k<n/\ 128<=f (p+k)) ->∃m',Cnt f n p m':=by
  intro d;induction d with
  | zero=>intro m r h;exact⟨m,by omega,h,fun _ h9=>by omega⟩
  | succ d ih=>
   intro m r h;by_cases q:p+m<n/\ 128<=f (p+m)
   ·exact ih (m+1) (by omega) (fun k hk=>by
     by_cases j:k=m
     ·subst j;exact q
     ·exact h k (by omega))
   ·exact⟨m,by omega,h,fun j _=>by omega⟩
 exact u 9 0 rfl (fun k hk=>by omega)
def guC (f:Nat ->Int)(n p m:Nat):Nat:=if n<=p+m then 1 else if m=9/\ 1<f (p+m) then 2 else if 0<m/\ f (p+m)=0 then 3 else 0
def guV (f:Nat ->Int)(n p m:Nat):Nat:=if guC f n p m=0 then Qb8 f p (m+1) else 0
def guA (f:Nat ->Int)(n p m:Nat):Nat:=if guC f n p m=0 then p+m+1 else p
theorem Qdf {f:Nat ->Int}(hf:Byt f)(p:Nat):∀k,Qb8 f p k<128^k
 | 0=>by simp [Qb8]
 | k+1=>by
  have m:=Qdf hf p k;have j:(f (p+k)%128).toNat<=127:=by have:=hf (p+k);omega
  have q:(f (p+k)%128).toNat*128^k<=127*128^k:=Nat.mul_le_mul_right _ j;show Qb8 f p k+_<_;rw [Nat.pow_succ];omega
theorem QoR {k:Nat}(h:k<=9):128^k<=9223372036854775808:=by
 have:=Nat.pow_le_pow_right (n:=128) (by omega) h;simpa using this
theorem Qfz {f:Nat ->Int}(hf:Byt f)(p m:Nat)(hm:m<=9)(h9:m=9 ->f (p+m)<=1):∀k,k<=m+1 ->Qb8 f p k<18446744073709551616:=by
 intro k z;by_cases h:k<=9
 ·have:=Qdf hf p k;have:=QoR h;omega
 ·obtain rfl:k=10:=by omega
  obtain rfl:m=9:=by omega
  have q:=Qdf hf p 9;have r:=h9 rfl;have u:=hf (p+9);have j:(f (p+9)%128).toNat<=1:=by omega
  have v:=QoR (k:=9) (by omega);show Qb8 f p 9+(f (p+9)%128).toNat*128^9<_;have y:(f (p+9)%128).toNat*128^9<=1*128^9:=Nat.mul_le_mul_right _ j;omega
theorem QgE (k:Nat)(w:World)(hk:k<=9):
  Calls Tryz.prog 95 #[.int .i64 (k:Int)] w fun e w'=>e=.returned (.int .u64 ((128^k:Nat):Int))/\ w'=w:=by
 go_enter Tryz.func95,Tryz.ntmps95;go_wp2_with fail;go_loop [3,4] (fun v i=>∃(j x:Nat),j<=k/\ Hid (x=128^j)/\ i=.int .i64 (j:Int)/\ v=.int .u64 (x:Int)) (fun _ i=>k - (intOf i).toNat);case atStart=>exact⟨0,1,Nat.zero_le _,hid (by simp),rfl,rfl⟩
 case round=>
  obtain⟨j,x,r,m,rfl,rfl⟩:=hrel;by_cases q:j<k
  ·have u:x<=72057594037927936:=by
    have:=Nat.pow_le_pow_right (n:=128) (by omega) (show j<=8 by omega);have e:=m.out;simp at this;omega
   go_wp2_with fail;go_round;case rel=>exact⟨j+1,x*128,q,hid (by have:=m.out;rw [Nat.pow_succ,this]),by go_num,by go_num⟩
   case measure=>simp [intOf];omega
  ·obtain rfl:j=k:=by omega
   go_wp2_with fail;go_ret;exact⟨Qft (by rw [m.out];simp),rfl⟩
theorem Ql9 {a b c a' b' c':Int}(h1:a=a')(h2:b=b')(h3:c=c'):Ending.returned (.tuple #[.int .u64 a,.int .i64 b,.int .i64 c])=.returned (.tuple #[.int .u64 a',.int .i64 b',.int .i64 c']):=by rw [h1,h2,h3]
theorem QjA (a:Option Addr)(n c:Nat)(x:Int)(w:World)(hn:n<=1048576)(hx:x<0 \/(n:Int)<x):
  Calls Tryz.prog 64 #[.slice a n c,.int .i64 x] w fun e w'=>e=.returned (.tuple #[.int .u64 0,.int .i64 x,.int .i64 1])/\ Below w.heap.size w w':=by
 by_cases j:x<0
 ·go_enter Tryz.func64,Tryz.ntmps64;go_wp2_with fail;go_ret3;exact⟨rfl,zI⟩
 ·have k:(n:Int)<x:=by omega
  go_enter Tryz.func64,Tryz.ntmps64;go_wp2_with fail;go_ret3;exact⟨rfl,zI⟩
theorem Qoe (a:Option Addr)(n c p m:Nat)(f:Nat ->Int)(w:World)(hn:n<=1048576)(hf:Byt f)(h:Seg w a n f)(hp:p<=n)(hm:Cnt f n p m):
  Calls Tryz.prog 64 #[.slice a n c,.int .i64 (p:Int)] w fun e w'=>e=.returned (.tuple #[.int .u64 (guV f n p m:Int),.int .i64 (guA f n p m:Int),.int .i64 (guC f n p m:Int)])/\ Below w.heap.size w w':=by
 by_cases Hw:p=n
 ·subst Hw;have Hv:m=0:=by
   rcases Nat.eq_zero_or_pos m with T|T
   ·exact T
   ·have:=(hm.2.1 0 T).1;omega
  subst Hv;have g:Hid (guC f p p 0=1):=by show _=_;unfold guC;rw [if_pos (by omega)]
  have o:Hid (guV f p p 0=0/\ guA f p p 0=p):=by show _/\ _;unfold guV guA;rw [g.out];simp
  clear h hf hm;go_enter Tryz.func64,Tryz.ntmps64;go_wp2_with fail;refine wp_loop_rounds 1 ?_;rw [rounds_succ];go_wp2_with fail;go_ret3;exact⟨Ql9 (by rw [o.1];rfl) (by rw [o.2]) (by rw [g.out];rfl),zI⟩
 rcases h with h|⟨b,off,rfl,W,hc⟩
 ·omega
 have Hm:=hid hm;have H1:=hm.1;clear hm;go_enter Tryz.func64,Tryz.ntmps64;go_wp2_with fail;go_loop [7] (fun i=>∃k:Nat,k<=m/\ i=.int .i64 (k:Int)) (fun i=>m - (intOf i).toNat);case atStart=>exact⟨0,Nat.zero_le _,rfl⟩
 case round=>
  obtain⟨k,hk,rfl⟩:=hrel;by_cases Hn:k<m
  ·have Hk:p+k<n:=(Hm.2.1 k Hn).1;have Hu:w.cell? ⟨b,off+(p+k),none⟩=some (.int .u8 (f (p+k))):=hc (p+k) Hk;have Hz:128<=f (p+k):=(Hm.2.1 k Hn).2;have H0:k<9:=by omega
   go_wp2_with fail;go_round;case rel=>exact⟨k+1,Hn,by go_num⟩
   case measure=>simp [intOf];omega
  ·obtain rfl:k=m:=by omega
   by_cases Hk:p+k<n
   ·obtain⟨z,hz⟩:∃z:Nat,f (p+k)=(z:Int):=⟨(f (p+k)).toNat,by have:=(hf (p+k)).1;omega⟩;have H3:z<256:=by have:=(hf (p+k)).2;omega
    have Hu:w.cell? ⟨b,off+(p+k),none⟩=some (.int .u8 (z:Int)):=by rw [hc (p+k) Hk,hz]
    have P:k<9 ->z<128:=fun J=>by have:=Hm.2.2 Hk J;omega
    have R:=hid hz;have Hl:=hid hc;clear hz hc;have F:9<=k ->1<z ->Hid (guC f n p k=2):=fun J h1=>by show _=_;unfold guC;rw [if_neg (by omega),if_pos ⟨by omega,by rw [R.out];omega⟩]
    have I:(9<=k ->z<=1) ->0<k ->z=0 ->Hid (guC f n p k=3):=fun J h1 T=>by show _=_;unfold guC;rw [if_neg (by omega),if_neg (by rw [R.out];omega),if_pos ⟨h1,by rw [R.out];omega⟩]
    have V:(9<=k ->z<=1) ->(0<k ->z≠0) ->Hid (guC f n p k=0):=fun J h1=>by show _=_;unfold guC;rw [if_neg (by omega),if_neg (by rw [R.out];omega),if_neg (by rw [R.out];omega)]
    have G:guC f n p k≠0 ->Hid (guV f n p k=0/\ guA f n p k=p):=fun hne=>by show _/\ _;unfold guV guA;rw [if_neg hne,if_neg hne];exact⟨rfl,rfl⟩
    have Z:guC f n p k=0 ->Hid (guV f n p k=Qb8 f p (k+1)/\ guA f n p k=p+k+1):=fun hne=>by show _/\ _;unfold guV guA;rw [if_pos hne,if_pos hne];exact⟨rfl,rfl⟩
    have Y:(9<=k ->z<=1) ->Hid (∀j,j<=k+1 ->Qb8 f p j<18446744073709551616):=fun J=>Qfz hf p k (by omega) (fun h=>by rw [R.out];have:=J (by omega);omega);by_cases J:k<9
    ·have H2:=P J;by_cases T:0<k
     ·by_cases H:z=0
      ·have Hd:z<=0:=by omega
       have g:=I (by omega) T H;have o:=G (by rw [g.out];omega);clear H F I V G Z Y P;go_wp2_with fail;go_ret3;exact⟨Ql9 (by rw [o.1];rfl) (by rw [o.2]) (by rw [g.out];rfl),zI⟩
      ·have Hd:0<z:=by omega
       have g:=V (by omega) (fun _=>H);have o:=Z g.out;have He:=Y (by omega);clear H F I V G Z Y P;go_wp2_with fail;go_loopw [9,10] (fun v i wr=>∃(j x:Nat),j<=k+1/\ Hid (x=Qb8 f p j)/\ i=.int .i64 (j:Int)/\ v=.int .u64 (x:Int)/\ Hid (Below w.heap.size w wr)) (fun _ i _=>k+1 - (intOf i).toNat);case atStart=>exact⟨0,0,Nat.zero_le _,hid rfl,rfl,rfl,hid zI⟩
       case round=>
        obtain⟨j,x,hj,D,rfl,rfl,s⟩:=hrel;by_cases Hp:j<=k
        ·have Hh:p+j<n:=by omega
         obtain⟨y,U⟩:∃y:Nat,f (p+j)=(y:Int):=⟨(f (p+j)).toNat,by have:=(hf (p+j)).1;omega⟩;have Hs:y<256:=by have:=(hf (p+j)).2;omega
         have N:wr.cell? ⟨b,off+(p+j),none⟩=some (.int .u8 (y:Int)):=by rw [s.cell (p:=⟨b,_,none⟩) W,Hl.out (p+j) Hh,U]
         have Ho:=Nat.lt_of_lt_of_le W s.size;obtain⟨t,O⟩:∃t:Nat,t=128^j:=⟨_,rfl⟩;have A:Qb8 f p (j+1)=x+y%128*t:=by
          show Qb8 f p j+_=_;rw [D.out,O,U];congr 2
         have B:=He (j+1) (by omega);rw [A] at B;have Hj:y%128*t<18446744073709551616:=by omega
         have HT:=hid O;have Hg:j<=9:=by omega
         obtain⟨q,X⟩:∃q:Nat,q=p+j:=⟨_,rfl⟩;have Hr:IntKind.i64.wrap ((p:Int)+(j:Int))=(q:Int):=by rw [Qan _ (by omega) (by omega)];omega
         have Hq:(0:Int)<=(q:Int):=Int.natCast_nonneg _;have Hi:(q:Int)<(n:Int):=by omega
         rw [<- X] at N;obtain⟨r,M⟩:∃r:Nat,r=y%128*t:=⟨_,rfl⟩;obtain⟨E,C⟩:∃E:Nat,E=x+r:=⟨_,rfl⟩;have Ha:IntKind.u64.wrap ((x:Int)+(r:Int))=(E:Int):=by rw [IntKind.wrap_u64];omega
         obtain⟨u,Q⟩:∃u:Nat,u=y%128:=⟨_,rfl⟩;have Hb:IntKind.u64.wrap ((y:Int).tmod 128)=(u:Int):=by rw [Int.tmod_eq_emod_of_nonneg (by omega),IntKind.wrap_u64];omega
         have Hc:IntKind.u64.wrap ((u:Int)*(t:Int))=(r:Int):=by
          have e:((u*t:Nat):Int)=(u:Int)*(t:Int):=by push_cast;rfl
          rw [Q,<- M] at e;rw [IntKind.wrap_u64,Q,<- e];omega
         rw [<- M,<- C] at A;have HS:=hid A;clear U A O X M Hj B C Q;go_wp2_with fail;refine zR (S:=fun w'=>Below wr.heap.size wr w'/\ w'.cell? ⟨b,off+q,none⟩=some (.int .u8 (y:Int))) ⟨zI.drew,N⟩ (fun qh=> ?_);refine tZ 0 73 ?_;refine tZ 1 74 ?_;refine tZ 2 75 ?_;refine tZ 3 76 ?_;refine tZ 4 77 ?_;refine tZ 5 78 ?_;refine tZ 6 79 ?_;refine tZ 7 80 ?_;refine tZ 8 81 ?_;refine tZ 9 82 ?_;refine cZ 10 ?_;intro K L;go_simp;refine(QgE j _ Hg).mono ?_;rintro e w2 ⟨rfl,rfl⟩;rw [<- HT.out];refine L.out _ _ ⟨qh.1,qh.2⟩ (fun qh=> ?_);clear L K;try simp only [zP]
         refine tZ 11 84 ?_;refine tZ 12 85 ?_;refine tZ 13 9 ?_;refine zD ?_;have Hf:=hid qh.1;clear qh;go_wp2_with fail;go_roundw;case rel=>exact⟨j+1,E,by omega,hid (HS.symm),by go_num,by first|rfl|(simp only [Hb,Hc,Ha]),hid (s.trans (Hf.mono s.size))⟩
         case measure=>simp [intOf];omega
        ·obtain rfl:j=k+1:=by omega
         go_wp2_with fail;go_ret3;exact⟨Ql9 (by rw [o.1,D.out]) (by rw [o.2];simp<;>omega) (by rw [g.out];rfl),s.out⟩
     ·have Hy:k<=0:=by omega
      have g:=V (by omega) (by omega);have o:=Z g.out;have He:=Y (by omega);clear F I V G Z Y P;go_wp2_with fail;go_loopw [9,10] (fun v i wr=>∃(j x:Nat),j<=k+1/\ Hid (x=Qb8 f p j)/\ i=.int .i64 (j:Int)/\ v=.int .u64 (x:Int)/\ Hid (Below w.heap.size w wr)) (fun _ i _=>k+1 - (intOf i).toNat);case atStart=>exact⟨0,0,Nat.zero_le _,hid rfl,rfl,rfl,hid zI⟩
      case round=>
       obtain⟨j,x,hj,D,rfl,rfl,s⟩:=hrel;by_cases Hp:j<=k
       ·have Hh:p+j<n:=by omega
        obtain⟨y,U⟩:∃y:Nat,f (p+j)=(y:Int):=⟨(f (p+j)).toNat,by have:=(hf (p+j)).1;omega⟩;have Hs:y<256:=by have:=(hf (p+j)).2;omega
        have N:wr.cell? ⟨b,off+(p+j),none⟩=some (.int .u8 (y:Int)):=by rw [s.cell (p:=⟨b,_,none⟩) W,Hl.out (p+j) Hh,U]
        have Ho:=Nat.lt_of_lt_of_le W s.size;obtain⟨t,O⟩:∃t:Nat,t=128^j:=⟨_,rfl⟩;have A:Qb8 f p (j+1)=x+y%128*t:=by
         show Qb8 f p j+_=_;rw [D.out,O,U];congr 2
        have B:=He (j+1) (by omega);rw [A] at B;have Hj:y%128*t<18446744073709551616:=by omega
        have HT:=hid O;have Hg:j<=9:=by omega
        obtain⟨q,X⟩:∃q:Nat,q=p+j:=⟨_,rfl⟩;have Hr:IntKind.i64.wrap ((p:Int)+(j:Int))=(q:Int):=by rw [Qan _ (by omega) (by omega)];omega
        have Hq:(0:Int)<=(q:Int):=Int.natCast_nonneg _;have Hi:(q:Int)<(n:Int):=by omega
        rw [<- X] at N;obtain⟨r,M⟩:∃r:Nat,r=y%128*t:=⟨_,rfl⟩;obtain⟨E,C⟩:∃E:Nat,E=x+r:=⟨_,rfl⟩;have Ha:IntKind.u64.wrap ((x:Int)+(r:Int))=(E:Int):=by rw [IntKind.wrap_u64];omega
        obtain⟨u,Q⟩:∃u:Nat,u=y%128:=⟨_,rfl⟩;have Hb:IntKind.u64.wrap ((y:Int).tmod 128)=(u:Int):=by rw [Int.tmod_eq_emod_of_nonneg (by omega),IntKind.wrap_u64];omega
        have Hc:IntKind.u64.wrap ((u:Int)*(t:Int))=(r:Int):=by
         have e:((u*t:Nat):Int)=(u:Int)*(t:Int):=by push_cast;rfl
         rw [Q,<- M] at e;rw [IntKind.wrap_u64,Q,<- e];omega
        rw [<- M,<- C] at A;have HS:=hid A;clear U A O X M Hj B C Q;go_wp2_with fail;refine zR (S:=fun w'=>Below wr.heap.size wr w'/\ w'.cell? ⟨b,off+q,none⟩=some (.int .u8 (y:Int))) ⟨zI.drew,N⟩ (fun qh=> ?_);refine tZ 0 73 ?_;refine tZ 1 74 ?_;refine tZ 2 75 ?_;refine tZ 3 76 ?_;refine tZ 4 77 ?_;refine tZ 5 78 ?_;refine tZ 6 79 ?_;refine tZ 7 80 ?_;refine tZ 8 81 ?_;refine tZ 9 82 ?_;refine cZ 10 ?_;intro K L;go_simp;refine(QgE j _ Hg).mono ?_;rintro e w2 ⟨rfl,rfl⟩;rw [<- HT.out];refine L.out _ _ ⟨qh.1,qh.2⟩ (fun qh=> ?_);clear L K;try simp only [zP]
        refine tZ 11 84 ?_;refine tZ 12 85 ?_;refine tZ 13 9 ?_;refine zD ?_;have Hf:=hid qh.1;clear qh;go_wp2_with fail;go_roundw;case rel=>exact⟨j+1,E,by omega,hid (HS.symm),by go_num,by first|rfl|(simp only [Hb,Hc,Ha]),hid (s.trans (Hf.mono s.size))⟩
        case measure=>simp [intOf];omega
       ·obtain rfl:j=k+1:=by omega
        go_wp2_with fail;go_ret3;exact⟨Ql9 (by rw [o.1,D.out]) (by rw [o.2];simp<;>omega) (by rw [g.out];rfl),s.out⟩
    ·have Ht:9<=k:=by omega
     by_cases Hx:1<z
     ·skip;have g:=F Ht Hx;have o:=G (by rw [g.out];omega);clear F I V G Z Y P;go_wp2_with fail;go_ret3;exact⟨Ql9 (by rw [o.1];rfl) (by rw [o.2]) (by rw [g.out];rfl),zI⟩
     ·by_cases H:z=0
      ·have Hd:z<=0:=by omega
       have g:=I (by omega) (by omega) H;have o:=G (by rw [g.out];omega);clear H F I V G Z Y P;go_wp2_with fail;go_ret3;exact⟨Ql9 (by rw [o.1];rfl) (by rw [o.2]) (by rw [g.out];rfl),zI⟩
      ·have Hd:0<z:=by omega
       have g:=V (by omega) (fun _=>H);have o:=Z g.out;have He:=Y (by omega);clear H F I V G Z Y P;go_wp2_with fail;go_loopw [9,10] (fun v i wr=>∃(j x:Nat),j<=k+1/\ Hid (x=Qb8 f p j)/\ i=.int .i64 (j:Int)/\ v=.int .u64 (x:Int)/\ Hid (Below w.heap.size w wr)) (fun _ i _=>k+1 - (intOf i).toNat);case atStart=>exact⟨0,0,Nat.zero_le _,hid rfl,rfl,rfl,hid zI⟩
       case round=>
        obtain⟨j,x,hj,D,rfl,rfl,s⟩:=hrel;by_cases Hp:j<=k
        ·have Hh:p+j<n:=by omega
         obtain⟨y,U⟩:∃y:Nat,f (p+j)=(y:Int):=⟨(f (p+j)).toNat,by have:=(hf (p+j)).1;omega⟩;have Hs:y<256:=by have:=(hf (p+j)).2;omega
         have N:wr.cell? ⟨b,off+(p+j),none⟩=some (.int .u8 (y:Int)):=by rw [s.cell (p:=⟨b,_,none⟩) W,Hl.out (p+j) Hh,U]
         have Ho:=Nat.lt_of_lt_of_le W s.size;obtain⟨t,O⟩:∃t:Nat,t=128^j:=⟨_,rfl⟩;have A:Qb8 f p (j+1)=x+y%128*t:=by
          show Qb8 f p j+_=_;rw [D.out,O,U];congr 2
         have B:=He (j+1) (by omega);rw [A] at B;have Hj:y%128*t<18446744073709551616:=by omega
         have HT:=hid O;have Hg:j<=9:=by omega
         obtain⟨q,X⟩:∃q:Nat,q=p+j:=⟨_,rfl⟩;have Hr:IntKind.i64.wrap ((p:Int)+(j:Int))=(q:Int):=by rw [Qan _ (by omega) (by omega)];omega
         have Hq:(0:Int)<=(q:Int):=Int.natCast_nonneg _;have Hi:(q:Int)<(n:Int):=by omega
         rw [<- X] at N;obtain⟨r,M⟩:∃r:Nat,r=y%128*t:=⟨_,rfl⟩;obtain⟨E,C⟩:∃E:Nat,E=x+r:=⟨_,rfl⟩;have Ha:IntKind.u64.wrap ((x:Int)+(r:Int))=(E:Int):=by rw [IntKind.wrap_u64];omega
         obtain⟨u,Q⟩:∃u:Nat,u=y%128:=⟨_,rfl⟩;have Hb:IntKind.u64.wrap ((y:Int).tmod 128)=(u:Int):=by rw [Int.tmod_eq_emod_of_nonneg (by omega),IntKind.wrap_u64];omega
         have Hc:IntKind.u64.wrap ((u:Int)*(t:Int))=(r:Int):=by
          have e:((u*t:Nat):Int)=(u:Int)*(t:Int):=by push_cast;rfl
          rw [Q,<- M] at e;rw [IntKind.wrap_u64,Q,<- e];omega
         rw [<- M,<- C] at A;have HS:=hid A;clear U A O X M Hj B C Q;go_wp2_with fail;refine zR (S:=fun w'=>Below wr.heap.size wr w'/\ w'.cell? ⟨b,off+q,none⟩=some (.int .u8 (y:Int))) ⟨zI.drew,N⟩ (fun qh=> ?_);refine tZ 0 73 ?_;refine tZ 1 74 ?_;refine tZ 2 75 ?_;refine tZ 3 76 ?_;refine tZ 4 77 ?_;refine tZ 5 78 ?_;refine tZ 6 79 ?_;refine tZ 7 80 ?_;refine tZ 8 81 ?_;refine tZ 9 82 ?_;refine cZ 10 ?_;intro K L;go_simp;refine(QgE j _ Hg).mono ?_;rintro e w2 ⟨rfl,rfl⟩;rw [<- HT.out];refine L.out _ _ ⟨qh.1,qh.2⟩ (fun qh=> ?_);clear L K;try simp only [zP]
         refine tZ 11 84 ?_;refine tZ 12 85 ?_;refine tZ 13 9 ?_;refine zD ?_;have Hf:=hid qh.1;clear qh;go_wp2_with fail;go_roundw;case rel=>exact⟨j+1,E,by omega,hid (HS.symm),by go_num,by first|rfl|(simp only [Hb,Hc,Ha]),hid (s.trans (Hf.mono s.size))⟩
         case measure=>simp [intOf];omega
        ·obtain rfl:j=k+1:=by omega
         go_wp2_with fail;go_ret3;exact⟨Ql9 (by rw [o.1,D.out]) (by rw [o.2];simp<;>omega) (by rw [g.out];rfl),s.out⟩
   ·have g:Hid (guC f n p k=1):=by show _=_;unfold guC;rw [if_pos (by omega)]
    have o:Hid (guV f n p k=0/\ guA f n p k=p):=by show _/\ _;unfold guV guA;rw [g.out];simp
    go_wp2_with fail;go_ret3;exact⟨Ql9 (by rw [o.1];rfl) (by rw [o.2]) (by rw [g.out];rfl),zI⟩
open Go.Extern.Stop Go.Stop Go.Extern
variable {EX : Nat -> Option Value}
structure QcQ (w:World)(B:Nat)(aT aS aL aE:Addr):Prop where
 gT:w.cell? ⟨11,0,none⟩=some (.iface 270 (.pointer (some aT)))
 gS:w.cell? ⟨12,0,none⟩=some (.iface 270 (.pointer (some aS)))
 gE:w.cell? ⟨10,0,none⟩=some (.iface 270 (.pointer (some aE)))
 nTS:aT≠aS
 nTE:aT≠aE
 nSE:aS≠aE
 bT:∃c t,w.heap[aT.block]? =some (.cells c t (0,0))
 bS:∃c t,w.heap[aS.block]? =some (.cells c t (0,0))
 bE:∃c t,w.heap[aE.block]? =some (.cells c t (0,0))
 gM:∃v,w.cell? ⟨4,0,none⟩=some (.iface 270 v)
 gO:∃v,w.cell? ⟨5,0,none⟩=some (.iface 270 v)
 gN:∃v,w.cell? ⟨9,0,none⟩=some (.iface 270 v)
 x0:∃v,w.cell? ⟨0,0,none⟩=some (.iface 270 v)
 x1:∃v,w.cell? ⟨1,0,none⟩=some (.iface 270 v)
 x2:∃v,w.cell? ⟨7,0,none⟩=some (.iface 270 v)
 x3:∃v,w.cell? ⟨6,0,none⟩=some (.iface 270 v)
 x4:∃v,w.cell? ⟨3,0,none⟩=some (.iface 270 v)
 x5:∃v,w.cell? ⟨2,0,none⟩=some (.iface 270 v)
 x6:∃v,w.cell? ⟨8,0,none⟩=some (.iface 270 v)
 x7:∃v,w.cell? ⟨13,0,none⟩=some (.iface 270 v)
 x8:∃v,w.cell? ⟨14,0,none⟩=some (.iface 270 v)
 lG:15<=B
 lT:aT.block<B
 lS:aS.block<B
 lE:aE.block<B
theorem QcQ.below {w w':World}{B:Nat}{aT aS aL aE:Addr}(h:QcQ w B aT aS aL aE)(hb:Below B w w'):QcQ w' B aT aS aL aE:=by
 have k:=h.lG;exact{
     gT:=(hb.cell (p:=⟨11,0,none⟩) (Nat.lt_of_lt_of_le (by decide) k)).trans h.gT,
     gS:=(hb.cell (p:=⟨12,0,none⟩) (Nat.lt_of_lt_of_le (by decide) k)).trans h.gS,
     gE:=(hb.cell (p:=⟨10,0,none⟩) (Nat.lt_of_lt_of_le (by decide) k)).trans h.gE,
     nTS:=h.nTS,nTE:=h.nTE,nSE:=h.nSE,
     bT:=by rw [hb.block _ h.lT];exact h.bT,
     bS:=by rw [hb.block _ h.lS];exact h.bS,
     bE:=by rw [hb.block _ h.lE];exact h.bE,
     gM:=by obtain⟨v,j⟩:=h.gM;exact⟨v,(hb.cell (p:=⟨4,0,none⟩) (Nat.lt_of_lt_of_le (by decide) k)).trans j⟩,
     gO:=by obtain⟨v,j⟩:=h.gO;exact⟨v,(hb.cell (p:=⟨5,0,none⟩) (Nat.lt_of_lt_of_le (by decide) k)).trans j⟩,
     gN:=by obtain⟨v,j⟩:=h.gN;exact⟨v,(hb.cell (p:=⟨9,0,none⟩) (Nat.lt_of_lt_of_le (by decide) k)).trans j⟩,
     x0:=by obtain⟨v,j⟩:=h.x0;exact⟨v,(hb.cell (p:=⟨0,0,none⟩) (Nat.lt_of_lt_of_le (by decide) k)).trans j⟩,
     x1:=by obtain⟨v,j⟩:=h.x1;exact⟨v,(hb.cell (p:=⟨1,0,none⟩) (Nat.lt_of_lt_of_le (by decide) k)).trans j⟩,
     x2:=by obtain⟨v,j⟩:=h.x2;exact⟨v,(hb.cell (p:=⟨7,0,none⟩) (Nat.lt_of_lt_of_le (by decide) k)).trans j⟩,
     x3:=by obtain⟨v,j⟩:=h.x3;exact⟨v,(hb.cell (p:=⟨6,0,none⟩) (Nat.lt_of_lt_of_le (by decide) k)).trans j⟩,
     x4:=by obtain⟨v,j⟩:=h.x4;exact⟨v,(hb.cell (p:=⟨3,0,none⟩) (Nat.lt_of_lt_of_le (by decide) k)).trans j⟩,
     x5:=by obtain⟨v,j⟩:=h.x5;exact⟨v,(hb.cell (p:=⟨2,0,none⟩) (Nat.lt_of_lt_of_le (by decide) k)).trans j⟩,
     x6:=by obtain⟨v,j⟩:=h.x6;exact⟨v,(hb.cell (p:=⟨8,0,none⟩) (Nat.lt_of_lt_of_le (by decide) k)).trans j⟩,
     x7:=by obtain⟨v,j⟩:=h.x7;exact⟨v,(hb.cell (p:=⟨13,0,none⟩) (Nat.lt_of_lt_of_le (by decide) k)).trans j⟩,
     x8:=by obtain⟨v,j⟩:=h.x8;exact⟨v,(hb.cell (p:=⟨14,0,none⟩) (Nat.lt_of_lt_of_le (by decide) k)).trans j⟩,
     lG:=h.lG,lT:=h.lT,lS:=h.lS,lE:=h.lE}
def Cur (EX:Nat ->Option Value)(w:World)(cb:Nat)(a:Option Addr)(n c:Nat)(x:Int):Prop:=w.cell? ⟨cb,0,none⟩=some (.slice a n c)/\ w.cell? ⟨cb,1,none⟩=some (.int .i64 x)/\ w.frozen? ⟨cb,1,none⟩=false/\∀i,2<=i ->w.cell? ⟨cb,i,none⟩=EX i/\ w.frozen? ⟨cb,i,none⟩=false
theorem Cur.lt {w:World}{cb:Nat}{a:Option Addr}{n c:Nat}{x:Int}(h:Cur EX w cb a n c x):cb<w.heap.size:=by
 rcases Nat.lt_or_ge cb w.heap.size with j|j
 ·exact j
 ·have:=h.1;simp [World.cell?,Array.getElem?_eq_none j] at this
theorem Cur.below {w w':World}{B cb:Nat}{a:Option Addr}{n c:Nat}{x:Int}(h:Cur EX w cb a n c x)(hb:Below B w w')(hB:cb<B):Cur EX w' cb a n c x:=
 ⟨(hb.cell (p:=⟨cb,0,none⟩) hB).trans h.1,(hb.cell (p:=⟨cb,1,none⟩) hB).trans h.2.1,(hb.frozen (p:=⟨cb,1,none⟩) hB).trans h.2.2.1,fun i hi=>⟨(hb.cell (p:=⟨cb,i,none⟩) hB).trans (h.2.2.2 i hi).1,(hb.frozen (p:=⟨cb,i,none⟩) hB).trans (h.2.2.2 i hi).2⟩⟩
theorem Cur.set {w:World}{cb:Nat}{a:Option Addr}{n c:Nat}{x:Int}(h:Cur EX w cb a n c x)(y:Int):Cur EX (w.setCell ⟨cb,1,none⟩ (.int .i64 y)) cb a n c y:=by
 obtain⟨j,k,m,q⟩:=h;refine⟨?_,?_,?_,fun i hi=> ?_⟩
 ·simp [World.cell?_setCell_other,j]
 ·exact World.cell?_setCell_same _ _ _ k
 ·rw [World.frozen?_setCell];exact m
 ·rw [World.cell?_setCell_other _ _ _ _ (by intro e;injection e with _ e;omega),World.frozen?_setCell];exact q i hi
theorem Cur.at' {w w':World}{cb:Nat}{a:Option Addr}{n c:Nat}{x:Int}(h:Cur EX w cb a n c x)(hb:w'.heap[cb]? =w.heap[cb]?):Cur EX w' cb a n c x:=
 ⟨(World.cell?_of_block (a:=⟨cb,0,none⟩) hb).trans h.1,(World.cell?_of_block (a:=⟨cb,1,none⟩) hb).trans h.2.1,(World.frozen?_of_block (a:=⟨cb,1,none⟩) hb).trans h.2.2.1,fun i hi=>⟨(World.cell?_of_block (a:=⟨cb,i,none⟩) hb).trans (h.2.2.2 i hi).1,(World.frozen?_of_block (a:=⟨cb,i,none⟩) hb).trans (h.2.2.2 i hi).2⟩⟩
theorem QdL {w w1:World}{cb i:Nat}(h:w.grownBy w1 none)(v:Value):w.grownBy (w1.setCell ⟨cb,i,none⟩ v) (some cb):=by
 refine⟨h.os,h.tape,h.output,?_,fun k hk hne=> ?_⟩
 ·have:=h.size;simpa [World.setCell] using this
 ·exact(zH _ _ _ _ (fun e=>hne (by rw [e]))).trans (h.block k hk (by simp))
theorem Qa3 (w:World)(n:Nat)(row:Option Nat):w.grownBy (w.drewN n) row:=⟨rfl,rfl,rfl,Nat.le_refl _,fun _ _ _=>rfl⟩
theorem Qbb {B:Nat}{a w:World}(h:Below B a w)(n:Nat):Below B a (w.drewN n):=⟨h.os,h.tape,h.output,h.size,h.block⟩
theorem Qfl (cb:Nat)(a:Option Addr)(n c:Nat)(x:Int)(aE:Addr)(w:World)(hn:n<=1048576)(hcur:Cur EX w cb a n c x)(hx:x<0 \/(n:Int)<=x)(hg:w.cell? ⟨10,0,none⟩=some (.iface 270 (.pointer (some aE)))):
  Calls Tryz.prog 122 #[.pointer (some ⟨cb,0,none⟩)] w fun e w'=>e=.returned (.tuple #[.int .u8 0,.iface 270 (.pointer (some aE))])/\ Below w.heap.size w w':=by
 obtain⟨q,r,u,_⟩:=hcur;by_cases j:x<0
 ·go_enter Tryz.func122,Tryz.ntmps122;go_wp2_with fail;go_quiet (fail);go_wp2_with fail;go_quiet (fail);go_wp2_with fail;go_ret2;exact⟨rfl,by simp;exact Qbb zI _⟩
 ·have k:(n:Int)<=x:=by omega
  have m:decide (x<0)=false:=by simpa using j
  go_enter Tryz.func122,Tryz.ntmps122;go_wp2_with fail;go_quiet (fail);go_wp2_with fail;go_quiet (fail);go_wp2_with fail;go_ret2;exact⟨rfl,by simp;exact Qbb zI _⟩
theorem Qjl (cb b off n c p:Nat)(z:Int)(w:World)(hn:n<=1048576)(hcur:Cur EX w cb (some ⟨b,off,none⟩) n c (p:Int))(hp:p<n)(hc:w.cell? ⟨b,off+p,none⟩=some (.int .u8 z)):
  Calls Tryz.prog 122 #[.pointer (some ⟨cb,0,none⟩)] w fun e w'=>e=.returned (.tuple #[.int .u8 z,.nilIface])/\ Cur EX w' cb (some ⟨b,off,none⟩) n c ((p+1:Nat):Int)/\ w.grownBy w' (some cb):=by
 have j:=hid hcur;obtain⟨u,v,y,_⟩:=hcur;have m:decide ((p:Int)<0)=false:=by simp
 have k:decide ((n:Int)<=(p:Int))=false:=by simp;omega
 have q:(0:Int)<=(p:Int):=Int.natCast_nonneg _;have r:(p:Int)<(n:Int):=by omega
 go_enter Tryz.func122,Tryz.ntmps122;go_wp2_with fail;go_quiet (fail);go_wp2_with fail;go_quiet (fail);go_wp2_with fail;go_ret2;refine⟨rfl,?_,?_⟩
 ·first|exact j.set _|(simp;exact j.set _)
 ·first|exact QdL (Qa3 _ _ _) _|(simp;exact QdL (Qa3 _ _ _) _)
theorem Qoo (z j:Nat)(w:World)(hz:z<256)(h9:9<=j ->z<=1)(h0:0<j ->0<z)(hj:j<=9):
  Calls Tryz.prog 123 #[.int .u8 (z:Int),.int .i64 (j:Int)] w fun e w'=>e=.returned .nilIface/\ w'=w:=by
 by_cases m:9<=j
 ·have r:=h9 m;have q:=h0 (by omega);clear h9 h0;go_enter Tryz.func123,Tryz.ntmps123;go_wp2_with fail;go_ret;exact⟨rfl,rfl⟩
 ·by_cases k:0<j
  ·have q:=h0 k;clear h9 h0;go_enter Tryz.func123,Tryz.ntmps123;go_wp2_with fail;go_ret;exact⟨rfl,rfl⟩
  ·clear h9 h0;go_enter Tryz.func123,Tryz.ntmps123;go_wp2_with fail;go_ret;exact⟨rfl,rfl⟩
theorem QkW (z j:Nat)(aT:Addr)(w:World)(hz:z<256)(hz1:1<z)(hj9:9<=j)(hj:j<=9)(hg:w.cell? ⟨11,0,none⟩=some (.iface 270 (.pointer (some aT)))):
  Calls Tryz.prog 123 #[.int .u8 (z:Int),.int .i64 (j:Int)] w fun e w'=>e=.returned (.iface 270 (.pointer (some aT)))/\ w'=w:=by
 go_enter Tryz.func123,Tryz.ntmps123;go_wp2_with fail;go_ret;exact⟨rfl,rfl⟩
theorem QkV (z j:Nat)(aS:Addr)(w:World)(hz:z<=0)(hj:0<j)(hj9:j<=9)(hg:w.cell? ⟨12,0,none⟩=some (.iface 270 (.pointer (some aS)))):
  Calls Tryz.prog 123 #[.int .u8 (z:Int),.int .i64 (j:Int)] w fun e w'=>e=.returned (.iface 270 (.pointer (some aS)))/\ w'=w:=by
 by_cases k:9<=j
 ·go_enter Tryz.func123,Tryz.ntmps123;go_wp2_with fail;go_ret;exact⟨rfl,rfl⟩
 ·go_enter Tryz.func123,Tryz.ntmps123;go_wp2_with fail;go_ret;exact⟨rfl,rfl⟩
variable {EX : Nat -> Option Value}
def Plc (w:World)(pb:Nat)(x:Int)(u:Value):Prop:=w.cell? ⟨pb,1,none⟩=some (.int .i64 x)/\ w.cell? ⟨pb,2,none⟩=some u/\ pb<w.heap.size
theorem Qaf {w w1 w2:World}{cb:Nat}(h1:w.grownBy w1 (some cb))(h2:w1.grownBy w2 (some cb)):w.grownBy w2 (some cb):=
 h1.andThen h2 (fun j hj=> .inr hj)
theorem Qag {w w1 w2:World}{cb:Nat}(h1:w.grownBy w1 (some cb))(h2:Below w1.heap.size w1 w2):w.grownBy w2 (some cb):=
 Qaf h1 ⟨h2.os,h2.tape,h2.output,h2.size,fun k hk _=>h2.block k hk⟩
theorem Qbm (w:World)(row:Option Nat):w.grownBy w row:=⟨rfl,rfl,rfl,Nat.le_refl _,fun _ _ _=>rfl⟩
theorem Qpd (cb B:Nat)(a:Option Addr)(n c:Nat)(x:Int)(aT aS aL aE:Addr)(w:World)(hn:n<=1048576)(hcur:Cur EX w cb a n c x)(hx:x<0 \/(n:Int)<=x)(hE:QcQ w B aT aS aL aE):
  Calls Tryz.prog 98 #[.pointer (some ⟨cb,0,none⟩)] w fun e w'=>∃pb,e=.returned (.tuple #[.int .u64 0,.iface 98 (.pointer (some ⟨pb,0,none⟩))])/\ w.heap.size<=pb/\ Plc w' pb x (.iface 270 (.pointer (some aE)))/\ Below w.heap.size w w':=by
 have q:=hid hcur;have r:=hid hE;obtain⟨u,v,y,_⟩:=hcur;clear hE;go_enter Tryz.func98,Tryz.ntmps98;go_wp2_with fail;refine wp_loop_rounds 1 ?_;rw [rounds_succ];go_wp2_with fail;refine(Qfl cb a n c x aE _ hn q.out hx r.gE).mono ?_;rintro e w1 ⟨rfl,j⟩;have k:=j.size;have m:=hid j;clear j;go_wp2_with fail;go_ret2;refine⟨_,rfl,k,⟨by simp,by simp,by simp⟩,m.alloc k _⟩
theorem QlQ (z:Nat)(h:z<256):bits BinOp.and IntKind.u8 (z:Int) 127=((z%128:Nat):Int):=by
 have:=u8_and_nat z 127 (by omega) (by omega);rw [show (127:Nat)=2^7 - 1 from rfl,Nat.and_two_pow_sub_one_eq_mod] at this;exact this
theorem QnV (x y j:Nat)(hx:x<128^j)(h:x+y*128^j<18446744073709551616):bits BinOp.or IntKind.u64 (x:Int) ((y*128^j:Nat):Int)=((x+y*128^j:Nat):Int):=by
 have e:=u64_or_nat x (y*128^j) (by omega) (by omega);have m:x|||(y*128^j)=x+y*128^j:=by
  have k:128^j=2^(7*j):=by rw [Nat.pow_mul]
  rw [k] at hx ⊢;have:=Nat.two_pow_add_eq_or_of_lt (i:=7*j) (b:=x) hx y;rw [Nat.or_comm,Nat.mul_comm y];omega
 rw [m] at e;exact e
variable {EX : Nat -> Option Value}
def adr (aT aS aE:Addr)(k:Nat):Addr:=if k=1 then aE else if k=2 then aT else aS
theorem QhN (x z j:Nat)(hz:z<256)(hx:x<128^j)(h:x+z%128*128^j<18446744073709551616):
  bits BinOp.or IntKind.u64 (x:Int) (IntKind.u64.wrap (IntKind.u64.wrap (bits BinOp.and IntKind.u8 (z:Int) 127)*2^(7*j)))=((x+z%128*128^j:Nat):Int):=by
 have k:((2:Int)^(7*j))=((128^j:Nat):Int):=by
  rw [Int.pow_mul];push_cast;rfl
 have m:IntKind.u64.wrap ((z%128:Nat):Int)=((z%128:Nat):Int):=by rw [IntKind.wrap_u64];omega
 have r:((z%128:Nat):Int)*((128^j:Nat):Int)=((z%128*128^j:Nat):Int):=by push_cast;rfl
 have u:IntKind.u64.wrap ((z%128*128^j:Nat):Int)=((z%128*128^j:Nat):Int):=by
  obtain⟨q,v⟩:∃q:Nat,q=z%128*128^j:=⟨_,rfl⟩;rw [<- v] at h ⊢;rw [IntKind.wrap_u64];omega
 rw [QlQ z hz,k,m,r,u];exact QnV x (z%128) j hx h
theorem QcN {f:Nat ->Int}{p j z:Nat}(hz:f (p+j)=(z:Int)):Qb8 f p (j+1)=Qb8 f p j+z%128*128^j:=by
 show Qb8 f p j+_=_;rw [hz];congr 2
theorem Qp3 (cb B b off n c p m:Nat)(f:Nat ->Int)(aT aS aL aE:Addr)(w:World)(hn:n<=1048576)(hf:Byt f)(hcur:Cur EX w cb (some ⟨b,off,none⟩) n c (p:Int))(hp:p<n)(hm:Cnt f n p m)(hE:QcQ w B aT aS aL aE)(hBc:B<=cb)(hbc:b≠cb)(hb:b<w.heap.size)
  (hc:∀i,i<n ->w.cell? ⟨b,off+i,none⟩=some (.int .u8 (f i))):
  Calls Tryz.prog 98 #[.pointer (some ⟨cb,0,none⟩)] w fun e w'=>w.grownBy w' (some cb)/\ ((guC f n p m=0/\ e=.returned (.tuple #[.int .u64 (guV f n p m:Int),.nilIface])/\ Cur EX w' cb (some ⟨b,off,none⟩) n c (guA f n p m:Int)) \/
   (guC f n p m≠0/\∃pb,e=.returned (.tuple #[.int .u64 0,.iface 98 (.pointer (some ⟨pb,0,none⟩))])/\ w.heap.size<=pb/\ Plc w' pb (p:Int) (.iface 270 (.pointer (some (adr aT aS aE (guC f n p m)))))/\∃x,Cur EX w' cb (some ⟨b,off,none⟩) n c x)):=by
 have X:=hid hcur;have O:=hid hE;have M:=hid hm;have C:=hid hc;have N:=hm.1;have He:=hcur.lt;have U:B<=w.heap.size:=by omega
 obtain⟨k0,k1,k2,_⟩:=hcur;clear hE hm hc;go_enter Tryz.func98,Tryz.ntmps98;go_wp2_with fail;go_loopw [5,6] (fun v i wr=>∃(j x:Nat),j<=m/\ Hid (x=Qb8 f p j)/\ i=.int .i64 (j:Int)/\ v=.int .u64 (x:Int)/\ Hid (Cur EX wr cb (some ⟨b,off,none⟩) n c ((p+j:Nat):Int))/\ Hid (w.grownBy wr (some cb))) (fun _ i _=>m - (intOf i).toNat);case atStart=>exact⟨0,0,Nat.zero_le _,hid rfl,rfl,rfl,X,hid (Qbm _ _)⟩
 case round=>
  clear k0 k1 k2;obtain⟨j,x,hj,g,rfl,rfl,s,A⟩:=hrel;have P:=hid ((Below.refl B w).grown A.out U (fun k hk=>by injection hk with hk;omega));have R:=hid (O.below P.out);by_cases E:p+j<n
  ·obtain⟨z,G⟩:∃z:Nat,f (p+j)=(z:Int):=⟨(f (p+j)).toNat,by have:=(hf (p+j)).1;omega⟩;have t:z<256:=by have:=(hf (p+j)).2;omega
   have Hb:Hid (wr.cell? ⟨b,off+(p+j),none⟩=some (.int .u8 (z:Int))):=by
    show _=_;rw [World.cell?_of_block (A.block b hb (by simp;omega)),C.out _ E,G]
   have q:=hid G;clear G;go_wp2_with fail;refine(Qjl cb b off n c (p+j) (z:Int) _ hn s.out E Hb.out).mono ?_;rintro e w1 ⟨rfl,I,J⟩;have u:=hid I;have r:=hid (Qaf A.out J);clear I J;by_cases L:j<m
   ·have Ha:128<=z:=by have:=(M.2.1 j L).2;rw [q.out] at this;omega
    have Hf:j<=8:=by omega
    go_wp2_with fail;refine(Qoo z j _ t (by omega) (by omega) (by omega)).mono ?_;rintro e H ⟨rfl,rfl⟩;have Z:=hid (QhN x z j t (by rw [g.out];exact Qdf hf p j) (by
     have o:=Qdf hf p (j+1);rw [QcN q.out,<- g.out] at o;have h2:=QoR (k:=j+1) (by omega);omega))
    go_wp2_with fail;refine⟨⟨j+1,x+z%128*128^j,L,hid (by rw [QcN q.out,g.out]),by go_num,by rw [Z.out],?_,r⟩,by simp [intOf];omega⟩;have e:p+j+1=p+(j+1):=by omega
    rw [<- e];exact u
   ·obtain rfl:j=m:=by omega
    by_cases T:9<=j/\ 1<z
    ·have y:Hid (guC f n p j=2):=by show _=_;unfold guC;rw [if_neg (by omega),if_pos ⟨by omega,by rw [q.out];omega⟩]
     obtain⟨K,Hd⟩:=T;have Y:=hid (O.below ((Below.refl B w).grown r.out U (fun k hk=>by injection hk with hk;omega)));go_wp2_with fail;refine(QkW z j aT _ t Hd K N Y.gT).mono ?_;rintro e H ⟨rfl,rfl⟩;go_wp2_with fail;go_ret2;refine⟨Qag r.out (zO _ _),.inr ⟨by rw [y.out];omega,_,rfl,r.size,⟨by simp,by rw [y.out];simp [adr],by simp⟩,_,u.below (zO _ _) u.lt⟩⟩
    by_cases W:0<j/\ z<=0
    ·have y:Hid (guC f n p j=3):=by show _=_;unfold guC;rw [if_neg (by omega),if_neg (by rw [q.out];omega),if_pos ⟨by omega,by rw [q.out];omega⟩]
     obtain⟨D,Hc⟩:=W;have Y:=hid (O.below ((Below.refl B w).grown r.out U (fun k hk=>by injection hk with hk;omega)));go_wp2_with fail;refine(QkV z j aS _ Hc D N Y.gS).mono ?_;rintro e H ⟨rfl,rfl⟩;go_wp2_with fail;go_ret2;refine⟨Qag r.out (zO _ _),.inr ⟨by rw [y.out];omega,_,rfl,r.size,⟨by simp,by rw [y.out];simp [adr],by simp⟩,_,u.below (zO _ _) u.lt⟩⟩
    have V:Hid (guC f n p j=0):=by show _=_;unfold guC;rw [if_neg (by omega),if_neg (by rw [q.out];omega),if_neg (by rw [q.out];omega)]
    have S:Hid (guV f n p j=x+z%128*128^j):=by show _=_;unfold guV;rw [if_pos V.out,QcN q.out,g.out]
    have F:Hid (guA f n p j=p+j+1):=by show _=_;unfold guA;rw [if_pos V.out]
    have Ha:z<128:=by
     by_cases K:9<=j
     ·omega
     ·have:=M.2.2 E (by omega);rw [q.out] at this;omega
    have Z:=hid (QhN x z j t (by rw [g.out];exact Qdf hf p j) (by
     have o:=Qfz hf p j (by omega) (fun h=>by rw [q.out];omega) (j+1) (by omega);rw [QcN q.out,<- g.out] at o;exact o))
    go_wp2_with fail;refine(Qoo z j _ t (by omega) (by omega) (by omega)).mono ?_;rintro e H ⟨rfl,rfl⟩;go_wp2_with fail;go_ret2;refine⟨r.out,.inl ⟨V.out,?_,by rw [F.out];exact u.out⟩⟩;rw [S.out,<- Z.out];rfl
  ·obtain rfl:j=m:=by
    rcases Nat.lt_or_ge j m with h|h
    ·exact absurd (M.2.1 j h).1 E
    ·omega
   have y:Hid (guC f n p j=1):=by show _=_;unfold guC;rw [if_pos (by omega)]
   go_wp2_with fail;refine(Qfl cb _ n c ((p+j:Nat):Int) aE _ hn s.out (.inr (by omega)) R.gE).mono ?_;rintro e w1 ⟨rfl,Q⟩;have r:=hid (Qag A.out Q);have u:=hid (s.below Q s.lt);clear Q;go_wp2_with fail;go_ret2;refine⟨Qag r.out (zO _ _),.inr ⟨by rw [y.out];omega,_,rfl,r.size,⟨by simp,by rw [y.out];simp [adr],by simp⟩,_,u.below (zO _ _) u.lt⟩⟩
variable {EX : Nat -> Option Value}
theorem Qn5 (f:Nat ->Int)(n p m:Nat):guC f n p m=0 \/(guC f n p m=1 \/guC f n p m=2 \/guC f n p m=3):=by
 unfold guC;repeat' split
 all_goals simp
def gX (f:Nat ->Int)(n m:Nat)(x:Int):Nat×Int×Nat:=if 0<=x/\ x<n then(guV f n x.toNat m,(guA f n x.toNat m:Int),guC f n x.toNat m) else(0,x,1)
theorem Qg0 {f:Nat ->Int}{n m p:Nat}(hp:p<n):gX f n m (p:Int)=(guV f n p m,(guA f n p m:Int),guC f n p m):=by
 unfold gX;rw [if_pos ⟨by omega,by omega⟩];simp
theorem QdJ {f:Nat ->Int}{n m:Nat}{x:Int}(hx:x<0 \/(n:Int)<=x):gX f n m x=(0,x,1):=by
 unfold gX;rw [if_neg (by omega)]
theorem QcD {f:Nat ->Int}{n m:Nat}{x:Int}(hm:Cnt f n x.toNat m)(hf:Byt f)(hn:n<=1048576)(hx0: -9223372036854775808<=x)(hx1:x<=9223372036854775807):
  (gX f n m x).1<18446744073709551616/\ (gX f n m x).2.2<=3/\ ((gX f n m x).2.2=0 ->0<=(gX f n m x).2.1/\ (gX f n m x).2.1<=n)/\ ((gX f n m x).2.2≠0 ->(gX f n m x).2.1=x):=by
 by_cases v:0<=x/\ x<n
 ·obtain⟨p,rfl⟩:∃p:Nat,x=(p:Int):=⟨x.toNat,by omega⟩;rw [Qg0 (by omega)];have u:Cnt f n p m:=by simpa using hm
  refine⟨?_,?_,?_,?_⟩
  ·show guV f n p m<_;unfold guV;split
   ·rename_i j;refine Qfz hf p m u.1 (fun h9=> ?_) (m+1) zL;unfold guC at j;by_cases k:n<=p+m
    ·rw [if_pos k] at j;omega
    ·rw [if_neg k] at j;by_cases r:m=9/\ 1<f (p+m)
     ·rw [if_pos r] at j;omega
     ·omega
   ·omega
  ·show guC f n p m<=3;rcases Qn5 f n p m with h|h|h|h<;>omega
  ·intro j;have q:guC f n p m=0:=j;have k:¬n<=p+m:=fun k=>by unfold guC at q;rw [if_pos k] at q;omega
   show 0<=(guA f n p m:Int)/\ (guA f n p m:Int)<=n;unfold guA;rw [if_pos q];omega
  ·intro j;show (guA f n p m:Int)=p;unfold guA;rw [if_neg j]
 ·rw [QdJ (by omega)];exact⟨by simp,by simp,fun h=>by simp at h,fun _=>rfl⟩
theorem Qog (a:Option Addr)(n c m:Nat)(x:Int)(f:Nat ->Int)(w:World)(hn:n<=1048576)(hf:Byt f)(h:Seg w a n f)(hm:Cnt f n x.toNat m):
  Calls Tryz.prog 64 #[.slice a n c,.int .i64 x] w fun e w'=>e=.returned (.tuple #[.int .u64 ((gX f n m x).1:Int),.int .i64 (gX f n m x).2.1,.int .i64 ((gX f n m x).2.2:Int)])/\ Below w.heap.size w w':=by
 by_cases r:x<0 \/(n:Int)<x
 ·rw [QdJ (by omega)];exact QjA a n c x w hn r
 ·obtain⟨p,rfl⟩:∃p:Nat,x=(p:Int):=⟨x.toNat,by omega⟩;have q:Cnt f n p m:=by simpa using hm
  have:=Qoe a n c p m f w hn hf h (by omega) q;by_cases z:p<n
  ·rw [Qg0 z];exact this
  ·have g:p=n:=by omega
   subst g;have y:m=0:=by
    rcases Nat.eq_zero_or_pos m with j|j
    ·exact j
    ·have:=(q.2.1 0 j).1;omega
   subst y;have k:guC f p p 0=1:=by unfold guC;rw [if_pos (by omega)]
   have v:guV f p p 0=0:=by unfold guV;rw [k];simp
   have u:guA f p p 0=p:=by unfold guA;rw [k];simp
   rw [k,v,u] at this;rw [QdJ (by omega)];exact this
theorem Qdg (f:Nat ->Int)(p:Nat):∀j,Qb8 f p (j+1)=(f p%128).toNat+128*Qb8 f (p+1) j
 | 0=>by simp [Qb8]
 | j+1=>by
  have k:=Qdg f p j;show Qb8 f p (j+1)+(f (p+(j+1))%128).toNat*128^(j+1)=_;rw [k];show _=(f p%128).toNat+128*(Qb8 f (p+1) j+(f (p+1+j)%128).toNat*128^j);rw [show p+1+j=p+(j+1) from by omega,Nat.pow_succ,Nat.mul_add];have:(f (p+(j+1))%128).toNat*(128^j*128)=128*((f (p+(j+1))%128).toNat*128^j):=by
   rw [Nat.mul_comm (128^j) 128,<- Nat.mul_assoc,Nat.mul_comm _ 128,Nat.mul_assoc]
  omega
def At (f:Nat ->Int)(p:Nat)(U:List Int):Prop:=∀i,i<U.length ->f (p+i)=U.getD i 0
theorem At.tail {f:Nat ->Int}{p:Nat}{z:Int}{U:List Int}(h:At f p (z::U)):At f (p+1) U:=by
 intro i j;have:=h (i+1) (by simp;omega);rw [show p+1+i=p+(i+1) from by omega,this];simp
theorem At.head {f:Nat ->Int}{p:Nat}{z:Int}{U:List Int}(h:At f p (z::U)):f p=z:=by simpa using h 0 (by simp)
theorem QkT (k:Nat):∀(V p:Nat) (f:Nat ->Int),V<128^(k+1) ->At f p (uvF k V) ->
  (∀i,i+1<(uvF k V).length ->128<=f (p+i)/\ f (p+i)<256)/\ (0<=f (p+((uvF k V).length - 1))/\ f (p+((uvF k V).length - 1))<128)/\ (0<V ->f (p+((uvF k V).length - 1))≠0)/\ Qb8 f p (uvF k V).length=V:=by
 have o:∀(k V p:Nat) (f:Nat ->Int),V<128 ->At f p (uvF k V) ->
   (∀i,i+1<(uvF k V).length ->128<=f (p+i)/\ f (p+i)<256)/\ (0<=f (p+((uvF k V).length - 1))/\ f (p+((uvF k V).length - 1))<128)/\ (0<V ->f (p+((uvF k V).length - 1))≠0)/\ Qb8 f p (uvF k V).length=V:=by
  intro k V p f m h;rw [QcO k V m] at h ⊢;have j:=h.head;refine⟨fun i r=>by simp at r,?_,?_,?_⟩
  ·simp;rw [j];omega
  ·simp;rw [j];omega
  ·simp [Qb8];rw [j];omega
 induction k with
 | zero=>intro V p f m h;exact o 0 V p f (by simpa using m) h
 | succ k ih=>
  intro V p f m h;by_cases v:V<128
  ·exact o (k+1) V p f v h
  ·rw [Qet k V v] at h ⊢;have q:=h.head;have b:=(Qah k (V/128)).2;obtain⟨y,z,g,t⟩:=ih (V/128) (p+1) f (by rw [Nat.pow_succ] at m;omega) h.tail;obtain⟨l,u⟩:∃l,(uvF k (V/128)).length=l+1:=⟨(uvF k (V/128)).length - 1,by omega⟩;rw [u] at y z g t;simp only [List.length_cons,u];refine⟨?_,?_,?_,?_⟩
   ·intro i r;by_cases j:i=0
    ·subst j;simp;rw [q];omega
    ·have:=y (i - 1) (by omega);rwa [show p+1+(i - 1)=p+i from by omega] at this
   ·have:=z;rw [show p+1+(l+1 - 1)=p+(l+1+1 - 1) from by omega] at this;exact this
   ·intro _;have:=g (by omega);rw [show p+1+(l+1 - 1)=p+(l+1+1 - 1) from by omega] at this;exact this
   ·rw [Qdg,t,q];omega
theorem Qn1 {f:Nat ->Int}{n p V m:Nat}(hV:V<18446744073709551616)(h:At f p (uvF 9 V))(hn:p+(uvF 9 V).length<=n)(hm:Cnt f n p m):
  gX f n m (p:Int)=(V,((p+(uvF 9 V).length:Nat):Int),0):=by
 have i:=Qah 9 V;obtain⟨z,g,y,k⟩:=QkT 9 V p f (by omega) h;obtain⟨l,u⟩:∃l,(uvF 9 V).length=l+1:=⟨(uvF 9 V).length - 1,by omega⟩;rw [u] at z g y k hn i ⊢;simp only [Nat.add_sub_cancel] at g y;have b:m=l:=by
  rcases Nat.lt_trichotomy m l with r|r|r
  ·have A:=(z m (by omega)).1;have E:=hm.2.2 (by omega) (by omega);omega
  ·exact r
  ·have:=(hm.2.1 l r).2;omega
 subst b;have t:m=9 ->f (p+m)<=1:=by
  intro e;subst e;have j:Qb8 f p (9+1)=Qb8 f p 9+(f (p+9)%128).toNat*128^9:=rfl;rw [j] at k;have q:(f (p+9)%128).toNat=(f (p+9)).toNat:=by omega
  rw [q] at k;simp only [Nat.reducePow] at k;omega
 have s:0<m ->f (p+m)≠0:=by
  intro M;refine y ?_;rcases Nat.eq_zero_or_pos V with v|v
  ·rw [v,QcO 9 0 (by omega)] at u;simp at u;omega
  ·exact v
 have o:guC f n p m=0:=by
  unfold guC;rw [if_neg (by omega),if_neg (by rintro⟨j,q⟩;have:=t j;omega),if_neg (by rintro⟨j,q⟩;exact s j q)]
 rw [Qg0 (by omega)];unfold guV guA;rw [o];simp [k];omega
theorem QcE {U W:List Int}{i:Nat}(h:i<U.length):(U++W).getD i 0=U.getD i 0:=by
 simp [List.getD,h,List.getElem?_append_left]
theorem QkU (k:Nat):∀(m p:Nat) (f:Nat ->Int),m<=k ->(∀i,i<m ->128<=f (p+i)/\ f (p+i)<256) ->0<=f (p+m) ->f (p+m)<128 ->(0<m ->f (p+m)≠0) ->
  uvF k (Qb8 f p (m+1))=(List.range (m+1)).map (fun i=>f (p+i)):=by
 have E:∀(m p:Nat) (f:Nat ->Int),0<=f (p+m) ->f (p+m)<128 ->f (p+m)≠0 ->0<Qb8 f p (m+1):=by
  intro m p f q r u;show 0<Qb8 f p m+(f (p+m)%128).toNat*128^m;have:0<(f (p+m)%128).toNat*128^m:=Nat.mul_pos (by omega) (Nat.pow_pos (by omega));omega
 induction k with
 | zero=>
  intro m p f o _ q r _;obtain rfl:m=0:=by omega
  have e:Qb8 f p 1=(f p).toNat:=by simp [Qb8];simp at q r;omega
  rw [show (0:Nat)+1=1 from rfl,e,QcO 0 _ (by simp at q r;omega)];simp at q ⊢;omega
 | succ k ih=>
  intro m p f o v q r u;rcases Nat.eq_zero_or_pos m with rfl|s
  ·have e:Qb8 f p 1=(f p).toNat:=by simp [Qb8];simp at q r;omega
   rw [show (0:Nat)+1=1 from rfl,e,QcO _ _ (by simp at q r;omega)];simp at q ⊢;omega
  ·obtain⟨j,rfl⟩:∃j,m=j+1:=⟨m - 1,by omega⟩;have e:=Qdg f p (j+1);have b:=v 0 (by omega);simp only [Nat.add_zero] at b;have y:0<=f (p+1+j):=by rw [show p+1+j=p+(j+1) from by omega];exact q
   have z:f (p+1+j)<128:=by rw [show p+1+j=p+(j+1) from by omega];exact r
   have h:f (p+1+j)≠0:=by rw [show p+1+j=p+(j+1) from by omega];exact u s
   have M:=E j (p+1) f y z h;have A:=ih j (p+1) f (by omega) (fun i hi=>by have:=v (i+1) (by omega);rwa [show p+(i+1)=p+1+i from by omega] at this) y z (fun _=>h);rw [e,Qet k _ (by omega)];have g:((f p%128).toNat+128*Qb8 f (p+1) (j+1))/128=Qb8 f (p+1) (j+1):=by omega
   have t:(((128+((f p%128).toNat+128*Qb8 f (p+1) (j+1))%128:Nat)):Int)=f p:=by omega
   rw [g,t,A];conv=>rhs;rw [List.range_succ_eq_map]
   simp only [List.map_cons,List.map_map,Nat.add_zero];congr 1;apply List.map_congr_left;intro i _;show f (p+1+i)=f (p+(i+1));rw [show p+1+i=p+(i+1) from by omega]
theorem Qmk {f:Nat ->Int}{n m:Nat}{x:Int}(hf:Byt f)(hm:Cnt f n x.toNat m)(h:(gX f n m x).2.2=0):
  ∃p:Nat,x=(p:Int)/\ p+m+1<=n/\ (gX f n m x).1<18446744073709551616/\ (gX f n m x).2.1=((p+m+1:Nat):Int)/\ uvF 9 (gX f n m x).1=(List.range (m+1)).map (fun i=>f (p+i)):=by
 by_cases t:0<=x/\ x<n
 ·obtain⟨p,rfl⟩:∃p:Nat,x=(p:Int):=⟨x.toNat,by omega⟩;have k:Cnt f n p m:=by simpa using hm
  rw [Qg0 (by omega)] at h ⊢;have j:guC f n p m=0:=h;have q:¬n<=p+m:=fun q=>by unfold guC at j;rw [if_pos q] at j;omega
  have r:¬(m=9/\ 1<f (p+m)):=fun r=>by unfold guC at j;rw [if_neg q,if_pos r] at j;omega
  have u:¬(0<m/\ f (p+m)=0):=fun u=>by unfold guC at j;rw [if_neg q,if_neg r,if_pos u] at j;omega
  have v:guV f n p m=Qb8 f p (m+1):=by unfold guV;rw [if_pos j]
  have g:guA f n p m=p+m+1:=by unfold guA;rw [if_pos j]
  have y:f (p+m)<128:=by
   by_cases z:m=9
   ·omega
   ·exact k.2.2 (by omega) (by have:=k.1;omega)
  refine⟨p,rfl,by omega,?_,by show (guA f n p m:Int)=_;rw [g],?_⟩
  ·show guV f n p m<_;rw [v];exact Qfz hf p m k.1 (fun z=>by omega) (m+1) zL
  ·show uvF 9 (guV f n p m)=_;rw [v];exact QkU 9 m p f k.1 (fun i hi=>⟨(k.2.1 i hi).2,(hf _).2⟩) (hf _).1 y (fun h0 e=>u ⟨h0,e⟩)
 ·rw [QdJ (by omega)] at h;simp at h
def RdA (w:World)(B rb:Nat):Prop:=∃f n x,RdJ w B rb f n x
theorem RdA.below {w w':World}{B rb:Nat}(h:RdA w B rb)(hb:Below B w w'):RdA w' B rb:=by obtain⟨f,n,x,h⟩:=h;exact⟨f,n,x,h.below hb⟩
theorem RdA.lt {w:World}{B rb:Nat}(h:RdA w B rb):rb<w.heap.size/\ rb<B:=by obtain⟨f,n,x,h⟩:=h;exact h.lt
theorem QgR (B rb:Nat)(w:World)(h:RdA w B rb):
  Calls Tryz.prog 10 #[.pointer (some ⟨rb,0,none⟩)] w fun e w'=>∃k:Nat,k<256/\ e=.returned (.int .i64 (k:Int))/\ RdA w' B rb/\ w.grownBy w' (some rb):=by
 obtain⟨f,n,x,h⟩:=h;exact(QaW B rb f n x w h).mono fun e w' ⟨h1,h2,h3⟩=>⟨_,QkH h,h1,⟨_,_,_,h2⟩,h3⟩
theorem Qen {w:World}{B:Nat}{v:Value}{zs:List Int}(h:Own w B v zs):∃y m c,v=.slice y m c/\ m=zs.length:=by
 rcases h.2 with ⟨rfl,j⟩|⟨g,cap,k,rfl,_⟩
 ·exact⟨_,_,_,rfl,j.symm⟩
 ·exact⟨_,_,_,rfl,rfl⟩
def Src (w:World)(g cap:Nat)(zs:List Int):Prop:=g<w.heap.size/\ zs.length<=cap/\ cap<=9223372036854775807/\ (∀i,i<zs.length ->w.cell? ⟨g,i,none⟩=some (.int .u8 (zs.getD i 0)))/\∀z∈zs,0<=z/\ z<256
theorem Src.gr {w w':World}{g cap:Nat}{zs:List Int}{row:Option Nat}(h:Src w g cap zs)(hg:w.grownBy w' row)(hne:some g≠row):Src w' g cap zs:=
 ⟨Nat.lt_of_lt_of_le h.1 hg.size,h.2.1,h.2.2.1,fun i hi=>by rw [World.cell?_of_block (hg.block g h.1 hne)];exact h.2.2.2.1 i hi,h.2.2.2.2⟩
theorem Src.below {w w':World}{B g cap:Nat}{zs:List Int}(h:Src w g cap zs)(hb:Below B w w')(hg:g<B):Src w' g cap zs:=
 ⟨Nat.lt_of_lt_of_le h.1 hb.size,h.2.1,h.2.2.1,fun i hi=>(hb.cell (p:=⟨g,i,none⟩) hg).trans (h.2.2.2.1 i hi),h.2.2.2.2⟩
theorem Qgn.src {w:World}{B:Nat}{v:Value}{zs:List Int}(h:Qgn w B v zs)(hz:zs≠[]):∃g cap,v=.slice (some ⟨g,0,none⟩) zs.length cap/\ B<=g/\ Src w g cap zs:=by
 obtain⟨k,q⟩:=h;rcases k.2 with ⟨e,m⟩|⟨g,cap,y,e,z,o,u,r,t,b⟩
 ·exact absurd (List.length_eq_zero_iff.1 m) hz
 ·have j:w.ownsRow B 5 1 v zs.length (zs.map (Value.int .u8)):=k;rw [e] at j;refine⟨g,cap,e,(World.ownsRow.lt j g rfl).1,(World.ownsRow.lt j g rfl).2,u,by unfold maxLen at r;omega,fun i hi=> ?_,q⟩;have:=j.cellAt i (by omega);rw [this];simp [List.getD,hi]
def win (zs:List Int)(lo len:Nat):List Value:=((zs.drop lo).take len).map (Value.int .u8)
theorem Qdj {zs:List Int}{lo len:Nat}(h:lo+len<=zs.length):(win zs lo len).length=len*1:=by simp [win];omega
theorem Qf3 (zs:List Int)(lo len:Nat):∀u∈win zs lo len,u.oneCell'=true:=by
 intro u j;simp only [win,List.mem_map] at j;obtain⟨z,_,rfl⟩:=j;rfl
theorem QcP {w:World}{g cap:Nat}{zs:List Int}(h:Src w g cap zs){lo len:Nat}(hl:lo+len<=zs.length):∀j u,(win zs lo len)[j]? =some u ->w.cell? ((⟨g,lo,none⟩:Addr).add j)=some u:=by
 intro j u k;have r:j<len:=by
  have:=(List.getElem?_eq_some_iff.1 k).1;rw [Qdj hl] at this;omega
 have e:((⟨g,lo,none⟩:Addr).add j)=⟨g,lo+j,none⟩:=by
  by_cases m:j=0
  ·subst m;simp [Addr.add]
  ·simp [Addr.add,m]
 rw [e,h.2.2.2.1 (lo+j) (by omega)];have q:lo+j<zs.length:=by omega
 simp [win,List.getElem?_take,r,List.getElem?_drop,q] at k;simp [List.getD,q,k]
theorem QjP (w:World)(ad:Addr):∀j u,([]:List Value)[j]? =some u ->w.cell? (ad.add j)=some u:=by intro j u k;simp at k
theorem Qgq {zs ys:List Int}(lo len:Nat)(hy:∀z∈ys,0<=z/\ z<256)(hz:∀z∈zs,0<=z/\ z<256):∀z∈ys++(zs.drop lo).take len,0<=z/\ z<256:=by
 intro z h;rcases List.mem_append.1 h with h|h
 ·exact hy z h
 ·exact hz z (List.mem_of_mem_drop (List.mem_of_mem_take h))
theorem Qjv (B rb:Nat)(v:Value)(zs:List Int)(C:Nat)(w:World)(h:RdA w B rb)(hb:Qgn w C v zs)(hBC:B<=C)(hC:C<=w.heap.size)(hl:zs.length<=4000000):
  Calls Tryz.prog 14 #[.pointer (some ⟨rb,0,none⟩),v] w fun e w'=>∃v' zs',e=.returned v'/\ zs'.length<=zs.length+1/\ Qgn w' C v' zs'/\ RdA w' B rb/\ w.grownBy w' (some rb):=by
 obtain⟨i0,T,Hk,Hl,Hm⟩:=info_parts Tryz.infoByte;have Ki:=h.lt;have HR:=hid h;have HV:=hid hb;have H2:=Qen hb.1;obtain⟨y,m,c,rfl,hm⟩:=H2;obtain rfl:m=zs.length:=hm;clear h hb;go_enter Tryz.func14,Tryz.ntmps14;go_wp2_with fail;refine(QgR B rb w HR.out).mono ?_;rintro e w1 ⟨k,i,rfl,r1,g1⟩;have Gj:=hid r1;have Gh:=hid g1;clear r1 g1;go_wp2_with fail;refine(QgR B rb _ Gj.out).mono ?_;rintro e w2 ⟨p1,Kb,rfl,r2,g2⟩;have Gk:=hid r2;have Gi:=hid (QaR Gh.out g2);clear r2 g2 Gj Gh;go_wp2_with fail;refine(QgR B rb _ Gk.out).mono ?_;rintro e w3 ⟨p2,Kc,rfl,E,g3⟩;have Gl:=hid E;have H9:=hid (QaR Gi.out g3);have z3:=H9.size;clear E g3 Gk Gi;have He:(w3.alloc (.cells #[] 5)).ownsRow w.heap.size 5 1 (.slice (some ⟨w3.heap.size,0,none⟩) 0 0) 0 []:=QnZ w3 w.heap.size z3;obtain⟨W4,H0⟩:∃W4,w3.alloc (.cells #[] 5)=W4:=⟨_,rfl⟩;rw [H0] at He;have Gc:w.grownBy W4 (some rb):=by rw [<- H0];exact H9.andThen (World.grownBy_alloc w3 _ _) (fun j hj=> .inr hj)
 have Ga:=hid (show RdA W4 B rb from Gl.below (by rw [<- H0];exact zI.alloc (by omega) _));have J:=hid Gc;have z4:=Gc.size;clear Gc Gl H9;by_cases I:zs.length=0
 ·have Kj:IntKind.u8.wrap (k:Int)=(k:Int):=by rw [IntKind.wrap_u8];omega
  go_wp2_with (at_builtin;refine Qai rfl _ _ 22 rfl w.heap.size 5 i0 (.int .u8 0) 1 1 Tryz.underlying22 T Hk Hl Hm rfl (by decide) _ _ _ rfl (He.alloc _) ⟨W4.heap.size,0,none⟩ 1 1 [.int .u8 (k:Int)] rfl rfl ?c1 ?c2 ?c3 ?c4 ?c5 ?_);case c1=>exact cell_one_new _ _ _
  case c2=>intro u D;simp at D;subst D;rfl
  case c3=>unfold maxLen;omega
  case c4=>omega
  case c5=>simp;omega
  ·intro v' r Hs Go Gw;have Y:Hid (Below w.heap.size W4 r):=(zI.alloc (by omega) _).grown Go (by simp;omega) (fun k i=>(He.lt k i).1);have Gb:=hid (Ga.below (Y.mono (by omega)));have Ho:Hid (w.grownBy r (some rb)):=⟨Y.os.trans J.os,Y.tape.trans J.tape,Y.output.trans J.output,Nat.le_trans J.size Y.size,fun k i hne=>(Y.block k i).trans (J.block k i hne)⟩;have R:Hid (Qgn r C v' [(k:Int)]):=⟨Own.weak (show Own r w.heap.size v' [(k:Int)] from Hs) hC,fun z I=>by simp at I;subst I;omega⟩;clear Hs Go Gw Y He H0;go_wp2_with fail;go_ret;exact⟨_,_,rfl,by simp,R.out,Gb.out,Ho.out⟩
 ·have Gr:zs≠[]:=fun e=>I (by rw [e];rfl);obtain⟨g,cap,ev,G7,Hi⟩:=HV.src Gr;injection ev with ev1 ev2 ev3;subst ev1 ev3;have Gd:some g≠some rb:=fun e=>by injection e with e;omega
  have Hu:=Hi.gr J.out Gd;have H8:=Hi.1;have H1:=Hi.2.1;have Gn:=Hi.2.2.1;obtain⟨q,hq⟩:∃q:Nat,q=(p1*256+p2)%zs.length:=⟨_,rfl⟩;have G3:q<zs.length:=by rw [hq];exact Nat.mod_lt _ (by omega)
  have Gp:((p1:Int)*256+(p2:Int))%(zs.length:Int)=(q:Int):=by rw [hq];push_cast;rfl
  have G4:((p1:Int)*256+(p2:Int)).tmod (zs.length:Int)=(q:Int):=by rw [Int.tmod_eq_emod_of_nonneg (by omega)];exact Gp
  have G6:0<zs.length:=by omega
  have Kd:(0:Int)<=(q:Int):=Int.natCast_nonneg _;have Gx:(q:Int)<(zs.length:Int):=by omega
  have Hn:=hid Hu;obtain⟨L,hL⟩:∃L:Nat,zs.length=L:=⟨_,rfl⟩;have o:=hid hL;rw [hL] at G3 Gp G4 G6 Gx H1 I hl ⊢;clear hq Hi Hu HV hL Gr;go_wp2_with (at_builtin;refine Qai rfl _ _ 22 rfl w.heap.size 5 i0 (.int .u8 0) 1 1 Tryz.underlying22 T Hk Hl Hm rfl (by decide) _ _ _ rfl He ⟨g,0,none⟩ q c (win zs 0 q) rfl (Qdj (by have:=o.out;omega)) (QcP Hn.out (by have:=o.out;omega)) (Qf3 _ _ _) ?d3 ?d4 ?d5 ?_);case d3=>unfold maxLen;omega
  case d4=>omega
  case d5=>omega
  ·intro v5 r Ht H3 Gf;have Y:Hid (Below w.heap.size W4 r):=zI.grown H3 (by omega) (fun k i=>(He.lt k i).1);have Gb:=hid (Ga.below (Y.mono (by omega)));have Ho:Hid (w.grownBy r (some rb)):=⟨Y.os.trans J.os,Y.tape.trans J.tape,Y.output.trans J.output,Nat.le_trans J.size Y.size,fun k i hne=>(Y.block k i).trans (J.block k i hne)⟩;have G:=hid (Hn.below Y.out H8);have z5:=Ho.size;have Hy:Hid (∀z∈(zs.drop 0).take q,0<=z/\ z<256):=fun z I=>Hn.2.2.2.2 z (List.mem_of_mem_drop (List.mem_of_mem_take I));have Hr:r.ownsRow w.heap.size 5 1 v5 q (win zs 0 q):=by simpa using Ht
   have Gm:∀(v':Value) (P:World) (ys:List Int),Below w.heap.size r P ->P.ownsRow w.heap.size 5 1 v' ys.length (ys.map (Value.int .u8)) ->(∀z∈ys,0<=z/\ z<256) ->ys.length<=L+1 ->
     ∃v'' zs',Ending.returned v'=.returned v''/\ zs'.length<=L+1/\ Qgn P C v'' zs'/\ RdA P B rb/\ w.grownBy P (some rb):=fun v' P ys hb6 Hj hy6 hl6=>
    ⟨v',ys,rfl,hl6,⟨Own.weak (show Own P w.heap.size v' ys from Hj) hC,hy6⟩,Gb.below (hb6.mono (by omega)),⟨hb6.os.trans Ho.os,hb6.tape.trans Ho.tape,hb6.output.trans Ho.output,Nat.le_trans Ho.size hb6.size,fun k i hne=>(hb6.block k i).trans (Ho.block k i hne)⟩⟩
   have Hx:=hid Gm;have Ha:w.heap.size<=r.heap.size:=z5;clear Ht H3 Gf Y He H0 Ga J Hn Gm;have H4:k%4=0 \/k%4=1 \/k%4=2 \/k%4=3:=by omega
   have Ke:(q:Int)+1<=(L:Int):=by omega
   have Kf:(q:Int)+1<=(c:Int):=by omega
   have Kg:(q:Int)<=(c:Int):=by omega
   have G8:(L:Int)<=(c:Int):=by omega
   rcases H4 with h4|h4|h4|h4
   ·have e0:((k:Int)%4==0)=true:=by simp;omega
    by_cases Gs:q+1<c
    ·go_wp2_with (at_builtin;refine Qai rfl _ _ 22 rfl w.heap.size 5 i0 (.int .u8 0) 1 1 Tryz.underlying22 T Hk Hl Hm rfl (by decide) _ _ _ rfl Hr ⟨g,q+1,none⟩ (L - (q+1)) (c - (q+1)) (win zs (q+1) (L - (q+1))) rfl (Qdj (by have:=o.out;omega)) (by have:=QcP G.out (lo:=q+1) (len:=L - (q+1)) (by have:=o.out;omega);exact this) (Qf3 _ _ _) ?e3 ?e4 ?e5 ?_);case e3=>unfold maxLen;omega
     case e4=>omega
     case e5=>omega
     ·intro v6 P Hc Hf Hv;have R:=hid (Hx v6 P ((zs.drop 0).take q++(zs.drop (q+1)).take (L - (q+1))) (zI.grown Hf Ha (fun k i=>(Hr.lt k i).1)) (by
       have Z:((zs.drop 0).take q++(zs.drop (q+1)).take (L - (q+1))).length=q+(L - (q+1)):=by have:=o.out;simp;omega
       rw [Z,List.map_append];exact Hc) (Qgq _ _ Hy.out G.2.2.2.2) (by have:=o.out;simp;omega))
      clear Hc Hf Hv;go_wp2_with fail;go_ret;obtain⟨r1,r2,E,r4,Q,U,V⟩:=R.out;first|exact⟨r1,r2,E,by have:=o.out;omega,Q,U,V⟩|exact⟨r1,E,r2,by have:=o.out;omega,Q,U,V⟩
    ·obtain rfl:c=q+1:=by omega
     obtain rfl:L=q+1:=by omega
     have Ka:∀(W:World) (ad:Addr) j u,(win zs (q+1) (q+1 - (q+1)))[j]? =some u ->W.cell? (ad.add j)=some u:=fun W ad j u hj=>by
      have h1:=(List.getElem?_eq_some_iff.1 hj).1;rw [Qdj (by have:=o.out;omega)] at h1;omega
     go_wp2_with (at_builtin;refine Qai rfl _ _ 22 rfl w.heap.size 5 i0 (.int .u8 0) 1 1 Tryz.underlying22 T Hk Hl Hm rfl (by decide) _ _ _ rfl Hr _ 0 _ [] rfl rfl (QjP _ _) (by simp) ?f3 ?f4 ?f5 ?_);case f3=>unfold maxLen;omega
     case f4=>omega
     case f5=>omega
     ·intro v6 P Hc Hf Hv;have R:=hid (Hx v6 P ((zs.drop 0).take q) (zI.grown Hf Ha (fun k i=>(Hr.lt k i).1)) (by
       have Z:((zs.drop 0).take q).length=q:=by have:=o.out;simp;omega
       rw [Z];simpa [win] using Hc) Hy.out (by have:=o.out;simp;omega))
      clear Hc Hf Hv;go_wp2_with fail;go_ret;obtain⟨r1,r2,E,r4,Q,U,V⟩:=R.out;first|exact⟨r1,r2,E,by have:=o.out;omega,Q,U,V⟩|exact⟨r1,E,r2,by have:=o.out;omega,Q,U,V⟩
   ·have e0:((k:Int)%4==0)=false:=by simp;omega
    have Z:((k:Int)%4==1)=true:=by simp;omega
    obtain⟨z,H6⟩:∃z:Nat,zs.getD q 0=(z:Int):=⟨(zs.getD q 0).toNat,by have:=(QcT G.2.2.2.2 q).1;dsimp only at this;omega⟩;have Gg:z<256:=by have:=(QcT G.2.2.2.2 q).2;dsimp only at this;omega
    have H:r.cell? ⟨g,q,none⟩=some (.int .u8 (z:Int)):=by rw [G.2.2.2.1 q (by have:=o.out;omega),H6]
    clear H6;obtain⟨F,H4⟩:∃F:Nat,IntKind.i64.wrap ((k:Int)/4)=(F:Int):=⟨k/4,by rw [Qan _ (by omega) (by omega)];omega⟩;have Ge:F<64:=by rw [Qan _ (by omega) (by omega)] at H4;omega
    obtain⟨y,hy⟩:∃y:Nat,IntKind.u8.wrap (F:Int)=(y:Int):=⟨F,by rw [IntKind.wrap_u8];omega⟩;have G5:y<256:=by rw [IntKind.wrap_u8] at hy;omega
    have Kh:q<=L:=by omega
    have G9:¬c=q:=by omega
    go_wp2_with fail;refine zR (S:=fun w'=>Below w.heap.size r w'/\ w'.cell? ⟨g,q,none⟩=some (.int .u8 (z:Int))) ⟨zI.drew,H⟩ (fun qh=> ?_);refine tZ 0 46 ?_;refine tZ 1 47 ?_;refine tZ 2 48 ?_;refine tZ 3 49 ?_;refine tZ 6 52 ?_;refine tZ 7 53 ?_;refine tZ 8 54 ?_;refine cZ 4 ?_;intro K b;go_simp;obtain⟨s,A⟩:∃s,(r.alloc (.cells #[.int .u8 (y:Int)] 5)).drew=s:=⟨_,rfl⟩;have N:Below r.heap.size r s:=by rw [<- A];exact(zO _ _).drew
    have z6:s.heap.size=r.heap.size+1:=by rw [<- A];simp
    have H5:∀j u,[Value.int .u8 (y:Int)][j]? =some u ->s.cell? ((⟨r.heap.size,0,none⟩:Addr).add j)=some u:=by rw [<- A];exact cell_one_new r _ _
    have Hj:s.ownsRow w.heap.size 5 1 v5 q (win zs 0 q):=by rw [<- A];exact World.ownsRow.alloc (w:=r) Hr _
    rw [A];clear A;have c6:=(N.cell (p:=⟨g,q,none⟩) (show g<r.heap.size by omega)).trans H;refine b.out _ _ ⟨N.mono Ha,c6⟩ (fun qh=> ?_);clear b K;try simp only [zP]
    refine cZ 5 ?_;intro K b;rw [if_pos (by rfl)];refine QaN _ _ _ (by rfl) w.heap.size 5 i0 _ 1 1 Tryz.underlying22 T Hk Hl Hm rfl (by decide) v5 q _ (by rfl) Hj ⟨r.heap.size,0,none⟩ 1 1 [.int .u8 (y:Int)] (by rfl) (by rfl) H5 (by intro u D;simp at D;subst D;rfl) (by unfold maxLen;omega) (by omega) (by omega) ?_;intro v7 w7 Hb Hg Hp;have O:Below w.heap.size r w7:=(N.mono Ha).grown Hg (by omega) (fun k i=>(Hj.lt k i).1);have z7:=O.size;have c7:=(O.cell (p:=⟨g,q,none⟩) (show g<w.heap.size by omega)).trans H;have H7:=hid (G.below O H8);refine b.out _ _ ⟨O,c7⟩ (fun qh=> ?_);clear b K;try simp only [zP]
    refine cZ 9 ?_;intro K b;rw [if_pos (by rfl)];refine QaN _ _ _ (by rfl) w.heap.size 5 i0 _ 1 1 Tryz.underlying22 T Hk Hl Hm rfl (by decide) v7 (q+1) _ (by rfl) Hb _ (L - q) _ (win zs (q) (L - q)) (by rfl) (Qdj (by have:=o.out;omega)) (QcP H7.out (by have:=o.out;omega)) (Qf3 _ _ _) (by unfold maxLen;omega) (by omega) (by omega) ?_;intro v8 w8 Hd Hh Hq;have X:Below w.heap.size r w8:=O.grown Hh (by omega) (fun k i=>(Hb.lt k i).1);have c8:=(X.cell (p:=⟨g,q,none⟩) (show g<w.heap.size by omega)).trans H;refine b.out _ _ ⟨X,c8⟩ (fun qh=> ?_);clear b K;try simp only [zP]
    refine tZ 10 4 ?_;refine zD ?_;have R:=hid (Hx v8 w8 ((zs.drop 0).take q++[(y:Int)]++(zs.drop (q)).take (L - q)) X (by
     have Z:((zs.drop 0).take q++[(y:Int)]++(zs.drop (q)).take (L - q)).length=q+1+(L - q):=by have:=o.out;simp;omega
     rw [Z,List.map_append,List.map_append];exact Hd) (Qgq _ _ (fun z I=>by
      rcases List.mem_append.1 I with h|h
      ·exact Hy z h
      ·simp at h;subst h;omega) G.2.2.2.2) (by have:=o.out;simp;omega))
    clear qh;go_wp2_with fail;go_ret;obtain⟨r1,r2,E,r4,Q,U,V⟩:=R.out;first|exact⟨r1,r2,E,by have:=o.out;omega,Q,U,V⟩|exact⟨r1,E,r2,by have:=o.out;omega,Q,U,V⟩
   ·have e0:((k:Int)%4==0)=false:=by simp;omega
    have Z:((k:Int)%4==1)=false:=by simp;omega
    have e2:((k:Int)%4==2)=true:=by simp;omega
    have R:=hid (Hx v5 r ((zs.drop 0).take q) zI (by
     have Z:((zs.drop 0).take q).length=q:=by have:=o.out;simp;omega
     rw [Z];exact Hr) Hy.out (by have:=o.out;simp;omega))
    go_wp2_with fail;go_ret;obtain⟨r1,r2,E,r4,Q,U,V⟩:=R.out;first|exact⟨r1,r2,E,by have:=o.out;omega,Q,U,V⟩|exact⟨r1,E,r2,by have:=o.out;omega,Q,U,V⟩
   ·have e0:((k:Int)%4==0)=false:=by simp;omega
    have Z:((k:Int)%4==1)=false:=by simp;omega
    have e2:((k:Int)%4==2)=false:=by simp;omega
    obtain⟨z,H6⟩:∃z:Nat,zs.getD q 0=(z:Int):=⟨(zs.getD q 0).toNat,by have:=(QcT G.2.2.2.2 q).1;dsimp only at this;omega⟩;have Gg:z<256:=by have:=(QcT G.2.2.2.2 q).2;dsimp only at this;omega
    have H:r.cell? ⟨g,q,none⟩=some (.int .u8 (z:Int)):=by rw [G.2.2.2.1 q (by have:=o.out;omega),H6]
    clear H6;obtain⟨F,H4⟩:∃F:Nat,IntKind.i64.wrap ((k:Int)/4)=(F:Int):=⟨k/4,by rw [Qan _ (by omega) (by omega)];omega⟩;have Ge:F<64:=by rw [Qan _ (by omega) (by omega)] at H4;omega
    obtain⟨k5,Gu⟩:∃k5:Nat,IntKind.i64.wrap (1+(F:Int))=(k5:Int):=⟨1+F,by rw [Qan _ (by omega) (by omega)];omega⟩;have Gv:k5<65:=by rw [Qan _ (by omega) (by omega)] at Gu;omega
    obtain⟨t,ht⟩:∃t:Nat,IntKind.u8.wrap (k5:Int)=(t:Int):=⟨k5,by rw [IntKind.wrap_u8];omega⟩;obtain⟨M,Hw⟩:∃M:Nat,M=q+1:=⟨_,rfl⟩;have G2:IntKind.i64.wrap ((q:Int)+1)=(M:Int):=by rw [Qan _ (by omega) (by omega)];omega
    have Gz:(0:Int)<=(M:Int):=Int.natCast_nonneg _;have G0:(M:Int)<=(L:Int):=by omega
    have G1:(M:Int)<=(c:Int):=by omega
    have Hz:=hid Hw;have Gy:M<=L:=by omega
    have Gq:t<256:=by rw [IntKind.wrap_u8] at ht;omega
    obtain⟨y,hy⟩:∃y:Nat,bits BinOp.xor IntKind.u8 (z:Int) (t:Int)=(y:Int):=⟨z^^^t,u8_xor_nat z t Gg Gq⟩;have G5:y<256:=by
     have h1:=u8_xor_nat z t Gg Gq;have h2:z^^^t<2^8:=Nat.xor_lt_two_pow (by omega) (by omega);rw [hy] at h1;omega
    by_cases Gs:M<c
    ·have Gt:¬c=M:=by omega
     clear Hw;go_wp2_with fail;refine zR (S:=fun w'=>Below w.heap.size r w'/\ w'.cell? ⟨g,q,none⟩=some (.int .u8 (z:Int))) ⟨zI.drew,H⟩ (fun qh=> ?_);refine tZ 0 60 ?_;refine tZ 1 61 ?_;refine tZ 2 62 ?_;refine tZ 3 63 ?_;refine tZ 4 64 ?_;refine tZ 5 65 ?_;refine tZ 6 66 ?_;refine tZ 7 67 ?_;refine tZ 8 68 ?_;refine tZ 9 69 ?_;refine tZ 12 72 ?_;refine tZ 13 73 ?_;refine tZ 14 74 ?_;refine tZ 15 75 ?_;refine cZ 10 ?_;intro K b;go_simp;obtain⟨s,A⟩:∃s,(r.alloc (.cells #[.int .u8 (y:Int)] 5)).drew=s:=⟨_,rfl⟩;have N:Below r.heap.size r s:=by rw [<- A];exact(zO _ _).drew
     have z6:s.heap.size=r.heap.size+1:=by rw [<- A];simp
     have H5:∀j u,[Value.int .u8 (y:Int)][j]? =some u ->s.cell? ((⟨r.heap.size,0,none⟩:Addr).add j)=some u:=by rw [<- A];exact cell_one_new r _ _
     have Hj:s.ownsRow w.heap.size 5 1 v5 q (win zs 0 q):=by rw [<- A];exact World.ownsRow.alloc (w:=r) Hr _
     rw [A];clear A;have c6:=(N.cell (p:=⟨g,q,none⟩) (show g<r.heap.size by omega)).trans H;refine b.out _ _ ⟨N.mono Ha,c6⟩ (fun qh=> ?_);clear b K;try simp only [zP]
     refine cZ 11 ?_;intro K b;rw [if_pos (by rfl)];refine QaN _ _ _ (by rfl) w.heap.size 5 i0 _ 1 1 Tryz.underlying22 T Hk Hl Hm rfl (by decide) v5 q _ (by rfl) Hj ⟨r.heap.size,0,none⟩ 1 1 [.int .u8 (y:Int)] (by rfl) (by rfl) H5 (by intro u D;simp at D;subst D;rfl) (by unfold maxLen;omega) (by omega) (by omega) ?_;intro v7 w7 Hb Hg Hp;have O:Below w.heap.size r w7:=(N.mono Ha).grown Hg (by omega) (fun k i=>(Hj.lt k i).1);have z7:=O.size;have c7:=(O.cell (p:=⟨g,q,none⟩) (show g<w.heap.size by omega)).trans H;have H7:=hid (G.below O H8);refine b.out _ _ ⟨O,c7⟩ (fun qh=> ?_);clear b K;try simp only [zP]
     refine cZ 16 ?_;intro K b;rw [if_pos (by rfl)];refine QaN _ _ _ (by rfl) w.heap.size 5 i0 _ 1 1 Tryz.underlying22 T Hk Hl Hm rfl (by decide) v7 (q+1) _ (by rfl) Hb _ (L - M) _ (win zs (M) (L - M)) (by rfl) (Qdj (by have:=o.out;have:=Hz.out;omega)) (QcP H7.out (by have:=o.out;have:=Hz.out;omega)) (Qf3 _ _ _) (by unfold maxLen;omega) (by omega) (by omega) ?_;intro v8 w8 Hd Hh Hq;have X:Below w.heap.size r w8:=O.grown Hh (by omega) (fun k i=>(Hb.lt k i).1);have c8:=(X.cell (p:=⟨g,q,none⟩) (show g<w.heap.size by omega)).trans H;refine b.out _ _ ⟨X,c8⟩ (fun qh=> ?_);clear b K;try simp only [zP]
     refine tZ 17 4 ?_;refine zD ?_;have R:=hid (Hx v8 w8 ((zs.drop 0).take q++[(y:Int)]++(zs.drop (M)).take (L - M)) X (by
      have Z:((zs.drop 0).take q++[(y:Int)]++(zs.drop (M)).take (L - M)).length=q+1+(L - M):=by have:=o.out;have:=Hz.out;simp;omega
      rw [Z,List.map_append,List.map_append];exact Hd) (Qgq _ _ (fun z I=>by
       rcases List.mem_append.1 I with h|h
       ·exact Hy z h
       ·simp at h;subst h;omega) G.2.2.2.2) (by have:=o.out;have:=Hz.out;simp;omega))
     clear qh;go_wp2_with fail;go_ret;obtain⟨r1,r2,E,r4,Q,U,V⟩:=R.out;first|exact⟨r1,r2,E,by have:=o.out;omega,Q,U,V⟩|exact⟨r1,E,r2,by have:=o.out;omega,Q,U,V⟩
    ·obtain rfl:c=M:=by omega
     obtain rfl:L=c:=by omega
     clear Hw;go_wp2_with fail;refine zR (S:=fun w'=>Below w.heap.size r w'/\ w'.cell? ⟨g,q,none⟩=some (.int .u8 (z:Int))) ⟨zI.drew,H⟩ (fun qh=> ?_);refine tZ 0 60 ?_;refine tZ 1 61 ?_;refine tZ 2 62 ?_;refine tZ 3 63 ?_;refine tZ 4 64 ?_;refine tZ 5 65 ?_;refine tZ 6 66 ?_;refine tZ 7 67 ?_;refine tZ 8 68 ?_;refine tZ 9 69 ?_;refine tZ 12 72 ?_;refine tZ 13 73 ?_;refine tZ 14 74 ?_;refine tZ 15 75 ?_;refine cZ 10 ?_;intro K b;go_simp;obtain⟨s,A⟩:∃s,(r.alloc (.cells #[.int .u8 (y:Int)] 5)).drew=s:=⟨_,rfl⟩;have N:Below r.heap.size r s:=by rw [<- A];exact(zO _ _).drew
     have z6:s.heap.size=r.heap.size+1:=by rw [<- A];simp
     have H5:∀j u,[Value.int .u8 (y:Int)][j]? =some u ->s.cell? ((⟨r.heap.size,0,none⟩:Addr).add j)=some u:=by rw [<- A];exact cell_one_new r _ _
     have Hj:s.ownsRow w.heap.size 5 1 v5 q (win zs 0 q):=by rw [<- A];exact World.ownsRow.alloc (w:=r) Hr _
     rw [A];clear A;have c6:=(N.cell (p:=⟨g,q,none⟩) (show g<r.heap.size by omega)).trans H;refine b.out _ _ ⟨N.mono Ha,c6⟩ (fun qh=> ?_);clear b K;try simp only [zP]
     refine cZ 11 ?_;intro K b;rw [if_pos (by rfl)];refine QaN _ _ _ (by rfl) w.heap.size 5 i0 _ 1 1 Tryz.underlying22 T Hk Hl Hm rfl (by decide) v5 q _ (by rfl) Hj ⟨r.heap.size,0,none⟩ 1 1 [.int .u8 (y:Int)] (by rfl) (by rfl) H5 (by intro u D;simp at D;subst D;rfl) (by unfold maxLen;omega) (by omega) (by omega) ?_;intro v7 w7 Hb Hg Hp;have O:Below w.heap.size r w7:=(N.mono Ha).grown Hg (by omega) (fun k i=>(Hj.lt k i).1);have z7:=O.size;have c7:=(O.cell (p:=⟨g,q,none⟩) (show g<w.heap.size by omega)).trans H;have H7:=hid (G.below O H8);refine b.out _ _ ⟨O,c7⟩ (fun qh=> ?_);clear b K;try simp only [zP]
     refine cZ 16 ?_;intro K b;rw [if_pos (by rfl)];refine QaN _ _ _ (by rfl) w.heap.size 5 i0 _ 1 1 Tryz.underlying22 T Hk Hl Hm rfl (by decide) v7 (q+1) _ (by rfl) Hb _ 0 _ [] (by rfl) rfl (QjP _ _) (by simp) (by unfold maxLen;omega) (by omega) (by omega) ?_;intro v8 w8 Hd Hh Hq;have X:Below w.heap.size r w8:=O.grown Hh (by omega) (fun k i=>(Hb.lt k i).1);have c8:=(X.cell (p:=⟨g,q,none⟩) (show g<w.heap.size by omega)).trans H;refine b.out _ _ ⟨X,c8⟩ (fun qh=> ?_);clear b K;try simp only [zP]
     refine tZ 17 4 ?_;refine zD ?_;have R:=hid (Hx v8 w8 ((zs.drop 0).take q++[(y:Int)]) X (by
      have Z:((zs.drop 0).take q++[(y:Int)]).length=q+1:=by have:=o.out;have:=Hz.out;simp;omega
      rw [Z,List.map_append];simpa [win] using Hd) (fun z I=>by
       rcases List.mem_append.1 I with h|h
       ·exact Hy z h
       ·simp at h;subst h;omega) (by have:=o.out;have:=Hz.out;simp;omega))
     clear qh;go_wp2_with fail;go_ret;obtain⟨r1,r2,E,r4,Q,U,V⟩:=R.out;first|exact⟨r1,r2,E,by have:=o.out;omega,Q,U,V⟩|exact⟨r1,E,r2,by have:=o.out;omega,Q,U,V⟩
end Go.Proofs.YtjdcfkmhmnblbaaGreatDoor
