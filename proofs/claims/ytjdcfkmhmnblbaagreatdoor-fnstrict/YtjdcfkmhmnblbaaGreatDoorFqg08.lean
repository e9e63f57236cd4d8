import Derived.Test.YtjdcfkmhmnblbaaGreatDoorFqg05
import Derived.Test.YtjdcfkmhmnblbaaGreatDoorShelf
import Derived.Lib.SlKeysI
set_option linter.unusedVariables false
set_option linter.unusedSimpArgs false
set_option maxRecDepth 100000
set_option maxHeartbeats 40000000
namespace Go.Proofs.YtjdcfkmhmnblbaaGreatDoor
open Go.ChangeShapes Go.WideShapes Go.ChangeAt Go.RowKit Go.Maps
def sF (l:List (Int×Int))(i:Nat):Int:=(l.getD i (0,0)).1
def sT (l:List (Int×Int))(i:Nat):Int:=(l.getD i (0,0)).2
def loK (l:List (Int×Int)):Nat ->Int
 | 0=>1
 | k+1=>sT l k+2
def spK (l:List (Int×Int)):Nat ->List Int
 | 0=>[]
 | k+1=>spK l k++(uvF 9 (sF l k - loK l k).toNat++uvF 9 (sT l k - sF l k).toNat)
def QjS (l:List (Int×Int)):List Int:=uvF 9 l.length++spK l l.length
theorem Qep (l:List (Int×Int)):∀k,(spK l k).length<=20*k
 | 0=>by simp [spK]
 | k+1=>by
  have:=Qep l k;have j:=(Qah 9 (sF l k - loK l k).toNat).1;have m:=(Qah 9 (sT l k - sF l k).toNat).1;simp only [spK,List.length_append];omega
theorem Qkn (l:List (Int×Int)):(QjS l).length<=10+20*l.length:=by
 have j:=(Qah 9 l.length).1;have:=Qep l l.length;simp only [QjS,List.length_append];omega
theorem QlD {l:List (Int×Int)}(h:Srt l){k:Nat}(hk:k<l.length):1<=loK l k/\ loK l k<=sF l k/\ sF l k<=sT l k/\ sT l k<=1000000000:=by
 have e:l.getD k (0,0)=l[k]:=by simp [List.getD,hk]
 have j:=h.2 _ (List.getElem_mem hk);rw [<- e] at j;have m:loK l k<=sF l k/\ 1<=loK l k:=by
  cases k with
  | zero=>exact⟨j.1,Int.le_refl _⟩
  | succ k=>
   have u:=Qfw h (show k<k+1 by omega) hk;have q:l.getD k (0,0)=l[k]:=by simp [List.getD,show k<l.length by omega]
   have r:=h.2 _ (List.getElem_mem (show k<l.length by omega));rw [<- q] at r;show (l.getD k (0,0)).2+2<=(l.getD (k+1) (0,0)).1/\ 1<=(l.getD k (0,0)).2+2;exact⟨by omega,by omega⟩
 exact⟨m.2,m.1,j.2.1,j.2.2⟩
theorem Qf5 (x:Int)(h0:0<=x)(h1:x<=1000000000):IntKind.u64.wrap x=x:=by
 unfold IntKind.wrap;simp [IntKind.bits,IntKind.signed];omega
theorem Qgo (B:Nat)(bv:Value)(zs0:List Int)(a:Option Addr)(c:Nat)(l:List (Int×Int))(w:World)(hB:B<=w.heap.size)(hl:zs0.length<=100000000)(ho:Own w B bv zs0)
  (hs:SS w a l.length (sF l) (sT l)) (hne:∀x,a=some x ->some x.block≠bv.ownBlock) (hok:Srt l) (hn:l.length<=1000):
  Calls Tryz.prog 48 #[bv,.slice a l.length c] w fun e w'=>∃v,e=.returned v/\ Own w' B v (zs0++QjS l)/\ Gr w w' bv v:=by
 obtain⟨n,U⟩:∃n,l.length=n:=⟨_,rfl⟩;have H:Hid (QjS l=uvF 9 n++spK l n):=by unfold QjS;rw [U];exact rfl
 rw [U] at hs hn ⊢;have Hb:Hid (∀k,k<n ->1<=loK l k/\ loK l k<=sF l k/\ sF l k<=sT l k/\ sT l k<=1000000000):=fun k hk=>QlD hok (by omega);have HU:=Qah 9 n;have HS:=Qep l;clear hok U;go_enter Tryz.func48,Tryz.ntmps48;go_wp2_with fail;refine(QaU B n bv zs0 w (by omega) hB (by omega) ho).mono ?_;rintro e w1 ⟨v1,rfl,V,O,Hj⟩;have Z:=hid O;rcases hs with h0|⟨b,off,rfl,hb,L⟩
 ·subst h0;clear O;go_wp2_with fail;refine wp_loop_rounds 1 ?_;rw [rounds_succ];go_wp2_with fail;go_ret;exact⟨v1,rfl,by rw [H.out];simpa [spK] using V,Z.out⟩
 have C:=hne _ rfl;have N:Hid (∀i,i<n ->w.cell? ⟨b,off+i*2,none⟩=some (.int .i64 (sF l i))/\ w.cell? ⟨b,off+i*2+1,none⟩=some (.int .i64 (sT l i))):=L;have Hd:=hid V;clear O L V hne ho;go_wp2_with fail;go_loopw [0,5,15] (fun b' lo i wr=>∃(k:Nat) (z:List Int),k<=n/\ i=.int .i64 k/\ lo=.int .i64 (loK l k)/\ Own wr B b' z/\ Hid (z=zs0++uvF 9 n++spK l k)/\ Hid (Gr w wr bv b')/\ w.heap.size<=wr.heap.size/\ z.length<=100000000+10+20*k) (fun _ _ i _=>n - (intOf i).toNat);case atStart=>exact⟨0,_,Nat.zero_le _,rfl,rfl,Hd.out,hid (by simp [spK]),Z,by omega,by simp;omega⟩
 case round=>
  obtain⟨k,z,hk,rfl,rfl,o,P,s,Hi,Hh⟩:=hrel;by_cases A:k<n
  ·have Hg:wr.cell? ⟨b,off+k*2,none⟩=some (.int .i64 (sF l k)):=s.g.cell (N k A).1 C;have Ha:wr.cell? ⟨b,off+k*2+1,none⟩=some (.int .i64 (sT l k)):=s.g.cell (N k A).2 C;obtain⟨q1,q2,q3,q4⟩:=Hb k A;obtain⟨q,r⟩:∃q,wr.alloc (.cells #[.int .i64 (sF l k),.int .i64 (sT l k)] 157)=q:=⟨_,rfl⟩;have zW:q.heap.size=wr.heap.size+1:=by rw [<- r];simp
   have R:q.cell? ⟨wr.heap.size,0,none⟩=some (.int .i64 (sF l k)):=by rw [<- r];simp
   have r1:q.cell? ⟨wr.heap.size,1,none⟩=some (.int .i64 (sT l k)):=by rw [<- r];simp
   have K:Own q B u0 z:=by rw [<- r];exact World.ownsRow.alloc o _
   have Y:Hid (Gr w q bv u0):=by rw [<- r];exact s.alloc _
   have Q:some wr.heap.size≠u0.ownBlock:=fun e=>by have:=(World.ownsRow.lt o _ e.symm).2;omega
   obtain⟨u,E⟩:∃m:Nat,sF l k - loK l k=(m:Int):=⟨(sF l k - loK l k).toNat,by omega⟩;obtain⟨y,M⟩:∃m:Nat,sT l k - sF l k=(m:Int):=⟨(sT l k - sF l k).toNat,by omega⟩;have x1:IntKind.i64.wrap (sF l k - loK l k)=(u:Int):=by rw [E];exact Qan _ (by omega) (by omega)
   have x2:IntKind.i64.wrap (sT l k - sF l k)=(y:Int):=by rw [M];exact Qan _ (by omega) (by omega)
   have x3:IntKind.u64.wrap (u:Int)=(u:Int):=Qf5 _ (by omega) (by omega);have x4:IntKind.u64.wrap (y:Int)=(y:Int):=Qf5 _ (by omega) (by omega);have Hf:Hid (spK l (k+1)=spK l k++(uvF 9 u++uvF 9 y)):=by show spK l k++_=_;rw [E,M];rfl
   have y1:u<=1000000000:=by omega
   have y2:y<=1000000000:=by omega
   clear E M;have x5:IntKind.i64.wrap (sT l k+2)=sT l k+2:=Qan _ (by omega) (by omega);have J:=hid K;clear K o;go_wp2_with fail;try rw [r]
   refine(QaU B u u0 z q (by omega) (by omega) (by omega) J.out).mono ?_;rintro e w2 ⟨W,rfl,D,t,Hk⟩;have S:=t.g.cell R Q;have T:=t.g.cell r1 Q;have l2:=(Qah 9 u).1;have l3:=(Qah 9 y).1;have X:some wr.heap.size≠W.ownBlock:=fun e=>by
    rcases t.l with h|⟨j,h,hj⟩
    ·exact Q (e.trans h)
    ·rw [h] at e;injection e with e;omega
   have G:=hid (Y.trans t);have I:=hid D;clear r Hg Ha R r1 t D Y J;go_wp2_with fail;refine(QaU B y W _ w2 (by omega) (by omega) (by simp;omega) I.out).mono ?_;rintro e w3 ⟨v3,rfl,F,p,Hl⟩;have t0:=p.g.cell S X;have t1:=p.g.cell T X;have Hc:=hid (G.trans p);have He:=hid F;clear S T p F G I;go_wp2_with fail;go_roundw;case rel=>exact⟨k+1,_,A,by go_num,rfl,He.out,hid (by rw [Hf.out,P.out];simp),Hc,by omega,by simp;omega⟩
   case measure=>simp [intOf];omega
  ·obtain rfl:k=n:=by omega
   have HO:=hid o;clear o;go_wp2_with fail;go_ret;refine⟨u0,rfl,?_,s.out⟩;rw [H.out,<- List.append_assoc,<- P.out];exact HO.out
open Go.Sort Go.Shelf
theorem Qoc (m:Nat):AnyZI.SortsIn Tryz.prog Tryz.sortedA_ren Fence.wide m:=
 ⟨fun blk off cap ss W hH hblk hsz=>callsIn_wide.2 (AnyM.slices_Sort_int Tryz.sortA blk off cap ss W hH hblk hsz),
  fun p cap W=>callsIn_wide.2 (AnyM.slices_Sort_int_none Tryz.sortA p cap W)⟩
theorem QnJ (mb:Option Nat)(W:World):Calls Tryz.prog 47 #[.map mb] W fun e w'=>e=.returned (.func (.func 80) #[] #[.pointer (some ⟨W.heap.size,0,none⟩)])/\ w'=W.alloc (.cells #[.map mb] 55):=
 (callsIn_wide (n:=5)).1 (AnyZI.keys_in Tryz.keysA Fence.wide 5 trivial rfl mb W)
theorem Qj7 {H:Type}(b nn:Nat)(D0:DataW H)(R:Value ->Option (DataW H×List MemPlace))(w:World)(hown:w.ownsMap Tryz.prog 3 R b nn D0)(hmax:Maps.size D0<=maxLen)(hbytes:Maps.size D0*8<=140737488355328):
  Calls Tryz.prog 46 #[.func (.func 80) #[] #[.pointer (some ⟨w.heap.size,0,none⟩)]] (w.alloc (.cells #[.map (some b)] 55)) fun e w'=>∃(v:Value) (j:List Int),e=.returned v/\ j.Perm (intKeys D0)/\
   w'.ownsRow (w.heap.size+1) 3 1 v j.length ((j.mergeSort (fun x y=>decide (x<=y))).map encZ)/\ Below w.heap.size w w':=by
 have t:=hown.lt;have i:SeqGives Fence.wide 2 Tryz.prog 80 #[.pointer (some ⟨w.heap.size,0,none⟩)] encZ (fun j=>j.Perm (intKeys D0)) (Maps.size D0) (w.alloc (.cells #[.map (some b)] 55)):=
  AnyZI.keys_gives (ρ:=Tryz.keysA_ren) {Tryz.keysA with} Fence.wide _ trivial rfl (by omega) w.heap.size b nn D0 _ (by simp) (by simp) (by
   obtain⟨z,u,k,r,o,h⟩:=hown;exact⟨z,u,(Below.heap_alloc _ _ b t).trans k,r,o,h⟩)
 have m:=AnyZI.sorted_in Tryz.sortedA Fence.wide 5 trivial trivial trivial trivial rfl (by omega) (Qoc _) (enters_of Tryz.func79 (by kernel_rfl) rfl) 80 #[.pointer (some ⟨w.heap.size,0,none⟩)] trivial (enters_of Tryz.func80 (by kernel_rfl) rfl) _ _ hmax hbytes _ i;change CallsIn _ _ Tryz.prog 46 _ _ _ at m;refine((callsIn_wide (n:=5)).1 m).mono ?_;rintro e w' ⟨v,j,rfl,g,q,p,k⟩;refine⟨v,j,rfl,g,?_,((Below.refl _ w).alloc zL _).trans (k.mono (by simp))⟩;have e:(w.alloc (.cells #[.map (some b)] 55)).heap.size=w.heap.size+1:=by simp
 rw [e] at q;exact q
def KS (L:Int ->List (Int×Int)):Nat ->List Int
 | 0=>[]
 | k+1=>KS L k++(if (L (k:Int)).isEmpty then [] else [(k:Int)])
theorem Qdk (L:Int ->List (Int×Int))(k:Nat):∀x,x∈KS L k↔(0<=x/\ x<k/\ (L x).isEmpty=false):=by
 induction k with
 | zero=>intro x;simp [KS];omega
 | succ k ih=>
  intro x;simp only [KS,List.mem_append,ih];by_cases e:(L (k:Int)).isEmpty=true
  ·rw [if_pos e];constructor
   ·rintro(⟨a,b,c⟩|h)
    ·exact⟨a,by omega,c⟩
    ·simp at h
   ·rintro⟨a,b,c⟩;refine .inl ⟨a,?_,c⟩;rcases Int.lt_or_le x k with h|h
    ·exact h
    ·have:x=(k:Int):=by omega
     rw [this,e] at c;cases c
  ·rw [if_neg e];simp only [Bool.not_eq_true] at e;constructor
   ·rintro(⟨a,b,c⟩|h)
    ·exact⟨a,by omega,c⟩
    ·rw [List.mem_singleton] at h;subst h;exact⟨by omega,by omega,e⟩
   ·rintro⟨a,b,c⟩;rcases Int.lt_or_le x k with h|h
    ·exact .inl ⟨a,h,c⟩
    ·exact .inr (List.mem_singleton.2 (by omega))
theorem Qix (L:Int ->List (Int×Int))(k:Nat):(KS L k).Pairwise (fun x y=>x<y):=by
 induction k with
 | zero=>exact List.Pairwise.nil
 | succ k ih=>
  simp only [KS];refine List.pairwise_append.2 ⟨ih,?_,fun x hx y hy=> ?_⟩
  ·split
   ·exact List.Pairwise.nil
   ·exact List.pairwise_singleton _ _
  ·have:=(Qdk L k x).1 hx;split at hy
   ·cases hy
   ·rw [List.mem_singleton] at hy;omega
theorem QfC (L:Int ->List (Int×Int))(k:Nat):(KS L k).length<=k:=by
 induction k with
 | zero=>simp [KS]
 | succ k ih=>simp only [KS,List.length_append];split<;>simp<;>omega
theorem Qjb {w:World}{bm n:Nat}{D:DataW Value}{G:Int ->Value}{L:Int ->List (Int×Int)}(h:QaY w bm n D G L)(hL:∀r,L r≠[] ->0<=r/\ r<8):(KS L 8).Perm (intKeys D)/\ Maps.size D=(KS L 8).length:=by
 obtain⟨y,k,t,_⟩:=h.own.entries (int_keyed Tryz.underlying3);obtain⟨z,m,g⟩:=h.own.keysOf;obtain rfl:y=z:=by rw [k] at m;simpa using m
 have u:(KS L 8).Perm (intKeys D):=by
  have q:=h.has';rw [k] at q ⊢;refine perm_intKeys t (fun p hp=>by obtain⟨v,o⟩:=g p hp;obtain⟨x,_,i,_⟩:=Maps.keyOf_i64 Tryz.underlying3 o;exact⟨x,i⟩) ((Qix L 8).imp (fun h=>by omega)) (fun x=> ?_);have:=q x;unfold kI at this;rw [this,Qdk];constructor
  ·rintro⟨_,_,c⟩;rw [c];rfl
  ·intro c;have j:(L x).isEmpty=false:=by simpa using c
   have:=hL x (by intro e;rw [e] at j;cases j);exact⟨this.1,this.2,j⟩
 refine⟨u,?_⟩;rw [u.length_eq,k];simp [Maps.size_eq,intKeys]
theorem QfD {L:Int ->List (Int×Int)}{ss ks:List Int}(h1:(KS L 8).Perm ks)(h2:ss.Perm ks):ss.mergeSort (fun x y=>decide (x<=y))=KS L 8:=by
 rw [mergeSort_of_perm_i (h2.trans h1.symm)];refine List.mergeSort_of_pairwise ((Qix L 8).imp (fun h=> ?_));simp;omega
theorem Qiz {R F T:Nat ->Int}:∀k:Nat,Qeu R F T k ->∀r,Lk R F T k r≠[] ->0<=r/\ r<8
 | 0,_=>fun r h=>absurd rfl h
 | k+1,h=>fun r hr=>by
  have j:=Qbg.1 (h k (by omega)).1;by_cases e:r=R k
  ·subst e;exact⟨j.1,j.2.1⟩
  ·have m:Lk R F T (k+1) r=Lk R F T k r:=Qap _ _ e;rw [m] at hr;exact Qiz k (fun i hi=>h i (by omega)) r hr
def QmQ (L:Int ->List (Int×Int))(r:Int):List Int:=uvF 9 r.toNat++QjS (L r)
def Qf8 (L:Int ->List (Int×Int))(ks:List Int):Nat ->List Int
 | 0=>[]
 | k+1=>Qf8 L ks k++QmQ L (ks.getD k 0)
def Qee (L:Int ->List (Int×Int)):List Int:=uvF 9 (KS L 8).length++Qf8 L (KS L 8) (KS L 8).length
theorem QhB {L:Int ->List (Int×Int)}(hL:∀r,(L r).length<=1000)(ks:List Int):∀k,(Qf8 L ks k).length<=30000*k
 | 0=>by simp [Qf8]
 | k+1=>by
  have:=QhB hL ks k;have j:=(Qah 9 (ks.getD k 0).toNat).1;have m:=Qkn (L (ks.getD k 0));have q:=hL (ks.getD k 0);simp only [Qf8,QmQ,List.length_append];omega
theorem QaY.gr {w w1:World}{bm n:Nat}{D:DataW Value}{G:Int ->Value}{L:Int ->List (Int×Int)}(h:QaY w bm n D G L){row:Option Nat}(hg:w.grownBy w1 row)(hr:some bm≠row)(hro:∀r g,(G r).ownBlock=some g ->some g≠row):QaY w1 bm n D G L:=
 ⟨h.own.kept hg hr,h.at',h.has',fun r=>(h.rows r).kept hg (by
  cases e:(G r).ownBlock with
  | none=>exact .inl rfl
  | some g=>exact .inr (hro r g e)),h.apart⟩
theorem QhL {w:World}{B g m cap:Nat}{zs:List Int}(h:w.ownsRow B 3 1 (.slice (some ⟨g,0,none⟩) m cap) m (zs.map encZ))(hl:zs.length=m):∀i,i<m ->w.cell? ⟨g,i,none⟩=some (.int .i64 (zs.getD i 0)):=by
 intro i j;rw [h.cellAt i (by omega)];simp [List.getD,show i<zs.length by omega]
theorem Qi4 {w:World}{bm n:Nat}{D:DataW Value}{G:Int ->Value}{L:Int ->List (Int×Int)}(hgrp:QaY w bm n D G L)(HLen:Hid (∀r,(L r).length<=1000))(HSrt:Hid (∀r,Srt (L r)))(HRep:Hid (∀r,L r≠[] ->0<=r/\ r<8)):
  Calls Tryz.prog 22 #[.map (some bm),.slice none 0 0] w fun e w'=>∃v,e=.returned v/\ Own w' w.heap.size v (Qee L)/\ Below w.heap.size w w':=by
 obtain⟨T,Z⟩:=Qjb hgrp HRep.out;obtain⟨q,o⟩:∃q,KS L 8=q:=⟨_,rfl⟩;have Ho:Hid (Qee L=uvF 9 q.length++Qf8 L q q.length):=by unfold Qee;rw [o];exact rfl
 have Gn:q.length<=8:=by rw [<- o];exact QfC L 8
 have Hk:Hid (∀x∈q,0<=x/\ x<8/\ L x≠[]):=fun x hx=>by
  rw [<- o] at hx;have:=(Qdk L 8 x).1 hx;exact⟨this.1,by omega,fun e=>by rw [e] at this;simp at this⟩
 have Hp:Hid (∀b:List Int,b.Perm (intKeys D) ->b.mergeSort (fun x y=>decide (x<=y))=q/\ b.length=q.length):=fun b hs=>by rw [<- o];exact⟨QfD T hs,by rw [hs.length_eq,<- T.length_eq]⟩
 rw [o] at Z;clear o T;have Hd:=hgrp.own.len Tryz.underlying55;rw [Z] at Hd;have O:=hid hgrp;have HU:=Qah 9 q.length;clear hgrp;have x0:IntKind.u64.wrap ((q.length:Nat):Int)=(q.length:Int):=Qf5 _ (by omega) (by omega);go_enter Tryz.func22,Tryz.ntmps22;go_wp2_with fail;refine(QjZ w.heap.size q.length _ [] w (by omega) zL (by simp) (World.ownsRow_nil _ _ _ _)).mono ?_;rintro e H ⟨M,rfl,Hu,X,Gq⟩;have Q:=hid Hu;have W:=hid X;have H7:=O.own.lt;have I:=hid (O.below X);clear Hu X Hd;go_wp2_with fail;refine(QnJ (some bm) H).mono ?_;rintro e w3 ⟨rfl,rfl⟩;go_wp2_with fail;refine(Qj7 bm n D Qii H I.own (by rw [Z];unfold maxLen;omega) (by rw [Z];omega)).mono ?_;rintro e z ⟨v4,b,rfl,Ha,u,A⟩;obtain⟨Hq,N⟩:=Hp b Ha;rw [Hq,N] at u;have Ga:=N;clear Ha Hq N Hp;have Hv:Own z w.heap.size M (uvF 9 q.length):=Q.kept A (fun k t=>(World.ownsRow.lt Q.out k t).2);have Hz:∀k,M.ownBlock=some k ->w.heap.size<=k/\ k<H.heap.size:=fun k t=>World.ownsRow.lt Q.out k t;have s:=hid Hz;have g4:QaY z bm n D G L:=I.below A;have H0:=hid g4;have Hb:Hid (∀r g,(G r).ownBlock=some g ->g<w.heap.size):=fun r g E=>((O.rows r).lt g E).2;have Hm:=hid (W.trans (A.mono (by omega)));have z4:H.heap.size<=z.heap.size:=A.size;have Hn:=hid Hv;clear A Q W I O g4 Hv Hz;rcases u.2 with ⟨rfl,J⟩|⟨g,cap,Gj,rfl,Gk,E,Gp,H8,H9,Hh⟩
 ·have HE:Hid (Qee L=uvF 9 q.length):=by show Qee L=_;rw [Ho.out,J];simp [Qf8]
  have H4:=hid u;clear u;go_wp2_with fail;refine wp_loop_rounds 1 ?_;rw [rounds_succ];go_wp2_with fail;go_ret;exact⟨M,rfl,by rw [HE.out];exact Hn.out,Hm.out⟩
 have HC:Hid (∀i,i<q.length ->z.cell? ⟨g,i,none⟩=some (.int .i64 (q.getD i 0))):=QhL u rfl;have Hl:some g≠M.ownBlock:=fun e=>by have:=(s g e.symm).2;omega
 have Gm:g<z.heap.size:=(u.lt g rfl).2;unfold maxLen at H8;clear u E H9 Hh;go_wp2_with fail;go_loopw [1,16] (fun b' i wr=>∃(k:Nat) (p:List Int),k<=q.length/\ i=.int .i64 k/\ Hid (Own wr w.heap.size b' p)/\ Hid (p=uvF 9 q.length++Qf8 L q k)/\ Hid (Gr z wr M b')/\ z.heap.size<=wr.heap.size) (fun _ i _=>q.length - (intOf i).toNat);case atStart=>exact⟨0,_,Nat.zero_le _,rfl,Hn,hid (by simp [Qf8]),hid (Gr.refl _ _),Nat.le_refl _⟩
 case round=>
  obtain⟨k,p,t,rfl,Hf,S,C,Gi⟩:=hrel;by_cases F:k<q.length
  ·have R:=Hk (q.getD k 0) (by simp [List.getD,F]);obtain⟨m,P⟩:∃m:Nat,q.getD k 0=(m:Int):=⟨(q.getD k 0).toNat,by omega⟩;have Hr:=C.g.cell (HC k F) Hl;have Gu:p.length<=10+30000*k:=by rw [S.out];have:=QhB HLen.out q k;simp;omega
   have H3:Hid (Qf8 L q (k+1)=Qf8 L q k++(uvF 9 m++QjS (L (m:Int)))):=by show Qf8 L q k++QmQ L (q.getD k 0)=_;rw [P];rfl
   rw [P] at R Hr;have Go:m<8:=by omega
   have He:=R.2.2;have x3:IntKind.u64.wrap (m:Int)=(m:Int):=Qf5 _ (by omega) (by omega);clear R P;go_wp2_with fail;refine(QaU w.heap.size m u1 p wr (by omega) (by omega) (by omega) Hf.out).mono ?_;rintro e w5 ⟨v5,rfl,Hw,Hs,Gs⟩;have V:=C.trans Hs;have K:QaY w5 bm n D G L:=H0.gr V.g (fun e=>by have:=(s _ e.symm).1;omega) (fun r g E e=>by have:=(s _ e.symm).1;have:=Hb r g E;omega);have Ht:=K.look (m:Int) (wfI (by omega) (by omega));have Y:=K.rows (m:Int);rcases Y.2 with ⟨_,J⟩|⟨U,cs,cu,eG,Gc,Gd,Ge,Gf,Gg,Gh⟩
   ·exact absurd (List.eq_nil_of_length_eq_zero J) He
   have Gl:=Hb (m:Int) U (by rw [eG];rfl);rw [eG] at Ht Y;have Hy:=QhQ Y rfl;have Hc:some U≠v5.ownBlock:=fun e=>by
    rcases V.l with h|⟨j,h,hj⟩
    ·have:=(s U (h ▸ e.symm)).1;omega
    ·rw [h] at e;injection e with e;omega
   have l5:=(Qah 9 m).1;have Hg:=HSrt (m:Int);have Gb:=HLen (m:Int);have H1:=hid Hw;have Hi:=hid V;have H5:=hid Hy;have H6:=hid Hg;clear Hy Y K Hw V Gc Gd Ge Gf Gg Gh Hs Hr Hg He;go_wp2_with fail;refine(Qgo w.heap.size v5 (p++uvF 9 m) (some ⟨U,0,none⟩) cs (L (m:Int)) w5 (by omega) (by simp;omega) H1.out H5.out (fun x hx=>by injection hx with hx;subst hx;exact Hc) H6.out Gb).mono ?_;rintro e w6 ⟨v6,rfl,Hx,B⟩;have H2:=hid Hx;have Hj:=hid (Hi.trans B);have Gt:=B.g.size;clear Hx B Ht;go_wp2_with fail;go_roundw;case rel=>exact⟨k+1,_,F,by go_num,H2,hid (by rw [H3.out,S.out];simp),Hj,by omega⟩
   case measure=>simp [intOf];omega
  ·obtain rfl:k=q.length:=by omega
   go_wp2_with fail;go_ret;refine⟨_,rfl,?_,Hm.trans (C.below (by omega) (fun k t=>by have:=(s k t).1;omega))⟩;rw [Ho.out,<- S.out];exact Hf.out
theorem Qa1 (w:World)(x y z:Value)(t:TypeId):∀j u,[x,y,z][j]? =some u ->(w.alloc (.cells #[x,y,z] t)).cell? ((⟨w.heap.size,0,none⟩:Addr).add j)=some u:=by
 intro j u k;match j,k with
 | 0,k=>simp at k;subst k;simp [Addr.add]
 | 1,k=>simp at k;subst k;simp [Addr.add]
 | 2,k=>simp at k;subst k;simp [Addr.add]
def QaA (r:Int)(l:List (Int×Int)):List Value:=l.flatMap fun p=>[.int .i64 r,.int .i64 p.1,.int .i64 p.2]
theorem Qfu (r:Int)(l:List (Int×Int))(p:Int×Int):QaA r (l++[p])=QaA r l++[.int .i64 r,.int .i64 p.1,.int .i64 p.2]:=by simp [QaA]
theorem Qb5.at {w:World}{a:Option Addr}{n:Nat}{R F T:Nat ->Int}(h:Qb5 w a n R F T){k:Nat}(hk:k<n):∃b off,a=some ⟨b,off,none⟩/\ b<w.heap.size/\ w.cell? ⟨b,off+k*3,none⟩=some (.int .i64 (R k))/\ w.cell? ⟨b,off+k*3+1,none⟩=some (.int .i64 (F k))/\ w.cell? ⟨b,off+k*3+2,none⟩=some (.int .i64 (T k)):=by
 rcases h with h|⟨b,off,rfl,j,m⟩
 ·omega
 ·exact⟨b,off,rfl,j,m k hk⟩
theorem Qof (a:Option Addr)(n c:Nat)(R F T:Nat ->Int)(rep:Int)(w:World)(hn:n<=1048576)(h:Qb5 w a n R F T):
  Calls Tryz.prog 59 #[.agg #[.slice a n c],.int .i64 rep] w fun e w'=>∃v,e=.returned v/\ w'.ownsRow w.heap.size 79 3 v (Lk R F T n rep).length (QaA rep (Lk R F T n rep))/\ Below w.heap.size w w':=by
 obtain⟨i0,S,Hc,Hd,He⟩:=info_parts Tryz.infoRun;obtain⟨L,j⟩:∃L:Nat ->List (Int×Int),(fun k=>Lk R F T k rep)=L:=⟨_,rfl⟩;have E:Lk R F T n rep=L n:=by rw [<- j]
 have U:Hid (L 0=[]):=by show L 0=[];rw [<- j];rfl
 have Z:Hid (∀k,R k=rep ->L (k+1)=L k++[(F k,T k)]):=fun k e=>by
  rw [<- j];show upd _ _ _ _=_;rw [<- e,Qay]
 have Y:Hid (∀k,R k≠rep ->L (k+1)=L k):=fun k e=>by
  rw [<- j];show upd _ _ _ _=_;rw [Qap _ _ (fun h=>e h.symm)]
 have V:Hid (∀k,(L k).length<=k):=fun k=>by rw [<- j];exact Qdl R F T k rep
 rw [E];clear E j;have Ha:(w.alloc (.cells #[.slice a n c] 27)).cell? ⟨w.heap.size,0,none⟩=some (.slice a n c):=by simp
 go_enter Tryz.func59,Tryz.ntmps59;go_wp2_with fail;go_loopw [5,6] (fun v i wr=>∃k:Nat,k<=n/\ i=.int .i64 k/\ Hid (wr.ownsRow (w.heap.size+1) 79 3 v (L k).length (QaA rep (L k)))/\ Hid (Below w.heap.size w wr)/\ wr.cell? ⟨w.heap.size,0,none⟩=some (.slice a n c)/\ w.heap.size+1<=wr.heap.size) (fun _ i _=>n - (intOf i).toNat);case atStart=>
  refine⟨0,Nat.zero_le _,rfl,?_,hid (Qak _ _ _),by simp,by simp⟩;rw [U.out];have:=World.ownsRow_lit (base:=w.heap.size+1) (e:=79) (size:=3) (w.alloc (.cells #[.slice a n c] 27)) #[] 0 (by simp) (by unfold maxLen;omega) rfl;exact hid (by simpa [QaA] using this)
 case round=>
  obtain⟨k,M,rfl,y,z,p,Hb⟩:=hrel;by_cases s:k<n
  ·obtain⟨b,off,rfl,hb,C,D,P⟩:=(h.below z.out).at s;have Hg:=V k;by_cases q:R k=rep
   ·have N:(R k==rep)=true:=by simp [q]
    have m:=Z k q;subst q;have o:=hid m;have X:some w.heap.size≠u5.ownBlock:=fun e=>by have:=(y.lt _ e.symm).1;omega
    clear m;go_wp2_with (at_builtin;refine Qai rfl _ _ 25 rfl (w.heap.size+1) 79 i0 _ 3 24 Tryz.underlying25 S Hc Hd He rfl (by decide) _ _ _ rfl (y.alloc _) ⟨wr.heap.size,0,none⟩ 1 1 [.int .i64 (R k),.int .i64 (F k),.int .i64 (T k)] rfl rfl ?c1 ?c2 ?c3 ?c4 ?c5 ?_);case c1=>exact Qa1 _ _ _ _ _
    case c2=>intro u Q;simp at Q;rcases Q with rfl|rfl|rfl<;>rfl
    case c3=>unfold maxLen;omega
    case c4=>omega
    case c5=>simp;omega
    ·intro v' w1 O t W;have G:Hid (w1.ownsRow (w.heap.size+1) 79 3 v' (L (k+1)).length (QaA (R k) (L (k+1)))):=by
      rw [o.out,Qfu,List.length_append];exact O
     have H:Hid (Below w.heap.size w w1):=(z.alloc (by omega) _).grown t (by simp;omega) (fun k M=>by have:=(y.lt k M).1;omega);have I:w1.cell? ⟨w.heap.size,0,none⟩=some (.slice (some ⟨b,off,none⟩) n c):=t.cell (by rw [Below.cell (B:=wr.heap.size) (zO _ _) (show w.heap.size<wr.heap.size by omega)];exact p) X;have J:=t.size;simp at J;clear O t W C D P p;go_wp2_with fail;go_roundw;case rel=>exact⟨k+1,s,by go_num,G,H,I,by omega⟩
     case measure=>simp [intOf];omega
   ·have N:(R k==rep)=false:=by simp [q]
    have m:=Y k q;have o:=hid m;clear m;go_wp2_with fail;go_roundw;case rel=>exact⟨k+1,s,by go_num,by rw [o.out];exact y,z,p,Hb⟩
    case measure=>simp [intOf];omega
  ·obtain rfl:k=n:=by omega
   go_wp2_with fail;go_ret;refine⟨_,rfl,?_,z.out⟩;obtain⟨q1,A⟩:=y.out;refine⟨q1,?_⟩;rcases A with A|⟨g,cap,K,rfl,Hf,r⟩
   ·exact .inl A
   ·exact .inr ⟨g,cap,K,rfl,by omega,r⟩
theorem QaP (m:Nat)(w:World)(hm:m<=1000000000):
  Calls Tryz.prog 60 #[.int .i64 (m:Int)] w fun e w'=>∃v,e=.returned v/\ Own w' w.heap.size v (uvF 9 m)/\ Below w.heap.size w w'/\ w.heap.size<w'.heap.size:=by
 have r:IntKind.u64.wrap (m:Int)=(m:Int):=Qf5 _ (by omega) (by omega);go_enter Tryz.func60,Tryz.ntmps60;go_wp2_with fail;refine(QlC 9 m w zL (show m<128^(9+1) by omega) (by omega)).mono ?_;rintro e w1 ⟨v,rfl,k,j,q⟩;go_wp2_with fail;go_ret;exact⟨v,rfl,k,j,q⟩
abbrev Rn:=Int×Int×Int
def Apt (p q:Rn):Prop:=p.1<q.1 \/(p.1=q.1/\ p.2.2+1<q.2.1)
instance (p q:Rn):Decidable (Apt p q):=by unfold Apt;infer_instance
def Rok (p:Rn):Prop:=0<=p.1/\ p.1<8/\ 1<=p.2.1/\ p.2.1<=p.2.2/\ p.2.2<=1000000000
def QbV (l:List Rn):Prop:=l.Pairwise Apt/\∀p∈l,Rok p
def InR (p:Rn)(r x:Int):Prop:=p.1=r/\ p.2.1<=x/\ x<=p.2.2
def RI (l:List Rn)(r x:Int):Prop:=∃p∈l,InR p r x
theorem Apt.trans {p q s:Rn}(h1:Apt p q)(hq:Rok q)(h2:Apt q s):Apt p s:=by
 unfold Apt Rok at*;omega
theorem QeM {p:Rn}{l:List Rn}{r x:Int}:RI (p::l) r x↔InR p r x \/RI l r x:=by simp [RI]
theorem Qbn {l l':List Rn}{r x:Int}:RI (l++l') r x↔RI l r x \/RI l' r x:=by
 constructor
 ·rintro⟨p,j,h⟩;rcases List.mem_append.1 j with j|j
  ·exact .inl ⟨p,j,h⟩
  ·exact .inr ⟨p,j,h⟩
 ·rintro(⟨p,j,h⟩|⟨p,j,h⟩)
  ·exact⟨p,List.mem_append.2 (.inl j),h⟩
  ·exact⟨p,List.mem_append.2 (.inr j),h⟩
theorem Qhf {p:Rn}{r x:Int}:RI [p] r x↔InR p r x:=by simp [RI]
theorem Qi1 {r x:Int}:¬RI [] r x:=by simp [RI]
theorem Qho {p q:Rn}{l:List Rn}(h:QbV (p::l))(j:q∈p::l):p.1<q.1 \/(p.1=q.1/\ p.2.1<=q.2.1):=by
 rcases List.mem_cons.1 j with rfl|j
 ·exact .inr ⟨rfl,Int.le_refl _⟩
 ·have k:=(List.pairwise_cons.1 h.1).1 q j;have m:=h.2 p (List.mem_cons_self);unfold Apt Rok at*;omega
theorem QjM {p p':Rn}{t t':List Rn}(h:QbV (p::t))(h':QbV (p'::t'))(he:∀r x,RI (p::t) r x ->RI (p'::t') r x)(hf:p.1=p'.1/\ p.2.1=p'.2.1):p.2.2<=p'.2.2:=by
 have g:=h.2 p List.mem_cons_self;have o:=h'.2 p' List.mem_cons_self;rcases Int.lt_or_le p'.2.2 p.2.2 with z|m
 ·exfalso;have k:RI (p::t) p.1 (p'.2.2+1):=⟨p,List.mem_cons_self,rfl,by unfold Rok at*;omega,by omega⟩;obtain⟨q,j,u,v,y⟩:=he _ _ k;rcases List.mem_cons.1 j with rfl|j
  ·omega
  ·have:=(List.pairwise_cons.1 h'.1).1 q j;unfold Apt at this;omega
 ·exact m
theorem uniq:∀{l l':List Rn},QbV l ->QbV l' ->(∀r x,RI l r x↔RI l' r x) ->l=l'
 | [],[],_,_,_=>rfl
 | [],p'::t',_,h',he=>by
  have y:=h'.2 p' List.mem_cons_self;exact absurd ((he p'.1 p'.2.1).2 ⟨p',List.mem_cons_self,rfl,Int.le_refl _,y.2.2.2.1⟩) Qi1
 | p::t,[],h,_,he=>by
  have v:=h.2 p List.mem_cons_self;exact absurd ((he p.1 p.2.1).1 ⟨p,List.mem_cons_self,rfl,Int.le_refl _,v.2.2.2.1⟩) Qi1
 | p::t,p'::t',h,h',he=>by
  have v:=h.2 p List.mem_cons_self;have y:=h'.2 p' List.mem_cons_self;have m:p.1=p'.1/\ p.2.1=p'.2.1:=by
   obtain⟨q,j,U,Y,G⟩:=(he p.1 p.2.1).1 ⟨p,List.mem_cons_self,rfl,Int.le_refl _,v.2.2.2.1⟩;obtain⟨B,E,V,Z,H⟩:=(he p'.1 p'.2.1).2 ⟨p',List.mem_cons_self,rfl,Int.le_refl _,y.2.2.2.1⟩;have a:=Qho h' j;have b:=Qho h E;omega
  have o:=QjM h h' (fun r x=>(he r x).1) m;have i:=QjM h' h (fun r x=>(he r x).2) ⟨m.1.symm,m.2.symm⟩;have A:p=p':=by
   obtain⟨a,b,c⟩:=p;obtain⟨Q,b',g⟩:=p';simp at m o i;obtain⟨rfl,rfl⟩:=m;have:c=g:=by omega
   rw [this]
  subst A;have z:∀{s:List Rn},QbV (p::s) ->∀{r x},RI s r x ->¬InR p r x:=by
   rintro s M r x ⟨q,j,I,J,K⟩ ⟨L,N,X⟩;have:=(List.pairwise_cons.1 M.1).1 q j;unfold Apt at this;omega
  have O:t=t':=by
   refine uniq ⟨(List.pairwise_cons.1 h.1).2,fun q j=>h.2 q (List.mem_cons_of_mem _ j)⟩ ⟨(List.pairwise_cons.1 h'.1).2,fun q j=>h'.2 q (List.mem_cons_of_mem _ j)⟩ (fun r x=> ?_);have e:=he r x;rw [QeM,QeM] at e;constructor
   ·intro u;rcases e.1 (.inr u) with k|k
    ·exact absurd k (z h u)
    ·exact k
   ·intro u;rcases e.2 (.inr u) with k|k
    ·exact absurd k (z h' u)
    ·exact k
  rw [O]
def QaI (s:List Rn×Rn×List Rn)(q:Rn):List Rn×Rn×List Rn:=
 if Apt q s.2.1 then(s.1++[q],s.2.1,s.2.2) else if Apt s.2.1 q then(s.1,s.2.1,s.2.2++[q]) else(s.1,(s.2.1.1,min q.2.1 s.2.1.2.1,max q.2.2 s.2.1.2.2),s.2.2)
def Qg6 (l:List Rn)(r:Rn):List Rn×Rn×List Rn:=l.foldl QaI ([],r,[])
def ins (l:List Rn)(r:Rn):List Rn:=(Qg6 l r).1++[(Qg6 l r).2.1]++(Qg6 l r).2.2
structure Inv (s:List Rn×Rn×List Rn)(t:List Rn):Prop where
 b:QbV s.1
 a:QbV s.2.2
 r:Rok s.2.1
 br:∀p∈s.1,Apt p s.2.1
 ra:∀p∈s.2.2,Apt s.2.1 p
 bt:∀p∈s.1,∀q∈t,Apt p q
 at':∀p∈s.2.2,∀q∈t,Apt p q
 t:QbV t
def RS (s:List Rn×Rn×List Rn)(r x:Int):Prop:=RI s.1 r x \/InR s.2.1 r x \/RI s.2.2 r x
theorem QbV.snoc {l:List Rn}{q:Rn}(h:QbV l)(hq:Rok q)(ha:∀p∈l,Apt p q):QbV (l++[q]):=
 ⟨List.pairwise_append.2 ⟨h.1,List.pairwise_singleton _ _,fun p j q' hq'=>by rw [List.mem_singleton] at hq';subst hq';exact ha p j⟩,fun p j=>by
  rcases List.mem_append.1 j with j|j
  ·exact h.2 p j
  ·rw [List.mem_singleton] at j;subst j;exact hq⟩
theorem Inv.step {s:List Rn×Rn×List Rn}{q:Rn}{t:List Rn}(h:Inv s (q::t)):Inv (QaI s q) t/\∀r x,RS (QaI s q) r x↔(RS s r x \/InR q r x):=by
 have v:=h.t.2 q List.mem_cons_self;have y:=(List.pairwise_cons.1 h.t.1).1;have u:QbV t:=⟨(List.pairwise_cons.1 h.t.1).2,fun p j=>h.t.2 p (List.mem_cons_of_mem _ j)⟩;have m:=fun p j q' (hq':q'∈t)=>h.bt p j q' (List.mem_cons_of_mem _ hq');have k:=fun p j q' (hq':q'∈t)=>h.at' p j q' (List.mem_cons_of_mem _ hq');unfold QaI;split
 ·rename_i hA;refine⟨⟨h.b.snoc v (fun p j=>h.bt p j q List.mem_cons_self),h.a,h.r,fun p j=> ?_,h.ra,fun p j=> ?_,k,u⟩,fun r x=> ?_⟩
  ·rcases List.mem_append.1 j with j|j
   ·exact h.br p j
   ·rw [List.mem_singleton] at j;subst j;exact hA
  ·rcases List.mem_append.1 j with j|j
   ·exact m p j
   ·rw [List.mem_singleton] at j;subst j;exact y
  ·simp only [RS,Qbn,Qhf];constructor
   ·rintro((a|a)|a|a)
    ·exact .inl (.inl a)
    ·exact .inr a
    ·exact .inl (.inr (.inl a))
    ·exact .inl (.inr (.inr a))
   ·rintro((a|a|a)|a)
    ·exact .inl (.inl a)
    ·exact .inr (.inl a)
    ·exact .inr (.inr a)
    ·exact .inl (.inr a)
 ·rename_i hA;split
  ·rename_i hB;refine⟨⟨h.b,h.a.snoc v (fun p j=>h.at' p j q List.mem_cons_self),h.r,h.br,fun p j=> ?_,m,fun p j=> ?_,u⟩,fun r x=> ?_⟩
   ·rcases List.mem_append.1 j with j|j
    ·exact h.ra p j
    ·rw [List.mem_singleton] at j;subst j;exact hB
   ·rcases List.mem_append.1 j with j|j
    ·exact k p j
    ·rw [List.mem_singleton] at j;subst j;exact y
   ·simp only [RS,Qbn,Qhf];constructor
    ·rintro(a|a|a|a)
     ·exact .inl (.inl a)
     ·exact .inl (.inr (.inl a))
     ·exact .inl (.inr (.inr a))
     ·exact .inr a
    ·rintro((a|a|a)|a)
     ·exact .inl a
     ·exact .inr (.inl a)
     ·exact .inr (.inr (.inl a))
     ·exact .inr (.inr (.inr a))
  ·rename_i hB;have i:=h.r;have nil:∀p∈s.2.2,False:=fun p j=>hB ((h.ra p j).trans (h.a.2 p j) (h.at' p j q List.mem_cons_self));refine⟨⟨h.b,h.a,?_,fun p j=> ?_,fun p j=>(nil p j).elim,m,k,u⟩,fun r x=> ?_⟩
   ·unfold Apt Rok at*;simp only;omega
   ·have g:=h.br p j;have o:=h.bt p j q List.mem_cons_self;unfold Apt at*;simp only;omega
   ·have z:InR (s.2.1.1,min q.2.1 s.2.1.2.1,max q.2.2 s.2.1.2.2) r x↔(InR s.2.1 r x \/InR q r x):=by
     unfold InR Apt Rok at*;simp only;omega
    simp only [RS,z];constructor
    ·rintro(a|(a|a)|a)
     ·exact .inl (.inl a)
     ·exact .inl (.inr (.inl a))
     ·exact .inr a
     ·exact .inl (.inr (.inr a))
    ·rintro((a|a|a)|a)
     ·exact .inl a
     ·exact .inr (.inl (.inl a))
     ·exact .inr (.inr a)
     ·exact .inr (.inl (.inr a))
theorem Inv.fold:∀(t:List Rn) (s:List Rn×Rn×List Rn),Inv s t ->Inv (t.foldl QaI s) []/\∀r x,RS (t.foldl QaI s) r x↔(RS s r x \/RI t r x)
 | [],s,h=>⟨h,fun r x=>by simp [RI]⟩
 | q::t,s,h=>by
  obtain⟨j,k⟩:=h.step;obtain⟨m,u⟩:=Inv.fold t _ j;refine⟨m,fun r x=> ?_⟩;rw [List.foldl_cons,u r x,k r x,QeM,or_assoc]
theorem Qn9 {l:List Rn}{r:Rn}(hl:QbV l)(hr:Rok r):QbV (ins l r)/\∀y x,RI (ins l r) y x↔(RI l y x \/InR r y x):=by
 have m:Inv ([],r,[]) l:=⟨⟨List.Pairwise.nil,(fun p j=>by cases j)⟩,⟨List.Pairwise.nil,(fun p j=>by cases j)⟩,hr,(fun p j=>by cases j),(fun p j=>by cases j),(fun p j=>by cases j),(fun p j=>by cases j),hl⟩;obtain⟨h,u⟩:=Inv.fold l _ m;change Inv (Qg6 l r) [] at h;refine⟨⟨?_,fun p j=> ?_⟩,fun y x=> ?_⟩
 ·unfold ins;rw [List.append_assoc];refine List.pairwise_append.2 ⟨h.b.1,List.pairwise_append.2 ⟨List.pairwise_singleton _ _,h.a.1,fun p j q k=> ?_⟩,fun p j q k=> ?_⟩
  ·rw [List.mem_singleton] at j;subst j;exact h.ra q k
  ·rcases List.mem_append.1 k with k|k
   ·rw [List.mem_singleton] at k;subst k;exact h.br p j
   ·exact(h.br p j).trans h.r (h.ra q k)
 ·unfold ins at j;rcases List.mem_append.1 j with j|j
  ·rcases List.mem_append.1 j with j|j
   ·exact h.b.2 p j
   ·rw [List.mem_singleton] at j;subst j;exact h.r
  ·exact h.a.2 p j
 ·have:=u y x;unfold ins;rw [Qbn,Qbn,Qhf];change RS (Qg6 l r) y x↔_ at this;unfold RS at this;rw [or_assoc,this];simp [RI];exact or_comm
def unF (l b:List Rn):List Rn:=b.foldl ins l
theorem Qds:∀(b l:List Rn),QbV l ->(∀p∈b,Rok p) ->QbV (unF l b)/\∀y x,RI (unF l b) y x↔(RI l y x \/RI b y x)
 | [],l,h,_=>⟨h,fun y x=>by simp [unF,RI]⟩
 | q::b,l,h,hb=>by
  obtain⟨j,k⟩:=Qn9 h (hb q List.mem_cons_self);obtain⟨m,r⟩:=Qds b (ins l q) j (fun p hp=>hb p (List.mem_cons_of_mem _ hp));refine⟨m,fun y x=> ?_⟩;show RI (unF (ins l q) b) y x↔_;rw [r,k,QeM,or_assoc]
def In (l:List (Int×Int))(x:Int):Prop:=∃p∈l,p.1<=x/\ x<=p.2
theorem Qiv {l l':List (Int×Int)}{x:Int}:In (l++l') x↔In l x \/In l' x:=by
 constructor
 ·rintro⟨p,j,h⟩;rcases List.mem_append.1 j with j|j
  ·exact .inl ⟨p,j,h⟩
  ·exact .inr ⟨p,j,h⟩
 ·rintro(⟨p,j,h⟩|⟨p,j,h⟩)
  ·exact⟨p,List.mem_append.2 (.inl j),h⟩
  ·exact⟨p,List.mem_append.2 (.inr j),h⟩
theorem Qnb {p:Int×Int}{x:Int}:In [p] x↔p.1<=x/\ x<=p.2:=by simp [In]
theorem Qiw {x:Int}:¬In [] x:=by simp [In]
def flat (R F T:Nat ->Int)(n:Nat):List Rn:=(List.range n).map fun i=>(R i,F i,T i)
def tag (r:Int)(l:List (Int×Int)):List Rn:=l.map fun p=>(r,p.1,p.2)
def Qdv (L:Int ->List (Int×Int))(k:Nat):List Rn:=(KS L k).flatMap fun r=>tag r (L r)
theorem QcC (R F T:Nat ->Int)(n:Nat):flat R F T (n+1)=flat R F T n++[(R n,F n,T n)]:=by simp [flat,List.range_succ]
theorem Qfa (R F T:Nat ->Int):∀(n:Nat) (r x:Int),RI (flat R F T n) r x↔In (Lk R F T n r) x
 | 0,r,x=>by simp [flat,Lk,RI,In]
 | n+1,r,x=>by
  rw [QcC,Qbn,Qhf,Qfa R F T n r x];by_cases e:r=R n
  ·subst e;have:Lk R F T (n+1) (R n)=Lk R F T n (R n)++[(F n,T n)]:=Qay _ _ _;rw [this,Qiv,Qnb];simp [InR]
  ·have:Lk R F T (n+1) r=Lk R F T n r:=Qap _ _ e;rw [this];simp [InR,Ne.symm e]
theorem Qbx {R F T:Nat ->Int}:∀(n:Nat),Qeu R F T n ->QbV (flat R F T n)
 | 0,_=>⟨by simp [flat],fun p j=>by simp [flat] at j⟩
 | n+1,h=>by
  have q:=Qbx n (fun i hi=>h i (by omega));have v:=Qbg.1 (h n (by omega)).1;rw [QcC];refine q.snoc v (fun p j=> ?_);cases n with
  | zero=>simp [flat] at j
  | succ m=>
   have k:=(h (m+1) (by omega)).2 (by omega);unfold QaE at k;have k:=of_decide_eq_true k;rw [Nat.add_sub_cancel] at k;have r:Apt (R m,F m,T m) (R (m+1),F (m+1),T (m+1)):=k;rw [QcC] at j q;rcases List.mem_append.1 j with j|j
   ·have u:=(List.pairwise_append.1 q.1).2.2 p j _ (List.mem_singleton.2 rfl);exact u.trans (q.2 _ (by simp)) r
   ·rw [List.mem_singleton] at j;subst j;exact r
theorem Qha {r:Int}{l:List (Int×Int)}(h:Srt l)(h0:0<=r)(h8:r<8):QbV (tag r l):=by
 refine⟨List.pairwise_map.2 (h.1.imp (fun hh=> .inr ⟨rfl,hh⟩)),fun p hp=> ?_⟩;obtain⟨q,j,rfl⟩:=List.mem_map.1 hp;have:=h.2 q j;exact⟨h0,h8,this⟩
theorem QjI {r:Int}{l:List (Int×Int)}{y x:Int}:RI (tag r l) y x↔(r=y/\ In l x):=by
 constructor
 ·rintro⟨p,u,k,m⟩;obtain⟨q,j,rfl⟩:=List.mem_map.1 u;exact⟨k,q,j,m⟩
 ·rintro⟨rfl,q,j,h⟩;exact⟨_,List.mem_map.2 ⟨q,j,rfl⟩,rfl,h⟩
theorem QgL {L:Int ->List (Int×Int)}{k:Nat}(h:(L (k:Int)).isEmpty=false):Qdv L (k+1)=Qdv L k++tag (k:Int) (L (k:Int)):=by
 simp [Qdv,KS,h]
theorem QgK {L:Int ->List (Int×Int)}{k:Nat}(h:(L (k:Int)).isEmpty=true):Qdv L (k+1)=Qdv L k:=by
 simp [Qdv,KS,h]
theorem Qec {L:Int ->List (Int×Int)}(hL:∀r,Srt (L r)):∀k:Nat,k<=8 ->QbV (Qdv L k)/\ (∀y x,RI (Qdv L k) y x↔(0<=y/\ y<k/\ In (L y) x))/\∀p∈Qdv L k,p.1<k
 | 0,_=>⟨⟨by simp [Qdv,KS],fun p j=>by simp [Qdv,KS] at j⟩,fun y x=>by simp [Qdv,KS,RI];omega,fun p j=>by simp [Qdv,KS] at j⟩
 | k+1,hk=>by
  obtain⟨m,z,u⟩:=Qec hL k (by omega);by_cases e:(L (k:Int)).isEmpty=true
  ·rw [QgK e];refine⟨m,fun y x=> ?_,fun p j=>by have:=u p j;omega⟩;rw [z];constructor
   ·rintro⟨a,b,c⟩;exact⟨a,by omega,c⟩
   ·rintro⟨a,b,c⟩;refine⟨a,?_,c⟩;rcases Int.lt_or_le y k with h|h
    ·exact h
    ·have:y=(k:Int):=by omega
     subst this;have:L (k:Int)=[]:=by simpa using e
     rw [this] at c;exact absurd c Qiw
  ·have e:(L (k:Int)).isEmpty=false:=by simpa using e
   rw [QgL e];have v:=Qha (hL (k:Int)) (by omega:(0:Int)<=k) (by omega);refine⟨⟨List.pairwise_append.2 ⟨m.1,v.1,fun p j q hq=> ?_⟩,fun p j=> ?_⟩,fun y x=> ?_,fun p j=> ?_⟩
   ·obtain⟨g,_,rfl⟩:=List.mem_map.1 hq;exact .inl (u p j)
   ·rcases List.mem_append.1 j with j|j
    ·exact m.2 p j
    ·exact v.2 p j
   ·rw [Qbn,z,QjI];constructor
    ·rintro(⟨a,b,c⟩|⟨rfl,c⟩)
     ·exact⟨a,by omega,c⟩
     ·exact⟨by omega,by omega,c⟩
    ·rintro⟨a,b,c⟩;rcases Int.lt_or_le y k with h|h
     ·exact .inl ⟨a,h,c⟩
     ·have:y=(k:Int):=by omega
      subst this;exact .inr ⟨rfl,c⟩
   ·rcases List.mem_append.1 j with j|j
    ·have:=u p j;omega
    ·obtain⟨g,_,rfl⟩:=List.mem_map.1 j;show (k:Int)<_;omega
def SR (w:World)(B:Nat)(v:Value)(l:List (Int×Int)):Prop:=w.ownsRow B 157 2 v l.length (Qaw l)
theorem Qoz (w:World)(x y:Value)(t:TypeId):∀j u,[x,y][j]? =some u ->(w.alloc (.cells #[x,y] t)).cell? ((⟨w.heap.size,0,none⟩:Addr).add j)=some u:=by
 intro j u k;match j,k with
 | 0,k=>simp at k;subst k;simp [Addr.add]
 | 1,k=>simp at k;subst k;simp [Addr.add]
theorem Qbe (w:World)(p:Addr)(u:Value):w.grownBy (w.setCell p u) (some p.block):=
 ⟨rfl,rfl,rfl,by simp [World.setCell],fun k hk hne=>zH _ _ _ _ (fun e=>hne (by rw [e]))⟩
structure Qdt (w:World)(bm n:Nat)(D:DataW Value)(G:Int ->Value)(L:Int ->List (Int×Int)):Prop where
 own:w.ownsMap Tryz.prog 3 Qii bm n D
 at':∀r,D.atKey (kI r) (.held (.slice none 0 0))=.held (G r)
 has':∀r,Maps.has D (kI r)= !(L r).isEmpty
 rows:∀r,w.ownsRow 0 157 2 (G r) (L r).length (Qaw (L r))
theorem QhM {w:World}{B:Nat}{e:TypeId}{s:Nat}{v:Value}{n:Nat}{xs:List Value}(h:w.ownsRow B e s v n xs):w.ownsRow 0 e s v n xs:=by
 obtain⟨k,m⟩:=h;refine⟨k,m.imp id ?_⟩;rintro⟨g,cap,j,e,_,r⟩;exact⟨g,cap,j,e,Nat.zero_le _,r⟩
theorem Qj3 {w:World}{B bm n:Nat}{e:TypeId}{s:Nat}{v:Value}{m:Nat}{xs:List Value}{D:DataW Value}(h:w.ownsRow B e s v m xs)(hm:w.ownsMap Tryz.prog 3 Qii bm n D):v.ownBlock=none \/v.ownBlock≠some bm:=by
 obtain⟨_,k⟩:=h;rcases k with ⟨rfl,_⟩|⟨g,cap,u,rfl,_,j,_⟩
 ·exact .inl rfl
 ·refine .inr (fun e=> ?_);obtain⟨y,r,q,_⟩:=hm;have e:g=bm:=by simpa [Value.ownBlock] using e
  rw [e,q] at j;cases j
theorem Qem {w w1:World}{B:Nat}{e:TypeId}{s:Nat}{v:Value}{n:Nat}{xs:List Value}(h:w.ownsRow B e s v n xs)(hb:Below w.heap.size w w1):w1.ownsRow B e s v n xs:=
 QeD h hb (fun k hk=>(h.lt k hk).2)
theorem Qj4 {w:World}{B:Nat}{v:Value}{l:List (Int×Int)}(h:w.ownsRow B 157 2 v l.length (Qaw l)):
  ∃a c,v=.slice a l.length c/\ SS w a l.length (sF l) (sT l)/\ l.length<=c/\ c<=9223372036854775807:=by
 rcases h.2 with ⟨e,j⟩|⟨g,cap,q,e,r,_,m,k,_⟩
 ·exact⟨none,0,by rw [e,j],.inl j,by omega,by omega⟩
 ·exact⟨_,cap,e,by rw [e] at h;exact QhQ h rfl,m,by unfold maxLen at k;omega⟩
theorem QaO {w:World}{B:Nat}{e:TypeId}{size:Nat}{v:Value}{n:Nat}{xs:List Value}(h:w.ownsRow B e size v n xs):∃y m c,v=.slice y m c:=by
 rcases h.2 with ⟨rfl,_⟩|⟨g,cap,j,rfl,_⟩
 ·exact⟨_,_,_,rfl⟩
 ·exact⟨_,_,_,rfl⟩
theorem Qdt.gr {w w1:World}{bm n:Nat}{D:DataW Value}{G:Int ->Value}{L:Int ->List (Int×Int)}(h:Qdt w bm n D G L){row:Option Nat}(hg:w.grownBy w1 row)(hr:some bm≠row)(hro:∀r g,(G r).ownBlock=some g ->some g≠row):Qdt w1 bm n D G L:=
 ⟨h.own.kept hg hr,h.at',h.has',fun r=>(h.rows r).kept hg (by
  cases e:(G r).ownBlock with
  | none=>exact .inl rfl
  | some g=>exact .inr (hro r g e))⟩
theorem Qdt.below {w w1:World}{bm n:Nat}{D:DataW Value}{G:Int ->Value}{L:Int ->List (Int×Int)}(h:Qdt w bm n D G L)(hb:Below w.heap.size w w1):Qdt w1 bm n D G L:=
 h.gr (row:=none) ⟨hb.os,hb.tape,hb.output,hb.size,fun k hk _=>hb.block k hk⟩ (by simp) (by simp)
def Qas (l:List Rn):List Value:=l.flatMap fun p=>[.int .i64 p.1,.int .i64 p.2.1,.int .i64 p.2.2]
theorem Qcz (l:List Rn)(p:Rn):Qas (l++[p])=Qas l++[.int .i64 p.1,.int .i64 p.2.1,.int .i64 p.2.2]:=by simp [Qas]
def FR (w:World)(B:Nat)(v:Value)(l:List Rn):Prop:=w.ownsRow B 79 3 v l.length (Qas l)
theorem Qdt.look {w:World}{bm n:Nat}{D:DataW Value}{G:Int ->Value}{L:Int ->List (Int×Int)}(h:Qdt w bm n D G L)(r:Int)(hr:(Lit.int .i64 r).wf=true):
  (Instr.lookup 55 (.map (some bm)) (.int .i64 r) false).run Tryz.prog w=.ok (G r) w:=by
 obtain⟨v,ps,k,m⟩:=h.own.lookup (int_keyed Tryz.underlying3) Tryz.underlying55 (Qgl w) (zd:=.held (.slice none 0 0)) (zp:=[]) rfl (keyOf_int_mk Tryz.underlying3 hr);have:=h.at' r;obtain⟨j,_⟩:=QhC m;unfold kI at this;rw [this] at j;have e:v=G r:=by injection j with j;exact j.symm
 rw [k,e]
theorem Qic {w:World}{bm n:Nat}{D:DataW Value}{G:Int ->Value}{L:Int ->List (Int×Int)}(h:Qdt w bm n D G L)(hL:∀r,L r≠[] ->0<=r/\ r<8):(KS L 8).Perm (intKeys D)/\ Maps.size D=(KS L 8).length:=by
 obtain⟨y,k,t,_⟩:=h.own.entries (int_keyed Tryz.underlying3);obtain⟨z,m,g⟩:=h.own.keysOf;obtain rfl:y=z:=by rw [k] at m;simpa using m
 have u:(KS L 8).Perm (intKeys D):=by
  have q:=h.has';rw [k] at q ⊢;refine perm_intKeys t (fun p hp=>by obtain⟨v,o⟩:=g p hp;obtain⟨x,_,i,_⟩:=Maps.keyOf_i64 Tryz.underlying3 o;exact⟨x,i⟩) ((Qix L 8).imp (fun h=>by omega)) (fun x=> ?_);have:=q x;unfold kI at this;rw [this,Qdk];constructor
  ·rintro⟨_,_,c⟩;rw [c];rfl
  ·intro c;have j:(L x).isEmpty=false:=by simpa using c
   have:=hL x (by intro e;rw [e] at j;cases j);exact⟨this.1,this.2,j⟩
 refine⟨u,?_⟩;rw [u.length_eq,k];simp [Maps.size_eq,intKeys]
def Qf7 (L:Int ->List (Int×Int))(ks:List Int):Nat ->List Rn
 | 0=>[]
 | k+1=>Qf7 L ks k++tag (ks.getD k 0) (L (ks.getD k 0))
theorem QfY (L:Int ->List (Int×Int))(ks:List Int):∀k,k<=ks.length ->Qf7 L ks k=(ks.take k).flatMap fun r=>tag r (L r)
 | 0,_=>by simp [Qf7]
 | k+1,h=>by
  have e:ks.take (k+1)=ks.take k++[ks.getD k 0]:=by
   rw [List.take_add_one];simp [List.getD,show k<ks.length by omega]
  rw [e,List.flatMap_append,<- QfY L ks k (by omega)];simp [Qf7]
theorem Qh6 {L:Int ->List (Int×Int)}(hL:∀r,(L r).length<=4000)(ks:List Int):∀k,(Qf7 L ks k).length<=4000*k
 | 0=>by simp [Qf7]
 | k+1=>by
  have:=Qh6 hL ks k;have:=hL (ks.getD k 0);simp only [Qf7,List.length_append,tag,List.length_map];omega
theorem QkP {r:Int}{l:List (Int×Int)}{t:Nat}(h:t<l.length):(tag r l).take (t+1)=(tag r l).take t++[(r,sF l t,sT l t)]:=by
 rw [List.take_add_one];simp [tag,sF,sT,List.getD,h]
theorem QiD {w:World}{bm n:Nat}{D:DataW Value}{G:Int ->Value}{L:Int ->List (Int×Int)}(h:Qdt w bm n D G L)(hL:∀r,L r≠[] ->0<=r/\ r<8)(hl:∀r,(L r).length<=4000):
  Calls Tryz.prog 38 #[.map (some bm)] w fun e w'=>∃v,e=.returned (.agg #[v])/\ FR w' w.heap.size v (Qdv L 8)/\ Below w.heap.size w w':=by
 obtain⟨i0,hi,G2,G3,G4⟩:=info_parts Tryz.infoRun;have G8:=h.own.lt;obtain⟨kp,Hz⟩:=Qic h hL;obtain⟨z,S⟩:∃z,KS L 8=z:=⟨_,rfl⟩;have Gu:Hid (Qdv L 8=Qf7 L z z.length):=by
  refine hid ?_;rw [QfY L z _ zL,List.take_length,<- S];rfl
 have Kb:z.length<=8:=by rw [<- S];exact QfC L 8
 have Hr:Hid (∀x∈z,0<=x/\ x<8/\ L x≠[]):=fun x T=>by
  rw [<- S] at T;have:=(Qdk L 8 x).1 T;exact⟨this.1,by omega,fun e=>by rw [e] at this;simp at this⟩
 have H9:Hid (∀ss:List Int,ss.Perm (intKeys D) ->ss.mergeSort (fun x y=>decide (x<=y))=z/\ ss.length=z.length):=fun ss hs=>by rw [<- S];exact⟨QfD kp hs,by rw [hs.length_eq,<- kp.length_eq]⟩
 rw [S] at Hz;clear S kp hL;have HG:=hid h;have H7:=hid hl;have Hg:Hid (∀r g,(G r).ownBlock=some g ->g<w.heap.size):=fun r g Q=>((h.rows r).lt g Q).2;clear h hl;obtain⟨M,J⟩:∃M,(w.alloc (.cells #[.slice none 0 0] 27)).alloc (.cells #[.slice none 0 0] 27)=M:=⟨_,rfl⟩;have H2:Hid (Below w.heap.size w M):=by rw [<- J];exact hid (Qak _ _ _)
 have B:Hid (M.heap.size=w.heap.size+2):=by rw [<- J];exact hid (by simp)
 have c2:M.cell? ⟨w.heap.size,0,none⟩=some (.slice none 0 0):=by rw [<- J];simp
 have c3:M.cell? ⟨w.heap.size+1,0,none⟩=some (.slice none 0 0):=by rw [<- J];simp
 have f2:M.frozen? ⟨w.heap.size,0,none⟩=false:=by rw [<- J];simp
 have f3:M.frozen? ⟨w.heap.size+1,0,none⟩=false:=by rw [<- J];simp
 have Hf:=hid (HG.below H2.out);go_enter Tryz.func38,Tryz.ntmps38;go_wp2_with fail;try rw [J]
 refine(QnJ (some bm) M).mono ?_;rintro e w3 ⟨rfl,rfl⟩;go_wp2_with fail;refine(Qj7 bm n D Qii M Hf.own (by rw [Hz];unfold maxLen;omega) (by rw [Hz];omega)).mono ?_;rintro e b ⟨v4,ss,rfl,He,Hc,N⟩;obtain⟨Gd,Ge⟩:=H9 ss He;rw [Gd,Ge] at Hc;have z4:w.heap.size+2<=b.heap.size:=by have:=N.size;have:=B.out;omega
 have d2:=(N.cell (p:=⟨w.heap.size,0,none⟩) (by have:=B.out;show w.heap.size<_;omega)).trans c2;have d3:=(N.cell (p:=⟨w.heap.size+1,0,none⟩) (by have:=B.out;show w.heap.size+1<_;omega)).trans c3;have k2:=((Qcs N).2 w.heap.size 0 (by have:=B.out;omega)).trans f2;have k3:=((Qcs N).2 (w.heap.size+1) 0 (by have:=B.out;omega)).trans f3;have H3:=hid (Qac H2.out N);have H5:=hid (HG.below H3.out);clear He Gd Ge H9 N J c2 c3 Hf f2 f3;have Gz:Hid (z.length=0 \/∃g cap,v4=.slice (some ⟨g,0,none⟩) z.length cap/\ g<b.heap.size/\ w.heap.size+2<=g/\ z.length<=cap/\ cap<=9223372036854775807/\∀i,i<z.length ->b.cell? ⟨g,i,none⟩=some (.int .i64 (z.getD i 0))):=by
  refine hid ?_;have hr:=Hc;rcases Hc.2 with ⟨_,e0⟩|⟨g,cap,Ht,rfl,G7,Q,G1,Gx,G9,Gk⟩
  ·exact .inl e0
  ·have:=B.out;unfold maxLen at Gx;exact .inr ⟨g,cap,rfl,(hr.lt g rfl).2,by omega,G1,by omega,QhL hr rfl⟩
 obtain⟨x4,Ga,e4⟩:∃x c,v4=.slice x z.length c:=by
  rcases Hc.2 with ⟨rfl,e0⟩|⟨g,cap,Ht,rfl,_⟩
  ·exact⟨none,0,by rw [e0]⟩
  ·exact⟨_,_,rfl⟩
 subst e4;clear Hc;go_wp2_with fail;go_loopw [12] (fun iv wr=>∃(k:Nat) (v:Value),k<=z.length/\ iv=.int .i64 k/\ wr.cell? ⟨w.heap.size+1,0,none⟩=some v/\ wr.cell? ⟨w.heap.size,0,none⟩=some (.slice none 0 0)/\ wr.frozen? ⟨w.heap.size,0,none⟩=false/\ wr.frozen? ⟨w.heap.size+1,0,none⟩=false/\ Hid (FR wr b.heap.size v (Qf7 L z k))/\ Hid (b.grownBy wr (some (w.heap.size+1)))) (fun iv _=>z.length - (intOf iv).toNat);case atStart=>exact⟨0,_,Nat.zero_le _,rfl,d3,d2,k2,k3,hid (World.ownsRow_nil _ _ _ _),hid ⟨rfl,rfl,rfl,Nat.le_refl _,fun _ _ _=>rfl⟩⟩
 case round=>
  clear d2 d3 k2 k3;obtain⟨k,v,hk,rfl,Z,o,W,j3,Hj,Hm⟩:=hrel;by_cases Hy:k<z.length
  ·have Hb:∃g,x4=some ⟨g,0,none⟩/\ z.length<=Ga/\ Ga<=9223372036854775807/\ wr.cell? ⟨g,k,none⟩=some (.int .i64 (z.getD k 0)):=by
    rcases Gz.out with h|⟨g,cap,e,Q,Ka,q1,q2,hc⟩
    ·omega
    ·injection e with e1 o Z;subst e1 Z;have Hl:some g≠some (w.heap.size+1):=fun e=>by injection e with e;omega
     exact⟨g,rfl,q1,q2,Hm.cell (hc k Hy) Hl⟩
   obtain⟨g,rfl,Kd,Ke,Gg⟩:=Hb;have Hk:=Hr (z.getD k 0) (by simp [List.getD,Hy]);have Hh:Hid (Qf7 L z (k+1)=Qf7 L z k++tag (z.getD k 0) (L (z.getD k 0))):=hid rfl;have Kc:=Qh6 H7.out z k;obtain⟨x,T⟩:∃x,z.getD k 0=x:=⟨_,rfl⟩;rw [T] at Hk Gg Hh;have Gm:(Lit.int .i64 x).wf=true:=wfI (by omega) (by omega);have gw:Qdt wr bm n D G L:=H5.gr Hm.out (fun e=>by injection e with e;omega) (fun r g Q e=>by injection e with e;have:=Hg r g Q;omega);have Hx:=gw.look x Gm;obtain⟨xs,cs,eG,Gj,Hu,Gy⟩:=Qj4 (H5.rows x);rw [eG] at Hx;have Hw:=H7 x;obtain⟨m,hm⟩:∃m,(L x).length=m:=⟨_,rfl⟩;have H8:=hid Gj;have Gv:Hid (∀a,xs=some a ->a.block<w.heap.size):=hid fun a ha=>by
    have:=Hg x a.block (by rw [eG,ha];rfl);exact this
   rw [hm] at Hx Hu Hw H8;have HM:=hid hm;have HX:=hid T;clear gw eG Gj hm T Hk Gm;go_wp2_with fail;go_loopw [20] (fun iv wr2=>∃(t:Nat) (V:Value),t<=m/\ iv=.int .i64 t/\ wr2.cell? ⟨w.heap.size+1,0,none⟩=some V/\ wr2.cell? ⟨w.heap.size,0,none⟩=some (.slice none 0 0)/\ wr2.frozen? ⟨w.heap.size,0,none⟩=false/\ wr2.frozen? ⟨w.heap.size+1,0,none⟩=false/\ Hid (FR wr2 b.heap.size V (Qf7 L z k++(tag x (L x)).take t))/\ Hid (b.grownBy wr2 (some (w.heap.size+1)))) (fun iv _=>m - (intOf iv).toNat);case atStart=>exact⟨0,v,Nat.zero_le _,rfl,Z,o,W,j3,hid (by simpa using Hj.out),Hm⟩
   case round=>
    clear Z o Hx Hj Gg W j3;obtain⟨t,V,ht,rfl,Z,o,W,j3,P,R⟩:=hrel;have zr:=R.size;have G0:(Qf7 L z k++(tag x (L x)).take t).length<=4000*k+4000:=by simp only [List.length_append,List.length_take];omega
    obtain⟨fl,Hv⟩:∃fl,Qf7 L z k++(tag x (L x)).take t=fl:=⟨_,rfl⟩;rw [Hv] at P G0;have H4:=hid Hv;clear Hv;by_cases H0:t<m
    ·have Hb:∃H off,xs=some ⟨H,off,none⟩/\ wr.cell? ⟨H,off+t*2,none⟩=some (.int .i64 (sF (L x) t))/\ wr.cell? ⟨H,off+t*2+1,none⟩=some (.int .i64 (sT (L x) t)):=by
      rcases H8.out with h|⟨H,off,e,Q,hc⟩
      ·omega
      ·have I:=Gv _ e;have Hl:some H≠some (w.heap.size+1):=fun e=>by injection e with e;have I:H<w.heap.size:=I;omega
       exact⟨H,off,e,R.cell (hc t H0).1 Hl,R.cell (hc t H0).2 Hl⟩
     obtain⟨H,off,rfl,s0,s1⟩:=Hb;have Hs:=hid (QkP (r:=x) (l:=L x) (t:=t) (by have:=HM.out;omega));obtain⟨qf,Gh⟩:∃q,sF (L x) t=q:=⟨_,rfl⟩;obtain⟨qt,Gi⟩:∃q,sT (L x) t=q:=⟨_,rfl⟩;rw [Gh] at s0 Hs;rw [Gi] at s1 Hs;clear Gh Gi;obtain⟨s,K⟩:∃s,wr.alloc (.cells #[.int .i64 qf,.int .i64 qt] 157)=s:=⟨_,rfl⟩;have C:Below wr.heap.size wr s:=by rw [<- K];exact zO _ _
     have r0:s.cell? ⟨wr.heap.size,0,none⟩=some (.int .i64 qf):=by rw [<- K];simp
     have r1:s.cell? ⟨wr.heap.size,1,none⟩=some (.int .i64 qt):=by rw [<- K];simp
     have Gc:=(C.cell (p:=⟨w.heap.size+1,0,none⟩) (show w.heap.size+1<wr.heap.size by omega)).trans Z;have Gq:Hid (FR s b.heap.size V fl):=by rw [<- K];exact World.ownsRow.alloc P.out _
     have Gs:Hid (b.grownBy s (some (w.heap.size+1))):=by rw [<- K];exact hid (R.andThen (World.grownBy_alloc wr _ none) (fun j hj=>by cases hj))
     have Hn:=hid ((C.cell (p:=⟨w.heap.size,0,none⟩) (show w.heap.size<wr.heap.size by omega)).trans o);have Hp:=hid (((Qcs C).2 w.heap.size 0 (by omega)).trans W);have Hq:=hid (((Qcs C).2 (w.heap.size+1) 0 (by omega)).trans j3);have z5:=C.size;have H1:Hid (∀g,V.ownBlock=some g ->b.heap.size<=g):=hid fun g Q=>(World.ownsRow.lt P.out g Q).1;clear C P R o W j3;go_wp2_with (at_builtin;(try rw [K]);refine Qai rfl _ _ 25 rfl b.heap.size 79 i0 _ 3 24 Tryz.underlying25 hi G2 G3 G4 rfl (by decide) _ _ _ rfl (World.ownsRow.alloc Gq.out _) ⟨s.heap.size,0,none⟩ 1 1 [.int .i64 x,.int .i64 qf,.int .i64 qt] rfl rfl ?c1 ?c2 ?c3 ?c4 ?c5 ?_);case c1=>exact Qa1 _ _ _ _ _
     case c2=>intro u hu;simp at hu;rcases hu with rfl|rfl|rfl<;>rfl
     case c3=>unfold maxLen;omega
     case c4=>omega
     case c5=>simp;omega
     intro A E Ha X Hd;obtain⟨y7,n7,c7,rfl⟩:=QaO Ha;obtain⟨A,Gl⟩:∃A,A=Value.slice y7 n7 c7:=⟨_,rfl⟩;rw [<- Gl] at Ha Hd;have Gf:some (w.heap.size+1)≠V.ownBlock:=fun e=>by have:=H1 _ e.symm;omega
     have Hi:some w.heap.size≠V.ownBlock:=fun e=>by have:=H1 _ e.symm;omega
     have F:Below s.heap.size s (s.alloc (.cells #[.int .i64 x,.int .i64 qf,.int .i64 qt] 79)):=zO _ _;have Gw:=X.cell ((F.cell (p:=⟨w.heap.size+1,0,none⟩) (show w.heap.size+1<s.heap.size by omega)).trans Gc) Gf;have Gb:=X.cell ((F.cell (p:=⟨w.heap.size,0,none⟩) (show w.heap.size<s.heap.size by omega)).trans Hn.out) Hi;have z7:=X.size;have z6:=F.size;have G6:E.frozen? ⟨w.heap.size+1,0,none⟩=false:=(World.frozen?_of_block (X.block (w.heap.size+1) (by omega) Gf)).trans (((Qcs F).2 (w.heap.size+1) 0 (by omega)).trans Hq.out);have G5:E.frozen? ⟨w.heap.size,0,none⟩=false:=(World.frozen?_of_block (X.block w.heap.size (by omega) Hi)).trans (((Qcs F).2 w.heap.size 0 (by omega)).trans Hp.out);have Ho:Hid (FR E b.heap.size A (Qf7 L z k++(tag x (L x)).take (t+1))):=by
      rw [Hs.out,<- List.append_assoc,H4.out];unfold FR;rw [Qcz,List.length_append];exact hid Ha
     have H6:Hid (b.grownBy E (some (w.heap.size+1))):=hid ((Gs.andThen (World.grownBy_alloc s _ none) (fun j hj=>by cases hj)).andThen X (fun j hj=> .inl (H1 j hj)));have Gr:Hid (FR (E.setCell ⟨w.heap.size+1,0,none⟩ A) b.heap.size A (Qf7 L z k++(tag x (L x)).take (t+1))):=by
      refine hid ?_;refine World.ownsRow.kept Ho.out (Qbe E ⟨w.heap.size+1,0,none⟩ A) ?_;cases e:A.ownBlock with
      | none=>exact .inl rfl
      | some g=>exact .inr (fun o=>by have:=(World.ownsRow.lt Ho.out g e).1;injection o with o;have o:g=w.heap.size+1:=o;omega)
     have Gt:Hid (b.grownBy (E.setCell ⟨w.heap.size+1,0,none⟩ A) (some (w.heap.size+1))):=hid (H6.andThen (Qbe E ⟨w.heap.size+1,0,none⟩ A) (fun j hj=> .inr hj));have Go:=World.cell?_setCell_same E ⟨w.heap.size+1,0,none⟩ A Gw;have Gn:(E.setCell ⟨w.heap.size+1,0,none⟩ A).cell? ⟨w.heap.size,0,none⟩=some (.slice none 0 0):=(World.cell?_setCell_far E ⟨w.heap.size+1,0,none⟩ ⟨w.heap.size,0,none⟩ A (by show w.heap.size+1≠w.heap.size;omega)).trans Gb;have HK:=hid (And.intro Go Gn);subst Gl;clear Ha X Hd Gc r0 r1 s0 s1 F Z K Go Gn Gb Ho H6;go_wp2_with fail;go_roundw;case rel=>exact⟨t+1,_,H0,by go_num,HK.1,HK.2,by simpa using G5,by simpa using G6,Gr,Gt⟩
     case measure=>simp [intOf];omega
    ·obtain rfl:t=m:=by omega
     have Gp:Hid (FR wr b.heap.size V (Qf7 L z (k+1))):=by
      rw [Hh.out];have I:=P.out;rw [<- H4.out,List.take_of_length_le (by simp only [tag,List.length_map];have:=HM.out;omega)] at I;exact hid I
     clear P;go_wp2_with fail;go_roundw;case rel=>exact⟨k+1,V,Hy,by go_num,Z,o,W,j3,Gp,R⟩
     case measure=>simp [intOf];omega
  ·obtain rfl:k=z.length:=by omega
   obtain⟨Y,U,O,rfl⟩:=QaO Hj.out;have HF:Hid (FR (wr.setCell ⟨w.heap.size,0,none⟩ (.slice Y U O)) w.heap.size (.slice Y U O) (Qdv L 8)):=by
    rw [Gu.out];have I:=Hj.out;have h2:FR wr w.heap.size (.slice Y U O) (Qf7 L z z.length):=by
     obtain⟨q1,q2⟩:=I;refine⟨q1,q2.imp id ?_⟩;rintro⟨g,cap,Ht,e,Q,r⟩;exact⟨g,cap,Ht,e,by omega,r⟩
    refine hid (World.ownsRow.kept h2 (Qbe wr ⟨w.heap.size,0,none⟩ (.slice Y U O)) ?_);cases e:(Value.slice Y U O).ownBlock with
    | none=>exact .inl rfl
    | some g=>exact .inr (fun o=>by have:=(World.ownsRow.lt I g e).1;injection o with o;have o:g=w.heap.size:=o;omega)
   have HB:Hid (Below w.heap.size w (wr.setCell ⟨w.heap.size,0,none⟩ (.slice Y U O))):=hid ((H3.grown Hm.out (by omega) (fun k hk=>by injection hk with hk;omega)).setCell (p:=⟨w.heap.size,0,none⟩) zL (.slice Y U O));have k2:=World.cell?_setCell_same wr ⟨w.heap.size,0,none⟩ (.slice Y U O) o;clear Hj;go_wp2_with fail;refine zF (v:=.agg #[.slice Y U O]) (by simp [results,Tryz.results38,go_sem,k2]) ⟨_,rfl,HF.out,HB.out⟩
end Go.Proofs.YtjdcfkmhmnblbaaGreatDoor
