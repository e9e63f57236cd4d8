import Derived.Test.YtgmjgboibfdaeaaGreatDoorDrg07
import Derived.Test.YtgmjgboibfdaeaaGreatDoorShelf
import Derived.Lib.SlKeysI
set_option linter.unusedVariables false
set_option linter.unusedSimpArgs false
set_option maxRecDepth 100000
set_option maxHeartbeats 40000000
namespace Go.Proofs.YtgmjgboibfdaeaaGreatDoor
open Go.ChangeShapes Go.WideShapes Go.ChangeAt Go.RowKit Go.Maps
variable {B bm cap g k n:Nat}{F R T:Nat ->Int}{L:Int ->List (Int×Int)}{a:Option Addr}{body v:Value}{l:List Lf}{ns zs:List Int}{w w1 wr:World}
def sF (l:List (Int×Int))(i:Nat):Int:=(l.getD i (0,0)).1
def sT (l:List (Int×Int))(i:Nat):Int:=(l.getD i (0,0)).2
def loK (l:List (Int×Int)):Nat ->Int
 | 0=>1
 | k+1=>sT l k+2
def spK (l:List (Int×Int)):Nat ->List Int
 | 0=>[]
 | k+1=>spK l k++(uvF 9 (sF l k - loK l k).toNat++uvF 9 (sT l k - sF l k).toNat)
def Qkv (l:List (Int×Int)):List Int:=uvF 9 l.length++spK l l.length
theorem QdI (l:List (Int×Int)):∀k,(spK l k).length<=20*k
 | 0=>by simp [spK]
 | k+1=>by
  have:=QdI l k;have j:=(Qag 9 (sF l k - loK l k).toNat).1;have m:=(Qag 9 (sT l k - sF l k).toNat).1;simp only [spK,List.length_append];omega
theorem Qj4 (l:List (Int×Int)):(Qkv l).length<=10+20*l.length:=by
 have j:=(Qag 9 l.length).1;have:=QdI l l.length;simp only [Qkv,List.length_append];omega
theorem QkB {l:List (Int×Int)}(h:Srt l)(hk:k<l.length):1<=loK l k/\ loK l k<=sF l k/\ sF l k<=sT l k/\ sT l k<=1000000000:=by
 have e:l.getD k (0,0)=l[k]:=by simp [List.getD,hk]
 have j:=h.2 _ (List.getElem_mem hk);rw [<- e] at j;have m:loK l k<=sF l k/\ 1<=loK l k:=by
  cases k with
  | zero=>exact⟨j.1,Int.le_refl _⟩
  | succ k=>
   have u:=Qgz h (show k<k+1 by omega) hk;have q:l.getD k (0,0)=l[k]:=by simp [List.getD,show k<l.length by omega]
   have r:=h.2 _ (List.getElem_mem (show k<l.length by omega));rw [<- q] at r;show (l.getD k (0,0)).2+2<=(l.getD (k+1) (0,0)).1/\ 1<=(l.getD k (0,0)).2+2;exact⟨by omega,by omega⟩
 exact⟨m.2,m.1,j.2.1,j.2.2⟩
theorem QeT (x:Int)(h0:0<=x)(h1:x<=1000000000):IntKind.u64.wrap x=x:=by
 unfold IntKind.wrap;simp [IntKind.bits,IntKind.signed];omega
theorem QfG (B:Nat)(bv:Value)(zs0:List Int)(a:Option Addr)(c:Nat)(l:List (Int×Int))(w:World)(hB:B<=w.heap.size)(hl:zs0.length<=100000000)(ho:Own w B bv zs0)
  (hs:SS w a l.length (sF l) (sT l)) (hne:∀x,a=some x ->some x.block≠bv.ownBlock) (hok:Srt l) (hn:l.length<=1000):
  Cl 138 #[bv,.slice a l.length c] w fun e w'=>∃v,e=.returned v/\ Own w' B v (zs0++Qkv l)/\ Gr w w' bv v:=by
 obtain⟨n,V⟩:=zE l.length;have I:Hid (Qkv l=uvF 9 n++spK l n):=by unfold Qkv;rw [V];exact rfl
 rw [V] at hs hn ⊢;have Hb:Hid (∀k,k<n ->1<=loK l k/\ loK l k<=sF l k/\ sF l k<=sT l k/\ sT l k<=1000000000):=fun k hk=>QkB hok (by omega);have HU:=Qag 9 n;have HS:=QdI l;clear hok V;go_enter Tryz.func138,Tryz.ntmps138;go_wp2_with fail;refine(QaN B n bv zs0 w (by omega) hB (by omega) ho).mono ?_;rintro e w1 ⟨v1,rfl,Y,Q,Hj⟩;have G:=hid Q;rcases hs with h0|⟨b,E,rfl,hb,N⟩
 ·subst h0;clear Q;go_wp2_with fail;refine wp_loop_rounds 1 ?_;rw [rounds_succ];go_wp2_with fail;go_ret;exact⟨v1,rfl,by rw [I.out];simpa [spK] using Y,G⟩
 have D:=hne _ rfl;have X:Hid (∀i,i<n ->w.cell? ⟨b,E+i*2,none⟩=some (.int .i64 (sF l i))/\ w.cell? ⟨b,E+i*2+1,none⟩=some (.int .i64 (sT l i))):=N;have Hd:=hid Y;clear Q N Y hne ho;go_wp2_with fail;go_loopw [0,5,15] (fun b' lo i wr=>∃(k:Nat) (z:List Int),k<=n/\ i=.int .i64 k/\ lo=.int .i64 (loK l k)/\ Own wr B b' z/\ Hid (z=zs0++uvF 9 n++spK l k)/\ Hid (Gr w wr bv b')/\ w.heap.size<=wr.heap.size/\ z.length<=100000000+10+20*k) (fun _ _ i _=>n - (intOf i).toNat);case atStart=>exact⟨0,_,Nat.zero_le _,rfl,rfl,Hd,hid (by simp [spK]),G,by omega,by simp;omega⟩
 case round=>
  obtain⟨k,z,hk,rfl,rfl,o,R,s,Hi,Hh⟩:=hrel;by_cases A:k<n
  ·have Hg:wr.cell? ⟨b,E+k*2,none⟩=some (.int .i64 (sF l k)):=s.g.cell (X k A).1 D;have Ha:wr.cell? ⟨b,E+k*2+1,none⟩=some (.int .i64 (sT l k)):=s.g.cell (X k A).2 D;obtain⟨q1,q2,q3,q4⟩:=Hb k A;obtain⟨y,q⟩:=zE (wr.alloc (.cells #[.int .i64 (sF l k),.int .i64 (sT l k)] 233));have zW:y.heap.size=wr.heap.size+1:=by rw [<- q];simp
   have S:y.cell? ⟨wr.heap.size,0,none⟩=some (.int .i64 (sF l k)):=by rw [<- q];simp
   have r1:y.cell? ⟨wr.heap.size,1,none⟩=some (.int .i64 (sT l k)):=by rw [<- q];simp
   have L:Own y B u0 z:=by rw [<- q];exact World.ownsRow.alloc o _
   have Z:Hid (Gr w y bv u0):=by rw [<- q];exact s.alloc _
   have U:some wr.heap.size≠u0.ownBlock:=fun e=>by have:=(World.ownsRow.lt o _ e.symm).2;omega
   obtain⟨r,M⟩:∃m:Nat,sF l k - loK l k=(m:Int):=⟨(sF l k - loK l k).toNat,by omega⟩;obtain⟨u,O⟩:∃m:Nat,sT l k - sF l k=(m:Int):=⟨(sT l k - sF l k).toNat,by omega⟩;have x1:IntKind.i64.wrap (sF l k - loK l k)=(r:Int):=by rw [M];exact Qck _ (by omega) (by omega)
   have x2:IntKind.i64.wrap (sT l k - sF l k)=(u:Int):=by rw [O];exact Qck _ (by omega) (by omega)
   have x3:IntKind.u64.wrap (r:Int)=(r:Int):=QeT _ (by omega) (by omega);have x4:IntKind.u64.wrap (u:Int)=(u:Int):=QeT _ (by omega) (by omega);have Hf:Hid (spK l (k+1)=spK l k++(uvF 9 r++uvF 9 u)):=by show spK l k++_=_;rw [M,O];rfl
   have y1:r<=1000000000:=by omega
   have y2:u<=1000000000:=by omega
   clear M O;have x5:IntKind.i64.wrap (sT l k+2)=sT l k+2:=Qck _ (by omega) (by omega);have K:=hid L;clear L o;go_wp2_with fail;try rw [q]
   refine(QaN B r u0 z y (by omega) (by omega) (by omega) K).mono ?_;rintro e w2 ⟨v2,rfl,F,t,Hk⟩;have T:=t.g.cell S U;have W:=t.g.cell r1 U;have l2:=(Qag 9 r).1;have l3:=(Qag 9 u).1;have C:some wr.heap.size≠v2.ownBlock:=fun e=>by
    rcases t.l with h|⟨j,h,hj⟩
    ·exact U (e.trans h)
    ·rw [h] at e;injection e with e;omega
   have H:=hid (Z.trans t);have J:=hid F;clear q Hg Ha S r1 t F Z K;go_wp2_with fail;refine(QaN B u v2 _ w2 (by omega) (by omega) (by simp;omega) J).mono ?_;rintro e w3 ⟨v3,rfl,P,p,Hl⟩;have t0:=p.g.cell T C;have t1:=p.g.cell W C;have Hc:=hid (H.trans p);have He:=hid P;clear T W p P H J;go_wp2_with fail;go_roundw;case rel=>exact⟨k+1,_,A,by go_num,rfl,He,hid (by rw [Hf.out,R.out];simp),Hc,by omega,by simp;omega⟩
   case measure=>simp [intOf];omega
  ·obtain rfl:k=n:=by omega
   have HO:=hid o;clear o;go_wp2_with fail;go_ret;refine⟨u0,rfl,?_,s⟩;rw [I.out,<- List.append_assoc,<- R.out];exact HO
open Go.Sort Go.Shelf
theorem Qnl (m:Nat):AnyZI.SortsIn Tryz.prog Tryz.sortedA_ren Fence.wide m:=
 ⟨fun blk off cap ss W hH hblk hsz=>callsIn_wide.2 (AnyM.slices_Sort_int Tryz.sortA blk off cap ss W hH hblk hsz),
  fun p cap W=>callsIn_wide.2 (AnyM.slices_Sort_int_none Tryz.sortA p cap W)⟩
theorem QmK (mb:Option Nat)(W:World):Cl 137 #[.map mb] W fun e w'=>e=.returned (.func (.func 162) #[] #[.pointer (some ⟨W.heap.size,0,none⟩)])/\ w'=W.alloc (.cells #[.map mb] 158):=
 (callsIn_wide (n:=5)).1 (AnyZI.keys_in Tryz.keysA Fence.wide 5 trivial rfl mb W)
theorem QiO {H:Type}(b nn:Nat)(D0:DataW H)(R:Value ->Option (DataW H×List MemPlace))(w:World)(hown:w.ownsMap Tryz.prog 3 R b nn D0)(hmax:Maps.size D0<=maxLen)(hbytes:Maps.size D0*8<=140737488355328):
  Cl 136 #[.func (.func 162) #[] #[.pointer (some ⟨w.heap.size,0,none⟩)]] (w.alloc (.cells #[.map (some b)] 158)) fun e w'=>∃(v:Value) (j:List Int),e=.returned v/\ j.Perm (intKeys D0)/\
   w'.ownsRow (w.heap.size+1) 3 1 v j.length ((j.mergeSort (fun x y=>decide (x<=y))).map encZ)/\ Bl w w':=by
 have t:=hown.lt;have i:SeqGives Fence.wide 2 Tryz.prog 162 #[.pointer (some ⟨w.heap.size,0,none⟩)] encZ (fun j=>j.Perm (intKeys D0)) (Maps.size D0) (w.alloc (.cells #[.map (some b)] 158)):=
  AnyZI.keys_gives (ρ:=Tryz.keysA_ren) {Tryz.keysA with} Fence.wide _ trivial rfl (by omega) w.heap.size b nn D0 _ (by simp) (by simp) (by
   obtain⟨z,u,k,r,o,h⟩:=hown;exact⟨z,u,(Below.heap_alloc _ _ b t).trans k,r,o,h⟩)
 have m:=AnyZI.sorted_in Tryz.sortedA Fence.wide 5 trivial trivial trivial trivial rfl (by omega) (Qnl _) (enters_of Tryz.func161 (by kernel_rfl) rfl) 162 #[.pointer (some ⟨w.heap.size,0,none⟩)] trivial (enters_of Tryz.func162 (by kernel_rfl) rfl) _ _ hmax hbytes _ i;change CallsIn _ _ Tryz.prog 136 _ _ _ at m;refine((callsIn_wide (n:=5)).1 m).mono ?_;rintro e w' ⟨v,j,rfl,g,q,p,k⟩;refine⟨v,j,rfl,g,?_,((Below.refl _ w).alloc zL _).trans (k.mono (by simp))⟩;have e:(w.alloc (.cells #[.map (some b)] 158)).heap.size=w.heap.size+1:=by simp
 rw [e] at q;exact q
def KS (L:Int ->List (Int×Int)):Nat ->List Int
 | 0=>[]
 | k+1=>KS L k++(if (L (k:Int)).isEmpty then [] else [(k:Int)])
theorem QeY (L:Int ->List (Int×Int))(k:Nat):∀x,x∈KS L k↔(0<=x/\ x<k/\ (L x).isEmpty=false):=by
 induction k with
 | zero=>intro x;simp [KS];omega
 | succ k ih=>
  intro x;simp only [KS,List.mem_append,ih];by_cases e:(L (k:Int)).isEmpty=true
  ·rw [if_pos e];constructor
   ·rintro(⟨a,b,c⟩|h)
    ·exact⟨a,by omega,c⟩
    ·simp at h
   ·rintro⟨a,b,c⟩;refine .inl ⟨a,?_,c⟩;rcases Int.lt_or_le x k with h|h
    ·exact h
    ·have:x=(k:Int):=by omega
     rw [this,e] at c;cases c
  ·rw [if_neg e];simp only [Bool.not_eq_true] at e;constructor
   ·rintro(⟨a,b,c⟩|h)
    ·exact⟨a,by omega,c⟩
    ·rw [List.mem_singleton] at h;subst h;exact⟨by omega,by omega,e⟩
   ·rintro⟨a,b,c⟩;rcases Int.lt_or_le x k with h|h
    ·exact .inl ⟨a,h,c⟩
    ·exact .inr (List.mem_singleton.2 (by omega))
theorem QkM (L:Int ->List (Int×Int))(k:Nat):(KS L k).Pairwise (fun x y=>x<y):=by
 induction k with
 | zero=>exact List.Pairwise.nil
 | succ k ih=>
  simp only [KS];refine List.pairwise_append.2 ⟨ih,?_,fun x hx y hy=> ?_⟩
  ·split
   ·exact List.Pairwise.nil
   ·exact List.pairwise_singleton _ _
  ·have:=(QeY L k x).1 hx;split at hy
   ·cases hy
   ·rw [List.mem_singleton] at hy;omega
theorem Qg6 (L:Int ->List (Int×Int))(k:Nat):(KS L k).length<=k:=by
 induction k with
 | zero=>simp [KS]
 | succ k ih=>simp only [KS,List.length_append];split<;>simp<;>omega
theorem Qix{D:DataW Value}{G:Int ->Value}(h:Qaz w bm n D G L)(hL:∀r,L r≠[] ->0<=r/\ r<8):(KS L 8).Perm (intKeys D)/\ Maps.size D=(KS L 8).length:=by
 obtain⟨u,j,g,_⟩:=h.own.entries (int_keyed Tryz.underlying3);obtain⟨y,k,z⟩:=h.own.keysOf;obtain rfl:u=y:=by rw [j] at k;simpa using k
 have q:(KS L 8).Perm (intKeys D):=by
  have m:=h.has';rw [j] at m ⊢;refine perm_intKeys g (fun p hp=>by obtain⟨v,t⟩:=z p hp;obtain⟨x,_,o,_⟩:=Maps.keyOf_i64 Tryz.underlying3 t;exact⟨x,o⟩) ((QkM L 8).imp (fun h=>by omega)) (fun x=> ?_);have:=m x;unfold kI at this;rw [this,QeY];constructor
  ·rintro⟨_,_,c⟩;rw [c];rfl
  ·intro c;have c':(L x).isEmpty=false:=by simpa using c
   have:=hL x (by intro e;rw [e] at c';cases c');exact⟨this.1,this.2,c'⟩
 refine⟨q,?_⟩;rw [q.length_eq,j];simp [Maps.size_eq,intKeys]
theorem QeZ{ss ks:List Int}(h1:(KS L 8).Perm ks)(h2:ss.Perm ks):ss.mergeSort (fun x y=>decide (x<=y))=KS L 8:=by
 rw [mergeSort_of_perm_i (h2.trans h1.symm)];refine List.mergeSort_of_pairwise ((QkM L 8).imp (fun h=> ?_));simp;omega
theorem QdT {R F T:Nat ->Int}:∀k:Nat,Qd8 R F T k ->∀r,Lk R F T k r≠[] ->0<=r/\ r<8
 | 0,_=>fun r h=>absurd rfl h
 | k+1,h=>fun r hr=>by
  have j:=QaV.1 (h k (by omega)).1;by_cases e:r=R k
  ·subst e;exact⟨j.1,j.2.1⟩
  ·have m:Lk R F T (k+1) r=Lk R F T k r:=Qad _ _ e;rw [m] at hr;exact QdT k (fun i hi=>h i (by omega)) r hr
def Qmb (L:Int ->List (Int×Int))(r:Int):List Int:=uvF 9 r.toNat++Qkv (L r)
def Qgr (L:Int ->List (Int×Int))(ks:List Int):Nat ->List Int
 | 0=>[]
 | k+1=>Qgr L ks k++Qmb L (ks.getD k 0)
def QfE (L:Int ->List (Int×Int)):List Int:=uvF 9 (KS L 8).length++Qgr L (KS L 8) (KS L 8).length
theorem Qhe {L:Int ->List (Int×Int)}(hL:∀r,(L r).length<=1000)(ks:List Int):∀k,(Qgr L ks k).length<=30000*k
 | 0=>by simp [Qgr]
 | k+1=>by
  have:=Qhe hL ks k;have j:=(Qag 9 (ks.getD k 0).toNat).1;have m:=Qj4 (L (ks.getD k 0));have q:=hL (ks.getD k 0);simp only [Qgr,Qmb,List.length_append];omega
theorem Qaz.gr{D:DataW Value}{G:Int ->Value}(h:Qaz w bm n D G L){row:Option Nat}(hg:w.grownBy w1 row)(hr:some bm≠row)(hro:∀r g,(G r).ownBlock=some g ->some g≠row):Qaz w1 bm n D G L:=
 ⟨h.own.kept hg hr,h.at',h.has',fun r=>(h.rows r).kept hg (by
  cases e:(G r).ownBlock with
  | none=>exact .inl rfl
  | some g=>exact .inr (hro r g e)),h.apart⟩
theorem Qhf{m:Nat}(h:w.ownsRow B 3 1 (.slice (some ⟨g,0,none⟩) m cap) m (zs.map encZ))(hl:zs.length=m):∀i,i<m ->w.cell? ⟨g,i,none⟩=some (.int .i64 (zs.getD i 0)):=by
 intro i hi;rw [h.cellAt i (by omega)];simp [List.getD,show i<zs.length by omega]
theorem QhN{D:DataW Value}{G:Int ->Value}(hgrp:Qaz w bm n D G L)(HLen:Hid (∀r,(L r).length<=1000))(HSrt:Hid (∀r,Srt (L r)))(HRep:Hid (∀r,L r≠[] ->0<=r/\ r<8)):
  Cl 108 #[.map (some bm),.slice none 0 0] w fun e w'=>∃v,e=.returned v/\ Own w' w.heap.size v (QfE L)/\ Bl w w':=by
 obtain⟨S,Y⟩:=Qix hgrp HRep;obtain⟨q,o⟩:=zE (KS L 8);have Hn:Hid (QfE L=uvF 9 q.length++Qgr L q q.length):=by unfold QfE;rw [o];exact rfl
 have Gn:q.length<=8:=by rw [<- o];exact Qg6 L 8
 have Hk:Hid (∀x∈q,0<=x/\ x<8/\ L x≠[]):=fun x hx=>by
  rw [<- o] at hx;have:=(QeY L 8 x).1 hx;exact⟨this.1,by omega,fun e=>by rw [e] at this;simp at this⟩
 have Ho:Hid (∀b:List Int,b.Perm (intKeys D) ->b.mergeSort (fun x y=>decide (x<=y))=q/\ b.length=q.length):=fun b hs=>by rw [<- o];exact⟨QeZ S hs,by rw [hs.length_eq,<- S.length_eq]⟩
 rw [o] at Y;clear o S;have Hd:=hgrp.own.len Tryz.underlying158;rw [Y] at Hd;have M:=hid hgrp;have HU:=Qag 9 q.length;clear hgrp;have x0:IntKind.u64.wrap ((q.length:Nat):Int)=(q.length:Int):=QeT _ (by omega) (by omega);go_enter Tryz.func108,Tryz.ntmps108;go_wp2_with fail;refine(Qjn w.heap.size q.length _ [] w (by omega) zL (by simp) (World.ownsRow_nil _ _ _ _)).mono ?_;rintro e Z ⟨v2,rfl,Ht,N,Gq⟩;have O:=hid Ht;have T:=hid N;have H6:=M.own.lt;have H:=hid (M.bw N);clear Ht N Hd;go_wp2_with fail;refine(QmK (some bm) Z).mono ?_;rintro e w3 ⟨rfl,rfl⟩;go_wp2_with fail;refine(QiO bm n D Qcj Z H.own (by rw [Y];unfold maxLen;omega) (by rw [Y];omega)).mono ?_;rintro e z ⟨v4,b,rfl,Ha,u,A⟩;obtain⟨Hp,K⟩:=Ho b Ha;rw [Hp,K] at u;have H9:=K;clear Ha Hp K Ho;have Hu:Own z w.heap.size v2 (uvF 9 q.length):=O.kept A (fun k t=>(World.ownsRow.lt O k t).2);have Hy:∀k,v2.ownBlock=some k ->w.heap.size<=k/\ k<Z.heap.size:=fun k t=>World.ownsRow.lt O k t;have s:=hid Hy;have g4:Qaz z bm n D G L:=H.bw A;have Hz:=hid g4;have Hb:Hid (∀r g,(G r).ownBlock=some g ->g<w.heap.size):=fun r g E=>((M.rows r).lt g E).2;have W:=hid (T.trans (A.mono (by omega)));have z4:Z.heap.size<=z.heap.size:=A.size;have Hm:=hid Hu;clear A O T H M g4 Hu Hy;rcases u.2 with ⟨rfl,I⟩|⟨g,Gi,Gj,rfl,Gk,E,Gp,H7,H8,Hh⟩
 ·have HE:Hid (QfE L=uvF 9 q.length):=by show QfE L=_;rw [Hn.out,I];simp [Qgr]
  have H3:=hid u;clear u;go_wp2_with fail;refine wp_loop_rounds 1 ?_;rw [rounds_succ];go_wp2_with fail;go_ret;exact⟨v2,rfl,by rw [HE.out];exact Hm,W⟩
 have HC:Hid (∀i,i<q.length ->z.cell? ⟨g,i,none⟩=some (.int .i64 (q.getD i 0))):=Qhf u rfl;have Hl:some g≠v2.ownBlock:=fun e=>by have:=(s g e.symm).2;omega
 have Gm:g<z.heap.size:=(u.lt g rfl).2;unfold maxLen at H7;clear u E H8 Hh;go_wp2_with fail;go_loopw [1,16] (fun b' i wr=>∃(k:Nat) (p:List Int),k<=q.length/\ i=.int .i64 k/\ Hid (Own wr w.heap.size b' p)/\ Hid (p=uvF 9 q.length++Qgr L q k)/\ Hid (Gr z wr v2 b')/\ z.heap.size<=wr.heap.size) (fun _ i _=>q.length - (intOf i).toNat);case atStart=>exact⟨0,_,Nat.zero_le _,rfl,Hm,hid (by simp [Qgr]),hid (Gr.refl _ _),Nat.le_refl _⟩
 case round=>
  obtain⟨k,p,t,rfl,Hf,R,B,Gh⟩:=hrel;by_cases C:k<q.length
  ·have P:=Hk (q.getD k 0) (by simp [List.getD,C]);obtain⟨m,F⟩:∃m:Nat,q.getD k 0=(m:Int):=⟨(q.getD k 0).toNat,by omega⟩;have Hq:=B.g.cell (HC k C) Hl;have Gu:p.length<=10+30000*k:=by rw [R.out];have:=Qhe HLen q k;simp;omega
   have H2:Hid (Qgr L q (k+1)=Qgr L q k++(uvF 9 m++Qkv (L (m:Int)))):=by show Qgr L q k++Qmb L (q.getD k 0)=_;rw [F];rfl
   rw [F] at P Hq;have Go:m<8:=by omega
   have He:=P.2.2;have x3:IntKind.u64.wrap (m:Int)=(m:Int):=QeT _ (by omega) (by omega);clear P F;go_wp2_with fail;refine(QaN w.heap.size m u1 p wr (by omega) (by omega) (by omega) Hf).mono ?_;rintro e w5 ⟨v5,rfl,Hv,Hr,Gs⟩;have U:=B.trans Hr;have J:Qaz w5 bm n D G L:=Hz.gr U.g (fun e=>by have:=(s _ e.symm).1;omega) (fun r g E e=>by have:=(s _ e.symm).1;have:=Hb r g E;omega);have Hs:=J.look (m:Int) (wfI (by omega) (by omega));have V:=J.rows (m:Int);rcases V.2 with ⟨_,I⟩|⟨Q,cs,cu,eG,Gb,Gc,Gd,Ge,Gf,Gg⟩
   ·exact absurd (List.eq_nil_of_length_eq_zero I) He
   have Gl:=Hb (m:Int) Q (by rw [eG];rfl);rw [eG] at Hs V;have Hx:=QiS V rfl;have Hc:some Q≠v5.ownBlock:=fun e=>by
    rcases U.l with h|⟨j,h,hj⟩
    ·have:=(s Q (h ▸ e.symm)).1;omega
    ·rw [h] at e;injection e with e;omega
   have l5:=(Qag 9 m).1;have Hg:=HSrt (m:Int);have Ga:=HLen (m:Int);have H0:=hid Hv;have Hi:=hid U;have H4:=hid Hx;have H5:=hid Hg;clear Hx V J Hv U Gb Gc Gd Ge Gf Gg Hr Hq Hg He;go_wp2_with fail;refine(QfG w.heap.size v5 (p++uvF 9 m) (some ⟨Q,0,none⟩) cs (L (m:Int)) w5 (by omega) (by simp;omega) H0 H4 (fun x hx=>by injection hx with hx;subst hx;exact Hc) H5 Ga).mono ?_;rintro e w6 ⟨v6,rfl,Hw,X⟩;have H1:=hid Hw;have Hj:=hid (Hi.trans X);have Gt:=X.g.size;clear Hw X Hs;go_wp2_with fail;go_roundw;case rel=>exact⟨k+1,_,C,by go_num,H1,hid (by rw [H2.out,R.out];simp),Hj,by omega⟩
   case measure=>simp [intOf];omega
  ·obtain rfl:k=q.length:=by omega
   go_wp2_with fail;go_ret;refine⟨_,rfl,?_,W.trans (B.bw (by omega) (fun k t=>by have:=(s k t).1;omega))⟩;rw [Hn.out,<- R.out];exact Hf
theorem QaI (w:World)(x y z:Value)(t:TypeId):∀j u,[x,y,z][j]? =some u ->(w.alloc (.cells #[x,y,z] t)).cell? ((⟨w.heap.size,0,none⟩:Addr).add j)=some u:=by
 intro j u k;match j,k with
 | 0,k=>simp at k;subst k;simp [Addr.add]
 | 1,k=>simp at k;subst k;simp [Addr.add]
 | 2,k=>simp at k;subst k;simp [Addr.add]
def Qa9 (r:Int)(l:List (Int×Int)):List Value:=l.flatMap fun p=>[.int .i64 r,.int .i64 p.1,.int .i64 p.2]
theorem QeK (r:Int)(l:List (Int×Int))(p:Int×Int):Qa9 r (l++[p])=Qa9 r l++[.int .i64 r,.int .i64 p.1,.int .i64 p.2]:=by simp [Qa9]
theorem Qa7.at(h:Qa7 w a n R F T)(hk:k<n):∃b j,a=some ⟨b,j,none⟩/\ b<w.heap.size/\ w.cell? ⟨b,j+k*3,none⟩=some (.int .i64 (R k))/\ w.cell? ⟨b,j+k*3+1,none⟩=some (.int .i64 (F k))/\ w.cell? ⟨b,j+k*3+2,none⟩=some (.int .i64 (T k)):=by
 rcases h with h|⟨b,j,rfl,m,q⟩
 ·omega
 ·exact⟨b,j,rfl,m,q k hk⟩
theorem Qno (a:Option Addr)(n c:Nat)(R F T:Nat ->Int)(rep:Int)(w:World)(hn:n<=1048576)(h:Qa7 w a n R F T):
  Cl 118 #[.agg #[.slice a n c],.int .i64 rep] w fun e w'=>∃v,e=.returned v/\ w'.ownsRow w.heap.size 124 3 v (Lk R F T n rep).length (Qa9 rep (Lk R F T n rep))/\ Bl w w':=by
 obtain⟨i0,hi,Hc,Hd,He⟩:=info_parts Tryz.infoRun;obtain⟨L,j⟩:∃L:Nat ->List (Int×Int),(fun k=>Lk R F T k rep)=L:=⟨_,rfl⟩;have E:Lk R F T n rep=L n:=by rw [<- j]
 have U:Hid (L 0=[]):=by show L 0=[];rw [<- j];rfl
 have Z:Hid (∀k,R k=rep ->L (k+1)=L k++[(F k,T k)]):=fun k e=>by
  rw [<- j];show upd _ _ _ _=_;rw [<- e,Qak]
 have Y:Hid (∀k,R k≠rep ->L (k+1)=L k):=fun k e=>by
  rw [<- j];show upd _ _ _ _=_;rw [Qad _ _ (fun h=>e h.symm)]
 have V:Hid (∀k,(L k).length<=k):=fun k=>by rw [<- j];exact Qbo R F T k rep
 rw [E];clear E j;have Ha:(w.alloc (.cells #[.slice a n c] 38)).cell? ⟨w.heap.size,0,none⟩=some (.slice a n c):=by simp
 go_enter Tryz.func118,Tryz.ntmps118;go_wp2_with fail;go_loopw [5,6] (fun v i wr=>∃k:Nat,k<=n/\ i=.int .i64 k/\ Hid (wr.ownsRow (w.heap.size+1) 124 3 v (L k).length (Qa9 rep (L k)))/\ Hid (Bl w wr)/\ wr.cell? ⟨w.heap.size,0,none⟩=some (.slice a n c)/\ w.heap.size+1<=wr.heap.size) (fun _ i _=>n - (intOf i).toNat);case atStart=>
  refine⟨0,Nat.zero_le _,rfl,?_,hid (Qae _ _ _),by simp,by simp⟩;rw [U.out];have:=World.ownsRow_lit (base:=w.heap.size+1) (e:=124) (size:=3) (w.alloc (.cells #[.slice a n c] 38)) #[] 0 (by simp) (by unfold maxLen;omega) rfl;exact hid (by simpa [Qa9] using this)
 case round=>
  obtain⟨k,M,rfl,y,z,p,Hb⟩:=hrel;by_cases s:k<n
  ·obtain⟨b,Hf,rfl,hb,D,P,S⟩:=(h.bw z).at s;have Hh:=V k;by_cases q:R k=rep
   ·have X:(R k==rep)=true:=by simp [q]
    have m:=Z k q;subst q;have o:=hid m;have C:some w.heap.size≠u5.ownBlock:=fun e=>by have:=(y.lt _ e.symm).1;omega
    clear m;go_wp2_with (at_builtin;refine Qao rfl _ _ 36 rfl (w.heap.size+1) 124 i0 _ 3 24 Tryz.underlying36 hi Hc Hd He rfl (by decide) _ _ _ rfl (y.alloc _) ⟨wr.heap.size,0,none⟩ 1 1 [.int .i64 (R k),.int .i64 (F k),.int .i64 (T k)] rfl rfl ?c1 ?c2 ?c3 ?c4 ?c5 ?_);case c1=>exact QaI _ _ _ _ _
    case c2=>intro u Q;simp at Q;rcases Q with rfl|rfl|rfl<;>rfl
    case c3=>unfold maxLen;omega
    case c4=>omega
    case c5=>simp;omega
    ·intro v' w1 O t W;have G:Hid (w1.ownsRow (w.heap.size+1) 124 3 v' (L (k+1)).length (Qa9 (R k) (L (k+1)))):=by
      rw [o.out,QeK,List.length_append];exact O
     have H:Hid (Bl w w1):=(z.alloc (by omega) _).grown t (by simp;omega) (fun k M=>by have:=(y.lt k M).1;omega);have I:w1.cell? ⟨w.heap.size,0,none⟩=some (.slice (some ⟨b,Hf,none⟩) n c):=t.cell (by rw [Below.cell (B:=wr.heap.size) (zO _ _) (show w.heap.size<wr.heap.size by omega)];exact p) C;have J:=t.size;simp at J;clear O t W D P S p;go_wp2_with fail;go_roundw;case rel=>exact⟨k+1,s,by go_num,G,H,I,by omega⟩
     case measure=>simp [intOf];omega
   ·have X:(R k==rep)=false:=by simp [q]
    have m:=Y k q;have o:=hid m;clear m;go_wp2_with fail;go_roundw;case rel=>exact⟨k+1,s,by go_num,by rw [o.out];exact y,z,p,Hb⟩
    case measure=>simp [intOf];omega
  ·obtain rfl:k=n:=by omega
   go_wp2_with fail;go_ret;refine⟨_,rfl,?_,z⟩;obtain⟨q1,A⟩:=y.out;refine⟨q1,?_⟩;rcases A with A|⟨g,K,N,rfl,Hg,r⟩
   ·exact .inl A
   ·exact .inr ⟨g,K,N,rfl,by omega,r⟩
theorem QaL (m:Nat)(w:World)(hm:m<=1000000000):
  Cl 119 #[.int .i64 (m:Int)] w fun e w'=>∃v,e=.returned v/\ Own w' w.heap.size v (uvF 9 m)/\ Bl w w'/\ w.heap.size<w'.heap.size:=by
 have r:IntKind.u64.wrap (m:Int)=(m:Int):=QeT _ (by omega) (by omega);go_enter Tryz.func119,Tryz.ntmps119;go_wp2_with fail;refine(QkA 9 m w zL (show m<128^(9+1) by omega) (by omega)).mono ?_;rintro e w1 ⟨v,rfl,k,j,q⟩;go_wp2_with fail;go_ret;exact⟨v,rfl,k,j,q⟩
theorem QnZ (B B':Nat)(v x:Value)(zs ns:List Int)(w:World)(ho:Own w B v zs)(hx:Own w B' x ns)(hxn:x.ownBlock≠none)(hB:B<=w.heap.size)(hl:zs.length+ns.length<=1000000000):
  ∃v' w',(Builtin.append_ #[78,78] 78 #[v,x]).run Tryz.prog w=.ok v' w'/\ Own w' B v' (zs++ns)/\ Gr w w' v v'/\ (v.ownBlock≠none ->v'.ownBlock≠none):=by
 have m:w.ownsRow B' 5 1 x ns.length (ns.map (Value.int .u8)):=hx;rcases m.2 with ⟨rfl,_⟩|⟨g,q,y,rfl,_⟩
 ·exact absurd rfl hxn
 obtain⟨v',w',r,u,j⟩:=Qc5 B v zs ns ⟨g,0,none⟩ ns.length q w ho rfl (World.ownsRow.cells m rfl) hB (by omega);refine⟨v',w',r,u,j,fun hv=> ?_⟩;rcases j.l with e|⟨k,e,_⟩
 ·rw [e];exact hv
 ·rw [e];simp
theorem Qk4(h:Own w B v zs)(hz:0<zs.length):v.ownBlock≠none:=by
 obtain⟨q,j⟩:=h;rcases j with ⟨_,j⟩|⟨g,k,m,rfl,_⟩
 ·omega
 ·simp [Value.ownBlock]
theorem QkE (l:List Lf)(f:Nat)(p:List ByteArray):0<(tB l (f+1) p).length:=by
 rw [QjZ,List.length_append];have:=(Qag 9 (kS l p l.length).length).2;omega
theorem Qiu (l:List Lf)(p:List ByteArray)(k:Nat):∀j,k<=j ->kS l p k <+:kS l p j
 | 0,h=>by rw [show k=0 by omega];exact List.prefix_refl _
 | j+1,h=>by
  by_cases e:k=j+1
  ·rw [e];exact List.prefix_refl _
  ·have m:=Qiu l p k j (by omega);cases h1:nx p (gL l j) with
   | none=>rw [QcQ h1];exact m
   | some y=>
    rw [QcR h1];split
    ·exact m
    ·exact m.trans (List.prefix_append _ _)
theorem QgJ {α:Type}(f:α ->List Int){a b:List α}(h:a <+:b):(a.flatMap f).length<=(b.flatMap f).length:=by
 obtain⟨c,rfl⟩:=h;rw [List.flatMap_append,List.length_append];omega
structure Bd (w wr:World)(body:Value)(zs:List Int):Prop where
 b:Bl w wr
 o:Own wr w.heap.size body zs
 n:body.ownBlock≠none
theorem Bd.keep(h:Bd w wr body zs)(hb:Bl wr w1):Bd w w1 body zs:=
 ⟨h.b.trans (hb.mono h.b.size),Own.kept h.o hb (fun k hk=>(World.ownsRow.lt h.o k hk).2),h.n⟩
theorem Bd.app(h:Bd w wr body zs)(hb:Bl wr w1)(ho:Own w1 wr.heap.size v ns)(hz:0<ns.length)(hl:zs.length+ns.length<=1000000000):
  ∃v' m,(Builtin.append_ #[78,78] 78 #[body,v]).run Tryz.prog w1=.ok v' m/\ Bd w m v' (zs++ns):=by
 have j:=h.keep hb;obtain⟨v',m,e,u,q,r⟩:=QnZ w.heap.size wr.heap.size body v zs ns w1 j.o ho (Qk4 ho hz) j.b.size hl;exact⟨v',m,e,j.b.trans (q.bw j.b.size (fun k hk=>(World.ownsRow.lt j.o k hk).1)),u,r h.n⟩
theorem Bd.byte(h:Bd w wr body zs)(Y:Int)(hl:zs.length<=1000000000):
  ∃v' m,(Builtin.append_ #[78,78] 78 #[body,.slice (some ⟨wr.heap.size,0,none⟩) 1 1]).run Tryz.prog (wr.alloc (.cells #[.int .u8 Y] 5))=.ok v' m/\ Bd w m v' (zs++[Y]):=by
 have v:Bl wr (wr.alloc (.cells #[.int .u8 Y] 5)):=zO _ _;have j:=h.keep v;obtain⟨v',m,e,y,r⟩:=Qc5 w.heap.size body zs [Y] ⟨wr.heap.size,0,none⟩ 1 1 (wr.alloc (.cells #[.int .u8 Y] 5)) j.o rfl (fun i u hu=>cell_one_new _ _ _ i u hu) j.b.size (by omega);refine⟨v',m,e,j.b.trans (r.bw j.b.size (fun k hk=>(World.ownsRow.lt j.o k hk).1)),y,?_⟩;rcases r.l with q|⟨k,q,_⟩
 ·rw [q];exact h.n
 ·rw [q];simp
theorem Qln{p:List ByteArray}{i e J:Nat}{y:Ky}(hlv:QbT R F T n l l.length)(hI:Iv l p i e)(hij:i<=J)(hfr:y ∉ kS l p J)(h1:1<=g)(hge:J+g<=e)(hy:Qar (gL l J).p (kd (gL l J).fl) p.length=y)(hsame:∀t,t<g ->Qar (gL l (J+t)).p (kd (gL l (J+t)).fl) p.length=y)(hdiff:J+g<e ->Qar (gL l (J+g)).p (kd (gL l (J+g)).fl) p.length≠y):
  kS l p (J+g)=kS l p J++[y]/\ dsK l p y l.length=((List.range g).map fun t=>gL l (J+t))/\ (∀s,y=(s,3) ->Iv l (p++[s]) J (J+g))/\∀z,nx p (gL l (J+g))=some z ->J+g<e ->z ∉ kS l p (J+g):=by
 have q:=hI.2.2;have j:∀t,t<g ->nx p (gL l (J+t))=some y:=fun t ht=>by
  rw [Qb8];exact⟨Qgn.1 ((hI.1 (J+t) (by omega)).2 (by omega)),hsame t ht⟩
 have m:J+g<e ->nx p (gL l (J+g))≠some y:=fun hlt he=>by
  rw [Qb8] at he;exact hdiff hlt he.2
 have k:=Qj7 hlv hI hij hfr h1 hge j m;refine⟨?_,Qj5 k (by omega),fun s es=>by subst es;exact Qlo k (by omega),fun z hz hlt=>Qj6 hlv hI hfr h1 hge j m hlt hz⟩;have:=Qe3 hfr j (g - 1) (by omega);rwa [show J+(g - 1+1)=J+g by omega] at this
theorem Bd.made (w:World):Bd w (w.alloc (.cells #[] 5)) (.slice (some ⟨w.heap.size,0,none⟩) 0 0) []:=by
 refine⟨zO _ _,?_,by simp [Value.ownBlock]⟩;have:=World.ownsRow_lit (base:=w.heap.size) (e:=5) (size:=1) w #[] 0 (by omega) (by unfold maxLen;omega) rfl;simpa [Own] using this
theorem Bd.front{u:Value}(h:Bd w wr body zs)(hb:Bl wr w1)(ho:Own w1 wr.heap.size u ns)(hl:ns.length+zs.length<=1000000000):
  ∃v' j,(Builtin.append_ #[78,78] 78 #[u,body]).run Tryz.prog w1=.ok v' j/\ Own j w.heap.size v' (ns++zs)/\ Bl w j:=by
 have m:=h.keep hb;have q:=Own.weak ho h.b.size;obtain⟨v',j,e,v,r,y⟩:=QnZ w.heap.size w.heap.size u body ns zs w1 q m.o h.n m.b.size hl;exact⟨v',j,e,v,m.b.trans (r.bw m.b.size (fun k hk=>(World.ownsRow.lt q k hk).1))⟩
structure Lp (l:List Lf)(p:List ByteArray)(w:World)(J M:Nat)(a:Option Addr)(c:Nat):Prop where
 c1:M<=c
 c2:c<=9223372036854775807
 a1:0<M ->∃b o,a=some ⟨b,o,none⟩/\ LAt w b o l J M
 fr:0<M ->∀y,nx p (gL l J)=some y ->y ∉ kS l p J
def QlN:Value ->Nat
 | .slice _ n _=>n
 | _=>0
theorem Qh0(l:List Lf)(hlv:QbT R F T n l l.length)(hbd:LvB l)(f:Nat)(p:List ByteArray)(hpf:p.length+(f+1)=8)
  (ih:∀(s:ByteArray),1<=f ->∀(i m c:Nat) (a:Option Addr) (w:World),m<=c ->c<=9223372036854775807 ->Iv l (p++[s]) i (i+m) ->(0<m ->∃b off,a=some ⟨b,off,none⟩/\ LAt w b off l i m) ->(tB l f (p++[s])).length<=90000000 ->
   Cl 100 #[.slice a m c,.int .i64 ((p++[s]).length:Int)] w fun e w'=>∃v,e=.returned v/\ Own w' w.heap.size v (tB l f (p++[s]))/\ Bl w w')
  (i m c:Nat) (a:Option Addr) (w:World) (hmc:m<=c) (hcm:c<=9223372036854775807) (hI:Iv l p i (i+m)) (hL:0<m ->∃b off,a=some ⟨b,off,none⟩/\ LAt w b off l i m) (hl:(tB l (f+1) p).length<=90000000):
  Cl 100 #[.slice a m c,.int .i64 (p.length:Int)] w fun e w'=>∃v,e=.returned v/\ Own w' w.heap.size v (tB l (f+1) p)/\ Bl w w':=by
  obtain⟨TB,Gl⟩:=zE (tB l (f+1) p);rw [Gl] at hl ⊢;have Gi:Hid (uvF 9 (kS l p l.length).length++(kS l p l.length).flatMap (kB l f p)=TB):=hid (by rw [<- Gl,QjZ]);have Hk:=hid hI;have HL:=hid hL;obtain⟨d,hd⟩:=zE p.length;have HD:=hid hd;have G6:Hid (∀(s:ByteArray),1<=f ->∀(i m c:Nat) (a:Option Addr) (w:World),m<=c ->c<=9223372036854775807 ->Iv l (p++[s]) i (i+m) ->(0<m ->∃b off,a=some ⟨b,off,none⟩/\ LAt w b off l i m) ->(tB l f (p++[s])).length<=90000000 ->
   Cl 100 #[.slice a m c,.int .i64 ((d:Int)+1)] w fun e w'=>∃v,e=.returned v/\ Own w' w.heap.size v (tB l f (p++[s]))/\ Bl w w'):=hid (fun s hf i m c a w j k Z h4 h5=>by
    have:=ih s hf i m c a w j k Z h4 h5;rw [show (((p++[s]).length:Nat):Int)=(d:Int)+1 by simp;omega] at this;exact this)
  rw [hd] at hpf ⊢;have Kd:m<=1000:=by have:=hI.2;have:=hbd.len;omega
  clear Gl hI hL hd ih;go_enter Tryz.func100,Tryz.ntmps100;go_wp2_with fail;go_loopw [0,5,6] (fun lv cv bd wr=>∃(J M c':Nat) (a':Option Addr),Hid (i<=J/\ J+M=i+m)/\ lv=.slice a' M c'/\ cv=.int .i64 ((kS l p J).length:Nat)/\ Hid (Lp l p w J M a' c')/\ Hid (Bd w wr bd ((kS l p J).flatMap (kB l f p)))) (fun lv _ _ _=>QlN lv);case atStart=>
   have e:=Hk.start i zL;refine⟨i,m,c,a,hid ⟨Nat.le_refl _,rfl⟩,rfl,by rw [e];rfl,hid ⟨hmc,hcm,HL,fun _ y _=>by rw [e];simp⟩,hid ?_⟩;rw [e];exact Bd.made w
  case round=>
   obtain⟨J,M,c',a',u,rfl,rfl,Ht,Hg⟩:=hrel;clear HL;by_cases Gf:0<M
   ·obtain⟨b,o,rfl,H4⟩:=Ht.a1 Gf;have Hx:=hid H4;have hM:M<=1000:=by have:=u.out;omega
    have Hj:Hid (i+m<=l.length/\ l.length<=1000):=hid ⟨Hk.2.2,hbd.len⟩;have HP:Hid (∀t,t<M ->d<(gL l (J+t)).p.length/\ (gL l (J+t)).p.length<=8):=hid (fun t ht=>by
     have hJ:=u.out;have he:=Hj.out;have j:=Qgn.1 ((Hk.1 (J+t) (by omega)).2 (by omega));rw [HD.out] at j;exact⟨j.2,(hlv (J+t) (by omega)).1.1.2.1⟩)
    have Hw:=HP 0 Gf;have G7:Hid (Qc1 (gL l J)):=hid ((hlv J (by have:=u.out;have:=Hj.out;omega)).1);obtain⟨qa,qc,h0,hs,j,k,Z,h4⟩:=H4.2 0 Gf;simp only [Nat.add_zero,Nat.zero_mul] at h0 hs j k Z h4 Hw;rcases hs with hs|⟨kb,ko,rfl,G2,G3⟩
    ·omega
    have h5:=G3 d Hw.1;have Hv:=H4.1;have Gb:=hid (Ht.fr Gf);have Hy:Hid (nx p (gL l J)=some (Qar (gL l J).p (kd (gL l J).fl) d)):=hid (by
     have hJ:=u.out;have he:=Hj.out;have j:=Qgn.1 ((Hk.1 J (by omega)).2 (by omega));rw [Qb8];exact⟨j,by rw [HD.out]⟩)
    have Gp:(gS (gL l J).p d).size<=40:=(G7.1.2.2 d Hw.1).2;have Hp:=hid (QjI l b o J M c' d wr (by omega) (by omega) (by omega) (fun t ht=>by have:=HP t ht;omega) (H4.bw Hg.b));have Ge:Hid (Qar (gL l J).p (kd (gL l J).fl) d=(gS (gL l J).p d,kAt d (gL l J).p.length (gL l J).fl)):=hid rfl;have Gd:Hid (kAt d (gL l J).p.length (gL l J).fl=1 \/kAt d (gL l J).p.length (gL l J).fl=2 \/(kAt d (gL l J).p.length (gL l J).fl=3/\ 1<=f)):=hid (by
     unfold kAt;split
     ·exact .inr (.inr ⟨rfl,by omega⟩)
     ·rcases QdQ (gL l J).fl with h|h
      ·exact .inl h
      ·exact .inr (.inl h))
    have K:Hid ((kS l p J).length<=1000/\ ((kS l p J).flatMap (kB l f p)).length<=90000000):=hid ⟨by have:=Qfr l p J;have hJ:=u.out;have he:=Hj.out;omega,by
     have j:=QgJ (kB l f p) (Qiu l p J l.length (by have hJ:=u.out;have he:=Hj.out;omega));have k:TB.length<=90000000:=hl;rw [<- Gi.out,List.length_append] at k;omega⟩
    have Hq:Hid (∀g,1<=g ->g<=M ->(∀t,t<g ->Qar (gL l (J+t)).p (kd (gL l (J+t)).fl) d=Qar (gL l J).p (kd (gL l J).fl) d) ->(g<M ->Qar (gL l (J+g)).p (kd (gL l (J+g)).fl) d≠Qar (gL l J).p (kd (gL l J).fl) d) ->
      kS l p (J+g)=kS l p J++[Qar (gL l J).p (kd (gL l J).fl) d]/\ dsK l p (Qar (gL l J).p (kd (gL l J).fl) d) l.length=((List.range g).map fun t=>gL l (J+t))/\ (∀s,Qar (gL l J).p (kd (gL l J).fl) d=(s,3) ->Iv l (p++[s]) J (J+g))/\ (g<M ->∀z,nx p (gL l (J+g))=some z ->z ∉ kS l p (J+g))/\ ((kS l p (J+g)).flatMap (kB l f p)).length<=90000000):=hid (fun g g1 g2 g3 g4=>by
     have hJ:=u.out;have he:=Hj.out;have Gn:=HD.out;obtain⟨r1,r2,r3,r4⟩:=Qln hlv Hk hJ.1 (Gb _ Hy) g1 (by omega) (by rw [Gn]) (by rw [Gn];exact g3) (by rw [Gn];exact fun h=>g4 (by omega));refine⟨r1,r2,r3,fun h z hz=>r4 z hz (by omega),?_⟩;have j:=QgJ (kB l f p) (Qiu l p (J+g) l.length (by omega));have k:TB.length<=90000000:=hl;rw [<- Gi.out,List.length_append] at k;omega)
    have Gc:Hid (∀t,t<M ->∃r q:Nat,∃v,r<=7/\ q<=1000000000/\ v.size<=200/\ (∀Y:Int,lfB Y (gL l (J+t))=uvF 9 r++(uvF 9 q++if Y=1 then Qaj v else []))/\∀w',Bl w w' ->w'.cell? ⟨b,o+t*5+2,none⟩=some (.int .i64 (r:Int))/\ w'.cell? ⟨b,o+t*5+3,none⟩=some (.int .i64 (q:Int))/\ w'.cell? ⟨b,o+t*5+4,none⟩=some (.string v)):=hid (fun t ht=>by
     have hJ:=u.out;have he:=Hj.out;have hr:=hbd.rep (J+t) (by omega);have hq:=hbd.seq (J+t) (by omega);have hv:=hbd.val (J+t) (by omega);refine⟨(gL l (J+t)).r.toNat,(gL l (J+t)).q.toNat,(gL l (J+t)).v,by omega,by omega,hv,fun Y=>rfl,fun w' hb'=> ?_⟩;obtain⟨_,_,_,_,_,Q,U,V⟩:=(Hx.bw hb').2 t ht;refine⟨?_,?_,V⟩
     ·rw [Q];congr 2;omega
     ·rw [U];congr 2;omega)
    obtain⟨x,hx⟩:=zE (gL l J);rw [hx] at h0 j k Z h4 h5 Hw Gp Ge Gd Hy Hq Hp;clear hx;obtain⟨xp,fl,xr,xq,xv⟩:=x;dsimp only at h0 j k Z h4 h5 Hw Gp Ge Gd Hy Hq Hp;rw [Ge.out] at Hy Hq Hp;obtain⟨s,Go⟩:=zE (gS xp d);obtain⟨pn,Gg⟩:=zE xp.length;obtain⟨Y,hY⟩:=zE (kAt d pn fl);rw [Go,Gg,hY] at Hy Hq Hp;rw [Gg,hY] at Gd;rw [Go] at Gp h5;rw [Gg] at h0 Hw;have G8:=hid hY;clear Go Gg hY Ge G3 H4;have HC:Hid (∀w',Bl w w' ->w'.cell? ⟨b,o,none⟩=some (.slice (some ⟨kb,ko,none⟩) pn qc)/\ w'.cell? ⟨b,o+1,none⟩=some (.bool fl)/\ w'.cell? ⟨b,o+2,none⟩=some (.int .i64 xr)/\ w'.cell? ⟨b,o+3,none⟩=some (.int .i64 xq)/\ w'.cell? ⟨b,o+4,none⟩=some (.string xv)/\ w'.cell? ⟨kb,ko+d,none⟩=some (.string s)):=hid (fun w' hB=>⟨(hB.cell (p:=⟨b,_,none⟩) Hv).trans h0,(hB.cell (p:=⟨b,_,none⟩) Hv).trans j,(hB.cell (p:=⟨b,_,none⟩) Hv).trans k,(hB.cell (p:=⟨b,_,none⟩) Hv).trans Z,(hB.cell (p:=⟨b,_,none⟩) Hv).trans h4,(hB.cell (p:=⟨kb,_,none⟩) G2).trans h5⟩);clear h0 j k Z h4 h5 Hv G2;obtain⟨cn,Hd⟩:=zE ((kS l p J).length);obtain⟨zs,He⟩:=zE ((kS l p J).flatMap (kB l f p));rw [Hd,He] at K;rw [He] at Hg;have Ho:=hid Hd;have Hu:=hid He;have Gm:=K.1;simp only [Hd];have Kc:M<=c':=Ht.c1;have G9:c'<=9223372036854775807:=Ht.c2;clear Hd He Ht;go_wp2_with fail;refine Hp.mono ?_;rintro e w1 ⟨⟨g,rfl,g1,g2,g3,g4⟩,b1⟩;have A:=hid (Hq g g1 g2 g3 g4);have Hh:=hid (Hg.keep b1);obtain⟨q0,q1,q2,q3,q4,q5⟩:=HC w1 Hh.b;clear Hq g3 g4 Hg Hp b1;go_wp2_with fail;refine(Qgh (some ⟨kb,ko,none⟩) pn qc fl xr xq xv d w1 (by omega) (by omega)).mono ?_;rintro e w2 ⟨rfl,b2⟩;rw [G8.out];have Hi:=hid (Hh.keep b2);clear q0 q1 q2 q3 q4 q5 Hh b2;obtain⟨q0,q1,q2,q3,q4,q5⟩:=HC w2 Hi.b;go_wp2_with fail;refine(Qhh s w2 (by omega)).mono ?_;rintro e w3 ⟨v3,rfl,o3,b3,z3⟩;have Gr:=QaF s;obtain⟨v4,w4,L,Gy⟩:=Hi.app b3 o3 (by unfold Qaj;have:=(Qag 9 s.size).2;rw [List.length_append];omega) (by have:=K.2;omega);have Hb:=hid Gy;clear q0 q1 q2 q3 q4 q5 Hi b3 o3 z3 Gy;have Hs:Hid ((zs++Qaj s).length<=90000050):=hid (by have:=K.2;rw [List.length_append];omega);rcases Gd.out with rfl|rfl|⟨rfl,hf⟩
    ·have Hr:Hid (kB l f p (s,1)=Qaj s++([1]++(uvF 9 g++(List.range g).flatMap fun t=>lfB 1 (gL l (J+t))))):=hid (by unfold kB;rw [if_neg (show¬(1:Int)=3 by decide),A.2.1];unfold mB;simp [List.flatMap_map]);obtain⟨v5,w5,Ha,W⟩:=Hb.byte 1 (by have:=Hs.out;omega);have I:=hid W;have Hl:Hid ((zs++Qaj s++[1]).length<=90000051):=hid (by have:=Hs.out;rw [List.length_append];simp;simpa using this);clear W Hb Gr;go_wp2_with (at_builtin;first|(refine Qab rfl _ _ _ _ rfl L (by rfl) (by rfl) rfl ?_;clear L)|(refine Qab rfl _ _ _ _ rfl Ha (by rfl) (by rfl) rfl ?_;clear Ha));refine(QaL g w5 (by omega)).mono ?_;rintro e w6 ⟨v6,rfl,o6,S,z6⟩;have H7:=Qag 9 g;obtain⟨v7,w7,H,Hc⟩:=I.app S o6 H7.2 (by have:=Hl.out;omega);have G:=hid Hc;obtain⟨O,X⟩:=zE (zs++Qaj s++[1]++uvF 9 g);have Gk:=hid X;have Gh:Hid (O.length<=90000070):=hid (by rw [<- X,List.length_append];have:=Hl.out;omega);rw [X] at G;clear X Hc o6 S z6 H7 I;go_wp2_with (at_builtin;refine Qab rfl _ _ _ _ rfl H (by rfl) (by rfl) rfl ?_;clear H);go_loopw [6,9] (fun bd iv wr=>∃t:Nat,t<=g/\ iv=.int .i64 t/\ Hid (Bd w wr bd (O++(List.range t).flatMap fun t=>lfB 1 (gL l (J+t))))) (fun _ iv _=>g - (intOf iv).toNat);case atStart=>exact⟨0,Nat.zero_le _,rfl,hid (by simpa using G.out)⟩
     case round=>
      obtain⟨t,ht,rfl,E⟩:=hrel;clear G;by_cases Gq:t<g
      ·obtain⟨r,q,v,hr,hq,hv,N,Hm⟩:=Gc t (by omega);have HK:=hid Hm;obtain⟨Q,U,V⟩:=Hm _ E.b;clear Hm;have Hz:Hid (O++((List.range (t+1)).flatMap fun t=>lfB 1 (gL l (J+t)))=O++((List.range t).flatMap fun t=>lfB 1 (gL l (J+t)))++(uvF 9 r++(uvF 9 q++Qaj v))):=hid (by rw [List.range_succ,List.flatMap_append];simp [N]);have P:Hid ((O++(List.range t).flatMap fun t=>lfB 1 (gL l (J+t))).length<=90000070+230*1000):=hid (by
        have k:=QbX (fun t=>lfB 1 (gL l (J+t))) (fun _=>1) 230 (List.range t) (fun z hz=>by
         have Ka:=List.mem_range.1 hz;obtain⟨r,q,v,hr,hq,hv,N,_⟩:=Gc z (by omega);have a1:=(Qag 9 r).1;have a2:=(Qag 9 q).1;have a3:=QaF v;rw [N];simp only [List.length_append];split
         ·omega
         ·simp;omega)
        have Z:∀ls:List Nat,(ls.map fun _=>1).sum=ls.length:=fun ls=>by
         induction ls with
         | nil=>rfl
         | cons a r ih=>simp only [List.map_cons,List.sum_cons,ih,List.length_cons];omega
        rw [Z,List.length_range] at k;have:=Gh.out;rw [List.length_append];omega)
       obtain⟨us,H8⟩:=zE (O++((List.range t).flatMap fun t=>lfB 1 (gL l (J+t))));rw [H8] at E Hz P;clear H8 N;have Gt:=Qag 9 r;have Gs:=Qag 9 q;go_wp2_with fail;refine(QaL r _ (by omega)).mono ?_;rintro e y1 ⟨u1,rfl,H9,H0,Gu⟩;obtain⟨u2,y2,H5,H2⟩:=E.app H0 H9 Gt.2 (by have:=P.out;omega);have Hf:=hid H2;clear H2 H0 H9 Gu E Q U V;obtain⟨Q,U,V⟩:=HK _ Hf.b;go_wp2_with (at_builtin;refine Qab rfl _ _ _ _ rfl H5 (by rfl) (by rfl) rfl ?_;clear H5);refine(QaL q _ (by omega)).mono ?_;rintro e y3 ⟨u3,rfl,Ga,H1,Gv⟩;obtain⟨u4,y4,H6,H3⟩:=Hf.app H1 Ga Gs.2 (by have:=P.out;rw [List.length_append];omega);have Hn:=hid H3;clear H3 H1 Ga Gv Hf Q U V;obtain⟨Q,U,V⟩:=HK _ Hn.b;go_wp2_with (at_builtin;refine Qab rfl _ _ _ _ rfl H6 (by rfl) (by rfl) rfl ?_;clear H6);refine(Qhh v _ (by omega)).mono ?_;rintro e y5 ⟨u5,rfl,G4,Gx,Kb⟩;have Ke:=QaF v;obtain⟨u6,y6,G0,Gz⟩:=Hn.app Gx G4 (by unfold Qaj;have:=(Qag 9 v.size).2;rw [List.length_append];omega) (by have:=P.out;rw [List.length_append,List.length_append];omega);have G5:=hid Gz;clear Gz Gx G4 Kb Hn Q U V;go_wp2_with (at_builtin;refine Qab rfl _ _ _ _ rfl G0 (by rfl) (by rfl) rfl ?_;clear G0);go_roundw;case rel=>exact⟨t+1,Gq,by go_num,hid (by rw [Hz.out];simpa using G5.out)⟩
       case measure=>simp [intOf];omega
      ·obtain rfl:g=t:=by omega
       have D:Hid (Bd w wr u6 ((kS l p (J+g)).flatMap (kB l f p))):=hid (by rw [A.1,List.flatMap_append,Hu.out];simp only [List.flatMap_cons,List.flatMap_nil,List.append_nil];rw [Hr.out];simpa [<- Gk.out] using E.out);have B:Hid ((kS l p (J+g)).length=cn+1):=hid (by rw [A.1,List.length_append,Ho.out];rfl);have C:Hid (0<M - g ->∀y,nx p (gL l (J+g))=some y ->y ∉ kS l p (J+g)):=hid (fun h=>A.2.2.2.1 (by omega));clear E Hu Ho Gb;by_cases G1:g<c'
       ·go_wp2_with fail;go_roundw;case rel=>exact⟨J+g,M - g,c' - g,some ⟨b,o+g*5,none⟩,hid (by have:=u.out;omega),by first|rfl|rw [if_neg (by omega)],by rw [B.out];go_num,hid ⟨by omega,by omega,fun h=>⟨b,_,rfl,Hx.drop g2⟩,C⟩,D⟩
        case measure=>simp [QlN];omega
       ·go_wp2_with fail;go_roundw;case rel=>exact⟨J+g,M - g,c' - g,some ⟨b,o,none⟩,hid (by have:=u.out;omega),by first|rfl|rw [if_pos (by omega)],by rw [B.out];go_num,hid ⟨by omega,by omega,fun h=>by omega,C⟩,D⟩
        case measure=>simp [QlN];omega
    ·have Hr:Hid (kB l f p (s,2)=Qaj s++([2]++(uvF 9 g++(List.range g).flatMap fun t=>lfB 2 (gL l (J+t))))):=hid (by unfold kB;rw [if_neg (show¬(2:Int)=3 by decide),A.2.1];unfold mB;simp [List.flatMap_map]);obtain⟨v5,w5,Ha,W⟩:=Hb.byte 2 (by have:=Hs.out;omega);have I:=hid W;have Hl:Hid ((zs++Qaj s++[2]).length<=90000051):=hid (by have:=Hs.out;rw [List.length_append];simp;simpa using this);clear W Hb Gr;go_wp2_with (at_builtin;first|(refine Qab rfl _ _ _ _ rfl L (by rfl) (by rfl) rfl ?_;clear L)|(refine Qab rfl _ _ _ _ rfl Ha (by rfl) (by rfl) rfl ?_;clear Ha));refine(QaL g w5 (by omega)).mono ?_;rintro e w6 ⟨v6,rfl,o6,S,z6⟩;have H7:=Qag 9 g;obtain⟨v7,w7,H,Hc⟩:=I.app S o6 H7.2 (by have:=Hl.out;omega);have G:=hid Hc;obtain⟨O,X⟩:=zE (zs++Qaj s++[2]++uvF 9 g);have Gk:=hid X;have Gh:Hid (O.length<=90000070):=hid (by rw [<- X,List.length_append];have:=Hl.out;omega);rw [X] at G;clear X Hc o6 S z6 H7 I;go_wp2_with (at_builtin;refine Qab rfl _ _ _ _ rfl H (by rfl) (by rfl) rfl ?_;clear H);go_loopw [6,9] (fun bd iv wr=>∃t:Nat,t<=g/\ iv=.int .i64 t/\ Hid (Bd w wr bd (O++(List.range t).flatMap fun t=>lfB 2 (gL l (J+t))))) (fun _ iv _=>g - (intOf iv).toNat);case atStart=>exact⟨0,Nat.zero_le _,rfl,hid (by simpa using G.out)⟩
     case round=>
      obtain⟨t,ht,rfl,E⟩:=hrel;clear G;by_cases Gq:t<g
      ·obtain⟨r,q,v,hr,hq,hv,N,Hm⟩:=Gc t (by omega);have HK:=hid Hm;obtain⟨Q,U,V⟩:=Hm _ E.b;clear Hm;have Hz:Hid (O++((List.range (t+1)).flatMap fun t=>lfB 2 (gL l (J+t)))=O++((List.range t).flatMap fun t=>lfB 2 (gL l (J+t)))++(uvF 9 r++uvF 9 q)):=hid (by rw [List.range_succ,List.flatMap_append];simp [N]);have P:Hid ((O++(List.range t).flatMap fun t=>lfB 2 (gL l (J+t))).length<=90000070+230*1000):=hid (by
        have k:=QbX (fun t=>lfB 2 (gL l (J+t))) (fun _=>1) 230 (List.range t) (fun z hz=>by
         have Ka:=List.mem_range.1 hz;obtain⟨r,q,v,hr,hq,hv,N,_⟩:=Gc z (by omega);have a1:=(Qag 9 r).1;have a2:=(Qag 9 q).1;have a3:=QaF v;rw [N];simp only [List.length_append];split
         ·omega
         ·simp;omega)
        have Z:∀ls:List Nat,(ls.map fun _=>1).sum=ls.length:=fun ls=>by
         induction ls with
         | nil=>rfl
         | cons a r ih=>simp only [List.map_cons,List.sum_cons,ih,List.length_cons];omega
        rw [Z,List.length_range] at k;have:=Gh.out;rw [List.length_append];omega)
       obtain⟨us,H8⟩:=zE (O++((List.range t).flatMap fun t=>lfB 2 (gL l (J+t))));rw [H8] at E Hz P;clear H8 N;have Gt:=Qag 9 r;have Gs:=Qag 9 q;go_wp2_with fail;refine(QaL r _ (by omega)).mono ?_;rintro e y1 ⟨u1,rfl,H9,H0,Gu⟩;obtain⟨u2,y2,H5,H2⟩:=E.app H0 H9 Gt.2 (by have:=P.out;omega);have Hf:=hid H2;clear H2 H0 H9 Gu E Q U V;obtain⟨Q,U,V⟩:=HK _ Hf.b;go_wp2_with (at_builtin;refine Qab rfl _ _ _ _ rfl H5 (by rfl) (by rfl) rfl ?_;clear H5);refine(QaL q _ (by omega)).mono ?_;rintro e y3 ⟨u3,rfl,Ga,H1,Gv⟩;obtain⟨u4,y4,H6,H3⟩:=Hf.app H1 Ga Gs.2 (by have:=P.out;rw [List.length_append];omega);have Hn:=hid H3;clear H3 H1 Ga Gv Hf Q U V;obtain⟨Q,U,V⟩:=HK _ Hn.b;go_wp2_with (at_builtin;refine Qab rfl _ _ _ _ rfl H6 (by rfl) (by rfl) rfl ?_;clear H6);go_roundw;case rel=>exact⟨t+1,Gq,by go_num,hid (by rw [Hz.out];simpa using Hn.out)⟩
       case measure=>simp [intOf];omega
      ·obtain rfl:g=t:=by omega
       have D:Hid (Bd w wr u6 ((kS l p (J+g)).flatMap (kB l f p))):=hid (by rw [A.1,List.flatMap_append,Hu.out];simp only [List.flatMap_cons,List.flatMap_nil,List.append_nil];rw [Hr.out];simpa [<- Gk.out] using E.out);have B:Hid ((kS l p (J+g)).length=cn+1):=hid (by rw [A.1,List.length_append,Ho.out];rfl);have C:Hid (0<M - g ->∀y,nx p (gL l (J+g))=some y ->y ∉ kS l p (J+g)):=hid (fun h=>A.2.2.2.1 (by omega));clear E Hu Ho Gb;by_cases G1:g<c'
       ·go_wp2_with fail;go_roundw;case rel=>exact⟨J+g,M - g,c' - g,some ⟨b,o+g*5,none⟩,hid (by have:=u.out;omega),by first|rfl|rw [if_neg (by omega)],by rw [B.out];go_num,hid ⟨by omega,by omega,fun h=>⟨b,_,rfl,Hx.drop g2⟩,C⟩,D⟩
        case measure=>simp [QlN];omega
       ·go_wp2_with fail;go_roundw;case rel=>exact⟨J+g,M - g,c' - g,some ⟨b,o,none⟩,hid (by have:=u.out;omega),by first|rfl|rw [if_pos (by omega)],by rw [B.out];go_num,hid ⟨by omega,by omega,fun h=>by omega,C⟩,D⟩
        case measure=>simp [QlN];omega
    ·have Hr:Hid (kB l f p (s,3)=Qaj s++([3]++tB l f (p++[s]))):=hid (by unfold kB;rw [if_pos rfl]);have Gj:Hid ((tB l f (p++[s])).length<=90000000/\ 0<(tB l f (p++[s])).length):=hid ⟨by
      have j:=A.2.2.2.2;rw [A.1,List.flatMap_append,List.length_append] at j;simp only [List.flatMap_cons,List.flatMap_nil,List.append_nil] at j;rw [Hr.out] at j;simp only [List.length_append] at j;omega,by
      obtain⟨f',rfl⟩:∃f',f=f'+1:=⟨f - 1,by omega⟩;exact QkE _ _ _⟩
     obtain⟨v5,w5,Ha,W⟩:=Hb.byte 3 (by have:=Hs.out;omega);have I:=hid W;have Hl:Hid ((zs++Qaj s++[3]).length<=90000051):=hid (by have:=Hs.out;rw [List.length_append];simp;simpa using this);clear W Hb Gr;go_wp2_with (at_builtin;first|(refine Qab rfl _ _ _ _ rfl L (by rfl) (by rfl) rfl ?_;clear L)|(refine Qab rfl _ _ _ _ rfl Ha (by rfl) (by rfl) rfl ?_;clear Ha));refine(G6 s hf J g c' (some ⟨b,o,none⟩) w5 (by omega) G9 (A.2.2.1 s rfl) (fun _=>⟨b,o,rfl,(Hx.take g2).bw I.b⟩) Gj.1).mono ?_;rintro e w6 ⟨v6,rfl,o6,S⟩;obtain⟨v7,w7,H,Hc⟩:=I.app S o6 Gj.2 (by have:=Hl.out;have:=Gj.1;omega);have G:=hid Hc;clear Hc o6 S I;have D:Hid (Bd w w7 v7 ((kS l p (J+g)).flatMap (kB l f p))):=hid (by rw [A.1,List.flatMap_append,Hu.out];simp only [List.flatMap_cons,List.flatMap_nil,List.append_nil];rw [Hr.out];simpa [List.append_assoc] using G.out);have B:Hid ((kS l p (J+g)).length=cn+1):=hid (by rw [A.1,List.length_append,Ho.out];rfl);have C:Hid (0<M - g ->∀y,nx p (gL l (J+g))=some y ->y ∉ kS l p (J+g)):=hid (fun h=>A.2.2.2.1 (by omega));clear G Hu Ho Gb;by_cases G1:g<c'
     ·go_wp2_with (at_builtin;refine Qab rfl _ _ _ _ rfl H (by rfl) (by rfl) rfl ?_;clear H);go_roundw;case rel=>exact⟨J+g,M - g,c' - g,some ⟨b,o+g*5,none⟩,hid (by have:=u.out;omega),by first|rfl|rw [if_neg (by omega)],by rw [B.out];go_num,hid ⟨by omega,by omega,fun h=>⟨b,_,rfl,Hx.drop g2⟩,C⟩,D⟩
      case measure=>simp [QlN];omega
     ·go_wp2_with (at_builtin;refine Qab rfl _ _ _ _ rfl H (by rfl) (by rfl) rfl ?_;clear H);go_roundw;case rel=>exact⟨J+g,M - g,c' - g,some ⟨b,o,none⟩,hid (by have:=u.out;omega),by first|rfl|rw [if_pos (by omega)],by rw [B.out];go_num,hid ⟨by omega,by omega,fun h=>by omega,C⟩,D⟩
      case measure=>simp [QlN];omega
   ·obtain rfl:M=0:=by omega
    have Gw:Hid (kS l p J=kS l p l.length):=hid (by have j:=u.out;have k:=Hk.out;rw [k.stop l.length k.2.2 zL];congr 1;omega);have K:Hid ((kS l p J).length<=1000/\ uvF 9 (kS l p J).length++(kS l p J).flatMap (kB l f p)=TB):=hid ⟨by have:=Qfr l p J;have j:=u.out;have k:=Hk.2.2;have:=hbd.len;omega,by rw [Gw.out];exact Gi⟩;obtain⟨cn,Hd⟩:=zE ((kS l p J).length);obtain⟨zs,He⟩:=zE ((kS l p J).flatMap (kB l f p));rw [Hd,He] at K;rw [He] at Hg;have Gm:=K.1;simp only [Hd];clear Hd He Ht Gw u;go_wp2_with fail;refine(QaL cn _ (by omega)).mono ?_;rintro e w1 ⟨v1,rfl,o1,b1,z1⟩;obtain⟨v2,w2,L,o2,b2⟩:=Hg.front b1 o1 (by have j:=K.2;have k:TB.length<=90000000:=hl;rw [<- j,List.length_append] at k;omega);rw [K.2] at o2;have HO:=hid o2;have HB:=hid b2;clear o2 b2 b1 o1 z1 Hg;go_wp2_with (at_builtin;refine Qab rfl _ _ _ _ rfl L (by rfl) (by rfl) rfl ?_;clear L);go_ret;exact⟨v2,rfl,HO,HB⟩
theorem Ql7(l:List Lf)(hlv:QbT R F T n l l.length)(hbd:LvB l):∀(f:Nat) (p:List ByteArray),p.length+f=8 ->1<=f ->∀(i m c:Nat) (a:Option Addr) (w:World),m<=c ->c<=9223372036854775807 ->Iv l p i (i+m) ->(0<m ->∃b off,a=some ⟨b,off,none⟩/\ LAt w b off l i m) ->(tB l f p).length<=90000000 ->
  Cl 100 #[.slice a m c,.int .i64 (p.length:Int)] w fun e w'=>∃v,e=.returned v/\ Own w' w.heap.size v (tB l f p)/\ Bl w w':=by
 intro f;induction f with
 | zero=>intro p _ j;omega
 | succ f IH=>exact fun p hpf _ i m c a w j h2 h3 h4 h5=>Qh0 l hlv hbd f p hpf (fun s hf=>IH (p++[s]) (by rw [List.length_append];simp;omega) hf) i m c a w j h2 h3 h4 h5
theorem Qji{o:Oper}{a:Act}{K:Act ->World ->Prop}{Q:Exit ->Act ->World ->Prop}(s x:Operand)
  (ho:o.op=.call {callee:=.builtin .append,args:=#[s,x],argTypes:=#[78,78]})
  (B B':Nat) (b v:Value) (zs ys:List Int) (hs:a.eval s=b) (hown:Own w B b zs) (hx:a.eval x=v) (hv:Own w B' v ys) (hvn:v.ownBlock≠none) (hbn:b.ownBlock≠none) (hl:zs.length+ys.length<=1000000000) (hB:B<=w.heap.size)
  (h:∀v' w',Own w' B v' (zs++ys) ->Gr w w' b v' ->v'.ownBlock≠none ->K (a.put o.dst v') w'):o.wp Tryz.prog a w K Q:=by
 obtain⟨p,hi,z,t,i⟩:=info_parts Tryz.infoByte;have u:=hv;obtain⟨V,y⟩:=hv;rcases y with ⟨rfl,_⟩|⟨g,k,A,rfl,E,M,U,O,r⟩
 ·exact absurd rfl hvn
 refine QcE s x 78 ho B 5 p (.int .u8 0) 1 1 Tryz.underlying78 hi z t i rfl (by decide) b zs.length _ hs hown ⟨g,0,none⟩ ys.length k (ys.map (Value.int .u8)) hx (by simp) (World.ownsRow.cells u rfl) (ints_oneCell .u8 _) (by unfold maxLen;omega) (by omega) hB ?_;intro v' w' m q j;refine h v' w' ?_ (Gr.app q j) ?_
 ·unfold Own;rw [List.length_append,List.map_append];exact m
 ·rcases j with j|j
  ·rw [j];exact hbn
  ·rw [j];simp
theorem QbC{ops:Array Oper}{rest:List Oper}{o:Oper}{a:Act}{Q:Exit ->Act ->World ->Prop}(hgd:o.guard=none)(s x:Operand)
  (ho:o.op=.call {callee:=.builtin .append,args:=#[s,x],argTypes:=#[78,78]})
  (B B':Nat) (b v:Value) (zs ys:List Int) (hs:a.eval s=b) (hown:Own w B b zs) (hx:a.eval x=v) (hv:Own w B' v ys) (hvn:v.ownBlock≠none) (hbn:b.ownBlock≠none) (hl:zs.length+ys.length<=1000000000) (hB:B<=w.heap.size)
  (h:∀v' w',Own w' B v' (zs++ys) ->Gr w w' b v' ->v'.ownBlock≠none ->wpList Tryz.prog ops Q rest (a.put o.dst v') w'):wpList Tryz.prog ops Q (o::rest) a w:=
 wpList_plain hgd fun _ hK=>Qji s x ho B B' b v zs ys hs hown hx hv hvn hbn hl hB fun v' w' h2 h3 h4=>hK _ _ (h v' w' h2 h3 h4)
theorem Own.some(h:Own w B v zs)(hz:0<zs.length):v.ownBlock≠none:=by
 obtain⟨q,j⟩:=h;rcases j with ⟨_,j⟩|⟨g,k,m,rfl,_⟩
 ·omega
 ·simp [Value.ownBlock]
def Qdr (L:Int ->List (Int×Int))(k:Nat):List Int:=(KS L k).flatMap (Qmb L)
theorem Qf4 (L:Int ->List (Int×Int))(ks:List Int):∀k,k<=ks.length ->Qgr L ks k=(ks.take k).flatMap (Qmb L)
 | 0,_=>by simp [Qgr]
 | k+1,h=>by
  have e:ks.take (k+1)=ks.take k++[ks.getD k 0]:=by
   rw [List.take_add_one];simp [List.getD,show k<ks.length by omega]
  rw [e,List.flatMap_append,<- Qf4 L ks k (by omega)];simp [Qgr]
theorem Qgq (L:Int ->List (Int×Int)):QfE L=uvF 9 (KS L 8).length++Qdr L 8:=by
 unfold QfE Qdr;rw [Qf4 L _ _ zL,List.take_length]
theorem Qki(h:L (k:Int)≠[]):KS L (k+1)=KS L k++[(k:Int)]:=by
 have:(L (k:Int)).isEmpty=false:=by cases e:L (k:Int) with|nil=>exact absurd e h|cons _ _=>rfl
 simp [KS,this]
theorem Qme(h:L (k:Int)=[]):KS L (k+1)=KS L k:=by simp [KS,h]
theorem Qfe(h:L (k:Int)≠[]):Qdr L (k+1)=Qdr L k++(uvF 9 k++(uvF 9 (L (k:Int)).length++spK (L (k:Int)) (L (k:Int)).length)):=by
 unfold Qdr;rw [Qki h,List.flatMap_append];simp [Qmb,Qkv]
theorem QgC(h:L (k:Int)=[]):Qdr L (k+1)=Qdr L k:=by
 unfold Qdr;rw [Qme h]
theorem Qc4 {L:Int ->List (Int×Int)}(hL:∀r,(L r).length<=1000):∀k,(Qdr L k).length<=30000*k
 | 0=>by simp [Qdr,KS]
 | k+1=>by
  have:=Qc4 hL k;by_cases h:L (k:Int)=[]
  ·rw [QgC h];omega
  ·have j:=(Qag 9 k).1;have m:=(Qag 9 (L (k:Int)).length).1;have q:=QdI (L (k:Int)) (L (k:Int)).length;have u:=hL (k:Int);rw [Qfe h];simp only [List.length_append];omega
def Qi2 (l:List (Int×Int))(j:Nat):Int:=loK l j - 2
theorem Qnh{r:Int}{l:List (Int×Int)}(h:w.ownsRow B 124 3 (.slice (some ⟨g,0,none⟩) n cap) n (Qa9 r l))(hl:l.length=n):
  ∀i,i<n ->w.cell? ⟨g,i*3+1,none⟩=some (.int .i64 (sF l i))/\ w.cell? ⟨g,i*3+2,none⟩=some (.int .i64 (sT l i)):=by
 intro i hi;have j:∀(l:List (Int×Int)) (i:Nat),i<l.length ->(Qa9 r l)[i*3+1]? =some (.int .i64 (l.getD i (0,0)).1)/\ (Qa9 r l)[i*3+2]? =some (.int .i64 (l.getD i (0,0)).2):=by
  intro l;induction l with
  | nil=>intro i hi;simp at hi
  | cons a l ih=>
   intro i hi;cases i with
   | zero=>simp [Qa9]
   | succ i=>
    have:=ih i (by simpa using hi);have e:Qa9 r (a::l)=.int .i64 r::.int .i64 a.1::.int .i64 a.2::Qa9 r l:=by simp [Qa9]
    rw [e,show (i+1)*3+1=i*3+1+1+1+1 from by omega,show (i+1)*3+2=i*3+2+1+1+1 from by omega];simpa using this
 rw [h.cellAt _ (by omega),h.cellAt _ (by omega)];exact j l i (by omega)
theorem QlQ (a:Option Addr)(n c:Nat)(R F T:Nat ->Int)(w:World)(hn:n<=1048576)(h:Qa7 w a n R F T)(hok:Qdh R F T n=true):
  Cl 99 #[.agg #[.slice a n c]] w fun e w'=>∃v,e=.returned (.tuple #[v,.bool true])/\ Own w' w.heap.size v (QfE (Lk R F T n))/\ Bl w w':=by
 have Hn:=Qax.1 hok;have Kp:=Hn.2;have B0:Bl w (w.alloc (.cells #[.slice a n c] 38)):=zO _ _;obtain⟨L,H⟩:=zE (Lk R F T n);have Hg:Hid (∀r,(L r).length<=1000):=fun r=>by rw [<- H];exact Nat.le_trans (Qbo R F T n r) Kp
 have H4:Hid (∀r,Srt (L r)):=fun r=>by rw [<- H];exact(Qcg n Hn.1 r).1
 have Kf:Hid (∀(rep:Int) (w:World),Qa7 w a n R F T ->Cl 118 #[.agg #[.slice a n c],.int .i64 rep] w fun e w'=>∃v,e=.returned v/\ w'.ownsRow w.heap.size 124 3 v (L rep).length (Qa9 rep (L rep))/\ Bl w w'):=fun rep w h=>by rw [<- H];exact Qno a n c R F T rep w hn h
 rw [H];clear Hn H;go_enter Tryz.func99,Tryz.ntmps99;go_wp2_with fail;refine(Qf6 a n c R F T _ hn (h.bw B0)).mono ?_;rintro e w1 ⟨rfl,b1⟩;rw [hok];have H9:w1.cell? ⟨w.heap.size,0,none⟩=some (.slice a n c):=by rw [(Qcm b1).1 _ _ (by simp)];simp
 have z1:w.heap.size+1<=w1.heap.size:=by have:=b1.size;simp at this;omega
 have G9:=hid (Qaa B0 b1);have HW:=hid h;clear b1 B0 hok h;go_wp2_with fail;go_loopw [4,5,6] (fun cv b' i wr=>∃(k:Nat) (u:List Int),k<=8/\ i=.int .i64 k/\ cv=.int .i64 ((KS L k).length:Nat)/\ Hid (Own wr (w.heap.size+1) b' u)/\ Hid (u=Qdr L k)/\ Hid (Bl w wr)/\ Hid (b'.ownBlock≠none)/\ wr.cell? ⟨w.heap.size,0,none⟩=some (.slice a n c)/\ w.heap.size+1<=wr.heap.size) (fun _ _ i _=>8 - (intOf i).toNat);case atStart=>
  refine⟨0,[],by omega,rfl,rfl,?_,hid rfl,hid (G9.alloc (by omega) _),hid (by simp [Value.ownBlock]),?_,by simp;omega⟩
  ·have:=World.ownsRow_lit (base:=w.heap.size+1) (e:=5) (size:=1) w1 #[] 0 (by omega) (by unfold maxLen;omega) rfl;exact hid (by simpa [Own] using this)
  ·rw [Below.cell (B:=w1.heap.size) (zO _ _) (show w.heap.size<w1.heap.size by omega)];exact H9
 case round=>
  obtain⟨k,u,q,rfl,rfl,O,Q,He,Ha,Kl,K1⟩:=hrel;by_cases Ge:k<8
  ·have Kn:=Qg6 L k;have Ht:=HW.bw He;have Gv:=hid Ht;clear Ht;go_wp2_with fail;refine(Kf (k:Int) wr Gv).mono ?_;rintro e z ⟨v2,rfl,o,I⟩;obtain⟨l,y⟩:=zE (L (k:Int));have Kz:l.length<=1000:=by rw [<- y];exact Hg _
   have G8:Hid (∀j,j<l.length ->1<=loK l j/\ loK l j<=sF l j/\ sF l j<=sT l j/\ sT l j<=1000000000):=fun j hj=>QkB (by rw [<- y];exact H4 _) hj;have A:Hid (Own z (w.heap.size+1) u5 u):=O.kept I (fun k q=>(World.ownsRow.lt O k q).2);have Hz:Hid (Bl w z):=He.trans (I.mono (by omega));have Hh:z.cell? ⟨w.heap.size,0,none⟩=some (.slice a n c):=by rw [Below.cell I (show w.heap.size<wr.heap.size by omega)];exact Kl
   have z2:=I.size;have Kt:u.length<=30000*k:=by rw [Q.out];exact Qc4 Hg k
   have Ki:Hid (∀g,u5.ownBlock=some g ->g<wr.heap.size):=fun g hg=>(World.ownsRow.lt O g hg).2;rw [y] at o;clear I O He Gv;by_cases X:l=[]
   ·subst X;have Hv:=hid (Qme y);have P:=hid (QgC y);clear y;rcases o.2 with ⟨rfl,_⟩|⟨g,Kj,Kk,rfl,_⟩
    ·clear o;go_wp2_with fail;go_roundw;case rel=>exact⟨k+1,u,Ge,by go_num,by rw [Hv.out],A,hid (by rw [P.out,Q.out]),Hz,Ha,Hh,by omega⟩
     case measure=>simp [intOf];omega
    ·clear o;go_wp2_with fail;go_roundw;case rel=>exact⟨k+1,u,Ge,by go_num,by rw [Hv.out],A,hid (by rw [P.out,Q.out]),Hz,Ha,Hh,by omega⟩
     case measure=>simp [intOf];omega
   ·have Ky:0<l.length:=List.length_pos_iff.2 X;have Hv:=hid (Qki (L:=L) (k:=k) (by rw [y];exact X));have H8:=Qfe (L:=L) (k:=k) (by rw [y];exact X);rw [y] at H8;have P:=hid H8;rcases o.2 with ⟨_,e0⟩|⟨g,Kj,Kk,rfl,Kw,_,K0,Km,_,_⟩
    ·omega
    have HC:=hid (Qnh o rfl);have Kx:g<z.heap.size:=(o.lt g rfl).2;unfold maxLen at Km;have Gc:some g≠u5.ownBlock:=fun e=>by have:=Ki g e.symm;omega
    have Kr:some w.heap.size≠u5.ownBlock:=fun e=>by have:=(World.ownsRow.lt A _ e.symm).1;omega
    have l3:=Qag 9 k;have l4:=Qag 9 l.length;have Kv:((l.length:Int)==0)=false:=by simp;omega
    clear o y H8 X;go_wp2_with fail;refine(QaL k z (by omega)).mono ?_;rintro e w3 ⟨v3,rfl,t,p,Ks⟩;have V:=hid (A.kept p (fun k q=>(World.ownsRow.lt A k q).2));have Z:=hid t;have Hw:=hid (t.some (by omega));have Gi:Hid (Gr z w3 u5 u5):=Gr.of_below p;clear t p;go_wp2_with (at_builtin;refine QbC rfl _ _ rfl (w.heap.size+1) z.heap.size u5 v3 u (uvF 9 k) rfl V rfl Z Hw Ha ?c1 ?c2 ?_);case c1=>omega
    case c2=>omega
    intro v4 w4 C E Hy;have W:=hid (Gi.trans E);have Y:=hid C;have Gm:=hid Hy;have z4:=E.g.size;clear C E Hy V Z Hw Gi;go_wp2_with fail;refine(QaL l.length w4 (by omega)).mono ?_;rintro e w5 ⟨v5,rfl,Gf,H6,K2⟩;have Gs:=hid (Y.kept H6 (fun k q=>(World.ownsRow.lt Y k q).2));have Gw:=hid Gf;have Gn:=hid (Gf.some (by omega));have Gj:Hid (Gr w4 w5 v4 v4):=Gr.of_below H6;clear Gf H6;go_wp2_with (at_builtin;refine QbC rfl _ _ rfl (w.heap.size+1) w4.heap.size v4 v5 (u++uvF 9 k) (uvF 9 l.length) rfl Gs rfl Gw Gn Gm ?d1 ?d2 ?_);case d1=>simp;omega
    case d2=>omega
    intro v6 w6 G6 Ga G4;have Kb:=hid (W.trans (Gj.trans Ga));have Ke:=hid G6;have Kd:=hid G4;have z6:=Ga.g.size;clear G6 Ga G4 Gs Gw Gn Gj Y W Gm;go_wp2_with fail;go_loopw [5,8,9] (fun b' la i wr'=>∃(j:Nat) (s:List Int),j<=l.length/\ i=.int .i64 j/\ la=.int .i64 (Qi2 l j)/\ Hid (Own wr' (w.heap.size+1) b' s)/\ Hid (s=u++uvF 9 k++uvF 9 l.length++spK l j)/\ Hid (Gr z wr' u5 b')/\ Hid (b'.ownBlock≠none)/\ z.heap.size<=wr'.heap.size) (fun _ _ i _=>l.length - (intOf i).toNat);case atStart=>exact⟨0,_,Nat.zero_le _,rfl,rfl,Ke,hid (by simp [spK]),Kb,Kd,by omega⟩
    case round=>
     obtain⟨j,s,hj,rfl,rfl,Hb,Ho,M,Hc,Kq⟩:=hrel;have Ku:s.length<=240000+20+20*j:=by
      rw [Ho.out];have:=QdI l j;simp only [List.length_append];omega
     by_cases Hx:j<l.length
     ·obtain⟨q1,q2,q3,q4⟩:=G8 j Hx;have G2:=M.g.cell (HC j Hx).1 Gc;have G3:=M.g.cell (HC j Hx).2 Gc;have Ko:Qi2 l j=loK l j - 2:=rfl;obtain⟨D,G0⟩:∃D:Int,sF l j - Qi2 l j=D:=⟨_,rfl⟩;obtain⟨b,Gz⟩:∃m:Nat,sF l j - loK l j=(m:Int):=⟨(sF l j - loK l j).toNat,by omega⟩;obtain⟨U,H5⟩:∃m:Nat,sT l j - sF l j=(m:Int):=⟨(sT l j - sF l j).toNat,by omega⟩;have x1:IntKind.i64.wrap (sF l j - Qi2 l j)=D:=by rw [G0];exact Qck _ (by omega) (by omega)
      have x2:IntKind.i64.wrap (D - 2)=(b:Int):=by rw [show D - 2=(b:Int) by omega];exact Qck _ (by omega) (by omega)
      have x3:IntKind.i64.wrap (sT l j - sF l j)=(U:Int):=by rw [H5];exact Qck _ (by omega) (by omega)
      have Kh:Hid (spK l (j+1)=spK l j++(uvF 9 b++uvF 9 U)):=by show spK l j++_=_;rw [Gz,H5];rfl
      have Kc:Hid (sT l j=Qi2 l (j+1)):=by show sT l j=loK l (j+1) - 2;show sT l j=sT l j+2 - 2;omega
      have y1:b<=1000000000:=by omega
      have y2:U<=1000000000:=by omega
      have y3:=Qag 9 b;have y4:=Qag 9 U;have Hm:some g≠u5.ownBlock:=fun e=>by
       rcases M.l with h|⟨i,h,hi⟩
       ·exact Gc (e.trans h)
       ·rw [h] at e;injection e with e;omega
      clear Gz H5 G0 Ko;go_wp2_with fail;refine(QaL b wr (by omega)).mono ?_;rintro e w7 ⟨v7,rfl,Gg,H7,K3⟩;have Gt:=hid (Hb.kept H7 (fun k q=>(World.ownsRow.lt Hb k q).2));have Gx:=hid Gg;have Go:=hid (Gg.some (by omega));have Gk:Hid (Gr wr w7 u5 u5):=Gr.of_below H7;clear Gg H7;go_wp2_with (at_builtin;refine QbC rfl _ _ rfl (w.heap.size+1) wr.heap.size u5 v7 s (uvF 9 b) rfl Gt rfl Gx Go Hc ?f1 ?f2 ?_);case f1=>omega
      case f2=>omega
      intro v8 w8 G7 Gb G5;have N:=Gk.trans Gb;have Hi:=N.g.cell G2 Hm;have Hk:=N.g.cell G3 Hm;have Hf:some g≠v8.ownBlock:=fun e=>by
       rcases N.l with h|⟨i,h,hi⟩
       ·exact Hm (e.trans h)
       ·rw [h] at e;injection e with e;omega
      have Gl:=hid (M.trans N);have H3:=hid G7;have Gp:=hid G5;have z8:=Gb.g.size;clear G7 Gb G5 Gt Gx Go Gk N G2 G3 x1 x2;go_wp2_with fail;refine zR (S:=fun w'=>w'.cell? ⟨g,j*3+1,none⟩=some (.int .i64 (sF l j))/\ w'.cell? ⟨g,j*3+2,none⟩=some (.int .i64 (sT l j))) ⟨Hi,Hk⟩ (fun qh=> ?_);refine tZ 0 53 ?_;refine tZ 1 54 ?_;refine tZ 2 55 ?_;refine tZ 3 56 ?_;refine tZ 4 57 ?_;refine tZ 5 58 ?_;refine tZ 6 59 ?_;refine tZ 7 60 ?_;refine tZ 8 61 ?_;refine tZ 9 62 ?_;refine tZ 10 63 ?_;refine tZ 11 64 ?_;refine cZ 12 ?_;intro K G;go_simp;refine(QaL U _ (by omega)).mono ?_;rintro e w9 ⟨v9,rfl,Gh,G1,K4⟩;have Hd:Bl w8 w9:=(Below.refl _ w8).drew.trans G1;have Gu:=hid (H3.kept Hd (fun k q=>(World.ownsRow.lt H3 k q).2));have Gy:=hid Gh;have Gq:=hid (Gh.some (by omega));have Hu:Hid (Gr w8 w9 v8 v8):=Gr.of_below Hd;have Hj:=Hu.g.cell Hi Hf;have Hl:=Hu.g.cell Hk Hf;have z9:=Hd.size;clear Gh G1 Hd;refine G.out _ _ ⟨Hj,Hl⟩ (fun qh=> ?_);clear G K;try simp only [zP]
      refine cZ 13 ?_;intro K G;rw [if_pos (by rfl)];refine Qji _ _ (by rfl) (w.heap.size+1) w8.heap.size v8 v9 (s++uvF 9 b) (uvF 9 U) (by rfl) Gu (by rfl) Gy Gq Gp (by simp;omega) (by omega) ?_;intro K5 K6 Hs J Hr;have Hp:=J.g.cell Hj Hf;have Hq:=J.g.cell Hl Hf;have H0:=hid (Gl.trans (Hu.trans J));have H2:=hid Hs;have H1:=hid Hr;have K7:=J.g.size;clear Hs J Hr;refine G.out _ _ ⟨Hp,Hq⟩ (fun qh=> ?_);clear G K;try simp only [zP]
      refine tZ 14 5 ?_;refine zD ?_;clear qh Hi Hk Hj Hl Gu Gy Gq Hu H3 Gp Gl;go_wp2_with fail;go_roundw;case rel=>exact⟨j+1,_,Hx,by go_num,by rw [Kc.out],H2,hid (by rw [Kh.out,Ho.out];simp),H0,H1,by omega⟩
      case measure=>simp [intOf];omega
     ·obtain rfl:j=l.length:=by omega
      go_wp2_with fail;go_roundw;case rel=>
       refine⟨k+1,s,Ge,by go_num,?_,Hb,hid ?_,hid ?_,Hc,M.g.cell Hh Kr,by omega⟩
       ·rw [Hv.out];simp
       ·rw [P.out,Ho.out,Q.out];simp
       ·exact Hz.trans (M.bw (by omega) (fun g hg=>by have:=(World.ownsRow.lt A g hg).1;omega))
      case measure=>simp [intOf];omega
  ·obtain rfl:k=8:=by omega
   have Kt:u.length<=30000*8:=by rw [Q.out];exact Qc4 Hg 8
   have Kn:=Qg6 L 8;have l3:=Qag 9 (KS L 8).length;have Kg:=hid (Qgq L);go_wp2_with fail;refine(QaL (KS L 8).length wr (by omega)).mono ?_;rintro e w3 ⟨v3,rfl,t,p,Ks⟩;have V:=hid (O.kept p (fun k q=>(World.ownsRow.lt O k q).2));have Z:=hid t;have Hw:=hid (t.some (by omega));have Ka:=hid (He.trans (p.mono (by omega)));have Gd:Hid (∀g,v3.ownBlock=some g ->wr.heap.size<=g):=fun g hg=>(World.ownsRow.lt t g hg).1;clear t p;go_wp2_with (at_builtin;refine QbC rfl _ _ rfl wr.heap.size (w.heap.size+1) v3 u5 (uvF 9 (KS L 8).length) u rfl Z rfl V Ha Hw ?g1 ?g2 ?_);case g1=>omega
   case g2=>omega
   intro v4 w4 C E Hy;have W:=hid E;have Y:=hid C;clear C E Hy V Z;go_wp2_with fail;go_ret2;refine⟨v4,rfl,?_,Ka.trans (W.bw (by omega) (fun g hg=>by have:=Gd g hg;omega))⟩;rw [Kg.out,<- Q.out];exact Y.weak (by omega)
def QnM (R F T:Nat ->Int)(n:Nat):List Int:=if Qdh R F T n then QfE (Lk R F T n) else []
theorem QjU (R F T:Nat ->Int)(n:Nat):(QnM R F T n).length<=1000000:=by
 unfold QnM;split
 ·rename_i h;have j:=Qax.1 h;rw [Qgq];have k:=(Qag 9 (KS (Lk R F T n) 8).length).1;have m:=Qc4 (L:=Lk R F T n) (fun r=>Nat.le_trans (Qbo R F T n r) j.2) 8;simp only [List.length_append];omega
 ·simp
theorem Own.any(h:Own w B v zs):∃a j,v=.slice a zs.length j/\ Seg w a zs.length (fun i=>zs.getD i 0):=by
 by_cases k:zs=[]
 ·subst k;obtain⟨_,m⟩:=h;rcases m with ⟨rfl,_⟩|⟨g,j,q,rfl,_⟩
  ·exact⟨none,0,rfl,.inl rfl⟩
  ·exact⟨_,j,rfl,.inl rfl⟩
 ·obtain⟨g,j,rfl,_,_,_,_,_,s⟩:=h.shape k;exact⟨_,j,rfl,s⟩
theorem Qkw (R F T:Nat ->Int)(r f t:Int):∀n,QbG R F T r f t n=true ->∃k,k<n/\ R k=r/\ F k<=f/\ t<=T k
 | 0,h=>by simp [QbG] at h
 | n+1,h=>by
  simp only [QbG,Bool.or_eq_true,decide_eq_true_eq] at h;rcases h with h|h
  ·obtain⟨k,j,r⟩:=Qkw R F T r f t n h;exact⟨k,by omega,r⟩
  ·exact⟨n,by omega,h⟩
theorem QaT.lvB(h:QaT R F T n l):LvB l:=by
 obtain⟨u,v,j,y⟩:=h;have g:=(Qax.1 u).1;have m:∀i,i<l.length ->(0<=(gL l i).r/\ (gL l i).r<8)/\ (0<=(gL l i).q/\ (gL l i).q<=1000000000):=fun i hi=>by
  obtain⟨k,z,t,o,b⟩:=Qkw R F T _ _ _ n (j i hi).2.1;have:=(g k z).1;simp only [QaJ,Bool.and_eq_true,decide_eq_true_eq] at this;omega
 exact⟨fun i hi=>(m i hi).1,fun i hi=>(m i hi).2,fun i hi=>(j i hi).1.2.1,v,y⟩
noncomputable def psB (R F T:Nat ->Int)(n:Nat)(l:List Lf):List Int:=QfE (Lk R F T n)++tB l 8 []
noncomputable def psZ (R F T:Nat ->Int)(n:Nat)(l:List Lf):List Int×Int:=
 if yes (QaT R F T n l)=true then(if (psB R F T n l).length<=4000 then(psB R F T n l,0) else([],2)) else([],1)
theorem Qk5(h:¬QaT R F T n l):psZ R F T n l=([],1):=by unfold psZ;rw [if_neg (by rw [Qaf h];simp)]
theorem Qhd(h:QaT R F T n l)(h2:¬(psB R F T n l).length<=4000):psZ R F T n l=([],2):=by unfold psZ;rw [if_pos (Qah h),if_neg h2]
theorem QiK(h:QaT R F T n l)(h2:(psB R F T n l).length<=4000):psZ R F T n l=(psB R F T n l,0):=by unfold psZ;rw [if_pos (Qah h),if_pos h2]
theorem QaT.put_len(h:QaT R F T n l):(QfE (Lk R F T n)).length<=1000000/\ 0<(QfE (Lk R F T n)).length:=by
 have:=QjU R F T n;unfold QnM at this;rw [if_pos h.1] at this;refine⟨this,?_⟩;rw [Qgq,List.length_append];have:=(Qag 9 (KS (Lk R F T n) 8).length).2;omega
theorem QaT.tree_len(h:QaT R F T n l):(tB l 8 []).length<=2000000:=by
 have j:=QkD h.2.2.1 8 [];have k:=Qnu l [] l.length;have m:=h.2.1;have q:(400+100*8)*uK l [] l.length<=1200*1000:=Nat.mul_le_mul (by omega) (by omega);omega
theorem QaT.iv(h:QaT R F T n l):Iv l [] 0 (0+l.length):=by
 refine⟨fun j hj=> ?_,by omega,by omega⟩;rw [Qgn];have:=(h.2.2.1 j hj).1.1.1;exact⟨fun _=>⟨by omega,by omega⟩,fun _=>⟨List.nil_prefix,Nat.lt_of_lt_of_le Nat.zero_lt_one this⟩⟩
theorem QbD.lat(h:QbD w a l)(h0:0<l.length):∃b j,a=some ⟨b,j,none⟩/\ LAt w b j l 0 l.length:=by
 rcases h with h|⟨b,j,e,k,m⟩
 ·omega
 ·refine⟨b,j,e,k,fun t ht=> ?_⟩;rw [Nat.zero_add];exact m t ht
theorem Qk3 (w:World)(B:Nat)(hB:B<=w.heap.size):Own (w.alloc (.cells #[] 5)) B (.slice (some ⟨w.heap.size,0,none⟩) 0 0) []:=by
 have:=World.ownsRow_lit (base:=B) (e:=5) (size:=1) w #[] 0 hB (by unfold maxLen;omega) rfl;simpa [Own] using this
theorem QjH (a:Option Addr)(c:Nat)(l:List Lf)(x:Option Addr)(n d:Nat)(R F T:Nat ->Int)(w:World)(hc:l.length<=c)(hcm:c<=9223372036854775807)(hn:n<=1048576)(h:QbD w a l)(h':Qa7 w x n R F T)(hok:QaT R F T n l):
  Cl 71 #[.agg #[.slice a l.length c,.slice x n d]] w fun e w'=>∃v,e=.returned v/\ Own w' w.heap.size v (psB R F T n l)/\ Bl w w':=by
 obtain⟨W,m⟩:=zE (w.alloc (.cells #[.slice a l.length c,.slice x n d] 40));have j:Bl w W:=by rw [<- m];exact zO _ _
 have q:Bx2 W w.heap.size (.slice a l.length c) (.slice x n d):=by rw [<- m];exact Bx2.made _ _ _ _
 obtain⟨k0,H⟩:=q.q2;have r:=hid q;have Y:=hid (h.bw j);have p:=hid (QlQ x n d R F T W hn (h'.bw j) hok.1);have z:=hid j;have A:Hid (∀w1,Bl W w1 ->Cl 100 #[.slice a l.length c,.int .i64 0] w1 fun e w'=>∃v,e=.returned v/\ Own w' w1.heap.size v (tB l 8 [])/\ Bl w1 w'):=hid (fun w1 hb1=>by
  have:=Ql7 l hok.2.2.1 hok.lvB 8 [] rfl (by omega) 0 l.length c a w1 hc hcm hok.iv (fun h0=>(Y.bw hb1).lat h0) (by have:=hok.tree_len;omega);exact this)
 have i:=hid (And.intro hok.put_len hok.tree_len);have G:Hid (0<(tB l 8 []).length):=hid (QkE l 7 []);have s:Hid (QfE (Lk R F T n)++tB l 8 []=psB R F T n l):=hid rfl;obtain⟨Z,Q⟩:=zE (psB R F T n l);rw [Q] at s ⊢;clear Q h h' j q hok;go_enter Tryz.func71,Tryz.ntmps71;go_wp2_with fail;try rw [m]
 clear m;refine p.mono ?_;rintro e w1 ⟨v1,rfl,y,k⟩;have M:=r.bw k r.lt;obtain⟨I,J⟩:=M.q2;have g:Hid (Bd w w1 v1 (QfE (Lk R F T n))):=hid ⟨Qaa z k,Own.weak y z.size,Qk4 y i.1.2⟩;have E:=hid (A w1 k);clear k y M p A r k0 H;go_wp2_with fail;refine E.mono ?_;rintro e K ⟨v2,rfl,V,O⟩;obtain⟨v3,L,U,u⟩:=g.app O V G (by have:=i.out;omega);rw [s.out] at u;have t:=hid u;clear u O V g E I J;go_wp2_with (at_builtin;refine Qab rfl _ _ _ _ rfl U (by rfl) (by rfl) rfl ?_;clear U);go_ret;exact⟨v3,rfl,t.o,t.b⟩
theorem Qf7 (a:Option Addr)(c:Nat)(l:List Lf)(x:Option Addr)(n d:Nat)(R F T:Nat ->Int)(w:World)(hc:l.length<=c)(hcm:c<=9223372036854775807)(hl:l.length<=1048576)(hp:LBd l)(hn:n<=1048576)(h:QcF w a l)(p:QbD w a l)(h':Qa7 w x n R F T):
  Cl 41 #[.agg #[.slice a l.length c,.slice x n d]] w fun e w'=>∃v zs k,e=.returned (.tuple #[v,.int .i64 k])/\ psZ R F T n l=(zs,k)/\ Own w' w.heap.size v zs/\ Bl w w':=by
 obtain⟨W,z⟩:=zE (w.alloc (.cells #[.slice a l.length c,.slice x n d] 40));have y:Bl w W:=by rw [<- z];exact zO _ _
 have o:Bx2 W w.heap.size (.slice a l.length c) (.slice x n d):=by rw [<- z];exact Bx2.made _ _ _ _
 obtain⟨k0,I⟩:=o.q2;have t:=hid o;have J:=hid (p.bw y);have L:=hid (h'.bw y);have u:=hid (Qbl a c l x n d R F T W hl hp hn (h.bw y) (h'.bw y));have E:=hid y;clear h p h' y o;by_cases j:QaT R F T n l
 ·rw [Qah j] at u;have i:=hid (fun w1(hb:Bl W w1)=>QjH a c l x n d R F T w1 hc hcm hn (J.bw hb) (L.bw hb) j);have U:=hid (fun h=>QiK j h);have O:=hid (fun h=>Qhd j h);have M:Hid ((psB R F T n l).length<=1000000000):=hid (by have h1:=j.put_len;have p:=j.tree_len;unfold psB;rw [List.length_append];omega);obtain⟨Z,s⟩:=zE (psB R F T n l);obtain⟨P,q⟩:=zE (psZ R F T n l);rw [s,q] at U O;rw [s] at i M;rw [q];clear s q j;go_enter Tryz.func41,Tryz.ntmps41;go_wp2_with fail;try rw [z]
  clear z;refine u.mono ?_;rintro e w1 ⟨rfl,m⟩;have Y:=t.bw m t.lt;obtain⟨B,C⟩:=Y.q2;have r:=hid (Qaa E m);have V:=hid (i w1 m);clear m Y u t k0 I i;go_wp2_with fail;refine V.mono ?_;rintro e w2 ⟨v2,rfl,A,G⟩;have K:=hid (Own.weak A r.size);have g:=hid (Qaa r G);obtain⟨D,S,rfl,_⟩:=A.any;have Ha:=M.out;clear G A V B C;by_cases H:Z.length<=4000
  ·have b:=hid (U H);have N:decide ((4000:Int)<(Z.length:Int))=false:=by simp;omega
   have X:decide (4000<Z.length)=false:=by simp;omega
   go_wp2_with fail;go_ret2;exact⟨_,Z,0,rfl,b,K,g⟩
  ·have b:=hid (O H);have N:decide ((4000:Int)<(Z.length:Int))=true:=by simp;omega
   have X:decide (4000<Z.length)=true:=by simp;omega
   go_wp2_with fail;go_ret2;exact⟨_,[],2,rfl,b,Qk3 _ _ g.size,g.alloc g.size _⟩
 ·rw [Qaf j] at u;have Q:=hid (Qk5 j);obtain⟨P,q⟩:=zE (psZ R F T n l);rw [q] at Q;rw [q];clear q j;go_enter Tryz.func41,Tryz.ntmps41;go_wp2_with fail;try rw [z]
  clear z;refine u.mono ?_;rintro e w1 ⟨rfl,m⟩;have r:=hid (Qaa E m);clear m u t k0 I;go_wp2_with fail;go_ret2;exact⟨_,[],1,rfl,Q,Qk3 _ _ r.size,r.alloc r.size _⟩
end Go.Proofs.YtgmjgboibfdaeaaGreatDoor
