import Derived.Test.YtedpomikcaemgaaGreatDoorHsg02
import Derived.Test.YtedpomikcaemgaaGreatDoorShelf
import Derived.Lib.SlKeysI
set_option linter.unusedVariables false
set_option linter.unusedSimpArgs false
set_option maxRecDepth 100000
set_option maxHeartbeats 40000000
namespace Go.Proofs.YtedpomikcaemgaaGreatDoor
open Go.ChangeShapes Go.WideShapes Go.ChangeAt Go.RowKit Go.Maps Go.Proofs.Tryz
open Go.Value renaming slice → Uf, int → Ug, pointer → Uk, tuple → Ul, string → Um, bool → Un, agg → Uo
open Go.IntKind renaming i64 → Uh
open Go.Ending renaming returned → Ui
open Go.Obj renaming cells → Uj
open Option renaming none → Up, some → Uq
open Go renaming World → Ur, Addr → Us
open List renaming length_append → Vg, getD → UR, getElem_mem → UW, append_assoc → Vu, mem_singleton → UV, prefix_refl → Vv, flatMap_append → Vw, range → UT, flatMap_map → Vx, range_succ → Vq, map_cons → Vm, sum_cons → Vs, length_cons → Vh, length_range → Vy, flatMap_cons → Vz, flatMap_nil → VA, append_nil → VC
open Nat renaming zero_le → Uv
open Go.World renaming ownsRow_lit → VD
variable {B bm cap g k n:Nat}{F R T:Nat ->Int}{L:Int ->List (Int×Int)}{a:Option Us}{body v:Value}{l:List Lf}{ns zs:List Int}{row:Option Nat}{w w1 wr:Ur}
def sF (l:List (Int×Int))(i:Nat):Int:=(l.getD i (0,0)).1
def sT (l:List (Int×Int))(i:Nat):Int:=(l.getD i (0,0)).2
def loK (l:List (Int×Int)):Nat ->Int
 | 0=>1
 | k+1=>sT l k+2
def spK (l:List (Int×Int)):Nat ->List Int
 | 0=>[]
 | k+1=>spK l k++(uvF 9 (sF l k - loK l k).toNat++uvF 9 (sT l k - sF l k).toNat)
def QkT (l:List (Int×Int)):List Int:=uvF 9 l.length++spK l l.length
theorem QeC (l:List (Int×Int)):∀k,(spK l k).length<=20*k
 | 0=>by simp [spK]
 | k+1=>by
  have:=QeC l k;have j:=(Qah 9 (sF l k - loK l k).toNat).1;have m:=(Qah 9 (sT l k - sF l k).toNat).1;simp only [spK,Vg];omega
theorem Qln (l:List (Int×Int)):(QkT l).length<=10+20*l.length:=by
 have j:=(Qah 9 l.length).1;have:=QeC l l.length;simp only [QkT,Vg];omega
theorem QmP {l:List (Int×Int)}(h:Srt l)(hk:k<l.length):1<=loK l k/\ loK l k<=sF l k/\ sF l k<=sT l k/\ sT l k<=1000000000:=by
 have e:l.getD k (0,0)=l[k]:=by simp [UR,hk]
 have j:=h.2 _ (UW hk);rw [<- e] at j;have m:loK l k<=sF l k/\ 1<=loK l k:=by
  cases k with
  | zero=>exact⟨j.1,Int.le_refl _⟩
  | succ k=>
   have u:=Qh0 h (show k<k+1 by omega) hk;have q:l.getD k (0,0)=l[k]:=(by simp [UR,show k<l.length by omega]);have r:=h.2 _ (UW (show k<l.length by omega));rw [<- q] at r;show (l.getD k (0,0)).2+2<=(l.getD (k+1) (0,0)).1/\ 1<=(l.getD k (0,0)).2+2;exact⟨oM,oM⟩
 exact⟨m.2,m.1,j.2.1,j.2.2⟩
theorem QeO (x:Int)(h0:0<=x)(h1:x<=1000000000):IntKind.u64.wrap x=x:=by
 unfold IntKind.wrap;simp [IntKind.bits,IntKind.signed];omega
theorem QgN (B:Nat)(bv:Value)(zs0:List Int)(a:Option Us)(c:Nat)(l:List (Int×Int))(w:Ur)(hB:B<=w.heap.size)(hl:zs0.length<=100000000)(ho:Own w B bv zs0)
  (hs:SS w a l.length (sF l) (sT l)) (hne:∀x,a=Uq x ->Uq x.block≠bv.ownBlock) (hok:Srt l) (hn:l.length<=1000):
  Cl 147 #[bv,Uf a l.length c] w fun e w'=>∃v,e=Ui v/\ Own w' B v (zs0++QkT l)/\ Gr w w' bv v:=by
 obtain⟨n,U⟩:=zE l.length;have H:Hid (QkT l=uvF 9 n++spK l n):=by unfold QkT;rw [U];exact rfl
 rw [U] at hs hn ⊢;have Hb:Hid (∀k,k<n ->1<=loK l k/\ loK l k<=sF l k/\ sF l k<=sT l k/\ sT l k<=1000000000):=fun k hk=>QmP hok oM;have HU:=Qah 9 n;have HS:=QeC l;clear hok U;go_enter func147,ntmps147;go_wp2_with fail;refine(QaU B n bv zs0 w oM hB oM ho).mono ?_;rintro e w1 ⟨v1,rfl,V,O,Hj⟩;have Z:=hid O;rcases hs with h0|⟨b,off,rfl,hb,L⟩
 ·subst h0;clear O;go_wp2_with fail;refine wp_loop_rounds 1 ?_;rw [rounds_succ];go_wp2_with fail;go_ret;exact⟨v1,rfl,by rw [H.out];simpa [spK] using V,Z⟩
 have C:=hne _ rfl;have N:Hid (∀i,i<n ->w.cell? (Ua b (off+i*2))=Uq (Ud (sF l i))/\ w.cell? (Ua b (off+i*2+1))=Uq (Ud (sT l i))):=L;have Hd:=hid V;clear O L V hne ho;go_wp2_with fail;go_loopw [0,5,15] (fun b' lo i wr=>∃(k:Nat) (z:List Int),k<=n/\ i=Ud k/\ lo=Ud (loK l k)/\ Own wr B b' z/\ Hid (z=zs0++uvF 9 n++spK l k)/\ Hid (Gr w wr bv b')/\ w.heap.size<=wr.heap.size/\ z.length<=100000000+10+20*k) (fun _ _ i _=>n - (intOf i).toNat);case atStart=>exact⟨0,_,Uv _,rfl,rfl,Hd,hid (by simp [spK]),Z,oM,oS⟩
 case round=>
  obtain⟨k,z,hk,rfl,rfl,o,P,s,Hi,Hh⟩:=hrel;by_cases A:k<n
  ·have Hg:wr.cell? (Ua b (off+k*2))=Uq (Ud (sF l k)):=s.g.cell (N k A).1 C;have Ha:wr.cell? (Ua b (off+k*2+1))=Uq (Ud (sT l k)):=s.g.cell (N k A).2 C;obtain⟨q1,q2,q3,q4⟩:=Hb k A;obtain⟨y,q⟩:=zE (wr.alloc (Uj #[Ud (sF l k),Ud (sT l k)] 255));have zW:y.heap.size=wr.heap.size+1:=q▸oP;have R:y.cell? (Ub wr.heap.size)=Uq (Ud (sF l k)):=q▸oP;have S:y.cell? (Ua wr.heap.size 1)=Uq (Ud (sT l k)):=q▸oP;have K:Own y B u0 z:=q▸World.ownsRow.alloc o _;have Y:Hid (Gr w y bv u0):=q▸s.alloc _;have Q:Uq wr.heap.size≠u0.ownBlock:=fun e=>by have:=(World.ownsRow.lt o _ e.symm).2;omega
   obtain⟨r,E⟩:∃m:Nat,sF l k - loK l k=(m:Int):=⟨(sF l k - loK l k).toNat,oM⟩;obtain⟨u,M⟩:∃m:Nat,sT l k - sF l k=(m:Int):=⟨(sT l k - sF l k).toNat,oM⟩;have x1:IntKind.i64.wrap (sF l k - loK l k)=(r:Int):=(by rw [E];exact Qa3 _ oM oM);have x2:IntKind.i64.wrap (sT l k - sF l k)=(u:Int):=(by rw [M];exact Qa3 _ oM oM);have x3:IntKind.u64.wrap (r:Int)=(r:Int):=QeO _ oM oM;have x4:IntKind.u64.wrap (u:Int)=(u:Int):=QeO _ oM oM;have Hf:Hid (spK l (k+1)=spK l k++(uvF 9 r++uvF 9 u)):=(by show spK l k++_=_;rw [E,M];rfl);have y1:r<=1000000000:=oM;have y2:u<=1000000000:=oM;clear E M;have x5:IntKind.i64.wrap (sT l k+2)=sT l k+2:=Qa3 _ oM oM;have J:=hid K;clear K o;go_wp2_with fail;try rw [q]
   refine(QaU B r u0 z y oM oM oM J).mono ?_;rintro e w2 ⟨v2,rfl,D,t,Hk⟩;have T:=t.g.cell R Q;have W:=t.g.cell S Q;have l2:=(Qah 9 r).1;have l3:=(Qah 9 u).1;have X:Uq wr.heap.size≠v2.ownBlock:=fun e=>by
    rcases t.l with h|⟨j,h,hj⟩
    ·exact Q (e.trans h)
    ·rw [h] at e;injection e with e;omega
   have G:=hid (Y.trans t);have I:=hid D;clear q Hg Ha R S t D Y J;go_wp2_with fail;refine(QaU B u v2 _ w2 oM oM oS I).mono ?_;rintro e w3 ⟨v3,rfl,F,p,Hl⟩;have t0:=p.g.cell T X;have t1:=p.g.cell W X;have Hc:=hid (G.trans p);have He:=hid F;clear T W p F G I;go_wp2_with fail;go_roundw;case rel=>exact⟨k+1,_,A,oN,rfl,He,hid (by rw [Hf.out,P.out];simp),Hc,oM,oS⟩
   case measure=>exact oE
  ·obtain rfl:k=n:=oM;have HO:=hid o;clear o;go_wp2_with fail;go_ret;refine⟨u0,rfl,?_,s⟩;rw [H.out,<- Vu,<- P.out];exact HO
open Go.Sort Go.Shelf
theorem QpL (m:Nat):AnyZI.SortsIn prog Tryz.sortedA_ren Fence.wide m:=
 ⟨fun blk off cap ss W hH hblk hsz=>callsIn_wide.2 (AnyM.slices_Sort_int Tryz.sortA blk off cap ss W hH hblk hsz),
  fun p cap W=>callsIn_wide.2 (AnyM.slices_Sort_int_none Tryz.sortA p cap W)⟩
theorem Qpz (mb:Option Nat)(W:Ur):Cl 146 #[.map mb] W fun e w'=>e=Ui (.func (.func 164) #[] #[Uk (Uc W.heap.size)])/\ w'=W.alloc (Uj #[.map mb] 174):=
 (callsIn_wide (n:=5)).1 (AnyZI.keys_in Tryz.keysA Fence.wide 5 trivial rfl mb W)
theorem Qk5 {H:Type}(b nn:Nat)(D0:DataW H)(R:Value ->Option (DataW H×List MemPlace))(w:Ur)(hown:w.ownsMap prog 3 R b nn D0)(hmax:Maps.size D0<=maxLen)(hbytes:Maps.size D0*8<=140737488355328):
  Cl 145 #[.func (.func 164) #[] #[Uk (Uc w.heap.size)]] (w.alloc (Uj #[.map (Uq b)] 174)) fun e w'=>∃(v:Value) (j:List Int),e=Ui v/\ j.Perm (intKeys D0)/\
   w'.ownsRow (w.heap.size+1) 3 1 v j.length ((j.mergeSort (fun x y=>decide (x<=y))).map encZ)/\ Bl w w':=by
 have t:=hown.lt;have i:SeqGives Fence.wide 2 prog 164 #[Uk (Uc w.heap.size)] encZ (fun j=>j.Perm (intKeys D0)) (Maps.size D0) (w.alloc (Uj #[.map (Uq b)] 174)):=
  AnyZI.keys_gives (ρ:=Tryz.keysA_ren) {Tryz.keysA with} Fence.wide _ trivial rfl oM w.heap.size b nn D0 _ oP oP (by
   obtain⟨z,u,k,r,o,h⟩:=hown;exact⟨z,u,(Below.heap_alloc _ _ b t).trans k,r,o,h⟩)
 have m:=AnyZI.sorted_in Tryz.sortedA Fence.wide 5 trivial trivial trivial trivial rfl oM (QpL _) (enters_of func163 oK rfl) 164 #[Uk (Uc w.heap.size)] trivial (enters_of func164 oK rfl) _ _ hmax hbytes _ i;change CallsIn _ _ prog 145 _ _ _ at m;refine((callsIn_wide (n:=5)).1 m).mono ?_;rintro e w' ⟨v,j,rfl,g,q,p,k⟩;refine⟨v,j,rfl,g,?_,((Below.refl _ w).alloc zL _).trans (k.mono oP)⟩;have e:(w.alloc (Uj #[.map (Uq b)] 174)).heap.size=w.heap.size+1:=oP;rw [e] at q;exact q
def KS (L:Int ->List (Int×Int)):Nat ->List Int
 | 0=>[]
 | k+1=>KS L k++(if (L (k:Int)).isEmpty then [] else [(k:Int)])
theorem Qd5 (L:Int ->List (Int×Int))(k:Nat):∀x,x∈KS L k↔(0<=x/\ x<k/\ (L x).isEmpty=false):=by
 induction k with
 | zero=>intro x;simp [KS];omega
 | succ k ih=>
  intro x;simp only [KS,List.mem_append,ih];by_cases e:(L (k:Int)).isEmpty=true
  ·rw [if_pos e];constructor
   ·rintro(⟨a,b,c⟩|h)
    ·exact⟨a,oM,c⟩
    ·simp at h
   ·rintro⟨a,b,c⟩;refine .inl ⟨a,?_,c⟩;rcases Int.lt_or_le x k with h|h
    ·exact h
    ·have:x=(k:Int):=oM;rw [this,e] at c;cases c
  ·rw [if_neg e];simp only [Bool.not_eq_true] at e;constructor
   ·rintro(⟨a,b,c⟩|h)
    ·exact⟨a,oM,c⟩
    ·rw [UV] at h;subst h;exact⟨oM,oM,e⟩
   ·rintro⟨a,b,c⟩;rcases Int.lt_or_le x k with h|h
    ·exact .inl ⟨a,h,c⟩
    ·exact .inr (List.mem_singleton.2 oM)
theorem Qja (L:Int ->List (Int×Int))(k:Nat):(KS L k).Pairwise (fun x y=>x<y):=by
 induction k with
 | zero=>exact List.Pairwise.nil
 | succ k ih=>
  simp only [KS];refine List.pairwise_append.2 ⟨ih,?_,fun x hx y hy=> ?_⟩
  ·split
   ·exact List.Pairwise.nil
   ·exact List.pairwise_singleton _ _
  ·have:=(Qd5 L k x).1 hx;split at hy
   ·cases hy
   ·rw [UV] at hy;omega
theorem Qgf (L:Int ->List (Int×Int))(k:Nat):(KS L k).length<=k:=by
 induction k with
 | zero=>simp [KS]
 | succ k ih=>simp only [KS,Vg];split<;>simp<;>omega
theorem QjR{D:DataW Value}{G:Int ->Value}(h:QaM w bm n D G L)(hL:∀r,L r≠[] ->0<=r/\ r<8):(KS L 8).Perm (intKeys D)/\ Maps.size D=(KS L 8).length:=by
 obtain⟨u,j,g,_⟩:=h.own.entries (int_keyed underlying3);obtain⟨y,k,z⟩:=h.own.keysOf;obtain rfl:u=y:=by rw [j] at k;simpa using k
 have q:(KS L 8).Perm (intKeys D):=by
  have m:=h.has';rw [j] at m ⊢;refine perm_intKeys g (fun p hp=>by obtain⟨v,t⟩:=z p hp;obtain⟨x,_,o,_⟩:=Maps.keyOf_i64 underlying3 t;exact⟨x,o⟩) ((Qja L 8).imp (fun h=>oM)) (fun x=> ?_);have:=m x;unfold kI at this;rw [this,Qd5];constructor
  ·rintro⟨_,_,c⟩;rw [c];rfl
  ·intro c;have c':(L x).isEmpty=false:=oU c;have:=hL x (by intro e;rw [e] at c';cases c');exact⟨this.1,this.2,c'⟩
 refine⟨q,?_⟩;rw [q.length_eq,j];simp [Maps.size_eq,intKeys]
theorem Qgg{ss ks:List Int}(h1:(KS L 8).Perm ks)(h2:ss.Perm ks):ss.mergeSort (fun x y=>decide (x<=y))=KS L 8:=by
 rw [mergeSort_of_perm_i (h2.trans h1.symm)];refine List.mergeSort_of_pairwise ((Qja L 8).imp (fun h=> ?_));simp;omega
theorem QdU {R F T:Nat ->Int}:∀k:Nat,QeM R F T k ->∀r,Lk R F T k r≠[] ->0<=r/\ r<8
 | 0,_=>fun r h=>absurd rfl h
 | k+1,h=>fun r hr=>by
  have j:=Qbf.1 (h k oM).1;by_cases e:r=R k
  ·subst e;exact⟨j.1,j.2.1⟩
  ·have m:Lk R F T (k+1) r=Lk R F T k r:=Qai _ _ e;rw [m] at hr;exact QdU k (fun i hi=>h i oM) r hr
def Qod (L:Int ->List (Int×Int))(r:Int):List Int:=uvF 9 r.toNat++QkT (L r)
def Qgc (L:Int ->List (Int×Int))(ks:List Int):Nat ->List Int
 | 0=>[]
 | k+1=>Qgc L ks k++Qod L (ks.getD k 0)
def QeJ (L:Int ->List (Int×Int)):List Int:=uvF 9 (KS L 8).length++Qgc L (KS L 8) (KS L 8).length
theorem Qij {L:Int ->List (Int×Int)}(hL:∀r,(L r).length<=1000)(ks:List Int):∀k,(Qgc L ks k).length<=30000*k
 | 0=>by simp [Qgc]
 | k+1=>by
  have:=Qij hL ks k;have j:=(Qah 9 (ks.getD k 0).toNat).1;have m:=Qln (L (ks.getD k 0));have q:=hL (ks.getD k 0);simp only [Qgc,Qod,Vg];omega
theorem QaM.gr{D:DataW Value}{G:Int ->Value}(h:QaM w bm n D G L)(hg:w.grownBy w1 row)(hr:Uq bm≠row)(hro:∀r g,(G r).ownBlock=Uq g ->Uq g≠row):QaM w1 bm n D G L:=
 ⟨h.own.kept hg hr,h.at',h.has',fun r=>(h.rows r).kept hg (by
  cases e:(G r).ownBlock with
  | none=>exact .inl rfl
  | some g=>exact .inr (hro r g e)),h.apart⟩
theorem Qir{m:Nat}(h:w.ownsRow B 3 1 (Uf (Uc g) m cap) m (zs.map encZ))(hl:zs.length=m):∀i,i<m ->w.cell? (Ua g i)=Uq (Ud (zs.getD i 0)):=by
 intro i hi;rw [h.cellAt i oM];simp [UR,show i<zs.length by omega]
theorem Qjj{D:DataW Value}{G:Int ->Value}(hgrp:QaM w bm n D G L)(HLen:Hid (∀r,(L r).length<=1000))(HSrt:Hid (∀r,Srt (L r)))(HRep:Hid (∀r,L r≠[] ->0<=r/\ r<8)):
  Cl 130 #[.map (Uq bm),Ue] w fun e w'=>∃v,e=Ui v/\ Own w' w.heap.size v (QeJ L)/\ Bl w w':=by
 obtain⟨P,V⟩:=QjR hgrp HRep;obtain⟨q,t⟩:=zE (KS L 8);have W:Hid (QeJ L=uvF 9 q.length++Qgc L q q.length):=by unfold QeJ;rw [t];exact rfl
 have Gk:q.length<=8:=t▸Qgf L 8;have Hk:Hid (∀x∈q,0<=x/\ x<8/\ L x≠[]):=fun x hx=>by
  rw [<- t] at hx;have:=(Qd5 L 8 x).1 hx;exact⟨this.1,oM,fun e=>by rw [e] at this;simp at this⟩
 have Hm:Hid (∀o:List Int,o.Perm (intKeys D) ->o.mergeSort (fun x y=>decide (x<=y))=q/\ o.length=q.length):=fun o hs=>by rw [<- t];exact⟨Qgg P hs,by rw [hs.length_eq,<- P.length_eq]⟩
 rw [t] at V;clear t P;have Hd:=hgrp.own.len underlying174;rw [V] at Hd;have E:=hid hgrp;have HU:=Qah 9 q.length;clear hgrp;have x0:IntKind.u64.wrap ((q.length:Nat):Int)=(q.length:Int):=QeO _ oM oM;go_enter func130,ntmps130;go_wp2_with fail;refine(QkY w.heap.size q.length _ [] w oM zL oP (World.ownsRow_nil _ _ _ _)).mono ?_;rintro e w2 ⟨v2,rfl,Hr,J,Gn⟩;have M:=hid Hr;have R:=hid J;have H4:=E.own.lt;have Y:=hid (E.bw J);clear Hr J Hd;go_wp2_with fail;refine(Qpz (Uq bm) w2).mono ?_;rintro e w3 ⟨rfl,rfl⟩;go_wp2_with fail;refine(Qk5 bm n D Qc3 w2 Y.own (by rw [V];unfold maxLen;omega) (by rw [V];omega)).mono ?_;rintro e w4 ⟨v4,o,rfl,Ha,u,s⟩;obtain⟨Hn,I⟩:=Hm o Ha;rw [Hn,I] at u;have H7:=I;clear Ha Hn I Hm;have Hs:Own w4 w.heap.size v2 (uvF 9 q.length):=M.kept s (fun k z=>(World.ownsRow.lt M k z).2);have Hw:∀k,v2.ownBlock=Uq k ->w.heap.size<=k/\ k<w2.heap.size:=fun k z=>World.ownsRow.lt M k z;have p:=hid Hw;have g4:QaM w4 bm n D G L:=Y.bw s;have Hx:=hid g4;have Hb:Hid (∀r g,(G r).ownBlock=Uq g ->g<w.heap.size):=fun r g A=>((E.rows r).lt g A).2;have S:=hid (R.trans (s.mono oM));have z4:w2.heap.size<=w4.heap.size:=s.size;have T:=hid Hs;clear s M R Y E g4 Hs Hw;rcases u.2 with ⟨rfl,Z⟩|⟨g,cap,Gg,rfl,Gh,A,Gm,H5,H6,Hh⟩
 ·have HE:Hid (QeJ L=uvF 9 q.length):=by show QeJ L=_;rw [W.out,Z];simp [Qgc]
  have H1:=hid u;clear u;go_wp2_with fail;refine wp_loop_rounds 1 ?_;rw [rounds_succ];go_wp2_with fail;go_ret;exact⟨v2,rfl,by rw [HE.out];exact T,S⟩
 have HC:Hid (∀i,i<q.length ->w4.cell? (Ua g i)=Uq (Ud (q.getD i 0))):=Qir u rfl;have Hl:Uq g≠v2.ownBlock:=fun e=>oH ((p g e.symm).2);have Gj:g<w4.heap.size:=(u.lt g rfl).2;unfold maxLen at H5;clear u A H6 Hh;go_wp2_with fail;go_loopw [1,16] (fun b' i wr=>∃(k:Nat) (b:List Int),k<=q.length/\ i=Ud k/\ Hid (Own wr w.heap.size b' b)/\ Hid (b=uvF 9 q.length++Qgc L q k)/\ Hid (Gr w4 wr v2 b')/\ w4.heap.size<=wr.heap.size) (fun _ i _=>q.length - (intOf i).toNat);case atStart=>exact⟨0,_,Uv _,rfl,T,hid (by simp [Qgc]),hid (Gr.refl _ _),Nat.le_refl _⟩
 case round=>
  obtain⟨k,b,z,rfl,Hf,F,N,Gf⟩:=hrel;by_cases X:k<q.length
  ·have C:=Hk (q.getD k 0) (by simp [UR,X]);obtain⟨m,B⟩:∃m:Nat,q.getD k 0=(m:Int):=⟨(q.getD k 0).toNat,oM⟩;have Ho:=N.g.cell (HC k X) Hl;have Gq:b.length<=10+30000*k:=(by rw [F.out];have:=Qij HLen q k;simp;omega);have H0:Hid (Qgc L q (k+1)=Qgc L q k++(uvF 9 m++QkT (L (m:Int)))):=(by show Qgc L q k++Qod L (q.getD k 0)=_;rw [B];rfl);rw [B] at C Ho;have Gl:m<8:=oM;have He:=C.2.2;have x3:IntKind.u64.wrap (m:Int)=(m:Int):=QeO _ oM oM;clear C B;go_wp2_with fail;refine(QaU w.heap.size m u1 b wr oM oM oM Hf).mono ?_;rintro e w5 ⟨v5,rfl,Ht,Hp,Go⟩;have Q:=N.trans Hp;have H:QaM w5 bm n D G L:=Hx.gr Q.g (fun e=>by have:=(p _ e.symm).1;omega) (fun r g A e=>by have:=(p _ e.symm).1;have:=Hb r g A;omega);have Hq:=H.look (m:Int) (wfI oM oM);have U:=H.rows (m:Int);rcases U.2 with ⟨_,Z⟩|⟨O,cs,cu,eG,H9,Ga,Gb,Gc,Gd,Ge⟩
   ·exact absurd (List.eq_nil_of_length_eq_zero Z) He
   have Gi:=Hb (m:Int) O (by rw [eG];rfl);rw [eG] at Hq U;have Hv:=QkD U rfl;have Hc:Uq O≠v5.ownBlock:=fun e=>by
    rcases Q.l with h|⟨j,h,hj⟩
    ·have:=(p O (h▸e.symm)).1;omega
    ·rw [h] at e;injection e with e;omega
   have l5:=(Qah 9 m).1;have Hg:=HSrt (m:Int);have H8:=HLen (m:Int);have Hy:=hid Ht;have Hi:=hid Q;have H2:=hid Hv;have H3:=hid Hg;clear Hv U H Ht Q H9 Ga Gb Gc Gd Ge Hp Ho Hg He;go_wp2_with fail;refine(QgN w.heap.size v5 (b++uvF 9 m) (Uc O) cs (L (m:Int)) w5 oM oS Hy H2 (fun x hx=>by injection hx with hx;subst hx;exact Hc) H3 H8).mono ?_;rintro e w6 ⟨v6,rfl,Hu,K⟩;have Hz:=hid Hu;have Hj:=hid (Hi.trans K);have Gp:=K.g.size;clear Hu K Hq;go_wp2_with fail;go_roundw;case rel=>exact⟨k+1,_,X,oN,Hz,hid (by rw [H0.out,F.out];simp),Hj,oM⟩
   case measure=>exact oE
  ·obtain rfl:k=q.length:=oM;go_wp2_with fail;go_ret;refine⟨_,rfl,?_,S.trans (N.bw oM (fun k z=>oH ((p k z).1)))⟩;rw [W.out,<- F.out];exact Hf
theorem Qa0 (w:Ur)(x y z:Value)(t:TypeId):∀j u,[x,y,z][j]? =Uq u ->(w.alloc (Uj #[x,y,z] t)).cell? (((Ub w.heap.size):Us).add j)=Uq u:=by
 intro j u k;match j,k with
 | 0,k=>simp at k;subst k;simp [Addr.add]
 | 1,k=>simp at k;subst k;simp [Addr.add]
 | 2,k=>simp at k;subst k;simp [Addr.add]
def QaB (r:Int)(l:List (Int×Int)):List Value:=l.flatMap fun p=>[Ud r,Ud p.1,Ud p.2]
theorem QfO (r:Int)(l:List (Int×Int))(p:Int×Int):QaB r (l++[p])=QaB r l++[Ud r,Ud p.1,Ud p.2]:=by simp [QaB]
theorem QaD.at(h:QaD w a n R F T)(hk:k<n):∃b off,a=Uq (Ua b off)/\ b<w.heap.size/\ w.cell? (Ua b (off+k*3))=Uq (Ud (R k))/\ w.cell? (Ua b (off+k*3+1))=Uq (Ud (F k))/\ w.cell? (Ua b (off+k*3+2))=Uq (Ud (T k)):=by
 rcases h with h|⟨b,off,rfl,j,m⟩
 ·omega
 ·exact⟨b,off,rfl,j,m k hk⟩
theorem QpP (a:Option Us)(n c:Nat)(R F T:Nat ->Int)(rep:Int)(w:Ur)(hn:n<=1048576)(h:QaD w a n R F T):
  Cl 122 #[Uo #[Uf a n c],Ud rep] w fun e w'=>∃v,e=Ui v/\ w'.ownsRow w.heap.size 123 3 v (Lk R F T n rep).length (QaB rep (Lk R F T n rep))/\ Bl w w':=by
 obtain⟨i0,hi,Hb,Hc,Hd⟩:=info_parts Tryz.infoRun;obtain⟨L,j⟩:∃L:Nat ->List (Int×Int),(fun k=>Lk R F T k rep)=L:=⟨_,rfl⟩;have E:Lk R F T n rep=L n:=by rw [<- j]
 have U:Hid (L 0=[]):=by show L 0=[];rw [<- j];rfl
 have Z:Hid (∀k,R k=rep ->L (k+1)=L k++[(F k,T k)]):=fun k e=>by
  rw [<- j];show upd _ _ _ _=_;rw [<- e,Qap]
 have Y:Hid (∀k,R k≠rep ->L (k+1)=L k):=fun k e=>by
  rw [<- j];show upd _ _ _ _=_;rw [Qai _ _ (fun h=>e h.symm)]
 have V:Hid (∀k,(L k).length<=k):=fun k=>j▸Qbz R F T k rep;rw [E];clear E j;have Ha:(w.alloc (Uj #[Uf a n c] 38)).cell? (Ub w.heap.size)=Uq (Uf a n c):=oP;go_enter func122,ntmps122;go_wp2_with fail;go_loopw [5,6] (fun v i wr=>∃k:Nat,k<=n/\ i=Ud k/\ Hid (wr.ownsRow (w.heap.size+1) 123 3 v (L k).length (QaB rep (L k)))/\ Hid (Bl w wr)/\ wr.cell? (Ub w.heap.size)=Uq (Uf a n c)/\ w.heap.size+1<=wr.heap.size) (fun _ i _=>n - (intOf i).toNat);case atStart=>
  refine⟨0,Uv _,rfl,?_,hid (Qak _ _ _),oP,oP⟩;rw [U.out];have:=VD (base:=w.heap.size+1) (e:=123) (size:=3) (w.alloc (Uj #[Uf a n c] 38)) #[] 0 oP oL rfl;exact hid (by simpa [QaB] using this)
 case round=>
  obtain⟨k,M,rfl,y,z,p,W⟩:=hrel;by_cases s:k<n
  ·obtain⟨b,off,rfl,hb,C,D,P⟩:=(h.bw z).at s;have Hf:=V k;by_cases q:R k=rep
   ·have N:(R k==rep)=true:=(by simp [q]);have m:=Z k q;subst q;have o:=hid m;have X:Uq w.heap.size≠u5.ownBlock:=fun e=>by have:=(y.lt _ e.symm).1;omega
    clear m;go_wp2_with (at_builtin;refine Qam rfl _ _ 36 rfl (w.heap.size+1) 123 i0 _ 3 24 underlying36 hi Hb Hc Hd rfl oD _ _ _ rfl (y.alloc _) (Ub wr.heap.size) 1 1 [Ud (R k),Ud (F k),Ud (T k)] rfl rfl ?c1 ?c2 ?c3 ?c4 ?c5 ?_);case c1=>exact Qa0 _ _ _ _ _
    case c2=>intro u Q;simp at Q;rcases Q with rfl|rfl|rfl<;>rfl
    case c3=>unfold maxLen;omega
    case c4=>omega
    case c5=>simp;omega
    ·intro v' w1 O t S;have G:Hid (w1.ownsRow (w.heap.size+1) 123 3 v' (L (k+1)).length (QaB (R k) (L (k+1)))):=by
      rw [o.out,QfO,Vg];exact O
     have H:Hid (Bl w w1):=(z.alloc oM _).grown t oS (fun k M=>oH ((y.lt k M).1));have I:w1.cell? (Ub w.heap.size)=Uq (Uf (Uq (Ua b off)) n c):=t.cell (by rw [Below.cell (B:=wr.heap.size) (zO _ _) (show w.heap.size<wr.heap.size by omega)];exact p) X;have J:=t.size;simp at J;clear O t S C D P p;go_wp2_with fail;go_roundw;case rel=>exact⟨k+1,s,oN,G,H,I,oM⟩
     case measure=>exact oE
   ·have N:(R k==rep)=false:=(by simp [q]);have m:=Y k q;have o:=hid m;clear m;go_wp2_with fail;go_roundw;case rel=>exact⟨k+1,s,oN,by rw [o.out];exact y,z,p,W⟩
    case measure=>exact oE
  ·obtain rfl:k=n:=oM;go_wp2_with fail;go_ret;refine⟨_,rfl,?_,z⟩;obtain⟨q1,A⟩:=y.out;refine⟨q1,?_⟩;rcases A with A|⟨g,cap,K,rfl,He,r⟩
   ·exact .inl A
   ·exact .inr ⟨g,cap,K,rfl,oM,r⟩
theorem QaT (m:Nat)(w:Ur)(hm:m<=1000000000):
  Cl 123 #[Ud (m:Int)] w fun e w'=>∃v,e=Ui v/\ Own w' w.heap.size v (uvF 9 m)/\ Bl w w'/\ w.heap.size<w'.heap.size:=by
 have r:IntKind.u64.wrap (m:Int)=(m:Int):=QeO _ oM oM;go_enter func123,ntmps123;go_wp2_with fail;refine(QmO 9 m w zL (show m<128^(9+1) by omega) oM).mono ?_;rintro e w1 ⟨v,rfl,k,j,q⟩;go_wp2_with fail;go_ret;exact⟨v,rfl,k,j,q⟩
theorem QqO (B B':Nat)(v x:Value)(zs ns:List Int)(w:Ur)(ho:Own w B v zs)(hx:Own w B' x ns)(hxn:x.ownBlock≠Up)(hB:B<=w.heap.size)(hl:zs.length+ns.length<=1000000000):
  ∃v' w',(Builtin.append_ #[30,30] 30 #[v,x]).run prog w=.ok v' w'/\ Own w' B v' (zs++ns)/\ Gr w w' v v'/\ (v.ownBlock≠Up ->v'.ownBlock≠Up):=by
 have m:w.ownsRow B' 5 1 x ns.length (ns.map (Value.int .u8)):=hx;rcases m.2 with ⟨rfl,_⟩|⟨g,cap,u,rfl,_⟩
 ·exact absurd rfl hxn
 obtain⟨v',w',q,r,j⟩:=QcQ B v zs ns (Ub g) ns.length cap w ho rfl (World.ownsRow.cells m rfl) hB oM;refine⟨v',w',q,r,j,fun hv=> ?_⟩;rcases j.l with e|⟨k,e,_⟩
 ·rw [e];exact hv
 ·rw [e];simp
theorem Qkt(h:Own w B v zs)(hz:0<zs.length):v.ownBlock≠Up:=by
 obtain⟨m,j⟩:=h;rcases j with ⟨_,j⟩|⟨g,cap,k,rfl,_⟩
 ·omega
 ·simp [Value.ownBlock]
theorem QmY (l:List Lf)(f:Nat)(p:List ByteArray):0<(tB l (f+1) p).length:=by
 rw [QfV,Vg];have:=(Qah 9 (kS l p l.length).length).2;omega
theorem QjN (l:List Lf)(p:List ByteArray)(k:Nat):∀j,k<=j ->kS l p k <+:kS l p j
 | 0,h=>by rw [show k=0 by omega];exact Vv _
 | j+1,h=>by
  by_cases e:k=j+1
  ·rw [e];exact Vv _
  ·have m:=QjN l p k j oM;cases h1:nx p (gL l j) with
   | none=>rw [QcD h1];exact m
   | some y=>
    rw [QcE h1];split
    ·exact m
    ·exact m.trans (List.prefix_append _ _)
theorem QhQ {α:Type}(f:α ->List Int){a b:List α}(h:a <+:b):(a.flatMap f).length<=(b.flatMap f).length:=by
 obtain⟨c,rfl⟩:=h;rw [Vw,Vg];omega
structure Bd (w wr:Ur)(body:Value)(zs:List Int):Prop where
 b:Bl w wr
 o:Own wr w.heap.size body zs
 n:body.ownBlock≠Up
theorem Bd.keep(h:Bd w wr body zs)(hb:Bl wr w1):Bd w w1 body zs:=
 ⟨h.b.trans (hb.mono h.b.size),Own.kept h.o hb (fun k hk=>(World.ownsRow.lt h.o k hk).2),h.n⟩
theorem Bd.app(h:Bd w wr body zs)(hb:Bl wr w1)(ho:Own w1 wr.heap.size v ns)(hz:0<ns.length)(hl:zs.length+ns.length<=1000000000):
  ∃v' w2,(Builtin.append_ #[30,30] 30 #[body,v]).run prog w1=.ok v' w2/\ Bd w w2 v' (zs++ns):=by
 have j:=h.keep hb;obtain⟨v',w2,e,r,m,q⟩:=QqO w.heap.size wr.heap.size body v zs ns w1 j.o ho (Qkt ho hz) j.b.size hl;exact⟨v',w2,e,j.b.trans (m.bw j.b.size (fun k hk=>(World.ownsRow.lt j.o k hk).1)),r,q h.n⟩
theorem Bd.byte(h:Bd w wr body zs)(Y:Int)(hl:zs.length<=1000000000):
  ∃v' w2,(Builtin.append_ #[30,30] 30 #[body,Uf (Uc wr.heap.size) 1 1]).run prog (wr.alloc (Uj #[Ug .u8 Y] 5))=.ok v' w2/\ Bd w w2 v' (zs++[Y]):=by
 have r:Bl wr (wr.alloc (Uj #[Ug .u8 Y] 5)):=zO _ _;have j:=h.keep r;obtain⟨v',w2,e,v,q⟩:=QcQ w.heap.size body zs [Y] (Ub wr.heap.size) 1 1 (wr.alloc (Uj #[Ug .u8 Y] 5)) j.o rfl (fun i u hu=>cell_one_new _ _ _ i u hu) j.b.size oM;refine⟨v',w2,e,j.b.trans (q.bw j.b.size (fun k hk=>(World.ownsRow.lt j.o k hk).1)),v,?_⟩;rcases q.l with m|⟨k,m,_⟩
 ·rw [m];exact h.n
 ·rw [m];simp
theorem Qnw{p:List ByteArray}{i e J:Nat}{y:Ky}(hlv:QbU R F T n l l.length)(hI:Iv l p i e)(hij:i<=J)(hfr:y ∉ kS l p J)(h1:1<=g)(hge:J+g<=e)(hy:Qas (gL l J).p (kd (gL l J).fl) p.length=y)(hsame:∀t,t<g ->Qas (gL l (J+t)).p (kd (gL l (J+t)).fl) p.length=y)(hdiff:J+g<e ->Qas (gL l (J+g)).p (kd (gL l (J+g)).fl) p.length≠y):
  kS l p (J+g)=kS l p J++[y]/\ dsK l p y l.length=((UT g).map fun t=>gL l (J+t))/\ (∀s,y=(s,3) ->Iv l (p++[s]) J (J+g))/\∀z,nx p (gL l (J+g))=Uq z ->J+g<e ->z ∉ kS l p (J+g):=by
 have q:=hI.2.2;have j:∀t,t<g ->nx p (gL l (J+t))=Uq y:=fun t ht=>by
  rw [Qbh];exact⟨QfG.1 ((hI.1 (J+t) oM).2 oM),hsame t ht⟩
 have m:J+g<e ->nx p (gL l (J+g))≠Uq y:=fun hlt he=>by
  rw [Qbh] at he;exact hdiff hlt he.2
 have k:=Qlq hlv hI hij hfr h1 hge j m;refine⟨?_,Qlo k oM,fun s es=>by subst es;exact Qnx k oM,fun z hz hlt=>Qlp hlv hI hfr h1 hge j m hlt hz⟩;have:=Qf2 hfr j (g - 1) oM;rwa [show J+(g - 1+1)=J+g by omega] at this
theorem Bd.made (w:Ur):Bd w (w.alloc (Uj #[] 5)) (Uf (Uc w.heap.size) 0 0) []:=by
 refine⟨zO _ _,?_,by simp [Value.ownBlock]⟩;have:=VD (base:=w.heap.size) (e:=5) (size:=1) w #[] 0 oM oL rfl;simpa [Own] using this
theorem Bd.front{u:Value}(h:Bd w wr body zs)(hb:Bl wr w1)(ho:Own w1 wr.heap.size u ns)(hl:ns.length+zs.length<=1000000000):
  ∃v' w2,(Builtin.append_ #[30,30] 30 #[u,body]).run prog w1=.ok v' w2/\ Own w2 w.heap.size v' (ns++zs)/\ Bl w w2:=by
 have j:=h.keep hb;have m:=Own.weak ho h.b.size;obtain⟨v',w2,e,r,q,v⟩:=QqO w.heap.size w.heap.size u body ns zs w1 m j.o h.n j.b.size hl;exact⟨v',w2,e,r,j.b.trans (q.bw j.b.size (fun k hk=>(World.ownsRow.lt m k hk).1))⟩
structure Lp (l:List Lf)(p:List ByteArray)(w:Ur)(J M:Nat)(a:Option Us)(c:Nat):Prop where
 c1:M<=c
 c2:c<=9223372036854775807
 a1:0<M ->∃b o,a=Uq (Ua b o)/\ LAt w b o l J M
 fr:0<M ->∀y,nx p (gL l J)=Uq y ->y ∉ kS l p J
def Qoe:Value ->Nat
 | Uf _ n _=>n
 | _=>0
theorem QiE(l:List Lf)(hlv:QbU R F T n l l.length)(hbd:LvB l)(f:Nat)(p:List ByteArray)(hpf:p.length+(f+1)=8)
  (ih:∀(s:ByteArray),1<=f ->∀(i m c:Nat) (a:Option Us) (w:Ur),m<=c ->c<=9223372036854775807 ->Iv l (p++[s]) i (i+m) ->(0<m ->∃b off,a=Uq (Ua b off)/\ LAt w b off l i m) ->(tB l f (p++[s])).length<=90000000 ->
   Cl 98 #[Uf a m c,Ud ((p++[s]).length:Int)] w fun e w'=>∃v,e=Ui v/\ Own w' w.heap.size v (tB l f (p++[s]))/\ Bl w w')
  (i m c:Nat) (a:Option Us) (w:Ur) (hmc:m<=c) (hcm:c<=9223372036854775807) (hI:Iv l p i (i+m)) (hL:0<m ->∃b off,a=Uq (Ua b off)/\ LAt w b off l i m) (hl:(tB l (f+1) p).length<=90000000):
  Cl 98 #[Uf a m c,Ud (p.length:Int)] w fun e w'=>∃v,e=Ui v/\ Own w' w.heap.size v (tB l (f+1) p)/\ Bl w w':=by
  obtain⟨TB,Gm⟩:=zE (tB l (f+1) p);rw [Gm] at hl ⊢;have Gj:Hid (uvF 9 (kS l p l.length).length++(kS l p l.length).flatMap (kB l f p)=TB):=hid (by rw [<- Gm,QfV]);have Hl:=hid hI;have HL:=hid hL;obtain⟨d,hd⟩:=zE p.length;have HD:=hid hd;have G7:Hid (∀(s:ByteArray),1<=f ->∀(i m c:Nat) (a:Option Us) (w:Ur),m<=c ->c<=9223372036854775807 ->Iv l (p++[s]) i (i+m) ->(0<m ->∃b off,a=Uq (Ua b off)/\ LAt w b off l i m) ->(tB l f (p++[s])).length<=90000000 ->
   Cl 98 #[Uf a m c,Ud ((d:Int)+1)] w fun e w'=>∃v,e=Ui v/\ Own w' w.heap.size v (tB l f (p++[s]))/\ Bl w w'):=hid (fun s hf i m c a w j k G h4 h5=>by
    have:=ih s hf i m c a w j k G h4 h5;rw [show (((p++[s]).length:Nat):Int)=(d:Int)+1 by simp;omega] at this;exact this)
  rw [hd] at hpf ⊢;have Ke:m<=1000:=oJ hI.2 hbd.len;clear Gm hI hL hd ih;go_enter func98,ntmps98;go_wp2_with fail;go_loopw [0,5,6] (fun lv cv bd wr=>∃(J M c':Nat) (a':Option Us),Hid (i<=J/\ J+M=i+m)/\ lv=Uf a' M c'/\ cv=Ud ((kS l p J).length:Nat)/\ Hid (Lp l p w J M a' c')/\ Hid (Bd w wr bd ((kS l p J).flatMap (kB l f p)))) (fun lv _ _ _=>Qoe lv);case atStart=>
   have e:=Hl.start i zL;refine⟨i,m,c,a,hid ⟨Nat.le_refl _,rfl⟩,rfl,by rw [e];rfl,hid ⟨hmc,hcm,HL,fun _ y _=>by rw [e];simp⟩,hid ?_⟩;rw [e];exact Bd.made w
  case round=>
   obtain⟨J,M,c',a',u,rfl,rfl,Hu,Hh⟩:=hrel;clear HL;by_cases Gg:0<M
   ·obtain⟨b,o,rfl,H5⟩:=Hu.a1 Gg;have Hy:=hid H5;have hM:M<=1000:=oH u;have Hk:Hid (i+m<=l.length/\ l.length<=1000):=hid ⟨Hl.2.2,hbd.len⟩;have HP:Hid (∀t,t<M ->d<(gL l (J+t)).p.length/\ (gL l (J+t)).p.length<=8):=hid (fun t ht=>by
     have hJ:=u.out;have he:=Hk.out;have j:=QfG.1 ((Hl.1 (J+t) oM).2 oM);rw [HD.out] at j;exact⟨j.2,(hlv (J+t) oM).1.1.2.1⟩)
    have Hx:=HP 0 Gg;have G8:Hid (Qc0 (gL l J)):=hid ((hlv J (oJ u Hk)).1);obtain⟨qa,qc,h0,hs,j,k,G,h4⟩:=H5.2 0 Gg;simp only [Nat.add_zero,Nat.zero_mul] at h0 hs j k G h4 Hx;rcases hs with hs|⟨kb,ko,rfl,G3,G4⟩
    ·omega
    have h5:=G4 d Hx.1;have Hw:=H5.1;have Gc:=hid (Hu.fr Gg);have Hz:Hid (nx p (gL l J)=Uq (Qas (gL l J).p (kd (gL l J).fl) d)):=hid (by
     have hJ:=u.out;have he:=Hk.out;have j:=QfG.1 ((Hl.1 J oM).2 oM);rw [Qbh];exact⟨j,by rw [HD.out]⟩)
    have Gq:(gS (gL l J).p d).size<=40:=(G8.1.2.2 d Hx.1).2;have Hq:=hid (Ql1 l b o J M c' d wr oM oM oM (fun t ht=>oH (HP t ht)) (H5.bw Hh.b));have Gf:Hid (Qas (gL l J).p (kd (gL l J).fl) d=(gS (gL l J).p d,kAt d (gL l J).p.length (gL l J).fl)):=hid rfl;have Ge:Hid (kAt d (gL l J).p.length (gL l J).fl=1 \/kAt d (gL l J).p.length (gL l J).fl=2 \/(kAt d (gL l J).p.length (gL l J).fl=3/\ 1<=f)):=hid (by
     unfold kAt;split
     ·exact .inr (.inr ⟨rfl,oM⟩)
     ·rcases Qhi (gL l J).fl with h|h
      ·exact .inl h
      ·exact .inr (.inl h))
    have L:Hid ((kS l p J).length<=1000/\ ((kS l p J).flatMap (kB l f p)).length<=90000000):=hid ⟨by have:=Qff l p J;have hJ:=u.out;have he:=Hk.out;omega,by
     have j:=QhQ (kB l f p) (QjN l p J l.length (by have hJ:=u.out;have he:=Hk.out;omega));have k:TB.length<=90000000:=hl;rw [<- Gj.out,Vg] at k;omega⟩
    have Hr:Hid (∀g,1<=g ->g<=M ->(∀t,t<g ->Qas (gL l (J+t)).p (kd (gL l (J+t)).fl) d=Qas (gL l J).p (kd (gL l J).fl) d) ->(g<M ->Qas (gL l (J+g)).p (kd (gL l (J+g)).fl) d≠Qas (gL l J).p (kd (gL l J).fl) d) ->
      kS l p (J+g)=kS l p J++[Qas (gL l J).p (kd (gL l J).fl) d]/\ dsK l p (Qas (gL l J).p (kd (gL l J).fl) d) l.length=((UT g).map fun t=>gL l (J+t))/\ (∀s,Qas (gL l J).p (kd (gL l J).fl) d=(s,3) ->Iv l (p++[s]) J (J+g))/\ (g<M ->∀z,nx p (gL l (J+g))=Uq z ->z ∉ kS l p (J+g))/\ ((kS l p (J+g)).flatMap (kB l f p)).length<=90000000):=hid (fun g g1 g2 g3 g4=>by
     have hJ:=u.out;have he:=Hk.out;have Go:=HD.out;obtain⟨r1,r2,r3,r4⟩:=Qnw hlv Hl hJ.1 (Gc _ Hz) g1 oM (by rw [Go]) (by rw [Go];exact g3) (by rw [Go];exact fun h=>g4 oM);refine⟨r1,r2,r3,fun h z hz=>r4 z hz oM,?_⟩;have j:=QhQ (kB l f p) (QjN l p (J+g) l.length oM);have k:TB.length<=90000000:=hl;rw [<- Gj.out,Vg] at k;omega)
    have Gd:Hid (∀t,t<M ->∃r q:Nat,∃v,r<=7/\ q<=1000000000/\ v.size<=200/\ (∀Y:Int,lfB Y (gL l (J+t))=uvF 9 r++(uvF 9 q++if Y=1 then Qae v else []))/\∀w',Bl w w' ->w'.cell? (Ua b (o+t*5+2))=Uq (Ud (r:Int))/\ w'.cell? (Ua b (o+t*5+3))=Uq (Ud (q:Int))/\ w'.cell? (Ua b (o+t*5+4))=Uq (Um v)):=hid (fun t ht=>by
     have hJ:=u.out;have he:=Hk.out;have hr:=hbd.rep (J+t) oM;have hq:=hbd.seq (J+t) oM;have hv:=hbd.val (J+t) oM;refine⟨(gL l (J+t)).r.toNat,(gL l (J+t)).q.toNat,(gL l (J+t)).v,oM,oM,hv,fun Y=>rfl,fun w' hb'=> ?_⟩;obtain⟨_,_,_,_,_,U,V,Z⟩:=(Hy.bw hb').2 t ht;refine⟨?_,?_,Z⟩
     ·rw [U];congr 2;omega
     ·rw [V];congr 2;omega)
    obtain⟨x,hx⟩:=zE (gL l J);rw [hx] at h0 j k G h4 h5 Hx Gq Gf Ge Hz Hr Hq;clear hx;obtain⟨xp,A,xr,xq,xv⟩:=x;dsimp only at h0 j k G h4 h5 Hx Gq Gf Ge Hz Hr Hq;rw [Gf.out] at Hz Hr Hq;obtain⟨s,Gp⟩:=zE (gS xp d);obtain⟨pn,Gh⟩:=zE xp.length;obtain⟨Y,hY⟩:=zE (kAt d pn A);rw [Gp,Gh,hY] at Hz Hr Hq;rw [Gh,hY] at Ge;rw [Gp] at Gq h5;rw [Gh] at h0 Hx;have G9:=hid hY;clear Gp Gh hY Gf G4 H5;have HC:Hid (∀w',Bl w w' ->w'.cell? (Ua b o)=Uq (Uf (Uq (Ua kb ko)) pn qc)/\ w'.cell? (Ua b (o+1))=Uq (Un A)/\ w'.cell? (Ua b (o+2))=Uq (Ud xr)/\ w'.cell? (Ua b (o+3))=Uq (Ud xq)/\ w'.cell? (Ua b (o+4))=Uq (Um xv)/\ w'.cell? (Ua kb (ko+d))=Uq (Um s)):=hid (fun w' hB=>⟨(hB.cell (p:=(Ua b _)) Hw).trans h0,(hB.cell (p:=(Ua b _)) Hw).trans j,(hB.cell (p:=(Ua b _)) Hw).trans k,(hB.cell (p:=(Ua b _)) Hw).trans G,(hB.cell (p:=(Ua b _)) Hw).trans h4,(hB.cell (p:=(Ua kb _)) G3).trans h5⟩);clear h0 j k G h4 h5 Hw G3;obtain⟨cn,He⟩:=zE ((kS l p J).length);obtain⟨zs,Hf⟩:=zE ((kS l p J).flatMap (kB l f p));rw [He,Hf] at L;rw [Hf] at Hh;have Hp:=hid He;have Hv:=hid Hf;have Gn:=L.1;simp only [He];have Kd:M<=c':=Hu.c1;have Ka:c'<=9223372036854775807:=Hu.c2;clear He Hf Hu;go_wp2_with fail;refine Hq.mono ?_;rintro e w1 ⟨⟨g,rfl,g1,g2,g3,g4⟩,b1⟩;have E:=hid (Hr g g1 g2 g3 g4);have Hi:=hid (Hh.keep b1);obtain⟨q0,q1,q2,q3,q4,q5⟩:=HC w1 Hi.b;clear Hr g3 g4 Hh Hq b1;go_wp2_with fail;refine(Qhm (Uq (Ua kb ko)) pn qc A xr xq xv d w1 oM oM).mono ?_;rintro e w2 ⟨rfl,b2⟩;rw [G9.out];have Hj:=hid (Hi.keep b2);clear q0 q1 q2 q3 q4 q5 Hi b2;obtain⟨q0,q1,q2,q3,q4,q5⟩:=HC w2 Hj.b;go_wp2_with fail;refine(Qiv s w2 oM).mono ?_;rintro e w3 ⟨v3,rfl,o3,b3,z3⟩;have Gs:=QaL s;obtain⟨v4,w4,N,Gz⟩:=Hj.app b3 o3 (by unfold Qae;have:=(Qah 9 s.size).2;rw [Vg];omega) (oH L.2);have Hb:=hid Gz;clear q0 q1 q2 q3 q4 q5 Hj b3 o3 z3 Gz;have Ht:Hid ((zs++Qae s).length<=90000050):=hid (by have:=L.2;rw [Vg];omega);rcases Ge.out with rfl|rfl|⟨rfl,hf⟩
    ·have Hs:Hid (kB l f p (s,1)=Qae s++([1]++(uvF 9 g++(UT g).flatMap fun t=>lfB 1 (gL l (J+t))))):=hid (by unfold kB;rw [if_neg (show¬(1:Int)=3 by decide),E.2.1];unfold mB;simp [Vx]);obtain⟨v5,w5,Ha,Hc⟩:=Hb.byte 1 (oH Ht);have K:=hid Hc;have Hm:Hid ((zs++Qae s++[1]).length<=90000051):=hid (by have:=Ht.out;rw [Vg];simp;simpa using this);clear Hc Hb Gs;go_wp2_with (at_builtin;first|(refine Qac rfl _ _ _ _ rfl N (by rfl) (by rfl) rfl ?_;clear N)|(refine Qac rfl _ _ _ _ rfl Ha (by rfl) (by rfl) rfl ?_;clear Ha));refine(QaT g w5 oM).mono ?_;rintro e w6 ⟨v6,rfl,o6,W,z6⟩;have H8:=Qah 9 g;obtain⟨v7,w7,I,Hd⟩:=K.app W o6 H8.2 (oH Hm);have H:=hid Hd;obtain⟨Q,B⟩:=zE (zs++Qae s++[1]++uvF 9 g);have Gl:=hid B;have Gi:Hid (Q.length<=90000070):=hid (by rw [<- B,Vg];have:=Hm.out;omega);rw [B] at H;clear B Hd o6 W z6 H8 K;go_wp2_with (at_builtin;refine Qac rfl _ _ _ _ rfl I (by rfl) (by rfl) rfl ?_;clear I);go_loopw [6,9] (fun bd iv wr=>∃t:Nat,t<=g/\ iv=Ud t/\ Hid (Bd w wr bd (Q++(UT t).flatMap fun t=>lfB 1 (gL l (J+t))))) (fun _ iv _=>g - (intOf iv).toNat);case atStart=>exact⟨0,Uv _,rfl,hid (oU H)⟩
     case round=>
      obtain⟨t,ht,rfl,O⟩:=hrel;clear H;by_cases Gr:t<g
      ·obtain⟨r,q,v,hr,hq,hv,X,Hn⟩:=Gd t oM;have HK:=hid Hn;obtain⟨U,V,Z⟩:=Hn _ O.b;clear Hn;have H0:Hid (Q++((UT (t+1)).flatMap fun t=>lfB 1 (gL l (J+t)))=Q++((UT t).flatMap fun t=>lfB 1 (gL l (J+t)))++(uvF 9 r++(uvF 9 q++Qae v))):=hid (by rw [Vq,Vw];simp [X]);have S:Hid ((Q++(UT t).flatMap fun t=>lfB 1 (gL l (J+t))).length<=90000070+230*1000):=hid (by
        have k:=Qcu (fun t=>lfB 1 (gL l (J+t))) (fun _=>1) 230 (UT t) (fun z hz=>by
         have Kb:=List.mem_range.1 hz;obtain⟨r,q,v,hr,hq,hv,X,_⟩:=Gd z oM;have a1:=(Qah 9 r).1;have a2:=(Qah 9 q).1;have a3:=QaL v;rw [X];simp only [Vg];split
         ·omega
         ·simp;omega)
        have G:∀ls:List Nat,(ls.map fun _=>1).sum=ls.length:=fun ls=>by
         induction ls with
         | nil=>rfl
         | cons a r ih=>simp only [Vm,Vs,ih,Vh];omega
        rw [G,Vy] at k;have:=Gi.out;rw [Vg];omega)
       obtain⟨us,H9⟩:=zE (Q++((UT t).flatMap fun t=>lfB 1 (gL l (J+t))));rw [H9] at O H0 S;clear H9 X;have Gu:=Qah 9 r;have Gt:=Qah 9 q;go_wp2_with fail;refine(QaT r _ oM).mono ?_;rintro e y1 ⟨u1,rfl,Ga,H1,Gv⟩;obtain⟨u2,y2,H6,H3⟩:=O.app H1 Ga Gu.2 (oH S);have Hg:=hid H3;clear H3 H1 Ga Gv O U V Z;obtain⟨U,V,Z⟩:=HK _ Hg.b;go_wp2_with (at_builtin;refine Qac rfl _ _ _ _ rfl H6 (by rfl) (by rfl) rfl ?_;clear H6);refine(QaT q _ oM).mono ?_;rintro e y3 ⟨u3,rfl,Gb,H2,Gw⟩;obtain⟨u4,y4,H7,H4⟩:=Hg.app H2 Gb Gt.2 (by have:=S.out;rw [Vg];omega);have Ho:=hid H4;clear H4 H2 Gb Gw Hg U V Z;obtain⟨U,V,Z⟩:=HK _ Ho.b;go_wp2_with (at_builtin;refine Qac rfl _ _ _ _ rfl H7 (by rfl) (by rfl) rfl ?_;clear H7);refine(Qiv v _ oM).mono ?_;rintro e y5 ⟨u5,rfl,G5,Gy,Kc⟩;have Kf:=QaL v;obtain⟨u6,y6,G1,G0⟩:=Ho.app Gy G5 (by unfold Qae;have:=(Qah 9 v.size).2;rw [Vg];omega) (by have:=S.out;rw [Vg,Vg];omega);have G6:=hid G0;clear G0 Gy G5 Kc Ho U V Z;go_wp2_with (at_builtin;refine Qac rfl _ _ _ _ rfl G1 (by rfl) (by rfl) rfl ?_;clear G1);go_roundw;case rel=>exact⟨t+1,Gr,oN,hid (by rw [H0.out];simpa using G6.out)⟩
       case measure=>exact oE
      ·obtain rfl:g=t:=oM;have P:Hid (Bd w wr u6 ((kS l p (J+g)).flatMap (kB l f p))):=hid (by rw [E.1,Vw,Hv.out];simp only [Vz,VA,VC];rw [Hs.out];simpa [<- Gl.out] using O.out);have C:Hid ((kS l p (J+g)).length=cn+1):=hid (by rw [E.1,Vg,Hp.out];rfl);have D:Hid (0<M - g ->∀y,nx p (gL l (J+g))=Uq y ->y ∉ kS l p (J+g)):=hid (fun h=>E.2.2.2.1 oM);clear O Hv Hp Gc;by_cases G2:g<c'
       ·go_wp2_with fail;go_roundw;case rel=>exact⟨J+g,M - g,c' - g,Uq (Ua b (o+g*5)),hid (oH u),by first|rfl|rw [if_neg oM],by rw [C.out];go_num,hid ⟨oM,oM,fun h=>⟨b,_,rfl,Hy.drop g2⟩,D⟩,P⟩
        case measure=>simp [Qoe];omega
       ·go_wp2_with fail;go_roundw;case rel=>exact⟨J+g,M - g,c' - g,Uq (Ua b o),hid (oH u),by first|rfl|rw [if_pos oM],by rw [C.out];go_num,hid ⟨oM,oM,fun h=>oM,D⟩,P⟩
        case measure=>simp [Qoe];omega
    ·have Hs:Hid (kB l f p (s,2)=Qae s++([2]++(uvF 9 g++(UT g).flatMap fun t=>lfB 2 (gL l (J+t))))):=hid (by unfold kB;rw [if_neg (show¬(2:Int)=3 by decide),E.2.1];unfold mB;simp [Vx]);obtain⟨v5,w5,Ha,Hc⟩:=Hb.byte 2 (oH Ht);have K:=hid Hc;have Hm:Hid ((zs++Qae s++[2]).length<=90000051):=hid (by have:=Ht.out;rw [Vg];simp;simpa using this);clear Hc Hb Gs;go_wp2_with (at_builtin;first|(refine Qac rfl _ _ _ _ rfl N (by rfl) (by rfl) rfl ?_;clear N)|(refine Qac rfl _ _ _ _ rfl Ha (by rfl) (by rfl) rfl ?_;clear Ha));refine(QaT g w5 oM).mono ?_;rintro e w6 ⟨v6,rfl,o6,W,z6⟩;have H8:=Qah 9 g;obtain⟨v7,w7,I,Hd⟩:=K.app W o6 H8.2 (oH Hm);have H:=hid Hd;obtain⟨Q,B⟩:=zE (zs++Qae s++[2]++uvF 9 g);have Gl:=hid B;have Gi:Hid (Q.length<=90000070):=hid (by rw [<- B,Vg];have:=Hm.out;omega);rw [B] at H;clear B Hd o6 W z6 H8 K;go_wp2_with (at_builtin;refine Qac rfl _ _ _ _ rfl I (by rfl) (by rfl) rfl ?_;clear I);go_loopw [6,9] (fun bd iv wr=>∃t:Nat,t<=g/\ iv=Ud t/\ Hid (Bd w wr bd (Q++(UT t).flatMap fun t=>lfB 2 (gL l (J+t))))) (fun _ iv _=>g - (intOf iv).toNat);case atStart=>exact⟨0,Uv _,rfl,hid (oU H)⟩
     case round=>
      obtain⟨t,ht,rfl,O⟩:=hrel;clear H;by_cases Gr:t<g
      ·obtain⟨r,q,v,hr,hq,hv,X,Hn⟩:=Gd t oM;have HK:=hid Hn;obtain⟨U,V,Z⟩:=Hn _ O.b;clear Hn;have H0:Hid (Q++((UT (t+1)).flatMap fun t=>lfB 2 (gL l (J+t)))=Q++((UT t).flatMap fun t=>lfB 2 (gL l (J+t)))++(uvF 9 r++uvF 9 q)):=hid (by rw [Vq,Vw];simp [X]);have S:Hid ((Q++(UT t).flatMap fun t=>lfB 2 (gL l (J+t))).length<=90000070+230*1000):=hid (by
        have k:=Qcu (fun t=>lfB 2 (gL l (J+t))) (fun _=>1) 230 (UT t) (fun z hz=>by
         have Kb:=List.mem_range.1 hz;obtain⟨r,q,v,hr,hq,hv,X,_⟩:=Gd z oM;have a1:=(Qah 9 r).1;have a2:=(Qah 9 q).1;have a3:=QaL v;rw [X];simp only [Vg];split
         ·omega
         ·simp;omega)
        have G:∀ls:List Nat,(ls.map fun _=>1).sum=ls.length:=fun ls=>by
         induction ls with
         | nil=>rfl
         | cons a r ih=>simp only [Vm,Vs,ih,Vh];omega
        rw [G,Vy] at k;have:=Gi.out;rw [Vg];omega)
       obtain⟨us,H9⟩:=zE (Q++((UT t).flatMap fun t=>lfB 2 (gL l (J+t))));rw [H9] at O H0 S;clear H9 X;have Gu:=Qah 9 r;have Gt:=Qah 9 q;go_wp2_with fail;refine(QaT r _ oM).mono ?_;rintro e y1 ⟨u1,rfl,Ga,H1,Gv⟩;obtain⟨u2,y2,H6,H3⟩:=O.app H1 Ga Gu.2 (oH S);have Hg:=hid H3;clear H3 H1 Ga Gv O U V Z;obtain⟨U,V,Z⟩:=HK _ Hg.b;go_wp2_with (at_builtin;refine Qac rfl _ _ _ _ rfl H6 (by rfl) (by rfl) rfl ?_;clear H6);refine(QaT q _ oM).mono ?_;rintro e y3 ⟨u3,rfl,Gb,H2,Gw⟩;obtain⟨u4,y4,H7,H4⟩:=Hg.app H2 Gb Gt.2 (by have:=S.out;rw [Vg];omega);have Ho:=hid H4;clear H4 H2 Gb Gw Hg U V Z;obtain⟨U,V,Z⟩:=HK _ Ho.b;go_wp2_with (at_builtin;refine Qac rfl _ _ _ _ rfl H7 (by rfl) (by rfl) rfl ?_;clear H7);go_roundw;case rel=>exact⟨t+1,Gr,oN,hid (by rw [H0.out];simpa using Ho.out)⟩
       case measure=>exact oE
      ·obtain rfl:g=t:=oM;have P:Hid (Bd w wr u6 ((kS l p (J+g)).flatMap (kB l f p))):=hid (by rw [E.1,Vw,Hv.out];simp only [Vz,VA,VC];rw [Hs.out];simpa [<- Gl.out] using O.out);have C:Hid ((kS l p (J+g)).length=cn+1):=hid (by rw [E.1,Vg,Hp.out];rfl);have D:Hid (0<M - g ->∀y,nx p (gL l (J+g))=Uq y ->y ∉ kS l p (J+g)):=hid (fun h=>E.2.2.2.1 oM);clear O Hv Hp Gc;by_cases G2:g<c'
       ·go_wp2_with fail;go_roundw;case rel=>exact⟨J+g,M - g,c' - g,Uq (Ua b (o+g*5)),hid (oH u),by first|rfl|rw [if_neg oM],by rw [C.out];go_num,hid ⟨oM,oM,fun h=>⟨b,_,rfl,Hy.drop g2⟩,D⟩,P⟩
        case measure=>simp [Qoe];omega
       ·go_wp2_with fail;go_roundw;case rel=>exact⟨J+g,M - g,c' - g,Uq (Ua b o),hid (oH u),by first|rfl|rw [if_pos oM],by rw [C.out];go_num,hid ⟨oM,oM,fun h=>oM,D⟩,P⟩
        case measure=>simp [Qoe];omega
    ·have Hs:Hid (kB l f p (s,3)=Qae s++([3]++tB l f (p++[s]))):=hid (by unfold kB;rw [if_pos rfl]);have Gk:Hid ((tB l f (p++[s])).length<=90000000/\ 0<(tB l f (p++[s])).length):=hid ⟨by
      have j:=E.2.2.2.2;rw [E.1,Vw,Vg] at j;simp only [Vz,VA,VC] at j;rw [Hs.out] at j;simp only [Vg] at j;omega,by
      obtain⟨f',rfl⟩:∃f',f=f'+1:=⟨f - 1,oM⟩;exact QmY _ _ _⟩
     obtain⟨v5,w5,Ha,Hc⟩:=Hb.byte 3 (oH Ht);have K:=hid Hc;have Hm:Hid ((zs++Qae s++[3]).length<=90000051):=hid (by have:=Ht.out;rw [Vg];simp;simpa using this);clear Hc Hb Gs;go_wp2_with (at_builtin;first|(refine Qac rfl _ _ _ _ rfl N (by rfl) (by rfl) rfl ?_;clear N)|(refine Qac rfl _ _ _ _ rfl Ha (by rfl) (by rfl) rfl ?_;clear Ha));refine(G7 s hf J g c' (Uq (Ua b o)) w5 oM Ka (E.2.2.1 s rfl) (fun _=>⟨b,o,rfl,(Hy.take g2).bw K.b⟩) Gk.1).mono ?_;rintro e w6 ⟨v6,rfl,o6,W⟩;obtain⟨v7,w7,I,Hd⟩:=K.app W o6 Gk.2 (oJ Hm Gk.1);have H:=hid Hd;clear Hd o6 W K;have P:Hid (Bd w w7 v7 ((kS l p (J+g)).flatMap (kB l f p))):=hid (by rw [E.1,Vw,Hv.out];simp only [Vz,VA,VC];rw [Hs.out];simpa [Vu] using H.out);have C:Hid ((kS l p (J+g)).length=cn+1):=hid (by rw [E.1,Vg,Hp.out];rfl);have D:Hid (0<M - g ->∀y,nx p (gL l (J+g))=Uq y ->y ∉ kS l p (J+g)):=hid (fun h=>E.2.2.2.1 oM);clear H Hv Hp Gc;by_cases G2:g<c'
     ·go_wp2_with (at_builtin;refine Qac rfl _ _ _ _ rfl I (by rfl) (by rfl) rfl ?_;clear I);go_roundw;case rel=>exact⟨J+g,M - g,c' - g,Uq (Ua b (o+g*5)),hid (oH u),by first|rfl|rw [if_neg oM],by rw [C.out];go_num,hid ⟨oM,oM,fun h=>⟨b,_,rfl,Hy.drop g2⟩,D⟩,P⟩
      case measure=>simp [Qoe];omega
     ·go_wp2_with (at_builtin;refine Qac rfl _ _ _ _ rfl I (by rfl) (by rfl) rfl ?_;clear I);go_roundw;case rel=>exact⟨J+g,M - g,c' - g,Uq (Ua b o),hid (oH u),by first|rfl|rw [if_pos oM],by rw [C.out];go_num,hid ⟨oM,oM,fun h=>oM,D⟩,P⟩
      case measure=>simp [Qoe];omega
   ·obtain rfl:M=0:=oM;have Gx:Hid (kS l p J=kS l p l.length):=hid (by have j:=u.out;have k:=Hl.out;rw [k.stop l.length k.2.2 zL];congr 1;omega);have L:Hid ((kS l p J).length<=1000/\ uvF 9 (kS l p J).length++(kS l p J).flatMap (kB l f p)=TB):=hid ⟨by have:=Qff l p J;have j:=u.out;have k:=Hl.2.2;have:=hbd.len;omega,by rw [Gx.out];exact Gj⟩;obtain⟨cn,He⟩:=zE ((kS l p J).length);obtain⟨zs,Hf⟩:=zE ((kS l p J).flatMap (kB l f p));rw [He,Hf] at L;rw [Hf] at Hh;have Gn:=L.1;simp only [He];clear He Hf Hu Gx u;go_wp2_with fail;refine(QaT cn _ oM).mono ?_;rintro e w1 ⟨v1,rfl,o1,b1,z1⟩;obtain⟨v2,w2,N,o2,b2⟩:=Hh.front b1 o1 (by have j:=L.2;have k:TB.length<=90000000:=hl;rw [<- j,Vg] at k;omega);rw [L.2] at o2;have HO:=hid o2;have HB:=hid b2;clear o2 b2 b1 o1 z1 Hh;go_wp2_with (at_builtin;refine Qac rfl _ _ _ _ rfl N (by rfl) (by rfl) rfl ?_;clear N);go_ret;exact⟨v2,rfl,HO,HB⟩
theorem QnK(l:List Lf)(hlv:QbU R F T n l l.length)(hbd:LvB l):∀(f:Nat) (p:List ByteArray),p.length+f=8 ->1<=f ->∀(i m c:Nat) (a:Option Us) (w:Ur),m<=c ->c<=9223372036854775807 ->Iv l p i (i+m) ->(0<m ->∃b off,a=Uq (Ua b off)/\ LAt w b off l i m) ->(tB l f p).length<=90000000 ->
  Cl 98 #[Uf a m c,Ud (p.length:Int)] w fun e w'=>∃v,e=Ui v/\ Own w' w.heap.size v (tB l f p)/\ Bl w w':=by
 intro f;induction f with
 | zero=>intro p _ j;omega
 | succ f IH=>exact fun p hpf _ i m c a w j h2 h3 h4 h5=>QiE l hlv hbd f p hpf (fun s hf=>IH (p++[s]) (by rw [Vg];simp;omega) hf) i m c a w j h2 h3 h4 h5
theorem QfY{o:Oper}{a:Act}{K:Act ->Ur ->Prop}{Q:Exit ->Act ->Ur ->Prop}(s x:Operand)
  (ho:o.op=.call {callee:=.builtin .append,args:=#[s,x],argTypes:=#[30,30]})
  (B B':Nat) (b v:Value) (zs ys:List Int) (hs:a.eval s=b) (hown:Own w B b zs) (hx:a.eval x=v) (hv:Own w B' v ys) (hvn:v.ownBlock≠Up) (hbn:b.ownBlock≠Up) (hl:zs.length+ys.length<=1000000000) (hB:B<=w.heap.size)
  (h:∀v' w',Own w' B v' (zs++ys) ->Gr w w' b v' ->v'.ownBlock≠Up ->K (a.put o.dst v') w'):o.wp prog a w K Q:=by
 obtain⟨i,hi,y,z,t⟩:=info_parts Tryz.infoByte;have q:=hv;obtain⟨U,u⟩:=hv;rcases u with ⟨rfl,_⟩|⟨g,cap,p,rfl,A,E,O,M,r⟩
 ·exact absurd rfl hvn
 refine Qcm s x 30 ho B 5 i (Ug .u8 0) 1 1 underlying30 hi y z t rfl oD b zs.length _ hs hown (Ub g) ys.length cap (ys.map (Value.int .u8)) hx oP (World.ownsRow.cells q rfl) (ints_oneCell .u8 _) oL oM hB ?_;intro v' w' k m j;refine h v' w' ?_ (Gr.app m j) ?_
 ·unfold Own;rw [Vg,List.map_append];exact k
 ·rcases j with j|j
  ·rw [j];exact hbn
  ·rw [j];simp
theorem Qbw{ops:Array Oper}{rest:List Oper}{o:Oper}{a:Act}{Q:Exit ->Act ->Ur ->Prop}(hgd:o.guard=Up)(s x:Operand)
  (ho:o.op=.call {callee:=.builtin .append,args:=#[s,x],argTypes:=#[30,30]})
  (B B':Nat) (b v:Value) (zs ys:List Int) (hs:a.eval s=b) (hown:Own w B b zs) (hx:a.eval x=v) (hv:Own w B' v ys) (hvn:v.ownBlock≠Up) (hbn:b.ownBlock≠Up) (hl:zs.length+ys.length<=1000000000) (hB:B<=w.heap.size)
  (h:∀v' w',Own w' B v' (zs++ys) ->Gr w w' b v' ->v'.ownBlock≠Up ->wpList prog ops Q rest (a.put o.dst v') w'):wpList prog ops Q (o::rest) a w:=
 wpList_plain hgd fun _ hK=>QfY s x ho B B' b v zs ys hs hown hx hv hvn hbn hl hB fun v' w' h2 h3 h4=>hK _ _ (h v' w' h2 h3 h4)
theorem Own.some(h:Own w B v zs)(hz:0<zs.length):v.ownBlock≠Up:=by
 obtain⟨m,j⟩:=h;rcases j with ⟨_,j⟩|⟨g,cap,k,rfl,_⟩
 ·omega
 ·simp [Value.ownBlock]
def QdW (L:Int ->List (Int×Int))(k:Nat):List Int:=(KS L k).flatMap (Qod L)
theorem QgC (L:Int ->List (Int×Int))(ks:List Int):∀k,k<=ks.length ->Qgc L ks k=(ks.take k).flatMap (Qod L)
 | 0,_=>by simp [Qgc]
 | k+1,h=>by
  have e:ks.take (k+1)=ks.take k++[ks.getD k 0]:=by
   rw [List.take_add_one];simp [UR,show k<ks.length by omega]
  rw [e,Vw,<- QgC L ks k oM];simp [Qgc]
theorem QfJ (L:Int ->List (Int×Int)):QeJ L=uvF 9 (KS L 8).length++QdW L 8:=by
 unfold QeJ QdW;rw [QgC L _ _ zL,List.take_length]
theorem Qmi(h:L (k:Int)≠[]):KS L (k+1)=KS L k++[(k:Int)]:=by
 have:(L (k:Int)).isEmpty=false:=by cases e:L (k:Int) with|nil=>exact absurd e h|cons _ _=>rfl
 simp [KS,this]
theorem Qov(h:L (k:Int)=[]):KS L (k+1)=KS L k:=by simp [KS,h]
theorem Qgm(h:L (k:Int)≠[]):QdW L (k+1)=QdW L k++(uvF 9 k++(uvF 9 (L (k:Int)).length++spK (L (k:Int)) (L (k:Int)).length)):=by
 unfold QdW;rw [Qmi h,Vw];simp [Qod,QkT]
theorem QhI(h:L (k:Int)=[]):QdW L (k+1)=QdW L k:=by
 unfold QdW;rw [Qov h]
theorem QcP {L:Int ->List (Int×Int)}(hL:∀r,(L r).length<=1000):∀k,(QdW L k).length<=30000*k
 | 0=>by simp [QdW,KS]
 | k+1=>by
  have:=QcP hL k;by_cases h:L (k:Int)=[]
  ·rw [QhI h];omega
  ·have j:=(Qah 9 k).1;have m:=(Qah 9 (L (k:Int)).length).1;have q:=QeC (L (k:Int)) (L (k:Int)).length;have u:=hL (k:Int);rw [Qgm h];simp only [Vg];omega
def QjY (l:List (Int×Int))(j:Nat):Int:=loK l j - 2
theorem QpJ{r:Int}{l:List (Int×Int)}(h:w.ownsRow B 123 3 (Uf (Uc g) n cap) n (QaB r l))(hl:l.length=n):
  ∀i,i<n ->w.cell? (Ua g (i*3+1))=Uq (Ud (sF l i))/\ w.cell? (Ua g (i*3+2))=Uq (Ud (sT l i)):=by
 intro i hi;have j:∀(l:List (Int×Int)) (i:Nat),i<l.length ->(QaB r l)[i*3+1]? =Uq (Ud (l.getD i (0,0)).1)/\ (QaB r l)[i*3+2]? =Uq (Ud (l.getD i (0,0)).2):=by
  intro l;induction l with
  | nil=>intro i hi;simp at hi
  | cons a l ih=>
   intro i hi;cases i with
   | zero=>simp [QaB]
   | succ i=>
    have:=ih i (oU hi);have e:QaB r (a::l)=Ud r::Ud a.1::Ud a.2::QaB r l:=(by simp [QaB]);rw [e,show (i+1)*3+1=i*3+1+1+1+1 from by omega,show (i+1)*3+2=i*3+2+1+1+1 from by omega];simpa using this
 rw [h.cellAt _ oM,h.cellAt _ oM];exact j l i oM
theorem Qoi (a:Option Us)(n c:Nat)(R F T:Nat ->Int)(w:Ur)(hn:n<=1048576)(h:QaD w a n R F T)(hok:QdC R F T n=true):
  Cl 97 #[Uo #[Uf a n c]] w fun e w'=>∃v,e=Ui (Ul #[v,Un true])/\ Own w' w.heap.size v (QeJ (Lk R F T n))/\ Bl w w':=by
 have Hn:=Qax.1 hok;have Kn:=Hn.2;have B0:Bl w (w.alloc (Uj #[Uf a n c] 38)):=zO _ _;obtain⟨L,G⟩:=zE (Lk R F T n);have Hg:Hid (∀r,(L r).length<=1000):=fun r=>G▸Nat.le_trans (Qbz R F T n r) Kn;have H3:Hid (∀r,Srt (L r)):=fun r=>G▸(QbT n Hn.1 r).1;have Ke:Hid (∀(rep:Int) (w:Ur),QaD w a n R F T ->Cl 122 #[Uo #[Uf a n c],Ud rep] w fun e w'=>∃v,e=Ui v/\ w'.ownsRow w.heap.size 123 3 v (L rep).length (QaB rep (L rep))/\ Bl w w'):=fun rep w h=>G▸QpP a n c R F T rep w hn h;rw [G];clear Hn G;go_enter func97,ntmps97;go_wp2_with fail;refine(QmN a n c R F T _ hn (h.bw B0)).mono ?_;rintro e w1 ⟨rfl,b1⟩;rw [hok];have H8:w1.cell? (Ub w.heap.size)=Uq (Uf a n c):=by rw [(QbZ b1).1 _ _ oP];simp
 have z1:w.heap.size+1<=w1.heap.size:=by have:=b1.size;simp at this;omega
 have G8:=hid (Qaa B0 b1);have HW:=hid h;clear b1 B0 hok h;go_wp2_with fail;go_loopw [4,5,6] (fun cv b' i wr=>∃(k:Nat) (u:List Int),k<=8/\ i=Ud k/\ cv=Ud ((KS L k).length:Nat)/\ Hid (Own wr (w.heap.size+1) b' u)/\ Hid (u=QdW L k)/\ Hid (Bl w wr)/\ Hid (b'.ownBlock≠Up)/\ wr.cell? (Ub w.heap.size)=Uq (Uf a n c)/\ w.heap.size+1<=wr.heap.size) (fun _ _ i _=>8 - (intOf i).toNat);case atStart=>
  refine⟨0,[],oM,rfl,rfl,?_,hid rfl,hid (G8.alloc oM _),hid (by simp [Value.ownBlock]),?_,oS⟩
  ·have:=VD (base:=w.heap.size+1) (e:=5) (size:=1) w1 #[] 0 oM oL rfl;exact hid (by simpa [Own] using this)
  ·rw [Below.cell (B:=w1.heap.size) (zO _ _) (show w.heap.size<w1.heap.size by omega)];exact H8
 case round=>
  obtain⟨k,u,q,rfl,rfl,M,O,He,Ha,Kj,Kz⟩:=hrel;by_cases Gd:k<8
  ·have Kl:=Qgf L k;have Ht:=HW.bw He;have Gu:=hid Ht;clear Ht;go_wp2_with fail;refine(Ke (k:Int) wr Gu).mono ?_;rintro e w2 ⟨v2,rfl,t,H⟩;obtain⟨l,y⟩:=zE (L (k:Int));have Kx:l.length<=1000:=y▸Hg.out _;have G7:Hid (∀j,j<l.length ->1<=loK l j/\ loK l j<=sF l j/\ sF l j<=sT l j/\ sT l j<=1000000000):=fun j hj=>QmP (y▸H3.out _) hj;have s:Hid (Own w2 (w.heap.size+1) u5 u):=M.kept H (fun k q=>(World.ownsRow.lt M k q).2);have Hy:Hid (Bl w w2):=He.trans (H.mono oM);have Hh:w2.cell? (Ub w.heap.size)=Uq (Uf a n c):=(by rw [Below.cell H (show w.heap.size<wr.heap.size by omega)];exact Kj);have z2:=H.size;have Kr:u.length<=30000*k:=(by rw [O.out];exact QcP Hg k);have Kh:Hid (∀g,u5.ownBlock=Uq g ->g<wr.heap.size):=fun g hg=>(World.ownsRow.lt M g hg).2;rw [y] at t;clear H M He Gu;by_cases N:l=[]
   ·subst N;have Hu:=hid (Qov y);have D:=hid (QhI y);clear y;rcases t.2 with ⟨rfl,_⟩|⟨g,cap,Ki,rfl,_⟩
    ·clear t;go_wp2_with fail;go_roundw;case rel=>exact⟨k+1,u,Gd,oN,by rw [Hu.out],s,hid (by rw [D.out,O.out]),Hy,Ha,Hh,oM⟩
     case measure=>exact oE
    ·clear t;go_wp2_with fail;go_roundw;case rel=>exact⟨k+1,u,Gd,oN,by rw [Hu.out],s,hid (by rw [D.out,O.out]),Hy,Ha,Hh,oM⟩
     case measure=>exact oE
   ·have Kw:0<l.length:=List.length_pos_iff.2 N;have Hu:=hid (Qmi (L:=L) (k:=k) (by rw [y];exact N));have H7:=Qgm (L:=L) (k:=k) (by rw [y];exact N);rw [y] at H7;have D:=hid H7;rcases t.2 with ⟨_,e0⟩|⟨g,cap,Ki,rfl,Ku,_,Ky,Kk,_,_⟩
    ·omega
    have HC:=hid (QpJ t rfl);have Kv:g<w2.heap.size:=(t.lt g rfl).2;unfold maxLen at Kk;have Gb:Uq g≠u5.ownBlock:=fun e=>oH (Kh g e.symm);have Kp:Uq w.heap.size≠u5.ownBlock:=fun e=>by have:=(World.ownsRow.lt s _ e.symm).1;omega
    have l3:=Qah 9 k;have l4:=Qah 9 l.length;have Kt:((l.length:Int)==0)=false:=oS;clear t y H7 N;go_wp2_with fail;refine(QaT k w2 oM).mono ?_;rintro e w3 ⟨v3,rfl,z,b,Kq⟩;have U:=hid (s.kept b (fun k q=>(World.ownsRow.lt s k q).2));have Y:=hid z;have Hv:=hid (z.some oM);have Gh:Hid (Gr w2 w3 u5 u5):=Gr.of_below b;clear z b;go_wp2_with (at_builtin;refine Qbw rfl _ _ rfl (w.heap.size+1) w2.heap.size u5 v3 u (uvF 9 k) rfl U rfl Y Hv Ha ?c1 ?c2 ?_);case c1=>omega
    case c2=>omega
    intro v4 w4 X A Hx;have P:=hid (Gh.trans A);have V:=hid X;have Gl:=hid Hx;have z4:=A.g.size;clear X A Hx U Y Hv Gh;go_wp2_with fail;refine(QaT l.length w4 oM).mono ?_;rintro e w5 ⟨v5,rfl,Ge,H5,K0⟩;have Gq:=hid (V.kept H5 (fun k q=>(World.ownsRow.lt V k q).2));have Gv:=hid Ge;have Gm:=hid (Ge.some oM);have Gi:Hid (Gr w4 w5 v4 v4):=Gr.of_below H5;clear Ge H5;go_wp2_with (at_builtin;refine Qbw rfl _ _ rfl (w.heap.size+1) w4.heap.size v4 v5 (u++uvF 9 k) (uvF 9 l.length) rfl Gq rfl Gv Gm Gl ?d1 ?d2 ?_);case d1=>simp;omega
    case d2=>omega
    intro v6 w6 G5 H9 G3;have Ka:=hid (P.trans (Gi.trans H9));have Kd:=hid G5;have Kc:=hid G3;have z6:=H9.g.size;clear G5 H9 G3 Gq Gv Gm Gi V P Gl;go_wp2_with fail;go_loopw [5,8,9] (fun b' la i wr'=>∃(j:Nat) (p:List Int),j<=l.length/\ i=Ud j/\ la=Ud (QjY l j)/\ Hid (Own wr' (w.heap.size+1) b' p)/\ Hid (p=u++uvF 9 k++uvF 9 l.length++spK l j)/\ Hid (Gr w2 wr' u5 b')/\ Hid (b'.ownBlock≠Up)/\ w2.heap.size<=wr'.heap.size) (fun _ _ i _=>l.length - (intOf i).toNat);case atStart=>exact⟨0,_,Uv _,rfl,rfl,Kd,hid (by simp [spK]),Ka,Kc,oM⟩
    case round=>
     obtain⟨j,p,hj,rfl,rfl,Hb,Ho,E,Hc,Ko⟩:=hrel;have Ks:p.length<=240000+20+20*j:=by
      rw [Ho.out];have:=QeC l j;simp only [Vg];omega
     by_cases Hw:j<l.length
     ·obtain⟨q1,q2,q3,q4⟩:=G7 j Hw;have G1:=E.g.cell (HC j Hw).1 Gb;have G2:=E.g.cell (HC j Hw).2 Gb;have Km:QjY l j=loK l j - 2:=rfl;obtain⟨C,Gz⟩:∃C:Int,sF l j - QjY l j=C:=⟨_,rfl⟩;obtain⟨o,Gy⟩:∃m:Nat,sF l j - loK l j=(m:Int):=⟨(sF l j - loK l j).toNat,oM⟩;obtain⟨Q,H4⟩:∃m:Nat,sT l j - sF l j=(m:Int):=⟨(sT l j - sF l j).toNat,oM⟩;have x1:IntKind.i64.wrap (sF l j - QjY l j)=C:=(by rw [Gz];exact Qa3 _ oM oM);have x2:IntKind.i64.wrap (C - 2)=(o:Int):=(by rw [show C - 2=(o:Int) by omega];exact Qa3 _ oM oM);have x3:IntKind.i64.wrap (sT l j - sF l j)=(Q:Int):=(by rw [H4];exact Qa3 _ oM oM);have Kg:Hid (spK l (j+1)=spK l j++(uvF 9 o++uvF 9 Q)):=(by show spK l j++_=_;rw [Gy,H4];rfl);have Kb:Hid (sT l j=QjY l (j+1)):=(by show sT l j=loK l (j+1) - 2;show sT l j=sT l j+2 - 2;omega);have y1:o<=1000000000:=oM;have y2:Q<=1000000000:=oM;have y3:=Qah 9 o;have y4:=Qah 9 Q;have Hm:Uq g≠u5.ownBlock:=fun e=>by
       rcases E.l with h|⟨i,h,hi⟩
       ·exact Gb (e.trans h)
       ·rw [h] at e;injection e with e;omega
      clear Gy H4 Gz Km;go_wp2_with fail;refine(QaT o wr oM).mono ?_;rintro e w7 ⟨v7,rfl,Gf,H6,K1⟩;have Gs:=hid (Hb.kept H6 (fun k q=>(World.ownsRow.lt Hb k q).2));have Gw:=hid Gf;have Gn:=hid (Gf.some oM);have Gj:Hid (Gr wr w7 u5 u5):=Gr.of_below H6;clear Gf H6;go_wp2_with (at_builtin;refine Qbw rfl _ _ rfl (w.heap.size+1) wr.heap.size u5 v7 p (uvF 9 o) rfl Gs rfl Gw Gn Hc ?f1 ?f2 ?_);case f1=>omega
      case f2=>omega
      intro v8 w8 G6 Ga G4;have J:=Gj.trans Ga;have Hi:=J.g.cell G1 Hm;have Hk:=J.g.cell G2 Hm;have Hf:Uq g≠v8.ownBlock:=fun e=>by
       rcases J.l with h|⟨i,h,hi⟩
       ·exact Hm (e.trans h)
       ·rw [h] at e;injection e with e;omega
      have Gk:=hid (E.trans J);have H2:=hid G6;have Go:=hid G4;have z8:=Ga.g.size;clear G6 Ga G4 Gs Gw Gn Gj J G1 G2 x1 x2;go_wp2_with fail;refine zR (S:=fun w'=>w'.cell? (Ua g (j*3+1))=Uq (Ud (sF l j))/\ w'.cell? (Ua g (j*3+2))=Uq (Ud (sT l j))) ⟨Hi,Hk⟩ (fun qh=> ?_);refine tZ 0 53 ?_;refine tZ 1 54 ?_;refine tZ 2 55 ?_;refine tZ 3 56 ?_;refine tZ 4 57 ?_;refine tZ 5 58 ?_;refine tZ 6 59 ?_;refine tZ 7 60 ?_;refine tZ 8 61 ?_;refine tZ 9 62 ?_;refine tZ 10 63 ?_;refine tZ 11 64 ?_;refine cZ 12 ?_;intro K Z;go_simp;refine(QaT Q _ oM).mono ?_;rintro e w9 ⟨v9,rfl,Gg,G0,K2⟩;have Hd:Bl w8 w9:=(Below.refl _ w8).drew.trans G0;have Gt:=hid (H2.kept Hd (fun k q=>(World.ownsRow.lt H2 k q).2));have Gx:=hid Gg;have Gp:=hid (Gg.some oM);have W:Hid (Gr w8 w9 v8 v8):=Gr.of_below Hd;have Hj:=W.g.cell Hi Hf;have Hl:=W.g.cell Hk Hf;have z9:=Hd.size;clear Gg G0 Hd;refine Z.out _ _ ⟨Hj,Hl⟩ (fun qh=> ?_);clear Z K;try simp only [zP]
      refine cZ 13 ?_;intro K Z;rw [if_pos (by rfl)];refine QfY _ _ (by rfl) (w.heap.size+1) w8.heap.size v8 v9 (p++uvF 9 o) (uvF 9 Q) (by rfl) Gt (by rfl) Gx Gp Go oS oM ?_;intro K3 K4 Hs I Hr;have Hp:=I.g.cell Hj Hf;have Hq:=I.g.cell Hl Hf;have Hz:=hid (Gk.trans (W.trans I));have H1:=hid Hs;have H0:=hid Hr;have K5:=I.g.size;clear Hs I Hr;refine Z.out _ _ ⟨Hp,Hq⟩ (fun qh=> ?_);clear Z K;try simp only [zP]
      refine tZ 14 5 ?_;refine zD ?_;clear qh Hi Hk Hj Hl Gt Gx Gp W H2 Go Gk;go_wp2_with fail;go_roundw;case rel=>exact⟨j+1,_,Hw,oN,by rw [Kb.out],H1,hid (by rw [Kg.out,Ho.out];simp),Hz,H0,oM⟩
      case measure=>exact oE
     ·obtain rfl:j=l.length:=oM;go_wp2_with fail;go_roundw;case rel=>
       refine⟨k+1,p,Gd,oN,?_,Hb,hid ?_,hid ?_,Hc,E.g.cell Hh Kp,oM⟩
       ·rw [Hu.out];simp
       ·rw [D.out,Ho.out,O.out];simp
       ·exact Hy.trans (E.bw oM (fun g hg=>oH ((World.ownsRow.lt s g hg).1)))
      case measure=>exact oE
  ·obtain rfl:k=8:=oM;have Kr:u.length<=30000*8:=(by rw [O.out];exact QcP Hg 8);have Kl:=Qgf L 8;have l3:=Qah 9 (KS L 8).length;have Kf:=hid (QfJ L);go_wp2_with fail;refine(QaT (KS L 8).length wr oM).mono ?_;rintro e w3 ⟨v3,rfl,z,b,Kq⟩;have U:=hid (M.kept b (fun k q=>(World.ownsRow.lt M k q).2));have Y:=hid z;have Hv:=hid (z.some oM);have G9:=hid (He.trans (b.mono oM));have Gc:Hid (∀g,v3.ownBlock=Uq g ->wr.heap.size<=g):=fun g hg=>(World.ownsRow.lt z g hg).1;clear z b;go_wp2_with (at_builtin;refine Qbw rfl _ _ rfl wr.heap.size (w.heap.size+1) v3 u5 (uvF 9 (KS L 8).length) u rfl Y rfl U Ha Hv ?g1 ?g2 ?_);case g1=>omega
   case g2=>omega
   intro v4 w4 X A Hx;have P:=hid A;have V:=hid X;clear X A Hx U Y;go_wp2_with fail;go_ret2;refine⟨v4,rfl,?_,G9.trans (P.bw oM (fun g hg=>oH (Gc g hg)))⟩;rw [Kf.out,<- O.out];exact V.weak oM
def QqD (R F T:Nat ->Int)(n:Nat):List Int:=if QdC R F T n then QeJ (Lk R F T n) else []
theorem QlF (R F T:Nat ->Int)(n:Nat):(QqD R F T n).length<=1000000:=by
 unfold QqD;split
 ·rename_i h;have j:=Qax.1 h;rw [QfJ];have k:=(Qah 9 (KS (Lk R F T n) 8).length).1;have m:=QcP (L:=Lk R F T n) (fun r=>Nat.le_trans (Qbz R F T n r) j.2) 8;simp only [Vg];omega
 ·simp
theorem QqQ (a a':Option Us)(n c c':Nat)(f:Nat ->Int)(w:Ur)(hn:n<=1000000000)(h:Seg w a n f)(m:Seg w a' n f):
  Cl 34 #[Uf a n c,Uf a' n c'] w (Rt w (Un true)):=by
 rcases h with h|⟨b,off,rfl,u,y⟩
 ·subst h;go_enter func34,ntmps34;go_wp2;refine wp_loop_rounds 1 ?_;rw [rounds_succ];go_wp2;go_ret;exact⟨rfl,zI⟩
 ·rcases m with m|⟨b',r,rfl,v,z⟩
  ·subst m;go_enter func34,ntmps34;go_wp2;refine wp_loop_rounds 1 ?_;rw [rounds_succ];go_wp2;go_ret;exact⟨rfl,zI⟩
  ·go_enter func34,ntmps34;go_wp2;go_loopw [5] (fun i wr=>∃k:Nat,k<=n/\ i=Ud k/\ Bl w wr) (fun i _=>n - (intOf i).toNat);case atStart=>exact⟨0,Uv _,rfl,zI⟩
   case round=>
    obtain⟨k,o,rfl,j⟩:=hrel;by_cases q:k<n
    ·have g:wr.cell? (Ua b (off+k))=Uq (Ug .u8 (f k)):=(j.cell (p:=(Ua b (off+k))) u).trans (y k q);have t:wr.cell? (Ua b' (r+k))=Uq (Ug .u8 (f k)):=(j.cell (p:=(Ua b' (r+k))) v).trans (z k q);go_wp2;go_region;all_goals (try go_wp2)
     go_roundw;case rel=>exact⟨k+1,q,oN,j.drew⟩
     case measure=>exact oE
    ·obtain rfl:k=n:=oM;go_wp2;go_ret;exact⟨rfl,j⟩
theorem Own.any(h:Own w B v zs):∃a cap,v=Uf a zs.length cap/\ Seg w a zs.length (fun i=>zs.getD i 0):=by
 by_cases j:zs=[]
 ·subst j;obtain⟨_,k⟩:=h;rcases k with ⟨rfl,_⟩|⟨g,cap,m,rfl,_⟩
  ·exact⟨Up,0,rfl,.inl rfl⟩
  ·exact⟨_,cap,rfl,.inl rfl⟩
 ·obtain⟨g,cap,rfl,_,_,_,_,_,s⟩:=h.shape j;exact⟨_,cap,rfl,s⟩
theorem QmE (a:Option Us)(cap k0:Nat)(w:Ur):
  Cl 36 #[Uf a 0 cap,Ud (k0:Int)] w fun e w'=>e=Ui (Ud (k0:Int))/\ w'=w:=by
 go_enter func36,ntmps36;go_wp2;refine wp_loop_rounds 1 ?_;rw [rounds_succ];go_wp2;go_ret;exact⟨rfl,rfl⟩
theorem Own.gr {w':Ur}(h:Own w B v zs)(hg:w.grownBy w' row)(hne:∀g,v.ownBlock=Option.some g ->Option.some g≠row):Own w' B v zs:=
 World.ownsRow.kept h hg (by
  cases e:v.ownBlock with
  | none=>exact .inl rfl
  | some g=>exact .inr (hne g e))
theorem QjC (R F T:Nat ->Int)(r f t:Int):∀n,QbD R F T r f t n=true ->∃k,k<n/\ R k=r/\ F k<=f/\ t<=T k
 | 0,h=>by simp [QbD] at h
 | n+1,h=>by
  simp only [QbD,Bool.or_eq_true,decide_eq_true_eq] at h;rcases h with h|h
  ·obtain⟨k,j,r⟩:=QjC R F T r f t n h;exact⟨k,oM,r⟩
  ·exact⟨n,oM,h⟩
theorem Qcn.lvB(h:Qcn R F T n l):LvB l:=by
 obtain⟨u,v,j,y⟩:=h;have g:=(Qax.1 u).1;have m:∀i,i<l.length ->(0<=(gL l i).r/\ (gL l i).r<8)/\ (0<=(gL l i).q/\ (gL l i).q<=1000000000):=fun i hi=>by
  obtain⟨k,z,t,o,b⟩:=QjC R F T _ _ _ n (j i hi).2.1;have:=(g k z).1;simp only [Qbe,Bool.and_eq_true,decide_eq_true_eq] at this;omega
 exact⟨fun i hi=>(m i hi).1,fun i hi=>(m i hi).2,fun i hi=>(j i hi).1.2.1,v,y⟩
noncomputable def psB (R F T:Nat ->Int)(n:Nat)(l:List Lf):List Int:=QeJ (Lk R F T n)++tB l 8 []
noncomputable def psZ (R F T:Nat ->Int)(n:Nat)(l:List Lf):List Int×Int:=
 if yes (Qcn R F T n l)=true then(if (psB R F T n l).length<=4000 then(psB R F T n l,0) else([],2)) else([],1)
theorem Qig(h:¬Qcn R F T n l):psZ R F T n l=([],1):=by unfold psZ;rw [if_neg (by rw [Qaj h];simp)]
theorem QdM(h:Qcn R F T n l)(h2:¬(psB R F T n l).length<=4000):psZ R F T n l=([],2):=by unfold psZ;rw [if_pos (Qal h),if_neg h2]
theorem Qe0(h:Qcn R F T n l)(h2:(psB R F T n l).length<=4000):psZ R F T n l=(psB R F T n l,0):=by unfold psZ;rw [if_pos (Qal h),if_pos h2]
theorem QnZ (R F T:Nat ->Int)(n:Nat)(l:List Lf):(psZ R F T n l).1.length<=4000:=by
 unfold psZ;split
 ·split
  ·assumption
  ·simp
 ·simp
theorem Qcn.put_len(h:Qcn R F T n l):(QeJ (Lk R F T n)).length<=1000000/\ 0<(QeJ (Lk R F T n)).length:=by
 have:=QlF R F T n;unfold QqD at this;rw [if_pos h.1] at this;refine⟨this,?_⟩;rw [QfJ,Vg];have:=(Qah 9 (KS (Lk R F T n) 8).length).2;omega
theorem Qcn.tree_len(h:Qcn R F T n l):(tB l 8 []).length<=2000000:=by
 have j:=QmX h.2.2.1 8 [];have k:=QpZ l [] l.length;have m:=h.2.1;have q:(400+100*8)*uK l [] l.length<=1200*1000:=Nat.mul_le_mul oM oM;omega
theorem Qcn.iv(h:Qcn R F T n l):Iv l [] 0 (0+l.length):=by
 refine⟨fun j hj=> ?_,oM,oM⟩;rw [QfG];have:=(h.2.2.1 j hj).1.1.1;exact⟨fun _=>⟨oM,oM⟩,fun _=>⟨List.nil_prefix,Nat.lt_of_lt_of_le Nat.zero_lt_one this⟩⟩
theorem QbK.lat(h:QbK w a l)(h0:0<l.length):∃b off,a=Uq (Ua b off)/\ LAt w b off l 0 l.length:=by
 rcases h with h|⟨b,off,e,j,k⟩
 ·omega
 ·refine⟨b,off,e,j,fun t ht=> ?_⟩;rw [Nat.zero_add];exact k t ht
theorem QmK (w:Ur)(B:Nat)(hB:B<=w.heap.size):Own (w.alloc (Uj #[] 5)) B (Uf (Uc w.heap.size) 0 0) []:=by
 have:=VD (base:=B) (e:=5) (size:=1) w #[] 0 hB oL rfl;simpa [Own] using this
theorem Ql0 (a:Option Us)(c:Nat)(l:List Lf)(x:Option Us)(n d:Nat)(R F T:Nat ->Int)(w:Ur)(hc:l.length<=c)(hcm:c<=9223372036854775807)(hn:n<=1048576)(h:QbK w a l)(h':QaD w x n R F T)(hok:Qcn R F T n l):
  Cl 64 #[Uo #[Uf a l.length c,Uf x n d]] w fun e w'=>∃v,e=Ui v/\ Own w' w.heap.size v (psB R F T n l)/\ Bl w w':=by
 obtain⟨W,m⟩:=zE (w.alloc (Uj #[Uf a l.length c,Uf x n d] 40));have j:Bl w W:=m▸zO _ _;have q:Bx2 W w.heap.size (Uf a l.length c) (Uf x n d):=m▸Bx2.made _ _ _ _;obtain⟨k0,H⟩:=q.q2;have r:=hid q;have Y:=hid (h.bw j);have p:=hid (Qoi x n d R F T W hn (h'.bw j) hok.1);have z:=hid j;have A:Hid (∀w1,Bl W w1 ->Cl 98 #[Uf a l.length c,Ud 0] w1 fun e w'=>∃v,e=Ui v/\ Own w' w1.heap.size v (tB l 8 [])/\ Bl w1 w'):=hid (fun w1 hb1=>by
  have:=QnK l hok.2.2.1 hok.lvB 8 [] rfl oM 0 l.length c a w1 hc hcm hok.iv (fun h0=>(Y.bw hb1).lat h0) (oH hok.tree_len);exact this)
 have i:=hid (And.intro hok.put_len hok.tree_len);have G:Hid (0<(tB l 8 []).length):=hid (QmY l 7 []);have s:Hid (QeJ (Lk R F T n)++tB l 8 []=psB R F T n l):=hid rfl;obtain⟨Z,Q⟩:=zE (psB R F T n l);rw [Q] at s ⊢;clear Q h h' j q hok;go_enter func64,ntmps64;go_wp2_with fail;try rw [m]
 clear m;refine p.mono ?_;rintro e w1 ⟨v1,rfl,y,k⟩;have M:=r.bw k r.lt;obtain⟨I,J⟩:=M.q2;have g:Hid (Bd w w1 v1 (QeJ (Lk R F T n))):=hid ⟨Qaa z k,Own.weak y z.size,Qkt y i.1.2⟩;have E:=hid (A w1 k);clear k y M p A r k0 H;go_wp2_with fail;refine E.mono ?_;rintro e w2 ⟨v2,rfl,V,O⟩;obtain⟨v3,K,U,u⟩:=g.app O V G (oH i);rw [s.out] at u;have t:=hid u;clear u O V g E I J;go_wp2_with (at_builtin;refine Qac rfl _ _ _ _ rfl U (by rfl) (by rfl) rfl ?_;clear U);go_ret;exact⟨v3,rfl,t.o,t.b⟩
theorem QdA (a:Option Us)(c:Nat)(l:List Lf)(x:Option Us)(n d:Nat)(R F T:Nat ->Int)(w:Ur)(hc:l.length<=c)(hcm:c<=9223372036854775807)(hl:l.length<=1048576)(hp:LBd l)(hn:n<=1048576)(h:QdB w a l)(p:QbK w a l)(h':QaD w x n R F T):
  Cl 42 #[Uo #[Uf a l.length c,Uf x n d]] w fun e w'=>∃v zs k,e=Ui (Ul #[v,Ud k])/\ psZ R F T n l=(zs,k)/\ Own w' w.heap.size v zs/\ Bl w w':=by
 obtain⟨W,z⟩:=zE (w.alloc (Uj #[Uf a l.length c,Uf x n d] 40));have y:Bl w W:=z▸zO _ _;have o:Bx2 W w.heap.size (Uf a l.length c) (Uf x n d):=z▸Bx2.made _ _ _ _;obtain⟨k0,I⟩:=o.q2;have t:=hid o;have J:=hid (p.bw y);have L:=hid (h'.bw y);have u:=hid (QcI a c l x n d R F T W hl hp hn (h.bw y) (h'.bw y));have E:=hid y;clear h p h' y o;by_cases j:Qcn R F T n l
 ·rw [Qal j] at u;have i:=hid (fun w1(hb:Bl W w1)=>Ql0 a c l x n d R F T w1 hc hcm hn (J.bw hb) (L.bw hb) j);have U:=hid (fun h=>Qe0 j h);have O:=hid (fun h=>QdM j h);have M:Hid ((psB R F T n l).length<=1000000000):=hid (by have h1:=j.put_len;have p:=j.tree_len;unfold psB;rw [Vg];omega);obtain⟨Z,s⟩:=zE (psB R F T n l);obtain⟨P,q⟩:=zE (psZ R F T n l);rw [s,q] at U O;rw [s] at i M;rw [q];clear s q j;go_enter func42,ntmps42;go_wp2_with fail;try rw [z]
  clear z;refine u.mono ?_;rintro e w1 ⟨rfl,m⟩;have Y:=t.bw m t.lt;obtain⟨B,C⟩:=Y.q2;have r:=hid (Qaa E m);have V:=hid (i w1 m);clear m Y u t k0 I i;go_wp2_with fail;refine V.mono ?_;rintro e w2 ⟨v2,rfl,A,G⟩;have K:=hid (Own.weak A r.size);have g:=hid (Qaa r G);obtain⟨D,S,rfl,_⟩:=A.any;have Ha:=M.out;clear G A V B C;by_cases H:Z.length<=4000
  ·have b:=hid (U H);have N:decide ((4000:Int)<(Z.length:Int))=false:=oS;have X:decide (4000<Z.length)=false:=oS;go_wp2_with fail;go_ret2;exact⟨_,Z,0,rfl,b,K,g⟩
  ·have b:=hid (O H);have N:decide ((4000:Int)<(Z.length:Int))=true:=oS;have X:decide (4000<Z.length)=true:=oS;go_wp2_with fail;go_ret2;exact⟨_,[],2,rfl,b,QmK _ _ g.size,g.alloc g.size _⟩
 ·rw [Qaj j] at u;have Q:=hid (Qig j);obtain⟨P,q⟩:=zE (psZ R F T n l);rw [q] at Q;rw [q];clear q j;go_enter func42,ntmps42;go_wp2_with fail;try rw [z]
  clear z;refine u.mono ?_;rintro e w1 ⟨rfl,m⟩;have r:=hid (Qaa E m);clear m u t k0 I;go_wp2_with fail;go_ret2;exact⟨_,[],1,rfl,Q,QmK _ _ r.size,r.alloc r.size _⟩
end Go.Proofs.YtedpomikcaemgaaGreatDoor
